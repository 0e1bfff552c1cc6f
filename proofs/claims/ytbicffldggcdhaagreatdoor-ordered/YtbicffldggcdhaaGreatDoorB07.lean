/-
  LTwo; WQ6; WQ7; WQ8; WQ9; LMapV; WQ10; LSrv; WK1; LScr3; LQB; LKeep1; LKeep2.
-/
import Derived.Test.YtbicffldggcdhaaGreatDoorB00
import Derived.Test.YtbicffldggcdhaaGreatDoorB06
import Derived.Test.YtbicffldggcdhaaGreatDoorB04
import Derived.Test.YtbicffldggcdhaaGreatDoorB05
import Derived.Test.YtbicffldggcdhaaGreatDoorB01
namespace Go.Proofs.YtbicffldggcdhaaGreatDoor
open Go

section
variable {P : Program} {ops : Array Oper} {Q : Exit → Act → World → Prop} {S : World → Prop} {R : Option Nat}
def chkT1 (ops : Array Oper) (fuel i j : Nat) (r1 r2 : List (Nat × Bool)) : List Nat → Array Bool → Bool
  | [], listed => Region.ready .any ops listed == [i, j] && chk1 ops [] fuel r1 (listed.setIfInBounds i true) && chk1 ops [] fuel r2 (listed.setIfInBounds j true)
  | q :: r, listed => (Region.ready .any ops listed).contains q && Region.free .any ops listed q && chkT1 ops fuel i j r1 r2 r (listed.setIfInBounds q true)
def chkT (ops : Array Oper) (ord : List Nat) (i j : Nat) (r1 r2 : List (Nat × Bool)) : Bool :=
  Region.noSelect ops && ord.length + 1 + r1.length == ops.size && r1.length == r2.length && chkT1 ops ops.size i j r1 r2 ord (Array.replicate ops.size false)

theorem wpE_two {fuel i j : Nat} {r1 r2 : List (Nat × Bool)} (hsel : Region.noSelect ops = true) (hl : r1.length = r2.length) : ∀ (l : List Nat) (listed : Array Bool) (a : Act) (w : World), Shut ops listed → S w → chkT1 ops fuel i j r1 r2 l listed = true →
    wpX P ops S (fun e a w => e = .normal ∧ wpX P ops S Q [] ((i, true) :: r1) a w ∧ wpX P ops S Q [] ((j, true) :: r2) a w) [] (l.map fun q => (q, false)) a w → wpE P ops Q S (fun i => !([] : List Nat).contains i) (l.length + (r1.length + 1)) listed a w
  | [], listed, a, w, hsh, hS, hc, h => by
    simp only [chkT1, Bool.and_eq_true, beq_iff_eq] at hc
    obtain ⟨⟨hr, h1⟩, h2⟩ := hc
    obtain ⟨_, k1, k2⟩ := h
    simp only [List.length_nil, Nat.zero_add]
    refine ⟨fun h0 => (by rw [hr] at h0; cases h0), fun q hq => ?_⟩
    have hq' := hq
    rw [hr] at hq
    simp only [List.mem_cons, List.not_mem_nil, or_false] at hq
    rcases hq with rfl | rfl
    · refine wpo_mono (fun a' w' h' => ⟨fun _ => h'.1, ?_⟩) k1
      have := wpE_ord (P := P) (Q := Q) (late := []) hsel r1 _ a' w' (hsh.step hq') h'.1 h1 h'.2
      simpa using this
    · refine wpo_mono (fun a' w' h' => ⟨fun _ => h'.1, ?_⟩) k2
      have := wpE_ord (P := P) (Q := Q) (late := []) hsel r2 _ a' w' (hsh.step hq') h'.1 h2 h'.2
      rw [hl]
      simpa using this
  | q :: l, listed, a, w, hsh, hS, hc, h => by
    simp only [chkT1, Bool.and_eq_true] at hc
    obtain ⟨⟨hr, hf⟩, hc'⟩ := hc
    obtain ⟨o, v, ho, hy, hk⟩ := h
    have hr' : q ∈ Region.ready .any ops listed := by simpa using hr
    rw [List.length_cons, show l.length + 1 + (r1.length + 1) = (l.length + (r1.length + 1)) + 1 by omega]
    exact wpE_first ho (Region.noSelect_spec hsel) (fun j hj => (by simp at hj)) _ listed a w hsh (Region.free_spec ho hf) hr' hy hS (wpE_two hsel hl l _ _ w (hsh.step hr') hS hc' hk)

theorem w_two {id : Nat} {l : List Oper} {a : Act} {w : World} (ord : List Nat) (i j : Nat) (r1 r2 : List (Nat × Bool)) (S : World → Prop) (hm : P.follows .mixedOrders = true) (hc : chkT l.toArray ord i j r1 r2 = true)
    (hS : S w.drew) (h : WpX P l.toArray S (fun e a w => e = .normal ∧ WpX P l.toArray S Q [] ((i, true) :: r1) a w ∧ WpX P l.toArray S Q [] ((j, true) :: r2) a w) [] (ord.map fun q => (q, false)) a w.drew) : (Code.region id l.toArray true).wpIn (fen R) 0 P Q a w := by
  simp only [chkT, Bool.and_eq_true, beq_iff_eq] at hc
  obtain ⟨⟨⟨hs, hz⟩, hl⟩, hc⟩ := hc
  refine wpIn_region_any hm (wpAny_of_wpE (S := S) (early := fun i => !([] : List Nat).contains i) _ _ _ _ ?_)
  rw [← hz, show ord.length + 1 + r1.length = ord.length + (r1.length + 1) by omega]
  refine wpE_two (i := i) (j := j) (r2 := r2) hs hl ord _ a _ (fun j o ho hl => ?_) hS (by rw [show ord.length + (r1.length + 1) = l.toArray.size by omega]; exact hc) ?_
  · simp only [Array.getD_eq_getD_getElem?, Array.getElem?_replicate] at hl
    split at hl <;> simp at hl
  · have hx := h.out
    have mono : ∀ (o : List (Nat × Bool)) (a : Act) (w : World), wpX P l.toArray S (fun e a w => e = .normal ∧ WpX P l.toArray S Q [] ((i, true) :: r1) a w ∧ WpX P l.toArray S Q [] ((j, true) :: r2) a w) [] o a w → wpX P l.toArray S (fun e a w => e = .normal ∧ wpX P l.toArray S Q [] ((i, true) :: r1) a w ∧ wpX P l.toArray S Q [] ((j, true) :: r2) a w) [] o a w := by
      intro o
      induction o with
      | nil => intro a w h; exact ⟨h.1, h.2.1.out, h.2.2.out⟩
      | cons q o ih =>
        intro a w h
        obtain ⟨q, fl⟩ := q
        cases fl with
        | false =>
          obtain ⟨o', v, h1, h2, h3⟩ := h
          exact ⟨o', v, h1, h2, ih _ _ h3⟩
        | true => exact wpo_mono (fun a' w' h' => ⟨h'.1, ih _ _ h'.2⟩) h
    exact mono _ _ _ hx
end
end Go.Proofs.YtbicffldggcdhaaGreatDoor

namespace Go.Proofs.YtbicffldggcdhaaGreatDoor
open Go
theorem runG07 {G K : Prop} (k : K) (h : Wrap K → G := by intro h; (repeat (first | (with_reducible first | refine wpIn_seq ?_ | refine w_reg ?_ | refine s_nil ?_ | refine s_nilQ ?_ | refine wpIn_block ?_ | refine q_then ?_ | refine q_blk ?_ | refine q_then_ret ?_ | refine q_blk_ret ?_ | refine q_then_exit ?_ | refine q_blk_exit ?_ | refine wpIn_skip ?_ | refine wpIn_ret ?_ | refine wpIn_exit ?_ | refine y_nil ?_ | refine y_nilQ ?_ | refine x_late ?_) | ((with_reducible refine q_blk_other ?_ ?_); exact rfl) | ((with_reducible apply c_true); exact rfl; (with_reducible exact rfl)) | ((with_reducible apply c_false); exact rfl; (with_reducible exact rfl)) | ((with_reducible apply s_no); (first | ((with_reducible apply wnt_nt); exact rfl; exact rfl; exact rfl; exact rfl; (with_reducible exact rfl)) | ((with_reducible apply wnt_nf); exact rfl; exact rfl; exact rfl; exact rfl; (with_reducible exact rfl)))) | ((with_reducible apply x_qno); exact rfl; (first | ((with_reducible apply wnt_nt); exact rfl; exact rfl; exact rfl; exact rfl; (with_reducible exact rfl)) | ((with_reducible apply wnt_nf); exact rfl; exact rfl; exact rfl; exact rfl; (with_reducible exact rfl)))) | ((first | with_reducible apply s_val | ((with_reducible apply y_val); exact rfl) | ((with_reducible apply x_q); exact rfl; intro wq hq)); (first | ((with_reducible apply r_boxA); exact rfl) | ((with_reducible apply r_box1); exact rfl; exact rfl) | ((with_reducible apply r_assign_if); exact rfl) | ((with_reducible apply r_assign_ni); exact rfl) | ((with_reducible apply r_loadA); exact u_ok rfl; exact rfl; exact s_ok rfl; exact rfl; (first | exact Frm.at0 hq (by assumption) | exact Frm.at hq (by assumption) (by assumption) | (first | (with_reducible assumption) | assumption | exact at_alloc_new _ _ | (repeat (first | assumption | exact at_alloc_new _ _ | refine at_drew ?_ | refine at_alloc _ ?_)))); exact Nat.le_of_ble_eq_true rfl) | ((with_reducible apply r_assign_b); exact rfl) | ((with_reducible apply r_load); exact u_ok rfl; exact rfl; exact rfl; (first | exact Frm.at0 hq (by assumption) | exact Frm.at hq (by assumption) (by assumption) | (first | (with_reducible assumption) | assumption | exact at_alloc_new _ _ | (repeat (first | assumption | exact at_alloc_new _ _ | refine at_drew ?_ | refine at_alloc _ ?_)))); (first | exact mid_get rfl | exact mid_get2 rfl | exact mid_get0 rfl | exact rfl)) | ((with_reducible apply r_move_p); exact rfl) | ((with_reducible apply r_nilCheck); exact rfl) | ((with_reducible apply r_fld); exact fa_ok rfl; exact rfl) | ((with_reducible apply r_len); exact u_ok rfl; exact rfl) | ((with_reducible apply r_geq_t); exact rfl; exact rfl; omega) | ((with_reducible apply r_geq_f); exact rfl; exact rfl; omega) | ((with_reducible apply r_geq); exact rfl; exact rfl) | ((with_reducible apply r_allocA); exact z_ok rfl) | ((with_reducible apply r_alloc1); exact z_ok rfl; exact rfl) | ((with_reducible apply r_ifaceP); exact rfl; exact u_ok rfl) | ((with_reducible apply r_ifaceA); exact rfl; exact u_ok rfl) | ((with_reducible apply r_move_i); exact rfl) | ((with_reducible apply r_mkf); exact rfl) | ((with_reducible apply r_lss_t); exact rfl; exact rfl; omega) | ((with_reducible apply r_lss_f); exact rfl; exact rfl; omega) | ((with_reducible apply r_lss); exact rfl; exact rfl) | ((with_reducible apply r_index); exact u_ok rfl; exact s_ok rfl; exact rfl; exact rfl; omega; omega) | ((with_reducible apply r_indexarr); exact u_ok rfl; exact s_ok rfl; exact rfl; exact rfl; omega; omega) | ((with_reducible apply r_add); exact rfl; exact rfl; omega; omega) | ((with_reducible apply r_look2); exact u_ok rfl; exact u_ok rfl; exact z_ok rfl; exact rfl; exact rfl; (first | exact Frm.at0 hq (by assumption) | exact Frm.at hq (by assumption) (by assumption) | (first | (with_reducible assumption) | assumption | exact at_alloc_new _ _ | (repeat (first | assumption | exact at_alloc_new _ _ | refine at_drew ?_ | refine at_alloc _ ?_)))); assumption) | ((with_reducible apply r_move_t); exact rfl) | ((with_reducible apply r_extract); exact rfl; exact rfl) | ((with_reducible apply r_move_b); exact rfl) | ((with_reducible apply r_assign_i); exact rfl) | ((with_reducible apply r_neg); exact rfl; omega; omega) | ((with_reducible apply r_remE); exact rfl; exact rfl; omega; omega) | ((with_reducible apply r_rem); exact rfl; exact rfl; omega) | ((with_reducible apply r_eql_t); exact rfl; exact rfl; omega) | ((with_reducible apply r_eql_f); exact rfl; exact rfl; omega) | ((with_reducible apply r_eql); exact rfl; exact rfl) | ((with_reducible apply r_pick_t); exact rfl; (with_reducible exact rfl); exact rfl) | ((with_reducible apply r_pick_f); exact rfl; (with_reducible exact rfl); exact rfl) | ((with_reducible apply r_neq_t); exact rfl; exact rfl; omega) | ((with_reducible apply r_neq_f); exact rfl; exact rfl; omega) | ((with_reducible apply r_neq); exact rfl; exact rfl)); (first | (with_reducible exact wnt_none) | ((with_reducible apply wnt_y); exact rfl; exact rfl; exact rfl; exact rfl; (with_reducible exact rfl)))))); exact h.out) : G := h ⟨k⟩

section
variable {PT : PTy} (sp : TreeSpec PT) {w : World} {col : Nat → Nat} {k0 k cb : Nat} {pre post : List Value} {bq sq t : Nat} {pd an up dn : Value} {c : PCli}
set_option maxHeartbeats 2000000 in
theorem cedit_ret (sp : TreeSpec PT) (h : CAt PT w col k0 k cb pre post bq sq t pd an up dn c) {ea : List Addr} (hE : Errs w ea) (hW : Wf [root0]) (e : Ed) (hb : c.ans.length < 1000000000000000 ∧ c.up.length < 1000000) :
    Rets Tryz.prog 79 [.pointer (some ⟨cb, pre.length, none⟩), EdV e] w fun v w' => Bare ea v (editR c e).1 ∧ CRes PT w w' col k0 k cb pre post (editR c e).2 := by
  have hF0 : Frm0 w (w.alloc (cel e.vals 31)) := Frm.of_alloc _ _
  have hbox := at_alloc_new w (cel e.vals 31)
  refine rets_of Tryz.func79 (by kernel_rfl) rfl Tryz.ntmps79 (Nat.le_of_ble_eq_true rfl) ?_
  refine runG07 ?_
  refine s_callf (outOfBounds_ret sp (hE.frm0 hF0) hW e) rfl wnt_none ?_
  rintro v w1 ⟨rfl, hf1⟩
  have hF1 : Frm0 w w1 := hF0.trans0 hf1
  have hbox1 := hf1.at0 hbox
  have h1 := h.frm0 sp hF1
  have hE1 := hE.frm0 hF1
  cases hw : wrongB e with
  | true =>
    have hd : editR c e = (1, c) := by rw [editR, hw]; rfl
    rw [hd]
    obtain ⟨a, ty, kk, ha, hg⟩ := err9 hE1 0 0 rfl
    refine runG07 ?_
    exact ret_if rfl rfl ⟨.inr ⟨Nat.succ_pos _, a, rfl, ha⟩, CRes.of0 h sp hF1⟩
  | false =>
    have hrow := h1.row
    obtain ⟨pa, pc, rfl⟩ := h1.m.pend.isSl
    by_cases hq : 6 ≤ c.pend.length
    · have hd : editR c e = (7, c) := by rw [editR, hw]; simp [hq]
      rw [hd]
      obtain ⟨a, ty, kk, ha, hg⟩ := err9 hE1 6 6 rfl
      refine runG07 ?_
      exact ret_if rfl rfl ⟨.inr ⟨Nat.succ_pos _, a, rfl, ha⟩, CRes.of0 h sp hF1⟩
    · have hd : editR c e = (0, editD c e) := by rw [editR, hw]; simp [hq]
      rw [hd]
      have hq' : c.pend.length < 6 := by omega
      have hcb := at_lt h.row
      have hszb : w.heap.size < w1.heap.size := at_lt hbox1
      have hk := h.hk
      refine runG07 ?_
      refine wpIn_mono (Q := fun e' act w' => e' = .normal ∧ ∃ (env' : Env) (rb : Nat), act = rep 50 [] env' ∧ AllL env' [(0, .pointer (some ⟨cb, pre.length, none⟩)), (5, Ptr rb)] ∧ At w' rb (cel (pdV (c.next, e)) 147) ∧ Frm0 w1 w' ∧ w1.heap.size ≤ rb) ?_ ?_
      · refine w_two [0, 2] 1 4 [(3, false), (4, true), (5, true)] [(1, true), (3, false), (5, true)] (fun wq => Frm0 w1 wq) mixed (by kernel_rfl) ?_ ?_
        · exact Frm.of_drew _
        · show WpX _ _ _ _ _ [(0, false), (2, false)] _ _
          have F0 : Frm0 w1 w1.drew := Frm.of_drew _
          refine runG07 ?_
          refine ⟨rfl, ?_, ?_⟩
          · refine x_callf rfl (nextSeq_ret (h1.frm0 sp F0) ⟨hb.1, by omega⟩) rfl wnt_none ?_
            rintro v w2 ⟨rfl, f2⟩
            have F2 : Frm0 w1 w2 := F0.trans0 f2
            refine ⟨F2, ?_⟩
            refine x_q rfl (fun wq hq => r_build rfl (bld_req _ _ wq)) wnt_none ?_
            refine x_val rfl (r_allocA (z_ok rfl)) wnt_none (F2.alloc _) ?_
            refine x_skip rfl (r_storeAll (vs := pdV (c.next, e)) (s_ok rfl) rfl rfl (pd_one _) (at_alloc_new w2 _) rfl) wnt_none ((F2.alloc _).setB (.inr F2.size) _) ?_
            exact x_late (y_nilQ ⟨rfl, _, w2.heap.size, rfl, ⟨rfl, rfl, trivial⟩, at_setB _ (at_alloc_new w2 _), (F2.alloc _).setB (.inr F2.size) _, F2.size⟩)
          · refine x_val rfl (r_allocA (z_ok rfl)) wnt_none (F0.alloc _) ?_
            refine x_callf rfl (nextSeq_ret (h1.frm0 sp (F0.alloc _)) ⟨hb.1, by omega⟩) rfl wnt_none ?_
            rintro v w2 ⟨rfl, f2⟩
            have F2 : Frm0 w1 w2 := (F0.alloc _).trans0 f2
            have hbx := f2.at0 (at_alloc_new _ _)
            refine ⟨F2, ?_⟩
            refine x_q rfl (fun wq hq => r_build rfl (bld_req _ _ wq)) wnt_none ?_
            refine x_skip rfl (r_storeAll (vs := pdV (c.next, e)) (s_ok rfl) rfl rfl (pd_one _) hbx rfl) wnt_none (F2.setB (.inr F0.size) _) ?_
            exact x_late (y_nilQ ⟨rfl, _, w1.drew.heap.size, rfl, ⟨rfl, rfl, trivial⟩, at_setB _ hbx, F2.setB (.inr F0.size) _, F0.size⟩)
      · rintro e' act w3 ⟨rfl, env', rb, rfl, hall, hr3, f3, hrb⟩
        rw [fixL hall]
        refine q_then ?_
        have F3 : Frm0 w w3 := hF1.trans0 f3
        have h3 := h1.frm0 sp f3
        have hrow3 := h3.row
        have hrb0 : col rb = 0 := h1.high rb hrb
        have hnp : ∀ {u : Value} {q : Nat}, (∀ b, InV u b → col b = q) → q ≠ 0 → ¬ InV u rb := fun hu hq h9 => by have := hu rb h9; omega
        clear hall hf1 hrow
        refine runG07 ?_
        refine w_drawn [(0, false), (1, false), (2, false), (3, false), (4, false), (5, false), (6, true), (7, true), (8, false), (9, false)] [10] (fun wq => Frm (InV (.slice pa c.pend.length pc)) w3 wq) mixed (by kernel_rfl) ?_ ?_
        · exact Frm.of_drew _
        · have hncb : ¬ InV (.slice pa c.pend.length pc) cb := fun h9 => by have := h.m.cpend cb h9; have := h.own; omega
          have hnrb := hnp h.m.cpend (by omega)
          refine runG07 ?_
          refine x_val rfl (r_bs rfl (bs_req (c.next, e) _)) wnt_none ((Frm.of_drew w3).alloc _) ?_
          have hFa : Frm0 w3 (w3.drew.alloc (cel (pdV (c.next, e)) 147)) := (Frm.of_drew w3).alloc _
          obtain ⟨v4, w4, e4, r4, f4, n4⟩ := append_req (ty := 113) (q := (c.next, e)) (h3.m.pend.frm hFa (fun _ _ h => h)) (seg_new rfl) (by omega)
          have f4' : Frm (InV (.slice pa c.pend.length pc)) w3 w4 := (hFa.mono (fun _ h => h.elim)).trans f4 (fun b hb => .inl hb)
          have n4' : ∀ b, InV v4 b → InV (.slice pa c.pend.length pc) b ∨ w3.heap.size ≤ b := fun b hb => (n4 b hb).imp id (fun h => Nat.le_trans hFa.size h)
          refine x_val rfl (r_app rfl rfl e4) wnt_none f4' ?_
          have hrow4 := f4'.at hncb hrow3
          obtain ⟨h5, g5⟩ := h3.repend sp f4' r4 n4'
          have hr4 := f4'.at hnrb hr3
          obtain ⟨va, vc, rfl⟩ := r4.isSl
          refine runG07 ?_
          refine y_skip rfl (r_store_s (s_ok rfl) rfl rfl hrow4 (clt _ _ _ _ _ _ _ _ (by decide))) wnt_none ?_
          rw [set_pd]
          have hr5 := at_setB_ne (b := cb) (cel (pre ++ (cvals t c.n (.slice va (c.pend ++ [(c.next, e)]).length vc) an c.joined c.told up dn ++ post)) 119) (by omega) hr4
          have G5 : CG k0 k w _ col _ := (CG.frm0 h.high F3).trans g5
          generalize setB w4 cb (cel (pre ++ (cvals t c.n (.slice va (c.pend ++ [(c.next, e)]).length vc) an c.joined c.told up dn ++ post)) 119) = w5 at *
          have hcol5 : paint col w3.heap.size (.slice va (c.pend ++ [(c.next, e)]).length vc) (k + 2) rb = 0 := by
            rw [paint_old (at_lt hr3)]
            exact hrb0
          generalize paint col w3.heap.size (.slice va (c.pend ++ [(c.next, e)]).length vc) (k + 2) = col5 at *
          have hrow5 := h5.row
          have hown5 := h5.own
          cases hj : c.joined with
          | false =>
            rw [hj] at hrow5
            have hed : editD c e = { c with pend := c.pend ++ [(c.next, e)] } := by rw [editD, hj]; rfl
            refine runG07 ?_
            rw [hed]
            exact ret_ni rfl rfl ⟨.inl ⟨rfl, rfl⟩, _, _, _, _, _, _, _, _, h5, G5⟩
          | true =>
            rw [hj] at hrow5
            have hed : editD c e = { c with pend := c.pend ++ [(c.next, e)], up := c.up ++ [.inr (c.next, e)] } := by rw [editD, hj]; rfl
            obtain ⟨ua, uc, rfl⟩ := h5.m.ups.isSl
            have hnu : ¬ InV (.slice ua c.up.length uc) cb := fun h9 => by have := h5.m.cup cb h9; omega
            refine runG07 ?_
            refine w_drawn ((0, false) :: (1, false) :: (2, false) :: (3, false) :: (4, false) :: (5, false) :: (6, false) :: (7, false) :: (8, true) :: (9, true) :: (10, false) :: (11, false) :: (12, false) :: []) [13] (fun wq => Frm (InV (.slice ua c.up.length uc)) w5 wq) mixed (by kernel_rfl) ?_ ?_
            · exact Frm.of_drew _
            · have hnr : ¬ InV (.slice ua c.up.length uc) rb := fun h9 => by have := h5.m.cup rb h9; omega
              refine runG07 ?_
              refine x_val rfl (r_bs rfl (bs_um _ _ _)) wnt_none ((Frm.of_drew w5).alloc _) ?_
              have hFb : Frm0 w5 (w5.drew.alloc (cel [uV (.inr (c.next, e))] 172)) := (Frm.of_drew w5).alloc _
              obtain ⟨v6, w6, e6, r6, f6, n6⟩ := append_um (ty := 115) (m := .inr (c.next, e)) (h5.m.ups.frm hFb (fun _ _ h => h)) (seg_new rfl) hb.2
              have f6' : Frm (InV (.slice ua c.up.length uc)) w5 w6 := (hFb.mono (fun _ h => h.elim)).trans f6 (fun b hb => .inl hb)
              have n6' : ∀ b, InV v6 b → InV (.slice ua c.up.length uc) b ∨ w5.heap.size ≤ b := fun b hb => (n6 b hb).imp id (fun h => Nat.le_trans hFb.size h)
              refine x_val rfl (r_app rfl rfl e6) wnt_none f6' ?_
              have hrow6 := f6'.at hnu hrow5
              obtain ⟨h7, g7⟩ := h5.reup sp f6' r6 n6'
              obtain ⟨xa, xc, rfl⟩ := r6.isSl
              refine runG07 ?_
              refine y_skip rfl (r_store_s (s_ok rfl) rfl rfl hrow6 (clt _ _ _ _ _ _ _ _ (by decide))) wnt_none ?_
              rw [set_up, ← hj]
              refine runG07 ?_
              rw [hed]
              exact ret_ni rfl rfl ⟨.inl ⟨rfl, rfl⟩, _, _, _, _, _, _, _, _, h7, G5.trans g7⟩
end
end Go.Proofs.YtbicffldggcdhaaGreatDoor

namespace Go.Proofs.YtbicffldggcdhaaGreatDoor
open Go

theorem PPar.set_same {Q : PPar} {i : Int} {c : PCli} (h : Q.cl i = some c) : Q.set i c = Q := by
  unfold PPar.cl at h
  split at h
  · cases h
  · unfold PPar.set
    have hl := (List.getElem?_eq_some_iff.1 h).1
    have he : Q.cls[i.toNat] = c := by rw [List.getElem?_eq_getElem hl] at h; exact Option.some.inj h
    rw [← he, List.set_getElem_self]
section
variable {PT : PTy} (sp : TreeSpec PT) {w w' w1 : World} {col : Nat → Nat} {k p t : Nat} {lv : Value} {mb cb cap : Nat} {rest : List Value} {ms : List CM} {Q Q' : PPar}
theorem QStep.pre (hh : ∀ b, w.heap.size ≤ b → col b = 0) (f : Frm0 w w1) (h : QStep PT w1 w' col k p Q) : QStep PT w w' col k p Q := by
  obtain ⟨col', h1, h2, h3⟩ := h
  refine ⟨col', h1, ⟨fun b hb => h2.old b (Nat.lt_of_lt_of_le hb f.size), h2.high, fun b hb => ?_⟩, (f.mono (fun _ h => h.elim)).trans h3 (fun b hb => .inl hb)⟩
  rcases Nat.lt_or_ge b w1.heap.size with h4 | h4
  · exact .inl (by rw [h2.old b h4]; exact hh b hb)
  · exact h2.new b h4
theorem QStep.size (h : QStep PT w w' col k p Q) : w.heap.size ≤ w'.heap.size := by
  obtain ⟨_, _, _, h3⟩ := h
  exact h3.size
theorem PB.res (sp : TreeSpec PT) (h : PB PT w col k p t lv mb cb cap rest ms Q) {i : Int} {m : CM} {c' : PCli} (hi : ms[i.toNat]? = some m) (r : CRes PT w w' col k (k + 10 + 10 * i.toNat) cb (fl CM.vals (ms.take i.toNat)) (fl CM.vals (ms.drop (i.toNat + 1)) ++ rest) c') : QStep PT w w' col k p (Q.set i c') := by
  obtain ⟨col', bq, sq, t', pd, an, up, dn, h1, h2⟩ := r
  exact h.step sp (m' := ⟨t', pd, an, up, dn, bq, sq, c'⟩) hi h2 h1
theorem Bare.val {ea : List Addr} {v : Value} {n : Nat} (h : Bare ea v n) : v = .nilIface ∨ ∃ a, v = errV a := by
  rcases h with ⟨_, rfl⟩ | ⟨_, a, rfl, _⟩
  · exact .inl rfl
  · exact .inr ⟨a, rfl⟩
theorem edit1_ret (sp : TreeSpec PT) {cb' : Nat} {pre post : List Value} {bq sq t' k1 : Nat} {pd an up dn : Value} {c : PCli} {bx : Nat} (h : CAt PT w col k k1 cb' pre post bq sq t' pd an up dn c) {ea : List Addr} (hE : Errs w ea) (hW : Wf [root0]) (e : Ed) (hb : c.ans.length < 1000000000000000 ∧ c.up.length < 1000000) (hx : At w bx (cel e.vals 31)) :
    Rets Tryz.prog 78 [.pointer (some ⟨cb', pre.length, none⟩), Ptr bx] w fun v w' => Bare ea v (editR c e).1 ∧ CRes PT w w' col k k1 cb' pre post (editR c e).2 := by
  refine rets_of Tryz.func78 (by kernel_rfl) rfl Tryz.ntmps78 (Nat.le_of_ble_eq_true rfl) ?_
  refine runG07 ?_
  refine s_callf (cedit_ret sp h hE hW e hb) rfl wnt_none ?_
  intro v w2 hv
  rcases hv.1.val with rfl | ⟨a, rfl⟩
  · refine runG07 ?_
    exact ret_ni rfl rfl hv
  · refine runG07 ?_
    exact ret_if rfl rfl hv
theorem pedit_ret (sp : TreeSpec PT) (h : PB PT w col k p t lv mb cb cap rest ms Q) {ea : List Addr} (hE : Errs w ea) (hW : Wf [root0]) (i : Int) (e : Ed) (hb : ∀ c, Q.cl i = some c → c.ans.length < 1000000000000000 ∧ c.up.length < 1000000) :
    Rets Tryz.prog 54 [Ptr p, I i, EdV e] w fun v w' => Bare ea v (editQ Q i e).1 ∧ QStep PT w w' col k p (editQ Q i e).2 := by
  have hF0 : Frm0 w (w.alloc (cel e.vals 31)) := Frm.of_alloc _ _
  have hbox := at_alloc_new w (cel e.vals 31)
  have h1 := h.frm0 sp hF0
  refine rets_of Tryz.func54 (by kernel_rfl) rfl Tryz.ntmps54 (Nat.le_of_ble_eq_true rfl) ?_
  refine runG07 ?_
  refine s_callf (let_ret (caps := [Ptr w.heap.size]) (φ := fun v w' => Bare ea v (editQ Q i e).1 ∧ QStep PT w w' col k p (editQ Q i e).2) h1 (hE.frm0 hF0) i ?_ ?_ (fun v w' hv => hv.1.val)) rfl wnt_none ?_
  · intro hc w' a f ha
    have hd : editQ Q i e = (1, Q) := by rw [editQ, hc]
    rw [hd]
    exact ⟨.inr ⟨Nat.succ_pos _, a, rfl, ha⟩, QStep.same sp ⟨_, _, _, _, _, _, _, h⟩ (hF0.trans0 f)⟩
  · intro m w' hm hc h0 f
    have h2 := h1.frm0 sp f
    refine (edit1_ret sp (h2.at_ hm) (hE.frm0 (hF0.trans0 f)) hW e (hb _ hc) (f.at0 hbox)).mono ?_
    rintro v w2 ⟨hv, hr⟩
    have hd : editQ Q i e = ((editR m.c e).1, Q.set i (editR m.c e).2) := by
      rw [editQ, hc]
      unfold editR
      simp only
      split
      · rw [PPar.set_same hc]
      · split
        · rw [PPar.set_same hc]
        · rfl
    rw [hd]
    exact ⟨hv, QStep.pre h.high (hF0.trans0 f) (h2.res sp hm hr)⟩
  · intro v w2 hv
    rcases hv.1.val with rfl | ⟨a, rfl⟩
    · refine runG07 ?_
      exact ret_ni rfl rfl hv
    · refine runG07 ?_
      exact ret_if rfl rfl hv
end
end Go.Proofs.YtbicffldggcdhaaGreatDoor

namespace Go.Proofs.YtbicffldggcdhaaGreatDoor
open Go

section
variable {PT : PTy} (sp : TreeSpec PT) {w w' w1 : World} {col : Nat → Nat} {k p t : Nat} {lv : Value} {mb cb cap : Nat} {rest : List Value} {ms : List CM} {Q Q' : PPar}
theorem PEdit_ret (sp : TreeSpec PT) (hP : PP PT w col k p Q) {ea : List Addr} (hE : Errs w ea) (hW : Wf [root0]) (i : Int) (e : Ed) (hb : ∀ c, Q.cl i = some c → c.ans.length < 1000000000000000 ∧ c.up.length < 1000000) :
    Rets Tryz.prog 31 [Ptr p, I i, EdV e] w fun v w' => ErrN ea w w' v (editQ Q i e).1 e ∧ QStep PT w w' col k p (editQ Q i e).2 := by
  obtain ⟨t, lv, mb, cb, cap, rest, ms, h⟩ := hP
  have hF0 : Frm0 w (w.alloc (cel e.vals 31)) := Frm.of_alloc _ _
  have hbox := at_alloc_new w (cel e.vals 31)
  refine rets_of Tryz.func31 (by kernel_rfl) rfl Tryz.ntmps31 (Nat.le_of_ble_eq_true rfl) ?_
  refine runG07 ?_
  have hpos := h.pos
  have hnb : ¬ (k ≤ col w.heap.size ∧ col w.heap.size < k + 100) := by
    have := h.high w.heap.size (Nat.le_refl _)
    omega
  generalize w.alloc (cel e.vals 31) = w1 at *
  have hF1 := hF0.trans0 (Frm.of_drew w1)
  refine w_drawn [(0, false), (1, false), (2, false), (3, false), (4, true)] [5, 6] (fun wq => Frm (fun b => k ≤ col b ∧ col b < k + 100) w1 wq) mixed (by kernel_rfl) ?_ ?_
  · exact Frm.of_drew _
  · refine runG07 ?_
    refine x_callf rfl (pedit_ret sp (h.frm0 sp hF1) (hE.frm0 hF1) hW i e hb) rfl wnt_none ?_
    rintro v w2 ⟨hv, hs⟩
    refine ⟨by obtain ⟨_, _, _, fs⟩ := hs; exact (Frm.of_drew w1).trans fs (fun b hb => .inl hb), ?_⟩
    refine runG07 ?_
    refine y_callf rfl (refusal_ret hv e) rfl wnt_none ?_
    rintro u w3 ⟨hu, f3, hfr⟩
    have hsz := Nat.le_trans hF1.size hs.size
    have hs3 := QStep.pre h.high hF1 (hs.frm0 sp f3)
    rcases hu with ⟨h0, rfl⟩ | ⟨h0, b, a, rfl, hA, ha⟩
    · refine runG07 ?_
      exact ret_ni rfl rfl ⟨⟨.inl ⟨h0, rfl⟩, fun b h => by cases h⟩, hs3⟩
    · refine runG07 ?_
      exact ret_if rfl rfl ⟨⟨.inr ⟨h0, b, a, rfl, hA, ha⟩, fun b' h => Nat.le_trans hsz (hfr b' h)⟩, hs3⟩
end
section
variable {PT : PTy} (sp : TreeSpec PT) {w : World} {col : Nat → Nat} {k0 k cb : Nat} {pre post : List Value} {bq sq t : Nat} {pd an up dn : Value} {c : PCli}
def joinR (c : PCli) : Nat × PCli := if c.joined then (8, c) else (0, joinD c)
theorem bld_coming (n : Int) (w : World) : (Instr.build 176 [(0, I n)].toArray).run Tryz.prog w = .ok (.agg #[I n]) w := by kernel_rfl
set_option maxHeartbeats 2000000 in
theorem cjoin_ret (sp : TreeSpec PT) (h : CAt PT w col k0 k cb pre post bq sq t pd an up dn c) {ea : List Addr} (hE : Errs w ea) (hb : c.pend.length < 1000 ∧ c.up.length < 1000) :
    Rets Tryz.prog 82 [.pointer (some ⟨cb, pre.length, none⟩)] w fun v w' => Bare ea v (joinR c).1 ∧ CRes PT w w' col k0 k cb pre post (joinR c).2 := by
  have hrow := h.row
  have hk := h.hk
  obtain ⟨pa, pc, rfl⟩ := h.m.pend.isSl
  refine rets_of Tryz.func82 (by kernel_rfl) rfl Tryz.ntmps82 (Nat.le_of_ble_eq_true rfl) ?_
  cases hj : c.joined with
  | true =>
    have hd : joinR c = (8, c) := by rw [joinR, hj]; rfl
    rw [hd]
    rw [hj] at hrow
    obtain ⟨a, ty, kk, ha, hg⟩ := err9 hE 7 8 rfl
    refine runG07 ?_
    exact ret_if rfl rfl ⟨.inr ⟨Nat.succ_pos _, a, rfl, ha⟩, CRes.of0 h sp (Frm.refl _ _)⟩
  | false =>
    have hd : joinR c = (0, joinD c) := by rw [joinR, hj]; rfl
    rw [hd]
    rw [hj] at hrow
    refine runG07 ?_
    refine s_skip (r_store_b (s_ok rfl) rfl rfl hrow (clt _ _ _ _ _ _ _ _ (by decide))) wnt_none ?_
    rw [set_jn]
    obtain ⟨h1, g1⟩ := h.remark sp (jn := true) (tl := c.told) (n := c.n)
    generalize setB w cb (cel (pre ++ (cvals t c.n (.slice pa c.pend.length pc) an true c.told up dn ++ post)) 119) = w1 at *
    obtain ⟨ua, uc, rfl⟩ := h1.m.ups.isSl
    have hrow1 := h1.row
    have hnu : ¬ InV (.slice ua c.up.length uc) cb := fun h9 => by have := h1.m.cup cb h9; have := h1.own; omega
    refine runG07 ?_
    refine w_drawn ((0, false) :: (1, false) :: (2, false) :: (3, false) :: (4, false) :: (5, false) :: (6, false) :: (7, false) :: (8, false) :: (9, false) :: (10, false) :: (11, false) :: (12, false) :: (13, true) :: (14, true) :: (15, false) :: (16, false) :: (17, false) :: []) [18] (fun wq => Frm (InV (.slice ua c.up.length uc)) w1 wq) mixed (by kernel_rfl) ?_ ?_
    · exact Frm.of_drew _
    · refine runG07 ?_
      refine x_q rfl (fun wq hq => r_build rfl (bld_coming _ wq)) wnt_none ?_
      refine runG07 ?_
      refine x_val rfl (r_bs rfl (bs_um _ _ _)) wnt_none ((Frm.of_drew w1).alloc _) ?_
      have hFb : Frm0 w1 (w1.drew.alloc (cel [uV (.inl c.n)] 172)) := (Frm.of_drew w1).alloc _
      obtain ⟨v2, w2, e2, r2, f2, n2⟩ := append_um (ty := 115) (m := .inl c.n) (h1.m.ups.frm hFb (fun _ _ h => h)) (seg_new rfl) (by show c.up.length < 1000000; omega)
      have f2' : Frm (InV (.slice ua c.up.length uc)) w1 w2 := (hFb.mono (fun _ h => h.elim)).trans f2 (fun b hb => .inl hb)
      have n2' : ∀ b, InV v2 b → InV (.slice ua c.up.length uc) b ∨ w1.heap.size ≤ b := fun b hb => (n2 b hb).imp id (fun h => Nat.le_trans hFb.size h)
      refine x_val rfl (r_app rfl rfl e2) wnt_none f2' ?_
      have hrow2 := f2'.at hnu hrow1
      obtain ⟨h3, g3⟩ := h1.reup sp f2' r2 n2'
      obtain ⟨xa, xc, rfl⟩ := r2.isSl
      refine runG07 ?_
      refine y_skip rfl (r_store_s (s_ok rfl) rfl rfl hrow2 (clt _ _ _ _ _ _ _ _ (by decide))) wnt_none ?_
      rw [set_up]
      have G3 := g1.trans g3
      generalize setB w2 cb (cel (pre ++ (cvals t c.n (.slice pa c.pend.length pc) an true c.told (.slice xa (c.up ++ [(Sum.inl c.n : UMsg)]).length xc) dn ++ post)) 119) = w3 at *
      generalize paint col w1.heap.size (.slice xa (c.up ++ [(Sum.inl c.n : UMsg)]).length xc) (k + 4) = col3 at *
      have hrow3 := h3.row
      refine runG07 ?_
      refine lp (fun env w' => ∃ env0, ∃ j : Nat, ∃ col' xa xc, env = setL env0 [(0, .pointer (some ⟨cb, pre.length, none⟩)), (36, .slice pa c.pend.length pc), (37, I c.pend.length), (38, I j)] ∧ j ≤ c.pend.length ∧ CAt PT w' col' k0 k cb pre post bq sq t (.slice pa c.pend.length pc) an (.slice xa (c.up.length + 1 + j) xc) dn { c with joined := true, up := c.up ++ .inl c.n :: (c.pend.take j).map fun q => .inr (q.1, q.2) } ∧ CG k0 k w w' col col') (fun env _ => c.pend.length - cnt (env 38)) ?_ ?_
      · refine ⟨_, 0, col3, xa, xc, fixL ⟨rfl, rfl, rfl, rfl, trivial⟩, by omega, ?_, G3⟩
        simpa using h3
      · rintro env w4 ⟨env0, j, col4, ya, yc, rfl, hj4, h4, G4⟩
        have hrow4 := h4.row
        by_cases hlt : j < c.pend.length
        · obtain ⟨q, hq⟩ : ∃ q, c.pend[j]? = some q := ⟨_, List.getElem?_eq_getElem hlt⟩
          rcases h4.m.pend with ⟨_, h0, _⟩ | ⟨pb, pcap, prest, e9, hA, hpl, hpr, hpc⟩
          · have h0' : c.pend.length = 0 := h0
            omega
          · cases e9
            have hsA : sub (fl pdV c.pend ++ prest) ((j : Int).toNat * 7) 7 = pdV q := by
              have := fl_sub (f := pdV) (k := 7) (fun _ => rfl) c.pend j q hq [] prest
              simpa using this
            have hlA : (j : Int).toNat * 7 + 7 ≤ (fl pdV c.pend ++ prest).length := by
              rw [List.length_append, fl_len (f := pdV) (k := 7) (fun _ => rfl)]
              omega
            refine runG07 ?_
            refine s_val (r_loadV (vs := pdV q) (u_ok rfl) rfl (s_ok rfl) rfl hA (by rw [Nat.zero_add]; exact hlA) (by rw [Nat.zero_add]; exact hsA)) wnt_none ?_
            refine runG07 ?_
            refine s_skip (r_storeAll (vs := pdV q) (s_ok rfl) rfl rfl (pd_one _) (at_alloc_new w4 _) rfl) wnt_none ?_
            have hr5 := at_setB (cel (pdV q) 147) (at_alloc_new w4 (cel [I 0, I 0, I 0, I 0, I 0, I 0, I 0] 147))
            have f5 : Frm0 w4 (setB (w4.alloc (cel [I 0, I 0, I 0, I 0, I 0, I 0, I 0] 147)) w4.heap.size (cel (pdV q) 147)) := (Frm.of_alloc w4 _).setB (.inr (Nat.le_refl _)) _
            have hcol5 : col4 w4.heap.size = 0 := h4.high _ (Nat.le_refl _)
            generalize w4.heap.size = rb at *
            generalize setB (w4.alloc (cel [I 0, I 0, I 0, I 0, I 0, I 0, I 0] 147)) rb (cel (pdV q) 147) = w5 at *
            have h5 := h4.frm0 sp f5
            have G5 := G4.trans (CG.frm0 h4.high f5)
            have hrow5 := h5.row
            have hnu : ¬ InV (.slice ya (c.up.length + 1 + j) yc) cb := fun h9 => by have := h5.m.cup cb h9; have := h5.own; omega
            have hnr : ¬ InV (.slice ya (c.up.length + 1 + j) yc) rb := fun h9 => by have := h5.m.cup rb h9; omega
            have hul : (c.up ++ (Sum.inl c.n : UMsg) :: (c.pend.take j).map fun q : Int × Ed => (Sum.inr (q.1, q.2) : UMsg)).length = c.up.length + 1 + j := by
              simp
              omega
            refine runG07 ?_
            refine w_drawn ((0, false) :: (1, false) :: (2, false) :: (3, false) :: (4, false) :: (5, false) :: (6, false) :: (7, false) :: (8, true) :: (9, true) :: (10, false) :: (11, false) :: (12, false) :: []) [13] (fun wq => Frm (InV (.slice ya (c.up.length + 1 + j) yc)) w5 wq) mixed (by kernel_rfl) ?_ ?_
            · exact Frm.of_drew _
            · refine runG07 ?_
              refine x_val rfl (r_bs rfl (bs_um _ _ _)) wnt_none ((Frm.of_drew w5).alloc _) ?_
              have hFc : Frm0 w5 (w5.drew.alloc (cel [uV (.inr (q.1, q.2))] 172)) := (Frm.of_drew w5).alloc _
              obtain ⟨v6, w6, e6, r6, f6, n6⟩ := append_um (ty := 115) (m := .inr (q.1, q.2)) (h5.m.ups.frm hFc (fun _ _ h => h)) (seg_new rfl) (by show List.length (c.up ++ (Sum.inl c.n : UMsg) :: (c.pend.take j).map fun q : Int × Ed => (Sum.inr (q.1, q.2) : UMsg)) < 1000000; rw [hul]; omega)
              have f6' : Frm (InV (.slice ya (c.up.length + 1 + j) yc)) w5 w6 := (hFc.mono (fun _ h => h.elim)).trans f6 (fun b hb => .inl hb)
              have n6' : ∀ b, InV v6 b → InV (.slice ya (c.up.length + 1 + j) yc) b ∨ w5.heap.size ≤ b := fun b hb => (n6 b hb).imp id (fun h => Nat.le_trans hFc.size h)
              refine x_val rfl (r_app rfl rfl e6) wnt_none f6' ?_
              have hrow6 := f6'.at hnu hrow5
              obtain ⟨h7, g7⟩ := h5.reup sp f6' r6 n6'
              obtain ⟨za, zc, hz⟩ := r6.isSl
              have hzl : ((c.up ++ (Sum.inl c.n : UMsg) :: (c.pend.take j).map fun q : Int × Ed => (Sum.inr (q.1, q.2) : UMsg)) ++ [(Sum.inr (q.1, q.2) : UMsg)]).length = c.up.length + 1 + (j + 1) := by
                rw [List.length_append, hul]
                rfl
              have hz' : v6 = .slice za (c.up.length + 1 + (j + 1)) zc := by rw [hz]; congr 1
              subst hz'
              have hcc : (c.up ++ (Sum.inl c.n : UMsg) :: (c.pend.take j).map fun q : Int × Ed => (Sum.inr (q.1, q.2) : UMsg)) ++ [(Sum.inr (q.1, q.2) : UMsg)] = c.up ++ (Sum.inl c.n : UMsg) :: (c.pend.take (j + 1)).map fun q : Int × Ed => (Sum.inr (q.1, q.2) : UMsg) := by
                rw [List.take_add_one, hq, List.map_append]
                simp
              refine runG07 ?_
              refine y_skip rfl (r_store_s (s_ok rfl) rfl rfl hrow6 (clt _ _ _ _ _ _ _ _ (by decide))) wnt_none ?_
              rw [set_up]
              refine runG07 ?_
              refine ⟨_, rfl, ⟨_, j + 1, _, za, zc, fixL ⟨rfl, rfl, rfl, rfl, trivial⟩, by omega, ?_, G5.trans g7⟩, by show c.pend.length - ((j : Int) + 1).toNat < c.pend.length - (j : Int).toNat; omega⟩
              rw [← hcc]
              exact h7
        · have hjl : j = c.pend.length := by omega
          subst hjl
          refine runG07 ?_
          have hjd : joinD c = { c with joined := true, up := c.up ++ (Sum.inl c.n : UMsg) :: (c.pend.take c.pend.length).map fun q : Int × Ed => (Sum.inr (q.1, q.2) : UMsg) } := by rw [List.take_length]; rfl
          rw [hjd]
          exact ret_ni rfl rfl ⟨.inl ⟨rfl, rfl⟩, _, _, _, _, _, _, _, _, h4, G4⟩
end
end Go.Proofs.YtbicffldggcdhaaGreatDoor

namespace Go.Proofs.YtbicffldggcdhaaGreatDoor
open Go

theorem bld_ed0 (w : World) : (Instr.build 31 #[]).run Tryz.prog w = .ok (EdV ed0) w := by kernel_rfl
section
variable {PT : PTy} (sp : TreeSpec PT) {w w' w1 : World} {col : Nat → Nat} {k p t : Nat} {lv : Value} {mb cb cap : Nat} {rest : List Value} {ms : List CM} {Q Q' : PPar}
theorem pjoin_ret (sp : TreeSpec PT) (h : PB PT w col k p t lv mb cb cap rest ms Q) {ea : List Addr} (hE : Errs w ea) (i : Int) (hb : ∀ c, Q.cl i = some c → c.pend.length < 1000 ∧ c.up.length < 1000) :
    Rets Tryz.prog 56 [Ptr p, I i] w fun v w' => Bare ea v (joinQ Q i).1 ∧ QStep PT w w' col k p (joinQ Q i).2 := by
  refine rets_of Tryz.func56 (by kernel_rfl) rfl Tryz.ntmps56 (Nat.le_of_ble_eq_true rfl) ?_
  refine runG07 ?_
  refine s_callf (let_ret (caps := []) (φ := fun v w' => Bare ea v (joinQ Q i).1 ∧ QStep PT w w' col k p (joinQ Q i).2) h hE i ?_ ?_ (fun v w' hv => hv.1.val)) rfl wnt_none ?_
  · intro hc w' a f ha
    have hd : joinQ Q i = (1, Q) := by rw [joinQ, hc]
    rw [hd]
    exact ⟨.inr ⟨Nat.succ_pos _, a, rfl, ha⟩, QStep.same sp ⟨_, _, _, _, _, _, _, h⟩ f⟩
  · intro m w' hm hc h0 f
    have h2 := h.frm0 sp f
    refine (cjoin_ret sp (h2.at_ hm) (hE.frm0 f) (hb _ hc)).mono ?_
    rintro v w2 ⟨hv, hr⟩
    have hd : joinQ Q i = ((joinR m.c).1, Q.set i (joinR m.c).2) := by
      rw [joinQ, hc]
      unfold joinR
      simp only
      split
      · rw [PPar.set_same hc]
      · rfl
    rw [hd]
    exact ⟨hv, QStep.pre h.high f (h2.res sp hm hr)⟩
  · intro v w2 hv
    rcases hv.1.val with rfl | ⟨a, rfl⟩
    · refine runG07 ?_
      exact ret_ni rfl rfl hv
    · refine runG07 ?_
      exact ret_if rfl rfl hv
theorem PJoin_ret (sp : TreeSpec PT) (hP : PP PT w col k p Q) {ea : List Addr} (hE : Errs w ea) (i : Int) (hb : ∀ c, Q.cl i = some c → c.pend.length < 1000 ∧ c.up.length < 1000) :
    Rets Tryz.prog 33 [Ptr p, I i] w fun v w' => ErrN ea w w' v (joinQ Q i).1 ed0 ∧ QStep PT w w' col k p (joinQ Q i).2 := by
  obtain ⟨t, lv, mb, cb, cap, rest, ms, h⟩ := hP
  refine rets_of Tryz.func33 (by kernel_rfl) rfl Tryz.ntmps33 (Nat.le_of_ble_eq_true rfl) ?_
  refine runG07 ?_
  refine s_val (r_build rfl (bld_ed0 _)) wnt_none ?_
  refine runG07 ?_
  refine s_callf (pjoin_ret sp h hE i hb) rfl wnt_none ?_
  rintro v w2 ⟨hv, hs⟩
  refine s_callf (refusal_ret hv ed0) rfl wnt_none ?_
  rintro u w3 ⟨hu, f3, hfr⟩
  have hsz := hs.size
  have hs3 := hs.frm0 sp f3
  rcases hu with ⟨h0, rfl⟩ | ⟨h0, b, a, rfl, hA, ha⟩
  · refine runG07 ?_
    exact ret_ni rfl rfl ⟨⟨.inl ⟨h0, rfl⟩, fun b h => by cases h⟩, hs3⟩
  · refine runG07 ?_
    exact ret_if rfl rfl ⟨⟨.inr ⟨h0, b, a, rfl, hA, ha⟩, fun b' h => Nat.le_trans hsz (hfr b' h)⟩, hs3⟩
end
end Go.Proofs.YtbicffldggcdhaaGreatDoor

namespace Go.Proofs.YtbicffldggcdhaaGreatDoor
open Go

theorem eq_int2 (d : Nat) (a b : Int) {w : World} : (Op.equalIn (d + 1) 3 (I a) (I b)).run Tryz.prog w = .ok (a == b) w := by
  simp [Op.equalIn, run_underlying Tryz.underlying3]
theorem eq_mark {w : World} (a b : Int × Int) : (Op.equal 252 (MkV a) (MkV b)).run Tryz.prog w = .ok (decide (a = b)) w := by
  have key : ∀ d : Nat, (Op.equalIn (d + 2) 252 (MkV a) (MkV b)).run Tryz.prog w = .ok (decide (a = b)) w := by
    intro d
    have p0 : ∀ (k : Int × Int) (w : World), (Go.part 3 #[I k.1, I k.2] 0).run Tryz.prog w = .ok (I k.1) w := fun k w => part_int (cs := [I k.1, I k.2]) rfl
    have p1 : ∀ (k : Int × Int) (w : World), (Go.part 3 #[I k.1, I k.2] 1).run Tryz.prog w = .ok (I k.2) w := fun k w => part_int (cs := [I k.1, I k.2]) rfl
    have e3 : ∀ (a b : Int) (w : World), (Op.equalIn (d + 1) 3 (I a) (I b)).run Tryz.prog w = .ok (a == b) w := fun a b w => eq_int2 d a b
    rw [Op.equalIn]
    simp [run_underlying Tryz.underlying252]
    simp only [p0, p1, e3, Result.andThen_ok]
    by_cases h1 : a.1 = b.1
    · by_cases h2 : a.2 = b.2
      · simp [h1, h2, Prod.ext_iff]
      · simp [h1, h2, Prod.ext_iff]
    · simp [h1, Prod.ext_iff]
  exact key 9998
theorem ck_mark (a : Int × Int) (e : Bool) (w : World) : (Instr.checkKey e 10000 252 (MkV a)).run Tryz.prog w = .ok () w := by kernel_rfl
theorem map_erase {α β : Type} (f : α → β) : ∀ (l : List α) (j : Nat), (l.eraseIdx j).map f = (l.map f).eraseIdx j
  | [], _ => rfl
  | x :: l, 0 => rfl
  | x :: l, j + 1 => by simp only [List.eraseIdx_cons_succ, List.map_cons, map_erase f l j]
def vfind (k : Int × Int) : VD → Nat → Option (Nat × (Int × Bool))
  | [], _ => none
  | x :: l, i => if x.1 = k then some (i, x.2) else vfind k l (i + 1)
theorem vfind_some {k : Int × Int} : ∀ {l : VD} {i j : Nat} {v : Int × Bool}, vfind k l i = some (j, v) → i ≤ j ∧ l[j - i]? = some (k, v) ∧ ((l.map (·.1)).Nodup → vdel l k = l.eraseIdx (j - i))
  | [], _, _, _, h => by cases h
  | x :: l, i, j, v, h => by
    unfold vfind at h
    by_cases hx : x.1 = k
    · rw [if_pos hx] at h
      cases h
      refine ⟨Nat.le_refl _, ?_, fun hn => ?_⟩
      · rw [Nat.sub_self, ← hx]
        rfl
      · rw [Nat.sub_self, List.eraseIdx_cons_zero]
        unfold vdel
        rw [List.filter_cons_of_neg (by simp [hx]), List.filter_eq_self.2]
        intro y hy
        simp only [List.map_cons, List.nodup_cons] at hn
        have : y.1 ≠ k := fun e => hn.1 (by rw [hx, ← e]; exact List.mem_map_of_mem hy)
        simp [this]
    · rw [if_neg hx] at h
      obtain ⟨h1, h2, h3⟩ := vfind_some h
      refine ⟨by omega, ?_, fun hn => ?_⟩
      · rw [show j - i = j - (i + 1) + 1 by omega]
        exact h2
      · simp only [List.map_cons, List.nodup_cons] at hn
        rw [show j - i = j - (i + 1) + 1 by omega, List.eraseIdx_cons_succ, ← h3 hn.2]
        unfold vdel
        rw [List.filter_cons_of_pos (by simp [hx])]
theorem vfind_none {k : Int × Int} : ∀ {l : VD} {i : Nat}, vfind k l i = none → k ∉ l.map (·.1) ∧ vdel l k = l
  | [], _, _ => ⟨by simp, rfl⟩
  | x :: l, i, h => by
    unfold vfind at h
    by_cases hx : x.1 = k
    · rw [if_pos hx] at h; cases h
    · rw [if_neg hx] at h
      obtain ⟨h1, h2⟩ := vfind_none h
      refine ⟨?_, ?_⟩
      · simp only [List.map_cons, List.mem_cons, not_or]
        exact ⟨fun e => hx e.symm, h1⟩
      · unfold vdel at h2 ⊢
        rw [List.filter_cons_of_pos (by simp [hx]), h2]
theorem vfind_has {i s : Int} {l : VD} {n : Nat} : (vfind (i, s) l n).isSome = hasT l i s := by
  induction l generalizing n with
  | nil => rfl
  | cons x l ih =>
    unfold vfind hasT
    by_cases hx : x.1 = (i, s)
    · rw [if_pos hx]
      simp [hx]
    · rw [if_neg hx, ih]
      unfold hasT
      simp [hx]
theorem vask {w : World} (k : Int × Int) : ∀ (M : VD) (es : List MapEntry) (i : Nat), es.map entOf = M.map vEnt → (Instr.findAsking 252 (MkV k) es i).run Tryz.prog w = .ok ((vfind k M i).map fun x => (x.1, VdV x.2)) w
  | [], [], i, _ => rfl
  | [], e :: es, i, h => by simp at h
  | x :: m, [], i, h => by simp at h
  | x :: m, e :: es, i, h => by
    simp only [List.map_cons, List.cons.injEq, entOf, vEnt, Prod.mk.injEq] at h
    obtain ⟨⟨hk, hv⟩, hr⟩ := h
    unfold Instr.findAsking vfind
    rw [hk]
    simp only [Sem.run_bind, eq_mark, Result.andThen_ok]
    by_cases hx : x.1 = k
    · subst hx
      simp [hv]
    · have hx' : ¬ k = x.1 := fun e => hx e.symm
      rw [if_neg hx]
      simp only [hx', decide_false, Bool.false_eq_true, if_false]
      exact vask k m es (i + 1) hr
section
variable {w : World} {b : Nat} {k : Int × Int} {es : Array MapEntry} {cl : Nat} {M : VD}
theorem vkey (hE : VEnts es cl M) : (Instr.findKey 252 (MkV k) es.toList).run Tryz.prog w = .ok ((vfind k M 0).map fun x => (x.1, VdV x.2)) w := by
  have hD : ∃ fs, Tryz.prog.underlying 252 = some (.struct fs) := ⟨_, u_ok rfl⟩
  obtain ⟨fs, hD⟩ := hD
  unfold Instr.findKey
  simp only [Sem.run_bind, run_underlying hD, Result.andThen_ok]
  cases hes : es.toList with
  | nil =>
    have hM : M = [] := by
      have := hE.ents
      rw [hes] at this
      simpa using this.symm
    subst hM
    rfl
  | cons e l =>
    have : Instr.findNow (.struct fs) (MkV k) (e :: l) 0 = none := rfl
    rw [this]
    simp only
    rw [← hes]
    exact vask k M es.toList 0 hE.ents
theorem vlook_run (hb : At w b (.map es cl)) (hE : VEnts es cl M) :
    (Instr.lookup 103 (.map (some b)) (MkV k) true).run Tryz.prog w = .ok (.tuple #[VdV (((vfind k M 0).map (·.2)).getD (0, false)), B (vfind k M 0).isSome]) w := by
  have hf := vkey (w := w) (k := k) hE
  have hc : ∀ e, (Instr.checkKey e 10000 252 (MkV k)).run Tryz.prog w = .ok () w := fun e => ck_mark k e w
  simp only [Instr.lookup, Sem.run_bind, run_underlying Tryz.underlying103, MapKept.run_getObj_map hb, Result.andThen_ok, Sem.run_pure, hc, hf]
  cases vfind k M 0 with
  | none => simp [run_zero (P := Tryz.prog) (t := 254) (v := VdV (0, false)) (z_ok rfl)]
  | some j => simp
theorem vupd_run {v : Int × Bool} (hb : At w b (.map es cl)) (hE : VEnts es cl M) (hn : vfind k M 0 = none) :
    ∃ es' cl', (Instr.mapUpdate 103 (.map (some b)) (MkV k) (VdV v)).run Tryz.prog w = .ok () (setB w b (.map es' cl')) ∧ VEnts es' cl' (vput M k v) := by
  have hf := vkey (w := w) (k := k) hE
  have hc : ∀ e, (Instr.checkKey e 10000 252 (MkV k)).run Tryz.prog w = .ok () w := fun e => ck_mark k e w
  rw [hn] at hf
  obtain ⟨hnew, _⟩ := vfind_none hn
  refine ⟨es.push ⟨MkV k, VdV v, cl⟩, cl + 1, ?_, ?_⟩
  · simp [Instr.mapUpdate, run_underlying Tryz.underlying103, MapKept.run_getObj_map hb, hc, hf, MapKept.run_setObj_map _ hb, setB]
  · unfold vput
    refine ⟨?_, ?_, ?_, ?_⟩
    · simp [hE.ents, entOf, vEnt]
    · simp only [Array.toList_push, List.map_append, List.map_cons, List.map_nil]
      refine List.nodup_append.2 ⟨hE.born, by simp, ?_⟩
      intro a h1 c h2
      obtain ⟨e, he, rfl⟩ := List.mem_map.1 h1
      have := hE.low e he
      simp at h2
      omega
    · intro e he
      simp only [Array.toList_push, List.mem_append, List.mem_singleton] at he
      rcases he with he | rfl
      · have := hE.low e he; omega
      · exact Nat.lt_succ_self _
    · rw [List.map_append, List.nodup_append]
      refine ⟨hE.keys, by simp, ?_⟩
      intro a h1 c h2 e
      simp at h2
      subst h2
      exact hnew (e ▸ h1)
theorem vdel_run {ty : Nat} (hb : At w b (.map es cl)) (hE : VEnts es cl M) :
    ∃ es', (Builtin.delete_ #[103, 252] ty #[.map (some b), MkV k]).run Tryz.prog w = .ok (.tuple #[]) (setB w b (.map es' cl)) ∧ VEnts es' cl (vdel M k) := by
  have hf := vkey (w := w) (k := k) hE
  have hc : ∀ e, (Instr.checkKey e 10000 252 (MkV k)).run Tryz.prog w = .ok () w := fun e => ck_mark k e w
  cases ha : vfind k M 0 with
  | none =>
    rw [ha] at hf
    refine ⟨es, ?_, by rw [(vfind_none ha).2]; exact hE⟩
    simp [Builtin.delete_, run_underlying Tryz.underlying103, MapKept.run_getObj_map hb, hc, hf, MapKept.run_setObj_map _ hb, setB]
  | some jv =>
    obtain ⟨j, v⟩ := jv
    rw [ha] at hf
    obtain ⟨_, h2, h3⟩ := vfind_some ha
    rw [Nat.sub_zero] at h2 h3
    have hlen : es.toList.length = M.length := by
      have := congrArg List.length hE.ents
      simpa using this
    have hj : j < es.size := by
      have := (List.getElem?_eq_some_iff.1 h2).1
      simp at hlen
      omega
    refine ⟨es.eraseIdxIfInBounds j, ?_, ?_⟩
    · simp [Builtin.delete_, run_underlying Tryz.underlying103, MapKept.run_getObj_map hb, hc, hf, MapKept.run_setObj_map _ hb, setB]
    · have hl : (es.eraseIdxIfInBounds j).toList = es.toList.eraseIdx j := by
        rw [Array.eraseIdxIfInBounds, dif_pos hj, Array.toList_eraseIdx]
      rw [h3 hE.keys]
      refine ⟨?_, ?_, ?_, ?_⟩
      · rw [hl, map_erase, map_erase, hE.ents]
      · rw [hl]
        exact hE.born.sublist ((List.eraseIdx_sublist ..).map _)
      · intro e he
        rw [hl] at he
        exact hE.low e (List.mem_of_mem_eraseIdx he)
      · exact hE.keys.sublist ((List.eraseIdx_sublist ..).map _)
end
end Go.Proofs.YtbicffldggcdhaaGreatDoor

namespace Go.Proofs.YtbicffldggcdhaaGreatDoor
open Go

theorem bld_mark (a b : Int) (w : World) : (Instr.build 252 [(0, I a), (1, I b)].toArray).run Tryz.prog w = .ok (MkV (a, b)) w := by kernel_rfl
theorem bld_verdict (a : Int) (b : Bool) (w : World) : (Instr.build 254 [(0, I a), (1, B b)].toArray).run Tryz.prog w = .ok (VdV (a, b)) w := by kernel_rfl
theorem bld_entry (i s : Int) (e : Ed) (b : Bool) (w : World) : (Instr.build 54 [(0, I i), (1, I s), (2, EdV e), (3, B b)].toArray).run Tryz.prog w = .ok (.agg (Ent.vals ⟨i, s, e, b⟩).toArray) w := by kernel_rfl
theorem bs_entry (x : Ent) (w : World) : (Instr.buildSlice 46 1 [(0, .agg x.vals.toArray)].toArray).run Tryz.prog w = .ok (.slice (some ⟨w.heap.size, 0, none⟩) 1 1) (w.alloc (cel x.vals 54)) := by kernel_rfl
theorem append_entQ {w : World} {v s : Value} {A : List Ent} {q : Ent} {ty : Nat} (hrow : Row w v 54 9 A.length (fl Ent.vals A)) (hseg : Seg w s 9 1 q.vals) (hcap : A.length < 1000000) :
    ∃ v' w', (Builtin.append_ #[46, 46] ty #[v, s]).run Tryz.prog w = .ok v' w' ∧ Row w' v' 54 9 (A ++ [q]).length (fl Ent.vals (A ++ [q])) ∧ Frm (InV v) w w' ∧ ∀ b, InV v' b → InV v b ∨ w.heap.size ≤ b := by
  obtain ⟨v', w', h1, h2, h3, h4⟩ := append_seg (P := Tryz.prog) (sz := 9) (by' := 72) (ty := ty) (sT := 46) (u_ok rfl) (u_ok rfl) (fun kk h => by cases h) (s_ok rfl) (b_ok rfl) (z_ok rfl) rfl hrow hseg (ent_one q) (by omega) (by omega)
  exact ⟨v', w', h1, by rw [fl_append, List.length_append]; simpa [fl] using h2, h3, h4⟩
section
variable {w : World} {ρ : Operand → Value} {d : Option Nat} {t : Nat} {p : String} {af : Array Edge} {g : Option (Nat × Bool)}
theorem r_lookV {x y : Operand} {b : Nat} {k : Int × Int} {es : Array MapEntry} {cl : Nat} {M : VD} (hx : ρ x = .map (some b)) (hy : ρ y = MkV k) (hb : At w b (.map es cl)) (hE : VEnts es cl M) :
    (execOp ρ ⟨d, .lookup 103 x y true, t, p, af, g⟩).run Tryz.prog w = .ok (.value (.tuple #[VdV (((vfind k M 0).map (·.2)).getD (0, false)), B (vfind k M 0).isSome])) w := by
  simp [execOp, hx, hy, vlook_run hb hE]
theorem r_delV {x y : Operand} {ty b cl : Nat} {k : Int × Int} {es' : Array MapEntry} (hx : ρ x = .map (some b)) (hy : ρ y = MkV k) (h : (Builtin.delete_ #[103, 252] ty #[.map (some b), MkV k]).run Tryz.prog w = .ok (.tuple #[]) (setB w b (.map es' cl))) :
    (execOp ρ ⟨d, .call { callee := .builtin .delete, args := #[x, y], argTypes := #[103, 252] }, ty, p, af, g⟩).run Tryz.prog w = .ok (.value (.tuple #[])) (setB w b (.map es' cl)) := by
  simp only [execOp, resolve, Sem.run_bind, Sem.run_pure, Result.andThen_ok, invoke, builtin, List.map_toArray, List.map_cons, List.map_nil, hx, hy]
  rw [h]
  rfl
end
section
variable {PT : PTy} {w : World} {col : Nat → Nat} {k p t : Nat} {lv : Value} {mb cb cap : Nat} {rest : List Value} {ms : List CM} {Q : PPar}
theorem hasTaken_ret (h : PB PT w col k p t lv mb cb cap rest ms Q) (i s : Int) :
    Rets Tryz.prog 165 [Ptr p, I i, I s] w fun v w' => v = B (hasT Q.vd i s) ∧ Frm0 w w' := by
  have hh := h.head
  obtain ⟨es, cl, hm, hE⟩ := h.map
  refine rets_of Tryz.func165 (by kernel_rfl) rfl Tryz.ntmps165 (Nat.le_of_ble_eq_true rfl) ?_
  refine runG07 ?_
  refine s_val (r_build rfl (bld_mark _ _ _)) wnt_none ?_
  refine s_val (r_lookV (k := (i, s)) rfl rfl hm hE) wnt_none ?_
  refine runG07 ?_
  refine s_skip (r_storeAll (vs := [I (((vfind (i, s) Q.vd 0).map (·.2)).getD (0, false)).1, B (((vfind (i, s) Q.vd 0).map (·.2)).getD (0, false)).2]) (s_ok rfl) rfl rfl (by intro u hu; simp at hu; rcases hu with rfl | rfl <;> rfl) (at_alloc_new w _) rfl) wnt_none ?_
  refine runG07 ?_
  exact ret_b rfl rfl ⟨by rw [vfind_has], (Frm.of_alloc w _).setB (.inr (Nat.le_refl _)) _⟩
end
end Go.Proofs.YtbicffldggcdhaaGreatDoor

namespace Go.Proofs.YtbicffldggcdhaaGreatDoor
open Go

theorem res_cA {P : Program} {w : World} {n : Nat} {ds : List Deferred} {env : Env} {fn : Func} {a ty b m e : Nat} {D : TypeDesc} {l : List Value} (hr : fn.results = #[.cell a ty]) (hu : P.underlying ty = some D) (hD : isAggD D = true) (hz : szOf P ty = some m) (ha : ev n env (.tmp a) = .pointer (some ⟨b, 0, none⟩)) (hA : At w b (cel l e)) (hl : m = l.length) :
    (results fn (rep n ds env).tmps).run P w = .ok (.agg l.toArray) w := by
  rw [← tmp_getD n ds] at ha
  have hs : sub l 0 m = l := by rw [hl]; exact sub_all l
  have h1 : (loadVar ty ⟨b, 0, none⟩).run P w = .ok (.agg l.toArray) w := by
    have h0 := run_loadCells_at (P := P) (off := 0) (n := m) hA (by omega)
    rw [hs] at h0
    simp [loadVar, run_isAgg hu, hD, run_size hz, h0]
  have ha' : (rep n ds env).tmps[a]?.getD undef = .pointer (some ⟨b, 0, none⟩) := by rw [← ha, Array.getD_eq_getD_getElem?]
  simp [results, hr, ha', asAddr, h1]
theorem ret_cA {P : Program} {w : World} {n : Nat} {env : Env} {fn : Func} {a ty b m e : Nat} {D : TypeDesc} {l : List Value} {φ : Value → World → Prop} (hr : fn.results = #[.cell a ty]) (hu : P.underlying ty = some D) (hD : isAggD D = true) (hz : szOf P ty = some m) (ha : ev n env (.tmp a) = .pointer (some ⟨b, 0, none⟩)) (hA : At w b (cel l e)) (hl : m = l.length) (h : φ (.agg l.toArray) w) :
    bodyPost P fn (fun e w' => ∃ v, e = .returned v ∧ φ v w') .ret (rep n [] env) w := ret_run (res_cA hr hu hD hz ha hA hl) h
/-- All that is new gets this colour. -/
def paintA (col : Nat → Nat) (n m q : Nat) : Nat → Nat := fun b => if n ≤ b ∧ b < m then q else col b
theorem paintA_old {col : Nat → Nat} {n m q b : Nat} (h : b < n) : paintA col n m q b = col b := by rw [paintA, if_neg (by omega)]
theorem paintA_ext {k : Nat} {w w' : World} {col : Nat → Nat} {q : Nat} (hh : ∀ b, w.heap.size ≤ b → col b = 0) (hs : w.heap.size ≤ w'.heap.size) (hq : k ≤ q ∧ q < k + 100) : Ext k w w' col (paintA col w.heap.size w'.heap.size q) := by
  refine ⟨fun b hb => paintA_old hb, fun b hb => ?_, fun b hb => ?_⟩
  · unfold paintA
    rw [if_neg (by omega)]
    exact hh b (by omega)
  · unfold paintA
    split
    · exact .inr hq
    · exact .inl (hh b hb)
/-- A tree that is edited: its blocks are of one colour still. -/
theorem paintA_tree {PT : PTy} (sp : TreeSpec PT) {w w' : World} {t : Nat} {l : List Nd} {col : Nat → Nat} {q : Nat} (h : PT w' t l (fun b => col b = q ∨ w.heap.size ≤ b)) (_hq : q ≠ 0) (_hh : ∀ b, w.heap.size ≤ b → col b = 0) : PT w' t l (fun b => paintA col w.heap.size w'.heap.size q b = q) :=
  sp.weak h (fun b hb hl => by
    unfold paintA
    rcases hb with hb | hb
    · split
      · rfl
      · exact hb
    · rw [if_pos ⟨hb, hl⟩])
section
variable {PT : PTy} (sp : TreeSpec PT) {w w' : World} {col col' : Nat → Nat} {k p t : Nat} {lv lv' : Value} {mb cb cap : Nat} {rest : List Value} {ms : List CM} {Q Q' : PPar}
theorem PB.srv (sp : TreeSpec PT) (h : PB PT w col k p t lv mb cb cap rest ms Q) (e : Ext k w w' col col') (f : Frm (fun b => k ≤ col b ∧ col b < k + 4) w w')
    (hh : At w' p (cel [Ptr t, I Q'.n, I Q'.keeps, lv', .map (some mb), .slice (some ⟨cb, 0, none⟩) ms.length cap] 108)) (ht : PT w' t Q'.t (fun b => col' b = k + 1)) (hw : Wf Q'.t)
    (hl : Row w' lv' 54 9 Q'.log.length (fl Ent.vals Q'.log)) (hc : ∀ b, InV lv' b → col' b = k + 2) (hm : ∃ es cl, At w' mb (.map es cl) ∧ VEnts es cl Q'.vd) (hq : Q'.cls = Q.cls) :
    PB PT w' col' k p t lv' mb cb cap rest ms Q' := by
  obtain ⟨es, cl, hm1, _⟩ := h.map
  refine ⟨hh, by rw [e.old p (at_lt h.head)]; exact h.own, ht, hw, hl, hc, hm, by rw [e.old mb (at_lt hm1)]; exact h.cmap, f.at (by have := h.crow; omega) h.row, by rw [e.old cb (at_lt h.row)]; exact h.crow, by rw [hq]; exact h.cls, fun i m hi => ?_, h.few, e.high, h.pos⟩
  have h1 := (h.cli i m hi).recol sp e.old
  refine h1.frm sp (S := fun b => b < w.heap.size ∧ (k ≤ col b ∧ col b < k + 4)) ⟨f.size, fun b o hb hn => f.same b o hb (fun hs => hn ⟨at_lt hb, hs⟩), f.tape, f.os, f.output⟩ (fun b h2 h3 h4 => ?_)
  rw [e.old b h4.1] at h2 h3
  omega
/-- The map is another. -/
theorem PB.remap (sp : TreeSpec PT) (h : PB PT w col k p t lv mb cb cap rest ms Q) {es : Array MapEntry} {cl : Nat} {M : VD} (hE : VEnts es cl M) : PB PT (setB w mb (.map es cl)) col k p t lv mb cb cap rest ms { Q with vd := M } ∧ Ext k w (setB w mb (.map es cl)) col col ∧ Frm (fun b => k ≤ col b ∧ col b < k + 4) w (setB w mb (.map es cl)) := by
  obtain ⟨es0, cl0, hm1, _⟩ := h.map
  have hk := h.cmap
  have f1 : Frm (fun b => b = mb) w (setB w mb (.map es cl)) := (Frm.refl (fun b => b = mb) w).setB (b := mb) (.inl rfl) _
  have f : Frm (fun b => k ≤ col b ∧ col b < k + 4) w (setB w mb (.map es cl)) := (Frm.refl _ w).setB (b := mb) (.inl (by omega)) _
  have e : Ext k w (setB w mb (.map es cl)) col col := (Ext.refl h.high).setB
  refine ⟨h.srv sp (Q' := { Q with vd := M }) e f (f1.at (fun e => by have := h.own; subst e; omega) h.head) (sp.frm h.tree f1 (fun b hb e => by subst e; omega)) h.wf (h.log.frm f1 (fun b hb e => by have := h.clog b hb; subst e; omega)) h.clog ⟨es, cl, at_setB _ hm1, hE⟩ rfl, e, f⟩
/-- The log is another. -/
theorem PB.relog (sp : TreeSpec PT) {w2 : World} {v : Value} {y : List Ent} (h : PB PT w col k p t lv mb cb cap rest ms Q) (f : Frm (InV lv) w w2) (r : Row w2 v 54 9 y.length (fl Ent.vals y)) (n : ∀ b, InV v b → InV lv b ∨ w.heap.size ≤ b) :
    PB PT (setB w2 p (cel [Ptr t, I Q.n, I Q.keeps, v, .map (some mb), .slice (some ⟨cb, 0, none⟩) ms.length cap] 108)) (paint col w.heap.size v (k + 2)) k p t v mb cb cap rest ms { Q with log := y } ∧
    Ext k w (setB w2 p (cel [Ptr t, I Q.n, I Q.keeps, v, .map (some mb), .slice (some ⟨cb, 0, none⟩) ms.length cap] 108)) col (paint col w.heap.size v (k + 2)) ∧ Frm (fun b => k ≤ col b ∧ col b < k + 4) w (setB w2 p (cel [Ptr t, I Q.n, I Q.keeps, v, .map (some mb), .slice (some ⟨cb, 0, none⟩) ms.length cap] 108)) := by
  obtain ⟨es0, cl0, hm1, hE⟩ := h.map
  have hl := h.clog
  have ho := h.own
  have hk := h.cmap
  have cv := paint_new n h.clog
  have e0 : Ext k w w2 col (paint col w.heap.size v (k + 2)) := paint_ext h.high f.size r.blk (by omega)
  have e : Ext k w (setB w2 p (cel [Ptr t, I Q.n, I Q.keeps, v, .map (some mb), .slice (some ⟨cb, 0, none⟩) ms.length cap] 108)) col (paint col w.heap.size v (k + 2)) := e0.setB
  have f' : Frm (fun b => k ≤ col b ∧ col b < k + 4) w (setB w2 p (cel [Ptr t, I Q.n, I Q.keeps, v, .map (some mb), .slice (some ⟨cb, 0, none⟩) ms.length cap] 108)) := (f.mono (fun b hb => .inl (by rw [hl b hb]; omega))).setB (b := p) (.inl (by omega)) _
  have hp := at_lt h.head
  have fp : Frm (fun b => b = p) w2 (setB w2 p (cel [Ptr t, I Q.n, I Q.keeps, v, .map (some mb), .slice (some ⟨cb, 0, none⟩) ms.length cap] 108)) := (Frm.refl (fun b => b = p) w2).setB (b := p) (.inl rfl) _
  refine ⟨h.srv sp (Q' := { Q with log := y }) e f' (at_setB _ (f.at (fun hb => by have := hl p hb; omega) h.head)) ?_ h.wf (r.frm fp (fun b hb e9 => ?_)) cv ⟨es0, cl0, fp.at (fun e9 => by subst e9; omega) (f.at (fun hb => by have := hl mb hb; omega) hm1), hE⟩ rfl, e, f'⟩
  · have h1 := sp.frm (sp.frm (sp.weak h.tree (fun b hb hl => ⟨hb, hl⟩) : PT w t Q.t (fun b => col b = k + 1 ∧ b < w.heap.size)) f (fun b hb h9 => by have := hl b h9; omega)) fp (fun b hb e9 => by subst e9; omega)
    exact sp.weak h1 (fun b hb _ => by rw [paint_old hb.2]; exact hb.1)
  · subst e9
    have := cv b hb
    rw [paint_old hp] at this
    omega
end
end Go.Proofs.YtbicffldggcdhaaGreatDoor

namespace Go.Proofs.YtbicffldggcdhaaGreatDoor
open Go

def kpickF (c n : Int) : Int := if c < 0 then (-(c + 1)) % n else c % n
theorem kpickF_lt {c n : Int} (hn : 0 < n) : 0 ≤ kpickF c n ∧ kpickF c n < n := by
  unfold kpickF
  split
  · exact ⟨Int.emod_nonneg _ (by omega), Int.emod_lt_of_pos _ hn⟩
  · exact ⟨Int.emod_nonneg _ (by omega), Int.emod_lt_of_pos _ hn⟩
theorem kpick_ret {c n : Int} (hc : Int64 c) (hn : 0 < n) (w : World) : Rets Tryz.prog 25 [I c, I n] w fun v w' => v = I (kpickF c n) ∧ w = w' := by
  unfold Int64 at hc
  refine rets_of Tryz.func25 (by kernel_rfl) rfl Tryz.ntmps25 (Nat.le_of_ble_eq_true rfl) ?_
  by_cases h : c < 0
  · refine runG07 ?_
    exact ret_i rfl rfl ⟨by rw [kpickF, if_pos h, show -(c + 1) = 0 - (c + 1) by omega], rfl⟩
  · refine runG07 ?_
    exact ret_i rfl rfl ⟨by rw [kpickF, if_neg h], rfl⟩
def EdRaw (e : Ed) : Prop := Int64 e.kind ∧ Int64 e.node ∧ Int64 e.parent ∧ Int64 e.key ∧ Int64 e.prop ∧ Int64 e.value
def keditF (e : Ed) : Ed := ⟨1 + kpickF e.kind 4, kpickF e.node 40, kpickF e.parent 40, kpickF e.key 1001, kpickF e.prop 4, kpickF e.value 1000001⟩
theorem bld_edit6 (a b c d e f : Int) (w : World) : (Instr.build 31 [(0, I a), (1, I b), (2, I c), (3, I d), (4, I e), (5, I f)].toArray).run Tryz.prog w = .ok (EdV ⟨a, b, c, d, e, f⟩) w := by kernel_rfl
set_option maxHeartbeats 1000000 in
theorem kedit_ret {e : Ed} (he : EdRaw e) (w : World) : Rets Tryz.prog 16 [EdV e] w fun v w' => v = EdV (keditF e) ∧ Frm0 w w' := by
  obtain ⟨h0, h1, h2, h3, h4, h5⟩ := he
  have f1 : Frm0 w ((w.alloc (cel e.vals 31)).alloc (cel [I 0, I 0, I 0, I 0, I 0, I 0] 31)) := ((Frm.refl _ w).alloc _).alloc _
  have hb1 : At ((w.alloc (cel e.vals 31)).alloc (cel [I 0, I 0, I 0, I 0, I 0, I 0] 31)) w.heap.size (cel e.vals 31) := at_alloc _ (at_alloc_new _ _)
  have hc1 : At ((w.alloc (cel e.vals 31)).alloc (cel [I 0, I 0, I 0, I 0, I 0, I 0] 31)) (w.heap.size + 1) (cel [I 0, I 0, I 0, I 0, I 0, I 0] 31) := by
    have := at_alloc_new (w.alloc (cel e.vals 31)) (cel [I 0, I 0, I 0, I 0, I 0, I 0] 31)
    rw [World.size_alloc] at this
    exact this
  have hk := kpickF_lt (c := e.kind) (n := 4) (by omega)
  refine rets_of Tryz.func16 (by kernel_rfl) rfl Tryz.ntmps16 (Nat.le_of_ble_eq_true rfl) ?_
  refine runG07 ?_
  rw [show (w.alloc (cel e.vals 31)).heap.size = w.heap.size + 1 from World.size_alloc _ _]
  generalize (w.alloc (cel e.vals 31)).alloc (cel [I 0, I 0, I 0, I 0, I 0, I 0] 31) = w1 at *
  refine w_drawn ((0, false) :: (1, false) :: (4, false) :: (5, false) :: (7, false) :: (8, false) :: (10, false) :: (11, false) :: (13, false) :: (14, false) :: (16, false) :: (17, false) :: (2, true) :: (3, false) :: (6, true) :: (9, true) :: (12, true) :: (15, true) :: (18, true) :: (19, false) :: []) [20] (fun wq => Frm0 w1 wq) mixed (by kernel_rfl) ?_ ?_
  · exact Frm.of_drew _
  · refine runG07 ?_
    refine x_callf rfl (kpick_ret h0 (n := 4) (by omega) _) rfl wnt_none ?_
    rintro v w2 ⟨rfl, rfl⟩
    refine ⟨Frm.of_drew _, ?_⟩
    refine runG07 ?_
    refine x_callf rfl (kpick_ret h1 (n := 40) (by omega) _) rfl wnt_none ?_
    rintro v w2 ⟨rfl, rfl⟩
    refine ⟨Frm.of_drew _, ?_⟩
    refine runG07 ?_
    refine x_callf rfl (kpick_ret h2 (n := 40) (by omega) _) rfl wnt_none ?_
    rintro v w2 ⟨rfl, rfl⟩
    refine ⟨Frm.of_drew _, ?_⟩
    refine runG07 ?_
    refine x_callf rfl (kpick_ret h3 (n := 1001) (by omega) _) rfl wnt_none ?_
    rintro v w2 ⟨rfl, rfl⟩
    refine ⟨Frm.of_drew _, ?_⟩
    refine runG07 ?_
    refine x_callf rfl (kpick_ret h4 (n := 4) (by omega) _) rfl wnt_none ?_
    rintro v w2 ⟨rfl, rfl⟩
    refine ⟨Frm.of_drew _, ?_⟩
    refine runG07 ?_
    refine x_callf rfl (kpick_ret h5 (n := 1000001) (by omega) _) rfl wnt_none ?_
    rintro v w2 ⟨rfl, rfl⟩
    refine ⟨Frm.of_drew _, ?_⟩
    refine runG07 ?_
    refine x_q rfl (fun wq hq => r_build rfl (bld_edit6 _ _ _ _ _ _ wq)) wnt_none ?_
    refine x_late ?_
    refine y_skip rfl (r_storeAll (vs := (keditF e).vals) (s_ok rfl) rfl rfl (edit_one _) ((Frm.of_drew w1).at0 hc1) rfl) wnt_none ?_
    refine runG07 ?_
    refine ret_cA rfl (u_ok rfl) rfl (s_ok rfl) rfl (at_setB _ ((Frm.of_drew w1).at0 hc1)) rfl ⟨rfl, (f1.trans0 (Frm.of_drew w1)).setB (b := w.heap.size + 1) (.inr (by omega)) _⟩

section
variable {w : World}
theorem eq_arrG (d : Nat) (a b c e a' b' c' e' : Int) : (Op.equalIn (d + 2) 44 (.agg [I a, I b, I c, I e].toArray) (.agg [I a', I b', I c', I e'].toArray)).run Tryz.prog w = .ok (decide (a = a' ∧ b = b' ∧ c = c' ∧ e = e')) w := by
  simp only [Op.equalIn, Sem.run_bind, run_underlying Tryz.underlying44, Result.andThen_ok, run_size (s_ok (t := 3) rfl)]
  simp [Std.Legacy.Range.forIn_eq_forIn_range', Std.Legacy.Range.size, List.range', part_int]
  by_cases h1 : a = a'
  · by_cases h2 : b = b'
    · by_cases h3 : c = c'
      · by_cases h4 : e = e'
        · simp [h1, h2, h3, h4]
        · simp [h1, h2, h3, h4]
      · simp [h1, h2, h3]
    · simp [h1, h2]
  · simp [h1]
def ndEq (x y : Nd) : Bool := decide (x.id = y.id ∧ x.par = y.par ∧ x.key = y.key ∧ (x.p0 = y.p0 ∧ x.p1 = y.p1 ∧ x.p2 = y.p2 ∧ x.p3 = y.p3))
theorem ndEq_self (x : Nd) : ndEq x x = true := by simp [ndEq]
theorem eq_nodeG (d : Nat) (x y : Nd) : (Op.equalIn (d + 3) 90 (.agg x.vals.toArray) (.agg y.vals.toArray)).run Tryz.prog w = .ok (ndEq x y) w := by
  have p0 : ∀ (x : Nd) (w : World), (Go.part 3 x.vals.toArray 0).run Tryz.prog w = .ok (I x.id) w := fun x w => part_int rfl
  have p1 : ∀ (x : Nd) (w : World), (Go.part 3 x.vals.toArray 1).run Tryz.prog w = .ok (I x.par) w := fun x w => part_int rfl
  have p2 : ∀ (x : Nd) (w : World), (Go.part 3 x.vals.toArray 2).run Tryz.prog w = .ok (I x.key) w := fun x w => part_int rfl
  have e3 : ∀ (a b : Int) (w : World), (Op.equalIn (d + 2) 3 (I a) (I b)).run Tryz.prog w = .ok (a == b) w := fun a b w => eq_int2 (d + 1) a b
  have e4 : ∀ (x y : Nd) (w : World), (Op.equalIn (d + 2) 44 (.agg [I x.p0, I x.p1, I x.p2, I x.p3].toArray) (.agg [I y.p0, I y.p1, I y.p2, I y.p3].toArray)).run Tryz.prog w = .ok (decide (x.p0 = y.p0 ∧ x.p1 = y.p1 ∧ x.p2 = y.p2 ∧ x.p3 = y.p3)) w := fun x y w => eq_arrG d _ _ _ _ _ _ _ _
  unfold ndEq
  rw [Op.equalIn]
  simp [run_underlying Tryz.underlying90]
  simp only [p0, p1, p2, part_props, e3, e4, Result.andThen_ok]
  by_cases h1 : x.id = y.id
  · by_cases h2 : x.par = y.par
    · by_cases h3 : x.key = y.key
      · by_cases h4 : (x.p0 = y.p0 ∧ x.p1 = y.p1 ∧ x.p2 = y.p2 ∧ x.p3 = y.p3)
        · simp only [h1, h2, h3]; rw [decide_eq_true h4]; simp [h4]
        · simp only [h1, h2, h3]; rw [decide_eq_false h4]; simp; exact fun a b c d => h4 ⟨a, b, c, d⟩
      · simp [h1, h2, h3]
    · simp [h1, h2]
  · simp [h1]
end
section
variable {w : World} {ρ : Operand → Value} {d : Option Nat} {t ty2 : Nat} {p : String} {af : Array Edge} {g : Option (Nat × Bool)} {x y : Operand}
theorem r_ne_nodeG {n m : Nd} {c : Bool} (hx : ρ x = .agg n.vals.toArray) (hy : ρ y = .agg m.vals.toArray) (hc : ndEq n m = !c) : (execOp ρ ⟨d, .binOp .neq 90 x y ty2, t, p, af, g⟩).run Tryz.prog w = .ok (.value (.bool c)) w := by
  have hc' : c = !ndEq n m := by rw [hc]; cases c <;> rfl
  subst hc'
  clear hc
  refine r_eq2 hx hy (by simp [eqGuard]) ?_
  simp [binOp, Op.equal, Op.maxDepth, eq_nodeG 9997 n m]
end
section
variable {w : World} {ρ : Operand → Value} {d : Option Nat} {t ty2 : Nat} {p : String} {af : Array Edge} {g : Option (Nat × Bool)} {x y : Operand}
theorem r_ne_bool {a b c : Bool} (hx : ρ x = B a) (hy : ρ y = B b) (hc : c = (a != b)) : (execOp ρ ⟨d, .binOp .neq 4 x y ty2, t, p, af, g⟩).run Tryz.prog w = .ok (.value (.bool c)) w := by
  subst hc
  refine r_eq2 hx hy (by simp [eqGuard]) ?_
  cases a <;> cases b <;> kernel_rfl
end
def fx (l : List Nd) (id : Int) : Nd := (fnd id l).getD root0
def fk (l : List Nd) (id : Int) : Bool := (fnd id l).isSome
theorem findV_fx (l : List Nd) (id : Int) : findV l id = .tuple [.agg (fx l id).vals.toArray, B (fk l id)].toArray := by
  unfold findV fx fk
  cases fnd id l <;> rfl
set_option maxHeartbeats 1000000 in
theorem ksame_ret {PT : PTy} (sp : TreeSpec PT) {w : World} {a c : Nat} {l m : List Nd} {S T : Nat → Prop} (hA : PT w a l S) (hC : PT w c m T) (hl : Wf l) (hm : Wf m) :
    Rets Tryz.prog 20 [Ptr a, Ptr c] w fun v w' => (∃ b, v = B b ∧ ((l.length = m.length ∧ ∀ i : Nat, i < 40 → fnd i l = fnd i m) → b = true)) ∧ Frm0 w w' := by
  have hs1 := hl.small
  have hs2 := hm.small
  refine rets_of Tryz.func20 (by kernel_rfl) rfl Tryz.ntmps20 (Nat.le_of_ble_eq_true rfl) ?_
  refine runG07 ?_
  refine s_val (r_eqp rfl) wnt_none ?_
  refine runG07 ?_
  refine s_val (r_eqp rfl) (by (first | (with_reducible exact wnt_none) | ((with_reducible apply wnt_y); exact rfl; exact rfl; exact rfl; exact rfl; (with_reducible exact rfl)))) ?_
  refine runG07 ?_
  refine s_callf (sp.len hA) rfl (by (first | (with_reducible exact wnt_none) | ((with_reducible apply wnt_y); exact rfl; exact rfl; exact rfl; exact rfl; (with_reducible exact rfl)))) ?_
  rintro v w1 ⟨rfl, f1⟩
  refine runG07 ?_
  refine s_callf (sp.len (sp.frm hC f1 (fun _ _ h => h))) rfl (by (first | (with_reducible exact wnt_none) | ((with_reducible apply wnt_y); exact rfl; exact rfl; exact rfl; exact rfl; (with_reducible exact rfl)))) ?_
  rintro v w2 ⟨rfl, f2'⟩
  have f2 := f1.trans0 f2'
  clear f2'
  by_cases hlen : l.length = m.length
  · refine runG07 ?_
    refine lp (fun env w' => Frm0 w w' ∧ ∃ env0, ∃ i : Nat, env = setL env0 [(0, Ptr a), (1, Ptr c), (5, I i)] ∧ i ≤ 40) (fun env _ => 40 - cnt (env 5)) ?_ ?_
    · exact ⟨f2, _, 0, fixL ⟨rfl, rfl, rfl, trivial⟩, by omega⟩
    · rintro env w' ⟨hf, env0, i, rfl, hi⟩
      by_cases hlt : i < 40
      · refine runG07 ?_
        refine s_callf (sp.find i (sp.frm hA hf (fun _ _ h => h)) hl) rfl wnt_none ?_
        rintro v w3 ⟨rfl, f3⟩
        rw [findV_fx]
        refine runG07 ?_
        refine s_skip (r_storeAll (vs := (fx l i).vals) (s_ok rfl) rfl rfl (node_one _) (at_alloc_new w3 _) rfl) wnt_none ?_
        have hn4 := at_setB (cel (fx l i).vals 90) (at_alloc_new w3 (cel [I 0, I 0, I 0, I 0, I 0, I 0, I 0] 90))
        have f4 : Frm0 w' (setB (w3.alloc (cel [I 0, I 0, I 0, I 0, I 0, I 0, I 0] 90)) w3.heap.size (cel (fx l i).vals 90)) := (f3.alloc _).setB (.inr f3.size) _
        generalize setB (w3.alloc (cel [I 0, I 0, I 0, I 0, I 0, I 0, I 0] 90)) w3.heap.size (cel (fx l i).vals 90) = w4 at *
        refine runG07 ?_
        refine s_callf (sp.find i (sp.frm hC (hf.trans0 f4) (fun _ _ h => h)) hm) rfl wnt_none ?_
        rintro v w5 ⟨rfl, f5⟩
        rw [findV_fx]
        refine runG07 ?_
        refine s_skip (r_storeAll (vs := (fx m i).vals) (s_ok rfl) rfl rfl (node_one _) (at_alloc_new w5 _) rfl) wnt_none ?_
        have hn6 := at_setB (cel (fx m i).vals 90) (at_alloc_new w5 (cel [I 0, I 0, I 0, I 0, I 0, I 0, I 0] 90))
        have f6 : Frm0 w4 (setB (w5.alloc (cel [I 0, I 0, I 0, I 0, I 0, I 0, I 0] 90)) w5.heap.size (cel (fx m i).vals 90)) := (f5.alloc _).setB (.inr f5.size) _
        generalize setB (w5.alloc (cel [I 0, I 0, I 0, I 0, I 0, I 0, I 0] 90)) w5.heap.size (cel (fx m i).vals 90) = w6 at *
        have hn4' := f6.at0 hn4
        have F6 := (hf.trans0 f4).trans0 f6
        refine runG07 ?_
        refine s_val (r_ne_bool (a := fk l i) (b := fk m i) (c := (fk l i != fk m i)) rfl rfl rfl) wnt_none ?_
        by_cases hpq : fk l i = fk m i
        · rw [show (fk l i != fk m i) = false by rw [hpq]; simp]
          refine runG07 ?_
          rw [sub_all' (show (fx l i).vals.length = 7 from rfl), sub_all' (show (fx m i).vals.length = 7 from rfl)]
          cases hne : ndEq (fx l i) (fx m i)
          · refine s_val (r_ne_nodeG (n := fx l i) (m := fx m i) (c := true) rfl rfl hne) (by (first | (with_reducible exact wnt_none) | ((with_reducible apply wnt_y); exact rfl; exact rfl; exact rfl; exact rfl; (with_reducible exact rfl)))) ?_
            refine runG07 ?_
            refine ret_b rfl rfl ⟨⟨false, rfl, fun h => ?_⟩, F6⟩
            rw [show fx l i = fx m i by unfold fx; rw [h.2 i hlt], ndEq_self] at hne
            exact hne.symm
          · refine s_val (r_ne_nodeG (n := fx l i) (m := fx m i) (c := false) rfl rfl hne) (by (first | (with_reducible exact wnt_none) | ((with_reducible apply wnt_y); exact rfl; exact rfl; exact rfl; exact rfl; (with_reducible exact rfl)))) ?_
            refine runG07 ?_
            exact ⟨_, rfl, ⟨F6, _, i + 1, fixL ⟨rfl, rfl, rfl, trivial⟩, by omega⟩, by show 40 - ((i : Int) + 1).toNat < 40 - (i : Int).toNat; omega⟩
        · rw [show (fk l i != fk m i) = true by simpa using hpq]
          refine runG07 ?_
          refine ret_b rfl rfl ⟨⟨false, rfl, fun h => absurd (by unfold fk; rw [h.2 i hlt]) hpq⟩, F6⟩
      · refine runG07 ?_
        exact ret_b rfl rfl ⟨⟨true, rfl, fun _ => rfl⟩, hf⟩
  · have hne : (l.length : Int) ≠ m.length := by omega
    refine runG07 ?_
    exact ret_b rfl rfl ⟨⟨false, rfl, fun h => absurd h.1 hlen⟩, f2⟩
end Go.Proofs.YtbicffldggcdhaaGreatDoor

namespace Go.Proofs.YtbicffldggcdhaaGreatDoor
open Go Go.ChangeShapes Go.WideShapes

section
variable {H : Type} {enc : TypeId × Value → H} {W : World} {base : Nat} {sp : Nat → Bool} {held : Bool} {n : Nat}
theorem open_editR {cs : List Value} {x : DataW H × List MemPlace} (h : DataW.trod enc Tryz.prog W base sp held n 31 cs = some x) : ∃ e : Ed, cs = e.vals ∧ EdRaw e := by
  obtain ⟨xs, m, _, _, hl, hn, hf⟩ := DataW.trod_struct (u_ok rfl) h
  rw [cellsEdit] at hl
  have hn' : xs.length = 6 := hn
  obtain ⟨z0, h0, q0⟩ := int_cell (hf 0 _ rfl) (by omega)
  obtain ⟨z1, h1, q1⟩ := int_cell (hf 1 _ rfl) (by omega)
  obtain ⟨z2, h2, q2⟩ := int_cell (hf 2 _ rfl) (by omega)
  obtain ⟨z3, h3, q3⟩ := int_cell (hf 3 _ rfl) (by omega)
  obtain ⟨z4, h4, q4⟩ := int_cell (hf 4 _ rfl) (by omega)
  obtain ⟨z5, h5, q5⟩ := int_cell (hf 5 _ rfl) (by omega)
  exact ⟨⟨z0, z1, z2, z3, z4, z5⟩, list6 hl h0 h1 h2 h3 h4 h5, q0, q1, q2, q3, q4, q5⟩
end
section
variable {H : Type} {enc : TypeId × Value → H} {W : World} {sp : Nat → Bool} {held : Bool}
end
end Go.Proofs.YtbicffldggcdhaaGreatDoor

namespace Go.Proofs.YtbicffldggcdhaaGreatDoor
open Go

structure QB (Q : PPar) : Prop where
  n : 0 ≤ Q.n ∧ Q.n < 1000000000000
  log : Q.log.length < 1000
  vd : Q.vd.length < 1000000000000
  cl : ∀ c ∈ Q.cls, c.pend.length < 1000 ∧ c.up.length < 1000 ∧ c.ans.length < 1900000000000 ∧ c.down.length < 890000000000 ∧ 0 ≤ c.n ∧ c.n ≤ Q.n
  hello : ∀ c ∈ Q.cls, ∀ n us, c.up = .inl n :: us → 0 ≤ n ∧ n ≤ Q.n
  req : ∀ c ∈ Q.cls, ∀ s e us, c.up = .inr (s, e) :: us → 0 ≤ s ∧ s < 1000000000000000
  snap : ∀ c ∈ Q.cls, ∀ t n L ds, c.down = .inr (t, n, L) :: ds → L.length < 1900000000000 ∧ ∀ y ∈ ds, ∃ x, y = Sum.inl x
theorem Par.cl_of {P : Par} {j : Nat} {c : Cli} (h : P.cls[j]? = some c) : P.cl j = some c := by
  unfold Par.cl
  rw [if_neg (by omega)]
  exact h
theorem VOk.len {vd : VD} {ents : List Ent} (h : VOk vd ents) : vd.length ≤ ents.length := by
  have h1 := nodup_sub (m := ents.map fun x => (x.client, x.seq)) h.keys (fun k hk => by
    obtain ⟨⟨k', v⟩, h2, rfl⟩ := List.mem_map.1 hk
    obtain ⟨i, s⟩ := k'
    obtain ⟨j, x, h3, rfl, rfl, _⟩ := (h.mem i s v).1 h2
    exact List.mem_map.2 ⟨x, List.mem_of_getElem? h3, rfl⟩)
  rw [List.length_map, List.length_map] at h1
  exact h1
theorem ans_few {ents : List Ent} {i : Int} {c : Cli} (h : SC ents i c) : c.ans.length ≤ ents.length := by
  rw [h.aq]
  unfold ansOf
  rw [List.length_map]
  refine Nat.le_trans (List.length_filter_le _ _) ?_
  rw [List.length_take]
  omega
/-- The same, out of how many entries there are. -/
theorem qb_of2 {Q : PPar} {P : Par} (h : Sim Q P) (hs : SP P) (hi : POk P) (he : P.ents.length ≤ 885000000000) (hl : 0 ≤ P.log ∧ P.log ≤ 8) : QB Q := by
  have hn := h.n
  have key : ∀ c ∈ Q.cls, ∃ (j : Nat) (y : Cli), P.cl j = some y ∧ c = reprC y ∧ y ∈ P.cls := fun c hc => by
    rw [h.cls] at hc
    obtain ⟨y, hy, rfl⟩ := List.mem_map.1 hc
    obtain ⟨j, hj⟩ := List.getElem?_of_mem hy
    exact ⟨j, y, Par.cl_of hj, rfl, hy⟩
  refine ⟨by omega, ?_, ?_, fun c hc => ?_, fun c hc n us hu => ?_, fun c hc s e us hu => ?_, fun c hc t n L ds hd => ?_⟩
  · have h1 := log_len P hl.1
    rw [h.log]
    split at h1 <;> omega
  · have := h.vd.len
    omega
  · obtain ⟨j, y, hy, rfl, hm⟩ := key c hc
    have h1 := (hi.get hy).up13
    have h2 := (hs.get hy).p6
    have h5 := ans_few (hs.get hy)
    have h3 := (hi.get hy).down_le
    have h4 := (hs.get hy).n0
    refine ⟨by show y.pend.length < 1000; omega, ?_, by show y.ans.length < _; omega, ?_, h4.1, ?_⟩
    · show (y.up.map reprU).length < 1000
      rw [List.length_map]
      omega
    · show (y.down.map _).length < _
      rw [List.length_map]
      omega
    · show y.n ≤ Q.n
      omega
  · obtain ⟨j, y, hy, rfl, hm⟩ := key c hc
    have hu' : y.up.map reprU = .inl n :: us := hu
    cases hyu : y.up with
    | nil => rw [hyu] at hu'; cases hu'
    | cons m ms =>
      rw [hyu, List.map_cons, List.cons.injEq] at hu'
      have hm1 := hu'.1
      unfold reprU at hm1
      split at hm1
      · rename_i hh
        cases hm1
        have h0 := (hi.get hy).ok
        have h1 := (h0.hl m (by rw [hyu]; exact List.mem_cons_self) hh).1
        have h2 := h0.n0
        omega
      · cases hm1
  · obtain ⟨j, y, hy, rfl, hm⟩ := key c hc
    have hu' : y.up.map reprU = .inr (s, e) :: us := hu
    cases hyu : y.up with
    | nil => rw [hyu] at hu'; cases hu'
    | cons m ms =>
      rw [hyu, List.map_cons, List.cons.injEq] at hu'
      have hm1 := hu'.1
      unfold reprU at hm1
      split at hm1
      · cases hm1
      · rename_i hh
        cases hm1
        obtain ⟨_, _, s', e', h1, _, _, h2, _⟩ := (hs.get hy).first hyu (by simpa using hh)
        have h3 := (hs.get hy).sq
        have h5 := ans_few (hs.get hy)
        have h6 := (hs.get hy).p6
        have h4 : m.seq = (s' : Int) + 1 := by rw [h1]; rfl
        omega
  · obtain ⟨j, y, hy, rfl, hm⟩ := key c hc
    have hy0 := hy
    have hd' : y.down.map (reprD y.ans.length) = .inr (t, n, L) :: ds := hd
    cases hyd : y.down with
    | nil => rw [hyd] at hd'; cases hd'
    | cons m ms =>
      rw [hyd, List.map_cons, List.cons.injEq] at hd'
      have h1 : m.ans.length < 1900000000000 := by
        have := ((hi.get hy).ok.dt m (by rw [hyd]; exact List.mem_cons_self)).2.1
        omega
      have hm1 := hd'.1
      unfold reprD at hm1
      split at hm1
      · cases hm1
        refine ⟨Nat.lt_of_le_of_lt (List.length_filter_le _ _) h1, fun y hy => ?_⟩
        rw [← hd'.2] at hy
        obtain ⟨z, hz, rfl⟩ := List.mem_map.1 hy
        have := (hs.get hy0).tail_news hyd z hz
        refine ⟨z.ent, ?_⟩
        unfold reprD
        rw [this]
      · cases hm1
end Go.Proofs.YtbicffldggcdhaaGreatDoor

namespace Go.Proofs.YtbicffldggcdhaaGreatDoor
open Go

/-- The edits that a client has let in are its pending ones and its entries, by their numbers. -/
structure IC (ents : List Ent) (i : Int) (ins : List Ed) (c : Cli) : Prop where
  len : c.seq = ins.length
  pd : ∀ q ∈ c.pend, ∃ j : Nat, q.1 = (j : Int) + 1 ∧ ins[j]? = some q.2
  es : ∀ x ∈ mine ents i, ∃ j : Nat, x.seq = (j : Int) + 1 ∧ ins[j]? = some x.e
theorem ic0 {i : Int} : IC [] i [] cli0 := ⟨rfl, fun q h => (by cases h), fun x h => (by cases h)⟩
section
variable {ents : List Ent} {i : Int} {ins : List Ed} {c : Cli}
theorem IC.sub {d : Cli} (h : IC ents i ins c) (hs : d.seq = c.seq) (hp : ∀ q ∈ d.pend, q ∈ c.pend) : IC ents i ins d := ⟨by rw [hs]; exact h.len, fun q hq => h.pd q (hp q hq), h.es⟩
theorem IC.edit (h : IC ents i ins c) (e : Ed) : IC ents i (ins ++ [e]) (editC c e) := by
  have grow : ∀ {j : Nat} {x : Ed}, ins[j]? = some x → (ins ++ [e])[j]? = some x := fun {j x} hj => by
    rw [List.getElem?_append_left (List.getElem?_eq_some_iff.1 hj).1]
    exact hj
  refine ⟨?_, fun q hq => ?_, fun x hx => ?_⟩
  · show c.seq + 1 = _
    rw [h.len, List.length_append]
    rfl
  · have hq' : q ∈ c.pend ++ [(c.seq + 1, e)] := hq
    rcases List.mem_append.1 hq' with h1 | h1
    · obtain ⟨j, h2, h3⟩ := h.pd q h1
      exact ⟨j, h2, grow h3⟩
    · simp at h1
      subst h1
      exact ⟨ins.length, by rw [h.len], by rw [List.getElem?_append_right (Nat.le_refl _), Nat.sub_self]; rfl⟩
  · obtain ⟨j, h2, h3⟩ := h.es x hx
    exact ⟨j, h2, grow h3⟩
theorem tell_pend (x : Ent) (c : Cli) : (tell x c).pend = c.pend ∧ (tell x c).seq = c.seq ∧ (tell x c).base = c.base ∧ (tell x c).n = c.n := by
  unfold tell
  split <;> exact ⟨rfl, rfl, rfl, rfl⟩
theorem IC.tell {x : Ent} (h : IC ents i ins c) (hx : x.client = i → ∃ j : Nat, x.seq = (j : Int) + 1 ∧ ins[j]? = some x.e) : IC (ents ++ [x]) i ins (tell x c) := by
  refine ⟨by rw [(tell_pend x c).2.1]; exact h.len, fun q hq => h.pd q (by rw [(tell_pend x c).1] at hq; exact hq), fun y hy => ?_⟩
  rw [mine_snoc] at hy
  rcases List.mem_append.1 hy with h1 | h1
  · exact h.es y h1
  · split at h1
    · rename_i hc
      simp at h1
      subst h1
      exact hx hc
    · cases h1
theorem answered_sub (c : Cli) (a : Ans) : (answered c a).seq = c.seq ∧ ∀ q ∈ (answered c a).pend, q ∈ c.pend := by
  unfold answered
  split
  · exact ⟨rfl, fun q hq => List.mem_of_mem_eraseP hq⟩
  · exact ⟨rfl, fun q hq => hq⟩
theorem fold_answered_sub : ∀ (l : List Ans) (c : Cli), (l.foldl answered c).seq = c.seq ∧ ∀ q ∈ (l.foldl answered c).pend, q ∈ c.pend
  | [], c => ⟨rfl, fun _ h => h⟩
  | a :: l, c => by
    have h1 := fold_answered_sub l (answered c a)
    have h2 := answered_sub c a
    exact ⟨h1.1.trans h2.1, fun q hq => h2.2 q (h1.2 q hq)⟩
theorem downC_sub (i : Int) (c : Cli) (m : Msg) : (downC i c m).seq = c.seq ∧ ∀ q ∈ (downC i c m).pend, q ∈ c.pend := by
  unfold downC
  split
  · exact fold_answered_sub _ _
  · simp only
    split
    · exact answered_sub _ _
    · exact ⟨rfl, fun _ h => h⟩
end
/-- The whole party: what its clients have let in. -/
def IP (P : Par) (ins : Nat → List Ed) : Prop := ∀ (k : Nat) c, P.cls[k]? = some c → IC P.ents k (ins k) c
theorem ip_new {c l : Int} {P : Par} (h : newP c l = some P) : IP P (fun _ => []) := by
  unfold newP at h
  split at h
  · cases h
  · cases h
    intro k x hx
    have : x = cli0 := List.eq_of_mem_replicate (List.mem_of_getElem? hx)
    subst this
    exact ic0
section
variable {P : Par} {ins : Nat → List Ed}
theorem IP.set {k : Nat} {c y : Cli} {l : List Ed} (h : IP P ins) (hc : P.cl k = some c) (hy : IC P.ents k l y) : IP (P.set k y) (fun j => if j = k then l else ins j) := by
  obtain ⟨n, hn, hk⟩ := Par.cl_nat hc
  have : n = k := by omega
  subst this
  intro j x hx
  simp only [Par.set, Int.toNat_natCast] at hx
  show IC P.ents j _ x
  by_cases hj : n = j
  · subst hj
    rw [List.getElem?_set_self (List.getElem?_eq_some_iff.1 hk).1] at hx
    cases hx
    show IC P.ents n (if n = n then l else ins n) y
    rw [if_pos rfl]
    exact hy
  · rw [List.getElem?_set_ne hj] at hx
    show IC P.ents j (if j = n then l else ins j) x
    rw [if_neg (fun e => hj e.symm)]
    exact h j x hx
theorem IP.same {k : Nat} {c y : Cli} (h : IP P ins) (hc : P.cl k = some c) (hy : IC P.ents k (ins k) y) : IP (P.set k y) ins := by
  have h1 := h.set hc hy
  have : (fun j => if j = k then ins k else ins j) = ins := by
    funext j
    split
    · rename_i e; rw [e]
    · rfl
  rw [this] at h1
  exact h1
theorem IP.get {k : Nat} {c : Cli} (h : IP P ins) (hc : P.cl k = some c) : IC P.ents k (ins k) c := by
  obtain ⟨n, hn, hk⟩ := Par.cl_nat hc
  have : n = k := by omega
  subst this
  exact h n c hk
theorem IP.edit {k : Nat} {e : Ed} (h : IP P ins) : IP (editP P k e).2 (fun j => if j = k ∧ (editP P k e).1 = 0 then ins j ++ [e] else ins j) := by
  have hz : ∀ n : Nat, n ≠ 0 → (fun j => if j = k ∧ n = 0 then ins j ++ [e] else ins j) = ins := fun n hn => by
    funext j
    rw [if_neg (fun h => hn h.2)]
  unfold editP
  cases hc : P.cl k with
  | none => rw [hz _ (by simp)]; exact h
  | some c =>
    simp only
    split
    · rw [hz _ (by simp)]; exact h
    · split
      · rw [hz _ (by simp)]; exact h
      · have := h.set hc ((h.get hc).edit e)
        have e1 : (fun j => if j = k ∧ (0 : Nat) = 0 then ins j ++ [e] else ins j) = fun j => if j = k then ins k ++ [e] else ins j := by
          funext j
          by_cases hj : j = k
          · subst hj; simp
          · simp [hj]
        rw [e1]
        exact this
theorem IP.join {k : Nat} (h : IP P ins) : IP (joinP P k).2 ins := by
  unfold joinP
  cases hc : P.cl k with
  | none => exact h
  | some c =>
    simp only
    split
    · exact h
    · exact h.same hc ((h.get hc).sub rfl (fun _ h => h))
theorem IP.drop {k : Nat} (h : IP P ins) : IP (dropP P k).2 ins := by
  unfold dropP
  cases hc : P.cl k with
  | none => exact h
  | some c =>
    simp only
    split
    · exact h.same hc ((h.get hc).sub rfl (fun _ h => h))
    · exact h
theorem IP.down {k : Nat} (h : IP P ins) : IP (downP P k).2 ins := by
  unfold downP
  cases hc : P.cl k with
  | none => exact h
  | some c =>
    simp only
    split
    · exact h
    · rename_i m ds hd
      have := downC_sub k { c with down := ds } m
      exact h.same hc ((h.get hc).sub this.1 this.2)
theorem IP.up {k : Nat} (h : IP P ins) (hs : SP P) : IP (upP P k).2 ins := by
  unfold upP
  cases hc : P.cl k with
  | none => exact h
  | some c =>
    simp only
    split
    · exact h
    · rename_i m us hu
      split
      · exact h.same hc ((h.get hc).sub rfl (fun _ h => h))
      · rename_i hm
        have hm' : m.hello = false := by simpa using hm
        split
        · exact h.same hc ((h.get hc).sub rfl (fun _ h => h))
        · rename_i ht
          have ht' : taken P.ents k m.seq = false := by simpa using ht
          have hg := hs.get hc
          obtain ⟨_, _, s, e, rfl, _, _, _, h4, _⟩ := hg.first hu hm'
          have hlt : (mine P.ents k).length < s + 1 := by
            rcases Nat.lt_or_ge (mine P.ents k).length (s + 1) with h9 | h9
            · exact h9
            · have := (taken_num (s := (s : Int) + 1) hg.es).2 ⟨by omega, by omega⟩
              rw [show (msgE (s + 1) e).seq = (s : Int) + 1 from rfl] at ht'
              rw [this] at ht'
              cases ht'
          have hpd := (h.get hc).pd _ (h4 hlt)
          have h1 : IP (P.set k { c with up := us }) ins := h.same hc ((h.get hc).sub rfl (fun _ h => h))
          intro j y hy
          simp only [takeP, List.getElem?_map, Option.map_eq_some_iff] at hy
          obtain ⟨z, hz, rfl⟩ := hy
          refine IC.tell (h1 j z hz) (fun hx => ?_)
          have hkj : k = j := by
            have : (k : Int) = j := hx
            omega
          subst hkj
          exact hpd
end
end Go.Proofs.YtbicffldggcdhaaGreatDoor

namespace Go.Proofs.YtbicffldggcdhaaGreatDoor
open Go

end Go.Proofs.YtbicffldggcdhaaGreatDoor
