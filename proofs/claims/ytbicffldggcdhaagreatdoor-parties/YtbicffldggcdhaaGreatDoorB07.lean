/-
  WQ5; LTwo; WQ6; WQ7; WQ8; WQ9; WQ22; WQ15; LMapV; WQ10; WQ16.
-/
import Derived.Test.YtbicffldggcdhaaGreatDoorB06
import Derived.Test.YtbicffldggcdhaaGreatDoorB00
import Derived.Test.YtbicffldggcdhaaGreatDoorB02
import Derived.Test.YtbicffldggcdhaaGreatDoorB04
import Derived.Test.YtbicffldggcdhaaGreatDoorB03
namespace Go.Proofs.YtbicffldggcdhaaGreatDoor
open Go
theorem runG07 {G K : Prop} (k : K) (h : Wrap K → G := by intro h; (repeat (first | (with_reducible first | refine wpIn_seq ?_ | refine w_reg ?_ | refine s_nil ?_ | refine s_nilQ ?_ | refine wpIn_block ?_ | refine q_then ?_ | refine q_blk ?_ | refine q_then_ret ?_ | refine q_blk_ret ?_ | refine q_then_exit ?_ | refine q_blk_exit ?_ | refine wpIn_skip ?_ | refine wpIn_ret ?_ | refine wpIn_exit ?_ | refine y_nil ?_ | refine y_nilQ ?_ | refine x_late ?_) | ((with_reducible refine q_blk_other ?_ ?_); exact rfl) | ((with_reducible apply c_true); exact rfl; (with_reducible exact rfl)) | ((with_reducible apply c_false); exact rfl; (with_reducible exact rfl)) | ((with_reducible apply s_no); (first | ((with_reducible apply wnt_nt); exact rfl; exact rfl; exact rfl; exact rfl; (with_reducible exact rfl)) | ((with_reducible apply wnt_nf); exact rfl; exact rfl; exact rfl; exact rfl; (with_reducible exact rfl)))) | ((with_reducible apply x_qno); exact rfl; (first | ((with_reducible apply wnt_nt); exact rfl; exact rfl; exact rfl; exact rfl; (with_reducible exact rfl)) | ((with_reducible apply wnt_nf); exact rfl; exact rfl; exact rfl; exact rfl; (with_reducible exact rfl)))) | ((first | with_reducible apply s_val | ((with_reducible apply y_val); exact rfl) | ((with_reducible apply x_q); exact rfl; intro wq hq)); (first | ((with_reducible apply r_assign_i); exact rfl) | ((with_reducible apply r_move_p); exact rfl) | ((with_reducible apply r_nilCheck); exact rfl) | ((with_reducible apply r_fld); exact fa_ok rfl; exact rfl) | ((with_reducible apply r_load); exact u_ok rfl; exact rfl; exact rfl; (first | exact Frm.at0 hq (by assumption) | exact Frm.at hq (by assumption) (by assumption) | (first | (with_reducible assumption) | assumption | exact at_alloc_new _ _ | (repeat (first | assumption | exact at_alloc_new _ _ | refine at_drew ?_ | refine at_alloc _ ?_)))); (first | exact mid_get rfl | exact mid_get2 rfl | exact mid_get0 rfl | exact rfl)) | ((with_reducible apply r_len); exact u_ok rfl; exact rfl) | ((with_reducible apply r_add); exact rfl; exact rfl; omega; omega) | ((with_reducible apply r_boxA); exact rfl) | ((with_reducible apply r_box1); exact rfl; exact rfl) | ((with_reducible apply r_assign_if); exact rfl) | ((with_reducible apply r_assign_ni); exact rfl) | ((with_reducible apply r_loadA); exact u_ok rfl; exact rfl; exact s_ok rfl; exact rfl; (first | exact Frm.at0 hq (by assumption) | exact Frm.at hq (by assumption) (by assumption) | (first | (with_reducible assumption) | assumption | exact at_alloc_new _ _ | (repeat (first | assumption | exact at_alloc_new _ _ | refine at_drew ?_ | refine at_alloc _ ?_)))); exact Nat.le_of_ble_eq_true rfl) | ((with_reducible apply r_assign_b); exact rfl) | ((with_reducible apply r_geq_t); exact rfl; exact rfl; omega) | ((with_reducible apply r_geq_f); exact rfl; exact rfl; omega) | ((with_reducible apply r_geq); exact rfl; exact rfl) | ((with_reducible apply r_allocA); exact z_ok rfl) | ((with_reducible apply r_alloc1); exact z_ok rfl; exact rfl) | ((with_reducible apply r_ifaceP); exact rfl; exact u_ok rfl) | ((with_reducible apply r_ifaceA); exact rfl; exact u_ok rfl) | ((with_reducible apply r_move_i); exact rfl) | ((with_reducible apply r_mkf); exact rfl) | ((with_reducible apply r_lss_t); exact rfl; exact rfl; omega) | ((with_reducible apply r_lss_f); exact rfl; exact rfl; omega) | ((with_reducible apply r_lss); exact rfl; exact rfl) | ((with_reducible apply r_index); exact u_ok rfl; exact s_ok rfl; exact rfl; exact rfl; omega; omega) | ((with_reducible apply r_indexarr); exact u_ok rfl; exact s_ok rfl; exact rfl; exact rfl; omega; omega) | ((with_reducible apply r_not_t); exact rfl; (with_reducible exact rfl)) | ((with_reducible apply r_not_f); exact rfl; (with_reducible exact rfl)) | ((with_reducible apply r_not); exact rfl) | ((with_reducible apply r_gtr_t); exact rfl; exact rfl; omega) | ((with_reducible apply r_gtr_f); exact rfl; exact rfl; omega) | ((with_reducible apply r_gtr); exact rfl; exact rfl) | ((with_reducible apply r_move_b); exact rfl) | ((with_reducible apply r_move_f); exact rfl) | ((with_reducible apply r_move_s); exact rfl) | ((with_reducible apply r_sub); exact rfl; exact rfl; omega; omega) | ((with_reducible apply r_pick_t); exact rfl; (with_reducible exact rfl); exact rfl) | ((with_reducible apply r_pick_f); exact rfl; (with_reducible exact rfl); exact rfl) | ((with_reducible apply r_leq_t); exact rfl; exact rfl; omega) | ((with_reducible apply r_leq_f); exact rfl; exact rfl; omega) | ((with_reducible apply r_leq); exact rfl; exact rfl) | ((with_reducible apply r_eql_t); exact rfl; exact rfl; omega) | ((with_reducible apply r_eql_f); exact rfl; exact rfl; omega) | ((with_reducible apply r_eql); exact rfl; exact rfl) | ((with_reducible apply r_move_t); exact rfl) | ((with_reducible apply r_extract); exact rfl; exact rfl) | ((with_reducible apply r_look2); exact u_ok rfl; exact u_ok rfl; exact z_ok rfl; exact rfl; exact rfl; (first | exact Frm.at0 hq (by assumption) | exact Frm.at hq (by assumption) (by assumption) | (first | (with_reducible assumption) | assumption | exact at_alloc_new _ _ | (repeat (first | assumption | exact at_alloc_new _ _ | refine at_drew ?_ | refine at_alloc _ ?_)))); assumption) | ((with_reducible apply r_assign_s); exact rfl)); (first | (with_reducible exact wnt_none) | ((with_reducible apply wnt_y); exact rfl; exact rfl; exact rfl; exact rfl; (with_reducible exact rfl)))))); exact h.out) : G := h ⟨k⟩

section
variable {pre post : List Value} {t : Nat} {n n' : Int} {pd an up dn v : Value} {jn tl b : Bool}
theorem set_n : (pre ++ (cvals t n pd an jn tl up dn ++ post)).set (pre.length + 0 + 1) (I n') = pre ++ (cvals t n' pd an jn tl up dn ++ post) := mid_set2 (a := 0) (b := 1) (show 1 < 8 by decide)
theorem set_pd : (pre ++ (cvals t n pd an jn tl up dn ++ post)).set (pre.length + 2) v = pre ++ (cvals t n v an jn tl up dn ++ post) := mid_set (k := 2) (show 2 < 8 by decide)
theorem set_an : (pre ++ (cvals t n pd an jn tl up dn ++ post)).set (pre.length + 3) v = pre ++ (cvals t n pd v jn tl up dn ++ post) := mid_set (k := 3) (show 3 < 8 by decide)
theorem set_jn : (pre ++ (cvals t n pd an jn tl up dn ++ post)).set (pre.length + 4 + 0) (B b) = pre ++ (cvals t n pd an b tl up dn ++ post) := mid_set2 (a := 4) (b := 0) (show 4 < 8 by decide)
theorem set_tl : (pre ++ (cvals t n pd an jn tl up dn ++ post)).set (pre.length + 4 + 1) (B b) = pre ++ (cvals t n pd an jn b up dn ++ post) := mid_set2 (a := 4) (b := 1) (show 5 < 8 by decide)
theorem set_up : (pre ++ (cvals t n pd an jn tl up dn ++ post)).set (pre.length + 4 + 2) v = pre ++ (cvals t n pd an jn tl v dn ++ post) := mid_set2 (a := 4) (b := 2) (show 6 < 8 by decide)
theorem set_dn : (pre ++ (cvals t n pd an jn tl up dn ++ post)).set (pre.length + 4 + 3) v = pre ++ (cvals t n pd an jn tl up v ++ post) := mid_set2 (a := 4) (b := 3) (show 7 < 8 by decide)
theorem mid_len {x : List Value} : (pre ++ (x ++ post)).length = pre.length + (x.length + post.length) := by rw [List.length_append, List.length_append]
theorem clt (t : Nat) (n : Int) (pd an up dn : Value) (jn tl : Bool) {k : Nat} (h : k < 8) : pre.length + k < (pre ++ (cvals t n pd an jn tl up dn ++ post)).length := by rw [mid_len]; simp only [cvals, List.length_cons, List.length_nil]; omega
end
theorem bld_req (q : Int) (e : Ed) (w : World) : (Instr.build 147 [(0, I q), (1, EdV e)].toArray).run Tryz.prog w = .ok (.agg (pdV (q, e)).toArray) w := by kernel_rfl
theorem bs_req (q : Int × Ed) (w : World) : (Instr.buildSlice 113 1 [(0, .agg (pdV q).toArray)].toArray).run Tryz.prog w = .ok (.slice (some ⟨w.heap.size, 0, none⟩) 1 1) (w.alloc (cel (pdV q) 147)) := by kernel_rfl
theorem bs_um (T : Nat) (v : Value) (w : World) : (Instr.buildSlice 115 1 [(0, .iface T v)].toArray).run Tryz.prog w = .ok (.slice (some ⟨w.heap.size, 0, none⟩) 1 1) (w.alloc (cel [.iface T v] 172)) := by kernel_rfl
theorem append_req {w : World} {v s : Value} {A : List (Int × Ed)} {q : Int × Ed} {ty : Nat} (hrow : Row w v 147 7 A.length (fl pdV A)) (hseg : Seg w s 7 1 (pdV q)) (hcap : A.length < 1000000) :
    ∃ v' w', (Builtin.append_ #[113, 113] ty #[v, s]).run Tryz.prog w = .ok v' w' ∧ Row w' v' 147 7 (A ++ [q]).length (fl pdV (A ++ [q])) ∧ Frm (InV v) w w' ∧ ∀ b, InV v' b → InV v b ∨ w.heap.size ≤ b := by
  obtain ⟨v', w', h1, h2, h3, h4⟩ := append_seg (P := Tryz.prog) (sz := 7) (by' := 56) (ty := ty) (sT := 113) (u_ok rfl) (u_ok rfl) (fun kk h => by cases h) (s_ok rfl) (b_ok rfl) (z_ok rfl) rfl hrow hseg (pd_one q) (by omega) (by omega)
  exact ⟨v', w', h1, by rw [fl_append, List.length_append]; simpa [fl] using h2, h3, h4⟩
theorem append_um {w : World} {v s : Value} {A : List UMsg} {m : UMsg} {ty : Nat} (hrow : Row w v 172 1 A.length (A.map uV)) (hseg : Seg w s 1 1 [uV m]) (hcap : A.length < 1000000) :
    ∃ v' w', (Builtin.append_ #[115, 115] ty #[v, s]).run Tryz.prog w = .ok v' w' ∧ Row w' v' 172 1 (A ++ [m]).length ((A ++ [m]).map uV) ∧ Frm (InV v) w w' ∧ ∀ b, InV v' b → InV v b ∨ w.heap.size ≤ b := by
  obtain ⟨v', w', h1, h2, h3, h4⟩ := append_seg (P := Tryz.prog) (sz := 1) (by' := 16) (ty := ty) (sT := 115) (u_ok rfl) (u_ok rfl) (fun kk h => by cases h) (s_ok rfl) (b_ok rfl) (z_ok rfl) rfl hrow hseg (by intro u hu; simp at hu; subst hu; cases m <;> rfl) (by omega) (by omega)
  exact ⟨v', w', h1, by rw [List.map_append, List.length_append]; exact h2, h3, h4⟩
/-- What a call on a client leaves. -/
def CRes (PT : PTy) (w w' : World) (col : Nat → Nat) (k0 k cb : Nat) (pre post : List Value) (c : PCli) : Prop := ∃ col' bq sq t pd an up dn, CAt PT w' col' k0 k cb pre post bq sq t pd an up dn c ∧ CG k0 k w w' col col'
section
variable {PT : PTy} (sp : TreeSpec PT) {w : World} {col : Nat → Nat} {k0 k cb : Nat} {pre post : List Value} {bq sq t : Nat} {pd an up dn : Value} {c : PCli}
theorem CRes.of0 (h : CAt PT w col k0 k cb pre post bq sq t pd an up dn c) {w' : World} (sp : TreeSpec PT) (f : Frm0 w w') : CRes PT w w' col k0 k cb pre post c := ⟨col, bq, sq, t, pd, an, up, dn, h.frm0 sp f, CG.frm0 h.high f⟩
theorem CRes.trans {w1 w2 : World} {col1 : Nat → Nat} {c' : PCli} (g : CG k0 k w w1 col col1) (h : CRes PT w1 w2 col1 k0 k cb pre post c') : CRes PT w w2 col k0 k cb pre post c' := by
  obtain ⟨col', bq', sq', t', pd', an', up', dn', h1, h2⟩ := h
  exact ⟨col', bq', sq', t', pd', an', up', dn', h1, g.trans h2⟩
theorem nextSeq_ret (h : CAt PT w col k0 k cb pre post bq sq t pd an up dn c) (hb : c.ans.length < 1000000000000000 ∧ c.pend.length < 1000000) :
    Rets Tryz.prog 105 [.pointer (some ⟨cb, pre.length, none⟩)] w fun v w' => v = I c.next ∧ Frm0 w w' := by
  have hrow := h.row
  obtain ⟨a1, c1, rfl⟩ := h.m.pend.isSl
  obtain ⟨a2, c2, rfl⟩ := h.m.ans.isSl
  refine rets_of Tryz.func105 (by kernel_rfl) rfl Tryz.ntmps105 (Nat.le_of_ble_eq_true rfl) ?_
  refine runG07 ?_
  refine w_drawn ((0, false) :: (1, false) :: (2, false) :: (3, false) :: (4, false) :: (5, false) :: (6, false) :: (7, false) :: (8, false) :: (9, false) :: (10, false) :: (11, false) :: (12, false) :: []) [] (fun wq => Frm0 w wq) mixed (by kernel_rfl) ?_ ?_
  · exact Frm.of_drew _
  · refine runG07 ?_
    exact ret_i rfl rfl ⟨rfl, Frm.of_drew _⟩
def editR (c : PCli) (e : Ed) : Nat × PCli := if wrongB e then (1, c) else if 6 ≤ c.pend.length then (7, c) else (0, editD c e)
end
end Go.Proofs.YtbicffldggcdhaaGreatDoor

namespace Go.Proofs.YtbicffldggcdhaaGreatDoor
open Go

section
variable {P : Program} {ops : Array Oper} {Q : Exit → Act → World → Prop} {S : World → Prop} {R : Option Nat}
def chkT1 (ops : Array Oper) (fuel i j : Nat) (r1 r2 : List (Nat × Bool)) : List Nat → Array Bool → Bool
  | [], listed => Region.ready .any ops listed == [i, j] && chk1 ops [] fuel r1 (listed.setIfInBounds i true) && chk1 ops [] fuel r2 (listed.setIfInBounds j true)
  | q :: r, listed => (Region.ready .any ops listed).contains q && Region.free .any ops listed q && chkT1 ops fuel i j r1 r2 r (listed.setIfInBounds q true)
def chkT (ops : Array Oper) (ord : List Nat) (i j : Nat) (r1 r2 : List (Nat × Bool)) : Bool :=
  Region.noSelect ops && ord.length + 1 + r1.length == ops.size && r1.length == r2.length && chkT1 ops ops.size i j r1 r2 ord (Array.replicate ops.size false)

theorem wpE_two {fuel i j : Nat} {r1 r2 : List (Nat × Bool)} (hsel : Region.noSelect ops = true) (hl : r1.length = r2.length) : ∀ (l : List Nat) (listed : Array Bool) (a : Act) (w : World), Shut ops listed → S w → chkT1 ops fuel i j r1 r2 l listed = true →
    wpX P ops S (fun e a w => e = .normal ∧ wpX P ops S Q [] ((i, true) :: r1) a w ∧ wpX P ops S Q [] ((j, true) :: r2) a w) [] (l.map fun q => (q, false)) a w → wpE P ops Q S (fun i => !([] : List Nat).contains i) (l.length + (r1.length + 1)) listed a w
  | [], listed, a, w, hsh, hS, hc, h => by
    simp only [chkT1, Bool.and_eq_true, beq_iff_eq] at hc
    obtain ⟨⟨hr, h1⟩, h2⟩ := hc
    obtain ⟨_, k1, k2⟩ := h
    simp only [List.length_nil, Nat.zero_add]
    refine ⟨fun h0 => (by rw [hr] at h0; cases h0), fun q hq => ?_⟩
    have hq' := hq
    rw [hr] at hq
    simp only [List.mem_cons, List.not_mem_nil, or_false] at hq
    rcases hq with rfl | rfl
    · refine wpo_mono (fun a' w' h' => ⟨fun _ => h'.1, ?_⟩) k1
      have := wpE_ord (P := P) (Q := Q) (late := []) hsel r1 _ a' w' (hsh.step hq') h'.1 h1 h'.2
      simpa using this
    · refine wpo_mono (fun a' w' h' => ⟨fun _ => h'.1, ?_⟩) k2
      have := wpE_ord (P := P) (Q := Q) (late := []) hsel r2 _ a' w' (hsh.step hq') h'.1 h2 h'.2
      rw [hl]
      simpa using this
  | q :: l, listed, a, w, hsh, hS, hc, h => by
    simp only [chkT1, Bool.and_eq_true] at hc
    obtain ⟨⟨hr, hf⟩, hc'⟩ := hc
    obtain ⟨o, v, ho, hy, hk⟩ := h
    have hr' : q ∈ Region.ready .any ops listed := by simpa using hr
    rw [List.length_cons, show l.length + 1 + (r1.length + 1) = (l.length + (r1.length + 1)) + 1 by omega]
    exact wpE_first ho (Region.noSelect_spec hsel) (fun j hj => (by simp at hj)) _ listed a w hsh (Region.free_spec ho hf) hr' hy hS (wpE_two hsel hl l _ _ w (hsh.step hr') hS hc' hk)

theorem w_two {id : Nat} {l : List Oper} {a : Act} {w : World} (ord : List Nat) (i j : Nat) (r1 r2 : List (Nat × Bool)) (S : World → Prop) (hm : P.follows .mixedOrders = true) (hc : chkT l.toArray ord i j r1 r2 = true)
    (hS : S w.drew) (h : WpX P l.toArray S (fun e a w => e = .normal ∧ WpX P l.toArray S Q [] ((i, true) :: r1) a w ∧ WpX P l.toArray S Q [] ((j, true) :: r2) a w) [] (ord.map fun q => (q, false)) a w.drew) : (Code.region id l.toArray true).wpIn (fen R) 0 P Q a w := by
  simp only [chkT, Bool.and_eq_true, beq_iff_eq] at hc
  obtain ⟨⟨⟨hs, hz⟩, hl⟩, hc⟩ := hc
  refine wpIn_region_any hm (wpAny_of_wpE (S := S) (early := fun i => !([] : List Nat).contains i) _ _ _ _ ?_)
  rw [← hz, show ord.length + 1 + r1.length = ord.length + (r1.length + 1) by omega]
  refine wpE_two (i := i) (j := j) (r2 := r2) hs hl ord _ a _ (fun j o ho hl => ?_) hS (by rw [show ord.length + (r1.length + 1) = l.toArray.size by omega]; exact hc) ?_
  · simp only [Array.getD_eq_getD_getElem?, Array.getElem?_replicate] at hl
    split at hl <;> simp at hl
  · have hx := h.out
    have mono : ∀ (o : List (Nat × Bool)) (a : Act) (w : World), wpX P l.toArray S (fun e a w => e = .normal ∧ WpX P l.toArray S Q [] ((i, true) :: r1) a w ∧ WpX P l.toArray S Q [] ((j, true) :: r2) a w) [] o a w → wpX P l.toArray S (fun e a w => e = .normal ∧ wpX P l.toArray S Q [] ((i, true) :: r1) a w ∧ wpX P l.toArray S Q [] ((j, true) :: r2) a w) [] o a w := by
      intro o
      induction o with
      | nil => intro a w h; exact ⟨h.1, h.2.1.out, h.2.2.out⟩
      | cons q o ih =>
        intro a w h
        obtain ⟨q, fl⟩ := q
        cases fl with
        | false =>
          obtain ⟨o', v, h1, h2, h3⟩ := h
          exact ⟨o', v, h1, h2, ih _ _ h3⟩
        | true => exact wpo_mono (fun a' w' h' => ⟨h'.1, ih _ _ h'.2⟩) h
    exact mono _ _ _ hx
end
end Go.Proofs.YtbicffldggcdhaaGreatDoor

namespace Go.Proofs.YtbicffldggcdhaaGreatDoor
open Go

section
variable {PT : PTy} (sp : TreeSpec PT) {w : World} {col : Nat → Nat} {k0 k cb : Nat} {pre post : List Value} {bq sq t : Nat} {pd an up dn : Value} {c : PCli}
set_option maxHeartbeats 2000000 in
theorem cedit_ret (sp : TreeSpec PT) (h : CAt PT w col k0 k cb pre post bq sq t pd an up dn c) {ea : List Addr} (hE : Errs w ea) (hW : Wf [root0]) (e : Ed) (hb : c.ans.length < 1000000000000000 ∧ c.up.length < 1000000) :
    Rets Tryz.prog 79 [.pointer (some ⟨cb, pre.length, none⟩), EdV e] w fun v w' => Bare ea v (editR c e).1 ∧ CRes PT w w' col k0 k cb pre post (editR c e).2 := by
  have hF0 : Frm0 w (w.alloc (cel e.vals 31)) := Frm.of_alloc _ _
  have hbox := at_alloc_new w (cel e.vals 31)
  refine rets_of Tryz.func79 (by kernel_rfl) rfl Tryz.ntmps79 (Nat.le_of_ble_eq_true rfl) ?_
  refine runG07 ?_
  refine s_callf (outOfBounds_ret sp (hE.frm0 hF0) hW e) rfl wnt_none ?_
  rintro v w1 ⟨rfl, hf1⟩
  have hF1 : Frm0 w w1 := hF0.trans0 hf1
  have hbox1 := hf1.at0 hbox
  have h1 := h.frm0 sp hF1
  have hE1 := hE.frm0 hF1
  cases hw : wrongB e with
  | true =>
    have hd : editR c e = (1, c) := by rw [editR, hw]; rfl
    rw [hd]
    obtain ⟨a, ty, kk, ha, hg⟩ := err9 hE1 0 0 rfl
    refine runG07 ?_
    exact ret_if rfl rfl ⟨.inr ⟨Nat.succ_pos _, a, rfl, ha⟩, CRes.of0 h sp hF1⟩
  | false =>
    have hrow := h1.row
    obtain ⟨pa, pc, rfl⟩ := h1.m.pend.isSl
    by_cases hq : 6 ≤ c.pend.length
    · have hd : editR c e = (7, c) := by rw [editR, hw]; simp [hq]
      rw [hd]
      obtain ⟨a, ty, kk, ha, hg⟩ := err9 hE1 6 6 rfl
      refine runG07 ?_
      exact ret_if rfl rfl ⟨.inr ⟨Nat.succ_pos _, a, rfl, ha⟩, CRes.of0 h sp hF1⟩
    · have hd : editR c e = (0, editD c e) := by rw [editR, hw]; simp [hq]
      rw [hd]
      have hq' : c.pend.length < 6 := by omega
      have hcb := at_lt h.row
      have hszb : w.heap.size < w1.heap.size := at_lt hbox1
      have hk := h.hk
      refine runG07 ?_
      refine wpIn_mono (Q := fun e' act w' => e' = .normal ∧ ∃ (env' : Env) (rb : Nat), act = rep 50 [] env' ∧ AllL env' [(0, .pointer (some ⟨cb, pre.length, none⟩)), (5, Ptr rb)] ∧ At w' rb (cel (pdV (c.next, e)) 147) ∧ Frm0 w1 w' ∧ w1.heap.size ≤ rb) ?_ ?_
      · refine w_two [0, 2] 1 4 [(3, false), (4, true), (5, true)] [(1, true), (3, false), (5, true)] (fun wq => Frm0 w1 wq) mixed (by kernel_rfl) ?_ ?_
        · exact Frm.of_drew _
        · show WpX _ _ _ _ _ [(0, false), (2, false)] _ _
          have F0 : Frm0 w1 w1.drew := Frm.of_drew _
          refine runG07 ?_
          refine ⟨rfl, ?_, ?_⟩
          · refine x_callf rfl (nextSeq_ret (h1.frm0 sp F0) ⟨hb.1, by omega⟩) rfl wnt_none ?_
            rintro v w2 ⟨rfl, f2⟩
            have F2 : Frm0 w1 w2 := F0.trans0 f2
            refine ⟨F2, ?_⟩
            refine x_q rfl (fun wq hq => r_build rfl (bld_req _ _ wq)) wnt_none ?_
            refine x_val rfl (r_allocA (z_ok rfl)) wnt_none (F2.alloc _) ?_
            refine x_skip rfl (r_storeAll (vs := pdV (c.next, e)) (s_ok rfl) rfl rfl (pd_one _) (at_alloc_new w2 _) rfl) wnt_none ((F2.alloc _).setB (.inr F2.size) _) ?_
            exact x_late (y_nilQ ⟨rfl, _, w2.heap.size, rfl, ⟨rfl, rfl, trivial⟩, at_setB _ (at_alloc_new w2 _), (F2.alloc _).setB (.inr F2.size) _, F2.size⟩)
          · refine x_val rfl (r_allocA (z_ok rfl)) wnt_none (F0.alloc _) ?_
            refine x_callf rfl (nextSeq_ret (h1.frm0 sp (F0.alloc _)) ⟨hb.1, by omega⟩) rfl wnt_none ?_
            rintro v w2 ⟨rfl, f2⟩
            have F2 : Frm0 w1 w2 := (F0.alloc _).trans0 f2
            have hbx := f2.at0 (at_alloc_new _ _)
            refine ⟨F2, ?_⟩
            refine x_q rfl (fun wq hq => r_build rfl (bld_req _ _ wq)) wnt_none ?_
            refine x_skip rfl (r_storeAll (vs := pdV (c.next, e)) (s_ok rfl) rfl rfl (pd_one _) hbx rfl) wnt_none (F2.setB (.inr F0.size) _) ?_
            exact x_late (y_nilQ ⟨rfl, _, w1.drew.heap.size, rfl, ⟨rfl, rfl, trivial⟩, at_setB _ hbx, F2.setB (.inr F0.size) _, F0.size⟩)
      · rintro e' act w3 ⟨rfl, env', rb, rfl, hall, hr3, f3, hrb⟩
        rw [fixL hall]
        refine q_then ?_
        have F3 : Frm0 w w3 := hF1.trans0 f3
        have h3 := h1.frm0 sp f3
        have hrow3 := h3.row
        have hrb0 : col rb = 0 := h1.high rb hrb
        have hnp : ∀ {u : Value} {q : Nat}, (∀ b, InV u b → col b = q) → q ≠ 0 → ¬ InV u rb := fun hu hq h9 => by have := hu rb h9; omega
        clear hall hf1 hrow
        refine runG07 ?_
        refine w_drawn [(0, false), (1, false), (2, false), (3, false), (4, false), (5, false), (6, true), (7, true), (8, false), (9, false)] [10] (fun wq => Frm (InV (.slice pa c.pend.length pc)) w3 wq) mixed (by kernel_rfl) ?_ ?_
        · exact Frm.of_drew _
        · have hncb : ¬ InV (.slice pa c.pend.length pc) cb := fun h9 => by have := h.m.cpend cb h9; have := h.own; omega
          have hnrb := hnp h.m.cpend (by omega)
          refine runG07 ?_
          refine x_val rfl (r_bs rfl (bs_req (c.next, e) _)) wnt_none ((Frm.of_drew w3).alloc _) ?_
          have hFa : Frm0 w3 (w3.drew.alloc (cel (pdV (c.next, e)) 147)) := (Frm.of_drew w3).alloc _
          obtain ⟨v4, w4, e4, r4, f4, n4⟩ := append_req (ty := 113) (q := (c.next, e)) (h3.m.pend.frm hFa (fun _ _ h => h)) (seg_new rfl) (by omega)
          have f4' : Frm (InV (.slice pa c.pend.length pc)) w3 w4 := (hFa.mono (fun _ h => h.elim)).trans f4 (fun b hb => .inl hb)
          have n4' : ∀ b, InV v4 b → InV (.slice pa c.pend.length pc) b ∨ w3.heap.size ≤ b := fun b hb => (n4 b hb).imp id (fun h => Nat.le_trans hFa.size h)
          refine x_val rfl (r_app rfl rfl e4) wnt_none f4' ?_
          have hrow4 := f4'.at hncb hrow3
          obtain ⟨h5, g5⟩ := h3.repend sp f4' r4 n4'
          have hr4 := f4'.at hnrb hr3
          obtain ⟨va, vc, rfl⟩ := r4.isSl
          refine runG07 ?_
          refine y_skip rfl (r_store_s (s_ok rfl) rfl rfl hrow4 (clt _ _ _ _ _ _ _ _ (by decide))) wnt_none ?_
          rw [set_pd]
          have hr5 := at_setB_ne (b := cb) (cel (pre ++ (cvals t c.n (.slice va (c.pend ++ [(c.next, e)]).length vc) an c.joined c.told up dn ++ post)) 119) (by omega) hr4
          have G5 : CG k0 k w _ col _ := (CG.frm0 h.high F3).trans g5
          generalize setB w4 cb (cel (pre ++ (cvals t c.n (.slice va (c.pend ++ [(c.next, e)]).length vc) an c.joined c.told up dn ++ post)) 119) = w5 at *
          have hcol5 : paint col w3.heap.size (.slice va (c.pend ++ [(c.next, e)]).length vc) (k + 2) rb = 0 := by
            rw [paint_old (at_lt hr3)]
            exact hrb0
          generalize paint col w3.heap.size (.slice va (c.pend ++ [(c.next, e)]).length vc) (k + 2) = col5 at *
          have hrow5 := h5.row
          have hown5 := h5.own
          cases hj : c.joined with
          | false =>
            rw [hj] at hrow5
            have hed : editD c e = { c with pend := c.pend ++ [(c.next, e)] } := by rw [editD, hj]; rfl
            refine runG07 ?_
            rw [hed]
            exact ret_ni rfl rfl ⟨.inl ⟨rfl, rfl⟩, _, _, _, _, _, _, _, _, h5, G5⟩
          | true =>
            rw [hj] at hrow5
            have hed : editD c e = { c with pend := c.pend ++ [(c.next, e)], up := c.up ++ [.inr (c.next, e)] } := by rw [editD, hj]; rfl
            obtain ⟨ua, uc, rfl⟩ := h5.m.ups.isSl
            have hnu : ¬ InV (.slice ua c.up.length uc) cb := fun h9 => by have := h5.m.cup cb h9; omega
            refine runG07 ?_
            refine w_drawn ((0, false) :: (1, false) :: (2, false) :: (3, false) :: (4, false) :: (5, false) :: (6, false) :: (7, false) :: (8, true) :: (9, true) :: (10, false) :: (11, false) :: (12, false) :: []) [13] (fun wq => Frm (InV (.slice ua c.up.length uc)) w5 wq) mixed (by kernel_rfl) ?_ ?_
            · exact Frm.of_drew _
            · have hnr : ¬ InV (.slice ua c.up.length uc) rb := fun h9 => by have := h5.m.cup rb h9; omega
              refine runG07 ?_
              refine x_val rfl (r_bs rfl (bs_um _ _ _)) wnt_none ((Frm.of_drew w5).alloc _) ?_
              have hFb : Frm0 w5 (w5.drew.alloc (cel [uV (.inr (c.next, e))] 172)) := (Frm.of_drew w5).alloc _
              obtain ⟨v6, w6, e6, r6, f6, n6⟩ := append_um (ty := 115) (m := .inr (c.next, e)) (h5.m.ups.frm hFb (fun _ _ h => h)) (seg_new rfl) hb.2
              have f6' : Frm (InV (.slice ua c.up.length uc)) w5 w6 := (hFb.mono (fun _ h => h.elim)).trans f6 (fun b hb => .inl hb)
              have n6' : ∀ b, InV v6 b → InV (.slice ua c.up.length uc) b ∨ w5.heap.size ≤ b := fun b hb => (n6 b hb).imp id (fun h => Nat.le_trans hFb.size h)
              refine x_val rfl (r_app rfl rfl e6) wnt_none f6' ?_
              have hrow6 := f6'.at hnu hrow5
              obtain ⟨h7, g7⟩ := h5.reup sp f6' r6 n6'
              obtain ⟨xa, xc, rfl⟩ := r6.isSl
              refine runG07 ?_
              refine y_skip rfl (r_store_s (s_ok rfl) rfl rfl hrow6 (clt _ _ _ _ _ _ _ _ (by decide))) wnt_none ?_
              rw [set_up, ← hj]
              refine runG07 ?_
              rw [hed]
              exact ret_ni rfl rfl ⟨.inl ⟨rfl, rfl⟩, _, _, _, _, _, _, _, _, h7, G5.trans g7⟩
end
end Go.Proofs.YtbicffldggcdhaaGreatDoor

namespace Go.Proofs.YtbicffldggcdhaaGreatDoor
open Go

theorem PPar.set_same {Q : PPar} {i : Int} {c : PCli} (h : Q.cl i = some c) : Q.set i c = Q := by
  unfold PPar.cl at h
  split at h
  · cases h
  · unfold PPar.set
    have hl := (List.getElem?_eq_some_iff.1 h).1
    have he : Q.cls[i.toNat] = c := by rw [List.getElem?_eq_getElem hl] at h; exact Option.some.inj h
    rw [← he, List.set_getElem_self]
section
variable {PT : PTy} (sp : TreeSpec PT) {w w' w1 : World} {col : Nat → Nat} {k p t : Nat} {lv : Value} {mb cb cap : Nat} {rest : List Value} {ms : List CM} {Q Q' : PPar}
theorem QStep.pre (hh : ∀ b, w.heap.size ≤ b → col b = 0) (f : Frm0 w w1) (h : QStep PT w1 w' col k p Q) : QStep PT w w' col k p Q := by
  obtain ⟨col', h1, h2, h3⟩ := h
  refine ⟨col', h1, ⟨fun b hb => h2.old b (Nat.lt_of_lt_of_le hb f.size), h2.high, fun b hb => ?_⟩, (f.mono (fun _ h => h.elim)).trans h3 (fun b hb => .inl hb)⟩
  rcases Nat.lt_or_ge b w1.heap.size with h4 | h4
  · exact .inl (by rw [h2.old b h4]; exact hh b hb)
  · exact h2.new b h4
theorem QStep.size (h : QStep PT w w' col k p Q) : w.heap.size ≤ w'.heap.size := by
  obtain ⟨_, _, _, h3⟩ := h
  exact h3.size
theorem PB.res (sp : TreeSpec PT) (h : PB PT w col k p t lv mb cb cap rest ms Q) {i : Int} {m : CM} {c' : PCli} (hi : ms[i.toNat]? = some m) (r : CRes PT w w' col k (k + 10 + 10 * i.toNat) cb (fl CM.vals (ms.take i.toNat)) (fl CM.vals (ms.drop (i.toNat + 1)) ++ rest) c') : QStep PT w w' col k p (Q.set i c') := by
  obtain ⟨col', bq, sq, t', pd, an, up, dn, h1, h2⟩ := r
  exact h.step sp (m' := ⟨t', pd, an, up, dn, bq, sq, c'⟩) hi h2 h1
theorem Bare.val {ea : List Addr} {v : Value} {n : Nat} (h : Bare ea v n) : v = .nilIface ∨ ∃ a, v = errV a := by
  rcases h with ⟨_, rfl⟩ | ⟨_, a, rfl, _⟩
  · exact .inl rfl
  · exact .inr ⟨a, rfl⟩
theorem edit1_ret (sp : TreeSpec PT) {cb' : Nat} {pre post : List Value} {bq sq t' k1 : Nat} {pd an up dn : Value} {c : PCli} {bx : Nat} (h : CAt PT w col k k1 cb' pre post bq sq t' pd an up dn c) {ea : List Addr} (hE : Errs w ea) (hW : Wf [root0]) (e : Ed) (hb : c.ans.length < 1000000000000000 ∧ c.up.length < 1000000) (hx : At w bx (cel e.vals 31)) :
    Rets Tryz.prog 78 [.pointer (some ⟨cb', pre.length, none⟩), Ptr bx] w fun v w' => Bare ea v (editR c e).1 ∧ CRes PT w w' col k k1 cb' pre post (editR c e).2 := by
  refine rets_of Tryz.func78 (by kernel_rfl) rfl Tryz.ntmps78 (Nat.le_of_ble_eq_true rfl) ?_
  refine runG07 ?_
  refine s_callf (cedit_ret sp h hE hW e hb) rfl wnt_none ?_
  intro v w2 hv
  rcases hv.1.val with rfl | ⟨a, rfl⟩
  · refine runG07 ?_
    exact ret_ni rfl rfl hv
  · refine runG07 ?_
    exact ret_if rfl rfl hv
theorem pedit_ret (sp : TreeSpec PT) (h : PB PT w col k p t lv mb cb cap rest ms Q) {ea : List Addr} (hE : Errs w ea) (hW : Wf [root0]) (i : Int) (e : Ed) (hb : ∀ c, Q.cl i = some c → c.ans.length < 1000000000000000 ∧ c.up.length < 1000000) :
    Rets Tryz.prog 54 [Ptr p, I i, EdV e] w fun v w' => Bare ea v (editQ Q i e).1 ∧ QStep PT w w' col k p (editQ Q i e).2 := by
  have hF0 : Frm0 w (w.alloc (cel e.vals 31)) := Frm.of_alloc _ _
  have hbox := at_alloc_new w (cel e.vals 31)
  have h1 := h.frm0 sp hF0
  refine rets_of Tryz.func54 (by kernel_rfl) rfl Tryz.ntmps54 (Nat.le_of_ble_eq_true rfl) ?_
  refine runG07 ?_
  refine s_callf (let_ret (caps := [Ptr w.heap.size]) (φ := fun v w' => Bare ea v (editQ Q i e).1 ∧ QStep PT w w' col k p (editQ Q i e).2) h1 (hE.frm0 hF0) i ?_ ?_ (fun v w' hv => hv.1.val)) rfl wnt_none ?_
  · intro hc w' a f ha
    have hd : editQ Q i e = (1, Q) := by rw [editQ, hc]
    rw [hd]
    exact ⟨.inr ⟨Nat.succ_pos _, a, rfl, ha⟩, QStep.same sp ⟨_, _, _, _, _, _, _, h⟩ (hF0.trans0 f)⟩
  · intro m w' hm hc h0 f
    have h2 := h1.frm0 sp f
    refine (edit1_ret sp (h2.at_ hm) (hE.frm0 (hF0.trans0 f)) hW e (hb _ hc) (f.at0 hbox)).mono ?_
    rintro v w2 ⟨hv, hr⟩
    have hd : editQ Q i e = ((editR m.c e).1, Q.set i (editR m.c e).2) := by
      rw [editQ, hc]
      unfold editR
      simp only
      split
      · rw [PPar.set_same hc]
      · split
        · rw [PPar.set_same hc]
        · rfl
    rw [hd]
    exact ⟨hv, QStep.pre h.high (hF0.trans0 f) (h2.res sp hm hr)⟩
  · intro v w2 hv
    rcases hv.1.val with rfl | ⟨a, rfl⟩
    · refine runG07 ?_
      exact ret_ni rfl rfl hv
    · refine runG07 ?_
      exact ret_if rfl rfl hv
end
end Go.Proofs.YtbicffldggcdhaaGreatDoor

namespace Go.Proofs.YtbicffldggcdhaaGreatDoor
open Go

section
variable {PT : PTy} (sp : TreeSpec PT) {w w' w1 : World} {col : Nat → Nat} {k p t : Nat} {lv : Value} {mb cb cap : Nat} {rest : List Value} {ms : List CM} {Q Q' : PPar}
theorem PEdit_ret (sp : TreeSpec PT) (hP : PP PT w col k p Q) {ea : List Addr} (hE : Errs w ea) (hW : Wf [root0]) (i : Int) (e : Ed) (hb : ∀ c, Q.cl i = some c → c.ans.length < 1000000000000000 ∧ c.up.length < 1000000) :
    Rets Tryz.prog 31 [Ptr p, I i, EdV e] w fun v w' => ErrN ea w w' v (editQ Q i e).1 e ∧ QStep PT w w' col k p (editQ Q i e).2 := by
  obtain ⟨t, lv, mb, cb, cap, rest, ms, h⟩ := hP
  have hF0 : Frm0 w (w.alloc (cel e.vals 31)) := Frm.of_alloc _ _
  have hbox := at_alloc_new w (cel e.vals 31)
  refine rets_of Tryz.func31 (by kernel_rfl) rfl Tryz.ntmps31 (Nat.le_of_ble_eq_true rfl) ?_
  refine runG07 ?_
  have hpos := h.pos
  have hnb : ¬ (k ≤ col w.heap.size ∧ col w.heap.size < k + 100) := by
    have := h.high w.heap.size (Nat.le_refl _)
    omega
  generalize w.alloc (cel e.vals 31) = w1 at *
  have hF1 := hF0.trans0 (Frm.of_drew w1)
  refine w_drawn [(0, false), (1, false), (2, false), (3, false), (4, true)] [5, 6] (fun wq => Frm (fun b => k ≤ col b ∧ col b < k + 100) w1 wq) mixed (by kernel_rfl) ?_ ?_
  · exact Frm.of_drew _
  · refine runG07 ?_
    refine x_callf rfl (pedit_ret sp (h.frm0 sp hF1) (hE.frm0 hF1) hW i e hb) rfl wnt_none ?_
    rintro v w2 ⟨hv, hs⟩
    refine ⟨by obtain ⟨_, _, _, fs⟩ := hs; exact (Frm.of_drew w1).trans fs (fun b hb => .inl hb), ?_⟩
    refine runG07 ?_
    refine y_callf rfl (refusal_ret hv e) rfl wnt_none ?_
    rintro u w3 ⟨hu, f3, hfr⟩
    have hsz := Nat.le_trans hF1.size hs.size
    have hs3 := QStep.pre h.high hF1 (hs.frm0 sp f3)
    rcases hu with ⟨h0, rfl⟩ | ⟨h0, b, a, rfl, hA, ha⟩
    · refine runG07 ?_
      exact ret_ni rfl rfl ⟨⟨.inl ⟨h0, rfl⟩, fun b h => by cases h⟩, hs3⟩
    · refine runG07 ?_
      exact ret_if rfl rfl ⟨⟨.inr ⟨h0, b, a, rfl, hA, ha⟩, fun b' h => Nat.le_trans hsz (hfr b' h)⟩, hs3⟩
end
section
variable {PT : PTy} (sp : TreeSpec PT) {w : World} {col : Nat → Nat} {k0 k cb : Nat} {pre post : List Value} {bq sq t : Nat} {pd an up dn : Value} {c : PCli}
def joinR (c : PCli) : Nat × PCli := if c.joined then (8, c) else (0, joinD c)
theorem bld_coming (n : Int) (w : World) : (Instr.build 176 [(0, I n)].toArray).run Tryz.prog w = .ok (.agg #[I n]) w := by kernel_rfl
set_option maxHeartbeats 2000000 in
theorem cjoin_ret (sp : TreeSpec PT) (h : CAt PT w col k0 k cb pre post bq sq t pd an up dn c) {ea : List Addr} (hE : Errs w ea) (hb : c.pend.length < 1000 ∧ c.up.length < 1000) :
    Rets Tryz.prog 82 [.pointer (some ⟨cb, pre.length, none⟩)] w fun v w' => Bare ea v (joinR c).1 ∧ CRes PT w w' col k0 k cb pre post (joinR c).2 := by
  have hrow := h.row
  have hk := h.hk
  obtain ⟨pa, pc, rfl⟩ := h.m.pend.isSl
  refine rets_of Tryz.func82 (by kernel_rfl) rfl Tryz.ntmps82 (Nat.le_of_ble_eq_true rfl) ?_
  cases hj : c.joined with
  | true =>
    have hd : joinR c = (8, c) := by rw [joinR, hj]; rfl
    rw [hd]
    rw [hj] at hrow
    obtain ⟨a, ty, kk, ha, hg⟩ := err9 hE 7 8 rfl
    refine runG07 ?_
    exact ret_if rfl rfl ⟨.inr ⟨Nat.succ_pos _, a, rfl, ha⟩, CRes.of0 h sp (Frm.refl _ _)⟩
  | false =>
    have hd : joinR c = (0, joinD c) := by rw [joinR, hj]; rfl
    rw [hd]
    rw [hj] at hrow
    refine runG07 ?_
    refine s_skip (r_store_b (s_ok rfl) rfl rfl hrow (clt _ _ _ _ _ _ _ _ (by decide))) wnt_none ?_
    rw [set_jn]
    obtain ⟨h1, g1⟩ := h.remark sp (jn := true) (tl := c.told) (n := c.n)
    generalize setB w cb (cel (pre ++ (cvals t c.n (.slice pa c.pend.length pc) an true c.told up dn ++ post)) 119) = w1 at *
    obtain ⟨ua, uc, rfl⟩ := h1.m.ups.isSl
    have hrow1 := h1.row
    have hnu : ¬ InV (.slice ua c.up.length uc) cb := fun h9 => by have := h1.m.cup cb h9; have := h1.own; omega
    refine runG07 ?_
    refine w_drawn ((0, false) :: (1, false) :: (2, false) :: (3, false) :: (4, false) :: (5, false) :: (6, false) :: (7, false) :: (8, false) :: (9, false) :: (10, false) :: (11, false) :: (12, false) :: (13, true) :: (14, true) :: (15, false) :: (16, false) :: (17, false) :: []) [18] (fun wq => Frm (InV (.slice ua c.up.length uc)) w1 wq) mixed (by kernel_rfl) ?_ ?_
    · exact Frm.of_drew _
    · refine runG07 ?_
      refine x_q rfl (fun wq hq => r_build rfl (bld_coming _ wq)) wnt_none ?_
      refine runG07 ?_
      refine x_val rfl (r_bs rfl (bs_um _ _ _)) wnt_none ((Frm.of_drew w1).alloc _) ?_
      have hFb : Frm0 w1 (w1.drew.alloc (cel [uV (.inl c.n)] 172)) := (Frm.of_drew w1).alloc _
      obtain ⟨v2, w2, e2, r2, f2, n2⟩ := append_um (ty := 115) (m := .inl c.n) (h1.m.ups.frm hFb (fun _ _ h => h)) (seg_new rfl) (by show c.up.length < 1000000; omega)
      have f2' : Frm (InV (.slice ua c.up.length uc)) w1 w2 := (hFb.mono (fun _ h => h.elim)).trans f2 (fun b hb => .inl hb)
      have n2' : ∀ b, InV v2 b → InV (.slice ua c.up.length uc) b ∨ w1.heap.size ≤ b := fun b hb => (n2 b hb).imp id (fun h => Nat.le_trans hFb.size h)
      refine x_val rfl (r_app rfl rfl e2) wnt_none f2' ?_
      have hrow2 := f2'.at hnu hrow1
      obtain ⟨h3, g3⟩ := h1.reup sp f2' r2 n2'
      obtain ⟨xa, xc, rfl⟩ := r2.isSl
      refine runG07 ?_
      refine y_skip rfl (r_store_s (s_ok rfl) rfl rfl hrow2 (clt _ _ _ _ _ _ _ _ (by decide))) wnt_none ?_
      rw [set_up]
      have G3 := g1.trans g3
      generalize setB w2 cb (cel (pre ++ (cvals t c.n (.slice pa c.pend.length pc) an true c.told (.slice xa (c.up ++ [(Sum.inl c.n : UMsg)]).length xc) dn ++ post)) 119) = w3 at *
      generalize paint col w1.heap.size (.slice xa (c.up ++ [(Sum.inl c.n : UMsg)]).length xc) (k + 4) = col3 at *
      have hrow3 := h3.row
      refine runG07 ?_
      refine lp (fun env w' => ∃ env0, ∃ j : Nat, ∃ col' xa xc, env = setL env0 [(0, .pointer (some ⟨cb, pre.length, none⟩)), (36, .slice pa c.pend.length pc), (37, I c.pend.length), (38, I j)] ∧ j ≤ c.pend.length ∧ CAt PT w' col' k0 k cb pre post bq sq t (.slice pa c.pend.length pc) an (.slice xa (c.up.length + 1 + j) xc) dn { c with joined := true, up := c.up ++ .inl c.n :: (c.pend.take j).map fun q => .inr (q.1, q.2) } ∧ CG k0 k w w' col col') (fun env _ => c.pend.length - cnt (env 38)) ?_ ?_
      · refine ⟨_, 0, col3, xa, xc, fixL ⟨rfl, rfl, rfl, rfl, trivial⟩, by omega, ?_, G3⟩
        simpa using h3
      · rintro env w4 ⟨env0, j, col4, ya, yc, rfl, hj4, h4, G4⟩
        have hrow4 := h4.row
        by_cases hlt : j < c.pend.length
        · obtain ⟨q, hq⟩ : ∃ q, c.pend[j]? = some q := ⟨_, List.getElem?_eq_getElem hlt⟩
          rcases h4.m.pend with ⟨_, h0, _⟩ | ⟨pb, pcap, prest, e9, hA, hpl, hpr, hpc⟩
          · have h0' : c.pend.length = 0 := h0
            omega
          · cases e9
            have hsA : sub (fl pdV c.pend ++ prest) ((j : Int).toNat * 7) 7 = pdV q := by
              have := fl_sub (f := pdV) (k := 7) (fun _ => rfl) c.pend j q hq [] prest
              simpa using this
            have hlA : (j : Int).toNat * 7 + 7 ≤ (fl pdV c.pend ++ prest).length := by
              rw [List.length_append, fl_len (f := pdV) (k := 7) (fun _ => rfl)]
              omega
            refine runG07 ?_
            refine s_val (r_loadV (vs := pdV q) (u_ok rfl) rfl (s_ok rfl) rfl hA (by rw [Nat.zero_add]; exact hlA) (by rw [Nat.zero_add]; exact hsA)) wnt_none ?_
            refine runG07 ?_
            refine s_skip (r_storeAll (vs := pdV q) (s_ok rfl) rfl rfl (pd_one _) (at_alloc_new w4 _) rfl) wnt_none ?_
            have hr5 := at_setB (cel (pdV q) 147) (at_alloc_new w4 (cel [I 0, I 0, I 0, I 0, I 0, I 0, I 0] 147))
            have f5 : Frm0 w4 (setB (w4.alloc (cel [I 0, I 0, I 0, I 0, I 0, I 0, I 0] 147)) w4.heap.size (cel (pdV q) 147)) := (Frm.of_alloc w4 _).setB (.inr (Nat.le_refl _)) _
            have hcol5 : col4 w4.heap.size = 0 := h4.high _ (Nat.le_refl _)
            generalize w4.heap.size = rb at *
            generalize setB (w4.alloc (cel [I 0, I 0, I 0, I 0, I 0, I 0, I 0] 147)) rb (cel (pdV q) 147) = w5 at *
            have h5 := h4.frm0 sp f5
            have G5 := G4.trans (CG.frm0 h4.high f5)
            have hrow5 := h5.row
            have hnu : ¬ InV (.slice ya (c.up.length + 1 + j) yc) cb := fun h9 => by have := h5.m.cup cb h9; have := h5.own; omega
            have hnr : ¬ InV (.slice ya (c.up.length + 1 + j) yc) rb := fun h9 => by have := h5.m.cup rb h9; omega
            have hul : (c.up ++ (Sum.inl c.n : UMsg) :: (c.pend.take j).map fun q : Int × Ed => (Sum.inr (q.1, q.2) : UMsg)).length = c.up.length + 1 + j := by
              simp
              omega
            refine runG07 ?_
            refine w_drawn ((0, false) :: (1, false) :: (2, false) :: (3, false) :: (4, false) :: (5, false) :: (6, false) :: (7, false) :: (8, true) :: (9, true) :: (10, false) :: (11, false) :: (12, false) :: []) [13] (fun wq => Frm (InV (.slice ya (c.up.length + 1 + j) yc)) w5 wq) mixed (by kernel_rfl) ?_ ?_
            · exact Frm.of_drew _
            · refine runG07 ?_
              refine x_val rfl (r_bs rfl (bs_um _ _ _)) wnt_none ((Frm.of_drew w5).alloc _) ?_
              have hFc : Frm0 w5 (w5.drew.alloc (cel [uV (.inr (q.1, q.2))] 172)) := (Frm.of_drew w5).alloc _
              obtain ⟨v6, w6, e6, r6, f6, n6⟩ := append_um (ty := 115) (m := .inr (q.1, q.2)) (h5.m.ups.frm hFc (fun _ _ h => h)) (seg_new rfl) (by show List.length (c.up ++ (Sum.inl c.n : UMsg) :: (c.pend.take j).map fun q : Int × Ed => (Sum.inr (q.1, q.2) : UMsg)) < 1000000; rw [hul]; omega)
              have f6' : Frm (InV (.slice ya (c.up.length + 1 + j) yc)) w5 w6 := (hFc.mono (fun _ h => h.elim)).trans f6 (fun b hb => .inl hb)
              have n6' : ∀ b, InV v6 b → InV (.slice ya (c.up.length + 1 + j) yc) b ∨ w5.heap.size ≤ b := fun b hb => (n6 b hb).imp id (fun h => Nat.le_trans hFc.size h)
              refine x_val rfl (r_app rfl rfl e6) wnt_none f6' ?_
              have hrow6 := f6'.at hnu hrow5
              obtain ⟨h7, g7⟩ := h5.reup sp f6' r6 n6'
              obtain ⟨za, zc, hz⟩ := r6.isSl
              have hzl : ((c.up ++ (Sum.inl c.n : UMsg) :: (c.pend.take j).map fun q : Int × Ed => (Sum.inr (q.1, q.2) : UMsg)) ++ [(Sum.inr (q.1, q.2) : UMsg)]).length = c.up.length + 1 + (j + 1) := by
                rw [List.length_append, hul]
                rfl
              have hz' : v6 = .slice za (c.up.length + 1 + (j + 1)) zc := by rw [hz]; congr 1
              subst hz'
              have hcc : (c.up ++ (Sum.inl c.n : UMsg) :: (c.pend.take j).map fun q : Int × Ed => (Sum.inr (q.1, q.2) : UMsg)) ++ [(Sum.inr (q.1, q.2) : UMsg)] = c.up ++ (Sum.inl c.n : UMsg) :: (c.pend.take (j + 1)).map fun q : Int × Ed => (Sum.inr (q.1, q.2) : UMsg) := by
                rw [List.take_add_one, hq, List.map_append]
                simp
              refine runG07 ?_
              refine y_skip rfl (r_store_s (s_ok rfl) rfl rfl hrow6 (clt _ _ _ _ _ _ _ _ (by decide))) wnt_none ?_
              rw [set_up]
              refine runG07 ?_
              refine ⟨_, rfl, ⟨_, j + 1, _, za, zc, fixL ⟨rfl, rfl, rfl, rfl, trivial⟩, by omega, ?_, G5.trans g7⟩, by show c.pend.length - ((j : Int) + 1).toNat < c.pend.length - (j : Int).toNat; omega⟩
              rw [← hcc]
              exact h7
        · have hjl : j = c.pend.length := by omega
          subst hjl
          refine runG07 ?_
          have hjd : joinD c = { c with joined := true, up := c.up ++ (Sum.inl c.n : UMsg) :: (c.pend.take c.pend.length).map fun q : Int × Ed => (Sum.inr (q.1, q.2) : UMsg) } := by rw [List.take_length]; rfl
          rw [hjd]
          exact ret_ni rfl rfl ⟨.inl ⟨rfl, rfl⟩, _, _, _, _, _, _, _, _, h4, G4⟩
end
end Go.Proofs.YtbicffldggcdhaaGreatDoor

namespace Go.Proofs.YtbicffldggcdhaaGreatDoor
open Go

theorem bld_ed0 (w : World) : (Instr.build 31 #[]).run Tryz.prog w = .ok (EdV ed0) w := by kernel_rfl
section
variable {PT : PTy} (sp : TreeSpec PT) {w w' w1 : World} {col : Nat → Nat} {k p t : Nat} {lv : Value} {mb cb cap : Nat} {rest : List Value} {ms : List CM} {Q Q' : PPar}
theorem pjoin_ret (sp : TreeSpec PT) (h : PB PT w col k p t lv mb cb cap rest ms Q) {ea : List Addr} (hE : Errs w ea) (i : Int) (hb : ∀ c, Q.cl i = some c → c.pend.length < 1000 ∧ c.up.length < 1000) :
    Rets Tryz.prog 56 [Ptr p, I i] w fun v w' => Bare ea v (joinQ Q i).1 ∧ QStep PT w w' col k p (joinQ Q i).2 := by
  refine rets_of Tryz.func56 (by kernel_rfl) rfl Tryz.ntmps56 (Nat.le_of_ble_eq_true rfl) ?_
  refine runG07 ?_
  refine s_callf (let_ret (caps := []) (φ := fun v w' => Bare ea v (joinQ Q i).1 ∧ QStep PT w w' col k p (joinQ Q i).2) h hE i ?_ ?_ (fun v w' hv => hv.1.val)) rfl wnt_none ?_
  · intro hc w' a f ha
    have hd : joinQ Q i = (1, Q) := by rw [joinQ, hc]
    rw [hd]
    exact ⟨.inr ⟨Nat.succ_pos _, a, rfl, ha⟩, QStep.same sp ⟨_, _, _, _, _, _, _, h⟩ f⟩
  · intro m w' hm hc h0 f
    have h2 := h.frm0 sp f
    refine (cjoin_ret sp (h2.at_ hm) (hE.frm0 f) (hb _ hc)).mono ?_
    rintro v w2 ⟨hv, hr⟩
    have hd : joinQ Q i = ((joinR m.c).1, Q.set i (joinR m.c).2) := by
      rw [joinQ, hc]
      unfold joinR
      simp only
      split
      · rw [PPar.set_same hc]
      · rfl
    rw [hd]
    exact ⟨hv, QStep.pre h.high f (h2.res sp hm hr)⟩
  · intro v w2 hv
    rcases hv.1.val with rfl | ⟨a, rfl⟩
    · refine runG07 ?_
      exact ret_ni rfl rfl hv
    · refine runG07 ?_
      exact ret_if rfl rfl hv
theorem PJoin_ret (sp : TreeSpec PT) (hP : PP PT w col k p Q) {ea : List Addr} (hE : Errs w ea) (i : Int) (hb : ∀ c, Q.cl i = some c → c.pend.length < 1000 ∧ c.up.length < 1000) :
    Rets Tryz.prog 33 [Ptr p, I i] w fun v w' => ErrN ea w w' v (joinQ Q i).1 ed0 ∧ QStep PT w w' col k p (joinQ Q i).2 := by
  obtain ⟨t, lv, mb, cb, cap, rest, ms, h⟩ := hP
  refine rets_of Tryz.func33 (by kernel_rfl) rfl Tryz.ntmps33 (Nat.le_of_ble_eq_true rfl) ?_
  refine runG07 ?_
  refine s_val (r_build rfl (bld_ed0 _)) wnt_none ?_
  refine runG07 ?_
  refine s_callf (pjoin_ret sp h hE i hb) rfl wnt_none ?_
  rintro v w2 ⟨hv, hs⟩
  refine s_callf (refusal_ret hv ed0) rfl wnt_none ?_
  rintro u w3 ⟨hu, f3, hfr⟩
  have hsz := hs.size
  have hs3 := hs.frm0 sp f3
  rcases hu with ⟨h0, rfl⟩ | ⟨h0, b, a, rfl, hA, ha⟩
  · refine runG07 ?_
    exact ret_ni rfl rfl ⟨⟨.inl ⟨h0, rfl⟩, fun b h => by cases h⟩, hs3⟩
  · refine runG07 ?_
    exact ret_if rfl rfl ⟨⟨.inr ⟨h0, b, a, rfl, hA, ha⟩, fun b' h => Nat.le_trans hsz (hfr b' h)⟩, hs3⟩
end
end Go.Proofs.YtbicffldggcdhaaGreatDoor

namespace Go.Proofs.YtbicffldggcdhaaGreatDoor
open Go

theorem bld_line (w : World) : (Instr.build 117 #[]).run Tryz.prog w = .ok (.agg #[B false, B false, .slice none 0 0, .slice none 0 0]) w := by kernel_rfl
def dropR (c : PCli) : Nat × PCli := if c.joined then (0, dropD c) else (8, c)
section
variable {PT : PTy} (sp : TreeSpec PT) {w : World} {col : Nat → Nat} {k0 k cb : Nat} {pre post : List Value} {bq sq t : Nat} {pd an up dn : Value} {c : PCli}
theorem CAt.reline (sp : TreeSpec PT) (h : CAt PT w col k0 k cb pre post bq sq t pd an up dn c) : CAt PT (setB w cb (cel (pre ++ (cvals t c.n pd an false false (.slice none 0 0) (.slice none 0 0) ++ post)) 119)) col k0 k cb pre post bq sq t pd an (.slice none 0 0) (.slice none 0 0) (dropD c) ∧ CG k0 k w (setB w cb (cel (pre ++ (cvals t c.n pd an false false (.slice none 0 0) (.slice none 0 0) ++ post)) 119)) col col := by
  have hm : CliM PT w col k bq sq t pd an (.slice none 0 0) (.slice none 0 0) (dropD c) := ⟨h.m.base, h.m.wf, h.m.pend, h.m.cpend, h.m.ans, h.m.cans, Row.nil, fun b hb => (inv_none hb).elim, DsAt.none, fun b hb => (inv_none hb).elim, h.m.q⟩
  exact ⟨h.ofPut sp (x := dropD c) (u := .slice none 0 0) (q := k) (Frm.refl _ _) (fun b hb => (inv_none hb).elim) (by omega) (Ext.refl h.high) hm, CG.put h.high h.own⟩
set_option maxHeartbeats 1000000 in
theorem cdrop_ret (sp : TreeSpec PT) (h : CAt PT w col k0 k cb pre post bq sq t pd an up dn c) {ea : List Addr} (hE : Errs w ea) :
    Rets Tryz.prog 83 [.pointer (some ⟨cb, pre.length, none⟩)] w fun v w' => Bare ea v (dropR c).1 ∧ CRes PT w w' col k0 k cb pre post (dropR c).2 := by
  have hrow := h.row
  obtain ⟨g9, ty, kk, hg9, hG⟩ := err9 hE 7 8 rfl
  refine rets_of Tryz.func83 (by kernel_rfl) rfl Tryz.ntmps83 (Nat.le_of_ble_eq_true rfl) ?_
  cases hj : c.joined with
  | false =>
    have hd : dropR c = (8, c) := by rw [dropR, hj]; rfl
    rw [hd]
    rw [hj] at hrow
    refine runG07 ?_
    exact ret_if rfl rfl ⟨.inr ⟨Nat.succ_pos _, g9, rfl, hg9⟩, CRes.of0 h sp (Frm.refl _ _)⟩
  | true =>
    have hd : dropR c = (0, dropD c) := by rw [dropR, hj]; rfl
    rw [hd]
    rw [hj] at hrow
    refine runG07 ?_
    refine s_val (r_build rfl (bld_line _)) wnt_none ?_
    refine runG07 ?_
    refine s_skip (r_storeA (vs := [B false, B false, .slice none 0 0, .slice none 0 0]) (s_ok rfl) rfl rfl rfl (by intro u hu; simp at hu; rcases hu with rfl | rfl <;> rfl) hrow (by have := clt (pre := pre) (post := post) t c.n pd an up dn true c.told (k := 7) (by decide); omega)) wnt_none ?_
    rw [show put (pre ++ (cvals t c.n pd an true c.told up dn ++ post)) (pre.length + 4) [B false, B false, .slice none 0 0, .slice none 0 0] = pre ++ (cvals t c.n pd an false false (.slice none 0 0) (.slice none 0 0) ++ post) from mid_put [B false, B false, .slice none 0 0, .slice none 0 0] (cvals t c.n pd an true c.told up dn) 4 (show 4 + 4 ≤ 8 by decide)]
    refine runG07 ?_
    obtain ⟨h2, g2⟩ := h.reline sp
    exact ret_ni rfl rfl ⟨.inl ⟨rfl, rfl⟩, _, _, _, _, _, _, _, _, h2, g2⟩
end
section
variable {PT : PTy} (sp : TreeSpec PT) {w w' w1 : World} {col : Nat → Nat} {k p t : Nat} {lv : Value} {mb cb cap : Nat} {rest : List Value} {ms : List CM} {Q Q' : PPar}
theorem pdrop_ret (sp : TreeSpec PT) (h : PB PT w col k p t lv mb cb cap rest ms Q) {ea : List Addr} (hE : Errs w ea) (i : Int) :
    Rets Tryz.prog 57 [Ptr p, I i] w fun v w' => Bare ea v (dropQ Q i).1 ∧ QStep PT w w' col k p (dropQ Q i).2 := by
  refine rets_of Tryz.func57 (by kernel_rfl) rfl Tryz.ntmps57 (Nat.le_of_ble_eq_true rfl) ?_
  refine runG07 ?_
  refine s_callf (let_ret (caps := []) (φ := fun v w' => Bare ea v (dropQ Q i).1 ∧ QStep PT w w' col k p (dropQ Q i).2) h hE i ?_ ?_ (fun v w' hv => hv.1.val)) rfl wnt_none ?_
  · intro hc w' a f ha
    have hd : dropQ Q i = (1, Q) := by rw [dropQ, hc]
    rw [hd]
    exact ⟨.inr ⟨Nat.succ_pos _, a, rfl, ha⟩, QStep.same sp ⟨_, _, _, _, _, _, _, h⟩ f⟩
  · intro m w' hm hc h0 f
    have h2 := h.frm0 sp f
    refine (cdrop_ret sp (h2.at_ hm) (hE.frm0 f)).mono ?_
    rintro v w2 ⟨hv, hr⟩
    have hd : dropQ Q i = ((dropR m.c).1, Q.set i (dropR m.c).2) := by
      rw [dropQ, hc]
      unfold dropR
      simp only
      split
      · rfl
      · rw [PPar.set_same hc]
    rw [hd]
    exact ⟨hv, QStep.pre h.high f (h2.res sp hm hr)⟩
  · intro v w2 hv
    rcases hv.1.val with rfl | ⟨a, rfl⟩
    · refine runG07 ?_
      exact ret_ni rfl rfl hv
    · refine runG07 ?_
      exact ret_if rfl rfl hv
theorem PDrop_ret (sp : TreeSpec PT) (hP : PP PT w col k p Q) {ea : List Addr} (hE : Errs w ea) (i : Int) :
    Rets Tryz.prog 34 [Ptr p, I i] w fun v w' => ErrN ea w w' v (dropQ Q i).1 ed0 ∧ QStep PT w w' col k p (dropQ Q i).2 := by
  obtain ⟨t, lv, mb, cb, cap, rest, ms, h⟩ := hP
  refine rets_of Tryz.func34 (by kernel_rfl) rfl Tryz.ntmps34 (Nat.le_of_ble_eq_true rfl) ?_
  refine runG07 ?_
  refine s_val (r_build rfl (bld_ed0 _)) wnt_none ?_
  refine runG07 ?_
  refine s_callf (pdrop_ret sp h hE i) rfl wnt_none ?_
  rintro v w2 ⟨hv, hs⟩
  refine s_callf (refusal_ret hv ed0) rfl wnt_none ?_
  rintro u w3 ⟨hu, f3, hfr⟩
  have hsz := hs.size
  have hs3 := hs.frm0 sp f3
  rcases hu with ⟨h0, rfl⟩ | ⟨h0, b, a, rfl, hA, ha⟩
  · refine runG07 ?_
    exact ret_ni rfl rfl ⟨⟨.inl ⟨h0, rfl⟩, fun b h => by cases h⟩, hs3⟩
  · refine runG07 ?_
    exact ret_if rfl rfl ⟨⟨.inr ⟨h0, b, a, rfl, hA, ha⟩, fun b' h => Nat.le_trans hsz (hfr b' h)⟩, hs3⟩
end
end Go.Proofs.YtbicffldggcdhaaGreatDoor

namespace Go.Proofs.YtbicffldggcdhaaGreatDoor
open Go

def sortAns_ren : Go.Shelf.Ren := ⟨fun | 6 => 174 | 15 => 127 | 14 => 176 | 28 => 138 | 29 => 139 | 20 => 177 | 21 => 178 | 22 => 179 | 23 => 180 | 24 => 181 | 25 => 182 | 26 => 183 | 27 => 184 | 46 => 185 | 47 => 142 | 48 => 143 | 49 => 186 | 50 => 187 | 57 => 188 | n => n, fun | 22 => 114 | 24 => 123 | 25 => 268 | 3 => 3 | 39 => 205 | 0 => 0 | 53 => 224 | 55 => 226 | 4 => 4 | 46 => 217 | 45 => 216 | 50 => 221 | 5 => 5 | 9 => 9 | 66 => 227 | 70 => 231 | 76 => 233 | 77 => 234 | n => n, fun | n => n⟩
theorem sortAns : Go.Proofs.SlLaysF0.n6 Tryz.prog sortAns_ren := {
  mixed := by kernel_rfl,
  f6 := ⟨Tryz.f174.name, by decide, Tryz.func174.trans (congrArg some (by kernel_rfl))⟩,
  f14 := ⟨Tryz.f176.name, by decide, Tryz.func176.trans (congrArg some (by kernel_rfl))⟩,
  f15 := Tryz.func127.trans (congrArg some (by kernel_rfl)),
  f20 := ⟨Tryz.f177.name, by decide, Tryz.func177.trans (congrArg some (by kernel_rfl))⟩,
  f21 := ⟨Tryz.f178.name, by decide, Tryz.func178.trans (congrArg some (by kernel_rfl))⟩,
  f22 := ⟨Tryz.f179.name, by decide, Tryz.func179.trans (congrArg some (by kernel_rfl))⟩,
  f23 := ⟨Tryz.f180.name, by decide, Tryz.func180.trans (congrArg some (by kernel_rfl))⟩,
  f24 := ⟨Tryz.f181.name, by decide, Tryz.func181.trans (congrArg some (by kernel_rfl))⟩,
  f25 := ⟨Tryz.f182.name, by decide, Tryz.func182.trans (congrArg some (by kernel_rfl))⟩,
  f26 := ⟨Tryz.f183.name, by decide, Tryz.func183.trans (congrArg some (by kernel_rfl))⟩,
  f27 := ⟨Tryz.f184.name, by decide, Tryz.func184.trans (congrArg some (by kernel_rfl))⟩,
  f28 := Tryz.func138.trans (congrArg some (by kernel_rfl)),
  f29 := Tryz.func139.trans (congrArg some (by kernel_rfl)),
  f46 := ⟨Tryz.f185.name, by decide, Tryz.func185.trans (congrArg some (by kernel_rfl))⟩,
  f47 := Tryz.func142.trans (congrArg some (by kernel_rfl)),
  f48 := Tryz.func143.trans (congrArg some (by kernel_rfl)),
  f49 := ⟨Tryz.f186.name, by decide, Tryz.func186.trans (congrArg some (by kernel_rfl))⟩,
  f50 := ⟨Tryz.f187.name, by decide, Tryz.func187.trans (congrArg some (by kernel_rfl))⟩,
  f57 := ⟨Tryz.f188.name, by decide, Tryz.func188.trans (congrArg some (by kernel_rfl))⟩,
  t0 := Tryz.underlying0,
  a0 := Tryz.isAgg0,
  z0 := Tryz.sizeOf0,
  v0 := Tryz.zeroValue0,
  t3 := Tryz.underlying3,
  a3 := Tryz.isAgg3,
  z3 := Tryz.sizeOf3,
  v3 := Tryz.zeroValue3,
  t4 := Tryz.underlying4,
  a4 := Tryz.isAgg4,
  z4 := Tryz.sizeOf4,
  v4 := Tryz.zeroValue4,
  t5 := Tryz.underlying5,
  a5 := Tryz.isAgg5,
  z5 := Tryz.sizeOf5,
  v5 := Tryz.zeroValue5,
  t9 := Tryz.underlying9,
  a9 := Tryz.isAgg9,
  z9 := Tryz.sizeOf9,
  v9 := Tryz.zeroValue9,
  t22 := Tryz.underlying114,
  a22 := Tryz.isAgg114,
  z22 := Tryz.sizeOf114,
  v22 := Tryz.zeroValue114,
  t25 := Tryz.underlying268,
  a25 := Tryz.isAgg268,
  z25 := Tryz.sizeOf268,
  v25 := Tryz.zeroValue268,
  t39 := Tryz.underlying205,
  a39 := Tryz.isAgg205,
  z39 := Tryz.sizeOf205,
  v39 := Tryz.zeroValue205,
  t45 := Tryz.underlying216,
  a45 := Tryz.isAgg216,
  z45 := Tryz.sizeOf216,
  v45 := Tryz.zeroValue216,
  t46 := Tryz.underlying217,
  a46 := Tryz.isAgg217,
  z46 := Tryz.sizeOf217,
  v46 := Tryz.zeroValue217,
  t50 := Tryz.underlying221,
  a50 := Tryz.isAgg221,
  z50 := Tryz.sizeOf221,
  v50 := Tryz.zeroValue221,
  t53 := Tryz.underlying224,
  a53 := Tryz.isAgg224,
  z53 := Tryz.sizeOf224,
  v53 := Tryz.zeroValue224,
  t55 := Tryz.underlying226,
  a55 := Tryz.isAgg226,
  z55 := Tryz.sizeOf226,
  v55 := Tryz.zeroValue226,
  t66 := Tryz.underlying227,
  a66 := Tryz.isAgg227,
  z66 := Tryz.sizeOf227,
  v66 := Tryz.zeroValue227,
  t70 := Tryz.underlying231,
  a70 := Tryz.isAgg231,
  z70 := Tryz.sizeOf231,
  v70 := Tryz.zeroValue231,
  t76 := Tryz.underlying233,
  a76 := Tryz.isAgg233,
  z76 := Tryz.sizeOf233,
  v76 := Tryz.zeroValue233,
  t77 := Tryz.underlying234,
  a77 := Tryz.isAgg234,
  z77 := Tryz.sizeOf234,
  v77 := Tryz.zeroValue234 }

theorem ans_lenQ (x : Ans) : x.vals.length = 2 := rfl
theorem ans_oneQ (x : Ans) : ∀ u ∈ x.vals, one u = true := by
  intro u hu
  simp only [Ans.vals, List.mem_cons, List.not_mem_nil, or_false] at hu
  rcases hu with rfl | rfl <;> rfl
theorem flatK_ans [Inhabited Ans] (l : List Ans) : Go.Sort.flatK Ans.vals 2 l.toArray = (fl Ans.vals l).toArray := by
  apply Array.ext'
  apply List.ext_getElem?
  intro t
  have hfl := fl_len (f := Ans.vals) ans_lenQ l
  by_cases ht : t < l.length * 2
  · have hi : t / 2 < l.length := by omega
    have hx : l[t / 2]? = some l[t / 2] := List.getElem?_eq_getElem hi
    have hv : (l[t / 2].vals)[t % 2]? = some (l[t / 2].vals)[t % 2]! := by
      have h7 : t % 2 < (l[t / 2].vals).length := by show t % 2 < 2; omega
      rw [List.getElem?_eq_getElem h7]
      simp [h7]
    have h1 := fl_get ans_lenQ hx hv [] []
    rw [List.append_nil, List.nil_append, List.length_nil, show 0 + t / 2 * 2 + t % 2 = t by omega] at h1
    rw [h1]
    simp [Go.Sort.flatK, ht, hi]
  · have h1 : (fl Ans.vals l)[t]? = none := List.getElem?_eq_none (by omega)
    rw [h1]
    simp [Go.Sort.flatK]
    omega
theorem holds_ans [Inhabited Ans] {w : World} {b : Nat} {xs : List Ans} {rest : List Value} {e : Nat} (hb : At w b (cel (fl Ans.vals xs ++ rest) e)) : Go.Sort.HoldsK Ans.vals 2 w b 0 xs.toArray := by
  unfold Go.Sort.HoldsK
  rw [flatK_ans]
  intro j hj
  refine ⟨?_, frozen_at hb _⟩
  have hj' : j < (fl Ans.vals xs).length := by simpa using hj
  rw [cell_at hb, Nat.zero_add, List.getElem?_append_left hj', List.getElem?_eq_getElem hj']
  simp [hj']
theorem row_ans [Inhabited Ans] {w : World} {b n : Nat} {xs ys : List Ans} {rest : List Value} {os : Array Obj} {e : Nat} (hb : At w b (cel (fl Ans.vals xs ++ rest) e)) (hl : ys.length = xs.length) :
    At (sortWorldK Ans.vals 2 w b 0 n ys.toArray os) b (cel (fl Ans.vals ys ++ rest) e) ∧ Frm (fun c => c = b) w (sortWorldK Ans.vals 2 w b 0 n ys.toArray os) := by
  have hb' : w.heap[b]? = some (cel (fl Ans.vals xs ++ rest) e) := hb
  have hlt := at_lt hb
  have hput : Go.Sort.putCells id 0 (fl Ans.vals ys).toArray (fl Ans.vals xs ++ rest).toArray = (fl Ans.vals ys ++ rest).toArray := by
    apply Array.ext'
    apply List.ext_getElem?
    intro t
    have h1 := fl_len ans_lenQ xs
    have h2 := fl_len ans_lenQ ys
    simp only [Go.Sort.putCells, Array.toList_mapIdx, List.getElem?_mapIdx, Nat.zero_le, true_and, Nat.zero_add, List.size_toArray, id]
    by_cases ht : t < (fl Ans.vals ys).length
    · rw [List.getElem?_append_left (by omega), List.getElem?_append_left ht, List.getElem?_eq_getElem (show t < (fl Ans.vals xs).length by omega), List.getElem?_eq_getElem ht]
      simp [ht]
    · rw [List.getElem?_append_right (by omega), List.getElem?_append_right (by omega), show t - (fl Ans.vals xs).length = t - (fl Ans.vals ys).length by omega]
      cases rest[t - (fl Ans.vals ys).length]? <;> simp [ht]
  have hheap : (Go.Sort.putRowK Ans.vals 2 (Go.Sort.ahead w n) b 0 ys.toArray).heap = w.heap.setIfInBounds b (cel (fl Ans.vals ys ++ rest) e) := by
    unfold Go.Sort.putRowK Go.Sort.putRow Go.Sort.mapBlock
    rw [flatK_ans]
    apply Array.ext_getElem?
    intro k
    simp only [Array.getElem?_modify, Go.Sort.ahead, Array.getElem?_setIfInBounds]
    by_cases hk : b = k
    · subst hk
      rw [if_pos rfl, if_pos rfl, if_pos hlt, hb']
      simp only [Option.map_some, Go.Sort.onCells, cel]
      rw [hput]
    · rw [if_neg hk, if_neg hk]
  have hh : (sortWorldK Ans.vals 2 w b 0 n ys.toArray os).heap = w.heap.setIfInBounds b (cel (fl Ans.vals ys ++ rest) e) ++ os := by
    unfold sortWorldK Go.Sort.grow
    rw [hheap]
  constructor
  · show (sortWorldK Ans.vals 2 w b 0 n ys.toArray os).heap[b]? = _
    rw [hh, Array.getElem?_append_left (by simpa using hlt), Array.getElem?_setIfInBounds_self, if_pos hlt]
  · refine ⟨by rw [hh]; simp, fun c o hc hn => ?_, rfl, rfl, rfl⟩
    have hc' : w.heap[c]? = some o := hc
    show (sortWorldK Ans.vals 2 w b 0 n ys.toArray os).heap[c]? = _
    rw [hh, Array.getElem?_append_left (by simpa using at_lt hc), Array.getElem?_setIfInBounds_ne (fun h => hn h.symm), hc']
def cmpA (x y : Ans) : Int := cmpI x.seq y.seq
theorem lack1_ret (x y : Ans) (w : World) : Rets Tryz.prog 175 [.agg x.vals.toArray, .agg y.vals.toArray] w fun v w' => v = I (cmpA x y) ∧ ∃ q os, w' = Go.Sort.grow (w.drewN q) os := by
  have hx1 := at_alloc (cel y.vals 123) (at_alloc_new w (cel x.vals 123))
  have hy1 := at_alloc_new (w.alloc (cel x.vals 123)) (cel y.vals 123)
  refine rets_of Tryz.func175 (by kernel_rfl) rfl Tryz.ntmps175 (Nat.le_of_ble_eq_true rfl) ?_
  refine runG07 ?_
  refine s_callf (Compare_ret x.seq y.seq _) rfl wnt_none ?_
  rintro v w2 ⟨rfl, rfl⟩
  refine runG07 ?_
  refine ret_i rfl rfl ⟨rfl, 0, #[cel x.vals 123, cel y.vals 123], ?_⟩
  simp only [Go.Sort.alloc_eq_grow, Go.Sort.grow_grow]
  rfl
def ltA (x y : Ans) : Bool := decide (x.seq < y.seq)
theorem ltOf_cmpA (x y : Ans) : ltOf cmpA x y = ltA x y := by
  unfold ltOf cmpA ltA
  exact decide_eq_decide.2 cmpI_neg
theorem swoA : Go.Sort.SWO (ltOf cmpA) where
  irrefl x := by rw [ltOf_cmpA]; simp [ltA]
  trans x y z h1 h2 := by rw [ltOf_cmpA] at *; simp [ltA] at *; omega
  ntrans x y z h1 h2 := by rw [ltOf_cmpA] at *; simp [ltA] at *; omega
theorem sortA_ret {w : World} {b cap : Nat} {xs : List Ans} {rest : List Value} (hb : At w b (cel (fl Ans.vals xs ++ rest) 123)) (hsz : xs.length < 1000000000000) :
    Rets Tryz.prog 174 [.slice (some ⟨b, 0, none⟩) xs.length cap, .func (.func 175) #[] #[]] w fun v w' => v = .tuple #[] ∧ ∃ ys, ys.Perm xs ∧ (ys.Pairwise fun a c => a.seq ≤ c.seq) ∧ At w' b (cel (fl Ans.vals ys ++ rest) 123) ∧ Frm (fun c => c = b) w w' := by
  refine ⟨by kernel_rfl, ?_⟩
  have hcf : callable Tryz.prog 175 = true := by kernel_rfl
  have : Inhabited Ans := ⟨⟨0, false⟩⟩
  have hcon := AnyQ.slices_SortFunc sortAns 2 Tryz.isAgg123 Tryz.sizeOf123 Ans.vals (fun _ => rfl) (fun x v hv => by
      have := ans_oneQ x v hv
      cases v <;> first | rfl | cases this) cmpA swoA 175 #[] b 0 cap xs.toArray w (fun args w => run_callFunc hcf args)
    (fun m os dk _ x y => (lack1_ret x y _).2.mono fun e w' he => by
      obtain ⟨v, rfl, rfl, q, os', rfl⟩ := he
      exact ⟨rfl, q, os', rfl⟩) (holds_ans hb) (at_lt hb) (by simp; omega)
  refine hcon.mono ?_
  rintro e w' ⟨rfl, d', n, os, hp, hs, rfl⟩
  obtain ⟨hsize, _, hperm⟩ := hp
  have hd : d' = d'.toList.toArray := rfl
  have hlen : d'.toList.length = xs.length := by simpa using hsize
  have hperm' : d'.toList.Perm xs := by
    have h1 : d'.extract 0 xs.toArray.size = d' := by rw [← hsize]; exact Array.extract_size
    have h2 : xs.toArray.extract 0 xs.toArray.size = xs.toArray := Array.extract_size
    rw [h1, h2] at hperm
    exact hperm
  refine ⟨_, rfl, rfl, d'.toList, hperm', ?_, ?_⟩
  · rw [List.pairwise_iff_getElem]
    intro i j hi hj hij
    have := hs i j (Nat.zero_le _) hij (by simpa [hlen] using hj)
    rw [ltOf_cmpA] at this
    simp only [Array.getElem_toList]
    rw [getElem!_pos d' j (by simpa using hj), getElem!_pos d' i (by simpa using hi)] at this
    simp [ltA] at this
    exact this
  · rw [hd]
    exact row_ans hb hlen
/-! Nothing to sort. -/
theorem ins0_ret (w : World) : Rets Tryz.prog 177 [.slice none 0 0, I 0, I 0, .func (.func 175) #[] #[]] w fun v w' => v = .tuple #[] ∧ w = w' := by
  refine rets_of Tryz.func177 (by kernel_rfl) rfl Tryz.ntmps177 (Nat.le_of_ble_eq_true rfl) ?_
  refine runG07 ?_
  refine lp (fun env w' => w = w' ∧ ∃ env0, env = setL env0 [(2, I 0), (8, I 1)]) (fun _ _ => 0) ⟨rfl, _, fixL ⟨rfl, rfl, trivial⟩⟩ ?_
  rintro env w' ⟨rfl, env0, rfl⟩
  refine runG07 ?_
  exact end_0 rfl ⟨rfl, rfl⟩
theorem pdq0_ret (n : Int) (w : World) : Rets Tryz.prog 176 [.slice none 0 0, I 0, I 0, I n, .func (.func 175) #[] #[]] w fun v w' => v = .tuple #[] ∧ w = w' := by
  refine rets_of Tryz.func176 (by kernel_rfl) rfl Tryz.ntmps176 (Nat.le_of_ble_eq_true rfl) ?_
  refine runG07 ?_
  refine lp (fun env w' => w = w' ∧ ∃ env0, env = setL env0 [(0, .slice none 0 0), (1, I 0), (2, I 0), (4, .func (.func 175) #[] #[])]) (fun _ _ => 0) ⟨rfl, _, fixL ⟨rfl, rfl, rfl, rfl, trivial⟩⟩ ?_
  rintro env w' ⟨rfl, env0, rfl⟩
  refine runG07 ?_
  refine s_callf (ins0_ret w) rfl wnt_none ?_
  rintro v w1 ⟨rfl, rfl⟩
  refine runG07 ?_
  exact ret_0 rfl ⟨rfl, rfl⟩
theorem len0_ret (w : World) : Rets Tryz.prog 127 [.int .u64 0] w fun v w' => v = I 0 ∧ w = w' := by
  refine ⟨by kernel_rfl, ?_⟩
  have h := Any.bits_Len (SlLaysF0.n15.bits { sortAns with }) 0 w (by omega) (by omega)
  refine h.mono ?_
  rintro e w' ⟨rfl, rfl⟩
  exact ⟨_, rfl, rfl, rfl⟩
section
variable {P : Program} {w : World} {ρ : Operand → Value} {d : Option Nat} {t : Nat} {p : String} {af : Array Edge} {g : Option (Nat × Bool)}
theorem r_conv {a b : Nat} {x : Operand} {v u : Value} (hx : ρ x = v) (h : (convert a b v).run P w = .ok u w) : (execOp ρ ⟨d, .convert a b x, t, p, af, g⟩).run P w = .ok (.value u) w := by
  simp [execOp, hx, h]
end
theorem conv0 (w : World) : (convert 3 205 (I 0)).run Tryz.prog w = .ok (.int .u64 0) w := by kernel_rfl
theorem sortA0_ret (w : World) : Rets Tryz.prog 174 [.slice none 0 0, .func (.func 175) #[] #[]] w fun v w' => v = .tuple #[] ∧ w = w' := by
  refine rets_of Tryz.func174 (by kernel_rfl) rfl Tryz.ntmps174 (Nat.le_of_ble_eq_true rfl) ?_
  refine runG07 ?_
  refine s_val (r_conv rfl (conv0 _)) wnt_none ?_
  refine s_callf (len0_ret w) rfl wnt_none ?_
  rintro v w1 ⟨rfl, rfl⟩
  refine runG07 ?_
  refine s_callf (pdq0_ret 0 w) rfl wnt_none ?_
  rintro v w1 ⟨rfl, rfl⟩
  refine runG07 ?_
  exact end_0 rfl ⟨rfl, rfl⟩
end Go.Proofs.YtbicffldggcdhaaGreatDoor

namespace Go.Proofs.YtbicffldggcdhaaGreatDoor
open Go

theorem eq_int2 (d : Nat) (a b : Int) {w : World} : (Op.equalIn (d + 1) 3 (I a) (I b)).run Tryz.prog w = .ok (a == b) w := by
  simp [Op.equalIn, run_underlying Tryz.underlying3]
theorem eq_mark {w : World} (a b : Int × Int) : (Op.equal 252 (MkV a) (MkV b)).run Tryz.prog w = .ok (decide (a = b)) w := by
  have key : ∀ d : Nat, (Op.equalIn (d + 2) 252 (MkV a) (MkV b)).run Tryz.prog w = .ok (decide (a = b)) w := by
    intro d
    have p0 : ∀ (k : Int × Int) (w : World), (Go.part 3 #[I k.1, I k.2] 0).run Tryz.prog w = .ok (I k.1) w := fun k w => part_int (cs := [I k.1, I k.2]) rfl
    have p1 : ∀ (k : Int × Int) (w : World), (Go.part 3 #[I k.1, I k.2] 1).run Tryz.prog w = .ok (I k.2) w := fun k w => part_int (cs := [I k.1, I k.2]) rfl
    have e3 : ∀ (a b : Int) (w : World), (Op.equalIn (d + 1) 3 (I a) (I b)).run Tryz.prog w = .ok (a == b) w := fun a b w => eq_int2 d a b
    rw [Op.equalIn]
    simp [run_underlying Tryz.underlying252]
    simp only [p0, p1, e3, Result.andThen_ok]
    by_cases h1 : a.1 = b.1
    · by_cases h2 : a.2 = b.2
      · simp [h1, h2, Prod.ext_iff]
      · simp [h1, h2, Prod.ext_iff]
    · simp [h1, Prod.ext_iff]
  exact key 9998
theorem ck_mark (a : Int × Int) (e : Bool) (w : World) : (Instr.checkKey e 10000 252 (MkV a)).run Tryz.prog w = .ok () w := by kernel_rfl
theorem map_erase {α β : Type} (f : α → β) : ∀ (l : List α) (j : Nat), (l.eraseIdx j).map f = (l.map f).eraseIdx j
  | [], _ => rfl
  | x :: l, 0 => rfl
  | x :: l, j + 1 => by simp only [List.eraseIdx_cons_succ, List.map_cons, map_erase f l j]
def vfind (k : Int × Int) : VD → Nat → Option (Nat × (Int × Bool))
  | [], _ => none
  | x :: l, i => if x.1 = k then some (i, x.2) else vfind k l (i + 1)
theorem vfind_some {k : Int × Int} : ∀ {l : VD} {i j : Nat} {v : Int × Bool}, vfind k l i = some (j, v) → i ≤ j ∧ l[j - i]? = some (k, v) ∧ ((l.map (·.1)).Nodup → vdel l k = l.eraseIdx (j - i))
  | [], _, _, _, h => by cases h
  | x :: l, i, j, v, h => by
    unfold vfind at h
    by_cases hx : x.1 = k
    · rw [if_pos hx] at h
      cases h
      refine ⟨Nat.le_refl _, ?_, fun hn => ?_⟩
      · rw [Nat.sub_self, ← hx]
        rfl
      · rw [Nat.sub_self, List.eraseIdx_cons_zero]
        unfold vdel
        rw [List.filter_cons_of_neg (by simp [hx]), List.filter_eq_self.2]
        intro y hy
        simp only [List.map_cons, List.nodup_cons] at hn
        have : y.1 ≠ k := fun e => hn.1 (by rw [hx, ← e]; exact List.mem_map_of_mem hy)
        simp [this]
    · rw [if_neg hx] at h
      obtain ⟨h1, h2, h3⟩ := vfind_some h
      refine ⟨by omega, ?_, fun hn => ?_⟩
      · rw [show j - i = j - (i + 1) + 1 by omega]
        exact h2
      · simp only [List.map_cons, List.nodup_cons] at hn
        rw [show j - i = j - (i + 1) + 1 by omega, List.eraseIdx_cons_succ, ← h3 hn.2]
        unfold vdel
        rw [List.filter_cons_of_pos (by simp [hx])]
theorem vfind_none {k : Int × Int} : ∀ {l : VD} {i : Nat}, vfind k l i = none → k ∉ l.map (·.1) ∧ vdel l k = l
  | [], _, _ => ⟨by simp, rfl⟩
  | x :: l, i, h => by
    unfold vfind at h
    by_cases hx : x.1 = k
    · rw [if_pos hx] at h; cases h
    · rw [if_neg hx] at h
      obtain ⟨h1, h2⟩ := vfind_none h
      refine ⟨?_, ?_⟩
      · simp only [List.map_cons, List.mem_cons, not_or]
        exact ⟨fun e => hx e.symm, h1⟩
      · unfold vdel at h2 ⊢
        rw [List.filter_cons_of_pos (by simp [hx]), h2]
theorem vfind_has {i s : Int} {l : VD} {n : Nat} : (vfind (i, s) l n).isSome = hasT l i s := by
  induction l generalizing n with
  | nil => rfl
  | cons x l ih =>
    unfold vfind hasT
    by_cases hx : x.1 = (i, s)
    · rw [if_pos hx]
      simp [hx]
    · rw [if_neg hx, ih]
      unfold hasT
      simp [hx]
theorem vask {w : World} (k : Int × Int) : ∀ (M : VD) (es : List MapEntry) (i : Nat), es.map entOf = M.map vEnt → (Instr.findAsking 252 (MkV k) es i).run Tryz.prog w = .ok ((vfind k M i).map fun x => (x.1, VdV x.2)) w
  | [], [], i, _ => rfl
  | [], e :: es, i, h => by simp at h
  | x :: m, [], i, h => by simp at h
  | x :: m, e :: es, i, h => by
    simp only [List.map_cons, List.cons.injEq, entOf, vEnt, Prod.mk.injEq] at h
    obtain ⟨⟨hk, hv⟩, hr⟩ := h
    unfold Instr.findAsking vfind
    rw [hk]
    simp only [Sem.run_bind, eq_mark, Result.andThen_ok]
    by_cases hx : x.1 = k
    · subst hx
      simp [hv]
    · have hx' : ¬ k = x.1 := fun e => hx e.symm
      rw [if_neg hx]
      simp only [hx', decide_false, Bool.false_eq_true, if_false]
      exact vask k m es (i + 1) hr
section
variable {w : World} {b : Nat} {k : Int × Int} {es : Array MapEntry} {cl : Nat} {M : VD}
theorem vkey (hE : VEnts es cl M) : (Instr.findKey 252 (MkV k) es.toList).run Tryz.prog w = .ok ((vfind k M 0).map fun x => (x.1, VdV x.2)) w := by
  have hD : ∃ fs, Tryz.prog.underlying 252 = some (.struct fs) := ⟨_, u_ok rfl⟩
  obtain ⟨fs, hD⟩ := hD
  unfold Instr.findKey
  simp only [Sem.run_bind, run_underlying hD, Result.andThen_ok]
  cases hes : es.toList with
  | nil =>
    have hM : M = [] := by
      have := hE.ents
      rw [hes] at this
      simpa using this.symm
    subst hM
    rfl
  | cons e l =>
    have : Instr.findNow (.struct fs) (MkV k) (e :: l) 0 = none := rfl
    rw [this]
    simp only
    rw [← hes]
    exact vask k M es.toList 0 hE.ents
theorem vlook_run (hb : At w b (.map es cl)) (hE : VEnts es cl M) :
    (Instr.lookup 103 (.map (some b)) (MkV k) true).run Tryz.prog w = .ok (.tuple #[VdV (((vfind k M 0).map (·.2)).getD (0, false)), B (vfind k M 0).isSome]) w := by
  have hf := vkey (w := w) (k := k) hE
  have hc : ∀ e, (Instr.checkKey e 10000 252 (MkV k)).run Tryz.prog w = .ok () w := fun e => ck_mark k e w
  simp only [Instr.lookup, Sem.run_bind, run_underlying Tryz.underlying103, MapKept.run_getObj_map hb, Result.andThen_ok, Sem.run_pure, hc, hf]
  cases vfind k M 0 with
  | none => simp [run_zero (P := Tryz.prog) (t := 254) (v := VdV (0, false)) (z_ok rfl)]
  | some j => simp
theorem vupd_run {v : Int × Bool} (hb : At w b (.map es cl)) (hE : VEnts es cl M) (hn : vfind k M 0 = none) :
    ∃ es' cl', (Instr.mapUpdate 103 (.map (some b)) (MkV k) (VdV v)).run Tryz.prog w = .ok () (setB w b (.map es' cl')) ∧ VEnts es' cl' (vput M k v) := by
  have hf := vkey (w := w) (k := k) hE
  have hc : ∀ e, (Instr.checkKey e 10000 252 (MkV k)).run Tryz.prog w = .ok () w := fun e => ck_mark k e w
  rw [hn] at hf
  obtain ⟨hnew, _⟩ := vfind_none hn
  refine ⟨es.push ⟨MkV k, VdV v, cl⟩, cl + 1, ?_, ?_⟩
  · simp [Instr.mapUpdate, run_underlying Tryz.underlying103, MapKept.run_getObj_map hb, hc, hf, MapKept.run_setObj_map _ hb, setB]
  · unfold vput
    refine ⟨?_, ?_, ?_, ?_⟩
    · simp [hE.ents, entOf, vEnt]
    · simp only [Array.toList_push, List.map_append, List.map_cons, List.map_nil]
      refine List.nodup_append.2 ⟨hE.born, by simp, ?_⟩
      intro a h1 c h2
      obtain ⟨e, he, rfl⟩ := List.mem_map.1 h1
      have := hE.low e he
      simp at h2
      omega
    · intro e he
      simp only [Array.toList_push, List.mem_append, List.mem_singleton] at he
      rcases he with he | rfl
      · have := hE.low e he; omega
      · exact Nat.lt_succ_self _
    · rw [List.map_append, List.nodup_append]
      refine ⟨hE.keys, by simp, ?_⟩
      intro a h1 c h2 e
      simp at h2
      subst h2
      exact hnew (e ▸ h1)
theorem vdel_run {ty : Nat} (hb : At w b (.map es cl)) (hE : VEnts es cl M) :
    ∃ es', (Builtin.delete_ #[103, 252] ty #[.map (some b), MkV k]).run Tryz.prog w = .ok (.tuple #[]) (setB w b (.map es' cl)) ∧ VEnts es' cl (vdel M k) := by
  have hf := vkey (w := w) (k := k) hE
  have hc : ∀ e, (Instr.checkKey e 10000 252 (MkV k)).run Tryz.prog w = .ok () w := fun e => ck_mark k e w
  cases ha : vfind k M 0 with
  | none =>
    rw [ha] at hf
    refine ⟨es, ?_, by rw [(vfind_none ha).2]; exact hE⟩
    simp [Builtin.delete_, run_underlying Tryz.underlying103, MapKept.run_getObj_map hb, hc, hf, MapKept.run_setObj_map _ hb, setB]
  | some jv =>
    obtain ⟨j, v⟩ := jv
    rw [ha] at hf
    obtain ⟨_, h2, h3⟩ := vfind_some ha
    rw [Nat.sub_zero] at h2 h3
    have hlen : es.toList.length = M.length := by
      have := congrArg List.length hE.ents
      simpa using this
    have hj : j < es.size := by
      have := (List.getElem?_eq_some_iff.1 h2).1
      simp at hlen
      omega
    refine ⟨es.eraseIdxIfInBounds j, ?_, ?_⟩
    · simp [Builtin.delete_, run_underlying Tryz.underlying103, MapKept.run_getObj_map hb, hc, hf, MapKept.run_setObj_map _ hb, setB]
    · have hl : (es.eraseIdxIfInBounds j).toList = es.toList.eraseIdx j := by
        rw [Array.eraseIdxIfInBounds, dif_pos hj, Array.toList_eraseIdx]
      rw [h3 hE.keys]
      refine ⟨?_, ?_, ?_, ?_⟩
      · rw [hl, map_erase, map_erase, hE.ents]
      · rw [hl]
        exact hE.born.sublist ((List.eraseIdx_sublist ..).map _)
      · intro e he
        rw [hl] at he
        exact hE.low e (List.mem_of_mem_eraseIdx he)
      · exact hE.keys.sublist ((List.eraseIdx_sublist ..).map _)
end
end Go.Proofs.YtbicffldggcdhaaGreatDoor

namespace Go.Proofs.YtbicffldggcdhaaGreatDoor
open Go

theorem bld_mark (a b : Int) (w : World) : (Instr.build 252 [(0, I a), (1, I b)].toArray).run Tryz.prog w = .ok (MkV (a, b)) w := by kernel_rfl
theorem bld_verdict (a : Int) (b : Bool) (w : World) : (Instr.build 254 [(0, I a), (1, B b)].toArray).run Tryz.prog w = .ok (VdV (a, b)) w := by kernel_rfl
theorem bld_entry (i s : Int) (e : Ed) (b : Bool) (w : World) : (Instr.build 54 [(0, I i), (1, I s), (2, EdV e), (3, B b)].toArray).run Tryz.prog w = .ok (.agg (Ent.vals ⟨i, s, e, b⟩).toArray) w := by kernel_rfl
theorem bs_entry (x : Ent) (w : World) : (Instr.buildSlice 46 1 [(0, .agg x.vals.toArray)].toArray).run Tryz.prog w = .ok (.slice (some ⟨w.heap.size, 0, none⟩) 1 1) (w.alloc (cel x.vals 54)) := by kernel_rfl
theorem append_entQ {w : World} {v s : Value} {A : List Ent} {q : Ent} {ty : Nat} (hrow : Row w v 54 9 A.length (fl Ent.vals A)) (hseg : Seg w s 9 1 q.vals) (hcap : A.length < 1000000) :
    ∃ v' w', (Builtin.append_ #[46, 46] ty #[v, s]).run Tryz.prog w = .ok v' w' ∧ Row w' v' 54 9 (A ++ [q]).length (fl Ent.vals (A ++ [q])) ∧ Frm (InV v) w w' ∧ ∀ b, InV v' b → InV v b ∨ w.heap.size ≤ b := by
  obtain ⟨v', w', h1, h2, h3, h4⟩ := append_seg (P := Tryz.prog) (sz := 9) (by' := 72) (ty := ty) (sT := 46) (u_ok rfl) (u_ok rfl) (fun kk h => by cases h) (s_ok rfl) (b_ok rfl) (z_ok rfl) rfl hrow hseg (ent_one q) (by omega) (by omega)
  exact ⟨v', w', h1, by rw [fl_append, List.length_append]; simpa [fl] using h2, h3, h4⟩
section
variable {w : World} {ρ : Operand → Value} {d : Option Nat} {t : Nat} {p : String} {af : Array Edge} {g : Option (Nat × Bool)}
theorem r_lookV {x y : Operand} {b : Nat} {k : Int × Int} {es : Array MapEntry} {cl : Nat} {M : VD} (hx : ρ x = .map (some b)) (hy : ρ y = MkV k) (hb : At w b (.map es cl)) (hE : VEnts es cl M) :
    (execOp ρ ⟨d, .lookup 103 x y true, t, p, af, g⟩).run Tryz.prog w = .ok (.value (.tuple #[VdV (((vfind k M 0).map (·.2)).getD (0, false)), B (vfind k M 0).isSome])) w := by
  simp [execOp, hx, hy, vlook_run hb hE]
theorem r_delV {x y : Operand} {ty b cl : Nat} {k : Int × Int} {es' : Array MapEntry} (hx : ρ x = .map (some b)) (hy : ρ y = MkV k) (h : (Builtin.delete_ #[103, 252] ty #[.map (some b), MkV k]).run Tryz.prog w = .ok (.tuple #[]) (setB w b (.map es' cl))) :
    (execOp ρ ⟨d, .call { callee := .builtin .delete, args := #[x, y], argTypes := #[103, 252] }, ty, p, af, g⟩).run Tryz.prog w = .ok (.value (.tuple #[])) (setB w b (.map es' cl)) := by
  simp only [execOp, resolve, Sem.run_bind, Sem.run_pure, Result.andThen_ok, invoke, builtin, List.map_toArray, List.map_cons, List.map_nil, hx, hy]
  rw [h]
  rfl
end
section
variable {PT : PTy} {w : World} {col : Nat → Nat} {k p t : Nat} {lv : Value} {mb cb cap : Nat} {rest : List Value} {ms : List CM} {Q : PPar}
theorem hasTaken_ret (h : PB PT w col k p t lv mb cb cap rest ms Q) (i s : Int) :
    Rets Tryz.prog 165 [Ptr p, I i, I s] w fun v w' => v = B (hasT Q.vd i s) ∧ Frm0 w w' := by
  have hh := h.head
  obtain ⟨es, cl, hm, hE⟩ := h.map
  refine rets_of Tryz.func165 (by kernel_rfl) rfl Tryz.ntmps165 (Nat.le_of_ble_eq_true rfl) ?_
  refine runG07 ?_
  refine s_val (r_build rfl (bld_mark _ _ _)) wnt_none ?_
  refine s_val (r_lookV (k := (i, s)) rfl rfl hm hE) wnt_none ?_
  refine runG07 ?_
  refine s_skip (r_storeAll (vs := [I (((vfind (i, s) Q.vd 0).map (·.2)).getD (0, false)).1, B (((vfind (i, s) Q.vd 0).map (·.2)).getD (0, false)).2]) (s_ok rfl) rfl rfl (by intro u hu; simp at hu; rcases hu with rfl | rfl <;> rfl) (at_alloc_new w _) rfl) wnt_none ?_
  refine runG07 ?_
  exact ret_b rfl rfl ⟨by rw [vfind_has], (Frm.of_alloc w _).setB (.inr (Nat.le_refl _)) _⟩
end
end Go.Proofs.YtbicffldggcdhaaGreatDoor

namespace Go.Proofs.YtbicffldggcdhaaGreatDoor
open Go

/-- What lacking gives: the answers that a client lacks, in a row of its own. -/
def LackSpec (w : World) (p : Nat) (i n : Int) (vd : VD) : Prop :=
  Rets Tryz.prog 173 [Ptr p, I i, I n] w fun v w' => ∃ L, L.Perm (lack vd i n) ∧ (L.Pairwise fun a b => a.seq ≤ b.seq) ∧ Row w' v 123 2 L.length (fl Ans.vals L) ∧ (∀ b, InV v b → w.heap.size ≤ b) ∧ Frm0 w w'
theorem nodup_of_map {α β : Type} {f : α → β} {l : List α} (h : (l.map f).Nodup) : l.Nodup := (List.pairwise_map.1 h).imp (fun h e => h (congrArg f e))
theorem nodup_map_of {α β : Type} {f : α → β} {l : List α} (hf : ∀ a b, f a = f b → a = b) (h : l.Nodup) : (l.map f).Nodup := List.pairwise_map.2 (List.Pairwise.imp (fun h e => h (hf _ _ e)) h)
section
variable {es : Array MapEntry} {cl : Nat} {M : VD}
theorem VEnts.mem (h : VEnts es cl M) {e : MapEntry} (he : e ∈ es.toList) : ∃ x ∈ M, e.key = MkV x.1 ∧ e.val = VdV x.2 := by
  have h1 : entOf e ∈ M.map vEnt := by rw [← h.ents]; exact List.mem_map_of_mem he
  obtain ⟨x, hx, hxe⟩ := List.mem_map.1 h1
  unfold vEnt entOf at hxe
  simp only [Prod.mk.injEq] at hxe
  exact ⟨x, hx, hxe.1.symm, hxe.2.symm⟩
theorem VEnts.of (h : VEnts es cl M) {x : (Int × Int) × (Int × Bool)} (hx : x ∈ M) : ∃ e ∈ es.toList, e.key = MkV x.1 ∧ e.val = VdV x.2 := by
  have h1 : vEnt x ∈ es.toList.map entOf := by rw [h.ents]; exact List.mem_map_of_mem hx
  obtain ⟨e, he, hxe⟩ := List.mem_map.1 h1
  unfold vEnt entOf at hxe
  simp only [Prod.mk.injEq] at hxe
  exact ⟨e, he, hxe.1, hxe.2⟩
theorem mk_inj {a b : Int × Int} (h : MkV a = MkV b) : a = b := by
  obtain ⟨a1, a2⟩ := a
  obtain ⟨b1, b2⟩ := b
  simp [MkV] at h
  rw [h.1, h.2]
theorem VEnts.keyN (h : VEnts es cl M) : (es.toList.map (·.key)).Nodup := by
  have h1 : es.toList.map (·.key) = (M.map (·.1)).map MkV := by
    have := congrArg (List.map Prod.fst) h.ents
    rw [List.map_map, List.map_map] at this
    rw [List.map_map]
    exact this
  rw [h1]
  exact nodup_map_of (fun a b => mk_inj) h.keys
end
section
variable {P : Program} {w : World} {ρ : Operand → Value} {d : Option Nat} {t b cl : Nat} {p : String} {af : Array Edge} {g : Option (Nat × Bool)} {x : Operand} {es : Array MapEntry}
theorem r_entryV {r : Nat} {seen : Array Nat} {e : MapEntry} {k v : Value} (hx : ρ x = .pointer (some ⟨r, 0, none⟩)) (hr : At w r (.mapIter (some b) cl (seen.push e.born) cl)) (hb : At w b (.map es cl)) (he : e ∈ es.toList) (hn : (es.toList.map (·.born)).Nodup) (hk : e.key = k) (hv : e.val = v) :
    (execOp ρ ⟨d, .entry x, t, p, af, g⟩).run P w = .ok (.value (.tuple [k, v].toArray)) w := by
  rw [r_entry hx hr hb he hn, hk, hv]
end
theorem bld_ansQ (a : Int) (b : Bool) (w : World) : (Instr.build 123 [(0, I a), (1, B b)].toArray).run Tryz.prog w = .ok (.agg (Ans.vals ⟨a, b⟩).toArray) w := by kernel_rfl
theorem bs_ansQ (x : Ans) (w : World) : (Instr.buildSlice 114 1 [(0, .agg x.vals.toArray)].toArray).run Tryz.prog w = .ok (.slice (some ⟨w.heap.size, 0, none⟩) 1 1) (w.alloc (cel x.vals 123)) := by kernel_rfl
theorem append_ansQ {w : World} {v s : Value} {A : List Ans} {q : Ans} {ty : Nat} (hrow : Row w v 123 2 A.length (fl Ans.vals A)) (hseg : Seg w s 2 1 q.vals) (hcap : A.length < 4000000000000) :
    ∃ v' w', (Builtin.append_ #[114, 114] ty #[v, s]).run Tryz.prog w = .ok v' w' ∧ Row w' v' 123 2 (A ++ [q]).length (fl Ans.vals (A ++ [q])) ∧ Frm (InV v) w w' ∧ ∀ b, InV v' b → InV v b ∨ w.heap.size ≤ b := by
  obtain ⟨v', w', h1, h2, h3, h4⟩ := append_seg (P := Tryz.prog) (sz := 2) (by' := 16) (ty := ty) (sT := 114) (u_ok rfl) (u_ok rfl) (fun kk h => by cases h) (s_ok rfl) (b_ok rfl) (z_ok rfl) rfl hrow hseg (ans_oneQ q) (by omega) (by omega)
  exact ⟨v', w', h1, by rw [fl_append, List.length_append]; simpa [fl] using h2, h3, h4⟩
theorem lack_append (a b : VD) (i n : Int) : lack (a ++ b) i n = lack a i n ++ lack b i n := by simp [lack]
set_option maxRecDepth 4000 in
set_option maxHeartbeats 4000000 in
theorem lacking_ret {PT : PTy} {w : World} {col : Nat → Nat} {k p t : Nat} {lv : Value} {mb cb cap : Nat} {rest : List Value} {ms : List CM} {Q : PPar} (h : PB PT w col k p t lv mb cb cap rest ms Q) (i n : Int) (hl : Q.vd.length < 1000000000000) : LackSpec w p i n Q.vd := by
  have hh := h.head
  obtain ⟨es, cl, hm, hE⟩ := h.map
  have hkeys := nodup_map_inj hE.keyN
  have hborn := nodup_map_inj hE.born
  obtain ⟨N, hN⟩ : ∃ N, w.heap.size = N := ⟨_, rfl⟩
  have hmN := at_lt hm
  unfold LackSpec
  refine rets_of Tryz.func173 (by kernel_rfl) rfl Tryz.ntmps173 (Nat.le_of_ble_eq_true rfl) ?_
  refine runG07 ?_
  refine s_val (r_range (u_ok rfl) rfl hm) wnt_none ?_
  rw [hN]
  refine runG07 ?_
  refine lp (fun env w' => ∃ env0, ∃ (seen : Array Nat) (sn : VD) (va : Option Addr) (vc : Nat), env = setL env0 [(1, I i), (2, I n), (7, .slice va (lack sn i n).length vc), (14, Ptr N)] ∧ At w' N (.mapIter (some mb) cl seen cl) ∧ Row w' (.slice va (lack sn i n).length vc) 123 2 (lack sn i n).length (fl Ans.vals (lack sn i n)) ∧ (∀ b, InV (.slice va (lack sn i n).length vc) b → N < b) ∧ Frm0 w w' ∧ N + 1 ≤ w'.heap.size ∧
    (sn.map (·.1)).Nodup ∧ (∀ e ∈ es.toList, ∀ x, e.key = MkV x.1 → e.val = VdV x.2 → (x ∈ sn ↔ e.born ∈ seen.toList)) ∧ (∀ x ∈ sn, x ∈ Q.vd)) (fun _ w' => left es N w') ?_ ?_
  · refine ⟨_, #[], [], none, 0, fixL ⟨rfl, rfl, rfl, rfl, trivial⟩, ?_, Row.nil, fun b hb => (inv_none hb).elim, Frm.of_alloc _ _, by rw [World.size_alloc]; omega, by simp, fun e _ x _ _ => by simp, fun x hx => by cases hx⟩
    have := at_alloc_new w (.mapIter (some mb) cl #[] cl)
    rwa [hN] at this
  · rintro env w1 ⟨env0, seen, sn, va, vc, rfl, hit, hrow, hnew, hF, hsz, hsn, hch, hsub⟩
    have hm1 := hF.at0 hm
    have hl1 := left_at (es := es) hit
    have hlen : (lack sn i n).length ≤ Q.vd.length := by
      have h1 : (lack sn i n).length ≤ sn.length := by
        unfold lack
        rw [List.length_map]
        exact List.length_filter_le _ _
      have h2 := nodup_sub (m := Q.vd.map (·.1)) hsn (fun x hx => by
        obtain ⟨y, hy, rfl⟩ := List.mem_map.1 hx
        exact List.mem_map_of_mem (hsub y hy))
      rw [List.length_map, List.length_map] at h2
      omega
    rcases next_run (P := Tryz.prog) (t := 0) hit hm1 hE.low with ⟨hall, hn⟩ | ⟨e, he, hns, w2, hw2, hn⟩
    · have hperm : sn.Perm Q.vd := by
        refine (List.perm_ext_iff_of_nodup (nodup_of_map hsn) (nodup_of_map hE.keys)).2 (fun x => ⟨hsub x, fun hx => ?_⟩)
        obtain ⟨e, he, h1, h2⟩ := hE.of hx
        exact (hch e he x h1 h2).2 (hall e he)
      have hlp : (lack sn i n).Perm (lack Q.vd i n) := (hperm.filter _).map _
      refine runG07 ?_
      refine s_val (r_next rfl hn) wnt_none ?_
      refine runG07 ?_
      rcases hrow with ⟨e1, e2, _⟩ | ⟨b, cap1, rest1, e1, hA, hpl, hr, hc⟩
      · have hnil : lack sn i n = [] := List.length_eq_zero_iff.1 e2
        rw [e1]
        refine s_callf (sortA0_ret _) rfl wnt_none ?_
        rintro v w3 ⟨rfl, rfl⟩
        refine runG07 ?_
        rw [hnil] at hlp
        exact ret_s rfl rfl ⟨[], hlp, List.Pairwise.nil, Row.nil, fun b hb => (inv_none hb).elim, hF⟩
      · cases e1
        refine s_callf (sortA_ret (cap := vc) hA (by omega)) rfl wnt_none ?_
        rintro v w3 ⟨rfl, ys, hy, ho, hA3, f3⟩
        refine runG07 ?_
        have hbN := hnew b ⟨_, _, _, rfl⟩
        refine ret_s rfl rfl ⟨ys, hy.trans hlp, ho, .inr ⟨b, vc, rest1, by rw [hy.length_eq], hA3, by rw [fl_len ans_lenQ], ?_, ?_⟩, ?_, hF.trans f3 (fun c hc => .inr (by omega))⟩
        · rw [hy.length_eq]; exact hr
        · rw [hy.length_eq]; exact hc
        · rintro c ⟨_, _, _, hv⟩
          cases hv
          omega
    · obtain ⟨x, hxm, hk, hv⟩ := hE.mem he
      obtain ⟨⟨xi, xs⟩, xn, xd⟩ := x
      rw [hk, hv] at hn
      have hF12 : Frm0 w1 w2 := by rcases hw2 with rfl | rfl; exact Frm.refl _ _; exact Frm.of_drew _
      have hF13 : Frm (fun b => b = N) w1 (setB w2 N (.mapIter (some mb) cl (seen.push e.born) cl)) := (hF12.mono (T := fun b => b = N) (fun _ h => h.elim)).setB (b := N) (.inl rfl) _
      have hit3 := at_setB (.mapIter (some mb) cl (seen.push e.born) cl) (hF12.at0 hit)
      have hF3 : Frm0 w (setB w2 N (.mapIter (some mb) cl (seen.push e.born) cl)) := hF.trans hF13 (fun b hb => .inr (by omega))
      have hrow3 := hrow.frm hF13 (fun b hb e9 => by have := hnew b hb; omega)
      have hpl := left_push he hns
      have hs3 := hF13.size
      have hm3 := hF3.at0 hm
      have hxsn : (((xi, xs), xn, xd) : (Int × Int) × Int × Bool) ∉ sn := fun hx => hns ((hch e he _ hk hv).1 hx)
      have hsn' : ((sn ++ [((xi, xs), xn, xd)]).map (·.1)).Nodup := by
        rw [List.map_append, List.nodup_append]
        refine ⟨hsn, by simp, ?_⟩
        intro a ha b hb e9
        simp at hb
        subst hb
        subst e9
        obtain ⟨y, hy, hye⟩ := List.mem_map.1 ha
        have hyM := hsub y hy
        have := nodup_map_inj hE.keys y hyM _ hxm hye
        subst this
        exact hxsn hy
      have hch' : ∀ e' ∈ es.toList, ∀ y : (Int × Int) × Int × Bool, e'.key = MkV y.1 → e'.val = VdV y.2 → (y ∈ sn ++ [((xi, xs), xn, xd)] ↔ e'.born ∈ (seen.push e.born).toList) := by
        intro e' he' y hk' hv'
        simp only [List.mem_append, List.mem_singleton, Array.toList_push]
        constructor
        · rintro (h1 | h1)
          · exact .inl ((hch e' he' y hk' hv').1 h1)
          · subst h1
            have := hkeys e' he' e he (by rw [hk', hk])
            subst this
            exact .inr rfl
        · rintro (h1 | h1)
          · exact .inl ((hch e' he' y hk' hv').2 h1)
          · have := hborn e' he' e he h1
            subst this
            obtain ⟨z, hz, hz1, hz2⟩ := hE.mem he
            have hyM : y ∈ Q.vd := by
              obtain ⟨y', hy', g1, g2⟩ := hE.mem he'
              have e1 : y.1 = y'.1 := mk_inj (hk'.symm.trans g1)
              have e2 : y.2 = y'.2 := by
                have := hv'.symm.trans g2
                obtain ⟨y1, y2, y3⟩ := y
                obtain ⟨z1, z2, z3⟩ := y'
                simp [VdV] at this
                simp [this.1, this.2]
              have : y = y' := Prod.ext e1 e2
              rw [this]; exact hy'
            right
            exact nodup_map_inj hE.keys y hyM _ hxm (mk_inj (hk'.symm.trans hk))
      have hsub' : ∀ y ∈ sn ++ [((xi, xs), xn, xd)], y ∈ Q.vd := by
        intro y hy
        rcases List.mem_append.1 hy with h1 | h1
        · exact hsub y h1
        · simp at h1
          subst h1
          exact hxm
      refine runG07 ?_
      refine s_val (r_next rfl hn) wnt_none ?_
      refine runG07 ?_
      refine s_val (r_entryV rfl hit3 hm3 he hE.born hk hv) wnt_none ?_
      generalize setB w2 N (.mapIter (some mb) cl (seen.push e.born) cl) = w3 at *
      refine runG07 ?_
      refine s_skip (r_storeAll (vs := [I xi, I xs]) (s_ok rfl) rfl rfl (by intro u hu; simp at hu; rcases hu with rfl | rfl <;> rfl) (at_alloc _ (at_alloc_new w3 _)) rfl) wnt_none ?_
      refine s_skip (r_storeAll (vs := [I xn, B xd]) (s_ok rfl) rfl rfl (by intro u hu; simp at hu; rcases hu with rfl | rfl <;> rfl) (at_setB_ne _ (by rw [World.size_alloc]; omega) (at_alloc_new _ _)) rfl) wnt_none ?_
      have hx4 : At (setB (setB ((w3.alloc (cel [I 0, I 0] 252)).alloc (cel [I 0, B false] 254)) w3.heap.size (cel [I xi, I xs] 252)) (w3.alloc (cel [I 0, I 0] 252)).heap.size (cel [I xn, B xd] 254)) w3.heap.size (cel [I xi, I xs] 252) := at_setB_ne _ (by rw [World.size_alloc]; omega) (at_setB _ (at_alloc _ (at_alloc_new w3 _)))
      have hy4 : At (setB (setB ((w3.alloc (cel [I 0, I 0] 252)).alloc (cel [I 0, B false] 254)) w3.heap.size (cel [I xi, I xs] 252)) (w3.alloc (cel [I 0, I 0] 252)).heap.size (cel [I xn, B xd] 254)) (w3.alloc (cel [I 0, I 0] 252)).heap.size (cel [I xn, B xd] 254) := at_setB _ (at_setB_ne _ (by rw [World.size_alloc]; omega) (at_alloc_new _ _))
      have f4 : Frm0 w3 (setB (setB ((w3.alloc (cel [I 0, I 0] 252)).alloc (cel [I 0, B false] 254)) w3.heap.size (cel [I xi, I xs] 252)) (w3.alloc (cel [I 0, I 0] 252)).heap.size (cel [I xn, B xd] 254)) := (((Frm.of_alloc w3 _).alloc _).setB (b := w3.heap.size) (.inr (Nat.le_refl _)) _).setB (.inr (by rw [World.size_alloc]; omega)) _
      generalize setB (setB ((w3.alloc (cel [I 0, I 0] 252)).alloc (cel [I 0, B false] 254)) w3.heap.size (cel [I xi, I xs] 252)) (w3.alloc (cel [I 0, I 0] 252)).heap.size (cel [I xn, B xd] 254) = w4 at *
      generalize (w3.alloc (cel [I 0, I 0] 252)).heap.size = z1 at *
      have F4 := hF3.trans0 f4
      have hit4 := f4.at0 hit3
      have hrow4 := hrow3.frm f4 (fun _ _ h => h)
      have s4 := f4.size
      have hl4 := left_at (es := es) hit4
      by_cases hc : xi = i ∧ n < xn
      · obtain ⟨hc1, hc2⟩ := hc
        have hlk : lack (sn ++ [((xi, xs), xn, xd)]) i n = lack sn i n ++ [⟨xs, xd⟩] := by
          rw [lack_append]
          congr 1
          simp [lack, hc1, hc2]
        refine runG07 ?_
        refine s_val (r_build rfl (bld_ansQ _ _ _)) wnt_none ?_
        refine s_val (r_bs rfl (bs_ansQ ⟨xs, xd⟩ _)) wnt_none ?_
        have f5 : Frm0 w4 (w4.alloc (cel (Ans.vals ⟨xs, xd⟩) 123)) := Frm.of_alloc _ _
        have s5 := f5.size
        obtain ⟨v6, w6, e6, r6, f6, n6⟩ := append_ansQ (ty := 114) (A := lack sn i n) (q := ⟨xs, xd⟩) (hrow4.frm f5 (fun _ _ h => h)) (seg_new rfl) (by omega)
        rw [← hlk] at r6
        obtain ⟨va6, vc6, rfl⟩ := r6.isSl
        refine s_val (r_app rfl rfl e6) wnt_none ?_
        have hit6 := f6.at (b := N) (fun hb => by have := hnew N hb; omega) (f5.at0 hit4)
        have hl6 := left_at (es := es) hit6
        have s6 := f6.size
        refine runG07 ?_
        refine ⟨_, rfl, ⟨_, seen.push e.born, sn ++ [((xi, xs), xn, xd)], va6, vc6, fixL ⟨rfl, rfl, rfl, rfl, trivial⟩, hit6, r6, fun b hb => ?_, (F4.trans0 f5).trans f6 (fun b hb => .inr (by have := hnew b hb; omega)), by omega, hsn', hch', hsub'⟩, by rw [hl1, hl6]; exact hpl⟩
        rcases n6 b hb with h9 | h9
        · exact hnew b h9
        · omega
      · have hlk : lack (sn ++ [((xi, xs), xn, xd)]) i n = lack sn i n := by
          rw [lack_append]
          have : lack [((xi, xs), xn, xd)] i n = [] := by
            unfold lack
            rw [List.filter_cons_of_neg (by simpa using hc)]
            rfl
          rw [this, List.append_nil]
        by_cases hc1 : xi = i
        · have hc2 : ¬ n < xn := fun h9 => hc ⟨hc1, h9⟩
          refine runG07 ?_
          refine ⟨_, rfl, ⟨_, seen.push e.born, sn ++ [((xi, xs), xn, xd)], va, vc, by rw [hlk]; exact fixL ⟨rfl, rfl, rfl, rfl, trivial⟩, hit4, by rw [hlk]; exact hrow4, by rw [hlk]; exact hnew, F4, by omega, hsn', hch', hsub'⟩, by rw [hl1, hl4]; exact hpl⟩
        · refine runG07 ?_
          refine ⟨_, rfl, ⟨_, seen.push e.born, sn ++ [((xi, xs), xn, xd)], va, vc, by rw [hlk]; exact fixL ⟨rfl, rfl, rfl, rfl, trivial⟩, hit4, by rw [hlk]; exact hrow4, by rw [hlk]; exact hnew, F4, by omega, hsn', hch', hsub'⟩, by rw [hl1, hl4]; exact hpl⟩
end Go.Proofs.YtbicffldggcdhaaGreatDoor
