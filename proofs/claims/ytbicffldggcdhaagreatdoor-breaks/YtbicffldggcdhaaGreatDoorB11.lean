/-
  WQ24; WQ25; WQ26; LBook; WL2; WB1.
-/
import Derived.Test.YtbicffldggcdhaaGreatDoorB07
import Derived.Test.YtbicffldggcdhaaGreatDoorB06
import Derived.Test.YtbicffldggcdhaaGreatDoorB08
import Derived.Test.YtbicffldggcdhaaGreatDoorB10
namespace Go.Proofs.YtbicffldggcdhaaGreatDoor
open Go
theorem runG11 {G K : Prop} (k : K) (h : Wrap K → G := by intro h; (repeat (first | (with_reducible first | refine wpIn_seq ?_ | refine w_reg ?_ | refine s_nil ?_ | refine s_nilQ ?_ | refine wpIn_block ?_ | refine q_then ?_ | refine q_blk ?_ | refine q_then_ret ?_ | refine q_blk_ret ?_ | refine q_then_exit ?_ | refine q_blk_exit ?_ | refine wpIn_skip ?_ | refine wpIn_ret ?_ | refine wpIn_exit ?_ | refine y_nil ?_ | refine y_nilQ ?_ | refine x_late ?_) | ((with_reducible refine q_blk_other ?_ ?_); exact rfl) | ((with_reducible apply c_true); exact rfl; (with_reducible exact rfl)) | ((with_reducible apply c_false); exact rfl; (with_reducible exact rfl)) | ((with_reducible apply s_no); (first | ((with_reducible apply wnt_nt); exact rfl; exact rfl; exact rfl; exact rfl; (with_reducible exact rfl)) | ((with_reducible apply wnt_nf); exact rfl; exact rfl; exact rfl; exact rfl; (with_reducible exact rfl)))) | ((with_reducible apply x_qno); exact rfl; (first | ((with_reducible apply wnt_nt); exact rfl; exact rfl; exact rfl; exact rfl; (with_reducible exact rfl)) | ((with_reducible apply wnt_nf); exact rfl; exact rfl; exact rfl; exact rfl; (with_reducible exact rfl)))) | ((first | with_reducible apply s_val | ((with_reducible apply y_val); exact rfl) | ((with_reducible apply x_q); exact rfl; intro wq hq)); (first | ((with_reducible apply r_assign_s); exact rfl) | ((with_reducible apply r_move_s); exact rfl) | ((with_reducible apply r_eql_t); exact rfl; exact rfl; omega) | ((with_reducible apply r_eql_f); exact rfl; exact rfl; omega) | ((with_reducible apply r_eql); exact rfl; exact rfl) | ((with_reducible apply r_assign_p); exact rfl) | ((with_reducible apply r_move_p); exact rfl) | ((with_reducible apply r_nilCheck); exact rfl) | ((with_reducible apply r_fld); exact fa_ok rfl; exact rfl) | ((with_reducible apply r_load); exact u_ok rfl; exact rfl; exact rfl; (first | exact Frm.at0 hq (by assumption) | exact Frm.at hq (by assumption) (by assumption) | (first | (with_reducible assumption) | assumption | exact at_alloc_new _ _ | (repeat (first | assumption | exact at_alloc_new _ _ | refine at_drew ?_ | refine at_alloc _ ?_)))); (first | exact mid_get rfl | exact mid_get2 rfl | exact mid_get0 rfl | exact rfl)) | ((with_reducible apply r_len); exact u_ok rfl; exact rfl) | ((with_reducible apply r_move_i); exact rfl) | ((with_reducible apply r_lss_t); exact rfl; exact rfl; omega) | ((with_reducible apply r_lss_f); exact rfl; exact rfl; omega) | ((with_reducible apply r_lss); exact rfl; exact rfl) | ((with_reducible apply r_index); exact u_ok rfl; exact s_ok rfl; exact rfl; exact rfl; omega; omega) | ((with_reducible apply r_indexarr); exact u_ok rfl; exact s_ok rfl; exact rfl; exact rfl; omega; omega) | ((with_reducible apply r_loadA); exact u_ok rfl; exact rfl; exact s_ok rfl; exact rfl; (first | exact Frm.at0 hq (by assumption) | exact Frm.at hq (by assumption) (by assumption) | (first | (with_reducible assumption) | assumption | exact at_alloc_new _ _ | (repeat (first | assumption | exact at_alloc_new _ _ | refine at_drew ?_ | refine at_alloc _ ?_)))); exact Nat.le_of_ble_eq_true rfl) | ((with_reducible apply r_allocA); exact z_ok rfl) | ((with_reducible apply r_alloc1); exact z_ok rfl; exact rfl) | ((with_reducible apply r_add); exact rfl; exact rfl; omega; omega) | ((with_reducible apply r_assign_if); exact rfl) | ((with_reducible apply r_assign_ni); exact rfl) | ((with_reducible apply r_move_t); exact rfl) | ((with_reducible apply r_extract); exact rfl; exact rfl) | ((with_reducible apply r_move_if); exact rfl) | ((with_reducible apply r_move_ni); exact rfl) | ((with_reducible apply r_neq_t); exact rfl; exact rfl; omega) | ((with_reducible apply r_neq_f); exact rfl; exact rfl; omega) | ((with_reducible apply r_neq); exact rfl; exact rfl) | ((with_reducible apply r_assign_i); exact rfl) | ((with_reducible apply r_boxA); exact rfl) | ((with_reducible apply r_box1); exact rfl; exact rfl) | ((with_reducible apply r_move_b); exact rfl) | ((with_reducible apply r_gtr_t); exact rfl; exact rfl; omega) | ((with_reducible apply r_gtr_f); exact rfl; exact rfl; omega) | ((with_reducible apply r_gtr); exact rfl; exact rfl) | ((with_reducible apply r_pick_t); exact rfl; (with_reducible exact rfl); exact rfl) | ((with_reducible apply r_pick_f); exact rfl; (with_reducible exact rfl); exact rfl) | ((with_reducible apply r_assign_b); exact rfl) | ((with_reducible apply r_sub); exact rfl; exact rfl; omega; omega)); (first | (with_reducible exact wnt_none) | ((with_reducible apply wnt_y); exact rfl; exact rfl; exact rfl; exact rfl; (with_reducible exact rfl)))))); exact h.out) : G := h ⟨k⟩

theorem bs0_ans (w : World) : (Instr.buildSlice 114 0 #[]).run Tryz.prog w = .ok (.slice (some ⟨w.heap.size, 0, none⟩) 0 0) (w.alloc (cel [] 123)) := by kernel_rfl
theorem bs0_ent (w : World) : (Instr.buildSlice 46 0 #[]).run Tryz.prog w = .ok (.slice (some ⟨w.heap.size, 0, none⟩) 0 0) (w.alloc (cel [] 54)) := by kernel_rfl
theorem bs_ed (e : Ed) (w : World) : (Instr.buildSlice 26 1 [(0, EdV e)].toArray).run Tryz.prog w = .ok (.slice (some ⟨w.heap.size, 0, none⟩) 1 1) (w.alloc (cel e.vals 31)) := by kernel_rfl
theorem append_edQ {w : World} {v s : Value} {A : List Ed} {q : Ed} {ty : Nat} (hrow : Row w v 31 6 A.length (fl Ed.vals A)) (hseg : Seg w s 6 1 q.vals) (hcap : A.length < 1000000) :
    ∃ v' w', (Builtin.append_ #[26, 26] ty #[v, s]).run Tryz.prog w = .ok v' w' ∧ Row w' v' 31 6 (A ++ [q]).length (fl Ed.vals (A ++ [q])) ∧ Frm (InV v) w w' ∧ ∀ b, InV v' b → InV v b ∨ w.heap.size ≤ b := by
  obtain ⟨v', w', h1, h2, h3, h4⟩ := append_seg (P := Tryz.prog) (sz := 6) (by' := 48) (ty := ty) (sT := 26) (u_ok rfl) (u_ok rfl) (fun kk h => by cases h) (s_ok rfl) (b_ok rfl) (z_ok rfl) rfl hrow hseg (edit_one q) (by omega) (by omega)
  exact ⟨v', w', h1, by rw [fl_append, List.length_append]; simpa [fl] using h2, h3, h4⟩
/-- A list that came out: its row is new. -/
def Out (w w' : World) (v : Value) (T sz n : Nat) (pre : List Value) : Prop := Row w' v T sz n pre ∧ (∀ b, InV v b → w.heap.size ≤ b) ∧ Frm0 w w'
section
variable {w : World} {n : Nat} {env : Env} {d : Option Nat} {t ty2 : Nat} {p : String} {af : Array Edge} {g : Option (Nat × Bool)} {x : Operand}
theorem r_slA {b m c : Nat} (hx : ev n env x = .slice (some ⟨b, 0, none⟩) m c) : (execOp (ev n env) ⟨d, .binOp .eql 114 x (.const (.slice none 0 0)) ty2, t, p, af, g⟩).run Tryz.prog w = .ok (.value (.bool false)) w :=
  r_eq2 hx (show ev n env (.const (.slice none 0 0)) = .slice none 0 0 from rfl) rfl (by kernel_rfl)
theorem r_slA0 (hx : ev n env x = .slice none 0 0) : (execOp (ev n env) ⟨d, .binOp .eql 114 x (.const (.slice none 0 0)) ty2, t, p, af, g⟩).run Tryz.prog w = .ok (.value (.bool true)) w :=
  r_eq2 hx (show ev n env (.const (.slice none 0 0)) = .slice none 0 0 from rfl) rfl (by kernel_rfl)
theorem r_slE {b m c : Nat} (hx : ev n env x = .slice (some ⟨b, 0, none⟩) m c) : (execOp (ev n env) ⟨d, .binOp .eql 46 x (.const (.slice none 0 0)) ty2, t, p, af, g⟩).run Tryz.prog w = .ok (.value (.bool false)) w :=
  r_eq2 hx (show ev n env (.const (.slice none 0 0)) = .slice none 0 0 from rfl) rfl (by kernel_rfl)
theorem r_slE0 (hx : ev n env x = .slice none 0 0) : (execOp (ev n env) ⟨d, .binOp .eql 46 x (.const (.slice none 0 0)) ty2, t, p, af, g⟩).run Tryz.prog w = .ok (.value (.bool true)) w :=
  r_eq2 hx (show ev n env (.const (.slice none 0 0)) = .slice none 0 0 from rfl) rfl (by kernel_rfl)
end
theorem row_none {w : World} {T sz : Nat} : Row (w.alloc (cel [] T)) (.slice (some ⟨w.heap.size, 0, none⟩) 0 0) T sz 0 [] := .inr ⟨w.heap.size, 0, [], rfl, at_alloc_new _ _, by simp, by simp, Nat.le_refl _⟩
theorem inv_new {b c n m : Nat} (h : InV (.slice (some ⟨c, 0, none⟩) n m) b) : b = c := by
  obtain ⟨_, _, _, h⟩ := h
  cases h
  rfl
set_option maxHeartbeats 1000000 in
theorem CloneAns_ret {w : World} {v : Value} {l : List Ans} (h : Row w v 123 2 l.length (fl Ans.vals l)) (hl : l.length < 4000000000000) : Rets Tryz.prog 75 [v] w fun u w' => Out w w' u 123 2 l.length (fl Ans.vals l) := by
  rcases h with ⟨rfl, h0, hp⟩ | ⟨b, cap, rest, rfl, hA, hpl, hr, hc⟩
  · refine rets_of Tryz.func75 (by kernel_rfl) rfl Tryz.ntmps75 (Nat.le_of_ble_eq_true rfl) ?_
    refine runG11 ?_
    refine s_val (r_slA0 rfl) wnt_none ?_
    refine runG11 ?_
    exact ret_s rfl rfl ⟨.inl ⟨rfl, h0, hp⟩, fun b hb => (inv_none hb).elim, Frm.refl _ _⟩
  · have hseg : Seg (w.alloc (cel [] 123)) (.slice (some ⟨b, 0, none⟩) l.length cap) 2 l.length (fl Ans.vals l) := (Row.frm (.inr ⟨b, cap, rest, rfl, hA, hpl, hr, hc⟩) (Frm.of_alloc (S := fun _ => False) w (cel [] 123)) (fun _ _ h => h)).seg
    obtain ⟨v', w', e1, r1, f1, n1⟩ := append_seg (P := Tryz.prog) (sz := 2) (by' := 16) (ty := 114) (sT := 114) (u_ok rfl) (u_ok rfl) (fun kk h => by cases h) (s_ok rfl) (b_ok rfl) (z_ok rfl) rfl (row_none (w := w)) hseg (fl_one ans_oneQ l) (by omega) (by omega)
    rw [Nat.zero_add, List.nil_append] at r1
    obtain ⟨xa, xc, rfl⟩ := r1.isSl
    refine rets_of Tryz.func75 (by kernel_rfl) rfl Tryz.ntmps75 (Nat.le_of_ble_eq_true rfl) ?_
    refine runG11 ?_
    refine s_val (r_slA rfl) wnt_none ?_
    refine runG11 ?_
    refine s_val (r_bs rfl (bs0_ans _)) wnt_none ?_
    refine runG11 ?_
    refine s_val (r_app rfl rfl e1) wnt_none ?_
    refine runG11 ?_
    refine ret_s rfl rfl ⟨r1, fun c hc => ?_, (Frm.of_alloc w _).trans f1 (fun c hc => .inr (by rw [inv_new hc]; exact Nat.le_refl _))⟩
    rcases n1 c hc with h9 | h9
    · rw [inv_new h9]; exact Nat.le_refl _
    · rw [World.size_alloc] at h9; omega
set_option maxHeartbeats 1000000 in
theorem CloneEnt_ret {w : World} {v : Value} {l : List Ent} (h : Row w v 54 9 l.length (fl Ent.vals l)) (hl : l.length < 1000) : Rets Tryz.prog 76 [v] w fun u w' => Out w w' u 54 9 l.length (fl Ent.vals l) := by
  rcases h with ⟨rfl, h0, hp⟩ | ⟨b, cap, rest, rfl, hA, hpl, hr, hc⟩
  · refine rets_of Tryz.func76 (by kernel_rfl) rfl Tryz.ntmps76 (Nat.le_of_ble_eq_true rfl) ?_
    refine runG11 ?_
    refine s_val (r_slE0 rfl) wnt_none ?_
    refine runG11 ?_
    exact ret_s rfl rfl ⟨.inl ⟨rfl, h0, hp⟩, fun b hb => (inv_none hb).elim, Frm.refl _ _⟩
  · have hseg : Seg (w.alloc (cel [] 54)) (.slice (some ⟨b, 0, none⟩) l.length cap) 9 l.length (fl Ent.vals l) := (Row.frm (.inr ⟨b, cap, rest, rfl, hA, hpl, hr, hc⟩) (Frm.of_alloc (S := fun _ => False) w (cel [] 54)) (fun _ _ h => h)).seg
    obtain ⟨v', w', e1, r1, f1, n1⟩ := append_seg (P := Tryz.prog) (sz := 9) (by' := 72) (ty := 46) (sT := 46) (u_ok rfl) (u_ok rfl) (fun kk h => by cases h) (s_ok rfl) (b_ok rfl) (z_ok rfl) rfl (row_none (w := w)) hseg (fl_one ent_one l) (by omega) (by omega)
    rw [Nat.zero_add, List.nil_append] at r1
    obtain ⟨xa, xc, rfl⟩ := r1.isSl
    refine rets_of Tryz.func76 (by kernel_rfl) rfl Tryz.ntmps76 (Nat.le_of_ble_eq_true rfl) ?_
    refine runG11 ?_
    refine s_val (r_slE rfl) wnt_none ?_
    refine runG11 ?_
    refine s_val (r_bs rfl (bs0_ent _)) wnt_none ?_
    refine runG11 ?_
    refine s_val (r_app rfl rfl e1) wnt_none ?_
    refine runG11 ?_
    refine ret_s rfl rfl ⟨r1, fun c hc => ?_, (Frm.of_alloc w _).trans f1 (fun c hc => .inr (by rw [inv_new hc]; exact Nat.le_refl _))⟩
    rcases n1 c hc with h9 | h9
    · rw [inv_new h9]; exact Nat.le_refl _
    · rw [World.size_alloc] at h9; omega
section
variable {PT : PTy} (sp : TreeSpec PT) (cs : CloneSpec PT) {w : World} {col : Nat → Nat} {k0 k cb : Nat} {pre post : List Value} {bq sq t : Nat} {pd an up dn : Value} {c : PCli}
set_option maxHeartbeats 1000000 in
theorem cview_ret (sp : TreeSpec PT) (cs : CloneSpec PT) (h : CAt PT w col k0 k cb pre post bq sq t pd an up dn c) {ea : List Addr} (hE : Errs w ea) (hp : c.pend.length < 1000) :
    Rets Tryz.prog 52 [.pointer (some ⟨cb, pre.length, none⟩)] w fun v w' => ∃ t', v = Ptr t' ∧ PT w' t' (viewD c) (fun b => w.heap.size ≤ b) ∧ Frm0 w w' := by
  have hrow := h.row
  have hElt := errs_lt hE
  obtain ⟨pa, pc, rfl⟩ := h.m.pend.isSl
  refine rets_of Tryz.func52 (by kernel_rfl) rfl Tryz.ntmps52 (Nat.le_of_ble_eq_true rfl) ?_
  refine runG11 ?_
  refine s_callf (cs h.m.base) rfl wnt_none ?_
  rintro v w1 ⟨t', rfl, hT1, f1⟩
  have hrow1 := f1.at0 hrow
  refine runG11 ?_
  refine lp (fun env w' => Frm0 w w' ∧ ∃ env0, ∃ j : Nat, env = setL env0 [(3, Ptr t'), (15, .slice pa c.pend.length pc), (16, I c.pend.length), (17, I j)] ∧ j ≤ c.pend.length ∧ PT w' t' (appAll c.base ((c.pend.map (·.2)).take j)) (fun b => w.heap.size ≤ b)) (fun env _ => c.pend.length - cnt (env 17)) ?_ ?_
  · exact ⟨f1, _, 0, fixL ⟨rfl, rfl, rfl, rfl, trivial⟩, by omega, hT1⟩
  · rintro env w2 ⟨f2, env0, j, rfl, hj, hT2⟩
    by_cases hlt : j < c.pend.length
    · obtain ⟨q, hq⟩ : ∃ q, c.pend[j]? = some q := ⟨_, List.getElem?_eq_getElem hlt⟩
      rcases h.m.pend with ⟨_, h0, _⟩ | ⟨pb, pcap, prest, e9, hA, hpl, hpr, hpc⟩
      · omega
      cases e9
      have hA2 := f2.at0 hA
      have hW2 : Wf (appAll c.base ((c.pend.map (·.2)).take j)) := wf_all _ h.m.wf
      refine runG11 ?_
      refine s_val (r_loadV (vs := pdV q) (u_ok rfl) rfl (s_ok rfl) rfl hA2 (by rw [List.length_append, fl_len (f := pdV) (k := 7) (fun _ => rfl)]; omega) (by
        have := fl_sub (f := pdV) (k := 7) (fun _ => rfl) c.pend j q hq [] prest
        rw [List.nil_append, List.length_nil] at this
        rw [show 0 + (j : Int).toNat * 7 = 0 + j * 7 by omega]
        exact this)) wnt_none ?_
      refine runG11 ?_
      refine s_skip (r_storeAll (vs := pdV q) (s_ok rfl) rfl rfl (pd_one q) (at_alloc_new w2 _) rfl) wnt_none ?_
      have hv3 := at_setB (cel (pdV q) 147) (at_alloc_new w2 (cel [I 0, I 0, I 0, I 0, I 0, I 0, I 0] 147))
      have f3 : Frm0 w2 (setB (w2.alloc (cel [I 0, I 0, I 0, I 0, I 0, I 0, I 0] 147)) w2.heap.size (cel (pdV q) 147)) := (Frm.of_alloc w2 _).setB (.inr (Nat.le_refl _)) _
      generalize setB (w2.alloc (cel [I 0, I 0, I 0, I 0, I 0, I 0, I 0] 147)) w2.heap.size (cel (pdV q) 147) = w3 at *
      refine runG11 ?_
      rw [show sub (pdV q) (0 + 1) 6 = q.2.vals from rfl]
      refine s_callf (sp.apply (ea := ea) q.2 (sp.frm hT2 f3 (fun _ _ h => h)) hW2 (hE.frm0 (f2.trans0 f3)) (fun g hg hs => by have := hElt.1 g hg; omega) (fun a ha hs => by have := hElt.2 a ha; omega)) rfl wnt_none ?_
      rintro v w4 ⟨_, hT4, f4, _⟩
      have he : (c.pend.map (·.2))[j]? = some q.2 := by rw [List.getElem?_map, hq]; rfl
      have s2 := f2.size
      have s3 := f3.size
      refine runG11 ?_
      refine ⟨_, rfl, ⟨(f2.trans0 f3).trans f4 (fun b hb => .inr hb), _, j + 1, fixL ⟨rfl, rfl, rfl, rfl, trivial⟩, by omega, ?_⟩, by show c.pend.length - ((j : Int) + 1).toNat < c.pend.length - (j : Int).toNat; omega⟩
      rw [appAll_step he]
      exact sp.weak hT4 (fun b hb _ => by omega)
    · have hjl : j = c.pend.length := by omega
      have hall : appAll c.base ((c.pend.map (·.2)).take j) = viewD c := by
        rw [List.take_of_length_le (by rw [List.length_map]; omega)]
        rfl
      rw [hall] at hT2
      refine runG11 ?_
      exact ret_p rfl rfl ⟨t', rfl, hT2, f2⟩
set_option maxHeartbeats 1000000 in
theorem waiting_ret (_sp : TreeSpec PT) (h : CAt PT w col k0 k cb pre post bq sq t pd an up dn c) (hp : c.pend.length < 1000) :
    Rets Tryz.prog 53 [.pointer (some ⟨cb, pre.length, none⟩)] w fun v w' => Out w w' v 31 6 (c.pend.map (·.2)).length (fl Ed.vals (c.pend.map (·.2))) := by
  have hrow := h.row
  obtain ⟨pa, pc, rfl⟩ := h.m.pend.isSl
  refine rets_of Tryz.func53 (by kernel_rfl) rfl Tryz.ntmps53 (Nat.le_of_ble_eq_true rfl) ?_
  refine runG11 ?_
  refine lp (fun env w' => Frm0 w w' ∧ ∃ env0, ∃ j : Nat, ∃ va vc, env = setL env0 [(3, .slice va j vc), (9, .slice pa c.pend.length pc), (10, I c.pend.length), (11, I j)] ∧ j ≤ c.pend.length ∧ Row w' (.slice va j vc) 31 6 ((c.pend.map (·.2)).take j).length (fl Ed.vals ((c.pend.map (·.2)).take j)) ∧ ∀ b, InV (.slice va j vc) b → w.heap.size ≤ b) (fun env _ => c.pend.length - cnt (env 11)) ?_ ?_
  · exact ⟨Frm.refl _ _, _, 0, none, 0, fixL ⟨rfl, rfl, rfl, rfl, trivial⟩, by omega, Row.nil, fun b hb => (inv_none hb).elim⟩
  · rintro env w2 ⟨f2, env0, j, va, vc, rfl, hj, hR, hnew⟩
    have hjl : ((c.pend.map (·.2)).take j).length = j := by rw [List.length_take, List.length_map]; omega
    by_cases hlt : j < c.pend.length
    · obtain ⟨q, hq⟩ : ∃ q, c.pend[j]? = some q := ⟨_, List.getElem?_eq_getElem hlt⟩
      rcases h.m.pend with ⟨_, h0, _⟩ | ⟨pb, pcap, prest, e9, hA, hpl, hpr, hpc⟩
      · omega
      cases e9
      have hA2 := f2.at0 hA
      refine runG11 ?_
      refine s_val (r_loadV (vs := pdV q) (u_ok rfl) rfl (s_ok rfl) rfl hA2 (by rw [List.length_append, fl_len (f := pdV) (k := 7) (fun _ => rfl)]; omega) (by
        have := fl_sub (f := pdV) (k := 7) (fun _ => rfl) c.pend j q hq [] prest
        rw [List.nil_append, List.length_nil] at this
        rw [show 0 + (j : Int).toNat * 7 = 0 + j * 7 by omega]
        exact this)) wnt_none ?_
      refine runG11 ?_
      refine s_skip (r_storeAll (vs := pdV q) (s_ok rfl) rfl rfl (pd_one q) (at_alloc_new w2 _) rfl) wnt_none ?_
      have hv3 := at_setB (cel (pdV q) 147) (at_alloc_new w2 (cel [I 0, I 0, I 0, I 0, I 0, I 0, I 0] 147))
      have f3 : Frm0 w2 (setB (w2.alloc (cel [I 0, I 0, I 0, I 0, I 0, I 0, I 0] 147)) w2.heap.size (cel (pdV q) 147)) := (Frm.of_alloc w2 _).setB (.inr (Nat.le_refl _)) _
      generalize setB (w2.alloc (cel [I 0, I 0, I 0, I 0, I 0, I 0, I 0] 147)) w2.heap.size (cel (pdV q) 147) = w3 at *
      refine runG11 ?_
      rw [show sub (pdV q) (0 + 1) 6 = q.2.vals from rfl]
      refine s_val (r_bs rfl (bs_ed q.2 _)) wnt_none ?_
      have f4 : Frm0 w3 (w3.alloc (cel q.2.vals 31)) := Frm.of_alloc _ _
      obtain ⟨v5, w5, e5, r5, f5, n5⟩ := append_edQ (ty := 26) (A := (c.pend.map (·.2)).take j) (q := q.2) (hR.frm (f3.trans0 f4) (fun _ _ h => h)) (seg_new rfl) (by omega)
      have he : (c.pend.map (·.2))[j]? = some q.2 := by rw [List.getElem?_map, hq]; rfl
      rw [← take_snoc he] at r5
      obtain ⟨va5, vc5, e6⟩ := r5.isSl
      have hj5 : ((c.pend.map (·.2)).take (j + 1)).length = j + 1 := by rw [List.length_take, List.length_map]; omega
      rw [hj5] at e6
      subst e6
      refine s_val (r_app rfl rfl e5) wnt_none ?_
      have s2 := f2.size
      have s3 := (f3.trans0 f4).size
      refine runG11 ?_
      refine ⟨_, rfl, ⟨((f2.trans0 f3).trans0 f4).trans f5 (fun b hb => .inr (hnew b hb)), _, j + 1, va5, vc5, fixL ⟨rfl, rfl, rfl, rfl, trivial⟩, by omega, r5, fun b hb => ?_⟩, by show c.pend.length - ((j : Int) + 1).toNat < c.pend.length - (j : Int).toNat; omega⟩
      rcases n5 b hb with h9 | h9
      · exact hnew b h9
      · omega
    · have hje : j = c.pend.length := by omega
      rw [List.take_of_length_le (by rw [List.length_map]; omega)] at hR
      refine runG11 ?_
      exact ret_s rfl rfl ⟨hR, hnew, f2⟩
end
end Go.Proofs.YtbicffldggcdhaaGreatDoor

namespace Go.Proofs.YtbicffldggcdhaaGreatDoor
open Go

theorem res_3 {P : Program} {w : World} {n : Nat} {ds : List Deferred} {env : Env} {fn : Func} {t u s : Nat} (hr : fn.results = #[.tmp t, .tmp u, .tmp s]) : (results fn (rep n ds env).tmps).run P w = .ok (.tuple #[ev n env (.tmp t), ev n env (.tmp u), ev n env (.tmp s)]) w := by
  rw [← tmp_getD n ds, ← tmp_getD n ds, ← tmp_getD n ds]
  simp [results, hr]
theorem ret_3 {P : Program} {w : World} {n : Nat} {env : Env} {fn : Func} {t u s : Nat} {v1 v2 v3 : Value} {φ : Value → World → Prop} (hr : fn.results = #[.tmp t, .tmp u, .tmp s]) (hv1 : ev n env (.tmp t) = v1) (hv2 : ev n env (.tmp u) = v2) (hv3 : ev n env (.tmp s) = v3) (h : φ (.tuple #[v1, v2, v3]) w) : bodyPost P fn (fun e w' => ∃ v, e = .returned v ∧ φ v w') .ret (rep n [] env) w :=
  ret_run (res_3 hr) (by rw [hv1, hv2, hv3]; exact h)
theorem ErrIs.one1 {ea : List Addr} {w : World} {v : Value} {e : Ed} (h : ErrIs ea w v 1 e) : ∃ b a, v = .iface 95 (Ptr b) ∧ At w b (cel (e.vals ++ [errV a]) 97) ∧ ea[0]? = some a := by
  rcases h with ⟨h, _⟩ | ⟨_, b, a, h1, h2, h3⟩
  · cases h
  · exact ⟨b, a, h1, h2, h3⟩
section
variable {PT : PTy} (sp : TreeSpec PT) (cs : CloneSpec PT) {w : World} {col : Nat → Nat} {k p : Nat} {Q : PPar}
set_option maxHeartbeats 1000000 in
theorem PView_ret (sp : TreeSpec PT) (cs : CloneSpec PT) (hP : PP PT w col k p Q) {ea : List Addr} (hE : Errs w ea) (hb : QB Q) (i : Int) :
    Rets Tryz.prog 29 [Ptr p, I i] w fun v w' => (match Q.cl i with | none => ∃ u, v = .tuple #[.pointer none, u] ∧ ErrIs ea w' u 1 ed0 | some c => ∃ t, v = .tuple #[Ptr t, .nilIface] ∧ PT w' t (viewD c) (fun b => w.heap.size ≤ b) ∧ Wf (viewD c)) ∧ Frm0 w w' := by
  obtain ⟨t, lv, mb, cb, cap, rest, ms, h⟩ := hP
  have hcl := h.cl i
  refine rets_of Tryz.func29 (by kernel_rfl) rfl Tryz.ntmps29 (Nat.le_of_ble_eq_true rfl) ?_
  refine runG11 ?_
  refine s_callf (find_ret h hE i) rfl wnt_none ?_
  rintro v w1 ⟨hv, f1⟩
  cases hc : Q.cl i with
  | none =>
    rw [hc] at hv
    obtain ⟨a, rfl, ha⟩ := hv
    refine runG11 ?_
    refine s_val (r_nnT rfl) wnt_none ?_
    refine runG11 ?_
    refine s_val (r_build rfl (bld_ed0 _)) wnt_none ?_
    refine runG11 ?_
    refine s_callf (refusal_ret (n := 1) (.inr ⟨Nat.succ_pos _, a, rfl, ha⟩) ed0) rfl wnt_none ?_
    rintro u w2 ⟨hu, f2, _⟩
    obtain ⟨b, a2, rfl, _⟩ := hu.one1
    refine runG11 ?_
    exact ret_2 rfl rfl rfl ⟨⟨_, rfl, hu⟩, f1.trans0 f2⟩
  | some c =>
    rw [hc] at hv
    obtain ⟨m, hm, h0, rfl⟩ := hv
    have hcm : c = m.c := by
      rw [hcl, if_neg (by omega), hm] at hc
      exact (Option.some.inj hc).symm
    subst hcm
    have h1 := h.frm0 sp f1
    have hmem : m.c ∈ Q.cls := by rw [h.cls]; exact List.mem_map_of_mem (List.mem_of_getElem? hm)
    refine runG11 ?_
    refine s_val (r_nnF rfl) wnt_none ?_
    refine runG11 ?_
    refine s_callf (cview_ret sp cs (h1.at_ hm) (hE.frm0 f1) (hb.cl _ hmem).1) rfl wnt_none ?_
    rintro v w2 ⟨t', rfl, hT, f2⟩
    have s1 := f1.size
    refine runG11 ?_
    exact ret_2 rfl rfl rfl ⟨⟨t', rfl, sp.weak hT (fun b hb _ => by omega), wf_all _ (h1.at_ hm).m.wf⟩, f1.trans0 f2⟩
set_option maxHeartbeats 1000000 in
theorem PBase_ret (sp : TreeSpec PT) (cs : CloneSpec PT) (hP : PP PT w col k p Q) {ea : List Addr} (hE : Errs w ea) (i : Int) :
    Rets Tryz.prog 26 [Ptr p, I i] w fun v w' => (match Q.cl i with | none => ∃ u, v = .tuple #[.pointer none, I 0, u] ∧ ErrIs ea w' u 1 ed0 | some c => ∃ t, v = .tuple #[Ptr t, I c.n, .nilIface] ∧ PT w' t c.base (fun b => w.heap.size ≤ b) ∧ Wf c.base) ∧ Frm0 w w' := by
  obtain ⟨t, lv, mb, cb, cap, rest, ms, h⟩ := hP
  have hcl := h.cl i
  refine rets_of Tryz.func26 (by kernel_rfl) rfl Tryz.ntmps26 (Nat.le_of_ble_eq_true rfl) ?_
  refine runG11 ?_
  refine s_callf (find_ret h hE i) rfl wnt_none ?_
  rintro v w1 ⟨hv, f1⟩
  cases hc : Q.cl i with
  | none =>
    rw [hc] at hv
    obtain ⟨a, rfl, ha⟩ := hv
    refine runG11 ?_
    refine s_val (r_nnT rfl) wnt_none ?_
    refine runG11 ?_
    refine s_val (r_build rfl (bld_ed0 _)) wnt_none ?_
    refine runG11 ?_
    refine s_callf (refusal_ret (n := 1) (.inr ⟨Nat.succ_pos _, a, rfl, ha⟩) ed0) rfl wnt_none ?_
    rintro u w2 ⟨hu, f2, _⟩
    obtain ⟨b, a2, rfl, _⟩ := hu.one1
    refine runG11 ?_
    exact ret_3 rfl rfl rfl rfl ⟨⟨_, rfl, hu⟩, f1.trans0 f2⟩
  | some c =>
    rw [hc] at hv
    obtain ⟨m, hm, h0, rfl⟩ := hv
    have hcm : c = m.c := by
      rw [hcl, if_neg (by omega), hm] at hc
      exact (Option.some.inj hc).symm
    subst hcm
    have h1 := h.frm0 sp f1
    have hA := h1.at_ hm
    have hrow := hA.row
    generalize fl CM.vals (ms.take i.toNat) = pre at *
    generalize fl CM.vals (ms.drop (i.toNat + 1)) ++ rest = post at *
    refine runG11 ?_
    refine s_val (r_nnF rfl) wnt_none ?_
    refine runG11 ?_
    refine w_drawn ((0, false) :: (1, false) :: (2, false) :: (3, false) :: (4, false) :: (6, false) :: (7, false) :: (8, false) :: (9, false) :: (10, false) :: (5, true) :: (11, false) :: (12, false) :: (13, false) :: []) [] (fun wq => Frm0 w1 wq) mixed (by kernel_rfl) ?_ ?_
    · exact Frm.of_drew _
    · refine runG11 ?_
      refine x_callf rfl (cs (sp.frm hA.m.base (Frm.of_drew (S := fun _ => False) w1) (fun _ _ h => h))) rfl wnt_none ?_
      rintro v w2 ⟨t', rfl, hT, f2⟩
      have f12 : Frm0 w1 w2 := (Frm.of_drew w1).trans0 f2
      refine ⟨f12, ?_⟩
      have s1 := f1.size
      have hrow2 := f12.at0 hrow
      refine runG11 ?_
      exact ret_3 rfl rfl rfl rfl ⟨⟨t', rfl, sp.weak hT (fun b hb _ => Nat.le_trans s1 hb), hA.m.wf⟩, f1.trans0 f12⟩
set_option maxHeartbeats 1000000 in
theorem PPending_ret (sp : TreeSpec PT) (hP : PP PT w col k p Q) {ea : List Addr} (hE : Errs w ea) (hb : QB Q) (i : Int) :
    Rets Tryz.prog 30 [Ptr p, I i] w fun v w' => match Q.cl i with | none => (∃ u, v = .tuple #[.slice none 0 0, u] ∧ ErrIs ea w' u 1 ed0) ∧ Frm0 w w' | some c => ∃ l, v = .tuple #[l, .nilIface] ∧ Out w w' l 31 6 (c.pend.map (·.2)).length (fl Ed.vals (c.pend.map (·.2))) := by
  obtain ⟨t, lv, mb, cb, cap, rest, ms, h⟩ := hP
  have hcl := h.cl i
  refine rets_of Tryz.func30 (by kernel_rfl) rfl Tryz.ntmps30 (Nat.le_of_ble_eq_true rfl) ?_
  refine runG11 ?_
  refine s_callf (find_ret h hE i) rfl wnt_none ?_
  rintro v w1 ⟨hv, f1⟩
  cases hc : Q.cl i with
  | none =>
    rw [hc] at hv
    obtain ⟨a, rfl, ha⟩ := hv
    refine runG11 ?_
    refine s_val (r_nnT rfl) wnt_none ?_
    refine runG11 ?_
    refine s_val (r_build rfl (bld_ed0 _)) wnt_none ?_
    refine runG11 ?_
    refine s_callf (refusal_ret (n := 1) (.inr ⟨Nat.succ_pos _, a, rfl, ha⟩) ed0) rfl wnt_none ?_
    rintro u w2 ⟨hu, f2, _⟩
    obtain ⟨b, a2, rfl, _⟩ := hu.one1
    refine runG11 ?_
    exact ret_2 rfl rfl rfl ⟨⟨_, rfl, hu⟩, f1.trans0 f2⟩
  | some c =>
    rw [hc] at hv
    obtain ⟨m, hm, h0, rfl⟩ := hv
    have hcm : c = m.c := by
      rw [hcl, if_neg (by omega), hm] at hc
      exact (Option.some.inj hc).symm
    subst hcm
    have h1 := h.frm0 sp f1
    have hmem : m.c ∈ Q.cls := by rw [h.cls]; exact List.mem_map_of_mem (List.mem_of_getElem? hm)
    refine runG11 ?_
    refine s_val (r_nnF rfl) wnt_none ?_
    refine runG11 ?_
    refine s_callf (waiting_ret sp (h1.at_ hm) (hb.cl _ hmem).1) rfl wnt_none ?_
    rintro v w2 ⟨hR, hn, f2⟩
    have s1 := f1.size
    obtain ⟨xa, xc, rfl⟩ := hR.isSl
    refine runG11 ?_
    exact ret_2 rfl rfl rfl ⟨_, rfl, hR, fun b hb => Nat.le_trans s1 (hn b hb), f1.trans0 f2⟩
set_option maxHeartbeats 1000000 in
theorem PAnswers_ret (sp : TreeSpec PT) (hP : PP PT w col k p Q) {ea : List Addr} (hE : Errs w ea) (hb : QB Q) (i : Int) :
    Rets Tryz.prog 50 [Ptr p, I i] w fun v w' => match Q.cl i with | none => (∃ u, v = .tuple #[.slice none 0 0, u] ∧ ErrIs ea w' u 1 ed0) ∧ Frm0 w w' | some c => ∃ l, v = .tuple #[l, .nilIface] ∧ Out w w' l 123 2 c.ans.length (fl Ans.vals c.ans) := by
  obtain ⟨t, lv, mb, cb, cap, rest, ms, h⟩ := hP
  have hcl := h.cl i
  refine rets_of Tryz.func50 (by kernel_rfl) rfl Tryz.ntmps50 (Nat.le_of_ble_eq_true rfl) ?_
  refine runG11 ?_
  refine s_callf (find_ret h hE i) rfl wnt_none ?_
  rintro v w1 ⟨hv, f1⟩
  cases hc : Q.cl i with
  | none =>
    rw [hc] at hv
    obtain ⟨a, rfl, ha⟩ := hv
    refine runG11 ?_
    refine s_val (r_nnT rfl) wnt_none ?_
    refine runG11 ?_
    refine s_val (r_build rfl (bld_ed0 _)) wnt_none ?_
    refine runG11 ?_
    refine s_callf (refusal_ret (n := 1) (.inr ⟨Nat.succ_pos _, a, rfl, ha⟩) ed0) rfl wnt_none ?_
    rintro u w2 ⟨hu, f2, _⟩
    obtain ⟨b, a2, rfl, _⟩ := hu.one1
    refine runG11 ?_
    exact ret_2 rfl rfl rfl ⟨⟨_, rfl, hu⟩, f1.trans0 f2⟩
  | some c =>
    rw [hc] at hv
    obtain ⟨m, hm, h0, rfl⟩ := hv
    have hcm : c = m.c := by
      rw [hcl, if_neg (by omega), hm] at hc
      exact (Option.some.inj hc).symm
    subst hcm
    have h1 := h.frm0 sp f1
    have hmem : m.c ∈ Q.cls := by rw [h.cls]; exact List.mem_map_of_mem (List.mem_of_getElem? hm)
    have hA := h1.at_ hm
    have hrow := hA.row
    generalize fl CM.vals (ms.take i.toNat) = pre at *
    generalize fl CM.vals (ms.drop (i.toNat + 1)) ++ rest = post at *
    have hcb := hb.cl _ hmem
    obtain ⟨aa, ac, hae⟩ := hA.m.ans.isSl
    rw [hae] at hrow
    have hans := hA.m.ans
    rw [hae] at hans
    refine runG11 ?_
    refine s_val (r_nnF rfl) wnt_none ?_
    refine runG11 ?_
    refine s_callf (CloneAns_ret hans (by omega)) rfl wnt_none ?_
    rintro v w2 ⟨hR, hn, f2⟩
    have s1 := f1.size
    obtain ⟨xa, xc, rfl⟩ := hR.isSl
    refine runG11 ?_
    exact ret_2 rfl rfl rfl ⟨_, rfl, hR, fun b hb => Nat.le_trans s1 (hn b hb), f1.trans0 f2⟩
set_option maxHeartbeats 1000000 in
theorem PServer_ret (sp : TreeSpec PT) (cs : CloneSpec PT) (hP : PP PT w col k p Q) :
    Rets Tryz.prog 24 [Ptr p] w fun v w' => ∃ t, v = .tuple #[Ptr t, I Q.n] ∧ PT w' t Q.t (fun b => w.heap.size ≤ b) ∧ Wf Q.t ∧ Frm0 w w' := by
  obtain ⟨t, lv, mb, cb, cap, rest, ms, h⟩ := hP
  have hh := h.head
  refine rets_of Tryz.func24 (by kernel_rfl) rfl Tryz.ntmps24 (Nat.le_of_ble_eq_true rfl) ?_
  refine runG11 ?_
  refine w_drawn ((0, false) :: (1, false) :: (2, false) :: (3, false) :: (4, false) :: (5, false) :: (7, false) :: (8, false) :: (9, false) :: (10, false) :: (11, false) :: (12, false) :: (6, true) :: (13, false) :: (14, false) :: []) [] (fun wq => Frm0 w wq) mixed (by kernel_rfl) ?_ ?_
  · exact Frm.of_drew _
  · refine runG11 ?_
    refine x_callf rfl (cs (sp.frm h.tree (Frm.of_drew (S := fun _ => False) w) (fun _ _ h => h))) rfl wnt_none ?_
    rintro v w2 ⟨t', rfl, hT, f2⟩
    have f12 : Frm0 w w2 := (Frm.of_drew w).trans0 f2
    refine ⟨f12, ?_⟩
    have hh2 := f12.at0 hh
    refine runG11 ?_
    exact ret_2 rfl rfl rfl ⟨t', rfl, hT, h.wf, f12⟩
set_option maxHeartbeats 1000000 in
theorem PLog_ret (hP : PP PT w col k p Q) (hb : QB Q) :
    Rets Tryz.prog 51 [Ptr p] w fun v w' => Out w w' v 54 9 Q.log.length (fl Ent.vals Q.log) := by
  obtain ⟨t, lv, mb, cb, cap, rest, ms, h⟩ := hP
  have hh := h.head
  have hl := h.log
  have hbl := hb.log
  obtain ⟨la, lc, rfl⟩ := hl.isSl
  refine rets_of Tryz.func51 (by kernel_rfl) rfl Tryz.ntmps51 (Nat.le_of_ble_eq_true rfl) ?_
  refine runG11 ?_
  refine s_callf (CloneEnt_ret hl hbl) rfl wnt_none ?_
  rintro v w2 hR
  obtain ⟨xa, xc, rfl⟩ := hR.1.isSl
  refine runG11 ?_
  exact ret_s rfl rfl hR
end
end Go.Proofs.YtbicffldggcdhaaGreatDoor

namespace Go.Proofs.YtbicffldggcdhaaGreatDoor
open Go

theorem bld_known1 (a : Option Addr) (w : World) : (Instr.build 102 [(0, .pointer a)].toArray).run Tryz.prog w = .ok (.agg #[.pointer a, I 0]) w := by kernel_rfl
theorem bld_server (a : Option Addr) (l : Int) (m : Option Nat) (w : World) : (Instr.build 105 [(0, .agg #[.pointer a, I 0]), (1, I l), (3, .map m)].toArray).run Tryz.prog w = .ok (.agg #[.pointer a, I 0, I l, .slice none 0 0, .map m]) w := by kernel_rfl
theorem bld_Party (a : Option Addr) (l : Int) (m : Option Nat) (w : World) : (Instr.build 108 [(0, .agg #[.pointer a, I 0, I l, .slice none 0 0, .map m])].toArray).run Tryz.prog w = .ok (.agg #[.pointer a, I 0, I l, .slice none 0 0, .map m, .slice none 0 0]) w := by kernel_rfl
def cli0V (t : Nat) : List Value := cvals t 0 (.slice none 0 0) (.slice none 0 0) false false (.slice none 0 0) (.slice none 0 0)
theorem bld_client (t : Nat) (w : World) : (Instr.build 119 [(0, .agg #[Ptr t, I 0])].toArray).run Tryz.prog w = .ok (.agg (cli0V t).toArray) w := by kernel_rfl
theorem bs_client (t : Nat) (w : World) : (Instr.buildSlice 106 1 [(0, .agg (cli0V t).toArray)].toArray).run Tryz.prog w = .ok (.slice (some ⟨w.heap.size, 0, none⟩) 1 1) (w.alloc (cel (cli0V t) 119)) := by kernel_rfl
theorem cli0_one (t : Nat) : ∀ u ∈ cli0V t, one u = true := by
  intro u hu
  simp only [cli0V, cvals, List.mem_cons, List.not_mem_nil, or_false] at hu
  rcases hu with h | h | h | h | h | h | h | h <;> subst h <;> rfl
section
variable {PT : PTy} (sp : TreeSpec PT) {w w' : World}
theorem nothing_ret (sp : TreeSpec PT) (w : World) : Rets Tryz.prog 67 [] w fun v w' => ∃ t, v = .agg #[Ptr t, I 0] ∧ PT w' t [root0] (fun b => w.heap.size ≤ b) ∧ Frm0 w w' := by
  have f0 : Frm0 w (w.alloc (cel [.pointer none, I 0] 102)) := Frm.of_alloc _ _
  have hb := at_alloc_new w (cel [.pointer none, I 0] 102)
  refine rets_of Tryz.func67 (by kernel_rfl) rfl Tryz.ntmps67 (Nat.le_of_ble_eq_true rfl) ?_
  refine runG11 ?_
  have hz : (w.alloc (cel [.pointer none, I 0] 102)).heap.size = w.heap.size + 1 := World.size_alloc _ _
  generalize w.alloc (cel [.pointer none, I 0] 102) = w1 at *
  refine s_callf (sp.new _) rfl wnt_none ?_
  rintro v w2 ⟨t, rfl, hT, f2⟩
  refine s_val (r_build rfl (bld_known1 _ _)) wnt_none ?_
  have hb2 := f2.at0 hb
  refine s_skip (r_storeAll (vs := [Ptr t, I 0]) (s_ok rfl) rfl rfl (by intro u hu; simp at hu; rcases hu with rfl | rfl <;> rfl) hb2 rfl) wnt_none ?_
  refine runG11 ?_
  have f3 : Frm (fun b => b = w.heap.size) w2 (setB w2 w.heap.size (cel [Ptr t, I 0] 102)) := (Frm.refl (fun b => b = w.heap.size) w2).setB (b := w.heap.size) (.inl rfl) _
  refine ret_cA rfl (u_ok rfl) rfl (s_ok rfl) rfl (at_setB _ hb2) rfl ⟨t, rfl, ?_, (f0.trans0 f2).setB (b := w.heap.size) (.inr (Nat.le_refl _)) _⟩
  exact sp.weak (sp.frm hT f3 (fun b hb e => by omega)) (fun b hb _ => by omega)
theorem newServer_ret (sp : TreeSpec PT) (l : Int) (w : World) : Rets Tryz.prog 66 [I l] w fun v w' => ∃ t mb, v = .agg #[Ptr t, I 0, I l, .slice none 0 0, .map (some mb)] ∧ PT w' t [root0] (fun b => w.heap.size ≤ b ∧ b < mb) ∧ At w' mb (.map #[] 0) ∧ w.heap.size ≤ mb ∧ Frm0 w w' := by
  have f0 : Frm0 w (w.alloc (cel [.pointer none, I 0, I 0, .slice none 0 0, .map none] 105)) := Frm.of_alloc _ _
  have hb := at_alloc_new w (cel [.pointer none, I 0, I 0, .slice none 0 0, .map none] 105)
  refine rets_of Tryz.func66 (by kernel_rfl) rfl Tryz.ntmps66 (Nat.le_of_ble_eq_true rfl) ?_
  refine runG11 ?_
  have hz : (w.alloc (cel [.pointer none, I 0, I 0, .slice none 0 0, .map none] 105)).heap.size = w.heap.size + 1 := World.size_alloc _ _
  generalize w.alloc (cel [.pointer none, I 0, I 0, .slice none 0 0, .map none] 105) = w1 at *
  refine s_callf (nothing_ret sp _) rfl wnt_none ?_
  rintro v w2 ⟨t, rfl, hT, f2⟩
  refine runG11 ?_
  refine s_val r_mkmap wnt_none ?_
  refine s_val (r_build rfl (bld_server _ _ _ _)) wnt_none ?_
  have f3 : Frm0 w2 (w2.alloc (.map #[] 0)) := Frm.of_alloc _ _
  have hb3 := f3.at0 (f2.at0 hb)
  refine s_skip (r_storeAll (vs := [Ptr t, I 0, I l, .slice none 0 0, .map (some w2.heap.size)]) (s_ok rfl) rfl rfl (by intro u hu; simp at hu; rcases hu with rfl | rfl | rfl | rfl | rfl <;> rfl) hb3 rfl) wnt_none ?_
  refine runG11 ?_
  have s2 := f2.size
  have f4 : Frm (fun b => b = w.heap.size) (w2.alloc (.map #[] 0)) (setB (w2.alloc (.map #[] 0)) w.heap.size (cel [Ptr t, I 0, I l, .slice none 0 0, .map (some w2.heap.size)] 105)) := (Frm.refl (fun b => b = w.heap.size) _).setB (b := w.heap.size) (.inl rfl) _
  refine ret_cA rfl (u_ok rfl) rfl (s_ok rfl) rfl (at_setB _ hb3) rfl ⟨t, w2.heap.size, rfl, ?_, ?_, by omega, ((f0.trans0 f2).trans0 f3).setB (b := w.heap.size) (.inr (Nat.le_refl _)) _⟩
  · have hT2 : PT w2 t [root0] (fun b => w1.heap.size ≤ b ∧ b < w2.heap.size) := sp.weak hT (fun b h1 h2 => ⟨h1, h2⟩)
    exact sp.weak (sp.frm (sp.frm hT2 f3 (fun _ _ h => h)) f4 (fun b hb e => by omega)) (fun b hb _ => by omega)
  · exact f4.at (by omega) (at_alloc_new _ _)
end
/-- A party that is being made. -/
structure NQ (PT : PTy) (w0 w : World) (col0 col : Nat → Nat) (k p t mb : Nat) (cv : Value) (ms : List CM) (l : Int) : Prop where
  head : At w p (cel [Ptr t, I 0, I l, .slice none 0 0, .map (some mb), cv] 108)
  own : col p = k
  tree : PT w t [root0] (fun b => col b = k + 1)
  map : At w mb (.map #[] 0)
  cmap : col mb = k + 3
  row : Row w cv 119 8 ms.length (fl CM.vals ms)
  crow : ∀ b, InV cv b → col b = k + 4
  all : ∀ m ∈ ms, m.c = pcli0
  cli : ∀ (i : Nat) m, ms[i]? = some m → CliM PT w col (k + 10 + 10 * i) m.bq m.sq m.t m.pd m.an m.up m.dn m.c
  ext : Ext k w0 w col0 col
  new : Frm0 w0 w
section
variable {PT : PTy} (sp : TreeSpec PT) {w0 w w2 w3 w4 : World} {col0 col : Nat → Nat} {k p t mb : Nat} {cv v : Value} {ms : List CM} {l : Int}
theorem NQ.grow (sp : TreeSpec PT) (h : NQ PT w0 w col0 col k p t mb cv ms l) (hk : 0 < k) (hl : ms.length < 4) (hp0 : w0.heap.size ≤ p) (hcw : ∀ b, InV cv b → w0.heap.size ≤ b) {t' : Nat} (f2 : Frm0 w w2) (hT : PT w2 t' [root0] (fun b => w.heap.size ≤ b)) (f3 : Frm0 w2 w3) (f4 : Frm (InV cv) w3 w4) (r4 : Row w4 v 119 8 (ms.length + 1) (fl CM.vals ms ++ cli0V t')) (n4 : ∀ b, InV v b → InV cv b ∨ w3.heap.size ≤ b) :
    ∃ col', NQ PT w0 (setB w4 p (cel [Ptr t, I 0, I l, .slice none 0 0, .map (some mb), v] 108)) col0 col' k p t mb v (ms ++ [⟨t', .slice none 0 0, .slice none 0 0, .slice none 0 0, .slice none 0 0, k + 10 + 10 * ms.length + 1, k + 10 + 10 * ms.length + 6, pcli0⟩]) l := by
  have hh := h.ext.high
  have s2 := f2.size
  have s3 := f3.size
  have ho := h.own
  have hm := h.cmap
  have hwf0 : Wf [root0] := wf_root0
  have e2 : Ext k w w2 col (paintA col w.heap.size w2.heap.size (k + 10 + 10 * ms.length + 1)) := paintA_ext hh s2 (by omega)
  have e3 := e2.frm0 f3
  have hT2 : PT w2 t' [root0] (fun b => paintA col w.heap.size w2.heap.size (k + 10 + 10 * ms.length + 1) b = k + 10 + 10 * ms.length + 1) := paintA_tree sp (sp.weak hT (fun b h1 _ => .inr h1)) (by omega) hh
  have old2 : ∀ b, b < w.heap.size → paintA col w.heap.size w2.heap.size (k + 10 + 10 * ms.length + 1) b = col b := fun b hb => paintA_old hb
  have hc2 : ∀ b, InV cv b → paintA col w.heap.size w2.heap.size (k + 10 + 10 * ms.length + 1) b = k + 4 := fun b hb => by rw [old2 b (h.row.lt hb)]; exact h.crow b hb
  have hh2 : ∀ b, w2.heap.size ≤ b → paintA col w.heap.size w2.heap.size (k + 10 + 10 * ms.length + 1) b = 0 := e2.high
  generalize paintA col w.heap.size w2.heap.size (k + 10 + 10 * ms.length + 1) = col2 at *
  have hh3 : ∀ b, w3.heap.size ≤ b → col2 b = 0 := fun b hb => hh2 b (by omega)
  have e4 : Ext k w3 w4 col2 (paint col2 w3.heap.size v (k + 4)) := paint_ext hh3 f4.size r4.blk (by omega)
  have cv4 : ∀ b, InV v b → paint col2 w3.heap.size v (k + 4) b = k + 4 := paint_new n4 hc2
  have old4 : ∀ b, b < w3.heap.size → paint col2 w3.heap.size v (k + 4) b = col2 b := fun b hb => paint_old hb
  generalize paint col2 w3.heap.size v (k + 4) = col4 at *
  have hpl := at_lt h.head
  have hml := at_lt h.map
  have op : col4 p = k := by rw [old4 p (by omega), old2 p hpl]; exact ho
  have om : col4 mb = k + 3 := by rw [old4 mb (by omega), old2 mb hml]; exact hm
  have f5 : Frm (fun b => InV cv b ∨ b = p) w3 (setB w4 p (cel [Ptr t, I 0, I l, .slice none 0 0, .map (some mb), v] 108)) := (f4.mono (fun b hb => .inl (.inl hb))).setB (b := p) (.inl (.inr rfl)) _
  have hnp : ¬ InV cv p := fun h9 => by have := h.crow p h9; omega
  have hnm : ¬ (InV cv mb ∨ mb = p) := fun h9 => by
    rcases h9 with h9 | h9
    · have := h.crow mb h9; omega
    · subst h9; omega
  have key : ∀ {b q}, b < w3.heap.size → col2 b = q → q ≠ k → q ≠ k + 4 → ¬ (b < w3.heap.size ∧ (InV cv b ∨ b = p)) := fun {b q} h1 h2 h3 h4 h5 => by
    rcases h5.2 with h6 | h6
    · have := hc2 b h6; omega
    · subst h6
      rw [old2 b hpl] at h2
      omega
  have f5o : Frm (fun b => b < w3.heap.size ∧ (InV cv b ∨ b = p)) w3 (setB w4 p (cel [Ptr t, I 0, I l, .slice none 0 0, .map (some mb), v] 108)) := ⟨f5.size, fun b o hb hn => f5.same b o hb (fun hs => hn ⟨at_lt hb, hs⟩), f5.tape, f5.os, f5.output⟩
  have f23 : Frm0 w w3 := f2.trans0 f3
  refine ⟨col4, at_setB _ (f4.at hnp (f23.at0 h.head)), op, ?_, f5.at hnm (f23.at0 h.map), om, ?_, cv4, ?_, ?_, ?_, ?_⟩
  · have h1 : PT w3 t [root0] (fun b => col b = k + 1 ∧ b < w.heap.size) := sp.frm (sp.weak h.tree (fun b hb hl => ⟨hb, hl⟩)) f23 (fun _ _ h => h)
    exact sp.weak (sp.frm h1 f5o (fun b hb => key (q := k + 1) (by omega) (by rw [old2 b hb.2]; exact hb.1) (by omega) (by omega))) (fun b hb _ => by rw [old4 b (by omega), old2 b hb.2]; exact hb.1)
  · rw [List.length_append, fl_append]
    have h1 : Row w4 v 119 8 (ms.length + 1) (fl CM.vals ms ++ fl CM.vals [⟨t', .slice none 0 0, .slice none 0 0, .slice none 0 0, .slice none 0 0, k + 10 + 10 * ms.length + 1, k + 10 + 10 * ms.length + 6, pcli0⟩]) := by
      simpa [fl, CM.vals, cli0V, pcli0] using r4
    exact h1.frm (S := fun b => b = p) ((Frm.refl (fun b => b = p) w4).setB (b := p) (.inl rfl) _) (fun b hb e => by have := cv4 b hb; subst e; omega)
  · intro m hmm
    rcases List.mem_append.1 hmm with h9 | h9
    · exact h.all m h9
    · simp at h9
      subst h9
      rfl
  · intro i m hi
    by_cases hil : i < ms.length
    · rw [List.getElem?_append_left hil] at hi
      have h1 := ((h.cli i m hi).recol sp old2).frm sp f23 (fun _ _ _ h => h)
      have h2 := h1.recol sp old4
      refine h2.frm sp f5o (fun b h3 h4 h5 => ?_)
      rw [old4 b h5.1] at h3 h4
      exact key h5.1 rfl (by omega) (by omega) h5
    · have hie : i = ms.length := by
        have := (List.getElem?_eq_some_iff.1 hi).1
        simp at this
        omega
      subst hie
      rw [List.getElem?_append_right (Nat.le_refl _), Nat.sub_self] at hi
      simp at hi
      subst hi
      have h1 : PT w3 t' [root0] (fun b => col2 b = k + 10 + 10 * ms.length + 1 ∧ b < w3.heap.size) := sp.weak (sp.frm hT2 f3 (fun _ _ h => h)) (fun b hb hl => ⟨hb, hl⟩)
      refine ⟨sp.weak (sp.frm h1 f5o (fun b hb => key hb.2 hb.1 (by omega) (by omega))) (fun b hb _ => by rw [old4 b hb.2]; exact hb.1), hwf0, Row.nil, fun b hb => (inv_none hb).elim, Row.nil, fun b hb => (inv_none hb).elim, Row.nil, fun b hb => (inv_none hb).elim, DsAt.none, fun b hb => (inv_none hb).elim, .inl ⟨rfl, rfl⟩⟩
  · exact (((h.ext.trans e3 h.new.size).trans e4 (h.new.trans0 f23).size)).setB
  · exact ((h.new.trans0 f23).trans f4 (fun b hb => .inr (hcw b hb))).setB (b := p) (.inr hp0) _
set_option maxHeartbeats 1000000 in
set_option maxRecDepth 4000 in
theorem PNew_ret (sp : TreeSpec PT) {w : World} {col : Nat → Nat} {k : Nat} (hk : 0 < k) (hh : ∀ b, w.heap.size ≤ b → col b = 0) {ea : List Addr} (hE : Errs w ea) (c l : Int) :
    Rets Tryz.prog 40 [CfgV c l] w fun v w' => Frm0 w w' ∧ if c < 1 ∨ 4 < c ∨ l < 0 ∨ 8 < l then ∃ u, v = .tuple #[.pointer none, u] ∧ ErrIs ea w' u 1 ed0 else ∃ p col', v = .tuple #[Ptr p, .nilIface] ∧ PP PT w' col' k p (newQ c l) ∧ Ext k w w' col col' := by
  have hF1 : Frm0 w (w.alloc (cel [I c, I l] 87)) := Frm.of_alloc _ _
  have hbox := at_alloc_new w (cel [I c, I l] 87)
  have hz1 : (w.alloc (cel [I c, I l] 87)).heap.size = w.heap.size + 1 := World.size_alloc _ _
  obtain ⟨a, ty, kk, ha, hg⟩ := err9 hE 0 0 rfl
  have hg1 := hF1.at0 hg
  by_cases hbad : c < 1 ∨ 4 < c ∨ l < 0 ∨ 8 < l
  · simp only [if_pos hbad]
    refine rets_of Tryz.func40 (by kernel_rfl) rfl Tryz.ntmps40 (Nat.le_of_ble_eq_true rfl) ?_
    have fin : ∀ w1, Frm0 w w1 → Rets Tryz.prog 49 [EdV ed0, errV a] w1 fun u w' => ErrIs ea w' u 1 ed0 ∧ Frm0 w1 w' ∧ ∀ b, u = .iface 95 (Ptr b) → w1.heap.size ≤ b := fun w1 f1 => refusal_ret (n := 1) (.inr ⟨Nat.succ_pos _, a, rfl, ha⟩) ed0
    by_cases h1 : c < 1
    · refine runG11 ?_
      refine s_val (r_build rfl (bld_ed0 _)) wnt_none ?_
      refine runG11 ?_
      refine s_callf (fin _ hF1) rfl wnt_none ?_
      rintro u w2 ⟨hu, f2, _⟩
      obtain ⟨b, a2, rfl, _⟩ := hu.one1
      refine runG11 ?_
      exact ret_2 rfl rfl rfl ⟨hF1.trans0 f2, _, rfl, hu⟩
    · by_cases h2 : 4 < c
      · refine runG11 ?_
        refine s_val (r_build rfl (bld_ed0 _)) wnt_none ?_
        refine runG11 ?_
        refine s_callf (fin _ hF1) rfl wnt_none ?_
        rintro u w2 ⟨hu, f2, _⟩
        obtain ⟨b, a2, rfl, _⟩ := hu.one1
        refine runG11 ?_
        exact ret_2 rfl rfl rfl ⟨hF1.trans0 f2, _, rfl, hu⟩
      · by_cases h3 : l < 0
        · refine runG11 ?_
          refine s_val (r_build rfl (bld_ed0 _)) wnt_none ?_
          refine runG11 ?_
          refine s_callf (fin _ hF1) rfl wnt_none ?_
          rintro u w2 ⟨hu, f2, _⟩
          obtain ⟨b, a2, rfl, _⟩ := hu.one1
          refine runG11 ?_
          exact ret_2 rfl rfl rfl ⟨hF1.trans0 f2, _, rfl, hu⟩
        · have h4 : 8 < l := by omega
          refine runG11 ?_
          refine s_val (r_build rfl (bld_ed0 _)) wnt_none ?_
          refine runG11 ?_
          refine s_callf (fin _ hF1) rfl wnt_none ?_
          rintro u w2 ⟨hu, f2, _⟩
          obtain ⟨b, a2, rfl, _⟩ := hu.one1
          refine runG11 ?_
          exact ret_2 rfl rfl rfl ⟨hF1.trans0 f2, _, rfl, hu⟩
  · simp only [if_neg hbad]
    refine rets_of Tryz.func40 (by kernel_rfl) rfl Tryz.ntmps40 (Nat.le_of_ble_eq_true rfl) ?_
    have h1 : ¬ c < 1 := fun h => hbad (.inl h)
    have h2 : ¬ 4 < c := fun h => hbad (.inr (.inl h))
    have h3 : ¬ l < 0 := fun h => hbad (.inr (.inr (.inl h)))
    have h4 : ¬ 8 < l := fun h => hbad (.inr (.inr (.inr h)))
    refine runG11 ?_
    generalize w.alloc (cel [I c, I l] 87) = w1 at *
    refine s_callf (newServer_ret sp l _) rfl wnt_none ?_
    rintro v w2 ⟨t, mb, rfl, hT, hmb, hmz, f2⟩
    refine s_val (r_build rfl (bld_Party _ _ _ _)) wnt_none ?_
    have hmlt := at_lt hmb
    have s2 := f2.size
    have f3 : Frm0 w2 (w2.alloc (cel [Ptr t, I 0, I l, .slice none 0 0, .map (some mb), .slice none 0 0] 108)) := Frm.of_alloc _ _
    have hp3 := at_alloc_new w2 (cel [Ptr t, I 0, I l, .slice none 0 0, .map (some mb), .slice none 0 0] 108)
    have hbox3 := f3.at0 (f2.at0 hbox)
    refine s_val (r_boxA (l := [Ptr t, I 0, I l, .slice none 0 0, .map (some mb), .slice none 0 0]) rfl) wnt_none ?_
    have hz3 : (w2.alloc (cel [Ptr t, I 0, I l, .slice none 0 0, .map (some mb), .slice none 0 0] 108)).heap.size = w2.heap.size + 1 := World.size_alloc _ _
    have hN3 : NQ PT w (w2.alloc (cel [Ptr t, I 0, I l, .slice none 0 0, .map (some mb), .slice none 0 0] 108)) col (fun b => if b = w2.heap.size then k else if w1.heap.size ≤ b ∧ b < mb then k + 1 else if b = mb then k + 3 else col b) k w2.heap.size t mb (.slice none 0 0) [] l := by
      refine ⟨hp3, if_pos rfl, ?_, f3.at0 hmb, ?_, Row.nil, fun b hb => (inv_none hb).elim, fun m hm => (by cases hm), fun i m hi => (by simp at hi), ⟨fun b hb => ?_, fun b hb => ?_, fun b hb => ?_⟩, (hF1.trans0 f2).trans0 f3⟩
      · refine sp.weak (sp.frm hT f3 (fun _ _ h => h)) (fun b hb _ => ?_)
        show (if _ then _ else _) = _
        rw [if_neg (by omega), if_pos hb]
      · show (if _ then _ else _) = _
        rw [if_neg (by omega), if_neg (by omega), if_pos rfl]
      · show (if _ then _ else _) = _
        rw [if_neg (by omega), if_neg (by omega), if_neg (by omega)]
      · show (if _ then _ else _) = _
        rw [if_neg (by omega), if_neg (by omega), if_neg (by omega)]
        exact hh b (by omega)
      · by_cases q1 : b = w2.heap.size
        · right; simp only [if_pos q1]; omega
        · by_cases q2 : w1.heap.size ≤ b ∧ b < mb
          · right; simp only [if_neg q1, if_pos q2]; omega
          · by_cases q3 : b = mb
            · right; simp only [if_neg q1, if_neg q2, if_pos q3]; omega
            · left; simp only [if_neg q1, if_neg q2, if_neg q3]; exact hh b hb
    generalize (fun b => if b = w2.heap.size then k else if w1.heap.size ≤ b ∧ b < mb then k + 1 else if b = mb then k + 3 else col b) = col3 at *
    have hpw : w.heap.size ≤ w2.heap.size := by omega
    generalize w2.alloc (cel [Ptr t, I 0, I l, .slice none 0 0, .map (some mb), .slice none 0 0] 108) = w3 at *
    generalize w2.heap.size = pb at *
    clear hbox
    refine runG11 ?_
    refine lp (fun env w' => ∃ env0, ∃ j : Nat, ∃ ca cc col' ms, env = setL env0 [(4, Ptr pb), (32, I c), (33, I j)] ∧ (j : Int) ≤ c ∧ NQ PT w w' col col' k pb t mb (.slice ca j cc) ms l ∧ ms.length = j ∧ ∀ b, InV (.slice ca j cc) b → w.heap.size ≤ b) (fun env _ => c.toNat - cnt (env 33)) ?_ ?_
    · exact ⟨_, 0, none, 0, col3, [], fixL ⟨rfl, rfl, rfl, trivial⟩, by omega, hN3, rfl, fun b hb => (inv_none hb).elim⟩
    · rintro env w4 ⟨env0, j, ca, cc, col4, ms, rfl, hj, hN, hml, hcw⟩
      have hh4 := hN.head
      by_cases hlt : (j : Int) < c
      · have hnp : ¬ InV (.slice ca j cc) pb := fun h9 => by have := hN.crow _ h9; have := hN.own; omega
        refine runG11 ?_
        refine w_drawn [(0, false), (1, false), (2, false), (3, false), (4, false), (5, true), (6, false), (7, true), (8, true), (9, false), (10, false)] [11] (fun wq => Frm (InV (.slice ca j cc)) w4 wq) mixed (by kernel_rfl) ?_ ?_
        · exact Frm.of_drew _
        · refine runG11 ?_
          refine x_callf rfl (nothing_ret sp _) rfl wnt_none ?_
          rintro v w5 ⟨t', rfl, hT5, f5⟩
          have f45 : Frm0 w4 w5 := (Frm.of_drew w4).trans0 f5
          refine ⟨f45.mono (fun _ h => h.elim), ?_⟩
          refine x_q rfl (fun wq hq => r_build rfl (bld_client _ wq)) wnt_none ?_
          refine x_val rfl (r_bs rfl (bs_client _ _)) wnt_none ((f45.mono (fun _ h => h.elim)).alloc _) ?_
          have f6 : Frm0 w5 (w5.alloc (cel (cli0V t') 119)) := Frm.of_alloc _ _
          have hrow6 := hN.row.frm (f45.trans0 f6) (fun _ _ h => h)
          obtain ⟨v7, w7, e7, r7, f7, n7⟩ := append_seg (P := Tryz.prog) (sz := 8) (by' := 120) (ty := 106) (sT := 106) (u_ok rfl) (u_ok rfl) (fun kk h => by cases h) (s_ok rfl) (b_ok rfl) (z_ok rfl) rfl hrow6 (seg_new (w := w5) (cs := cli0V t') (t := 119) rfl) (cli0_one t') (by omega) (by omega)
          have f47 : Frm (InV (.slice ca j cc)) w4 w7 := ((f45.trans0 f6).mono (fun _ h => h.elim)).trans f7 (fun b hb => .inl hb)
          refine x_val rfl (r_app rfl rfl e7) wnt_none f47 ?_
          have hh7 := f47.at hnp hh4
          obtain ⟨col8, hN8⟩ := hN.grow sp hk (by omega) hpw hcw f45 (sp.weak hT5 (fun b hb _ => hb)) f6 f7 r7 n7
          have r7' := r7
          rw [hml] at r7'
          obtain ⟨xa, xc, rfl⟩ := r7'.isSl
          refine runG11 ?_
          refine y_skip rfl (r_store_s (s_ok rfl) rfl rfl hh7 (by simp)) wnt_none ?_
          refine runG11 ?_
          have s45 := f45.size
          have s6 := f6.size
          have s4 := hN.new.size
          obtain ⟨ms8, hN9, hl9⟩ : ∃ ms8, NQ PT w (setB w7 pb (cel [Ptr t, I 0, I l, .slice none 0 0, .map (some mb), .slice xa (j + 1) xc] 108)) col col8 k pb t mb (.slice xa (j + 1) xc) ms8 l ∧ ms8.length = j + 1 := ⟨_, hN8, by rw [List.length_append, hml]; rfl⟩
          refine ⟨_, rfl, ⟨_, j + 1, xa, xc, col8, ms8, fixL ⟨rfl, rfl, rfl, trivial⟩, by omega, hN9, hl9, fun b hb => ?_⟩, by show c.toNat - ((j : Int) + 1).toNat < c.toNat - (j : Int).toNat; omega⟩
          rcases n7 b hb with h9 | h9
          · exact hcw b h9
          · omega
      · have hjc : c.toNat = j := by omega
        refine runG11 ?_
        refine ret_2 rfl rfl rfl ⟨hN.new, pb, col4, rfl, ?_, hN.ext⟩
        rcases hN.row with ⟨_, h0, _⟩ | ⟨cb, cap, rest, e9, hA, hpl, hr, hc⟩
        · omega
        · cases e9
          refine ⟨t, .slice none 0 0, mb, cb, cc, rest, ms, ?_, hN.own, hN.tree, wf_root0, Row.nil, fun b hb => (inv_none hb).elim, ⟨#[], 0, hN.map, ⟨rfl, by simp, fun e he => by simp at he, by simp [newQ]⟩⟩, hN.cmap, hA, hN.crow _ ⟨_, _, _, rfl⟩, ?_, hN.cli, by omega, hN.ext.high, hk⟩
          · have := hN.head
            rw [hml]
            exact this
          · show List.replicate c.toNat pcli0 = ms.map (·.c)
            rw [hjc, ← hml]
            refine (List.eq_replicate_iff.2 ⟨by simp, fun b hb => ?_⟩).symm
            obtain ⟨m, hm, rfl⟩ := List.mem_map.1 hb
            exact hN.all m hm
end
end Go.Proofs.YtbicffldggcdhaaGreatDoor

namespace Go.Proofs.YtbicffldggcdhaaGreatDoor
open Go

theorem put_get {L vs : List Value} {off q : Nat} (h : off + vs.length ≤ L.length) : (put L off vs)[q]? = if off ≤ q ∧ q < off + vs.length then vs[q - off]? else L[q]? := by
  have e : L = L.take off ++ L.drop off := (List.take_append_drop _ _).symm
  have hl : (L.take off).length = off := by rw [List.length_take]; omega
  have hd : (L.drop off).length = L.length - off := List.length_drop
  have e1 : put L off vs = L.take off ++ (vs ++ (L.drop off).drop vs.length) := by
    conv => lhs; rw [e, ← hl]
    rw [hl, show (L.take off ++ L.drop off) = L.take off ++ L.drop off from rfl]
    have := put_right (L.take off) (L.drop off) vs
    rw [hl] at this
    rw [this, put_head _ _ (by omega)]
  rw [e1]
  by_cases h1 : q < off
  · rw [List.getElem?_append_left (by omega), if_neg (by omega), List.getElem?_take_of_lt h1]
  · rw [List.getElem?_append_right (by omega), hl]
    by_cases h2 : q < off + vs.length
    · rw [List.getElem?_append_left (by omega), if_pos ⟨by omega, h2⟩]
    · rw [List.getElem?_append_right (by omega), if_neg (by omega), List.getElem?_drop, List.getElem?_drop]
      congr 1
      omega
abbrev reps (j : Nat) (x : List Value) : List Value := fl id (List.replicate j x)
theorem reps_len {x : List Value} {sz : Nat} (hx : x.length = sz) (j : Nat) : (reps j x).length = j * sz := by
  induction j with
  | zero => simp [reps, fl]
  | succ j ih =>
    show (x ++ reps j x).length = _
    rw [List.length_append, ih, hx, Nat.add_mul]
    omega
theorem reps_get {x : List Value} {sz : Nat} (hx : x.length = sz) (hs : 0 < sz) : ∀ (j q : Nat), q < j * sz → (reps j x)[q]? = x[q % sz]?
  | 0, q, h => by omega
  | j + 1, q, h => by
    show (x ++ reps j x)[q]? = _
    by_cases h1 : q < sz
    · rw [List.getElem?_append_left (by omega), Nat.mod_eq_of_lt h1]
    · rw [List.getElem?_append_right (by omega), hx, reps_get hx hs j (q - sz) (by rw [Nat.add_mul] at h; omega)]
      congr 1
      conv => rhs; rw [show q = (q - sz) + sz by omega, Nat.add_mod_right]
theorem reps_one {x : List Value} (h : ∀ u ∈ x, one u = true) : ∀ (j : Nat), ∀ u ∈ reps j x, one u = true
  | 0, u, hu => by cases hu
  | j + 1, u, hu => by
    rcases List.mem_append.1 (show u ∈ x ++ reps j x from hu) with h1 | h1
    · exact h u h1
    · exact reps_one h j u h1
/-- The first n elements are x. -/
def Pat (L : List Value) (n sz : Nat) (x : List Value) : Prop := ∀ q, q < n * sz → L[q]? = x[q % sz]?
section
variable {L x : List Value} {n k j sz : Nat}
theorem Pat.keep (h : Pat L n sz x) (hx : x.length = sz) (hs : 0 < sz) (hl : k * sz + j * sz ≤ L.length) : Pat (put L (k * sz) (reps j x)) n sz x := by
  intro q hq
  have hr := reps_len hx j
  rw [put_get (by omega), hr]
  split
  · rename_i h1
    rw [reps_get hx hs j (q - k * sz) (by omega)]
    congr 1
    conv => rhs; rw [show q = (q - k * sz) + k * sz by omega, Nat.add_mul_mod_self_right]
  · exact h q hq
theorem Pat.grow (h : Pat L k sz x) (hx : x.length = sz) (hs : 0 < sz) (hl : k * sz + j * sz ≤ L.length) : Pat (put L (k * sz) (reps j x)) (k + j) sz x := by
  intro q hq
  have hr := reps_len hx j
  rw [put_get (by omega), hr]
  split
  · rename_i h1
    rw [reps_get hx hs j (q - k * sz) (by omega)]
    congr 1
    conv => rhs; rw [show q = (q - k * sz) + k * sz by omega, Nat.add_mul_mod_self_right]
  · rename_i h1
    rw [Nat.add_mul] at hq
    exact h q (by omega)
theorem Pat.elem (h : Pat L n sz x) (hx : x.length = sz) (_hl : n * sz ≤ L.length) {i : Nat} (hi : i < n) : sub L (i * sz) sz = x := by
  have key : ∀ (m o : Nat), o + m = sz → sub L (i * sz + o) m = x.drop o := by
    intro m
    induction m with
    | zero => intro o ho; rw [sub_zero, List.drop_eq_nil_of_le (by omega)]
    | succ m ih =>
      intro o ho
      have hlt : i * sz + o < n * sz := by
        have : (i + 1) * sz ≤ n * sz := Nat.mul_le_mul_right _ hi
        rw [Nat.add_mul] at this
        omega
      have hv := h (i * sz + o) hlt
      rw [show i * sz + o = o + i * sz by omega, Nat.add_mul_mod_self_right, Nat.mod_eq_of_lt (by omega), List.getElem?_eq_getElem (show o < x.length by omega)] at hv
      rw [show i * sz + o = o + i * sz by omega, sub_succ L (o + i * sz) m _ hv, show o + i * sz + 1 = i * sz + (o + 1) by omega, ih (o + 1) (by omega), List.drop_eq_getElem_cons (show o < x.length by omega)]
  have := key sz 0 (by omega)
  rw [Nat.add_zero, List.drop_zero] at this
  exact this
end
theorem Kept.isSl {w : World} {u : Value} {T sz : Nat} {x : List Value} (h : Kept w u T sz x) : ∃ a n c, u = .slice a n c := by
  rcases h with h | ⟨b, n, cap, L, h, _⟩
  · exact ⟨_, _, _, h⟩
  · exact ⟨_, _, _, h⟩
theorem run_app_fit {P : Program} {w : World} {sT xT ty e sz n m b cap : Nat} {s : Value} {D : TypeDesc} {L vs : List Value} (hu : P.underlying sT = some (.slice e)) (hx : P.underlying xT = some D) (hD : ∀ kk, D ≠ .int kk) (hs : szOf P e = some sz)
    (hA : At w b (cel L e)) (hseg : Seg w s sz m vs) (hvl : vs.length = m * sz) (hone : ∀ u ∈ vs, one u = true) (hfit : n + m ≤ cap) (hL : L.length = cap * sz) :
    (Builtin.append_ #[sT, xT] ty #[.slice (some ⟨b, 0, none⟩) n cap, s]).run P w = .ok (.slice (some ⟨b, 0, none⟩) (n + m) cap) (setB w b (cel (put L (n * sz) vs) e)) := by
  have hle : (n + m) * sz ≤ cap * sz := Nat.mul_le_mul_right _ hfit
  rw [Nat.add_mul] at hle
  have hst := run_storeCells_at (P := P) (off := n * sz) vs 0 w L hA (by omega) hone
  simp only [Nat.add_zero] at hst
  have hfc : (Builtin.firstCells sz m s).run P w = .ok vs.toArray w := by
    rcases hseg with ⟨⟨a, c, rfl⟩, rfl, rfl⟩ | ⟨bx, ox, c, X, tx, k, rfl, hX, h1, h2⟩
    · cases a <;> simp [Builtin.firstCells, loadCells, loadCellsFrom]
    · rw [← h2]
      exact run_loadCells_at hX h1
  have hsl : ∃ a c, s = .slice a m c := by
    rcases hseg with ⟨⟨a, c, rfl⟩, rfl, rfl⟩ | ⟨bx, ox, c, X, tx, k, rfl, _⟩
    · exact ⟨_, _, rfl⟩
    · exact ⟨_, _, rfl⟩
  obtain ⟨sa, sc, rfl⟩ := hsl
  have hD' : (match D with | .int _ => true | _ => false) = false := by cases D <;> first | rfl | exact absurd rfl (hD _)
  simp [Builtin.append_, run_underlying hu, run_underlying hx, run_size hs, run_lenOf, hfit, hfc, add_none, hst]
/-- Appending elements of the same: all lists of such elements stay so. -/
theorem kept_append {P : Program} {w : World} {sT ty T sz by' n j c : Nat} {a : Option Addr} {z s : Value} {D : TypeDesc} {x : List Value}
    (hu : P.underlying sT = some (.slice T)) (hx : P.underlying sT = some D) (hD : ∀ kk, D ≠ .int kk) (hs : szOf P T = some sz) (hb : byOf P T = some by') (hz : zrOf P T = some z) (hzc : z.cells.size = sz)
    (hK : Kept w (.slice a n c) T sz x) (hxl : x.length = sz) (h0 : 0 < sz) (hone : ∀ u ∈ x, one u = true) (hseg : Seg w s sz j (reps j x)) (hj : 0 < j) (hby : 0 < by') (hcap : 2 * (n + j) * by' ≤ 2 ^ 48) (hn : n + j < 4000000000000) :
    ∃ m' c' w', (Builtin.append_ #[sT, sT] ty #[.slice a n c, s]).run P w = .ok (.slice m' (n + j) c') w' ∧ Kept w' (.slice m' (n + j) c') T sz x ∧ (∀ u, Kept w u T sz x → Kept w' u T sz x) ∧ Frm (InV (.slice a n c)) w w' ∧ ∀ b, InV (.slice m' (n + j) c') b → InV (.slice a n c) b ∨ w.heap.size ≤ b := by
  have fresh : ∀ pre, Row w (.slice a n c) T sz n pre → Pat pre n sz x → (∀ b cap, (.slice a n c : Value) = .slice (some ⟨b, 0, none⟩) n cap → ¬ n + j ≤ cap) → ∃ m' c' w', (Builtin.append_ #[sT, sT] ty #[.slice a n c, s]).run P w = .ok (.slice m' (n + j) c') w' ∧ Kept w' (.slice m' (n + j) c') T sz x ∧ (∀ u, Kept w u T sz x → Kept w' u T sz x) ∧ Frm (InV (.slice a n c)) w w' ∧ ∀ b, InV (.slice m' (n + j) c') b → InV (.slice a n c) b ∨ w.heap.size ≤ b := by
    intro pre hrow hpat hno
    rcases hseg with ⟨_, h9, _⟩ | ⟨bx, ox, cx, X, tx, k, rfl, hX, h1, h2⟩
    · omega
    obtain ⟨v', w', e1, r1, f1, n1, hd⟩ := run_append2 (ty := ty) (cx := cx) hu hx hD hs hb hz hzc hrow hX h1 (by rw [h2]; exact reps_one hone j) hby (fun cap hc => Nat.le_trans (Nat.mul_le_mul_right _ (next_le (n + j) cap hc)) hcap)
    rw [h2] at r1
    rcases r1 with ⟨_, h9, _⟩ | ⟨b', cap', rest', rfl, hA', hpl', hr', hc'⟩
    · omega
    rcases hd with ⟨f0, hnew⟩ | ⟨b, cap, hv, hv'⟩
    · refine ⟨_, _, w', e1, .inr ⟨b', n + j, cap', _, rfl, hA', by rw [List.length_append, hpl']; exact hr', hc', hn, ?_⟩, fun u hu => hu.frm f0 (fun _ _ h => h), f1, n1⟩
      intro q hq
      have hpl : pre.length = n * sz := by
        rcases hrow with ⟨_, h3, h4⟩ | ⟨_, _, _, _, _, h3, _⟩
        · rw [h4, h3]; simp
        · exact h3
      rw [List.getElem?_append_left (by omega)]
      by_cases h3 : q < n * sz
      · rw [List.getElem?_append_left (by omega)]
        exact hpat q h3
      · rw [List.getElem?_append_right (by omega), hpl, reps_get hxl h0 j (q - n * sz) (by rw [Nat.add_mul] at hq; omega)]
        congr 1
        conv => rhs; rw [show q = (q - n * sz) + n * sz by omega, Nat.add_mul_mod_self_right]
    · cases hv'
      exact absurd hc' (hno _ _ hv)
  rcases hK with h | ⟨b, n', cap, L, h, hA, hL, hnc, _, hpat⟩
  · cases h
    exact fresh [] Row.nil (fun q hq => by simp at hq) (fun b cap h => by cases h)
  · cases h
    by_cases hfit : n + j ≤ c
    · have hle : (n + j) * sz ≤ c * sz := Nat.mul_le_mul_right _ hfit
      rw [Nat.add_mul] at hle
      have hrl := reps_len hxl j
      refine ⟨_, _, _, run_app_fit hu hx hD hs hA hseg hrl (reps_one hone j) hfit hL, .inr ⟨b, n + j, c, _, rfl, at_setB _ hA, by rw [put_length]; exact hL, hfit, hn, Pat.grow hpat hxl h0 (by omega)⟩, fun u hu => ?_, (Frm.refl _ w).setB (b := b) (.inl ⟨_, _, _, rfl⟩) _, fun b' hb' => .inl ?_⟩
      · rcases hu with hu | ⟨b2, n2, cap2, L2, rfl, hA2, hL2, hn2, hm2, hp2⟩
        · exact .inl hu
        · by_cases hbb : b2 = b
          · subst hbb
            have hLL : L2 = L := by
              have h3 : w.heap[b2]? = some (cel L2 T) := hA2
              have h4 : w.heap[b2]? = some (cel L T) := hA
              rw [h3] at h4
              simp [cel] at h4
              exact h4
            subst hLL
            exact .inr ⟨b2, n2, cap2, _, rfl, at_setB _ hA, by rw [put_length]; exact hL2, hn2, hm2, Pat.keep hp2 hxl h0 (by omega)⟩
          · exact .inr ⟨b2, n2, cap2, L2, rfl, at_setB_ne _ (fun e => hbb e.symm) hA2, hL2, hn2, hm2, hp2⟩
      · obtain ⟨_, _, _, e⟩ := hb'
        cases e
        exact ⟨_, _, _, rfl⟩
    · have hrow : Row w (.slice (some ⟨b, 0, none⟩) n c) T sz n (L.take (n * sz)) := by
        have h1 : n * sz ≤ c * sz := Nat.mul_le_mul_right _ hnc
        refine .inr ⟨b, c, L.drop (n * sz), rfl, by rw [List.take_append_drop]; exact hA, by rw [List.length_take]; omega, by rw [List.length_drop]; omega, hnc⟩
      refine fresh _ hrow (fun q hq => ?_) (fun b' cap' h => by cases h; exact hfit)
      rw [List.getElem?_take_of_lt hq]
      exact hpat q hq
theorem row_append1 {P : Program} {w : World} {ssT ty sT n : Nat} {v u s z : Value} {D : TypeDesc} {us : List Value}
    (hu : P.underlying ssT = some (.slice sT)) (hx : P.underlying ssT = some D) (hD : ∀ kk, D ≠ .int kk) (hs : szOf P sT = some 1) (hb : byOf P sT = some 24) (hz : zrOf P sT = some z) (hzc : z.cells.size = 1)
    (hrow : Row w v sT 1 n us) (hseg : Seg w s 1 1 [u]) (hone : one u = true) (hn : n < 7300000000000) :
    ∃ a c w', (Builtin.append_ #[ssT, ssT] ty #[v, s]).run P w = .ok (.slice a (n + 1) c) w' ∧ Row w' (.slice a (n + 1) c) sT 1 (n + 1) (us ++ [u]) ∧ Frm (InV v) w w' ∧ ∀ b, InV (.slice a (n + 1) c) b → InV v b ∨ w.heap.size ≤ b := by
  rcases hseg with ⟨_, h9, _⟩ | ⟨bx, ox, cx, X, tx, k, rfl, hX, h1, h2⟩
  · omega
  obtain ⟨v', w', e1, r1, f1, n1, _⟩ := run_append2 (ty := ty) (cx := cx) hu hx hD hs hb hz hzc hrow hX h1 (by rw [h2]; intro y hy; simp at hy; subst hy; exact hone) (by omega) (fun cap hc => by
    have := next_le2 (n + 1) cap hc
    omega)
  rw [h2] at r1
  obtain ⟨a, c, rfl⟩ := r1.isSl
  exact ⟨a, c, w', e1, r1, f1, n1⟩
/-- What keeping a list leaves. -/
structure KG (w w' : World) (col col' : Nat → Nat) (wp c : Nat) (lv v : Value) : Prop where
  old : ∀ b, b < w.heap.size → ¬ InV lv b → col' b = col b
  lst : ∀ b, InV lv b → col' b = 5
  new : ∀ b, w.heap.size ≤ b → col' b = 0 ∨ col' b = c ∨ col' b = 5
  high : ∀ b, w'.heap.size ≤ b → col' b = 0
  frm : Frm (fun b => b = wp ∨ InV lv b ∨ InV v b) w w'
theorem seg_reps {w : World} {x : List Value} {T j sz : Nat} (hx : x.length = sz) : Seg (w.alloc (cel (reps j x) T)) (.slice (some ⟨w.heap.size, 0, none⟩) j j) sz j (reps j x) :=
  .inr ⟨w.heap.size, 0, j, reps j x, T, (0, 0), rfl, at_alloc_new _ _, by rw [reps_len hx]; omega, sub_all' (reps_len hx j)⟩
theorem seg_sl {w : World} {v : Value} {T : Nat} : Seg (w.alloc (cel [v] T)) (.slice (some ⟨w.heap.size, 0, none⟩) 1 1) 1 1 [v] :=
  .inr ⟨w.heap.size, 0, 1, [v], T, (0, 0), rfl, at_alloc_new _ _, by simp, rfl⟩
theorem reps1 (x : List Value) : reps 1 x = x := by simp [reps, fl]
/-- A list that is being written: its first i elements are x. -/
def Wrt (w : World) (lv : Value) (T sz m i : Nat) (x : List Value) : Prop := (lv = .slice none 0 0 ∧ m = 0) ∨ ∃ b cap L, lv = .slice (some ⟨b, 0, none⟩) m cap ∧ At w b (cel L T) ∧ L.length = cap * sz ∧ m ≤ cap ∧ Pat L i sz x
theorem Wrt.kept {w : World} {lv : Value} {T sz m : Nat} {x : List Value} (h : Wrt w lv T sz m m x) (hm : m < 4000000000000) : Kept w lv T sz x := by
  rcases h with h | ⟨b, cap, L, rfl, hA, h1, h2, h3⟩
  · exact .inl h.1
  · exact .inr ⟨b, m, cap, L, rfl, hA, h1, h2, hm, h3⟩
theorem wrt0 {w : World} {lv : Value} {T sz m : Nat} {pre x : List Value} (h : Row w lv T sz m pre) : Wrt w lv T sz m 0 x := by
  rcases h with ⟨h1, h2, _⟩ | ⟨b, cap, rest, h1, hA, h2, h3, h4⟩
  · exact .inl ⟨h1, h2⟩
  · exact .inr ⟨b, cap, _, h1, hA, by rw [List.length_append, h2]; exact h3, h4, fun q hq => by omega⟩
end Go.Proofs.YtbicffldggcdhaaGreatDoor

namespace Go.Proofs.YtbicffldggcdhaaGreatDoor
open Go

/-- The law's World behind N steps. -/
def WAll (PT : PTy) (w : World) (wp N : Nat) : Prop := ∃ tsv psv e a n ts gs es as' ns colT col, WH PT w wp tsv psv e a n ts gs es as' ns colT col ∧ WG PT w gs col N ∧ ts.length ≤ N ∧ gs.length ≤ N ∧ es.length ≤ 4 * N ∧ as'.length ≤ 4 * N ∧ ns.length ≤ 4 * N
theorem bld_group (a b : Option Addr) (w : World) : (Instr.build 135 [(0, .pointer a), (1, .pointer b)].toArray).run Tryz.prog w = .ok (.agg [.pointer a, .pointer b].toArray) w := by kernel_rfl
theorem bs_group (a b : Option Addr) (w : World) : (Instr.buildSlice 72 1 [(0, .agg [.pointer a, .pointer b].toArray)].toArray).run Tryz.prog w = .ok (.slice (some ⟨w.heap.size, 0, none⟩) 1 1) (w.alloc (cel [.pointer a, .pointer b] 135)) := by kernel_rfl
section
variable {w : World} {n : Nat} {env : Env} {d : Option Nat} {t ty2 : Nat} {p : String} {af : Array Edge} {g : Option (Nat × Bool)} {x : Operand}
theorem r_rpN (hx : ev n env x = .pointer none) : (execOp (ev n env) ⟨d, .binOp .eql 133 x (.const (.pointer none)) ty2, t, p, af, g⟩).run Tryz.prog w = .ok (.value (.bool true)) w := r_eq2 hx (show ev n env (.const (.pointer none)) = .pointer none from rfl) (by simp [eqGuard]) (by kernel_rfl)
theorem r_rpS {a : Addr} (hx : ev n env x = .pointer (some a)) : (execOp (ev n env) ⟨d, .binOp .eql 133 x (.const (.pointer none)) ty2, t, p, af, g⟩).run Tryz.prog w = .ok (.value (.bool false)) w := r_eq2 hx (show ev n env (.const (.pointer none)) = .pointer none from rfl) rfl (by kernel_rfl)
theorem r_ppN (hx : ev n env x = .pointer none) : (execOp (ev n env) ⟨d, .binOp .eql 45 x (.const (.pointer none)) ty2, t, p, af, g⟩).run Tryz.prog w = .ok (.value (.bool true)) w := r_eq2 hx (show ev n env (.const (.pointer none)) = .pointer none from rfl) (by simp [eqGuard]) (by kernel_rfl)
theorem r_ppS {a : Addr} (hx : ev n env x = .pointer (some a)) : (execOp (ev n env) ⟨d, .binOp .eql 45 x (.const (.pointer none)) ty2, t, p, af, g⟩).run Tryz.prog w = .ok (.value (.bool false)) w := r_eq2 hx (show ev n env (.const (.pointer none)) = .pointer none from rfl) rfl (by kernel_rfl)
end
section
variable {PT : PTy} (sp : TreeSpec PT) (cs : CloneSpec PT) {w w5 : World} {wp : Nat} {tsv psv e a n v : Value} {ts : List TP} {gs : List GP} {es as' ns : List Value} {colT col : Nat → Nat} {N : Nat} {y : GP}
theorem WH.addG (sp : TreeSpec PT) (h : WH PT w wp tsv psv e a n ts gs es as' ns colT col) (f : Frm (InV psv) w w5) (r : Row w5 v 135 2 (gs.length + 1) (fl GP.vals gs ++ y.vals)) (n5 : ∀ b, InV v b → InV psv b ∨ w.heap.size ≤ b) :
    WH PT (setB w5 wp (cel [tsv, v, e, a, n] 79)) wp tsv v e a n ts (gs ++ [y]) es as' ns colT (paint col w.heap.size v 1) ∧ Frm (fun b => b = wp ∨ InV psv b) w (setB w5 wp (cel [tsv, v, e, a, n] 79)) ∧ Ext 1 w w5 col (paint col w.heap.size v 1) := by
  have hwp := at_lt h.t.head
  have hw0 := h.col0 wp (Nat.le_refl _)
  have f' : Frm (fun b => b = wp ∨ InV psv b) w (setB w5 wp (cel [tsv, v, e, a, n] 79)) := (f.mono (fun b hb => .inl (.inr hb))).setB (b := wp) (.inl (.inl rfl)) _
  have x : Ext 1 w w5 col (paint col w.heap.size v 1) := paint_ext h.high f.size r.blk (by omega)
  have hS : ∀ b, b = wp ∨ InV psv b → col b = 0 ∨ col b = 1 := fun b hb => by
    rcases hb with rfl | hb
    · exact .inl hw0
    · exact .inr (h.rowc b hb)
  have hnp : ¬ InV psv wp := fun h9 => by have := h.rowc _ h9; omega
  refine ⟨⟨⟨?_, ?_, h.t.rowc, fun i z hz => ?_, h.t.col0, fun b hb => ?_, rfl⟩, ?_, ?_, h.be.go f' (fun b hb => by have := hS b hb; omega) x.old, h.ba.go f' (fun b hb => by have := hS b hb; omega) x.old, h.bn.go f' (fun b hb => by have := hS b hb; omega) x.old, fun b hb => by rw [x.old b (by omega)]; exact h.col0 b hb, fun b hb => ?_, fun b hb => ?_⟩, f', x⟩
  · exact at_setB _ (f.at hnp h.t.head)
  · refine h.t.row.frm f' (fun b hb h9 => ?_)
    rcases h9 with rfl | h9
    · have := (h.t.rowc _ hb).1; omega
    · exact (h.apart b (by have := h.rowc b h9; omega)).2 hb
  · refine (h.t.each i z hz).frm sp f' (fun b hb h9 => ?_)
    rcases h9 with rfl | h9
    · have := h.t.col0 _ (Nat.le_refl _); omega
    · have := (h.apart b (by have := h.rowc b h9; omega)).1; omega
  · exact h.t.high b (Nat.le_trans f'.size hb)
  · have : fl GP.vals (gs ++ [y]) = fl GP.vals gs ++ y.vals := by rw [fl_append]; simp [fl]
    rw [List.length_append, this]
    refine Row.frm (S := fun b => b = wp) (w := w5) r ((Frm.refl (fun b => b = wp) w5).setB (b := wp) (.inl rfl) _) (fun b hb e9 => ?_)
    rcases n5 b hb with h9 | h9
    · subst e9; exact hnp h9
    · omega
  · exact paint_new n5 h.rowc
  · rw [size_setB] at hb; exact x.high b hb
  · rcases Nat.lt_or_ge b w.heap.size with h1 | h1
    · rw [x.old b h1] at hb
      exact h.apart b hb
    · exact ⟨h.t.high b h1, fun h2 => by have := h.t.lt h2; omega⟩
set_option maxRecDepth 4000 in
set_option maxHeartbeats 1000000 in
theorem begun_ret (sp : TreeSpec PT) (_cs : CloneSpec PT) (h : WH PT w wp tsv psv e a n ts gs es as' ns colT col) (hg : WG PT w gs col N) {ea : List Addr} (hE : EI w wp ea) (hb : ts.length ≤ N ∧ gs.length ≤ N ∧ es.length ≤ 4 * N ∧ as'.length ≤ 4 * N ∧ ns.length ≤ 4 * N) (hN : N ≤ 1800000000000) (c l : Int) :
    Rets Tryz.prog 62 [Ptr wp, CfgV c l] w fun v w' => v = B true ∧ WAll PT w' wp (N + 1) ∧ Frm (fun b => wp ≤ b) w w' := by
  have hF1 : Frm0 w (w.alloc (cel [I c, I l] 87)) := Frm.of_alloc _ _
  have hbox := at_alloc_new w (cel [I c, I l] 87)
  have hwp := at_lt h.t.head
  obtain ⟨pa, pc, rfl⟩ := h.row.isSl
  refine rets_of Tryz.func62 (by kernel_rfl) rfl Tryz.ntmps62 (Nat.le_of_ble_eq_true rfl) ?_
  refine runG11 ?_
  generalize w.alloc (cel [I c, I l] 87) = w1 at *
  have hE1 := hE.errs.frm0 hF1
  have hh1 : ∀ b, w1.heap.size ≤ b → col b = 0 := fun b hb => h.high b (Nat.le_trans hF1.size hb)
  refine s_callf (PNew_ret sp (k := 200 * gs.length + 100) (col := col) (by omega) hh1 hE1 c l) rfl wnt_none ?_
  rintro v w2 ⟨f2, hv⟩
  have hbox2 := f2.at0 hbox
  have F2 := hF1.trans0 f2
  by_cases hbad : c < 1 ∨ 4 < c ∨ l < 0 ∨ 8 < l
  · rw [if_pos hbad] at hv
    obtain ⟨u, rfl, hu⟩ := hv
    have hnone : newP c l = none := by rw [newP, if_pos hbad]
    obtain ⟨b, a2, rfl, _⟩ := hu.one1
    refine runG11 ?_
    rw [show sub [I c, I l] 0 2 = [I c, I l] from rfl]
    refine s_callf (RNewP_ret (col := col) (k := 200 * gs.length + 200) (by omega) c l) rfl wnt_none ?_
    rintro v w3 ⟨f3, hv⟩
    rw [hnone] at hv
    have hv : v = .pointer none := hv
    subst hv
    refine runG11 ?_
    refine s_val (r_rpN rfl) wnt_none ?_
    refine runG11 ?_
    refine s_val (r_ppN rfl) wnt_none ?_
    refine runG11 ?_
    refine s_val (r_build rfl (bld_ed0 _)) (by (first | (with_reducible exact wnt_none) | ((with_reducible apply wnt_y); exact rfl; exact rfl; exact rfl; exact rfl; (with_reducible exact rfl)))) ?_
    refine s_callf (reason_ret (n := 1) (hE.errs.frm0 (F2.trans0 f3)) (hu.frm0 f3)) rfl (by (first | (with_reducible exact wnt_none) | ((with_reducible apply wnt_y); exact rfl; exact rfl; exact rfl; exact rfl; (with_reducible exact rfl)))) ?_
    rintro v w4 ⟨rfl, f4⟩
    have F4 := (F2.trans0 f3).trans0 f4
    refine runG11 ?_
    exact ret_b rfl rfl ⟨rfl, ⟨_, _, _, _, _, _, _, _, _, _, _, _, h.frm0 sp F4, fun j x hx => ((WG.frm0 sp hg h.high F4) j x hx).mono (by omega), by omega, by omega, by omega, by omega, by omega⟩, F4.mono (fun _ h => h.elim)⟩
  · rw [if_neg hbad] at hv
    obtain ⟨p, col2, rfl, hP2, x2⟩ := hv
    obtain ⟨P, hnP⟩ : ∃ P, newP c l = some P := ⟨_, by rw [newP, if_neg hbad]⟩
    refine runG11 ?_
    rw [show sub [I c, I l] 0 2 = [I c, I l] from rfl]
    refine s_callf (RNewP_ret (col := col2) (k := 200 * gs.length + 200) (by omega) c l) rfl wnt_none ?_
    rintro v w3 ⟨f3, hv⟩
    rw [hnP] at hv
    obtain ⟨r, col3, rfl, hR3, x3⟩ := hv
    have b12 : Bd gs.length w w1 col col := Bd.frm0 h.high hF1
    have b2 : Bd gs.length w1 w2 col col2 := Bd.ofQ x2 (f2.mono (fun _ h => h.elim)) (.inl rfl)
    have b3 : Bd gs.length w2 w3 col2 col3 := Bd.ofQ x3 (f3.mono (fun _ h => h.elim)) (.inr rfl)
    have B3 := (b12.trans b2).trans b3
    have hP3 := hP2.other sp f3 (fun _ _ _ h => h) x3.old x3.high
    have hnew : GOk PT w3 col3 (N + 1) gs.length ⟨p, r, newQ c l, P⟩ := ⟨hP3, hR3, sim_new hnP, sp_new hnP, (pinv_new hnP).mono (by omega)⟩
    have h3 := h.bd sp B3
    have hg3 : ∀ (j : Nat) x, gs[j]? = some x → GOk PT w3 col3 (N + 1) j x := fun j x hx => ((hg j x hx).other sp B3.frm (fun b h1 h2 h3 => by have := (List.getElem?_eq_some_iff.1 hx).1; omega) B3.old B3.high).mono (by omega)
    have hh3 := h3.t.head
    refine runG11 ?_
    refine s_val (r_rpS rfl) wnt_none ?_
    refine runG11 ?_
    refine s_val (r_ppS rfl) wnt_none ?_
    refine runG11 ?_
    refine s_val (r_nnF rfl) (by (first | (with_reducible exact wnt_none) | ((with_reducible apply wnt_y); exact rfl; exact rfl; exact rfl; exact rfl; (with_reducible exact rfl)))) ?_
    refine runG11 ?_
    refine s_val (r_build rfl (bld_group _ _ _)) wnt_none ?_
    refine s_val (r_bs rfl (bs_group _ _ _)) wnt_none ?_
    have f4 : Frm0 w3 (w3.alloc (cel [Ptr p, Ptr r] 135)) := Frm.of_alloc _ _
    have h4 := h3.frm0 sp f4
    obtain ⟨v5, w5, e5, r5, f5, n5⟩ := append_seg (P := Tryz.prog) (sz := 2) (by' := 16) (ty := 72) (sT := 72) (u_ok rfl) (u_ok rfl) (fun kk h => by cases h) (s_ok rfl) (b_ok rfl) (z_ok rfl) rfl h4.row (seg_new (w := w3) (cs := [Ptr p, Ptr r]) (t := 135) rfl) (by intro u hu; simp at hu; rcases hu with rfl | rfl <;> rfl) (by omega) (by omega)
    refine s_val (r_app rfl rfl e5) wnt_none ?_
    obtain ⟨h6, f6, x6⟩ := h4.addG sp (y := ⟨p, r, newQ c l, P⟩) f5 r5 n5
    have hh5 := f5.at (fun h9 => by have := h4.rowc _ h9; have := h4.col0 wp (Nat.le_refl _); omega) h4.t.head
    obtain ⟨xa, xc, rfl⟩ := r5.isSl
    refine runG11 ?_
    refine s_skip (r_store_s (s_ok rfl) rfl rfl hh5 (by simp)) wnt_none ?_
    refine runG11 ?_
    have hc1 : ∀ b, b = wp ∨ InV (.slice pa gs.length pc) b → col3 b = 0 ∨ col3 b = 1 := fun b hb => by
      rcases hb with rfl | hb
      · exact .inl (h4.col0 _ (Nat.le_refl _))
      · exact .inr (h4.rowc b hb)
    have hh4 : ∀ b, (w3.alloc (cel [Ptr p, Ptr r] 135)).heap.size ≤ b → col3 b = 0 := h4.high
    refine ret_b rfl rfl ⟨rfl, ⟨_, _, _, _, _, _, _, _, _, _, _, _, h6, fun j x hx => ?_, by omega, by simp; omega, by omega, by omega, by omega⟩, ?_⟩
    · have hx3 : GOk PT w3 col3 (N + 1) j x := by
        by_cases hj : j < gs.length
        · rw [List.getElem?_append_left hj] at hx
          exact hg3 j x hx
        · have hje : j = gs.length := by
            have := (List.getElem?_eq_some_iff.1 hx).1
            simp at this
            omega
          subst hje
          rw [List.getElem?_append_right (Nat.le_refl _), Nat.sub_self] at hx
          simp at hx
          subst hx
          exact hnew
      have hx4 := hx3.other sp f4 (fun _ _ _ h => h) (fun _ _ => rfl) hh4
      exact hx4.other sp f6 (fun b h1 h2 h9 => by have := hc1 b h9; omega) x6.old (fun b hb => by rw [size_setB] at hb; exact x6.high b hb)
    · have F4 : Frm (fun b => wp ≤ b) w (w3.alloc (cel [Ptr p, Ptr r] 135)) := ((F2.trans0 f3).trans0 f4).mono (fun _ h => h.elim)
      refine F4.trans f6 (fun b hb => .inl ?_)
      rcases hb with rfl | hb
      · exact Nat.le_refl _
      · have h1 := h4.rowc b hb
        rcases Nat.lt_or_ge wp b with h2 | h2
        · omega
        · have := h4.col0 b h2; omega
end
end Go.Proofs.YtbicffldggcdhaaGreatDoor

namespace Go.Proofs.YtbicffldggcdhaaGreatDoor
open Go

theorem bldB1 (a : Int) (w : World) : (Instr.build 31 [(0, I a)].toArray).run Tryz.prog w = .ok (.agg (Ed.vals ⟨a, 0, 0, 0, 0, 0⟩).toArray) w := by kernel_rfl
theorem bsB11 (a : Int) (w : World) : (Instr.buildSlice 26 1 [(0, .agg (Ed.vals ⟨a, 0, 0, 0, 0, 0⟩).toArray)].toArray).run Tryz.prog w = .ok (.slice (some ⟨w.heap.size, 0, none⟩) 1 1) (w.alloc (cel (reps 1 (Ed.vals ⟨a, 0, 0, 0, 0, 0⟩)) 31)) := by kernel_rfl
theorem bsB12 (a : Int) (w : World) : (Instr.buildSlice 26 2 [(0, .agg (Ed.vals ⟨a, 0, 0, 0, 0, 0⟩).toArray), (1, .agg (Ed.vals ⟨a, 0, 0, 0, 0, 0⟩).toArray)].toArray).run Tryz.prog w = .ok (.slice (some ⟨w.heap.size, 0, none⟩) 2 2) (w.alloc (cel (reps 2 (Ed.vals ⟨a, 0, 0, 0, 0, 0⟩)) 31)) := by kernel_rfl
theorem bsB13 (a : Int) (w : World) : (Instr.buildSlice 26 3 [(0, .agg (Ed.vals ⟨a, 0, 0, 0, 0, 0⟩).toArray), (1, .agg (Ed.vals ⟨a, 0, 0, 0, 0, 0⟩).toArray), (2, .agg (Ed.vals ⟨a, 0, 0, 0, 0, 0⟩).toArray)].toArray).run Tryz.prog w = .ok (.slice (some ⟨w.heap.size, 0, none⟩) 3 3) (w.alloc (cel (reps 3 (Ed.vals ⟨a, 0, 0, 0, 0, 0⟩)) 31)) := by kernel_rfl
theorem bsS1 (a : Option Addr) (n c : Nat) (w : World) : (Instr.buildSlice 73 1 [(0, .slice a n c)].toArray).run Tryz.prog w = .ok (.slice (some ⟨w.heap.size, 0, none⟩) 1 1) (w.alloc (cel [.slice a n c] 26)) := by kernel_rfl
theorem xo1 (a : Int) : ∀ u ∈ Ed.vals ⟨a, 0, 0, 0, 0, 0⟩, one u = true := edit_one _
set_option maxRecDepth 4000 in
set_option maxHeartbeats 2000000 in
theorem keepsEdits_ret {w : World} {wp m : Nat} {c0 c1 v c3 c4 lv : Value} {us pre : List Value} {col : Nat → Nat} (hh : At w wp (cel [c0, c1, v, c3, c4] 79)) (hB : BL w col 2 v 26 31 6 mkE us) (hl : Row w lv 31 6 m pre) (hlc : ∀ b, InV lv b → col b = 0 ∧ b ≠ wp) (hm : m < 1000000) (hus : us.length < 7290000000000) (hhi : ∀ b, w.heap.size ≤ b → col b = 0) (hwp : col wp = 0) :
    Rets Tryz.prog 115 [.pointer (some ⟨wp, 2, none⟩), lv] w fun _ w' => ∃ v' us' col', At w' wp (cel [c0, c1, v', c3, c4] 79) ∧ BL w' col' 2 v' 26 31 6 mkE us' ∧ us'.length = us.length + 4 ∧ KG w w' col col' wp 2 lv v := by
  obtain ⟨va, vc, rfl⟩ := hB.row.isSl
  obtain ⟨la, lc, rfl⟩ := hl.isSl
  have hwpl := at_lt hh
  have hvl : ∀ b, InV (.slice va us.length vc) b → col b = 2 ∧ b < w.heap.size := fun b hb => ⟨hB.rowc b hb, hB.row.lt hb⟩
  have hll : ∀ b, InV (.slice la m lc) b → b < w.heap.size := fun b hb => hl.lt hb
  have hnv : ∀ b, InV (.slice va us.length vc) b → b ≠ wp := fun b hb e => by have := (hvl b hb).1; subst e; omega
  refine rets_of Tryz.func115 (by kernel_rfl) rfl Tryz.ntmps115 (Nat.le_of_ble_eq_true rfl) ?_
  refine runG11 ?_
  refine s_val (r_quo rfl rfl (by decide) (by show _ ≤ ((us.length / 4 : Nat) : Int); omega) (by show ((us.length / 4 : Nat) : Int) ≤ _; omega)) wnt_none ?_
  rw [show ((us.length : Nat) : Int).tdiv 4 = ((us.length / 4 : Nat) : Int) from rfl]
  refine runG11 ?_
  refine s_val (r_build rfl (bldB1 _ _)) wnt_none ?_
  refine runG11 ?_
  generalize ha : (-1000 - ((us.length / 4 : Nat) : Int)) = a
  have hmk : mkE (us.length / 4) = Ed.vals ⟨a, 0, 0, 0, 0, 0⟩ := by rw [← ha]; rfl
  refine s_skip (r_storeAll (vs := Ed.vals ⟨a, 0, 0, 0, 0, 0⟩) (s_ok rfl) rfl rfl (xo1 a) (at_alloc_new w _) rfl) wnt_none ?_
  have hbm := at_setB (cel (Ed.vals ⟨a, 0, 0, 0, 0, 0⟩) 31) (at_alloc_new w (cel [I 0, I 0, I 0, I 0, I 0, I 0] 31))
  have f1 : Frm0 w (setB (w.alloc (cel [I 0, I 0, I 0, I 0, I 0, I 0] 31)) w.heap.size (cel (Ed.vals ⟨a, 0, 0, 0, 0, 0⟩) 31)) := (Frm.of_alloc w _).setB (.inr (Nat.le_refl _)) _
  have hs1 : (setB (w.alloc (cel [I 0, I 0, I 0, I 0, I 0, I 0] 31)) w.heap.size (cel (Ed.vals ⟨a, 0, 0, 0, 0, 0⟩) 31)).heap.size = w.heap.size + 1 := by rw [size_setB, World.size_alloc]
  generalize setB (w.alloc (cel [I 0, I 0, I 0, I 0, I 0, I 0] 31)) w.heap.size (cel (Ed.vals ⟨a, 0, 0, 0, 0, 0⟩) 31) = w1 at *
  have hxl : (Ed.vals ⟨a, 0, 0, 0, 0, 0⟩).length = 6 := rfl
  have hxo := xo1 a
  have hnb : ¬ InV (.slice la m lc) w.heap.size := fun h9 => by have := hll _ h9; omega
  have hnw : ¬ InV (.slice la m lc) wp := fun h9 => (hlc _ h9).2 rfl
  refine runG11 ?_
  refine lp (fun env w' => ∃ env0, ∃ i : Nat, env = setL env0 [(0, .pointer (some ⟨wp, 2, none⟩)), (1, .slice la m lc), (4, Ptr w.heap.size), (5, I i)] ∧ i ≤ m ∧ Wrt w' (.slice la m lc) 31 6 m i (Ed.vals ⟨a, 0, 0, 0, 0, 0⟩) ∧ Frm (InV (.slice la m lc)) w1 w') (fun env _ => m - cnt (env 5)) ?_ ?_
  · exact ⟨_, 0, fixL ⟨rfl, rfl, rfl, rfl, trivial⟩, by omega, wrt0 (hl.frm f1 (fun _ _ h => h)), Frm.refl _ _⟩
  · rintro env w2 ⟨env0, i, rfl, hi, hW, f2⟩
    have hbm2 := f2.at hnb hbm
    by_cases hlt : i < m
    · rcases hW with ⟨_, h0⟩ | ⟨lb, lcap, L, e9, hL, hLl, hLc, hp⟩
      · omega
      cases e9
      have hle : m * 6 ≤ lc * 6 := Nat.mul_le_mul_right _ hLc
      refine runG11 ?_
      rw [show sub (Ed.vals ⟨a, 0, 0, 0, 0, 0⟩) 0 6 = Ed.vals ⟨a, 0, 0, 0, 0, 0⟩ from rfl]
      refine s_skip (r_storeA (vs := Ed.vals ⟨a, 0, 0, 0, 0, 0⟩) (s_ok rfl) rfl rfl rfl hxo hL (by omega)) wnt_none ?_
      refine runG11 ?_
      refine ⟨_, rfl, ⟨_, i + 1, fixL ⟨rfl, rfl, rfl, rfl, trivial⟩, by omega, .inr ⟨lb, lc, _, rfl, at_setB _ hL, by rw [put_length]; exact hLl, hLc, ?_⟩, f2.setB (b := lb) (.inl ⟨_, _, _, rfl⟩) _⟩, by show m - ((i : Int) + 1).toNat < m - (i : Int).toNat; omega⟩
      have := hp.grow (j := 1) hxl (by decide) (by omega)
      rw [reps1] at this
      rw [show 0 + (i : Int).toNat * 6 = i * 6 by omega]
      exact this
    · have hie : i = m := by omega
      subst hie
      have hK2 := hW.kept (by omega)
      have hh2 := f2.at hnw (f1.at0 hh)
      have s2 := f2.size
      clear hW
      refine runG11 ?_
      rw [show sub (Ed.vals ⟨a, 0, 0, 0, 0, 0⟩) 0 6 = Ed.vals ⟨a, 0, 0, 0, 0, 0⟩ from rfl]
      refine s_val (r_bs rfl (bsB11 _ _)) wnt_none ?_
      have fa1 : Frm0 w2 (w2.alloc (cel (reps 1 (Ed.vals ⟨a, 0, 0, 0, 0, 0⟩)) 31)) := Frm.of_alloc _ _
      have sa1 := fa1.size
      obtain ⟨m1, k1, w4, e1, hU1, hkeep1, g1, n1⟩ := kept_append (P := Tryz.prog) (ty := 26) (sT := 26) (T := 31) (sz := 6) (by' := 48) (n := i) (j := 1) (c := lc) (a := la) (u_ok rfl) (u_ok rfl) (fun kk h => by cases h) (s_ok rfl) (b_ok rfl) (z_ok rfl) rfl (hK2.frm fa1 (fun _ _ h => h)) hxl (by decide) hxo (seg_reps hxl) (by decide) (by decide) (by omega) (by omega)
      have sg1 := g1.size
      have hbm4 := g1.at hnb (fa1.at0 hbm2)
      have hh4 := g1.at hnw (fa1.at0 hh2)
      have hK4 := hkeep1 _ (hK2.frm fa1 (fun _ _ h => h))
      refine s_val (r_app rfl rfl e1) wnt_none ?_
      refine runG11 ?_
      rw [show sub (Ed.vals ⟨a, 0, 0, 0, 0, 0⟩) 0 6 = Ed.vals ⟨a, 0, 0, 0, 0, 0⟩ from rfl]
      refine s_val (r_bs rfl (bsB12 _ _)) wnt_none ?_
      have fa2 : Frm0 w4 (w4.alloc (cel (reps 2 (Ed.vals ⟨a, 0, 0, 0, 0, 0⟩)) 31)) := Frm.of_alloc _ _
      have sa2 := fa2.size
      obtain ⟨m2, k2, w6, e2, hU2, hkeep2, g2, n2⟩ := kept_append (P := Tryz.prog) (ty := 26) (sT := 26) (T := 31) (sz := 6) (by' := 48) (n := i) (j := 2) (c := lc) (a := la) (u_ok rfl) (u_ok rfl) (fun kk h => by cases h) (s_ok rfl) (b_ok rfl) (z_ok rfl) rfl (hK4.frm fa2 (fun _ _ h => h)) hxl (by decide) hxo (seg_reps hxl) (by decide) (by decide) (by omega) (by omega)
      have sg2 := g2.size
      have hbm6 := g2.at hnb (fa2.at0 hbm4)
      have hh6 := g2.at hnw (fa2.at0 hh4)
      have hK6 := hkeep2 _ (hK4.frm fa2 (fun _ _ h => h))
      replace hU1 := hkeep2 _ (hU1.frm fa2 (fun _ _ h => h))
      refine s_val (r_app rfl rfl e2) wnt_none ?_
      refine runG11 ?_
      rw [show sub (Ed.vals ⟨a, 0, 0, 0, 0, 0⟩) 0 6 = Ed.vals ⟨a, 0, 0, 0, 0, 0⟩ from rfl]
      refine s_val (r_bs rfl (bsB13 _ _)) wnt_none ?_
      have fa3 : Frm0 w6 (w6.alloc (cel (reps 3 (Ed.vals ⟨a, 0, 0, 0, 0, 0⟩)) 31)) := Frm.of_alloc _ _
      have sa3 := fa3.size
      obtain ⟨m3, k3, w8, e3, hU3, hkeep3, g3, n3⟩ := kept_append (P := Tryz.prog) (ty := 26) (sT := 26) (T := 31) (sz := 6) (by' := 48) (n := i) (j := 3) (c := lc) (a := la) (u_ok rfl) (u_ok rfl) (fun kk h => by cases h) (s_ok rfl) (b_ok rfl) (z_ok rfl) rfl (hK6.frm fa3 (fun _ _ h => h)) hxl (by decide) hxo (seg_reps hxl) (by decide) (by decide) (by omega) (by omega)
      have sg3 := g3.size
      have hbm8 := g3.at hnb (fa3.at0 hbm6)
      have hh8 := g3.at hnw (fa3.at0 hh6)
      have hK8 := hkeep3 _ (hK6.frm fa3 (fun _ _ h => h))
      replace hU1 := hkeep3 _ (hU1.frm fa3 (fun _ _ h => h))
      replace hU2 := hkeep3 _ (hU2.frm fa3 (fun _ _ h => h))
      refine s_val (r_app rfl rfl e3) wnt_none ?_
      have F8 : Frm (InV (.slice la i lc)) w1 w8 := (((((f2.trans0 fa1).trans g1 (fun b hb => .inl hb)).trans0 fa2).trans g2 (fun b hb => .inl hb)).trans0 fa3).trans g3 (fun b hb => .inl hb)
      have hr8 := (hB.row.frm f1 (fun _ _ h => h)).frm F8 (fun b hb h9 => by have := (hvl b hb).1; have := (hlc b h9).1; omega)
      have hc8 : ∀ b, InV (.slice va us.length vc) b → InV (.slice va us.length vc) b ∨ w8.heap.size ≤ b := fun b hb => .inl hb
      have hz8 : w.heap.size + 1 ≤ w8.heap.size := by omega
      have G8 : Frm (fun b => b = wp ∨ InV (.slice va us.length vc) b ∨ w8.heap.size ≤ b) w8 w8 := Frm.refl _ _
      have sw8 : w8.heap.size ≤ w8.heap.size := Nat.le_refl _
      refine runG11 ?_
      refine s_val (r_bs rfl (bsS1 _ _ _ _)) wnt_none ?_
      have fb0 : Frm0 w8 (w8.alloc (cel [.slice la i lc] 26)) := Frm.of_alloc _ _
      have sb0 := fb0.size
      obtain ⟨p0, q0, y0, ey0, hry0, gy0, ny0⟩ := row_append1 (P := Tryz.prog) (ty := 73) (ssT := 73) (sT := 26) (u := .slice la i lc) (u_ok rfl) (u_ok rfl) (fun kk h => by cases h) (s_ok rfl) (b_ok rfl) (z_ok rfl) rfl (hr8.frm fb0 (fun _ _ h => h)) seg_sl rfl (by omega)
      refine s_val (r_app rfl rfl ey0) wnt_none ?_
      have hno0 : ¬ InV (.slice va us.length vc) wp := fun h9 => by rcases hc8 wp h9 with h8 | h8; exact hnv wp h8 rfl; omega
      have hhy0 := gy0.at hno0 (fb0.at0 hh8)
      have sy0 := gy0.size
      refine runG11 ?_
      refine s_skip (r_store_s (s_ok rfl) rfl rfl hhy0 (by simp)) wnt_none ?_
      rw [show ([c0, c1, .slice va us.length vc, c3, c4] : List Value).set (2 + 0) (.slice p0 (us.length + 1) q0) = [c0, c1, .slice p0 (us.length + 1) q0, c3, c4] from rfl]
      have hh9 := at_setB (cel [c0, c1, .slice p0 (us.length + 1) q0, c3, c4] 79) hhy0
      have hc9 : ∀ b, InV (.slice p0 (us.length + 1) q0) b → InV (.slice va us.length vc) b ∨ w8.heap.size ≤ b := fun b hb => by
        rcases ny0 b hb with h9 | h9
        · exact hc8 b h9
        · exact .inr (by omega)
      have hr9 := hry0.frm (S := fun b => b = wp) ((Frm.refl (fun b => b = wp) y0).setB (b := wp) (.inl rfl) (cel [c0, c1, .slice p0 (us.length + 1) q0, c3, c4] 79)) (fun b hb e => by
        subst e
        rcases hc9 b hb with h9 | h9
        · exact hnv b h9 rfl
        · omega)
      have G9 : Frm (fun b => b = wp ∨ InV (.slice va us.length vc) b ∨ w8.heap.size ≤ b) w8 (setB y0 wp (cel [c0, c1, .slice p0 (us.length + 1) q0, c3, c4] 79)) := ((G8.trans0 fb0).trans gy0 (fun b hb => .inl (.inr (hc8 b hb)))).setB (b := wp) (.inl (.inl rfl)) _
      have sw9 : w8.heap.size ≤ (setB y0 wp (cel [c0, c1, .slice p0 (us.length + 1) q0, c3, c4] 79)).heap.size := by rw [size_setB]; omega
      generalize setB y0 wp (cel [c0, c1, .slice p0 (us.length + 1) q0, c3, c4] 79) = w9 at *
      refine runG11 ?_
      refine s_val (r_bs rfl (bsS1 _ _ _ _)) wnt_none ?_
      have fb1 : Frm0 w9 (w9.alloc (cel [.slice m1 (i + 1) k1] 26)) := Frm.of_alloc _ _
      have sb1 := fb1.size
      obtain ⟨p1, q1, y1, ey1, hry1, gy1, ny1⟩ := row_append1 (P := Tryz.prog) (ty := 73) (ssT := 73) (sT := 26) (u := .slice m1 (i + 1) k1) (u_ok rfl) (u_ok rfl) (fun kk h => by cases h) (s_ok rfl) (b_ok rfl) (z_ok rfl) rfl (hr9.frm fb1 (fun _ _ h => h)) seg_sl rfl (by omega)
      refine s_val (r_app rfl rfl ey1) wnt_none ?_
      have hno1 : ¬ InV (.slice p0 (us.length + 1) q0) wp := fun h9 => by rcases hc9 wp h9 with h8 | h8; exact hnv wp h8 rfl; omega
      have hhy1 := gy1.at hno1 (fb1.at0 hh9)
      have sy1 := gy1.size
      refine runG11 ?_
      refine s_skip (r_store_s (s_ok rfl) rfl rfl hhy1 (by simp)) wnt_none ?_
      rw [show ([c0, c1, .slice p0 (us.length + 1) q0, c3, c4] : List Value).set (2 + 0) (.slice p1 (us.length + 1 + 1) q1) = [c0, c1, .slice p1 (us.length + 1 + 1) q1, c3, c4] from rfl]
      have hh10 := at_setB (cel [c0, c1, .slice p1 (us.length + 1 + 1) q1, c3, c4] 79) hhy1
      have hc10 : ∀ b, InV (.slice p1 (us.length + 1 + 1) q1) b → InV (.slice va us.length vc) b ∨ w8.heap.size ≤ b := fun b hb => by
        rcases ny1 b hb with h9 | h9
        · exact hc9 b h9
        · exact .inr (by omega)
      have hr10 := hry1.frm (S := fun b => b = wp) ((Frm.refl (fun b => b = wp) y1).setB (b := wp) (.inl rfl) (cel [c0, c1, .slice p1 (us.length + 1 + 1) q1, c3, c4] 79)) (fun b hb e => by
        subst e
        rcases hc10 b hb with h9 | h9
        · exact hnv b h9 rfl
        · omega)
      have G10 : Frm (fun b => b = wp ∨ InV (.slice va us.length vc) b ∨ w8.heap.size ≤ b) w8 (setB y1 wp (cel [c0, c1, .slice p1 (us.length + 1 + 1) q1, c3, c4] 79)) := ((G9.trans0 fb1).trans gy1 (fun b hb => .inl (.inr (hc9 b hb)))).setB (b := wp) (.inl (.inl rfl)) _
      have sw10 : w8.heap.size ≤ (setB y1 wp (cel [c0, c1, .slice p1 (us.length + 1 + 1) q1, c3, c4] 79)).heap.size := by rw [size_setB]; omega
      generalize setB y1 wp (cel [c0, c1, .slice p1 (us.length + 1 + 1) q1, c3, c4] 79) = w10 at *
      refine runG11 ?_
      refine s_val (r_bs rfl (bsS1 _ _ _ _)) wnt_none ?_
      have fb2 : Frm0 w10 (w10.alloc (cel [.slice m2 (i + 2) k2] 26)) := Frm.of_alloc _ _
      have sb2 := fb2.size
      obtain ⟨p2, q2, y2, ey2, hry2, gy2, ny2⟩ := row_append1 (P := Tryz.prog) (ty := 73) (ssT := 73) (sT := 26) (u := .slice m2 (i + 2) k2) (u_ok rfl) (u_ok rfl) (fun kk h => by cases h) (s_ok rfl) (b_ok rfl) (z_ok rfl) rfl (hr10.frm fb2 (fun _ _ h => h)) seg_sl rfl (by omega)
      refine s_val (r_app rfl rfl ey2) wnt_none ?_
      have hno2 : ¬ InV (.slice p1 (us.length + 1 + 1) q1) wp := fun h9 => by rcases hc10 wp h9 with h8 | h8; exact hnv wp h8 rfl; omega
      have hhy2 := gy2.at hno2 (fb2.at0 hh10)
      have sy2 := gy2.size
      refine runG11 ?_
      refine s_skip (r_store_s (s_ok rfl) rfl rfl hhy2 (by simp)) wnt_none ?_
      rw [show ([c0, c1, .slice p1 (us.length + 1 + 1) q1, c3, c4] : List Value).set (2 + 0) (.slice p2 (us.length + 1 + 1 + 1) q2) = [c0, c1, .slice p2 (us.length + 1 + 1 + 1) q2, c3, c4] from rfl]
      have hh11 := at_setB (cel [c0, c1, .slice p2 (us.length + 1 + 1 + 1) q2, c3, c4] 79) hhy2
      have hc11 : ∀ b, InV (.slice p2 (us.length + 1 + 1 + 1) q2) b → InV (.slice va us.length vc) b ∨ w8.heap.size ≤ b := fun b hb => by
        rcases ny2 b hb with h9 | h9
        · exact hc10 b h9
        · exact .inr (by omega)
      have hr11 := hry2.frm (S := fun b => b = wp) ((Frm.refl (fun b => b = wp) y2).setB (b := wp) (.inl rfl) (cel [c0, c1, .slice p2 (us.length + 1 + 1 + 1) q2, c3, c4] 79)) (fun b hb e => by
        subst e
        rcases hc11 b hb with h9 | h9
        · exact hnv b h9 rfl
        · omega)
      have G11 : Frm (fun b => b = wp ∨ InV (.slice va us.length vc) b ∨ w8.heap.size ≤ b) w8 (setB y2 wp (cel [c0, c1, .slice p2 (us.length + 1 + 1 + 1) q2, c3, c4] 79)) := ((G10.trans0 fb2).trans gy2 (fun b hb => .inl (.inr (hc10 b hb)))).setB (b := wp) (.inl (.inl rfl)) _
      have sw11 : w8.heap.size ≤ (setB y2 wp (cel [c0, c1, .slice p2 (us.length + 1 + 1 + 1) q2, c3, c4] 79)).heap.size := by rw [size_setB]; omega
      generalize setB y2 wp (cel [c0, c1, .slice p2 (us.length + 1 + 1 + 1) q2, c3, c4] 79) = w11 at *
      refine runG11 ?_
      refine s_val (r_bs rfl (bsS1 _ _ _ _)) wnt_none ?_
      have fb3 : Frm0 w11 (w11.alloc (cel [.slice m3 (i + 3) k3] 26)) := Frm.of_alloc _ _
      have sb3 := fb3.size
      obtain ⟨p3, q3, y3, ey3, hry3, gy3, ny3⟩ := row_append1 (P := Tryz.prog) (ty := 73) (ssT := 73) (sT := 26) (u := .slice m3 (i + 3) k3) (u_ok rfl) (u_ok rfl) (fun kk h => by cases h) (s_ok rfl) (b_ok rfl) (z_ok rfl) rfl (hr11.frm fb3 (fun _ _ h => h)) seg_sl rfl (by omega)
      refine s_val (r_app rfl rfl ey3) wnt_none ?_
      have hno3 : ¬ InV (.slice p2 (us.length + 1 + 1 + 1) q2) wp := fun h9 => by rcases hc11 wp h9 with h8 | h8; exact hnv wp h8 rfl; omega
      have hhy3 := gy3.at hno3 (fb3.at0 hh11)
      have sy3 := gy3.size
      refine runG11 ?_
      refine s_skip (r_store_s (s_ok rfl) rfl rfl hhy3 (by simp)) wnt_none ?_
      rw [show ([c0, c1, .slice p2 (us.length + 1 + 1 + 1) q2, c3, c4] : List Value).set (2 + 0) (.slice p3 (us.length + 1 + 1 + 1 + 1) q3) = [c0, c1, .slice p3 (us.length + 1 + 1 + 1 + 1) q3, c3, c4] from rfl]
      have hh12 := at_setB (cel [c0, c1, .slice p3 (us.length + 1 + 1 + 1 + 1) q3, c3, c4] 79) hhy3
      have hc12 : ∀ b, InV (.slice p3 (us.length + 1 + 1 + 1 + 1) q3) b → InV (.slice va us.length vc) b ∨ w8.heap.size ≤ b := fun b hb => by
        rcases ny3 b hb with h9 | h9
        · exact hc11 b h9
        · exact .inr (by omega)
      have hr12 := hry3.frm (S := fun b => b = wp) ((Frm.refl (fun b => b = wp) y3).setB (b := wp) (.inl rfl) (cel [c0, c1, .slice p3 (us.length + 1 + 1 + 1 + 1) q3, c3, c4] 79)) (fun b hb e => by
        subst e
        rcases hc12 b hb with h9 | h9
        · exact hnv b h9 rfl
        · omega)
      have G12 : Frm (fun b => b = wp ∨ InV (.slice va us.length vc) b ∨ w8.heap.size ≤ b) w8 (setB y3 wp (cel [c0, c1, .slice p3 (us.length + 1 + 1 + 1 + 1) q3, c3, c4] 79)) := ((G11.trans0 fb3).trans gy3 (fun b hb => .inl (.inr (hc11 b hb)))).setB (b := wp) (.inl (.inl rfl)) _
      have sw12 : w8.heap.size ≤ (setB y3 wp (cel [c0, c1, .slice p3 (us.length + 1 + 1 + 1 + 1) q3, c3, c4] 79)).heap.size := by rw [size_setB]; omega
      generalize setB y3 wp (cel [c0, c1, .slice p3 (us.length + 1 + 1 + 1 + 1) q3, c3, c4] 79) = w12 at *
      refine runG11 ?_
      obtain ⟨cn, cA, cB, cC⟩ : ∃ cn : Nat → Nat, (∀ b, InV (.slice la i lc) b ∨ (w.heap.size ≤ b ∧ b < w8.heap.size) → cn b = 5) ∧ (∀ b, ¬ (InV (.slice la i lc) b ∨ (w.heap.size ≤ b ∧ b < w8.heap.size)) → w8.heap.size ≤ b ∧ b < w12.heap.size → cn b = 2) ∧ (∀ b, ¬ (InV (.slice la i lc) b ∨ (w.heap.size ≤ b ∧ b < w8.heap.size)) → ¬ (w8.heap.size ≤ b ∧ b < w12.heap.size) → cn b = col b) := by
        classical
        exact ⟨fun b => if InV (.slice la i lc) b ∨ (w.heap.size ≤ b ∧ b < w8.heap.size) then 5 else if w8.heap.size ≤ b ∧ b < w12.heap.size then 2 else col b, fun b h => if_pos h, fun b h h2 => by show (if _ then _ else _) = _; rw [if_neg h, if_pos h2], fun b h h2 => by show (if _ then _ else _) = _; rw [if_neg h, if_neg h2]⟩
      have hcol : ∀ b, b < w.heap.size → ¬ InV (.slice la i lc) b → cn b = col b := fun b h1 h2 => cC b (by rintro (h3 | h3); exact h2 h3; omega) (by omega)
      have hU0 := hK8
      have hlz : ∀ b, InV (.slice la i lc) b → b < w8.heap.size := fun b hb => by have := hll b hb; omega
      have hn1 : ∀ b, InV (.slice m1 (i + 1) k1) b → InV (.slice la i lc) b ∨ w.heap.size ≤ b := fun b hb => (n1 b hb).imp id (fun h => by omega)
      have hn2 : ∀ b, InV (.slice m2 (i + 2) k2) b → InV (.slice la i lc) b ∨ w.heap.size ≤ b := fun b hb => (n2 b hb).imp id (fun h => by omega)
      have hn3 : ∀ b, InV (.slice m3 (i + 3) k3) b → InV (.slice la i lc) b ∨ w.heap.size ≤ b := fun b hb => (n3 b hb).imp id (fun h => by omega)
      have fin : ∀ u, Kept w8 u 31 6 (Ed.vals ⟨a, 0, 0, 0, 0, 0⟩) → (∀ b, InV u b → InV (.slice la i lc) b ∨ w.heap.size ≤ b) → Kept w12 u 31 6 (mkE (us.length / 4)) ∧ ∀ b, InV u b → cn b = 5 := fun u hu hb => by
        rw [hmk]
        refine ⟨hu.frm G12 (fun b h1 h2 => ?_), fun b h1 => ?_⟩
        · have h3 := hu.lt h1
          rcases hb b h1 with h4 | h4
          · rcases h2 with h5 | h5 | h5
            · exact (hlc b h4).2 h5
            · have := (hvl b h5).1; have := (hlc b h4).1; omega
            · omega
          · rcases h2 with h5 | h5 | h5
            · omega
            · have := (hvl b h5).2; omega
            · omega
        · have h3 := hu.lt h1
          exact cA b ((hb b h1).imp id (fun h => ⟨h, h3⟩))
      have hlen : (us ++ [(.slice la i lc : Value)] ++ [(.slice m1 (i + 1) k1 : Value)] ++ [(.slice m2 (i + 2) k2 : Value)] ++ [(.slice m3 (i + 3) k3 : Value)]).length = us.length + 1 + 1 + 1 + 1 := by simp
      refine end_0 rfl ⟨_, us ++ [.slice la i lc] ++ [.slice m1 (i + 1) k1] ++ [.slice m2 (i + 2) k2] ++ [.slice m3 (i + 3) k3], cn, hh12, ⟨?_, ?_, ?_, ?_⟩, by rw [hlen], ⟨hcol, fun b hb => cA b (.inl hb), ?_, ?_, ?_⟩⟩
      · rw [hlen]
        exact hr12
      · have := hB.four
        rw [hlen]
        omega
      · intro b hb
        have h2 := hr12.lt hb
        rcases hc12 b hb with h1 | h1
        · rw [hcol b (hvl b h1).2 (fun h3 => by have := (hlc b h3).1; have := (hvl b h1).1; omega)]
          exact (hvl b h1).1
        · exact cB b (by rintro (h3 | h3); have := hlz b h3; omega; omega) ⟨h1, h2⟩
      · intro q u hq
        by_cases hqu : q < us.length
        · have hq' : us[q]? = some u := by
            simp only [List.append_assoc] at hq
            rw [List.getElem?_append_left hqu] at hq
            exact hq
          obtain ⟨h1, h2⟩ := hB.each q u hq'
          have hk8 : Kept w12 u 31 6 (mkE (q / 4)) := ((h1.frm f1 (fun _ _ h => h)).frm F8 (fun b hb h9 => by have := h2 b hb; have := (hlc b h9).1; omega)).frm G12 (fun b hb h9 => by
            have h3 := h2 b hb
            have h4 := h1.lt hb
            rcases h9 with h5 | h5 | h5
            · subst h5; omega
            · have := (hvl b h5).1; omega
            · omega)
          refine ⟨hk8, fun b hb => ?_⟩
          rw [hcol b (h1.lt hb) (fun h3 => by have := (hlc b h3).1; have := h2 b hb; omega)]
          exact h2 b hb
        · have h4 := hB.four
          have hql : q < us.length + 4 := by
            have := (List.getElem?_eq_some_iff.1 hq).1
            rw [hlen] at this
            omega
          have hq4 : q / 4 = us.length / 4 := by omega
          rw [hq4]
          simp only [List.append_assoc] at hq
          rw [List.getElem?_append_right (by omega)] at hq
          rcases (show q - us.length = 0 ∨ q - us.length = 1 ∨ q - us.length = 2 ∨ q - us.length = 3 by omega) with h5 | h5 | h5 | h5
          · rw [h5] at hq; cases hq; exact fin _ hU0 (fun b hb => .inl hb)
          · rw [h5] at hq; cases hq; exact fin _ hU1 hn1
          · rw [h5] at hq; cases hq; exact fin _ hU2 hn2
          · rw [h5] at hq; cases hq; exact fin _ hU3 hn3
      · intro b hb
        by_cases h1 : b < w8.heap.size
        · right; right; exact cA b (.inr ⟨hb, h1⟩)
        · by_cases h2 : b < w12.heap.size
          · right; left; exact cB b (by rintro (h3 | h3); have := hlz b h3; omega; omega) ⟨by omega, h2⟩
          · left; rw [cC b (by rintro (h3 | h3); have := hlz b h3; omega; omega) (by omega)]; exact hhi b hb
      · intro b hb
        rw [cC b (by rintro (h3 | h3); have := hlz b h3; omega; omega) (by omega)]
        exact hhi b (by omega)
      · refine ((f1.mono (fun _ h => h.elim)).trans F8 (fun b hb => .inl (.inr (.inl hb)))).trans G12 (fun b hb => ?_)
        rcases hb with h1 | h1 | h1
        · exact .inl (.inl h1)
        · exact .inl (.inr (.inr h1))
        · exact .inr (by omega)
end Go.Proofs.YtbicffldggcdhaaGreatDoor
