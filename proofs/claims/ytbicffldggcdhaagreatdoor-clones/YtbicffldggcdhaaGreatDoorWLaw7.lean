/-
  The law's step, walked, for steps on trees.
-/
import Derived.Test.YtbicffldggcdhaaGreatDoorWLaw6
namespace Go.Proofs.YtbicffldggcdhaaGreatDoor
open Go
theorem runWLaw70 {G K : Prop} (k : K) (h : Wrap K → G := by intro h; (repeat (first | (with_reducible first | refine wpIn_seq ?_ | refine w_reg ?_ | refine s_nil ?_ | refine s_nilQ ?_ | refine wpIn_block ?_ | refine q_then ?_ | refine q_blk ?_ | refine q_then_ret ?_ | refine q_blk_ret ?_ | refine q_then_exit ?_ | refine q_blk_exit ?_ | refine wpIn_skip ?_ | refine wpIn_ret ?_ | refine wpIn_exit ?_ | refine y_nil ?_ | refine y_nilQ ?_ | refine x_late ?_) | ((with_reducible refine q_blk_other ?_ ?_); exact rfl) | ((with_reducible apply c_true); exact rfl; (with_reducible exact rfl)) | ((with_reducible apply c_false); exact rfl; (with_reducible exact rfl)) | ((with_reducible apply s_no); (first | ((with_reducible apply wnt_nt); exact rfl; exact rfl; exact rfl; exact rfl; (with_reducible exact rfl)) | ((with_reducible apply wnt_nf); exact rfl; exact rfl; exact rfl; exact rfl; (with_reducible exact rfl)))) | ((with_reducible apply x_qno); exact rfl; (first | ((with_reducible apply wnt_nt); exact rfl; exact rfl; exact rfl; exact rfl; (with_reducible exact rfl)) | ((with_reducible apply wnt_nf); exact rfl; exact rfl; exact rfl; exact rfl; (with_reducible exact rfl)))) | ((first | with_reducible apply s_val | ((with_reducible apply y_val); exact rfl) | ((with_reducible apply x_q); exact rfl; intro wq hq)); (first | ((with_reducible apply r_boxA); exact rfl) | ((with_reducible apply r_box1); exact rfl; exact rfl) | ((with_reducible apply r_assign_b); exact rfl) | ((with_reducible apply r_fld); exact fa_ok rfl; exact rfl) | ((with_reducible apply r_load); exact u_ok rfl; exact rfl; exact rfl; (first | exact Frm.at0 hq (by assumption) | exact Frm.at hq (by assumption) (by assumption) | (first | (with_reducible assumption) | assumption | exact at_alloc_new _ _ | (repeat (first | assumption | exact at_alloc_new _ _ | refine at_drew ?_ | refine at_alloc _ ?_)))); exact rfl) | ((with_reducible apply r_eql_t); exact rfl; exact rfl; omega) | ((with_reducible apply r_eql_f); exact rfl; exact rfl; omega) | ((with_reducible apply r_eql); exact rfl; exact rfl) | ((with_reducible apply r_assign_p); exact rfl) | ((with_reducible apply r_move_p); exact rfl) | ((with_reducible apply r_geq_t); exact rfl; exact rfl; omega) | ((with_reducible apply r_geq_f); exact rfl; exact rfl; omega) | ((with_reducible apply r_geq); exact rfl; exact rfl) | ((with_reducible apply r_move_b); exact rfl) | ((with_reducible apply r_leq_t); exact rfl; exact rfl; omega) | ((with_reducible apply r_leq_f); exact rfl; exact rfl; omega) | ((with_reducible apply r_leq); exact rfl; exact rfl) | ((with_reducible apply r_pick_t); exact rfl; (with_reducible exact rfl); exact rfl) | ((with_reducible apply r_pick_f); exact rfl; (with_reducible exact rfl); exact rfl) | ((with_reducible apply r_nilCheck); exact rfl) | ((with_reducible apply r_len); exact u_ok rfl; exact rfl) | ((with_reducible apply r_gtr_t); exact rfl; exact rfl; omega) | ((with_reducible apply r_gtr_f); exact rfl; exact rfl; omega) | ((with_reducible apply r_gtr); exact rfl; exact rfl) | ((with_reducible apply r_index); exact u_ok rfl; exact s_ok rfl; exact rfl; exact rfl; omega; omega) | ((with_reducible apply r_indexarr); exact u_ok rfl; exact s_ok rfl; exact rfl; exact rfl; omega; omega) | ((with_reducible apply r_loadA); exact u_ok rfl; exact rfl; exact s_ok rfl; exact rfl; (first | exact Frm.at0 hq (by assumption) | exact Frm.at hq (by assumption) (by assumption) | (first | (with_reducible assumption) | assumption | exact at_alloc_new _ _ | (repeat (first | assumption | exact at_alloc_new _ _ | refine at_drew ?_ | refine at_alloc _ ?_)))); exact Nat.le_of_ble_eq_true rfl) | ((with_reducible apply r_lss_t); exact rfl; exact rfl; omega) | ((with_reducible apply r_lss_f); exact rfl; exact rfl; omega) | ((with_reducible apply r_lss); exact rfl; exact rfl) | ((with_reducible apply r_allocA); exact z_ok rfl) | ((with_reducible apply r_alloc1); exact z_ok rfl; exact rfl)); (first | (with_reducible exact wnt_none) | ((with_reducible apply wnt_y); exact rfl; exact rfl; exact rfl; exact rfl; (with_reducible exact rfl)))))); exact h.out) : G := h ⟨k⟩
section
variable {PT : World → Nat → List Nd → (Nat → Prop) → Prop}
theorem TStep.of0 {w w1 w2 : World} {wp n : Nat} {tsv : Value} {col : Nat → Nat} {tail : List Value} (f : Frm0 w w1) (h : TStep PT w1 w2 wp tsv col tail n) : TStep PT w w2 wp tsv col tail n := by
  obtain ⟨⟨tsv', ts, col', h1, h2, h3, h4⟩, h5⟩ := h
  have hs := f.size
  exact ⟨⟨tsv', ts, col', h1, h2, fun b hb => h3 b (by omega), fun b hb => (h4 b hb).imp id (fun h => by omega)⟩, (f.mono (fun _ h => h.elim)).trans h5 (fun _ h => .inl h)⟩
theorem TStep.le {w w2 : World} {wp n m : Nat} {tsv : Value} {col : Nat → Nat} {tail : List Value} (h : TStep PT w w2 wp tsv col tail n) (hm : n ≤ m) : TStep PT w w2 wp tsv col tail m := by
  obtain ⟨⟨tsv', ts, col', h1, h2, h4⟩, h3⟩ := h
  exact ⟨⟨tsv', ts, col', h1, Nat.le_trans h2 hm, h4⟩, h3⟩

set_option maxHeartbeats 2000000 in
theorem step_new (sp : TreeSpec PT) {w : World} {wp : Nat} {tsv : Value} {tail : List Value} {ts : List TP} {col : Nat → Nat} {ea : List Addr} {o : OpR}
    (h : TI PT w wp tsv tail ts col) (hE : EI w wp ea) (hl : ts.length < 2000000000000) (hk : o.kind = 1) :
    Rets Tryz.prog 37 [Ptr wp, OpV o] w fun v w' => v = B true ∧ TStep PT w w' wp tsv col tail (ts.length + 1) := by
  have f1 : Frm0 w (w.alloc (cel o.vals 81)) := Frm.of_alloc _ _
  refine rets_of Tryz.func37 (by kernel_rfl) rfl Tryz.ntmps37 (Nat.le_of_ble_eq_true rfl) ?_
  refine runWLaw70 ?_
  refine s_callf (sp.new _) rfl wnt_none ?_
  rintro v w2 ⟨t, rfl, hP2, f2⟩
  refine runWLaw70 ?_
  refine s_callf (RNew_ret _) rfl wnt_none ?_
  rintro v w3 ⟨⟨r, b, cap, rest, rfl, hR3, _, _⟩, f3⟩
  refine s_callf (tree_ret sp (h.frm0 sp f1) (f2.trans0 f3) (hE.frm0 f1).errs (sp.frm hP2 f3 (fun _ _ h => h)) hR3 wf_root0 hl) rfl wnt_none ?_
  rintro v w4 ⟨rfl, ⟨tsv', col', o', hT, hT2⟩, f4⟩
  refine runWLaw70 ?_
  exact ret_b rfl rfl ⟨rfl, TStep.of0 f1 ⟨⟨tsv', _, col', hT, by simp, hT2⟩, f4⟩⟩

set_option maxHeartbeats 2000000 in
theorem step_on (sp : TreeSpec PT) {w : World} {wp : Nat} {tsv : Value} {tail : List Value} {ts : List TP} {col : Nat → Nat} {ea : List Addr} {o : OpR}
    (h : TI PT w wp tsv tail ts col) (hE : EI w wp ea) (hl : ts.length < 2000000000000) (hk : o.kind = 2 ∨ o.kind = 3 ∨ o.kind = 4) (ha : -9223372036854775808 ≤ o.a) (ha2 : o.a ≤ 9223372036854775807) :
    Rets Tryz.prog 37 [Ptr wp, OpV o] w fun v w' => v = B true ∧ TStep PT w w' wp tsv col tail (ts.length + 1) := by
  have f1 : Frm0 w (w.alloc (cel o.vals 81)) := Frm.of_alloc _ _
  have hb1 := at_alloc_new w (cel o.vals 81)
  obtain ⟨av, nv, cv, rfl, hnv⟩ : ∃ av nv cv, tsv = .slice av nv cv ∧ nv = ts.length := by
    rcases h.row with ⟨e1, e2, _⟩ | ⟨b, cap, rest, e1, _⟩
    · exact ⟨_, _, _, e1, e2.symm⟩
    · exact ⟨_, _, _, e1, rfl⟩
  subst hnv
  have hh1 := f1.at0 h.head
  have h1 := h.frm0 sp f1
  have hE1 := hE.frm0 f1
  have hk2 : 2 ≤ o.kind ∧ o.kind ≤ 4 := by omega
  refine rets_of Tryz.func37 (by kernel_rfl) rfl Tryz.ntmps37 (Nat.le_of_ble_eq_true rfl) ?_
  by_cases h0 : 0 < ts.length
  · refine runWLaw70 ?_
    generalize w.alloc (cel o.vals 81) = w1 at *
    rcases h1.row with ⟨_, e2, _⟩ | ⟨b, cap, rest, e1, hA, hpl, hroom, _⟩
    · omega
    · cases e1
      refine w_drawn ((0, false) :: (1, false) :: (2, false) :: (3, false) :: (4, false) :: (5, false) :: (6, false) :: (7, false) :: (8, false) :: (9, false) :: (10, false) :: (11, false) :: (15, false) :: (12, true) :: (13, false) :: (14, false) :: []) [16, 17] (fun wq => Frm0 w1 wq) mixed (by kernel_rfl) ?_ ?_
      · exact Frm.of_drew _
      · refine runWLaw70 ?_
        refine x_callf rfl (pick_ret o.a ts.length ha ha2 (by omega) _) rfl wnt_none ?_
        rintro v w2 ⟨⟨i, rfl, hi⟩, rfl⟩
        refine ⟨Frm.of_drew _, ?_⟩
        obtain ⟨x, hx⟩ : ∃ x, ts[i]? = some x := ⟨ts[i], List.getElem?_eq_getElem (by omega)⟩
        refine runWLaw70 ?_
        refine x_q rfl (fun wq hq => r_loadV (vs := [Ptr x.t, Ptr x.r]) (u_ok rfl) rfl (s_ok rfl) rfl (hq.at0 hA) (by rw [List.length_append, pairs_length]; omega) (by rw [show 0 + (i : Int).toNat * 2 = i * 2 by omega]; exact pairs_sub hx)) wnt_none ?_
        refine runWLaw70 ?_
        have h1d := h1.frm0 sp (Frm.of_drew w1)
        have hE1d := hE1.frm0 (Frm.of_drew w1)
        have hone : Rets Tryz.prog 60 [Ptr wp, .agg [Ptr x.t, Ptr x.r].toArray, OpV o] w1.drew fun v w' => v = B true ∧ TStep PT w1.drew w' wp (.slice (some ⟨b, 0, none⟩) ts.length cv) col tail ts.length := by
          rcases hk with k | k | k
          · exact one_apply sp h1d hE1d hx k
          · exact one_find sp h1d hx k
          · exact one_len sp h1d hx k
        refine y_callf rfl hone rfl wnt_none ?_
        rintro v w3 ⟨rfl, hT⟩
        refine runWLaw70 ?_
        exact ret_b rfl rfl ⟨rfl, (TStep.of0 f1.drew hT).le (by omega)⟩
  · refine runWLaw70 ?_
    exact ret_b rfl rfl ⟨rfl, (h.step0 sp f1).le (by omega)⟩
end
end Go.Proofs.YtbicffldggcdhaaGreatDoor
