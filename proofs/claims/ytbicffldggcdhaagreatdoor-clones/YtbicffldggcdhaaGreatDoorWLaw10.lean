/-
  The law's steps with clones among them: one, step, Clones, walked.
-/
import Derived.Test.YtbicffldggcdhaaGreatDoorWLaw9
namespace Go.Proofs.YtbicffldggcdhaaGreatDoor
open Go
theorem runWLaw100 {G K : Prop} (k : K) (h : Wrap K → G := by intro h; (repeat (first | (with_reducible first | refine wpIn_seq ?_ | refine w_reg ?_ | refine s_nil ?_ | refine s_nilQ ?_ | refine wpIn_block ?_ | refine q_then ?_ | refine q_blk ?_ | refine q_then_ret ?_ | refine q_blk_ret ?_ | refine q_then_exit ?_ | refine q_blk_exit ?_ | refine wpIn_skip ?_ | refine wpIn_ret ?_ | refine wpIn_exit ?_ | refine y_nil ?_ | refine y_nilQ ?_ | refine x_late ?_) | ((with_reducible refine q_blk_other ?_ ?_); exact rfl) | ((with_reducible apply c_true); exact rfl; (with_reducible exact rfl)) | ((with_reducible apply c_false); exact rfl; (with_reducible exact rfl)) | ((with_reducible apply s_no); (first | ((with_reducible apply wnt_nt); exact rfl; exact rfl; exact rfl; exact rfl; (with_reducible exact rfl)) | ((with_reducible apply wnt_nf); exact rfl; exact rfl; exact rfl; exact rfl; (with_reducible exact rfl)))) | ((with_reducible apply x_qno); exact rfl; (first | ((with_reducible apply wnt_nt); exact rfl; exact rfl; exact rfl; exact rfl; (with_reducible exact rfl)) | ((with_reducible apply wnt_nf); exact rfl; exact rfl; exact rfl; exact rfl; (with_reducible exact rfl)))) | ((first | with_reducible apply s_val | ((with_reducible apply y_val); exact rfl) | ((with_reducible apply x_q); exact rfl; intro wq hq)); (first | ((with_reducible apply r_boxA); exact rfl) | ((with_reducible apply r_box1); exact rfl; exact rfl) | ((with_reducible apply r_assign_b); exact rfl) | ((with_reducible apply r_fld); exact fa_ok rfl; exact rfl) | ((with_reducible apply r_load); exact u_ok rfl; exact rfl; exact rfl; (first | exact Frm.at0 hq (by assumption) | exact Frm.at hq (by assumption) (by assumption) | (first | (with_reducible assumption) | assumption | exact at_alloc_new _ _ | (repeat (first | assumption | exact at_alloc_new _ _ | refine at_drew ?_ | refine at_alloc _ ?_)))); exact rfl) | ((with_reducible apply r_eql_t); exact rfl; exact rfl; omega) | ((with_reducible apply r_eql_f); exact rfl; exact rfl; omega) | ((with_reducible apply r_eql); exact rfl; exact rfl) | ((with_reducible apply r_loadA); exact u_ok rfl; exact rfl; exact s_ok rfl; exact rfl; (first | exact Frm.at0 hq (by assumption) | exact Frm.at hq (by assumption) (by assumption) | (first | (with_reducible assumption) | assumption | exact at_alloc_new _ _ | (repeat (first | assumption | exact at_alloc_new _ _ | refine at_drew ?_ | refine at_alloc _ ?_)))); exact Nat.le_of_ble_eq_true rfl) | ((with_reducible apply r_assign_if); exact rfl) | ((with_reducible apply r_assign_ni); exact rfl) | ((with_reducible apply r_assign_i); exact rfl) | ((with_reducible apply r_move_if); exact rfl) | ((with_reducible apply r_move_ni); exact rfl) | ((with_reducible apply r_move_i); exact rfl) | ((with_reducible apply r_move_t); exact rfl) | ((with_reducible apply r_extract); exact rfl; exact rfl) | ((with_reducible apply r_allocA); exact z_ok rfl) | ((with_reducible apply r_alloc1); exact z_ok rfl; exact rfl) | ((with_reducible apply r_lss_t); exact rfl; exact rfl; omega) | ((with_reducible apply r_lss_f); exact rfl; exact rfl; omega) | ((with_reducible apply r_lss); exact rfl; exact rfl) | ((with_reducible apply r_move_b); exact rfl) | ((with_reducible apply r_not_t); exact rfl; (with_reducible exact rfl)) | ((with_reducible apply r_not_f); exact rfl; (with_reducible exact rfl)) | ((with_reducible apply r_not); exact rfl) | ((with_reducible apply r_pick_t); exact rfl; (with_reducible exact rfl); exact rfl) | ((with_reducible apply r_pick_f); exact rfl; (with_reducible exact rfl); exact rfl) | ((with_reducible apply r_nilCheck); exact rfl) | ((with_reducible apply r_index); exact u_ok rfl; exact s_ok rfl; exact rfl; exact rfl; omega; omega) | ((with_reducible apply r_indexarr); exact u_ok rfl; exact s_ok rfl; exact rfl; exact rfl; omega; omega) | ((with_reducible apply r_len); exact u_ok rfl; exact rfl) | ((with_reducible apply r_assign_p); exact rfl) | ((with_reducible apply r_move_p); exact rfl)); (first | (with_reducible exact wnt_none) | ((with_reducible apply wnt_y); exact rfl; exact rfl; exact rfl; exact rfl; (with_reducible exact rfl)))))); exact h.out) : G := h ⟨k⟩
theorem runWLaw101 {G K : Prop} (k : K) (h : Wrap K → G := by intro h; (repeat (first | (with_reducible first | refine wpIn_seq ?_ | refine w_reg ?_ | refine s_nil ?_ | refine s_nilQ ?_ | refine wpIn_block ?_ | refine q_then ?_ | refine q_blk ?_ | refine q_then_ret ?_ | refine q_blk_ret ?_ | refine q_then_exit ?_ | refine q_blk_exit ?_ | refine wpIn_skip ?_ | refine wpIn_ret ?_ | refine wpIn_exit ?_ | refine y_nil ?_ | refine y_nilQ ?_ | refine x_late ?_) | ((with_reducible refine q_blk_other ?_ ?_); exact rfl) | ((with_reducible apply c_true); exact rfl; (with_reducible exact rfl)) | ((with_reducible apply c_false); exact rfl; (with_reducible exact rfl)) | ((with_reducible apply s_no); (first | ((with_reducible apply wnt_nt); exact rfl; exact rfl; exact rfl; exact rfl; (with_reducible exact rfl)) | ((with_reducible apply wnt_nf); exact rfl; exact rfl; exact rfl; exact rfl; (with_reducible exact rfl)))) | ((with_reducible apply x_qno); exact rfl; (first | ((with_reducible apply wnt_nt); exact rfl; exact rfl; exact rfl; exact rfl; (with_reducible exact rfl)) | ((with_reducible apply wnt_nf); exact rfl; exact rfl; exact rfl; exact rfl; (with_reducible exact rfl)))) | ((first | with_reducible apply s_val | ((with_reducible apply y_val); exact rfl) | ((with_reducible apply x_q); exact rfl; intro wq hq)); (first | ((with_reducible apply r_boxA); exact rfl) | ((with_reducible apply r_box1); exact rfl; exact rfl) | ((with_reducible apply r_assign_b); exact rfl) | ((with_reducible apply r_fld); exact fa_ok rfl; exact rfl) | ((with_reducible apply r_load); exact u_ok rfl; exact rfl; exact rfl; (first | exact Frm.at0 hq (by assumption) | exact Frm.at hq (by assumption) (by assumption) | (first | (with_reducible assumption) | assumption | exact at_alloc_new _ _ | (repeat (first | assumption | exact at_alloc_new _ _ | refine at_drew ?_ | refine at_alloc _ ?_)))); exact rfl) | ((with_reducible apply r_eql_t); exact rfl; exact rfl; omega) | ((with_reducible apply r_eql_f); exact rfl; exact rfl; omega) | ((with_reducible apply r_eql); exact rfl; exact rfl) | ((with_reducible apply r_assign_p); exact rfl) | ((with_reducible apply r_move_p); exact rfl) | ((with_reducible apply r_geq_t); exact rfl; exact rfl; omega) | ((with_reducible apply r_geq_f); exact rfl; exact rfl; omega) | ((with_reducible apply r_geq); exact rfl; exact rfl) | ((with_reducible apply r_move_b); exact rfl) | ((with_reducible apply r_leq_t); exact rfl; exact rfl; omega) | ((with_reducible apply r_leq_f); exact rfl; exact rfl; omega) | ((with_reducible apply r_leq); exact rfl; exact rfl) | ((with_reducible apply r_pick_t); exact rfl; (with_reducible exact rfl); exact rfl) | ((with_reducible apply r_pick_f); exact rfl; (with_reducible exact rfl); exact rfl) | ((with_reducible apply r_nilCheck); exact rfl) | ((with_reducible apply r_len); exact u_ok rfl; exact rfl) | ((with_reducible apply r_gtr_t); exact rfl; exact rfl; omega) | ((with_reducible apply r_gtr_f); exact rfl; exact rfl; omega) | ((with_reducible apply r_gtr); exact rfl; exact rfl) | ((with_reducible apply r_index); exact u_ok rfl; exact s_ok rfl; exact rfl; exact rfl; omega; omega) | ((with_reducible apply r_indexarr); exact u_ok rfl; exact s_ok rfl; exact rfl; exact rfl; omega; omega) | ((with_reducible apply r_loadA); exact u_ok rfl; exact rfl; exact s_ok rfl; exact rfl; (first | exact Frm.at0 hq (by assumption) | exact Frm.at hq (by assumption) (by assumption) | (first | (with_reducible assumption) | assumption | exact at_alloc_new _ _ | (repeat (first | assumption | exact at_alloc_new _ _ | refine at_drew ?_ | refine at_alloc _ ?_)))); exact Nat.le_of_ble_eq_true rfl) | ((with_reducible apply r_lss_t); exact rfl; exact rfl; omega) | ((with_reducible apply r_lss_f); exact rfl; exact rfl; omega) | ((with_reducible apply r_lss); exact rfl; exact rfl) | ((with_reducible apply r_allocA); exact z_ok rfl) | ((with_reducible apply r_alloc1); exact z_ok rfl; exact rfl)); (first | (with_reducible exact wnt_none) | ((with_reducible apply wnt_y); exact rfl; exact rfl; exact rfl; exact rfl; (with_reducible exact rfl)))))); exact h.out) : G := h ⟨k⟩
theorem runWLaw102 {G K : Prop} (k : K) (h : Wrap K → G := by intro h; (repeat (first | (with_reducible first | refine wpIn_seq ?_ | refine w_reg ?_ | refine s_nil ?_ | refine s_nilQ ?_ | refine wpIn_block ?_ | refine q_then ?_ | refine q_blk ?_ | refine q_then_ret ?_ | refine q_blk_ret ?_ | refine q_then_exit ?_ | refine q_blk_exit ?_ | refine wpIn_skip ?_ | refine wpIn_ret ?_ | refine wpIn_exit ?_) | ((with_reducible refine q_blk_other ?_ ?_); exact rfl) | ((with_reducible apply c_true); exact rfl; (with_reducible exact rfl)) | ((with_reducible apply c_false); exact rfl; (with_reducible exact rfl)) | ((with_reducible apply s_val); (first | ((with_reducible apply r_assign_b); exact rfl) | ((with_reducible apply r_move_s); exact rfl)); (with_reducible exact wnt_none)))); exact h.out) : G := h ⟨k⟩

/-- What the law asks of Clone: a new tree, the same now. -/
def CloneSpec (PT : World → Nat → List Nd → (Nat → Prop) → Prop) : Prop :=
  ∀ {w : World} {t : Nat} {l : List Nd} {S : Nat → Prop}, PT w t l S → Rets Tryz.prog 17 [Ptr t] w fun v w' => ∃ t', v = Ptr t' ∧ PT w' t' l (fun b => w.heap.size ≤ b) ∧ Frm0 w w'

section
variable {PT : World → Nat → List Nd → (Nat → Prop) → Prop}
set_option maxHeartbeats 2000000 in
theorem one_clone (sp : TreeSpec PT) (cs : CloneSpec PT) {w : World} {wp : Nat} {tsv : Value} {tail : List Value} {ts : List TP} {col : Nat → Nat} {ea : List Addr} {i : Nat} {x : TP} {o : OpR}
    (h : TI PT w wp tsv tail ts col) (hE : EI w wp ea) (hx : ts[i]? = some x) (hk : o.kind = 5) (hl : ts.length < 2000000000000) :
    Rets Tryz.prog 60 [Ptr wp, .agg [Ptr x.t, Ptr x.r].toArray, OpV o] w fun v w' => v = B true ∧ TStep PT w w' wp tsv col tail (ts.length + 1) := by
  obtain ⟨hpt, ⟨rb, rcap, rrest, hR, cr, cb⟩, hW⟩ := h.each i x hx
  refine rets_of Tryz.func60 (by kernel_rfl) rfl Tryz.ntmps60 (Nat.le_of_ble_eq_true rfl) ?_
  refine runWLaw100 ?_
  have f1 : Frm0 w ((w.alloc (cel [Ptr x.t, Ptr x.r] 131)).alloc (cel o.vals 81)) := ((Frm.refl _ w).alloc _).alloc _
  have hp1 : At ((w.alloc (cel [Ptr x.t, Ptr x.r] 131)).alloc (cel o.vals 81)) w.heap.size (cel [Ptr x.t, Ptr x.r] 131) := at_alloc _ (at_alloc_new _ _)
  have ho1 : At ((w.alloc (cel [Ptr x.t, Ptr x.r] 131)).alloc (cel o.vals 81)) (w.heap.size + 1) (cel o.vals 81) := by
    have := at_alloc_new (w.alloc (cel [Ptr x.t, Ptr x.r] 131)) (cel o.vals 81)
    rw [World.size_alloc] at this
    exact this
  rw [show (w.alloc (cel [Ptr x.t, Ptr x.r] 131)).heap.size = w.heap.size + 1 from World.size_alloc _ _]
  generalize (w.alloc (cel [Ptr x.t, Ptr x.r] 131)).alloc (cel o.vals 81) = w1 at *
  refine runWLaw100 ?_
  refine s_callf (cs (sp.frm hpt f1 (fun _ _ h => h))) rfl wnt_none ?_
  rintro v w2 ⟨t, rfl, hP2, f2⟩
  have F2 : Frm0 w w2 := f1.trans0 f2
  have hp2 := f2.at0 hp1
  refine runWLaw100 ?_
  refine s_callf (tree_ret sp (h.frm0 sp f1) f2 (hE.frm0 f1).errs hP2 (hR.frm0 F2) hW hl) rfl wnt_none ?_
  rintro v w4 ⟨rfl, ⟨tsv', col', o', hT, hT2⟩, f4⟩
  refine runWLaw100 ?_
  exact ret_b rfl rfl ⟨rfl, TStep.of0 f1 ⟨⟨tsv', _, col', hT, by simp, hT2⟩, f4⟩⟩

set_option maxHeartbeats 2000000 in
theorem step_clone (sp : TreeSpec PT) (cs : CloneSpec PT) {w : World} {wp : Nat} {tsv : Value} {tail : List Value} {ts : List TP} {col : Nat → Nat} {ea : List Addr} {o : OpR}
    (h : TI PT w wp tsv tail ts col) (hE : EI w wp ea) (hl : ts.length < 2000000000000) (hk : o.kind = 5) (ha : -9223372036854775808 ≤ o.a) (ha2 : o.a ≤ 9223372036854775807) :
    Rets Tryz.prog 37 [Ptr wp, OpV o] w fun v w' => v = B true ∧ TStep PT w w' wp tsv col tail (ts.length + 1) := by
  have f1 : Frm0 w (w.alloc (cel o.vals 81)) := Frm.of_alloc _ _
  have hb1 := at_alloc_new w (cel o.vals 81)
  obtain ⟨av, nv, cv, rfl, hnv⟩ : ∃ av nv cv, tsv = .slice av nv cv ∧ nv = ts.length := by
    rcases h.row with ⟨e1, e2, _⟩ | ⟨b, cap, rest, e1, _⟩
    · exact ⟨_, _, _, e1, e2.symm⟩
    · exact ⟨_, _, _, e1, rfl⟩
  subst hnv
  have hh1 := f1.at0 h.head
  have h1 := h.frm0 sp f1
  have hE1 := hE.frm0 f1
  refine rets_of Tryz.func37 (by kernel_rfl) rfl Tryz.ntmps37 (Nat.le_of_ble_eq_true rfl) ?_
  by_cases h0 : 0 < ts.length
  · refine runWLaw101 ?_
    generalize w.alloc (cel o.vals 81) = w1 at *
    rcases h1.row with ⟨_, e2, _⟩ | ⟨b, cap, rest, e1, hA, hpl, hroom, _⟩
    · omega
    · cases e1
      refine w_drawn ((0, false) :: (1, false) :: (2, false) :: (3, false) :: (4, false) :: (5, false) :: (6, false) :: (7, false) :: (8, false) :: (9, false) :: (10, false) :: (11, false) :: (15, false) :: (12, true) :: (13, false) :: (14, false) :: []) [16, 17] (fun wq => Frm0 w1 wq) mixed (by kernel_rfl) ?_ ?_
      · exact Frm.of_drew _
      · refine runWLaw101 ?_
        refine x_callf rfl (pick_ret o.a ts.length ha ha2 (by omega) _) rfl wnt_none ?_
        rintro v w2 ⟨⟨i, rfl, hi⟩, rfl⟩
        refine ⟨Frm.of_drew _, ?_⟩
        obtain ⟨x, hx⟩ : ∃ x, ts[i]? = some x := ⟨ts[i], List.getElem?_eq_getElem (by omega)⟩
        refine runWLaw101 ?_
        refine x_q rfl (fun wq hq => r_loadV (vs := [Ptr x.t, Ptr x.r]) (u_ok rfl) rfl (s_ok rfl) rfl (hq.at0 hA) (by rw [List.length_append, pairs_length]; omega) (by rw [show 0 + (i : Int).toNat * 2 = i * 2 by omega]; exact pairs_sub hx)) wnt_none ?_
        refine runWLaw101 ?_
        refine y_callf rfl (one_clone sp cs (h1.frm0 sp (Frm.of_drew w1)) (hE1.frm0 (Frm.of_drew w1)) hx hk hl) rfl wnt_none ?_
        rintro v w3 ⟨rfl, hT⟩
        refine runWLaw101 ?_
        exact ret_b rfl rfl ⟨rfl, TStep.of0 f1.drew hT⟩
  · refine runWLaw101 ?_
    exact ret_b rfl rfl ⟨rfl, (h.step0 sp f1).le (by omega)⟩

theorem step_clones (sp : TreeSpec PT) (cs : CloneSpec PT) : StepC PT [1, 2, 3, 4, 5] := by
  intro w wp tsv tail ts col ea o hT hE hl hk hok
  by_cases h1 : o.kind = 1
  · exact step_new sp hT hE hl h1
  · by_cases h5 : o.kind = 5
    · exact step_clone sp cs hT hE hl h5 hok.1 hok.2
    · exact step_on sp hT hE hl (by simp at hk; omega) hok.1 hok.2
theorem bs_ks5 (w : World) : (Instr.buildSlice 24 5 [(0, I 1), (1, I 2), (2, I 3), (3, I 4), (4, I 5)].toArray).run Tryz.prog w = .ok (.slice (some ⟨w.heap.size, 0, none⟩) 5 5) (w.alloc (cel (([1, 2, 3, 4, 5] : List Int).map I ++ []) 3)) := by kernel_rfl
theorem Clones_ret (sp : TreeSpec PT) (cs : CloneSpec PT) {w : World} {sv : Value} {script : List OpR} {ea : List Addr} (hS : Scr w sv script) (hok : ∀ o ∈ script, OpOk o) (hB : (16 + script.length) * 160 ≤ 2 ^ 48) (hE : Errs w ea) :
    Rets Tryz.prog 4 [sv] w fun v w' => v = B true ∧ Frm0 w w' := by
  obtain ⟨sa, sl, sc, rfl⟩ : ∃ sa sl sc, sv = .slice sa sl sc := by
    rcases hS with ⟨⟨a, c, e⟩, _⟩ | ⟨sb, so, sc, X, tx, kk, e, _⟩
    · exact ⟨_, _, _, e⟩
    · exact ⟨_, _, _, e⟩
  refine rets_of Tryz.func4 (by kernel_rfl) rfl Tryz.ntmps4 (Nat.le_of_ble_eq_true rfl) ?_
  refine runWLaw102 ?_
  refine s_val (r_bs rfl (bs_ks5 _)) wnt_none ?_
  refine s_callf (plays_ret sp (step_clones sp cs) (ks := [1, 2, 3, 4, 5]) (hS.frm0 (Frm.of_alloc _ _)) hok hB (at_alloc_new w _) (by decide) (hE.frm0 (Frm.of_alloc _ _))) rfl wnt_none ?_
  rintro v w2 ⟨rfl, f2⟩
  refine runWLaw102 ?_
  exact ret_b rfl rfl ⟨rfl, (Frm.of_alloc w _).trans0 f2⟩
end
end Go.Proofs.YtbicffldggcdhaaGreatDoor
