/-
  The law's one, walked: Find and Len.
-/
import Derived.Test.YtbicffldggcdhaaGreatDoorWLaw5
namespace Go.Proofs.YtbicffldggcdhaaGreatDoor
open Go
theorem runWLaw60 {G K : Prop} (k : K) (h : Wrap K → G := by intro h; (repeat (first | (with_reducible first | refine wpIn_seq ?_ | refine w_reg ?_ | refine s_nil ?_ | refine s_nilQ ?_ | refine wpIn_block ?_ | refine q_then ?_ | refine q_blk ?_ | refine q_then_ret ?_ | refine q_blk_ret ?_ | refine q_then_exit ?_ | refine q_blk_exit ?_ | refine wpIn_skip ?_ | refine wpIn_ret ?_ | refine wpIn_exit ?_ | refine y_nil ?_ | refine y_nilQ ?_ | refine x_late ?_) | ((with_reducible refine q_blk_other ?_ ?_); exact rfl) | ((with_reducible apply c_true); exact rfl; (with_reducible exact rfl)) | ((with_reducible apply c_false); exact rfl; (with_reducible exact rfl)) | ((with_reducible apply s_no); (first | ((with_reducible apply wnt_nt); exact rfl; exact rfl; exact rfl; exact rfl; (with_reducible exact rfl)) | ((with_reducible apply wnt_nf); exact rfl; exact rfl; exact rfl; exact rfl; (with_reducible exact rfl)))) | ((with_reducible apply x_qno); exact rfl; (first | ((with_reducible apply wnt_nt); exact rfl; exact rfl; exact rfl; exact rfl; (with_reducible exact rfl)) | ((with_reducible apply wnt_nf); exact rfl; exact rfl; exact rfl; exact rfl; (with_reducible exact rfl)))) | ((first | with_reducible apply s_val | ((with_reducible apply y_val); exact rfl) | ((with_reducible apply x_q); exact rfl; intro wq hq)); (first | ((with_reducible apply r_boxA); exact rfl) | ((with_reducible apply r_box1); exact rfl; exact rfl) | ((with_reducible apply r_assign_b); exact rfl) | ((with_reducible apply r_fld); exact fa_ok rfl; exact rfl) | ((with_reducible apply r_load); exact u_ok rfl; exact rfl; exact rfl; (first | exact Frm.at0 hq (by assumption) | exact Frm.at hq (by assumption) (by assumption) | (first | (with_reducible assumption) | assumption | exact at_alloc_new _ _ | (repeat (first | assumption | exact at_alloc_new _ _ | refine at_drew ?_ | refine at_alloc _ ?_)))); exact rfl) | ((with_reducible apply r_eql_t); exact rfl; exact rfl; omega) | ((with_reducible apply r_eql_f); exact rfl; exact rfl; omega) | ((with_reducible apply r_eql); exact rfl; exact rfl) | ((with_reducible apply r_loadA); exact u_ok rfl; exact rfl; exact s_ok rfl; exact rfl; (first | exact Frm.at0 hq (by assumption) | exact Frm.at hq (by assumption) (by assumption) | (first | (with_reducible assumption) | assumption | exact at_alloc_new _ _ | (repeat (first | assumption | exact at_alloc_new _ _ | refine at_drew ?_ | refine at_alloc _ ?_)))); exact Nat.le_of_ble_eq_true rfl) | ((with_reducible apply r_assign_if); exact rfl) | ((with_reducible apply r_assign_ni); exact rfl) | ((with_reducible apply r_assign_i); exact rfl) | ((with_reducible apply r_move_if); exact rfl) | ((with_reducible apply r_move_ni); exact rfl) | ((with_reducible apply r_move_i); exact rfl) | ((with_reducible apply r_move_t); exact rfl) | ((with_reducible apply r_extract); exact rfl; exact rfl) | ((with_reducible apply r_allocA); exact z_ok rfl) | ((with_reducible apply r_alloc1); exact z_ok rfl; exact rfl) | ((with_reducible apply r_lss_t); exact rfl; exact rfl; omega) | ((with_reducible apply r_lss_f); exact rfl; exact rfl; omega) | ((with_reducible apply r_lss); exact rfl; exact rfl) | ((with_reducible apply r_move_b); exact rfl) | ((with_reducible apply r_not_t); exact rfl; (with_reducible exact rfl)) | ((with_reducible apply r_not_f); exact rfl; (with_reducible exact rfl)) | ((with_reducible apply r_not); exact rfl) | ((with_reducible apply r_pick_t); exact rfl; (with_reducible exact rfl); exact rfl) | ((with_reducible apply r_pick_f); exact rfl; (with_reducible exact rfl); exact rfl) | ((with_reducible apply r_nilCheck); exact rfl) | ((with_reducible apply r_index); exact u_ok rfl; exact s_ok rfl; exact rfl; exact rfl; omega; omega) | ((with_reducible apply r_indexarr); exact u_ok rfl; exact s_ok rfl; exact rfl; exact rfl; omega; omega) | ((with_reducible apply r_len); exact u_ok rfl; exact rfl) | ((with_reducible apply r_assign_p); exact rfl) | ((with_reducible apply r_move_p); exact rfl)); (first | (with_reducible exact wnt_none) | ((with_reducible apply wnt_y); exact rfl; exact rfl; exact rfl; exact rfl; (with_reducible exact rfl)))))); exact h.out) : G := h ⟨k⟩
section
variable {PT : World → Nat → List Nd → (Nat → Prop) → Prop}
theorem TI.step0 {w w' : World} {wp : Nat} {tsv : Value} {tail : List Value} {ts : List TP} {col : Nat → Nat} (sp : TreeSpec PT) (h : TI PT w wp tsv tail ts col) (f : Frm0 w w') : TStep PT w w' wp tsv col tail ts.length :=
  ⟨⟨tsv, ts, col, h.frm0 sp f, Nat.le_refl _, fun _ _ => rfl, fun _ hb => .inl hb⟩, f.mono (fun _ h => h.elim)⟩

set_option maxHeartbeats 2000000 in
theorem one_find (sp : TreeSpec PT) {w : World} {wp : Nat} {tsv : Value} {tail : List Value} {ts : List TP} {col : Nat → Nat} {i : Nat} {x : TP} {o : OpR}
    (h : TI PT w wp tsv tail ts col) (hx : ts[i]? = some x) (hk : o.kind = 3) :
    Rets Tryz.prog 60 [Ptr wp, .agg [Ptr x.t, Ptr x.r].toArray, OpV o] w fun v w' => v = B true ∧ TStep PT w w' wp tsv col tail ts.length := by
  obtain ⟨hpt, ⟨rb, rcap, rrest, hR, cr, cb⟩, hW⟩ := h.each i x hx
  have hsm := hW.small
  have hroom := hR.room
  refine rets_of Tryz.func60 (by kernel_rfl) rfl Tryz.ntmps60 (Nat.le_of_ble_eq_true rfl) ?_
  refine runWLaw60 ?_
  have f1 : Frm0 w ((w.alloc (cel [Ptr x.t, Ptr x.r] 131)).alloc (cel o.vals 81)) := ((Frm.refl _ w).alloc _).alloc _
  have hp1 : At ((w.alloc (cel [Ptr x.t, Ptr x.r] 131)).alloc (cel o.vals 81)) w.heap.size (cel [Ptr x.t, Ptr x.r] 131) := at_alloc _ (at_alloc_new _ _)
  have ho1 : At ((w.alloc (cel [Ptr x.t, Ptr x.r] 131)).alloc (cel o.vals 81)) (w.heap.size + 1) (cel o.vals 81) := by
    have := at_alloc_new (w.alloc (cel [Ptr x.t, Ptr x.r] 131)) (cel o.vals 81)
    rw [World.size_alloc] at this
    exact this
  rw [show (w.alloc (cel [Ptr x.t, Ptr x.r] 131)).heap.size = w.heap.size + 1 from World.size_alloc _ _]
  generalize (w.alloc (cel [Ptr x.t, Ptr x.r] 131)).alloc (cel o.vals 81) = w1 at *
  refine runWLaw60 ?_
  refine s_callf (sp.find o.b (sp.frm hpt f1 (fun _ _ h => h)) hW) rfl wnt_none ?_
  rintro v w2 ⟨rfl, f2⟩
  have F2 : Frm0 w w2 := f1.trans0 f2
  have hp2 := f2.at0 hp1
  have ho2 := f2.at0 ho1
  cases hth : there x.l o.b with
  | true =>
    obtain ⟨j, n, hj, hid, hat, hfnd⟩ := there_spec hth
    have hfv : findV x.l o.b = .tuple [.agg n.vals.toArray, B true].toArray := by rw [findV, hfnd]
    have hjl := (List.getElem?_eq_some_iff.1 hj).1
    have hlen : x.l.length * 7 ≤ (flat x.l ++ rrest).length := by rw [List.length_append, flat_length]; omega
    rw [hfv]
    refine runWLaw60 ?_
    refine s_skip (r_storeAll (vs := n.vals) (s_ok rfl) rfl rfl (node_one n) (at_alloc_new w2 _) rfl) wnt_none ?_
    have hn3 := at_setB (cel n.vals 90) (at_alloc_new w2 (cel [I 0, I 0, I 0, I 0, I 0, I 0, I 0] 90))
    have f3 : Frm0 w2 (setB (w2.alloc (cel [I 0, I 0, I 0, I 0, I 0, I 0, I 0] 90)) w2.heap.size (cel n.vals 90)) := (Frm.of_alloc w2 _).setB (.inr (Nat.le_refl _)) _
    generalize setB (w2.alloc (cel [I 0, I 0, I 0, I 0, I 0, I 0, I 0] 90)) w2.heap.size (cel n.vals 90) = w3 at *
    have F3 := F2.trans0 f3
    have hp3 := f3.at0 hp2
    have ho3 := f3.at0 ho2
    have hR3 := hR.frm0 F3
    have hh3 := hR3.head
    have hrow3 := hR3.row
    refine runWLaw60 ?_
    refine s_callf (At_ret hR3 (by omega) _) rfl wnt_none ?_
    rintro v w4 ⟨rfl, rfl⟩
    rw [hat]
    refine runWLaw60 ?_
    refine w_drawn ((0, false) :: (1, false) :: (2, false) :: (3, false) :: (4, false) :: (5, false) :: (6, false) :: (7, false) :: (8, false) :: (9, false) :: (10, false) :: (11, false) :: (12, false) :: (13, false) :: []) [] (fun wq => Frm0 w3 wq) mixed (by kernel_rfl) ?_ ?_
    · exact Frm.of_drew _
    · refine runWLaw60 ?_
      refine x_q rfl (fun wq hq => r_loadV (vs := n.vals) (u_ok rfl) rfl (s_ok rfl) rfl (hq.at0 hrow3) (by omega) (by rw [show 0 + (j : Int).toNat * 7 = j * 7 by omega]; exact flat_sub x.l j n hj rrest)) (by (first | (with_reducible exact wnt_none) | ((with_reducible apply wnt_y); exact rfl; exact rfl; exact rfl; exact rfl; (with_reducible exact rfl)))) ?_
      refine x_q rfl (fun wq hq => r_eq_node (n := n) rfl rfl) (by (first | (with_reducible exact wnt_none) | ((with_reducible apply wnt_y); exact rfl; exact rfl; exact rfl; exact rfl; (with_reducible exact rfl)))) ?_
      refine runWLaw60 ?_
      exact ret_b rfl rfl ⟨rfl, h.step0 sp F3.drew⟩
  | false =>
    obtain ⟨hat, hfnd⟩ := there_not hth
    have hfv : findV x.l o.b = .tuple [.agg root0.vals.toArray, B false].toArray := by rw [findV, hfnd]
    rw [hfv]
    refine runWLaw60 ?_
    refine s_skip (r_storeAll (vs := root0.vals) (s_ok rfl) rfl rfl (node_one root0) (at_alloc_new w2 _) rfl) wnt_none ?_
    have hn3 := at_setB (cel root0.vals 90) (at_alloc_new w2 (cel [I 0, I 0, I 0, I 0, I 0, I 0, I 0] 90))
    have f3 : Frm0 w2 (setB (w2.alloc (cel [I 0, I 0, I 0, I 0, I 0, I 0, I 0] 90)) w2.heap.size (cel root0.vals 90)) := (Frm.of_alloc w2 _).setB (.inr (Nat.le_refl _)) _
    generalize setB (w2.alloc (cel [I 0, I 0, I 0, I 0, I 0, I 0, I 0] 90)) w2.heap.size (cel root0.vals 90) = w3 at *
    have F3 := F2.trans0 f3
    have hp3 := f3.at0 hp2
    have ho3 := f3.at0 ho2
    refine runWLaw60 ?_
    refine s_callf (At_ret (hR.frm0 F3) (by omega) _) rfl wnt_none ?_
    rintro v w4 ⟨rfl, rfl⟩
    rw [hat]
    refine runWLaw60 ?_
    refine s_val (r_build rfl (bld_node0 _)) (by (first | (with_reducible exact wnt_none) | ((with_reducible apply wnt_y); exact rfl; exact rfl; exact rfl; exact rfl; (with_reducible exact rfl)))) ?_
    refine s_val (r_eq_node (n := root0) rfl rfl) (by (first | (with_reducible exact wnt_none) | ((with_reducible apply wnt_y); exact rfl; exact rfl; exact rfl; exact rfl; (with_reducible exact rfl)))) ?_
    refine runWLaw60 ?_
    exact ret_b rfl rfl ⟨rfl, h.step0 sp F3⟩

set_option maxHeartbeats 2000000 in
theorem one_len (sp : TreeSpec PT) {w : World} {wp : Nat} {tsv : Value} {tail : List Value} {ts : List TP} {col : Nat → Nat} {i : Nat} {x : TP} {o : OpR}
    (h : TI PT w wp tsv tail ts col) (hx : ts[i]? = some x) (hk : o.kind = 4) :
    Rets Tryz.prog 60 [Ptr wp, .agg [Ptr x.t, Ptr x.r].toArray, OpV o] w fun v w' => v = B true ∧ TStep PT w w' wp tsv col tail ts.length := by
  obtain ⟨hpt, ⟨rb, rcap, rrest, hR, cr, cb⟩, hW⟩ := h.each i x hx
  refine rets_of Tryz.func60 (by kernel_rfl) rfl Tryz.ntmps60 (Nat.le_of_ble_eq_true rfl) ?_
  refine runWLaw60 ?_
  have f1 : Frm0 w ((w.alloc (cel [Ptr x.t, Ptr x.r] 131)).alloc (cel o.vals 81)) := ((Frm.refl _ w).alloc _).alloc _
  have hp1 : At ((w.alloc (cel [Ptr x.t, Ptr x.r] 131)).alloc (cel o.vals 81)) w.heap.size (cel [Ptr x.t, Ptr x.r] 131) := at_alloc _ (at_alloc_new _ _)
  have ho1 : At ((w.alloc (cel [Ptr x.t, Ptr x.r] 131)).alloc (cel o.vals 81)) (w.heap.size + 1) (cel o.vals 81) := by
    have := at_alloc_new (w.alloc (cel [Ptr x.t, Ptr x.r] 131)) (cel o.vals 81)
    rw [World.size_alloc] at this
    exact this
  rw [show (w.alloc (cel [Ptr x.t, Ptr x.r] 131)).heap.size = w.heap.size + 1 from World.size_alloc _ _]
  generalize (w.alloc (cel [Ptr x.t, Ptr x.r] 131)).alloc (cel o.vals 81) = w1 at *
  refine runWLaw60 ?_
  refine s_callf (sp.len (sp.frm hpt f1 (fun _ _ h => h))) rfl wnt_none ?_
  rintro v w2 ⟨rfl, f2⟩
  have F2 : Frm0 w w2 := f1.trans0 f2
  have hp2 := f2.at0 hp1
  have hh2 := (hR.frm0 F2).head
  refine runWLaw60 ?_
  exact ret_b rfl rfl ⟨rfl, h.step0 sp F2⟩
end
end Go.Proofs.YtbicffldggcdhaaGreatDoor
