/-
  WK3; WQ22; WQ15; WQ16; WQ17; WQ11; WQ12.
-/
import Derived.Test.YtbicffldggcdhaaGreatDoorB07
import Derived.Test.YtbicffldggcdhaaGreatDoorB02
import Derived.Test.YtbicffldggcdhaaGreatDoorB05
import Derived.Test.YtbicffldggcdhaaGreatDoorB03
namespace Go.Proofs.YtbicffldggcdhaaGreatDoor
open Go
theorem runG08 {G K : Prop} (k : K) (h : Wrap K → G := by intro h; (repeat (first | (with_reducible first | refine wpIn_seq ?_ | refine w_reg ?_ | refine s_nil ?_ | refine s_nilQ ?_ | refine wpIn_block ?_ | refine q_then ?_ | refine q_blk ?_ | refine q_then_ret ?_ | refine q_blk_ret ?_ | refine q_then_exit ?_ | refine q_blk_exit ?_ | refine wpIn_skip ?_ | refine wpIn_ret ?_ | refine wpIn_exit ?_ | refine y_nil ?_ | refine y_nilQ ?_ | refine x_late ?_) | ((with_reducible refine q_blk_other ?_ ?_); exact rfl) | ((with_reducible apply c_true); exact rfl; (with_reducible exact rfl)) | ((with_reducible apply c_false); exact rfl; (with_reducible exact rfl)) | ((with_reducible apply s_no); (first | ((with_reducible apply wnt_nt); exact rfl; exact rfl; exact rfl; exact rfl; (with_reducible exact rfl)) | ((with_reducible apply wnt_nf); exact rfl; exact rfl; exact rfl; exact rfl; (with_reducible exact rfl)))) | ((with_reducible apply x_qno); exact rfl; (first | ((with_reducible apply wnt_nt); exact rfl; exact rfl; exact rfl; exact rfl; (with_reducible exact rfl)) | ((with_reducible apply wnt_nf); exact rfl; exact rfl; exact rfl; exact rfl; (with_reducible exact rfl)))) | ((first | with_reducible apply s_val | ((with_reducible apply y_val); exact rfl) | ((with_reducible apply x_q); exact rfl; intro wq hq)); (first | ((with_reducible apply r_boxA); exact rfl) | ((with_reducible apply r_box1); exact rfl; exact rfl) | ((with_reducible apply r_assign_b); exact rfl) | ((with_reducible apply r_assign_i); exact rfl) | ((with_reducible apply r_move_i); exact rfl) | ((with_reducible apply r_lss_t); exact rfl; exact rfl; omega) | ((with_reducible apply r_lss_f); exact rfl; exact rfl; omega) | ((with_reducible apply r_lss); exact rfl; exact rfl) | ((with_reducible apply r_move_p); exact rfl) | ((with_reducible apply r_move_t); exact rfl) | ((with_reducible apply r_extract); exact rfl; exact rfl) | ((with_reducible apply r_allocA); exact z_ok rfl) | ((with_reducible apply r_alloc1); exact z_ok rfl; exact rfl) | ((with_reducible apply r_fld); exact fa_ok rfl; exact rfl) | ((with_reducible apply r_neq_t); exact rfl; exact rfl; omega) | ((with_reducible apply r_neq_f); exact rfl; exact rfl; omega) | ((with_reducible apply r_neq); exact rfl; exact rfl) | ((with_reducible apply r_move_b); exact rfl) | ((with_reducible apply r_loadA); exact u_ok rfl; exact rfl; exact s_ok rfl; exact rfl; (first | exact Frm.at0 hq (by assumption) | exact Frm.at hq (by assumption) (by assumption) | (first | (with_reducible assumption) | assumption | exact at_alloc_new _ _ | (repeat (first | assumption | exact at_alloc_new _ _ | refine at_drew ?_ | refine at_alloc _ ?_)))); exact Nat.le_of_ble_eq_true rfl) | ((with_reducible apply r_pick_t); exact rfl; (with_reducible exact rfl); exact rfl) | ((with_reducible apply r_pick_f); exact rfl; (with_reducible exact rfl); exact rfl) | ((with_reducible apply r_eql_t); exact rfl; exact rfl; omega) | ((with_reducible apply r_eql_f); exact rfl; exact rfl; omega) | ((with_reducible apply r_eql); exact rfl; exact rfl) | ((with_reducible apply r_not_t); exact rfl; (with_reducible exact rfl)) | ((with_reducible apply r_not_f); exact rfl; (with_reducible exact rfl)) | ((with_reducible apply r_not); exact rfl) | ((with_reducible apply r_index); exact u_ok rfl; exact s_ok rfl; exact rfl; exact rfl; omega; omega) | ((with_reducible apply r_indexarr); exact u_ok rfl; exact s_ok rfl; exact rfl; exact rfl; omega; omega) | ((with_reducible apply r_add); exact rfl; exact rfl; omega; omega) | ((with_reducible apply r_assign_if); exact rfl) | ((with_reducible apply r_assign_ni); exact rfl) | ((with_reducible apply r_nilCheck); exact rfl) | ((with_reducible apply r_load); exact u_ok rfl; exact rfl; exact rfl; (first | exact Frm.at0 hq (by assumption) | exact Frm.at hq (by assumption) (by assumption) | (first | (with_reducible assumption) | assumption | exact at_alloc_new _ _ | (repeat (first | assumption | exact at_alloc_new _ _ | refine at_drew ?_ | refine at_alloc _ ?_)))); (first | exact mid_get rfl | exact mid_get2 rfl | exact mid_get0 rfl | exact rfl)) | ((with_reducible apply r_gtr_t); exact rfl; exact rfl; omega) | ((with_reducible apply r_gtr_f); exact rfl; exact rfl; omega) | ((with_reducible apply r_gtr); exact rfl; exact rfl) | ((with_reducible apply r_move_f); exact rfl) | ((with_reducible apply r_move_s); exact rfl) | ((with_reducible apply r_sub); exact rfl; exact rfl; omega; omega) | ((with_reducible apply r_leq_t); exact rfl; exact rfl; omega) | ((with_reducible apply r_leq_f); exact rfl; exact rfl; omega) | ((with_reducible apply r_leq); exact rfl; exact rfl) | ((with_reducible apply r_geq_t); exact rfl; exact rfl; omega) | ((with_reducible apply r_geq_f); exact rfl; exact rfl; omega) | ((with_reducible apply r_geq); exact rfl; exact rfl) | ((with_reducible apply r_len); exact u_ok rfl; exact rfl) | ((with_reducible apply r_assign_s); exact rfl) | ((with_reducible apply r_ifaceP); exact rfl; exact u_ok rfl) | ((with_reducible apply r_ifaceA); exact rfl; exact u_ok rfl)); (first | (with_reducible exact wnt_none) | ((with_reducible apply wnt_y); exact rfl; exact rfl; exact rfl; exact rfl; (with_reducible exact rfl)))))); exact h.out) : G := h ⟨k⟩

/-- The rows of did's round behind both looks: what is asked of them. -/
theorem set_pk (x : Nd) (a b : Int) : (x.vals.set (0 + 1) (I a)).set (0 + 2) (I b) = ({ x with par := a, key := b } : Nd).vals := rfl
set_option maxRecDepth 4000 in
set_option maxHeartbeats 2000000 in
theorem kdidCreate {PT : PTy} (sp : TreeSpec PT) {w : World} {t c : Nat} {l m : List Nd} {S T : Nat → Prop} {e : Ed} (hP : PT w t m S) (hC : PT w c l T) (hl : Wf l) (hm : Wf m) (hma : m = applyL l e) (hz : refused l e = 0) (k : e.kind = 1) :
    Rets Tryz.prog 21 [Ptr t, Ptr c, EdV e] w fun v w' => v = B true ∧ Frm0 w w' := by
  have f0 : Frm0 w (w.alloc (cel e.vals 31)) := Frm.of_alloc _ _
  have he0 := at_alloc_new w (cel e.vals 31)
  refine rets_of Tryz.func21 (by kernel_rfl) rfl Tryz.ntmps21 (Nat.le_of_ble_eq_true rfl) ?_
  refine runG08 ?_
  generalize w.alloc (cel e.vals 31) = w1 at *
  refine lp (fun env w' => Frm0 w1 w' ∧ ∃ env0, ∃ i : Nat, env = setL env0 [(0, Ptr t), (1, Ptr c), (5, Ptr w.heap.size), (7, I i)] ∧ i ≤ 40) (fun env _ => 40 - cnt (env 7)) ?_ ?_
  · exact ⟨Frm.refl _ _, _, 0, fixL ⟨rfl, rfl, rfl, rfl, trivial⟩, by omega⟩
  · rintro env w' ⟨hf, env0, i, rfl, hi⟩
    have hfw := f0.trans0 hf
    have he := hf.at0 he0
    by_cases hlt : i < 40
    · refine runG08 ?_
      refine s_callf (sp.find i (sp.frm hP hfw (fun _ _ h => h)) hm) rfl wnt_none ?_
      rintro v w2 ⟨rfl, f2⟩
      rw [findV_fx]
      refine runG08 ?_
      refine s_skip (r_storeAll (vs := (fx m i).vals) (s_ok rfl) rfl rfl (node_one _) (at_alloc_new w2 _) rfl) wnt_none ?_
      have hx3 := at_setB (cel (fx m i).vals 90) (at_alloc_new w2 (cel [I 0, I 0, I 0, I 0, I 0, I 0, I 0] 90))
      have f3 : Frm0 w' (setB (w2.alloc (cel [I 0, I 0, I 0, I 0, I 0, I 0, I 0] 90)) w2.heap.size (cel (fx m i).vals 90)) := (f2.alloc _).setB (.inr f2.size) _
      generalize setB (w2.alloc (cel [I 0, I 0, I 0, I 0, I 0, I 0, I 0] 90)) w2.heap.size (cel (fx m i).vals 90) = w3 at *
      refine runG08 ?_
      refine s_callf (sp.find i (sp.frm hC (hfw.trans0 f3) (fun _ _ h => h)) hl) rfl wnt_none ?_
      rintro v w4 ⟨rfl, f4⟩
      rw [findV_fx]
      refine runG08 ?_
      refine s_skip (r_storeAll (vs := (fx l i).vals) (s_ok rfl) rfl rfl (node_one _) (at_alloc_new w4 _) rfl) wnt_none ?_
      have hy5 := at_setB (cel (fx l i).vals 90) (at_alloc_new w4 (cel [I 0, I 0, I 0, I 0, I 0, I 0, I 0] 90))
      have f5 : Frm0 w3 (setB (w4.alloc (cel [I 0, I 0, I 0, I 0, I 0, I 0, I 0] 90)) w4.heap.size (cel (fx l i).vals 90)) := (f4.alloc _).setB (.inr f4.size) _
      have hx5 := f5.at0 hx3
      have hz34 : w3.heap.size ≤ w4.heap.size := f4.size
      have hx34 := at_lt hx3
      generalize setB (w4.alloc (cel [I 0, I 0, I 0, I 0, I 0, I 0, I 0] 90)) w4.heap.size (cel (fx l i).vals 90) = w5 at *
      have he5 := f5.at0 (f3.at0 he)
      have F5 := hf.trans0 (f3.trans0 f5)
      have hPl := sp.frm hC (hfw.trans0 (f3.trans0 f5)) (fun _ _ h => h)
      generalize w2.heap.size = xb at *
      by_cases hne : (i : Int) = e.node
      · obtain ⟨h1, h2, _⟩ := did_create hz k
        rw [← hma] at h2
        rw [← hne] at h1 h2
        rw [show fx m i = ⟨i, e.parent, e.key, 0, 0, 0, 0⟩ by rw [fx, h2]; rfl] at *
        rw [show fk m i = true by rw [fk, h2]; rfl, show fk l i = false by rw [fk, h1]; rfl]
        refine runG08 ?_
        refine s_val (r_build rfl (bld_node _ _ _ _)) (by (first | (with_reducible exact wnt_none) | ((with_reducible apply wnt_y); exact rfl; exact rfl; exact rfl; exact rfl; (with_reducible exact rfl)))) ?_
        refine s_val (r_ne_node (n := ⟨e.node, e.parent, e.key, 0, 0, 0, 0⟩) (by rw [← hne]; rfl) rfl) (by (first | (with_reducible exact wnt_none) | ((with_reducible apply wnt_y); exact rfl; exact rfl; exact rfl; exact rfl; (with_reducible exact rfl)))) ?_
        refine runG08 ?_
        exact ⟨_, rfl, ⟨F5, _, i + 1, fixL ⟨rfl, rfl, rfl, rfl, trivial⟩, by omega⟩, by show 40 - ((i : Int) + 1).toNat < 40 - (i : Int).toNat; omega⟩
      · have h1 : fnd (i : Int) m = fnd i l := by rw [hma]; exact (did_create hz k).2.2 i hne
        rw [show fk m i = fk l i by rw [fk, fk, h1]]
        rw [show fx m i = fx l i by rw [fx, fx, h1]] at *
        refine runG08 ?_
        refine s_val (r_ne_bool (a := fk l i) (b := fk l i) (c := false) rfl rfl (by simp)) (by (first | (with_reducible exact wnt_none) | ((with_reducible apply wnt_y); exact rfl; exact rfl; exact rfl; exact rfl; (with_reducible exact rfl)))) ?_
        refine runG08 ?_
        refine s_val (r_ne_node (n := fx l i) rfl rfl) (by (first | (with_reducible exact wnt_none) | ((with_reducible apply wnt_y); exact rfl; exact rfl; exact rfl; exact rfl; (with_reducible exact rfl)))) ?_
        cases hk9 : fk l i
        · refine runG08 ?_
          repeat (refine s_no (wnt_nu rfl rfl rfl rfl) ?_)
          refine runG08 ?_
          exact ⟨_, rfl, ⟨F5, _, i + 1, fixL ⟨rfl, rfl, rfl, rfl, trivial⟩, by omega⟩, by show 40 - ((i : Int) + 1).toNat < 40 - (i : Int).toNat; omega⟩
        · refine runG08 ?_
          repeat (refine s_no (wnt_nu rfl rfl rfl rfl) ?_)
          refine runG08 ?_
          refine s_val (r_ne_node (n := fx l i) rfl rfl) (by (first | (with_reducible exact wnt_none) | ((with_reducible apply wnt_y); exact rfl; exact rfl; exact rfl; exact rfl; (with_reducible exact rfl)))) ?_
          refine runG08 ?_
          exact ⟨_, rfl, ⟨F5, _, i + 1, fixL ⟨rfl, rfl, rfl, rfl, trivial⟩, by omega⟩, by show 40 - ((i : Int) + 1).toNat < 40 - (i : Int).toNat; omega⟩
    · refine runG08 ?_
      exact ret_b rfl rfl ⟨rfl, hfw⟩
set_option maxRecDepth 4000 in
set_option maxHeartbeats 2000000 in
theorem kdidMove {PT : PTy} (sp : TreeSpec PT) {w : World} {t c : Nat} {l m : List Nd} {S T : Nat → Prop} {e : Ed} (hP : PT w t m S) (hC : PT w c l T) (hl : Wf l) (hm : Wf m) (hma : m = applyL l e) (hz : refused l e = 0) (k : e.kind = 2) :
    Rets Tryz.prog 21 [Ptr t, Ptr c, EdV e] w fun v w' => v = B true ∧ Frm0 w w' := by
  have f0 : Frm0 w (w.alloc (cel e.vals 31)) := Frm.of_alloc _ _
  have he0 := at_alloc_new w (cel e.vals 31)
  refine rets_of Tryz.func21 (by kernel_rfl) rfl Tryz.ntmps21 (Nat.le_of_ble_eq_true rfl) ?_
  refine runG08 ?_
  generalize w.alloc (cel e.vals 31) = w1 at *
  refine lp (fun env w' => Frm0 w1 w' ∧ ∃ env0, ∃ i : Nat, env = setL env0 [(0, Ptr t), (1, Ptr c), (5, Ptr w.heap.size), (7, I i)] ∧ i ≤ 40) (fun env _ => 40 - cnt (env 7)) ?_ ?_
  · exact ⟨Frm.refl _ _, _, 0, fixL ⟨rfl, rfl, rfl, rfl, trivial⟩, by omega⟩
  · rintro env w' ⟨hf, env0, i, rfl, hi⟩
    have hfw := f0.trans0 hf
    have he := hf.at0 he0
    by_cases hlt : i < 40
    · refine runG08 ?_
      refine s_callf (sp.find i (sp.frm hP hfw (fun _ _ h => h)) hm) rfl wnt_none ?_
      rintro v w2 ⟨rfl, f2⟩
      rw [findV_fx]
      refine runG08 ?_
      refine s_skip (r_storeAll (vs := (fx m i).vals) (s_ok rfl) rfl rfl (node_one _) (at_alloc_new w2 _) rfl) wnt_none ?_
      have hx3 := at_setB (cel (fx m i).vals 90) (at_alloc_new w2 (cel [I 0, I 0, I 0, I 0, I 0, I 0, I 0] 90))
      have f3 : Frm0 w' (setB (w2.alloc (cel [I 0, I 0, I 0, I 0, I 0, I 0, I 0] 90)) w2.heap.size (cel (fx m i).vals 90)) := (f2.alloc _).setB (.inr f2.size) _
      generalize setB (w2.alloc (cel [I 0, I 0, I 0, I 0, I 0, I 0, I 0] 90)) w2.heap.size (cel (fx m i).vals 90) = w3 at *
      refine runG08 ?_
      refine s_callf (sp.find i (sp.frm hC (hfw.trans0 f3) (fun _ _ h => h)) hl) rfl wnt_none ?_
      rintro v w4 ⟨rfl, f4⟩
      rw [findV_fx]
      refine runG08 ?_
      refine s_skip (r_storeAll (vs := (fx l i).vals) (s_ok rfl) rfl rfl (node_one _) (at_alloc_new w4 _) rfl) wnt_none ?_
      have hy5 := at_setB (cel (fx l i).vals 90) (at_alloc_new w4 (cel [I 0, I 0, I 0, I 0, I 0, I 0, I 0] 90))
      have f5 : Frm0 w3 (setB (w4.alloc (cel [I 0, I 0, I 0, I 0, I 0, I 0, I 0] 90)) w4.heap.size (cel (fx l i).vals 90)) := (f4.alloc _).setB (.inr f4.size) _
      have hx5 := f5.at0 hx3
      have hz34 : w3.heap.size ≤ w4.heap.size := f4.size
      have hx34 := at_lt hx3
      generalize setB (w4.alloc (cel [I 0, I 0, I 0, I 0, I 0, I 0, I 0] 90)) w4.heap.size (cel (fx l i).vals 90) = w5 at *
      have he5 := f5.at0 (f3.at0 he)
      have F5 := hf.trans0 (f3.trans0 f5)
      have hPl := sp.frm hC (hfw.trans0 (f3.trans0 f5)) (fun _ _ h => h)
      generalize w2.heap.size = xb at *
      by_cases hne : (i : Int) = e.node
      · obtain ⟨y, h1, h2, _⟩ := did_move hz k
        rw [← hma] at h2
        rw [← hne] at h1 h2
        rw [show fx m i = { y with par := e.parent, key := e.key } by rw [fx, h2]; rfl, show fx l i = y by rw [fx, h1]; rfl] at *
        rw [show fk m i = true by rw [fk, h2]; rfl, show fk l i = true by rw [fk, h1]; rfl]
        refine runG08 ?_
        refine s_skip (r_store_i (s_ok rfl) rfl rfl hy5 (by simp [Nd.vals])) wnt_none ?_
        have hy6 := at_setB (cel (y.vals.set (0 + 1) (I e.parent)) 90) hy5
        have f6 : Frm0 w3 (setB w5 w4.heap.size (cel (y.vals.set (0 + 1) (I e.parent)) 90)) := f5.setB (.inr hz34) _
        have hx6 := at_setB_ne (cel (y.vals.set (0 + 1) (I e.parent)) 90) (show w4.heap.size ≠ xb by omega) hx5
        generalize setB w5 w4.heap.size (cel (y.vals.set (0 + 1) (I e.parent)) 90) = w6 at *
        have he6 := f6.at0 (f3.at0 he)
        refine runG08 ?_
        refine s_skip (r_store_i (s_ok rfl) rfl rfl hy6 (by simp [Nd.vals])) wnt_none ?_
        rw [set_pk]
        have hy7 := at_setB (cel ({ y with par := e.parent, key := e.key } : Nd).vals 90) hy6
        have f7 : Frm0 w3 (setB w6 w4.heap.size (cel ({ y with par := e.parent, key := e.key } : Nd).vals 90)) := f6.setB (.inr hz34) _
        have hx7 := at_setB_ne (cel ({ y with par := e.parent, key := e.key } : Nd).vals 90) (show w4.heap.size ≠ xb by omega) hx6
        generalize setB w6 w4.heap.size (cel ({ y with par := e.parent, key := e.key } : Nd).vals 90) = w7 at *
        refine runG08 ?_
        refine s_val (r_ne_node (n := { y with par := e.parent, key := e.key }) rfl rfl) (by (first | (with_reducible exact wnt_none) | ((with_reducible apply wnt_y); exact rfl; exact rfl; exact rfl; exact rfl; (with_reducible exact rfl)))) ?_
        refine runG08 ?_
        exact ⟨_, rfl, ⟨hf.trans0 (f3.trans0 f7), _, i + 1, fixL ⟨rfl, rfl, rfl, rfl, trivial⟩, by omega⟩, by show 40 - ((i : Int) + 1).toNat < 40 - (i : Int).toNat; omega⟩
      · have h1 : fnd (i : Int) m = fnd i l := by rw [hma]; exact (did_move hz k).elim fun y h => h.2.2 i hne
        rw [show fk m i = fk l i by rw [fk, fk, h1]]
        rw [show fx m i = fx l i by rw [fx, fx, h1]] at *
        refine runG08 ?_
        refine s_val (r_ne_bool (a := fk l i) (b := fk l i) (c := false) rfl rfl (by simp)) (by (first | (with_reducible exact wnt_none) | ((with_reducible apply wnt_y); exact rfl; exact rfl; exact rfl; exact rfl; (with_reducible exact rfl)))) ?_
        refine runG08 ?_
        refine s_val (r_ne_node (n := fx l i) rfl rfl) (by (first | (with_reducible exact wnt_none) | ((with_reducible apply wnt_y); exact rfl; exact rfl; exact rfl; exact rfl; (with_reducible exact rfl)))) ?_
        cases hk9 : fk l i
        · refine runG08 ?_
          repeat (refine s_no (wnt_nu rfl rfl rfl rfl) ?_)
          refine runG08 ?_
          exact ⟨_, rfl, ⟨F5, _, i + 1, fixL ⟨rfl, rfl, rfl, rfl, trivial⟩, by omega⟩, by show 40 - ((i : Int) + 1).toNat < 40 - (i : Int).toNat; omega⟩
        · refine runG08 ?_
          repeat (refine s_no (wnt_nu rfl rfl rfl rfl) ?_)
          refine runG08 ?_
          refine s_val (r_ne_node (n := fx l i) rfl rfl) (by (first | (with_reducible exact wnt_none) | ((with_reducible apply wnt_y); exact rfl; exact rfl; exact rfl; exact rfl; (with_reducible exact rfl)))) ?_
          refine runG08 ?_
          exact ⟨_, rfl, ⟨F5, _, i + 1, fixL ⟨rfl, rfl, rfl, rfl, trivial⟩, by omega⟩, by show 40 - ((i : Int) + 1).toNat < 40 - (i : Int).toNat; omega⟩
    · refine runG08 ?_
      exact ret_b rfl rfl ⟨rfl, hfw⟩
set_option maxRecDepth 4000 in
set_option maxHeartbeats 2000000 in
theorem kdidDelete {PT : PTy} (sp : TreeSpec PT) {w : World} {t c : Nat} {l m : List Nd} {S T : Nat → Prop} {e : Ed} (hP : PT w t m S) (hC : PT w c l T) (hl : Wf l) (hm : Wf m) (hma : m = applyL l e) (hz : refused l e = 0) (k : e.kind = 3) :
    Rets Tryz.prog 21 [Ptr t, Ptr c, EdV e] w fun v w' => v = B true ∧ Frm0 w w' := by
  have f0 : Frm0 w (w.alloc (cel e.vals 31)) := Frm.of_alloc _ _
  have he0 := at_alloc_new w (cel e.vals 31)
  refine rets_of Tryz.func21 (by kernel_rfl) rfl Tryz.ntmps21 (Nat.le_of_ble_eq_true rfl) ?_
  refine runG08 ?_
  generalize w.alloc (cel e.vals 31) = w1 at *
  refine lp (fun env w' => Frm0 w1 w' ∧ ∃ env0, ∃ i : Nat, env = setL env0 [(0, Ptr t), (1, Ptr c), (5, Ptr w.heap.size), (7, I i)] ∧ i ≤ 40) (fun env _ => 40 - cnt (env 7)) ?_ ?_
  · exact ⟨Frm.refl _ _, _, 0, fixL ⟨rfl, rfl, rfl, rfl, trivial⟩, by omega⟩
  · rintro env w' ⟨hf, env0, i, rfl, hi⟩
    have hfw := f0.trans0 hf
    have he := hf.at0 he0
    by_cases hlt : i < 40
    · refine runG08 ?_
      refine s_callf (sp.find i (sp.frm hP hfw (fun _ _ h => h)) hm) rfl wnt_none ?_
      rintro v w2 ⟨rfl, f2⟩
      rw [findV_fx]
      refine runG08 ?_
      refine s_skip (r_storeAll (vs := (fx m i).vals) (s_ok rfl) rfl rfl (node_one _) (at_alloc_new w2 _) rfl) wnt_none ?_
      have hx3 := at_setB (cel (fx m i).vals 90) (at_alloc_new w2 (cel [I 0, I 0, I 0, I 0, I 0, I 0, I 0] 90))
      have f3 : Frm0 w' (setB (w2.alloc (cel [I 0, I 0, I 0, I 0, I 0, I 0, I 0] 90)) w2.heap.size (cel (fx m i).vals 90)) := (f2.alloc _).setB (.inr f2.size) _
      generalize setB (w2.alloc (cel [I 0, I 0, I 0, I 0, I 0, I 0, I 0] 90)) w2.heap.size (cel (fx m i).vals 90) = w3 at *
      refine runG08 ?_
      refine s_callf (sp.find i (sp.frm hC (hfw.trans0 f3) (fun _ _ h => h)) hl) rfl wnt_none ?_
      rintro v w4 ⟨rfl, f4⟩
      rw [findV_fx]
      refine runG08 ?_
      refine s_skip (r_storeAll (vs := (fx l i).vals) (s_ok rfl) rfl rfl (node_one _) (at_alloc_new w4 _) rfl) wnt_none ?_
      have hy5 := at_setB (cel (fx l i).vals 90) (at_alloc_new w4 (cel [I 0, I 0, I 0, I 0, I 0, I 0, I 0] 90))
      have f5 : Frm0 w3 (setB (w4.alloc (cel [I 0, I 0, I 0, I 0, I 0, I 0, I 0] 90)) w4.heap.size (cel (fx l i).vals 90)) := (f4.alloc _).setB (.inr f4.size) _
      have hx5 := f5.at0 hx3
      have hz34 : w3.heap.size ≤ w4.heap.size := f4.size
      have hx34 := at_lt hx3
      generalize setB (w4.alloc (cel [I 0, I 0, I 0, I 0, I 0, I 0, I 0] 90)) w4.heap.size (cel (fx l i).vals 90) = w5 at *
      have he5 := f5.at0 (f3.at0 he)
      have F5 := hf.trans0 (f3.trans0 f5)
      have hPl := sp.frm hC (hfw.trans0 (f3.trans0 f5)) (fun _ _ h => h)
      generalize w2.heap.size = xb at *
      by_cases hne : (i : Int) = e.node
      · obtain ⟨⟨y, h1⟩, h2, _⟩ := did_delete hl hz k
        rw [← hma] at h2
        rw [← hne] at h1 h2
        rw [show fk m i = false by rw [fk, h2]; rfl, show fk l i = true by rw [fk, h1]; rfl]
        refine runG08 ?_
        exact ⟨_, rfl, ⟨F5, _, i + 1, fixL ⟨rfl, rfl, rfl, rfl, trivial⟩, by omega⟩, by show 40 - ((i : Int) + 1).toNat < 40 - (i : Int).toNat; omega⟩
      · obtain ⟨_, _, h2⟩ := did_delete hl hz k
        have h2i := h2 i
        rw [← hma] at h2i
        cases h1 : fnd (i : Int) l with
        | none =>
          have h3 : fnd (i : Int) m = none := by rw [h2i, h1]; split <;> rfl
          rw [show fk m i = false by rw [fk, h3]; rfl, show fk l i = false by rw [fk, h1]; rfl]
          refine runG08 ?_
          refine s_no (wnt_nu rfl rfl rfl rfl) ?_
          refine s_no (wnt_nu rfl rfl rfl rfl) ?_
          refine s_no (wnt_nu rfl rfl rfl rfl) ?_
          refine runG08 ?_
          refine s_val (r_ne_bool (a := false) (b := false) (c := false) rfl rfl rfl) (by (first | (with_reducible exact wnt_none) | ((with_reducible apply wnt_y); exact rfl; exact rfl; exact rfl; exact rfl; (with_reducible exact rfl)))) ?_
          refine runG08 ?_
          exact ⟨_, rfl, ⟨F5, _, i + 1, fixL ⟨rfl, rfl, rfl, rfl, trivial⟩, by omega⟩, by show 40 - ((i : Int) + 1).toNat < 40 - (i : Int).toNat; omega⟩
        | some y =>
          have hun := undF_below hl (fnd_there.2 ⟨y, h1⟩) hne
          rw [show fk l i = true by rw [fk, h1]; rfl]
          cases hb : below l i e.node
          · have h3 : fnd (i : Int) m = some y := by rw [h2i, if_neg (by simp [hb]), h1]
            rw [show fk m i = true by rw [fk, h3]; rfl]
            rw [show fx m i = y by rw [fx, h3]; rfl, show fx l i = y by rw [fx, h1]; rfl] at *
            refine runG08 ?_
            refine s_no (wnt_nu rfl rfl rfl rfl) ?_
            refine s_no (wnt_nu rfl rfl rfl rfl) ?_
            refine s_no (wnt_nu rfl rfl rfl rfl) ?_
            refine runG08 ?_
            refine s_callf (kunder_ret sp hPl hl i e.node) rfl (by (first | (with_reducible exact wnt_none) | ((with_reducible apply wnt_y); exact rfl; exact rfl; exact rfl; exact rfl; (with_reducible exact rfl)))) ?_
            rintro v w6 ⟨rfl, f6⟩
            rw [hun, hb]
            have hx6 := f6.at0 hx5
            have hy6 := f6.at0 hy5
            refine runG08 ?_
            refine s_val (r_ne_bool (a := true) (b := true) (c := false) rfl rfl rfl) (by (first | (with_reducible exact wnt_none) | ((with_reducible apply wnt_y); exact rfl; exact rfl; exact rfl; exact rfl; (with_reducible exact rfl)))) ?_
            refine runG08 ?_
            refine s_val (r_ne_node (n := y) rfl rfl) (by (first | (with_reducible exact wnt_none) | ((with_reducible apply wnt_y); exact rfl; exact rfl; exact rfl; exact rfl; (with_reducible exact rfl)))) ?_
            refine runG08 ?_
            exact ⟨_, rfl, ⟨F5.trans0 f6, _, i + 1, fixL ⟨rfl, rfl, rfl, rfl, trivial⟩, by omega⟩, by show 40 - ((i : Int) + 1).toNat < 40 - (i : Int).toNat; omega⟩
          · have h3 : fnd (i : Int) m = none := by rw [h2i, if_pos hb]
            rw [show fk m i = false by rw [fk, h3]; rfl]
            refine runG08 ?_
            refine s_no (wnt_nu rfl rfl rfl rfl) ?_
            refine s_no (wnt_nu rfl rfl rfl rfl) ?_
            refine s_no (wnt_nu rfl rfl rfl rfl) ?_
            refine runG08 ?_
            refine s_callf (kunder_ret sp hPl hl i e.node) rfl (by (first | (with_reducible exact wnt_none) | ((with_reducible apply wnt_y); exact rfl; exact rfl; exact rfl; exact rfl; (with_reducible exact rfl)))) ?_
            rintro v w6 ⟨rfl, f6⟩
            rw [hun, hb]
            refine runG08 ?_
            refine s_val (r_ne_bool (a := false) (b := false) (c := false) rfl rfl rfl) (by (first | (with_reducible exact wnt_none) | ((with_reducible apply wnt_y); exact rfl; exact rfl; exact rfl; exact rfl; (with_reducible exact rfl)))) ?_
            refine runG08 ?_
            exact ⟨_, rfl, ⟨F5.trans0 f6, _, i + 1, fixL ⟨rfl, rfl, rfl, rfl, trivial⟩, by omega⟩, by show 40 - ((i : Int) + 1).toNat < 40 - (i : Int).toNat; omega⟩
    · refine runG08 ?_
      exact ret_b rfl rfl ⟨rfl, hfw⟩
set_option maxRecDepth 4000 in
set_option maxHeartbeats 2000000 in
theorem kdidSet {PT : PTy} (sp : TreeSpec PT) {w : World} {t c : Nat} {l m : List Nd} {S T : Nat → Prop} {e : Ed} (hP : PT w t m S) (hC : PT w c l T) (hl : Wf l) (hm : Wf m) (hma : m = applyL l e) (hz : refused l e = 0) (k : e.kind = 4) (hpr : 0 ≤ e.prop ∧ e.prop ≤ 3) :
    Rets Tryz.prog 21 [Ptr t, Ptr c, EdV e] w fun v w' => v = B true ∧ Frm0 w w' := by
  have f0 : Frm0 w (w.alloc (cel e.vals 31)) := Frm.of_alloc _ _
  have he0 := at_alloc_new w (cel e.vals 31)
  refine rets_of Tryz.func21 (by kernel_rfl) rfl Tryz.ntmps21 (Nat.le_of_ble_eq_true rfl) ?_
  refine runG08 ?_
  generalize w.alloc (cel e.vals 31) = w1 at *
  refine lp (fun env w' => Frm0 w1 w' ∧ ∃ env0, ∃ i : Nat, env = setL env0 [(0, Ptr t), (1, Ptr c), (5, Ptr w.heap.size), (7, I i)] ∧ i ≤ 40) (fun env _ => 40 - cnt (env 7)) ?_ ?_
  · exact ⟨Frm.refl _ _, _, 0, fixL ⟨rfl, rfl, rfl, rfl, trivial⟩, by omega⟩
  · rintro env w' ⟨hf, env0, i, rfl, hi⟩
    have hfw := f0.trans0 hf
    have he := hf.at0 he0
    by_cases hlt : i < 40
    · refine runG08 ?_
      refine s_callf (sp.find i (sp.frm hP hfw (fun _ _ h => h)) hm) rfl wnt_none ?_
      rintro v w2 ⟨rfl, f2⟩
      rw [findV_fx]
      refine runG08 ?_
      refine s_skip (r_storeAll (vs := (fx m i).vals) (s_ok rfl) rfl rfl (node_one _) (at_alloc_new w2 _) rfl) wnt_none ?_
      have hx3 := at_setB (cel (fx m i).vals 90) (at_alloc_new w2 (cel [I 0, I 0, I 0, I 0, I 0, I 0, I 0] 90))
      have f3 : Frm0 w' (setB (w2.alloc (cel [I 0, I 0, I 0, I 0, I 0, I 0, I 0] 90)) w2.heap.size (cel (fx m i).vals 90)) := (f2.alloc _).setB (.inr f2.size) _
      generalize setB (w2.alloc (cel [I 0, I 0, I 0, I 0, I 0, I 0, I 0] 90)) w2.heap.size (cel (fx m i).vals 90) = w3 at *
      refine runG08 ?_
      refine s_callf (sp.find i (sp.frm hC (hfw.trans0 f3) (fun _ _ h => h)) hl) rfl wnt_none ?_
      rintro v w4 ⟨rfl, f4⟩
      rw [findV_fx]
      refine runG08 ?_
      refine s_skip (r_storeAll (vs := (fx l i).vals) (s_ok rfl) rfl rfl (node_one _) (at_alloc_new w4 _) rfl) wnt_none ?_
      have hy5 := at_setB (cel (fx l i).vals 90) (at_alloc_new w4 (cel [I 0, I 0, I 0, I 0, I 0, I 0, I 0] 90))
      have f5 : Frm0 w3 (setB (w4.alloc (cel [I 0, I 0, I 0, I 0, I 0, I 0, I 0] 90)) w4.heap.size (cel (fx l i).vals 90)) := (f4.alloc _).setB (.inr f4.size) _
      have hx5 := f5.at0 hx3
      have hz34 : w3.heap.size ≤ w4.heap.size := f4.size
      have hx34 := at_lt hx3
      generalize setB (w4.alloc (cel [I 0, I 0, I 0, I 0, I 0, I 0, I 0] 90)) w4.heap.size (cel (fx l i).vals 90) = w5 at *
      have he5 := f5.at0 (f3.at0 he)
      have F5 := hf.trans0 (f3.trans0 f5)
      have hPl := sp.frm hC (hfw.trans0 (f3.trans0 f5)) (fun _ _ h => h)
      generalize w2.heap.size = xb at *
      by_cases hne : (i : Int) = e.node
      · obtain ⟨y, h1, h2, _⟩ := did_set hz k
        rw [← hma] at h2
        rw [← hne] at h1 h2
        rw [show fx m i = setProp y e.prop e.value by rw [fx, h2]; rfl, show fx l i = y by rw [fx, h1]; rfl] at *
        rw [show fk m i = true by rw [fk, h2]; rfl, show fk l i = true by rw [fk, h1]; rfl]
        refine runG08 ?_
        refine s_skip (r_store_i (s_ok rfl) rfl rfl hy5 (by simp [Nd.vals]; omega)) wnt_none ?_
        rw [set_prop hpr]
        have hy6 := at_setB (cel (setProp y e.prop e.value).vals 90) hy5
        have f6 : Frm0 w3 (setB w5 w4.heap.size (cel (setProp y e.prop e.value).vals 90)) := f5.setB (.inr hz34) _
        have hx6 := at_setB_ne (cel (setProp y e.prop e.value).vals 90) (show w4.heap.size ≠ xb by omega) hx5
        generalize setB w5 w4.heap.size (cel (setProp y e.prop e.value).vals 90) = w6 at *
        refine runG08 ?_
        refine s_val (r_ne_node (n := setProp y e.prop e.value) rfl rfl) (by (first | (with_reducible exact wnt_none) | ((with_reducible apply wnt_y); exact rfl; exact rfl; exact rfl; exact rfl; (with_reducible exact rfl)))) ?_
        refine runG08 ?_
        exact ⟨_, rfl, ⟨hf.trans0 (f3.trans0 f6), _, i + 1, fixL ⟨rfl, rfl, rfl, rfl, trivial⟩, by omega⟩, by show 40 - ((i : Int) + 1).toNat < 40 - (i : Int).toNat; omega⟩
      · have h1 : fnd (i : Int) m = fnd i l := by rw [hma]; exact (did_set hz k).elim fun y h => h.2.2 i hne
        rw [show fk m i = fk l i by rw [fk, fk, h1]]
        rw [show fx m i = fx l i by rw [fx, fx, h1]] at *
        refine runG08 ?_
        refine s_val (r_ne_bool (a := fk l i) (b := fk l i) (c := false) rfl rfl (by simp)) (by (first | (with_reducible exact wnt_none) | ((with_reducible apply wnt_y); exact rfl; exact rfl; exact rfl; exact rfl; (with_reducible exact rfl)))) ?_
        refine runG08 ?_
        refine s_val (r_ne_node (n := fx l i) rfl rfl) (by (first | (with_reducible exact wnt_none) | ((with_reducible apply wnt_y); exact rfl; exact rfl; exact rfl; exact rfl; (with_reducible exact rfl)))) ?_
        cases hk9 : fk l i
        · refine runG08 ?_
          repeat (refine s_no (wnt_nu rfl rfl rfl rfl) ?_)
          refine runG08 ?_
          exact ⟨_, rfl, ⟨F5, _, i + 1, fixL ⟨rfl, rfl, rfl, rfl, trivial⟩, by omega⟩, by show 40 - ((i : Int) + 1).toNat < 40 - (i : Int).toNat; omega⟩
        · refine runG08 ?_
          repeat (refine s_no (wnt_nu rfl rfl rfl rfl) ?_)
          refine runG08 ?_
          refine s_val (r_ne_node (n := fx l i) rfl rfl) (by (first | (with_reducible exact wnt_none) | ((with_reducible apply wnt_y); exact rfl; exact rfl; exact rfl; exact rfl; (with_reducible exact rfl)))) ?_
          refine runG08 ?_
          exact ⟨_, rfl, ⟨F5, _, i + 1, fixL ⟨rfl, rfl, rfl, rfl, trivial⟩, by omega⟩, by show 40 - ((i : Int) + 1).toNat < 40 - (i : Int).toNat; omega⟩
    · refine runG08 ?_
      exact ret_b rfl rfl ⟨rfl, hfw⟩
theorem kdid_ret {PT : PTy} (sp : TreeSpec PT) {w : World} {t c : Nat} {l m : List Nd} {S T : Nat → Prop} {e : Ed} (hP : PT w t m S) (hC : PT w c l T) (hl : Wf l) (hm : Wf m) (hma : m = applyL l e) (hz : refused l e = 0) (hkd : 1 ≤ e.kind ∧ e.kind ≤ 4) (hpr : 0 ≤ e.prop ∧ e.prop ≤ 3) :
    Rets Tryz.prog 21 [Ptr t, Ptr c, EdV e] w fun v w' => v = B true ∧ Frm0 w w' := by
  have : e.kind = 1 ∨ e.kind = 2 ∨ e.kind = 3 ∨ e.kind = 4 := by omega
  rcases this with k | k | k | k
  · exact kdidCreate sp hP hC hl hm hma hz k
  · exact kdidMove sp hP hC hl hm hma hz k
  · exact kdidDelete sp hP hC hl hm hma hz k
  · exact kdidSet sp hP hC hl hm hma hz k hpr
end Go.Proofs.YtbicffldggcdhaaGreatDoor

namespace Go.Proofs.YtbicffldggcdhaaGreatDoor
open Go

section
variable {PT : PTy} (sp : TreeSpec PT) {w : World} {col : Nat → Nat} {k0 k cb : Nat} {pre post : List Value} {bq sq t : Nat} {pd an up dn : Value} {c : PCli}
end
section
variable {PT : PTy} (sp : TreeSpec PT) {w w' w1 : World} {col : Nat → Nat} {k p t : Nat} {lv : Value} {mb cb cap : Nat} {rest : List Value} {ms : List CM} {Q Q' : PPar}
end
end Go.Proofs.YtbicffldggcdhaaGreatDoor

namespace Go.Proofs.YtbicffldggcdhaaGreatDoor
open Go

def sortAns_ren : Go.Shelf.Ren := ⟨fun | 6 => 174 | 15 => 127 | 14 => 176 | 28 => 138 | 29 => 139 | 20 => 177 | 21 => 178 | 22 => 179 | 23 => 180 | 24 => 181 | 25 => 182 | 26 => 183 | 27 => 184 | 46 => 185 | 47 => 142 | 48 => 143 | 49 => 186 | 50 => 187 | 57 => 188 | n => n, fun | 22 => 114 | 24 => 123 | 25 => 268 | 3 => 3 | 39 => 205 | 0 => 0 | 53 => 224 | 55 => 226 | 4 => 4 | 46 => 217 | 45 => 216 | 50 => 221 | 5 => 5 | 9 => 9 | 66 => 227 | 70 => 231 | 76 => 233 | 77 => 234 | n => n, fun | n => n⟩
theorem sortAns : Go.Proofs.SlLaysF0.n6 Tryz.prog sortAns_ren := {
  mixed := by kernel_rfl,
  f6 := ⟨Tryz.f174.name, by decide, Tryz.func174.trans (congrArg some (by kernel_rfl))⟩,
  f14 := ⟨Tryz.f176.name, by decide, Tryz.func176.trans (congrArg some (by kernel_rfl))⟩,
  f15 := Tryz.func127.trans (congrArg some (by kernel_rfl)),
  f20 := ⟨Tryz.f177.name, by decide, Tryz.func177.trans (congrArg some (by kernel_rfl))⟩,
  f21 := ⟨Tryz.f178.name, by decide, Tryz.func178.trans (congrArg some (by kernel_rfl))⟩,
  f22 := ⟨Tryz.f179.name, by decide, Tryz.func179.trans (congrArg some (by kernel_rfl))⟩,
  f23 := ⟨Tryz.f180.name, by decide, Tryz.func180.trans (congrArg some (by kernel_rfl))⟩,
  f24 := ⟨Tryz.f181.name, by decide, Tryz.func181.trans (congrArg some (by kernel_rfl))⟩,
  f25 := ⟨Tryz.f182.name, by decide, Tryz.func182.trans (congrArg some (by kernel_rfl))⟩,
  f26 := ⟨Tryz.f183.name, by decide, Tryz.func183.trans (congrArg some (by kernel_rfl))⟩,
  f27 := ⟨Tryz.f184.name, by decide, Tryz.func184.trans (congrArg some (by kernel_rfl))⟩,
  f28 := Tryz.func138.trans (congrArg some (by kernel_rfl)),
  f29 := Tryz.func139.trans (congrArg some (by kernel_rfl)),
  f46 := ⟨Tryz.f185.name, by decide, Tryz.func185.trans (congrArg some (by kernel_rfl))⟩,
  f47 := Tryz.func142.trans (congrArg some (by kernel_rfl)),
  f48 := Tryz.func143.trans (congrArg some (by kernel_rfl)),
  f49 := ⟨Tryz.f186.name, by decide, Tryz.func186.trans (congrArg some (by kernel_rfl))⟩,
  f50 := ⟨Tryz.f187.name, by decide, Tryz.func187.trans (congrArg some (by kernel_rfl))⟩,
  f57 := ⟨Tryz.f188.name, by decide, Tryz.func188.trans (congrArg some (by kernel_rfl))⟩,
  t0 := Tryz.underlying0,
  a0 := Tryz.isAgg0,
  z0 := Tryz.sizeOf0,
  v0 := Tryz.zeroValue0,
  t3 := Tryz.underlying3,
  a3 := Tryz.isAgg3,
  z3 := Tryz.sizeOf3,
  v3 := Tryz.zeroValue3,
  t4 := Tryz.underlying4,
  a4 := Tryz.isAgg4,
  z4 := Tryz.sizeOf4,
  v4 := Tryz.zeroValue4,
  t5 := Tryz.underlying5,
  a5 := Tryz.isAgg5,
  z5 := Tryz.sizeOf5,
  v5 := Tryz.zeroValue5,
  t9 := Tryz.underlying9,
  a9 := Tryz.isAgg9,
  z9 := Tryz.sizeOf9,
  v9 := Tryz.zeroValue9,
  t22 := Tryz.underlying114,
  a22 := Tryz.isAgg114,
  z22 := Tryz.sizeOf114,
  v22 := Tryz.zeroValue114,
  t25 := Tryz.underlying268,
  a25 := Tryz.isAgg268,
  z25 := Tryz.sizeOf268,
  v25 := Tryz.zeroValue268,
  t39 := Tryz.underlying205,
  a39 := Tryz.isAgg205,
  z39 := Tryz.sizeOf205,
  v39 := Tryz.zeroValue205,
  t45 := Tryz.underlying216,
  a45 := Tryz.isAgg216,
  z45 := Tryz.sizeOf216,
  v45 := Tryz.zeroValue216,
  t46 := Tryz.underlying217,
  a46 := Tryz.isAgg217,
  z46 := Tryz.sizeOf217,
  v46 := Tryz.zeroValue217,
  t50 := Tryz.underlying221,
  a50 := Tryz.isAgg221,
  z50 := Tryz.sizeOf221,
  v50 := Tryz.zeroValue221,
  t53 := Tryz.underlying224,
  a53 := Tryz.isAgg224,
  z53 := Tryz.sizeOf224,
  v53 := Tryz.zeroValue224,
  t55 := Tryz.underlying226,
  a55 := Tryz.isAgg226,
  z55 := Tryz.sizeOf226,
  v55 := Tryz.zeroValue226,
  t66 := Tryz.underlying227,
  a66 := Tryz.isAgg227,
  z66 := Tryz.sizeOf227,
  v66 := Tryz.zeroValue227,
  t70 := Tryz.underlying231,
  a70 := Tryz.isAgg231,
  z70 := Tryz.sizeOf231,
  v70 := Tryz.zeroValue231,
  t76 := Tryz.underlying233,
  a76 := Tryz.isAgg233,
  z76 := Tryz.sizeOf233,
  v76 := Tryz.zeroValue233,
  t77 := Tryz.underlying234,
  a77 := Tryz.isAgg234,
  z77 := Tryz.sizeOf234,
  v77 := Tryz.zeroValue234 }

theorem ans_lenQ (x : Ans) : x.vals.length = 2 := rfl
theorem ans_oneQ (x : Ans) : ∀ u ∈ x.vals, one u = true := by
  intro u hu
  simp only [Ans.vals, List.mem_cons, List.not_mem_nil, or_false] at hu
  rcases hu with rfl | rfl <;> rfl
theorem flatK_ans [Inhabited Ans] (l : List Ans) : Go.Sort.flatK Ans.vals 2 l.toArray = (fl Ans.vals l).toArray := by
  apply Array.ext'
  apply List.ext_getElem?
  intro t
  have hfl := fl_len (f := Ans.vals) ans_lenQ l
  by_cases ht : t < l.length * 2
  · have hi : t / 2 < l.length := by omega
    have hx : l[t / 2]? = some l[t / 2] := List.getElem?_eq_getElem hi
    have hv : (l[t / 2].vals)[t % 2]? = some (l[t / 2].vals)[t % 2]! := by
      have h7 : t % 2 < (l[t / 2].vals).length := by show t % 2 < 2; omega
      rw [List.getElem?_eq_getElem h7]
      simp [h7]
    have h1 := fl_get ans_lenQ hx hv [] []
    rw [List.append_nil, List.nil_append, List.length_nil, show 0 + t / 2 * 2 + t % 2 = t by omega] at h1
    rw [h1]
    simp [Go.Sort.flatK, ht, hi]
  · have h1 : (fl Ans.vals l)[t]? = none := List.getElem?_eq_none (by omega)
    rw [h1]
    simp [Go.Sort.flatK]
    omega
theorem holds_ans [Inhabited Ans] {w : World} {b : Nat} {xs : List Ans} {rest : List Value} {e : Nat} (hb : At w b (cel (fl Ans.vals xs ++ rest) e)) : Go.Sort.HoldsK Ans.vals 2 w b 0 xs.toArray := by
  unfold Go.Sort.HoldsK
  rw [flatK_ans]
  intro j hj
  refine ⟨?_, frozen_at hb _⟩
  have hj' : j < (fl Ans.vals xs).length := by simpa using hj
  rw [cell_at hb, Nat.zero_add, List.getElem?_append_left hj', List.getElem?_eq_getElem hj']
  simp [hj']
theorem row_ans [Inhabited Ans] {w : World} {b n : Nat} {xs ys : List Ans} {rest : List Value} {os : Array Obj} {e : Nat} (hb : At w b (cel (fl Ans.vals xs ++ rest) e)) (hl : ys.length = xs.length) :
    At (sortWorldK Ans.vals 2 w b 0 n ys.toArray os) b (cel (fl Ans.vals ys ++ rest) e) ∧ Frm (fun c => c = b) w (sortWorldK Ans.vals 2 w b 0 n ys.toArray os) := by
  have hb' : w.heap[b]? = some (cel (fl Ans.vals xs ++ rest) e) := hb
  have hlt := at_lt hb
  have hput : Go.Sort.putCells id 0 (fl Ans.vals ys).toArray (fl Ans.vals xs ++ rest).toArray = (fl Ans.vals ys ++ rest).toArray := by
    apply Array.ext'
    apply List.ext_getElem?
    intro t
    have h1 := fl_len ans_lenQ xs
    have h2 := fl_len ans_lenQ ys
    simp only [Go.Sort.putCells, Array.toList_mapIdx, List.getElem?_mapIdx, Nat.zero_le, true_and, Nat.zero_add, List.size_toArray, id]
    by_cases ht : t < (fl Ans.vals ys).length
    · rw [List.getElem?_append_left (by omega), List.getElem?_append_left ht, List.getElem?_eq_getElem (show t < (fl Ans.vals xs).length by omega), List.getElem?_eq_getElem ht]
      simp [ht]
    · rw [List.getElem?_append_right (by omega), List.getElem?_append_right (by omega), show t - (fl Ans.vals xs).length = t - (fl Ans.vals ys).length by omega]
      cases rest[t - (fl Ans.vals ys).length]? <;> simp [ht]
  have hheap : (Go.Sort.putRowK Ans.vals 2 (Go.Sort.ahead w n) b 0 ys.toArray).heap = w.heap.setIfInBounds b (cel (fl Ans.vals ys ++ rest) e) := by
    unfold Go.Sort.putRowK Go.Sort.putRow Go.Sort.mapBlock
    rw [flatK_ans]
    apply Array.ext_getElem?
    intro k
    simp only [Array.getElem?_modify, Go.Sort.ahead, Array.getElem?_setIfInBounds]
    by_cases hk : b = k
    · subst hk
      rw [if_pos rfl, if_pos rfl, if_pos hlt, hb']
      simp only [Option.map_some, Go.Sort.onCells, cel]
      rw [hput]
    · rw [if_neg hk, if_neg hk]
  have hh : (sortWorldK Ans.vals 2 w b 0 n ys.toArray os).heap = w.heap.setIfInBounds b (cel (fl Ans.vals ys ++ rest) e) ++ os := by
    unfold sortWorldK Go.Sort.grow
    rw [hheap]
  constructor
  · show (sortWorldK Ans.vals 2 w b 0 n ys.toArray os).heap[b]? = _
    rw [hh, Array.getElem?_append_left (by simpa using hlt), Array.getElem?_setIfInBounds_self, if_pos hlt]
  · refine ⟨by rw [hh]; simp, fun c o hc hn => ?_, rfl, rfl, rfl⟩
    have hc' : w.heap[c]? = some o := hc
    show (sortWorldK Ans.vals 2 w b 0 n ys.toArray os).heap[c]? = _
    rw [hh, Array.getElem?_append_left (by simpa using at_lt hc), Array.getElem?_setIfInBounds_ne (fun h => hn h.symm), hc']
def cmpA (x y : Ans) : Int := cmpI x.seq y.seq
theorem lack1_ret (x y : Ans) (w : World) : Rets Tryz.prog 175 [.agg x.vals.toArray, .agg y.vals.toArray] w fun v w' => v = I (cmpA x y) ∧ ∃ q os, w' = Go.Sort.grow (w.drewN q) os := by
  have hx1 := at_alloc (cel y.vals 123) (at_alloc_new w (cel x.vals 123))
  have hy1 := at_alloc_new (w.alloc (cel x.vals 123)) (cel y.vals 123)
  refine rets_of Tryz.func175 (by kernel_rfl) rfl Tryz.ntmps175 (Nat.le_of_ble_eq_true rfl) ?_
  refine runG08 ?_
  refine s_callf (Compare_ret x.seq y.seq _) rfl wnt_none ?_
  rintro v w2 ⟨rfl, rfl⟩
  refine runG08 ?_
  refine ret_i rfl rfl ⟨rfl, 0, #[cel x.vals 123, cel y.vals 123], ?_⟩
  simp only [Go.Sort.alloc_eq_grow, Go.Sort.grow_grow]
  rfl
def ltA (x y : Ans) : Bool := decide (x.seq < y.seq)
theorem ltOf_cmpA (x y : Ans) : ltOf cmpA x y = ltA x y := by
  unfold ltOf cmpA ltA
  exact decide_eq_decide.2 cmpI_neg
theorem swoA : Go.Sort.SWO (ltOf cmpA) where
  irrefl x := by rw [ltOf_cmpA]; simp [ltA]
  trans x y z h1 h2 := by rw [ltOf_cmpA] at *; simp [ltA] at *; omega
  ntrans x y z h1 h2 := by rw [ltOf_cmpA] at *; simp [ltA] at *; omega
theorem sortA_ret {w : World} {b cap : Nat} {xs : List Ans} {rest : List Value} (hb : At w b (cel (fl Ans.vals xs ++ rest) 123)) (hsz : xs.length < 1000000000000) :
    Rets Tryz.prog 174 [.slice (some ⟨b, 0, none⟩) xs.length cap, .func (.func 175) #[] #[]] w fun v w' => v = .tuple #[] ∧ ∃ ys, ys.Perm xs ∧ (ys.Pairwise fun a c => a.seq ≤ c.seq) ∧ At w' b (cel (fl Ans.vals ys ++ rest) 123) ∧ Frm (fun c => c = b) w w' := by
  refine ⟨by kernel_rfl, ?_⟩
  have hcf : callable Tryz.prog 175 = true := by kernel_rfl
  have : Inhabited Ans := ⟨⟨0, false⟩⟩
  have hcon := AnyQ.slices_SortFunc sortAns 2 Tryz.isAgg123 Tryz.sizeOf123 Ans.vals (fun _ => rfl) (fun x v hv => by
      have := ans_oneQ x v hv
      cases v <;> first | rfl | cases this) cmpA swoA 175 #[] b 0 cap xs.toArray w (fun args w => run_callFunc hcf args)
    (fun m os dk _ x y => (lack1_ret x y _).2.mono fun e w' he => by
      obtain ⟨v, rfl, rfl, q, os', rfl⟩ := he
      exact ⟨rfl, q, os', rfl⟩) (holds_ans hb) (at_lt hb) (by simp; omega)
  refine hcon.mono ?_
  rintro e w' ⟨rfl, d', n, os, hp, hs, rfl⟩
  obtain ⟨hsize, _, hperm⟩ := hp
  have hd : d' = d'.toList.toArray := rfl
  have hlen : d'.toList.length = xs.length := by simpa using hsize
  have hperm' : d'.toList.Perm xs := by
    have h1 : d'.extract 0 xs.toArray.size = d' := by rw [← hsize]; exact Array.extract_size
    have h2 : xs.toArray.extract 0 xs.toArray.size = xs.toArray := Array.extract_size
    rw [h1, h2] at hperm
    exact hperm
  refine ⟨_, rfl, rfl, d'.toList, hperm', ?_, ?_⟩
  · rw [List.pairwise_iff_getElem]
    intro i j hi hj hij
    have := hs i j (Nat.zero_le _) hij (by simpa [hlen] using hj)
    rw [ltOf_cmpA] at this
    simp only [Array.getElem_toList]
    rw [getElem!_pos d' j (by simpa using hj), getElem!_pos d' i (by simpa using hi)] at this
    simp [ltA] at this
    exact this
  · rw [hd]
    exact row_ans hb hlen
/-! Nothing to sort. -/
theorem ins0_ret (w : World) : Rets Tryz.prog 177 [.slice none 0 0, I 0, I 0, .func (.func 175) #[] #[]] w fun v w' => v = .tuple #[] ∧ w = w' := by
  refine rets_of Tryz.func177 (by kernel_rfl) rfl Tryz.ntmps177 (Nat.le_of_ble_eq_true rfl) ?_
  refine runG08 ?_
  refine lp (fun env w' => w = w' ∧ ∃ env0, env = setL env0 [(2, I 0), (8, I 1)]) (fun _ _ => 0) ⟨rfl, _, fixL ⟨rfl, rfl, trivial⟩⟩ ?_
  rintro env w' ⟨rfl, env0, rfl⟩
  refine runG08 ?_
  exact end_0 rfl ⟨rfl, rfl⟩
theorem pdq0_ret (n : Int) (w : World) : Rets Tryz.prog 176 [.slice none 0 0, I 0, I 0, I n, .func (.func 175) #[] #[]] w fun v w' => v = .tuple #[] ∧ w = w' := by
  refine rets_of Tryz.func176 (by kernel_rfl) rfl Tryz.ntmps176 (Nat.le_of_ble_eq_true rfl) ?_
  refine runG08 ?_
  refine lp (fun env w' => w = w' ∧ ∃ env0, env = setL env0 [(0, .slice none 0 0), (1, I 0), (2, I 0), (4, .func (.func 175) #[] #[])]) (fun _ _ => 0) ⟨rfl, _, fixL ⟨rfl, rfl, rfl, rfl, trivial⟩⟩ ?_
  rintro env w' ⟨rfl, env0, rfl⟩
  refine runG08 ?_
  refine s_callf (ins0_ret w) rfl wnt_none ?_
  rintro v w1 ⟨rfl, rfl⟩
  refine runG08 ?_
  exact ret_0 rfl ⟨rfl, rfl⟩
theorem len0_ret (w : World) : Rets Tryz.prog 127 [.int .u64 0] w fun v w' => v = I 0 ∧ w = w' := by
  refine ⟨by kernel_rfl, ?_⟩
  have h := Any.bits_Len (SlLaysF0.n15.bits { sortAns with }) 0 w (by omega) (by omega)
  refine h.mono ?_
  rintro e w' ⟨rfl, rfl⟩
  exact ⟨_, rfl, rfl, rfl⟩
section
variable {P : Program} {w : World} {ρ : Operand → Value} {d : Option Nat} {t : Nat} {p : String} {af : Array Edge} {g : Option (Nat × Bool)}
theorem r_conv {a b : Nat} {x : Operand} {v u : Value} (hx : ρ x = v) (h : (convert a b v).run P w = .ok u w) : (execOp ρ ⟨d, .convert a b x, t, p, af, g⟩).run P w = .ok (.value u) w := by
  simp [execOp, hx, h]
end
theorem conv0 (w : World) : (convert 3 205 (I 0)).run Tryz.prog w = .ok (.int .u64 0) w := by kernel_rfl
theorem sortA0_ret (w : World) : Rets Tryz.prog 174 [.slice none 0 0, .func (.func 175) #[] #[]] w fun v w' => v = .tuple #[] ∧ w = w' := by
  refine rets_of Tryz.func174 (by kernel_rfl) rfl Tryz.ntmps174 (Nat.le_of_ble_eq_true rfl) ?_
  refine runG08 ?_
  refine s_val (r_conv rfl (conv0 _)) wnt_none ?_
  refine s_callf (len0_ret w) rfl wnt_none ?_
  rintro v w1 ⟨rfl, rfl⟩
  refine runG08 ?_
  refine s_callf (pdq0_ret 0 w) rfl wnt_none ?_
  rintro v w1 ⟨rfl, rfl⟩
  refine runG08 ?_
  exact end_0 rfl ⟨rfl, rfl⟩
end Go.Proofs.YtbicffldggcdhaaGreatDoor

namespace Go.Proofs.YtbicffldggcdhaaGreatDoor
open Go

/-- What lacking gives: the answers that a client lacks, in a row of its own. -/
def LackSpec (w : World) (p : Nat) (i n : Int) (vd : VD) : Prop :=
  Rets Tryz.prog 173 [Ptr p, I i, I n] w fun v w' => ∃ L, L.Perm (lack vd i n) ∧ (L.Pairwise fun a b => a.seq ≤ b.seq) ∧ Row w' v 123 2 L.length (fl Ans.vals L) ∧ (∀ b, InV v b → w.heap.size ≤ b) ∧ Frm0 w w'
theorem nodup_of_map {α β : Type} {f : α → β} {l : List α} (h : (l.map f).Nodup) : l.Nodup := (List.pairwise_map.1 h).imp (fun h e => h (congrArg f e))
theorem nodup_map_of {α β : Type} {f : α → β} {l : List α} (hf : ∀ a b, f a = f b → a = b) (h : l.Nodup) : (l.map f).Nodup := List.pairwise_map.2 (List.Pairwise.imp (fun h e => h (hf _ _ e)) h)
section
variable {es : Array MapEntry} {cl : Nat} {M : VD}
theorem VEnts.mem (h : VEnts es cl M) {e : MapEntry} (he : e ∈ es.toList) : ∃ x ∈ M, e.key = MkV x.1 ∧ e.val = VdV x.2 := by
  have h1 : entOf e ∈ M.map vEnt := by rw [← h.ents]; exact List.mem_map_of_mem he
  obtain ⟨x, hx, hxe⟩ := List.mem_map.1 h1
  unfold vEnt entOf at hxe
  simp only [Prod.mk.injEq] at hxe
  exact ⟨x, hx, hxe.1.symm, hxe.2.symm⟩
theorem VEnts.of (h : VEnts es cl M) {x : (Int × Int) × (Int × Bool)} (hx : x ∈ M) : ∃ e ∈ es.toList, e.key = MkV x.1 ∧ e.val = VdV x.2 := by
  have h1 : vEnt x ∈ es.toList.map entOf := by rw [h.ents]; exact List.mem_map_of_mem hx
  obtain ⟨e, he, hxe⟩ := List.mem_map.1 h1
  unfold vEnt entOf at hxe
  simp only [Prod.mk.injEq] at hxe
  exact ⟨e, he, hxe.1, hxe.2⟩
theorem mk_inj {a b : Int × Int} (h : MkV a = MkV b) : a = b := by
  obtain ⟨a1, a2⟩ := a
  obtain ⟨b1, b2⟩ := b
  simp [MkV] at h
  rw [h.1, h.2]
theorem VEnts.keyN (h : VEnts es cl M) : (es.toList.map (·.key)).Nodup := by
  have h1 : es.toList.map (·.key) = (M.map (·.1)).map MkV := by
    have := congrArg (List.map Prod.fst) h.ents
    rw [List.map_map, List.map_map] at this
    rw [List.map_map]
    exact this
  rw [h1]
  exact nodup_map_of (fun a b => mk_inj) h.keys
end
section
variable {P : Program} {w : World} {ρ : Operand → Value} {d : Option Nat} {t b cl : Nat} {p : String} {af : Array Edge} {g : Option (Nat × Bool)} {x : Operand} {es : Array MapEntry}
theorem r_entryV {r : Nat} {seen : Array Nat} {e : MapEntry} {k v : Value} (hx : ρ x = .pointer (some ⟨r, 0, none⟩)) (hr : At w r (.mapIter (some b) cl (seen.push e.born) cl)) (hb : At w b (.map es cl)) (he : e ∈ es.toList) (hn : (es.toList.map (·.born)).Nodup) (hk : e.key = k) (hv : e.val = v) :
    (execOp ρ ⟨d, .entry x, t, p, af, g⟩).run P w = .ok (.value (.tuple [k, v].toArray)) w := by
  rw [r_entry hx hr hb he hn, hk, hv]
end
theorem bld_ansQ (a : Int) (b : Bool) (w : World) : (Instr.build 123 [(0, I a), (1, B b)].toArray).run Tryz.prog w = .ok (.agg (Ans.vals ⟨a, b⟩).toArray) w := by kernel_rfl
theorem bs_ansQ (x : Ans) (w : World) : (Instr.buildSlice 114 1 [(0, .agg x.vals.toArray)].toArray).run Tryz.prog w = .ok (.slice (some ⟨w.heap.size, 0, none⟩) 1 1) (w.alloc (cel x.vals 123)) := by kernel_rfl
theorem append_ansQ {w : World} {v s : Value} {A : List Ans} {q : Ans} {ty : Nat} (hrow : Row w v 123 2 A.length (fl Ans.vals A)) (hseg : Seg w s 2 1 q.vals) (hcap : A.length < 4000000000000) :
    ∃ v' w', (Builtin.append_ #[114, 114] ty #[v, s]).run Tryz.prog w = .ok v' w' ∧ Row w' v' 123 2 (A ++ [q]).length (fl Ans.vals (A ++ [q])) ∧ Frm (InV v) w w' ∧ ∀ b, InV v' b → InV v b ∨ w.heap.size ≤ b := by
  obtain ⟨v', w', h1, h2, h3, h4⟩ := append_seg (P := Tryz.prog) (sz := 2) (by' := 16) (ty := ty) (sT := 114) (u_ok rfl) (u_ok rfl) (fun kk h => by cases h) (s_ok rfl) (b_ok rfl) (z_ok rfl) rfl hrow hseg (ans_oneQ q) (by omega) (by omega)
  exact ⟨v', w', h1, by rw [fl_append, List.length_append]; simpa [fl] using h2, h3, h4⟩
theorem lack_append (a b : VD) (i n : Int) : lack (a ++ b) i n = lack a i n ++ lack b i n := by simp [lack]
set_option maxRecDepth 4000 in
set_option maxHeartbeats 4000000 in
theorem lacking_ret {PT : PTy} {w : World} {col : Nat → Nat} {k p t : Nat} {lv : Value} {mb cb cap : Nat} {rest : List Value} {ms : List CM} {Q : PPar} (h : PB PT w col k p t lv mb cb cap rest ms Q) (i n : Int) (hl : Q.vd.length < 1000000000000) : LackSpec w p i n Q.vd := by
  have hh := h.head
  obtain ⟨es, cl, hm, hE⟩ := h.map
  have hkeys := nodup_map_inj hE.keyN
  have hborn := nodup_map_inj hE.born
  obtain ⟨N, hN⟩ : ∃ N, w.heap.size = N := ⟨_, rfl⟩
  have hmN := at_lt hm
  unfold LackSpec
  refine rets_of Tryz.func173 (by kernel_rfl) rfl Tryz.ntmps173 (Nat.le_of_ble_eq_true rfl) ?_
  refine runG08 ?_
  refine s_val (r_range (u_ok rfl) rfl hm) wnt_none ?_
  rw [hN]
  refine runG08 ?_
  refine lp (fun env w' => ∃ env0, ∃ (seen : Array Nat) (sn : VD) (va : Option Addr) (vc : Nat), env = setL env0 [(1, I i), (2, I n), (7, .slice va (lack sn i n).length vc), (14, Ptr N)] ∧ At w' N (.mapIter (some mb) cl seen cl) ∧ Row w' (.slice va (lack sn i n).length vc) 123 2 (lack sn i n).length (fl Ans.vals (lack sn i n)) ∧ (∀ b, InV (.slice va (lack sn i n).length vc) b → N < b) ∧ Frm0 w w' ∧ N + 1 ≤ w'.heap.size ∧
    (sn.map (·.1)).Nodup ∧ (∀ e ∈ es.toList, ∀ x, e.key = MkV x.1 → e.val = VdV x.2 → (x ∈ sn ↔ e.born ∈ seen.toList)) ∧ (∀ x ∈ sn, x ∈ Q.vd)) (fun _ w' => left es N w') ?_ ?_
  · refine ⟨_, #[], [], none, 0, fixL ⟨rfl, rfl, rfl, rfl, trivial⟩, ?_, Row.nil, fun b hb => (inv_none hb).elim, Frm.of_alloc _ _, by rw [World.size_alloc]; omega, by simp, fun e _ x _ _ => by simp, fun x hx => by cases hx⟩
    have := at_alloc_new w (.mapIter (some mb) cl #[] cl)
    rwa [hN] at this
  · rintro env w1 ⟨env0, seen, sn, va, vc, rfl, hit, hrow, hnew, hF, hsz, hsn, hch, hsub⟩
    have hm1 := hF.at0 hm
    have hl1 := left_at (es := es) hit
    have hlen : (lack sn i n).length ≤ Q.vd.length := by
      have h1 : (lack sn i n).length ≤ sn.length := by
        unfold lack
        rw [List.length_map]
        exact List.length_filter_le _ _
      have h2 := nodup_sub (m := Q.vd.map (·.1)) hsn (fun x hx => by
        obtain ⟨y, hy, rfl⟩ := List.mem_map.1 hx
        exact List.mem_map_of_mem (hsub y hy))
      rw [List.length_map, List.length_map] at h2
      omega
    rcases next_run (P := Tryz.prog) (t := 0) hit hm1 hE.low with ⟨hall, hn⟩ | ⟨e, he, hns, w2, hw2, hn⟩
    · have hperm : sn.Perm Q.vd := by
        refine (List.perm_ext_iff_of_nodup (nodup_of_map hsn) (nodup_of_map hE.keys)).2 (fun x => ⟨hsub x, fun hx => ?_⟩)
        obtain ⟨e, he, h1, h2⟩ := hE.of hx
        exact (hch e he x h1 h2).2 (hall e he)
      have hlp : (lack sn i n).Perm (lack Q.vd i n) := (hperm.filter _).map _
      refine runG08 ?_
      refine s_val (r_next rfl hn) wnt_none ?_
      refine runG08 ?_
      rcases hrow with ⟨e1, e2, _⟩ | ⟨b, cap1, rest1, e1, hA, hpl, hr, hc⟩
      · have hnil : lack sn i n = [] := List.length_eq_zero_iff.1 e2
        rw [e1]
        refine s_callf (sortA0_ret _) rfl wnt_none ?_
        rintro v w3 ⟨rfl, rfl⟩
        refine runG08 ?_
        rw [hnil] at hlp
        exact ret_s rfl rfl ⟨[], hlp, List.Pairwise.nil, Row.nil, fun b hb => (inv_none hb).elim, hF⟩
      · cases e1
        refine s_callf (sortA_ret (cap := vc) hA (by omega)) rfl wnt_none ?_
        rintro v w3 ⟨rfl, ys, hy, ho, hA3, f3⟩
        refine runG08 ?_
        have hbN := hnew b ⟨_, _, _, rfl⟩
        refine ret_s rfl rfl ⟨ys, hy.trans hlp, ho, .inr ⟨b, vc, rest1, by rw [hy.length_eq], hA3, by rw [fl_len ans_lenQ], ?_, ?_⟩, ?_, hF.trans f3 (fun c hc => .inr (by omega))⟩
        · rw [hy.length_eq]; exact hr
        · rw [hy.length_eq]; exact hc
        · rintro c ⟨_, _, _, hv⟩
          cases hv
          omega
    · obtain ⟨x, hxm, hk, hv⟩ := hE.mem he
      obtain ⟨⟨xi, xs⟩, xn, xd⟩ := x
      rw [hk, hv] at hn
      have hF12 : Frm0 w1 w2 := by rcases hw2 with rfl | rfl; exact Frm.refl _ _; exact Frm.of_drew _
      have hF13 : Frm (fun b => b = N) w1 (setB w2 N (.mapIter (some mb) cl (seen.push e.born) cl)) := (hF12.mono (T := fun b => b = N) (fun _ h => h.elim)).setB (b := N) (.inl rfl) _
      have hit3 := at_setB (.mapIter (some mb) cl (seen.push e.born) cl) (hF12.at0 hit)
      have hF3 : Frm0 w (setB w2 N (.mapIter (some mb) cl (seen.push e.born) cl)) := hF.trans hF13 (fun b hb => .inr (by omega))
      have hrow3 := hrow.frm hF13 (fun b hb e9 => by have := hnew b hb; omega)
      have hpl := left_push he hns
      have hs3 := hF13.size
      have hm3 := hF3.at0 hm
      have hxsn : (((xi, xs), xn, xd) : (Int × Int) × Int × Bool) ∉ sn := fun hx => hns ((hch e he _ hk hv).1 hx)
      have hsn' : ((sn ++ [((xi, xs), xn, xd)]).map (·.1)).Nodup := by
        rw [List.map_append, List.nodup_append]
        refine ⟨hsn, by simp, ?_⟩
        intro a ha b hb e9
        simp at hb
        subst hb
        subst e9
        obtain ⟨y, hy, hye⟩ := List.mem_map.1 ha
        have hyM := hsub y hy
        have := nodup_map_inj hE.keys y hyM _ hxm hye
        subst this
        exact hxsn hy
      have hch' : ∀ e' ∈ es.toList, ∀ y : (Int × Int) × Int × Bool, e'.key = MkV y.1 → e'.val = VdV y.2 → (y ∈ sn ++ [((xi, xs), xn, xd)] ↔ e'.born ∈ (seen.push e.born).toList) := by
        intro e' he' y hk' hv'
        simp only [List.mem_append, List.mem_singleton, Array.toList_push]
        constructor
        · rintro (h1 | h1)
          · exact .inl ((hch e' he' y hk' hv').1 h1)
          · subst h1
            have := hkeys e' he' e he (by rw [hk', hk])
            subst this
            exact .inr rfl
        · rintro (h1 | h1)
          · exact .inl ((hch e' he' y hk' hv').2 h1)
          · have := hborn e' he' e he h1
            subst this
            obtain ⟨z, hz, hz1, hz2⟩ := hE.mem he
            have hyM : y ∈ Q.vd := by
              obtain ⟨y', hy', g1, g2⟩ := hE.mem he'
              have e1 : y.1 = y'.1 := mk_inj (hk'.symm.trans g1)
              have e2 : y.2 = y'.2 := by
                have := hv'.symm.trans g2
                obtain ⟨y1, y2, y3⟩ := y
                obtain ⟨z1, z2, z3⟩ := y'
                simp [VdV] at this
                simp [this.1, this.2]
              have : y = y' := Prod.ext e1 e2
              rw [this]; exact hy'
            right
            exact nodup_map_inj hE.keys y hyM _ hxm (mk_inj (hk'.symm.trans hk))
      have hsub' : ∀ y ∈ sn ++ [((xi, xs), xn, xd)], y ∈ Q.vd := by
        intro y hy
        rcases List.mem_append.1 hy with h1 | h1
        · exact hsub y h1
        · simp at h1
          subst h1
          exact hxm
      refine runG08 ?_
      refine s_val (r_next rfl hn) wnt_none ?_
      refine runG08 ?_
      refine s_val (r_entryV rfl hit3 hm3 he hE.born hk hv) wnt_none ?_
      generalize setB w2 N (.mapIter (some mb) cl (seen.push e.born) cl) = w3 at *
      refine runG08 ?_
      refine s_skip (r_storeAll (vs := [I xi, I xs]) (s_ok rfl) rfl rfl (by intro u hu; simp at hu; rcases hu with rfl | rfl <;> rfl) (at_alloc _ (at_alloc_new w3 _)) rfl) wnt_none ?_
      refine s_skip (r_storeAll (vs := [I xn, B xd]) (s_ok rfl) rfl rfl (by intro u hu; simp at hu; rcases hu with rfl | rfl <;> rfl) (at_setB_ne _ (by rw [World.size_alloc]; omega) (at_alloc_new _ _)) rfl) wnt_none ?_
      have hx4 : At (setB (setB ((w3.alloc (cel [I 0, I 0] 252)).alloc (cel [I 0, B false] 254)) w3.heap.size (cel [I xi, I xs] 252)) (w3.alloc (cel [I 0, I 0] 252)).heap.size (cel [I xn, B xd] 254)) w3.heap.size (cel [I xi, I xs] 252) := at_setB_ne _ (by rw [World.size_alloc]; omega) (at_setB _ (at_alloc _ (at_alloc_new w3 _)))
      have hy4 : At (setB (setB ((w3.alloc (cel [I 0, I 0] 252)).alloc (cel [I 0, B false] 254)) w3.heap.size (cel [I xi, I xs] 252)) (w3.alloc (cel [I 0, I 0] 252)).heap.size (cel [I xn, B xd] 254)) (w3.alloc (cel [I 0, I 0] 252)).heap.size (cel [I xn, B xd] 254) := at_setB _ (at_setB_ne _ (by rw [World.size_alloc]; omega) (at_alloc_new _ _))
      have f4 : Frm0 w3 (setB (setB ((w3.alloc (cel [I 0, I 0] 252)).alloc (cel [I 0, B false] 254)) w3.heap.size (cel [I xi, I xs] 252)) (w3.alloc (cel [I 0, I 0] 252)).heap.size (cel [I xn, B xd] 254)) := (((Frm.of_alloc w3 _).alloc _).setB (b := w3.heap.size) (.inr (Nat.le_refl _)) _).setB (.inr (by rw [World.size_alloc]; omega)) _
      generalize setB (setB ((w3.alloc (cel [I 0, I 0] 252)).alloc (cel [I 0, B false] 254)) w3.heap.size (cel [I xi, I xs] 252)) (w3.alloc (cel [I 0, I 0] 252)).heap.size (cel [I xn, B xd] 254) = w4 at *
      generalize (w3.alloc (cel [I 0, I 0] 252)).heap.size = z1 at *
      have F4 := hF3.trans0 f4
      have hit4 := f4.at0 hit3
      have hrow4 := hrow3.frm f4 (fun _ _ h => h)
      have s4 := f4.size
      have hl4 := left_at (es := es) hit4
      by_cases hc : xi = i ∧ n < xn
      · obtain ⟨hc1, hc2⟩ := hc
        have hlk : lack (sn ++ [((xi, xs), xn, xd)]) i n = lack sn i n ++ [⟨xs, xd⟩] := by
          rw [lack_append]
          congr 1
          simp [lack, hc1, hc2]
        refine runG08 ?_
        refine s_val (r_build rfl (bld_ansQ _ _ _)) wnt_none ?_
        refine s_val (r_bs rfl (bs_ansQ ⟨xs, xd⟩ _)) wnt_none ?_
        have f5 : Frm0 w4 (w4.alloc (cel (Ans.vals ⟨xs, xd⟩) 123)) := Frm.of_alloc _ _
        have s5 := f5.size
        obtain ⟨v6, w6, e6, r6, f6, n6⟩ := append_ansQ (ty := 114) (A := lack sn i n) (q := ⟨xs, xd⟩) (hrow4.frm f5 (fun _ _ h => h)) (seg_new rfl) (by omega)
        rw [← hlk] at r6
        obtain ⟨va6, vc6, rfl⟩ := r6.isSl
        refine s_val (r_app rfl rfl e6) wnt_none ?_
        have hit6 := f6.at (b := N) (fun hb => by have := hnew N hb; omega) (f5.at0 hit4)
        have hl6 := left_at (es := es) hit6
        have s6 := f6.size
        refine runG08 ?_
        refine ⟨_, rfl, ⟨_, seen.push e.born, sn ++ [((xi, xs), xn, xd)], va6, vc6, fixL ⟨rfl, rfl, rfl, rfl, trivial⟩, hit6, r6, fun b hb => ?_, (F4.trans0 f5).trans f6 (fun b hb => .inr (by have := hnew b hb; omega)), by omega, hsn', hch', hsub'⟩, by rw [hl1, hl6]; exact hpl⟩
        rcases n6 b hb with h9 | h9
        · exact hnew b h9
        · omega
      · have hlk : lack (sn ++ [((xi, xs), xn, xd)]) i n = lack sn i n := by
          rw [lack_append]
          have : lack [((xi, xs), xn, xd)] i n = [] := by
            unfold lack
            rw [List.filter_cons_of_neg (by simpa using hc)]
            rfl
          rw [this, List.append_nil]
        by_cases hc1 : xi = i
        · have hc2 : ¬ n < xn := fun h9 => hc ⟨hc1, h9⟩
          refine runG08 ?_
          refine ⟨_, rfl, ⟨_, seen.push e.born, sn ++ [((xi, xs), xn, xd)], va, vc, by rw [hlk]; exact fixL ⟨rfl, rfl, rfl, rfl, trivial⟩, hit4, by rw [hlk]; exact hrow4, by rw [hlk]; exact hnew, F4, by omega, hsn', hch', hsub'⟩, by rw [hl1, hl4]; exact hpl⟩
        · refine runG08 ?_
          refine ⟨_, rfl, ⟨_, seen.push e.born, sn ++ [((xi, xs), xn, xd)], va, vc, by rw [hlk]; exact fixL ⟨rfl, rfl, rfl, rfl, trivial⟩, hit4, by rw [hlk]; exact hrow4, by rw [hlk]; exact hnew, F4, by omega, hsn', hch', hsub'⟩, by rw [hl1, hl4]; exact hpl⟩
end Go.Proofs.YtbicffldggcdhaaGreatDoor

namespace Go.Proofs.YtbicffldggcdhaaGreatDoor
open Go

theorem pd_lenQ (q : Int × Ed) : (pdV q).length = 7 := rfl
theorem get1_ret {w : World} {ab : Nat} {a : Ans} (hA : At w ab (cel a.vals 123)) (q : Int × Ed) :
    Rets Tryz.prog 207 [.agg (pdV q).toArray, Ptr ab] w fun v w' => v = B (decide (q.1 = a.seq)) ∧ Frm0 w w' := by
  have hq := at_alloc_new w (cel (pdV q) 147)
  have hA1 := at_alloc (cel (pdV q) 147) hA
  refine rets_of Tryz.func207 (by kernel_rfl) rfl Tryz.ntmps207 (Nat.le_of_ble_eq_true rfl) ?_
  refine runG08 ?_
  exact ret_b rfl rfl ⟨rfl, Frm.of_alloc _ _⟩
abbrev delV (ab : Nat) : Value := .func (.func 207) #[] #[Ptr ab]
theorem pd_sub {l : List (Int × Ed)} {j : Nat} {q : Int × Ed} (h : l[j]? = some q) (rest : List Value) : sub (fl pdV l ++ rest) (0 + (j : Int).toNat * 7) 7 = pdV q := by
  have := fl_sub pd_lenQ l j q h [] rest
  rw [List.nil_append, List.length_nil] at this
  rw [show 0 + (j : Int).toNat * 7 = 0 + j * 7 by omega]
  exact this
/-- The first of that number. -/
def Fst (l : List (Int × Ed)) (s : Int) (r : Int) : Prop := (r = -1 ∧ ∀ q ∈ l, q.1 ≠ s) ∨ ∃ (i : Nat) (q : Int × Ed), r = i ∧ l[i]? = some q ∧ q.1 = s ∧ ∀ q' ∈ l.take i, q'.1 ≠ s
set_option maxRecDepth 4000 in
set_option maxHeartbeats 2000000 in
theorem IndexFunc_ret {w : World} {v : Value} {l : List (Int × Ed)} {ab : Nat} {a : Ans} (hrow : Row w v 147 7 l.length (fl pdV l)) (hA : At w ab (cel a.vals 123)) (hl : l.length < 1000) :
    Rets Tryz.prog 208 [v, delV ab] w fun u w' => ∃ r, u = I r ∧ Fst l a.seq r ∧ Frm0 w w' := by
  obtain ⟨va, vc, rfl⟩ := hrow.isSl
  refine rets_of Tryz.func208 (by kernel_rfl) rfl Tryz.ntmps208 (Nat.le_of_ble_eq_true rfl) ?_
  refine runG08 ?_
  refine lp (fun env w' => ∃ env0, ∃ j : Nat, env = setL env0 [(0, .slice va l.length vc), (1, delV ab), (7, I l.length), (8, I j)] ∧ j ≤ l.length ∧ (∀ q ∈ l.take j, q.1 ≠ a.seq) ∧ Frm0 w w') (fun env _ => l.length - cnt (env 8)) ?_ ?_
  · exact ⟨_, 0, fixL ⟨rfl, rfl, rfl, rfl, trivial⟩, by omega, fun q hq => by simp at hq, Frm.refl _ _⟩
  · rintro env w1 ⟨env0, j, rfl, hj, hno, hF⟩
    by_cases hlt : j < l.length
    · obtain ⟨q, hq⟩ : ∃ q, l[j]? = some q := ⟨_, List.getElem?_eq_getElem hlt⟩
      rcases hrow with ⟨_, h0, _⟩ | ⟨b, cap, rest, e, hB, hpl, hr, hc⟩
      · omega
      cases e
      have hB1 := hF.at0 hB
      refine runG08 ?_
      refine s_val (r_loadV (vs := pdV q) (u_ok rfl) rfl (s_ok rfl) rfl hB1 (by rw [List.length_append, fl_len pd_lenQ]; omega) (pd_sub hq rest)) wnt_none ?_
      refine s_callv (caps := [Ptr ab]) rfl (get1_ret (hF.at0 hA) q) rfl wnt_none ?_
      rintro v w2 ⟨rfl, f2⟩
      by_cases he : q.1 = a.seq
      · rw [decide_eq_true he]
        refine runG08 ?_
        exact ret_i rfl rfl ⟨_, rfl, .inr ⟨j, q, rfl, hq, he, hno⟩, hF.trans0 f2⟩
      · rw [decide_eq_false he]
        refine runG08 ?_
        refine ⟨_, rfl, ⟨_, j + 1, fixL ⟨rfl, rfl, rfl, rfl, trivial⟩, by omega, ?_, hF.trans0 f2⟩, by show l.length - ((j : Int) + 1).toNat < l.length - (j : Int).toNat; omega⟩
        intro q' hq'
        rw [take_snoc hq] at hq'
        rcases List.mem_append.1 hq' with h9 | h9
        · exact hno q' h9
        · simp at h9
          subst h9
          exact he
    · have hje : j = l.length := by omega
      subst hje
      rw [List.take_length] at hno
      refine runG08 ?_
      exact ret_i rfl rfl ⟨_, rfl, .inl ⟨rfl, hno⟩, hF⟩
theorem del_keep {K : List (Int × Ed)} {mid tl : List Value} {x : Int × Ed} (h : 7 ≤ mid.length) : put (fl pdV K ++ (mid ++ (pdV x ++ tl))) (K.length * 7) (pdV x) = fl pdV (K ++ [x]) ++ ((mid.drop 7 ++ pdV x) ++ tl) := by
  rw [← fl_len pd_lenQ K, put_right, put_head _ _ (by rw [List.length_append, pd_lenQ]; omega), fl_append, pd_lenQ, List.drop_append_of_le_length h]
  simp [fl]
theorem filt_none {l : List (Int × Ed)} {s : Int} (h : ∀ q ∈ l, q.1 ≠ s) : l.filter (fun q => !decide (q.1 = s)) = l := List.filter_eq_self.2 (fun q hq => by simp [h q hq])
set_option maxRecDepth 4000 in
set_option maxHeartbeats 4000000 in
theorem DeleteFunc_ret {w : World} {v : Value} {l : List (Int × Ed)} {ab : Nat} {a : Ans} (hrow : Row w v 147 7 l.length (fl pdV l)) (hA : At w ab (cel a.vals 123)) (hab : ¬ InV v ab) (hl : l.length < 1000) :
    Rets Tryz.prog 206 [v, delV ab] w fun u w' => Row w' u 147 7 (l.filter fun q => !decide (q.1 = a.seq)).length (fl pdV (l.filter fun q => !decide (q.1 = a.seq))) ∧ Frm (InV v) w w' ∧ ∀ b, InV u b → InV v b := by
  obtain ⟨va, vc, rfl⟩ := hrow.isSl
  refine rets_of Tryz.func206 (by kernel_rfl) rfl Tryz.ntmps206 (Nat.le_of_ble_eq_true rfl) ?_
  refine runG08 ?_
  refine s_callf (IndexFunc_ret hrow hA hl) rfl wnt_none ?_
  rintro u w1 ⟨r, rfl, hr, f1⟩
  rcases hr with ⟨rfl, hno⟩ | ⟨i0, q0, rfl, hq0, hs0, hno⟩
  · refine runG08 ?_
    refine ret_s rfl rfl ⟨?_, f1.mono (fun _ h => h.elim), fun b hb => hb⟩
    rw [filt_none hno]
    exact hrow.frm f1 (fun _ _ h => h)
  · have hi0 := (List.getElem?_eq_some_iff.1 hq0).1
    rcases hrow with ⟨_, h0, _⟩ | ⟨b, cap, rest, e, hB, hpl, hroom, hc⟩
    · omega
    cases e
    have hbb : ¬ ab = b := fun e => hab ⟨_, _, _, by rw [e]⟩
    have hT : (l.take i0).filter (fun q => !decide (q.1 = a.seq)) = l.take i0 := filt_none hno
    refine runG08 ?_
    refine lp (fun env w' => ∃ env0, ∃ (i j : Nat) (K : List (Int × Ed)) (mid : List Value), env = setL env0 [(0, .slice (some ⟨b, 0, none⟩) l.length vc), (1, delV ab), (5, I i), (6, I j)] ∧ K = (l.take j).filter (fun q => !decide (q.1 = a.seq)) ∧ K.length = i ∧ i < j ∧ j ≤ l.length ∧ mid.length = (j - i) * 7 ∧ At w' b (cel (fl pdV K ++ (mid ++ (fl pdV (l.drop j) ++ rest))) 147) ∧ Frm (InV (.slice (some ⟨b, 0, none⟩) l.length vc)) w w') (fun env _ => l.length - cnt (env 6)) ?_ ?_
    · refine ⟨_, i0, i0 + 1, l.take i0, pdV q0, fixL ⟨rfl, rfl, rfl, rfl, trivial⟩, ?_, by rw [List.length_take]; omega, by omega, by omega, by rw [pd_lenQ]; omega, ?_, f1.mono (fun _ h => h.elim)⟩
      · rw [take_snoc hq0, List.filter_append, hT, List.filter_cons_of_neg (by simp [hs0])]
        simp
      · have := f1.at0 hB
        rw [fl_take_drop pdV hq0] at this
        exact this
    · rintro env w2 ⟨env0, i, j, K, mid, rfl, hK, hKl, hij, hj, hmid, hB2, f2⟩
      have hblen : (fl pdV K ++ (mid ++ (fl pdV (l.drop j) ++ rest))).length = l.length * 7 + rest.length := by
        rw [List.length_append, List.length_append, List.length_append, fl_len pd_lenQ, fl_len pd_lenQ, List.length_drop, hmid, hKl]
        omega
      by_cases hlt : j < l.length
      · obtain ⟨q, hq⟩ : ∃ q, l[j]? = some q := ⟨_, List.getElem?_eq_getElem hlt⟩
        have hdr : l.drop j = q :: l.drop (j + 1) := by
          rw [List.drop_eq_getElem_cons hlt]
          have : l[j] = q := by rw [List.getElem?_eq_getElem hlt] at hq; exact Option.some.inj hq
          rw [this]
        have hsub : sub (fl pdV K ++ (mid ++ (fl pdV (l.drop j) ++ rest))) (0 + (j : Int).toNat * 7) 7 = pdV q := by
          rw [hdr]
          have h3 := mid_sub (x := pdV q) (post := fl pdV (l.drop (j + 1)) ++ rest) (n := 7) (fl pdV K ++ mid) 0 (Nat.le_refl 7)
          rw [sub_all' (pd_lenQ q)] at h3
          have h4 : (fl pdV K ++ mid).length + 0 = 0 + (j : Int).toNat * 7 := by rw [List.length_append, fl_len pd_lenQ, hKl, hmid]; omega
          rw [h4] at h3
          simpa [fl] using h3
        have hA2 := f2.at hab hA
        refine runG08 ?_
        refine s_val (r_loadV (vs := pdV q) (u_ok rfl) rfl (s_ok rfl) rfl hB2 (by rw [hblen]; omega) hsub) wnt_none ?_
        refine runG08 ?_
        refine s_skip (r_storeAll (vs := pdV q) (s_ok rfl) rfl rfl (pd_one q) (at_alloc_new w2 _) rfl) wnt_none ?_
        have hv3 := at_setB (cel (pdV q) 147) (at_alloc_new w2 (cel [I 0, I 0, I 0, I 0, I 0, I 0, I 0] 147))
        have f3 : Frm0 w2 (setB (w2.alloc (cel [I 0, I 0, I 0, I 0, I 0, I 0, I 0] 147)) w2.heap.size (cel (pdV q) 147)) := (Frm.of_alloc w2 _).setB (.inr (Nat.le_refl _)) _
        generalize setB (w2.alloc (cel [I 0, I 0, I 0, I 0, I 0, I 0, I 0] 147)) w2.heap.size (cel (pdV q) 147) = w3 at *
        have hbw := at_lt hB2
        refine runG08 ?_
        rw [show sub (pdV q) 0 7 = pdV q from rfl]
        refine s_callv (caps := [Ptr ab]) rfl (get1_ret (f3.at0 hA2) q) rfl wnt_none ?_
        rintro u w4 ⟨rfl, f4⟩
        have hB4 := f4.at0 (f3.at0 hB2)
        have hv4 := f4.at0 hv3
        have f24 : Frm0 w2 w4 := f3.trans0 f4
        by_cases he : q.1 = a.seq
        · rw [decide_eq_true he]
          refine runG08 ?_
          refine ⟨_, rfl, ⟨_, i, j + 1, K, mid ++ pdV q, fixL ⟨rfl, rfl, rfl, rfl, trivial⟩, ?_, hKl, by omega, by omega, by rw [List.length_append, pd_lenQ, hmid]; omega, ?_, f2.trans0 f24⟩, by show l.length - ((j : Int) + 1).toNat < l.length - (j : Int).toNat; omega⟩
          · rw [take_snoc hq, List.filter_append, ← hK, List.filter_cons_of_neg (by simp [he])]
            simp
          · rw [hdr] at hB4
            simpa [fl] using hB4
        · rw [decide_eq_false he]
          refine runG08 ?_
          rw [show sub (pdV q) 0 7 = pdV q from rfl]
          refine s_skip (r_storeA (vs := pdV q) (s_ok rfl) rfl rfl rfl (pd_one q) hB4 (by rw [hblen]; omega)) wnt_none ?_
          refine runG08 ?_
          refine ⟨_, rfl, ⟨_, i + 1, j + 1, K ++ [q], mid.drop 7 ++ pdV q, fixL ⟨rfl, rfl, rfl, rfl, trivial⟩, ?_, by rw [List.length_append, hKl]; rfl, by omega, by omega, by rw [List.length_append, List.length_drop, pd_lenQ, hmid]; omega, ?_, (f2.trans0 f24).setB (b := b) (.inl ⟨_, _, _, rfl⟩) _⟩, by show l.length - ((j : Int) + 1).toNat < l.length - (j : Int).toNat; omega⟩
          · rw [take_snoc hq, List.filter_append, ← hK, List.filter_cons_of_pos (by simp [he])]
            simp
          · have h9 : put (fl pdV K ++ (mid ++ (fl pdV (l.drop j) ++ rest))) (0 + (i : Int).toNat * 7) (pdV q) = fl pdV (K ++ [q]) ++ ((mid.drop 7 ++ pdV q) ++ (fl pdV (l.drop (j + 1)) ++ rest)) := by
              rw [hdr, show 0 + (i : Int).toNat * 7 = K.length * 7 by rw [hKl]; omega]
              have := del_keep (K := K) (mid := mid) (tl := fl pdV (l.drop (j + 1)) ++ rest) (x := q) (by rw [hmid]; omega)
              rw [← this]
              simp [fl]
            rw [h9]
            exact at_setB _ hB4
      · have hje : j = l.length := by omega
        subst hje
        rw [List.take_length] at hK
        rw [List.drop_length] at hB2
        simp only [fl, List.nil_append] at hB2
        have hzl : (Builtin.zeroCells ((Value.agg #[I 0, I 0, I 0, I 0, I 0, I 0, I 0]).cells) (l.length - i)).toList.length = (l.length - i) * 7 := by simp [Builtin.zeroCells, Value.cells]
        refine runG08 ?_
        refine s_val (r_sl rfl rfl rfl rfl (sliceFrom_run (u_ok rfl) (s_ok rfl) (by omega))) wnt_none ?_
        rw [if_neg (by omega)]
        simp only [Option.map_some, add_none]
        refine s_val0 (r_clear rfl (by omega) (u_ok rfl) (z_ok rfl) rfl hB2 ?_ ?_) wnt_none ?_
        · refine Nat.le_trans (Nat.add_le_add_left (Nat.le_of_eq hzl) _) ?_
          rw [List.length_append, List.length_append, fl_len pd_lenQ, hKl, hmid]
          omega
        · intro u hu
          have hu' : u ∈ (Builtin.zeroCells ((Value.agg #[I 0, I 0, I 0, I 0, I 0, I 0, I 0]).cells) (l.length - i)).toList := hu
          simp only [Builtin.zeroCells, Array.toList_map, List.mem_map] at hu'
          obtain ⟨q, _, rfl⟩ := hu'
          have h7 : q % 7 = 0 ∨ q % 7 = 1 ∨ q % 7 = 2 ∨ q % 7 = 3 ∨ q % 7 = 4 ∨ q % 7 = 5 ∨ q % 7 = 6 := by omega
          show one ((Value.agg #[I 0, I 0, I 0, I 0, I 0, I 0, I 0]).cells[q % 7]!) = true
          rcases h7 with h | h | h | h | h | h | h <;> rw [h] <;> rfl
        refine runG08 ?_
        refine s_val (r_sl rfl rfl rfl rfl (sliceTo_run (k := i) (u_ok rfl) (s_ok rfl) (by omega))) wnt_none ?_
        rw [if_neg (by omega)]
        simp only [Option.map_some, add_none]
        refine runG08 ?_
        have hput : ∀ zs : List Value, zs.length = (l.length - i) * 7 → put (fl pdV K ++ (mid ++ rest)) (0 + i * 7) zs = fl pdV K ++ (zs ++ rest) := fun zs hz => by
          rw [Nat.zero_add, ← hKl, ← fl_len pd_lenQ K, put_right, put_head _ _ (by rw [List.length_append]; omega), List.drop_append_of_le_length (by omega), List.drop_eq_nil_of_le (by omega), List.nil_append]
        refine ret_s rfl rfl ⟨?_, f2.setB (b := b) (.inl ⟨_, _, _, rfl⟩) _, fun c hc => ?_⟩
        · rw [← hK, hput _ hzl, hKl]
          refine .inr ⟨b, vc, _, by simp, at_setB _ hB2, by rw [fl_len pd_lenQ, hKl], ?_, by omega⟩
          rw [List.length_append, hzl]
          omega
        · obtain ⟨_, _, _, hv⟩ := hc
          injection hv with h1 h2 h3
          injection h1 with h1
          injection h1 with h1
          subst h1
          exact ⟨_, _, _, rfl⟩
end Go.Proofs.YtbicffldggcdhaaGreatDoor

namespace Go.Proofs.YtbicffldggcdhaaGreatDoor
open Go

section
variable {PT : PTy} (sp : TreeSpec PT) {w w' : World} {col col' : Nat → Nat} {k p t : Nat} {lv lv' : Value} {mb cb cap : Nat} {rest : List Value} {ms : List CM} {Q Q' : PPar}
theorem forget_ret (sp : TreeSpec PT) (h : PB PT w col k p t lv mb cb cap rest ms Q) (i s : Int) :
    Rets Tryz.prog 169 [Ptr p, I i, I s] w fun _ w' => PB PT w' col k p t lv mb cb cap rest ms { Q with vd := vdel Q.vd (i, s) } ∧ Ext k w w' col col ∧ Frm (fun b => k ≤ col b ∧ col b < k + 4) w w' := by
  have hh := h.head
  obtain ⟨es, cl, hm, hE⟩ := h.map
  obtain ⟨es', hr, hE'⟩ := vdel_run (k := (i, s)) (ty := 0) hm hE
  refine rets_of Tryz.func169 (by kernel_rfl) rfl Tryz.ntmps169 (Nat.le_of_ble_eq_true rfl) ?_
  refine runG08 ?_
  refine s_val (r_build rfl (bld_mark _ _ _)) wnt_none ?_
  refine s_val0 (r_delV rfl rfl hr) wnt_none ?_
  refine runG08 ?_
  exact end_0 rfl (h.remap sp hE')
theorem PB.renum (sp : TreeSpec PT) (h : PB PT w col k p t lv mb cb cap rest ms Q) (n : Int) : PB PT (setB w p (cel [Ptr t, I n, I Q.keeps, lv, .map (some mb), .slice (some ⟨cb, 0, none⟩) ms.length cap] 108)) col k p t lv mb cb cap rest ms { Q with n := n } ∧
    Ext k w (setB w p (cel [Ptr t, I n, I Q.keeps, lv, .map (some mb), .slice (some ⟨cb, 0, none⟩) ms.length cap] 108)) col col ∧ Frm (fun b => k ≤ col b ∧ col b < k + 4) w (setB w p (cel [Ptr t, I n, I Q.keeps, lv, .map (some mb), .slice (some ⟨cb, 0, none⟩) ms.length cap] 108)) := by
  obtain ⟨es0, cl0, hm1, hE⟩ := h.map
  have ho := h.own
  have hk := h.cmap
  have e : Ext k w (setB w p (cel [Ptr t, I n, I Q.keeps, lv, .map (some mb), .slice (some ⟨cb, 0, none⟩) ms.length cap] 108)) col col := (Ext.refl h.high).setB
  have f' : Frm (fun b => k ≤ col b ∧ col b < k + 4) w (setB w p (cel [Ptr t, I n, I Q.keeps, lv, .map (some mb), .slice (some ⟨cb, 0, none⟩) ms.length cap] 108)) := (Frm.refl _ w).setB (b := p) (.inl (by omega)) _
  have fp : Frm (fun b => b = p) w (setB w p (cel [Ptr t, I n, I Q.keeps, lv, .map (some mb), .slice (some ⟨cb, 0, none⟩) ms.length cap] 108)) := (Frm.refl (fun b => b = p) w).setB (b := p) (.inl rfl) _
  exact ⟨h.srv sp (Q' := { Q with n := n }) e f' (at_setB _ h.head) (sp.frm h.tree fp (fun b hb e9 => by subst e9; omega)) h.wf (h.log.frm fp (fun b hb e9 => by have := h.clog b hb; subst e9; omega)) h.clog ⟨es0, cl0, fp.at (fun e9 => by subst e9; omega) hm1, hE⟩ rfl, e, f'⟩
/-- The server's tree is edited. -/
theorem PB.retree (sp : TreeSpec PT) {l : List Nd} (h : PB PT w col k p t lv mb cb cap rest ms Q) (hT : PT w' t l (fun b => col b = k + 1 ∨ w.heap.size ≤ b)) (hw : Wf l) (f : Frm (fun b => col b = k + 1) w w') :
    PB PT w' (paintA col w.heap.size w'.heap.size (k + 1)) k p t lv mb cb cap rest ms { Q with t := l } ∧ Ext k w w' col (paintA col w.heap.size w'.heap.size (k + 1)) ∧ Frm (fun b => k ≤ col b ∧ col b < k + 4) w w' := by
  obtain ⟨es0, cl0, hm1, hE⟩ := h.map
  have ho := h.own
  have hk := h.cmap
  have e : Ext k w w' col (paintA col w.heap.size w'.heap.size (k + 1)) := paintA_ext h.high f.size (by omega)
  have f' : Frm (fun b => k ≤ col b ∧ col b < k + 4) w w' := f.mono (fun b hb => .inl (by omega))
  refine ⟨h.srv sp (Q' := { Q with t := l }) e f' (f.at (by omega) h.head) (paintA_tree sp hT (by omega) h.high) hw (h.log.frm f (fun b hb => by have := h.clog b hb; omega)) (fun b hb => by rw [e.old b (h.log.lt hb)]; exact h.clog b hb) ⟨es0, cl0, f.at (by omega) hm1, hE⟩ rfl, e, f'⟩
end
theorem r_isnil {ea : List Addr} {w w0 : World} {v : Value} {m : Nat} {e : Ed} {n d t ty2 : Nat} {env : Env} {p : String} {af : Array Edge} {g : Option (Nat × Bool)} {x : Operand} (h : ErrIs ea w0 v m e) (hx : ev n env x = v) :
    (execOp (ev n env) ⟨some d, .binOp .eql 34 x (.const .nilIface) ty2, t, p, af, g⟩).run Tryz.prog w = .ok (.value (.bool (decide (m = 0)))) w := by
  rcases h with ⟨h0, rfl⟩ | ⟨h0, b, a, rfl, _⟩
  · rw [show decide (m = 0) = true by simp [h0]]
    exact r_nn hx
  · rw [show decide (m = 0) = false by simp; omega]
    exact r_in hx
/-- The server goes on. -/
structure SG (k : Nat) (w w' : World) (col col' : Nat → Nat) : Prop where
  ext : Ext k w w' col col'
  frm : Frm (fun b => k ≤ col b ∧ col b < k + 4) w w'
theorem SG.trans {k : Nat} {w w1 w2 : World} {col col1 col2 : Nat → Nat} (h : SG k w w1 col col1) (g : SG k w1 w2 col1 col2) : SG k w w2 col col2 :=
  ⟨h.ext.trans g.ext h.frm.size, h.frm.trans g.frm (fun b hb => by
    rcases Nat.lt_or_ge b w.heap.size with h1 | h1
    · rw [h.ext.old b h1] at hb; exact .inl hb
    · exact .inr h1)⟩
theorem SG.frm0 {k : Nat} {w w1 : World} {col : Nat → Nat} (hh : ∀ b, w.heap.size ≤ b → col b = 0) (f : Frm0 w w1) : SG k w w1 col col := ⟨⟨fun _ _ => rfl, fun b hb => hh b (Nat.le_trans f.size hb), fun b hb => .inl (hh b hb)⟩, f.mono (fun _ h => h.elim)⟩
section
variable {PT : PTy} (sp : TreeSpec PT) {w w' : World} {col col' : Nat → Nat} {k p t : Nat} {lv lv' : Value} {mb cb cap : Nat} {rest : List Value} {ms : List CM} {Q Q' : PPar}
def entQ (Q : PPar) (i s : Int) (e : Ed) : Ent := ⟨i, s, e, decide (refused Q.t e = 0)⟩
def tookQ (Q : PPar) (i s : Int) (e : Ed) : PPar :=
  { Q with t := applyL Q.t e, n := Q.n + 1, log := if Q.keeps < (Q.log ++ [entQ Q i s e]).length then (Q.log ++ [entQ Q i s e]).tail else Q.log ++ [entQ Q i s e], vd := vdel (vput Q.vd (i, s) (Q.n + 1, decide (refused Q.t e = 0))) (i, s - 6) }
set_option maxRecDepth 4000 in
set_option maxHeartbeats 4000000 in
theorem take_ret (sp : TreeSpec PT) (h : PB PT w col k p t lv mb cb cap rest ms Q) {ea : List Addr} (hE : Errs w ea) (hlo : (∀ g ∈ errG, col g = 0) ∧ ∀ a ∈ ea, col a.block = 0) (i s : Int) (e : Ed) (hn : 0 ≤ Q.n ∧ Q.n < 1000000000000000000) (hs : -1000000000000000000 ≤ s ∧ s < 1000000000000000000) (hl : Q.log.length < 1000) (ht : hasT Q.vd i s = false) :
    Rets Tryz.prog 166 [Ptr p, I i, .agg (pdV (s, e)).toArray] w fun v w' => v = .agg (entQ Q i s e).vals.toArray ∧ ∃ col' lv', PB PT w' col' k p t lv' mb cb cap rest ms (tookQ Q i s e) ∧ SG k w w' col col' := by
  have hpos := h.pos
  have f0 : Frm0 w ((w.alloc (cel (pdV (s, e)) 147)).alloc (cel [I 0, I 0, I 0, I 0, I 0, I 0, I 0, I 0, B false] 54)) := ((Frm.refl _ w).alloc _).alloc _
  have hr1 : At ((w.alloc (cel (pdV (s, e)) 147)).alloc (cel [I 0, I 0, I 0, I 0, I 0, I 0, I 0, I 0, B false] 54)) w.heap.size (cel (pdV (s, e)) 147) := at_alloc _ (at_alloc_new _ _)
  have hc1 : At ((w.alloc (cel (pdV (s, e)) 147)).alloc (cel [I 0, I 0, I 0, I 0, I 0, I 0, I 0, I 0, B false] 54)) (w.heap.size + 1) (cel [I 0, I 0, I 0, I 0, I 0, I 0, I 0, I 0, B false] 54) := by
    have := at_alloc_new (w.alloc (cel (pdV (s, e)) 147)) (cel [I 0, I 0, I 0, I 0, I 0, I 0, I 0, I 0, B false] 54)
    rw [World.size_alloc] at this
    exact this
  refine rets_of Tryz.func166 (by kernel_rfl) rfl Tryz.ntmps166 (Nat.le_of_ble_eq_true rfl) ?_
  refine runG08 ?_
  rw [show (w.alloc (cel (pdV (s, e)) 147)).heap.size = w.heap.size + 1 from World.size_alloc _ _]
  generalize (w.alloc (cel (pdV (s, e)) 147)).alloc (cel [I 0, I 0, I 0, I 0, I 0, I 0, I 0, I 0, B false] 54) = w1 at *
  have z0 : col w.heap.size = 0 := h.high _ (Nat.le_refl _)
  have z1 : col (w.heap.size + 1) = 0 := h.high _ (by omega)
  have h1 := h.frm0 sp f0
  have hE1 := hE.frm0 f0
  have hh1 := h1.head
  have hlt := at_lt hr1
  have hlt2 := at_lt hc1
  refine runG08 ?_
  refine w_drawn [(0, false), (1, false), (2, false), (3, false), (4, false), (5, false), (6, false)] [7, 8, 9] (fun wq => Frm0 w1 wq) mixed (by kernel_rfl) ?_ ?_
  · exact Frm.of_drew _
  · have hW := h.wf
    have hd1 := h1.frm0 sp (Frm.of_drew (S := fun _ => False) w1)
    refine runG08 ?_
    refine y_callf rfl (sp.apply (ea := ea) e hd1.tree h.wf (hE1.frm0 (Frm.of_drew _)) (fun g hg hs => by have := hlo.1 g hg; omega) (fun a ha hs => by have := hlo.2 a ha; omega)) rfl wnt_none ?_
    rintro v w2 ⟨hEr, hT2, f2, _⟩
    obtain ⟨h2, e2, f2'⟩ := hd1.retree sp hT2 (hW.apply e) f2
    have G2 : SG k w1 w2 col _ := (SG.frm0 h1.high (Frm.of_drew w1)).trans ⟨e2, f2'⟩
    generalize paintA col w1.drew.heap.size w2.heap.size (k + 1) = col2 at *
    refine y_val rfl (r_isnil hEr rfl) wnt_none ?_
    generalize hdn : decide (refused Q.t e = 0) = dn
    have hzr : ¬ (k ≤ col w.heap.size ∧ col w.heap.size < k + 4) := by omega
    have hzc : ¬ (k ≤ col (w.heap.size + 1) ∧ col (w.heap.size + 1) < k + 4) := by omega
    have hr2 := G2.frm.at hzr hr1
    have hh2 : At w2 p (cel [Ptr t, I Q.n, I Q.keeps, lv, .map (some mb), .slice (some ⟨cb, 0, none⟩) ms.length cap] 108) := h2.head
    clear hT2 f2 hEr hd1
    refine runG08 ?_
    refine s_skip (r_store_i (s_ok rfl) rfl rfl hh2 (by simp)) wnt_none ?_
    obtain ⟨h3, e3, f3⟩ := h2.renum sp (Q.n + 1)
    have G3 := G2.trans ⟨e3, f3⟩
    obtain ⟨w3, hw3⟩ : ∃ w3, w3 = setB w2 p (cel ([Ptr t, I Q.n, I Q.keeps, lv, .map (some mb), .slice (some ⟨cb, 0, none⟩) ms.length cap].set (0 + 0 + 0 + 1) (I (Q.n + 1))) 108) := ⟨_, rfl⟩
    rw [← hw3]
    have h3' : PB PT w3 col2 k p t lv mb cb cap rest ms { Q with t := applyL Q.t e, n := Q.n + 1 } := by rw [hw3]; exact h3
    have G3' : SG k w1 w3 col col2 := by rw [hw3]; exact G3
    clear h3 G3 e3 f3 hw3 hh2
    have hr3 := G3'.frm.at hzr hr1
    refine runG08 ?_
    refine s_val (r_build rfl (bld_entry _ _ _ _ _)) wnt_none ?_
    refine runG08 ?_
    refine s_skip (r_storeAll (vs := (Ent.mk i s e dn).vals) (s_ok rfl) rfl rfl (ent_one _) (at_alloc_new w3 _) rfl) wnt_none ?_
    have hx4 := at_setB (cel (Ent.mk i s e dn).vals 54) (at_alloc_new w3 (cel [I 0, I 0, I 0, I 0, I 0, I 0, I 0, I 0, B false] 54))
    have f4 : Frm0 w3 (setB (w3.alloc (cel [I 0, I 0, I 0, I 0, I 0, I 0, I 0, I 0, B false] 54)) w3.heap.size (cel (Ent.mk i s e dn).vals 54)) := (Frm.of_alloc w3 _).setB (.inr (Nat.le_refl _)) _
    have ze : col2 w3.heap.size = 0 := h3'.high _ (Nat.le_refl _)
    generalize w3.heap.size = eb at *
    generalize setB (w3.alloc (cel [I 0, I 0, I 0, I 0, I 0, I 0, I 0, I 0, B false] 54)) eb (cel (Ent.mk i s e dn).vals 54) = w4 at *
    have h4 := h3'.frm0 sp f4
    have G4 := G3'.trans (SG.frm0 h3'.high f4)
    have hh4 : At w4 p (cel [Ptr t, I (Q.n + 1), I Q.keeps, lv, .map (some mb), .slice (some ⟨cb, 0, none⟩) ms.length cap] 108) := h4.head
    have hze : ¬ (k ≤ col2 eb ∧ col2 eb < k + 4) := by omega
    obtain ⟨la, lc, rfl⟩ := h4.log.isSl
    have hnl : ¬ InV (.slice la Q.log.length lc) p := fun h9 => by have := h4.clog p h9; have := h4.own; omega
    have hnx : ¬ InV (.slice la Q.log.length lc) eb := fun h9 => by have := h4.clog eb h9; omega
    refine runG08 ?_
    refine w_drawn [(0, false), (1, false), (2, false), (3, false), (4, false), (5, false), (6, true), (7, true), (8, false), (9, false)] [10] (fun wq => Frm (InV (.slice la Q.log.length lc)) w4 wq) mixed (by kernel_rfl) ?_ ?_
    · exact Frm.of_drew _
    · refine runG08 ?_
      refine x_val rfl (r_bs rfl (bs_entry _ _)) wnt_none ((Frm.of_drew w4).alloc _) ?_
      have hFa : Frm0 w4 (w4.drew.alloc (cel (Ent.mk i s e dn).vals 54)) := (Frm.of_drew w4).alloc _
      obtain ⟨v5, w5, e5, r5, f5, n5⟩ := append_entQ (ty := 46) (q := ⟨i, s, e, dn⟩) (h4.log.frm hFa (fun _ _ h => h)) (seg_new rfl) (by show Q.log.length < 1000000; omega)
      have f5' : Frm (InV (.slice la Q.log.length lc)) w4 w5 := (hFa.mono (fun _ h => h.elim)).trans f5 (fun b hb => .inl hb)
      have n5' : ∀ b, InV v5 b → InV (.slice la Q.log.length lc) b ∨ w4.heap.size ≤ b := fun b hb => (n5 b hb).imp id (fun h => Nat.le_trans hFa.size h)
      refine x_val rfl (r_app rfl rfl e5) wnt_none f5' ?_
      have hh5 := f5'.at hnl hh4
      obtain ⟨h6, e6, f6⟩ := h4.relog sp f5' r5 n5'
      obtain ⟨xa, xc, rfl⟩ := r5.isSl
      refine runG08 ?_
      refine y_skip rfl (r_store_s (s_ok rfl) rfl rfl hh5 (by simp)) wnt_none ?_
      obtain ⟨w6, hw6⟩ : ∃ w6, w6 = setB w5 p (cel ([Ptr t, I (Q.n + 1), I Q.keeps, .slice la Q.log.length lc, .map (some mb), .slice (some ⟨cb, 0, none⟩) ms.length cap].set (0 + 0 + 3) (.slice xa (Q.log ++ [(⟨i, s, e, dn⟩ : Ent)]).length xc)) 108) := ⟨_, rfl⟩
      rw [← hw6]
      obtain ⟨col6, hc6⟩ : ∃ col6, col6 = paint col2 w4.heap.size (.slice xa (Q.log ++ [(⟨i, s, e, dn⟩ : Ent)]).length xc) (k + 2) := ⟨_, rfl⟩
      have h6' : PB PT w6 col6 k p t (.slice xa (Q.log ++ [(⟨i, s, e, dn⟩ : Ent)]).length xc) mb cb cap rest ms { Q with t := applyL Q.t e, n := Q.n + 1, log := Q.log ++ [⟨i, s, e, dn⟩] } := by rw [hw6, hc6]; exact h6
      have g6 : SG k w4 w6 col2 col6 := by rw [hw6, hc6]; exact ⟨e6, f6⟩
      have hx6 := g6.frm.at hze hx4
      clear hw6 hc6 h6 e6 f6
      have hh6 : At w6 p (cel [Ptr t, I (Q.n + 1), I Q.keeps, .slice xa (Q.log ++ [(⟨i, s, e, dn⟩ : Ent)]).length xc, .map (some mb), .slice (some ⟨cb, 0, none⟩) ms.length cap] 108) := h6'.head
      refine runG08 ?_
      refine w_drawn [(0, false), (1, false), (2, false), (3, false), (4, false), (5, false), (6, false), (7, false), (8, false), (9, false)] [] (fun wq => Frm0 w6 wq) mixed (by kernel_rfl) ?_ ?_
      · exact Frm.of_drew _
      · refine runG08 ?_
        have fd : Frm0 w6 w6.drew := Frm.of_drew _
        have hd6 := h6'.frm0 sp fd
        have hhd : At w6.drew p (cel [Ptr t, I (Q.n + 1), I Q.keeps, .slice xa (Q.log ++ [(⟨i, s, e, dn⟩ : Ent)]).length xc, .map (some mb), .slice (some ⟨cb, 0, none⟩) ms.length cap] 108) := hd6.head
        refine wpIn_mono (Q := fun e' act w' => e' = .normal ∧ ∃ (env' : Env) (col7 : Nat → Nat) (la7 : Option Addr) (lc7 : Nat), act = rep 84 [] env' ∧ AllL env' [(0, Ptr p), (1, I i), (5, Ptr w.heap.size), (6, Ptr (w.heap.size + 1)), (7, B dn), (8, Ptr eb)] ∧
          PB PT w' col7 k p t (.slice la7 (if Q.keeps < (Q.log ++ [(⟨i, s, e, dn⟩ : Ent)]).length then (Q.log ++ [(⟨i, s, e, dn⟩ : Ent)]).tail else Q.log ++ [(⟨i, s, e, dn⟩ : Ent)]).length lc7) mb cb cap rest ms { Q with t := applyL Q.t e, n := Q.n + 1, log := if Q.keeps < (Q.log ++ [(⟨i, s, e, dn⟩ : Ent)]).length then (Q.log ++ [(⟨i, s, e, dn⟩ : Ent)]).tail else Q.log ++ [(⟨i, s, e, dn⟩ : Ent)] } ∧ SG k w6.drew w' col6 col7) ?_ ?_
        · refine c_dec rfl (fun hk => ?_) (fun hk => ?_)
          · rw [if_pos hk]
            obtain ⟨y, ys, hy⟩ : ∃ y ys, Q.log ++ [(⟨i, s, e, dn⟩ : Ent)] = y :: ys := by
              cases hq : Q.log with
              | nil => exact ⟨_, _, rfl⟩
              | cons y ys => exact ⟨y, ys ++ [⟨i, s, e, dn⟩], rfl⟩
            have hrow : Row w6.drew (.slice xa (Q.log ++ [(⟨i, s, e, dn⟩ : Ent)]).length xc) 54 9 (ys.length + 1) (y.vals ++ fl Ent.vals ys) := by
              have := hd6.log
              rw [show (PPar.log { Q with t := applyL Q.t e, n := Q.n + 1, log := Q.log ++ [⟨i, s, e, dn⟩] }) = y :: ys from hy] at this
              exact this
            have hnp : ¬ InV (.slice xa (Q.log ++ [(⟨i, s, e, dn⟩ : Ent)]).length xc) p := fun h9 => by have := hd6.clog p h9; have := hd6.own; omega
            refine runG08 ?_
            refine s_callf (DelEnt_ret hrow rfl (fl_one ent_one ys)) rfl wnt_none ?_
            rintro v w7 ⟨r7, f7, n7⟩
            have hh7 := f7.at hnp hhd
            obtain ⟨h8, e8, f8⟩ := hd6.relog sp f7 r7 (fun b hb => .inl (n7 b hb))
            obtain ⟨ya, yc, rfl⟩ := r7.isSl
            refine runG08 ?_
            refine s_skip (r_store_s (s_ok rfl) rfl rfl hh7 (by simp)) wnt_none ?_
            refine runG08 ?_
            refine ⟨rfl, _, _, ya, yc, rfl, ⟨rfl, rfl, rfl, rfl, rfl, rfl, trivial⟩, ?_, ⟨e8, f8⟩⟩
            rw [hy]
            exact h8
          · rw [if_neg hk]
            refine runG08 ?_
            exact ⟨rfl, _, _, xa, xc, rfl, ⟨rfl, rfl, rfl, rfl, rfl, rfl, trivial⟩, hd6, SG.frm0 hd6.high (Frm.refl _ _)⟩
        · rintro e' act w7 ⟨rfl, env', col7, la7, lc7, rfl, hall, h7, g7⟩
          rw [fixL hall]
          refine q_then ?_
          have hle6 : eb < w6.heap.size := at_lt hx6
          have g6d : SG k w6 w6.drew col6 col6 := SG.frm0 h6'.high fd
          have G7 : SG k w1 w7 col col7 := ((G4.trans g6).trans g6d).trans g7
          have H7 : SG k w4 w7 col2 col7 := (g6.trans g6d).trans g7
          have hx7 := H7.frm.at hze hx4
          have hr7 := G7.frm.at hzr hr1
          have hc7 := G7.frm.at hzc hc1
          clear hall
          generalize hlg : (if Q.keeps < (Q.log ++ [(⟨i, s, e, dn⟩ : Ent)]).length then (Q.log ++ [(⟨i, s, e, dn⟩ : Ent)]).tail else Q.log ++ [(⟨i, s, e, dn⟩ : Ent)]) = lg at *
          have hh7 : At w7 p (cel [Ptr t, I (Q.n + 1), I Q.keeps, .slice la7 lg.length lc7, .map (some mb), .slice (some ⟨cb, 0, none⟩) ms.length cap] 108) := h7.head
          obtain ⟨es, cl, hm, hEm⟩ := h7.map
          have hvn : vfind (i, s) Q.vd 0 = none := by
            have := vfind_has (i := i) (s := s) (l := Q.vd) (n := 0)
            rw [ht] at this
            cases hv : vfind (i, s) Q.vd 0 with
            | none => rfl
            | some x => rw [hv] at this; cases this
          obtain ⟨es', cl', hu, hE'⟩ := vupd_run (w := w7.drew) (k := (i, s)) (v := (Q.n + 1, dn)) (at_drew hm) hEm hvn
          refine runG08 ?_
          refine w_drawn ((0, false) :: (1, false) :: (2, false) :: (3, false) :: (4, false) :: (5, false) :: (6, false) :: (7, false) :: (8, false) :: (9, false) :: (10, false) :: (11, false) :: (12, false) :: (13, false) :: (14, false) :: []) [15] (fun wq => Frm0 w7 wq) mixed (by kernel_rfl) ?_ ?_
          · exact Frm.of_drew _
          · refine runG08 ?_
            refine x_q rfl (fun wq hq => r_build rfl (bld_mark _ _ wq)) wnt_none ?_
            refine runG08 ?_
            refine x_q rfl (fun wq hq => r_build rfl (bld_verdict _ _ wq)) wnt_none ?_
            refine runG08 ?_
            refine y_skip rfl (r_upd rfl rfl rfl hu) wnt_none ?_
            have fd7 : Frm0 w7 w7.drew := Frm.of_drew _
            obtain ⟨h8, e8, f8⟩ := (h7.frm0 sp fd7).remap sp hE'
            have G8 : SG k w1 _ col col7 := (G7.trans (SG.frm0 h7.high fd7)).trans ⟨e8, f8⟩
            have H8 : SG k w4 _ col2 col7 := (H7.trans (SG.frm0 h7.high fd7)).trans ⟨e8, f8⟩
            generalize setB w7.drew mb (.map es' cl') = w8 at *
            have hr8 := G8.frm.at hzr hr1
            refine runG08 ?_
            refine s_callf (forget_ret sp h8 i (s - 6)) rfl wnt_none ?_
            rintro v w9 ⟨h9, e9, f9⟩
            have G9 := G8.trans ⟨e9, f9⟩
            have H9 := H8.trans ⟨e9, f9⟩
            have hx9 := H9.frm.at hze hx4
            have hc9 := G9.frm.at hzc hc1
            refine runG08 ?_
            refine s_skip (r_storeAll (vs := (Ent.mk i s e dn).vals) (s_ok rfl) rfl rfl (ent_one _) hc9 rfl) wnt_none ?_
            refine runG08 ?_
            have z9 : col7 (w.heap.size + 1) = 0 := by rw [G7.ext.old _ hlt2]; exact z1
            have f10 : Frm (fun b => b = w.heap.size + 1) w9 (setB w9 (w.heap.size + 1) (cel (Ent.mk i s e dn).vals 54)) := (Frm.refl (fun b => b = w.heap.size + 1) w9).setB (b := w.heap.size + 1) (.inl rfl) _
            have hq : tookQ Q i s e = { Q with t := applyL Q.t e, n := Q.n + 1, log := lg, vd := vdel (vput Q.vd (i, s) (Q.n + 1, dn)) (i, s - 6) } := by
              unfold tookQ entQ
              rw [hdn, hlg]
            have hx : entQ Q i s e = ⟨i, s, e, dn⟩ := by unfold entQ; rw [hdn]
            have Gw := (SG.frm0 h.high f0).trans G9
            refine ret_cA rfl (u_ok rfl) rfl (s_ok rfl) rfl (at_setB _ hc9) rfl ⟨by rw [hx], col7, .slice la7 lg.length lc7, ?_, ⟨Gw.ext.setB, Gw.frm.setB (b := w.heap.size + 1) (.inr (by omega)) _⟩⟩
            rw [hq]
            exact h9.frm sp f10 (fun b h1 h2 h3 => by subst h3; omega) (fun b hb => by rw [size_setB] at hb; exact h9.high b hb)
end
end Go.Proofs.YtbicffldggcdhaaGreatDoor

namespace Go.Proofs.YtbicffldggcdhaaGreatDoor
open Go

theorem DIs.one {PT : PTy} {w : World} {F G : Nat → Prop} {u : Value} {m : DMsg} (h : DIs PT w F G u m) : Go.Proofs.YtbicffldggcdhaaGreatDoor.one u = true := by
  cases m with
  | inl x => rw [show u = _ from h]; rfl
  | inr q9 => obtain ⟨t, n, ans⟩ := q9; obtain ⟨tp, av, h1, _⟩ := h; rw [h1]; rfl
theorem append_ds {PT : PTy} (sp : TreeSpec PT) {w : World} {F G : Nat → Prop} {v s : Value} {A C : List DMsg} {ty : Nat} (hrow : DsAt PT w F G v A) (hs : DsAt PT w F G s C) (hF : ∀ b, F b → ¬ InV v b) (hG : ∀ b, G b → ¬ InV v b) (hcap : A.length + C.length < 1000000000000) :
    ∃ v' w', (Builtin.append_ #[115, 115] ty #[v, s]).run Tryz.prog w = .ok v' w' ∧ DsAt PT w' F G v' (A ++ C) ∧ Frm (InV v) w w' ∧ ∀ b, InV v' b → InV v b ∨ w.heap.size ≤ b := by
  obtain ⟨us, h1, h2⟩ := hrow
  obtain ⟨xs, g1, g2⟩ := hs
  have hl : xs.length = C.length := by
    rcases g1 with ⟨_, h0, rfl⟩ | ⟨b, cap, rest, _, _, hl, _⟩
    · rw [h0]; rfl
    · omega
  have hul : us.length = A.length := by
    rcases h1 with ⟨_, h0, rfl⟩ | ⟨b, cap, rest, _, _, hl, _⟩
    · rw [h0]; rfl
    · omega
  obtain ⟨v', w', e1, e2, e3, e4⟩ := append_seg (P := Tryz.prog) (sz := 1) (by' := 16) (ty := ty) (sT := 115) (u_ok rfl) (u_ok rfl) (fun kk h => by cases h) (s_ok rfl) (b_ok rfl) (z_ok rfl) rfl h1 g1.seg (fun u hu => by
    obtain ⟨i, hi⟩ := List.getElem?_of_mem hu
    have hlt := (List.getElem?_eq_some_iff.1 hi).1
    exact (g2 i u _ hi (List.getElem?_eq_getElem (by omega))).one) (by omega) (by omega)
  refine ⟨v', w', e1, ⟨us ++ xs, by rw [List.length_append]; exact e2, fun i u m hu hm => ?_⟩, e3, e4⟩
  by_cases hi : i < us.length
  · rw [List.getElem?_append_left hi] at hu
    rw [List.getElem?_append_left (by omega)] at hm
    exact (h2 i u m hu hm).frm sp e3 hF hG
  · rw [List.getElem?_append_right (by omega)] at hu
    rw [List.getElem?_append_right (by omega), ← hul] at hm
    exact (g2 _ u m hu hm).frm sp e3 hF hG
theorem bld_news (x : Ent) (w : World) : (Instr.build 262 [(0, .agg x.vals.toArray)].toArray).run Tryz.prog w = .ok (.agg x.vals.toArray) w := by kernel_rfl
theorem ds_one {PT : PTy} {w : World} {F G : Nat → Prop} {T : Nat} {u : Value} {m : DMsg} (h : ∀ w', Frm0 w w' → DIs PT w' F G (.iface T u) m) : DsAt PT (w.alloc (cel [.iface T u] 172)) F G (.slice (some ⟨w.heap.size, 0, none⟩) 1 1) [m] := by
  refine ⟨[.iface T u], .inr ⟨w.heap.size, 1, [], rfl, at_alloc_new _ _, rfl, rfl, Nat.le_refl _⟩, fun i v y hv hy => ?_⟩
  have hl := (List.getElem?_eq_some_iff.1 hv).1
  simp at hl
  subst hl
  simp at hv hy
  subst hv hy
  exact h _ (Frm.of_alloc _ _)
section
variable {PT : PTy} (sp : TreeSpec PT) {w : World} {col : Nat → Nat} {k0 k cb : Nat} {pre post : List Value} {bq sq t : Nat} {pd an up dn : Value} {c : PCli}
theorem tell_ret (sp : TreeSpec PT) (h : CAt PT w col k0 k cb pre post bq sq t pd an up dn c) (x : Ent) (hb : c.down.length < 900000000000) :
    Rets Tryz.prog 167 [.pointer (some ⟨cb, pre.length + 4, none⟩), .agg x.vals.toArray] w fun _ w' => CRes PT w w' col k0 k cb pre post (tellD x c) := by
  have hF0 : Frm0 w (w.alloc (cel x.vals 54)) := Frm.of_alloc _ _
  have hbox := at_alloc_new w (cel x.vals 54)
  have hk := h.hk
  have h1 := h.frm0 sp hF0
  have hrow := h1.row
  have hz : col w.heap.size = 0 := h.high _ (Nat.le_refl _)
  refine rets_of Tryz.func167 (by kernel_rfl) rfl Tryz.ntmps167 (Nat.le_of_ble_eq_true rfl) ?_
  refine runG08 ?_
  generalize w.alloc (cel x.vals 54) = w1 at *
  cases ht : c.told with
  | false =>
    have hd : tellD x c = c := by rw [tellD, ht]; rfl
    rw [hd]
    rw [ht] at hrow
    refine runG08 ?_
    exact end_0 rfl (CRes.of0 h sp hF0)
  | true =>
    have hd : tellD x c = { c with down := c.down ++ [.inl x] } := by rw [tellD, ht]; rfl
    rw [hd]
    rw [ht] at hrow
    obtain ⟨da, dc, rfl⟩ := h1.m.down.isSl
    have hq := h1.m.q
    have hnd : ¬ InV (.slice da c.down.length dc) cb := fun h9 => by have := h1.m.cdown cb h9; have := h1.own; omega
    have hnb : ¬ InV (.slice da c.down.length dc) w.heap.size := fun h9 => by have := h1.m.cdown _ h9; omega
    refine runG08 ?_
    refine w_drawn [(0, false), (1, false), (2, false), (3, false), (4, false), (5, false), (6, false), (7, false), (8, true), (9, true), (10, false), (11, false)] [12] (fun wq => Frm (InV (.slice da c.down.length dc)) w1 wq) mixed (by kernel_rfl) ?_ ?_
    · exact Frm.of_drew _
    · refine runG08 ?_
      refine x_q rfl (fun wq hq => r_build rfl (bld_news _ wq)) wnt_none ?_
      refine runG08 ?_
      refine x_val rfl (r_bs rfl (bs_um _ _ _)) wnt_none ((Frm.of_drew w1).alloc _) ?_
      have hFb : Frm0 w1 (w1.drew.alloc (cel [.iface 262 (.agg x.vals.toArray)] 172)) := (Frm.of_drew w1).alloc _
      obtain ⟨v2, w2, e2, r2, f2, n2⟩ := append_ds sp (ty := 115) (C := [.inl x]) (h1.m.down.frm sp hFb (fun _ _ h => h) (fun _ _ h => h) (fun _ _ h => h)) (ds_one (m := .inl x) (fun _ _ => rfl)) (fun b hb h9 => by have := h1.m.cdown b h9; omega) (fun b hb h9 => by have := h1.m.cdown b h9; omega) (by simp; omega)
      have f2' : Frm (InV (.slice da c.down.length dc)) w1 w2 := (hFb.mono (fun _ h => h.elim)).trans f2 (fun b hb => .inl hb)
      have n2' : ∀ b, InV v2 b → InV (.slice da c.down.length dc) b ∨ w1.heap.size ≤ b := fun b hb => (n2 b hb).imp id (fun h => Nat.le_trans hFb.size h)
      refine x_val rfl (r_app rfl rfl e2) wnt_none f2' ?_
      have hrow2 := f2'.at hnd hrow
      obtain ⟨h3, g3⟩ := h1.redown sp f2' r2 n2'
      obtain ⟨xa, xc, rfl⟩ := r2.isSl
      refine runG08 ?_
      refine y_skip rfl (r_store_s (s_ok rfl) rfl rfl hrow2 (by rw [Nat.add_assoc]; exact clt _ _ _ _ _ _ _ _ (by decide))) wnt_none ?_
      rw [set_dn, ← ht]
      refine runG08 ?_
      exact end_0 rfl ⟨_, _, _, _, _, _, _, _, h3, (CG.frm0 h.high hF0).trans g3⟩
end
end Go.Proofs.YtbicffldggcdhaaGreatDoor
