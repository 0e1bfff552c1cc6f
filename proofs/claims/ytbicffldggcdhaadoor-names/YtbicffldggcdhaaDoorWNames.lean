/-
  The walks of errs and Names.
-/
import Derived.Test.YtbicffldggcdhaaDoorWErr
namespace Go.Proofs.YtbicffldggcdhaaDoor
open Go
theorem runWNames0 {G K : Prop} (k : K) (h : Wrap K → G := by intro h; (repeat (first | (with_reducible first | refine wpIn_seq ?_ | refine w_reg ?_ | refine s_nil ?_ | refine s_nilQ ?_ | refine wpIn_block ?_ | refine q_then ?_ | refine q_blk ?_ | refine q_then_ret ?_ | refine q_blk_ret ?_ | refine q_then_exit ?_ | refine q_blk_exit ?_ | refine wpIn_skip ?_ | refine wpIn_ret ?_ | refine wpIn_exit ?_) | ((with_reducible refine q_blk_other ?_ ?_); exact rfl) | ((with_reducible apply c_true); exact rfl; (with_reducible exact rfl)) | ((with_reducible apply c_false); exact rfl; (with_reducible exact rfl)) | ((with_reducible apply s_val); (first | ((with_reducible apply r_assign_s); exact rfl) | ((with_reducible apply r_load); exact u_ok rfl; exact rfl; exact rfl; (first | (with_reducible assumption) | assumption | exact at_alloc_new _ _ | (repeat (first | assumption | exact at_alloc_new _ _ | refine at_drew ?_ | refine at_alloc _ ?_))); exact rfl)); (with_reducible exact wnt_none)))); exact h.out) : G := h ⟨k⟩
theorem runWNames1 {G K : Prop} (k : K) (h : Wrap K → G := by intro h; (repeat (first | (with_reducible first | refine wpIn_seq ?_ | refine w_reg ?_ | refine s_nil ?_ | refine s_nilQ ?_ | refine wpIn_block ?_ | refine q_then ?_ | refine q_blk ?_ | refine q_then_ret ?_ | refine q_blk_ret ?_ | refine q_then_exit ?_ | refine q_blk_exit ?_ | refine wpIn_skip ?_ | refine wpIn_ret ?_ | refine wpIn_exit ?_ | refine y_nil ?_ | refine y_nilQ ?_ | refine x_late ?_) | ((with_reducible refine q_blk_other ?_ ?_); exact rfl) | ((with_reducible apply c_true); exact rfl; (with_reducible exact rfl)) | ((with_reducible apply c_false); exact rfl; (with_reducible exact rfl)) | ((first | with_reducible apply s_val | ((with_reducible apply y_val); exact rfl) | ((with_reducible apply x_q); exact rfl; intro wq hq)); (first | ((with_reducible apply r_assign_b); exact rfl) | ((with_reducible apply r_assign_s); exact rfl) | ((with_reducible apply r_assign_i); exact rfl) | ((with_reducible apply r_move_i); exact rfl) | ((with_reducible apply r_move_s); exact rfl) | ((with_reducible apply r_len); exact u_ok rfl; exact rfl) | ((with_reducible apply r_lss_t); exact rfl; exact rfl; omega) | ((with_reducible apply r_lss_f); exact rfl; exact rfl; omega) | ((with_reducible apply r_lss); exact rfl; exact rfl) | ((with_reducible apply r_index); exact u_ok rfl; exact s_ok rfl; exact rfl; exact rfl; omega; omega) | ((with_reducible apply r_indexarr); exact u_ok rfl; exact s_ok rfl; exact rfl; exact rfl; omega; omega) | ((with_reducible apply r_load); exact u_ok rfl; exact rfl; exact rfl; (first | exact Frm.at0 hq (by assumption) | exact Frm.at hq (by assumption) (by assumption) | (first | (with_reducible assumption) | assumption | exact at_alloc_new _ _ | (repeat (first | assumption | exact at_alloc_new _ _ | refine at_drew ?_ | refine at_alloc _ ?_)))); exact rfl) | ((with_reducible apply r_eql_t); exact rfl; exact rfl; omega) | ((with_reducible apply r_eql_f); exact rfl; exact rfl; omega) | ((with_reducible apply r_eql); exact rfl; exact rfl) | ((with_reducible apply r_add); exact rfl; exact rfl; omega; omega)); (with_reducible exact wnt_none)))); exact h.out) : G := h ⟨k⟩

theorem eq_other {w : World} {a b : Addr} (hne : a ≠ b) (ha : ∃ c t, At w a.block (.cells c t (0, 0))) (hb : ∃ c t, At w b.block (.cells c t (0, 0))) :
    (binOp .eql 25 (errV a) (errV b)).run Tryd.prog w = .ok (.bool false) w := by
  obtain ⟨c1, t1, h1⟩ := ha
  obtain ⟨c2, t2, h2⟩ := hb
  have hi : ∃ i, Tryd.prog.info? 101 = some i ∧ i.comparable = true := Option.map_eq_some_iff.1 (show (Tryd.prog.info? 101).map (·.comparable) = some true by kernel_rfl)
  have hj : ∃ j, Tryd.prog.info? 117 = some j ∧ j.size = 1 := Option.map_eq_some_iff.1 (show (Tryd.prog.info? 117).map (·.size) = some 1 by kernel_rfl)
  obtain ⟨i, hi1, hi2⟩ := hi
  obtain ⟨j, hj1, hj2⟩ := hj
  exact run_eql_iface_ptr_other w Tryd.underlying25 Tryd.underlying101 hi1 hi2 hj1 (by omega) hne h1 h2
theorem eq_same {w : World} (a : Addr) : (binOp .eql 25 (errV a) (errV a)).run Tryd.prog w = .ok (.bool true) w := by
  have hi : ∃ i, Tryd.prog.info? 101 = some i ∧ i.comparable = true := Option.map_eq_some_iff.1 (show (Tryd.prog.info? 101).map (·.comparable) = some true by kernel_rfl)
  have hj : ∃ j, Tryd.prog.info? 117 = some j ∧ j.size = 1 := Option.map_eq_some_iff.1 (show (Tryd.prog.info? 117).map (·.size) = some 1 by kernel_rfl)
  obtain ⟨i, hi1, hi2⟩ := hi
  obtain ⟨j, hj1, hj2⟩ := hj
  exact run_eql_iface_ptr_same w a Tryd.underlying25 Tryd.underlying101 hi1 hi2 hj1
theorem eq_nil {w : World} (a : Addr) : (binOp .eql 25 (errV a) .nilIface).run Tryd.prog w = .ok (.bool false) w := by
  have h : ∀ d : Nat, (Op.equalIn (d + 1) 25 (errV a) .nilIface).run Tryd.prog w = .ok false w := fun d => by simp [Op.equalIn, errV, run_underlying Tryd.underlying25]
  unfold errV at *
  simp only [binOp]
  simp [Op.equal, Op.maxDepth, h 9999]

def errL (ea : List Addr) : List Value := .nilIface :: ea.map errV
theorem list9 {ea : List Addr} (h : ea.length = 9) : ∃ a0 a1 a2 a3 a4 a5 a6 a7 a8, ea = [a0, a1, a2, a3, a4, a5, a6, a7, a8] := by
  match ea, h with
  | [a0, a1, a2, a3, a4, a5, a6, a7, a8], _ => exact ⟨_, _, _, _, _, _, _, _, _, rfl⟩
theorem bs_errs (w : World) (a0 a1 a2 a3 a4 a5 a6 a7 a8 : Addr) :
    (Instr.buildSlice 22 10 [(0, .nilIface), (1, errV a0), (2, errV a1), (3, errV a2), (4, errV a3), (5, errV a4), (6, errV a5), (7, errV a6), (8, errV a7), (9, errV a8)].toArray).run Tryd.prog w =
      .ok (.slice (some ⟨w.heap.size, 0, none⟩) 10 10) (w.alloc (cel (errL [a0, a1, a2, a3, a4, a5, a6, a7, a8]) 25)) := by kernel_rfl
theorem errs_ret {w : World} {ea : List Addr} (h : Errs w ea) : Rets Tryd.prog 5 [] w fun v w' => v = .slice (some ⟨w.heap.size, 0, none⟩) 10 10 ∧ w' = w.alloc (cel (errL ea) 25) := by
  obtain ⟨a0, a1, a2, a3, a4, a5, a6, a7, a8, rfl⟩ := list9 h.len
  obtain ⟨_, _, v0⟩ := (h.one 0 _ a0 rfl rfl).var
  obtain ⟨_, _, v1⟩ := (h.one 1 _ a1 rfl rfl).var
  obtain ⟨_, _, v2⟩ := (h.one 2 _ a2 rfl rfl).var
  obtain ⟨_, _, v3⟩ := (h.one 3 _ a3 rfl rfl).var
  obtain ⟨_, _, v4⟩ := (h.one 4 _ a4 rfl rfl).var
  obtain ⟨_, _, v5⟩ := (h.one 5 _ a5 rfl rfl).var
  obtain ⟨_, _, v6⟩ := (h.one 6 _ a6 rfl rfl).var
  obtain ⟨_, _, v7⟩ := (h.one 7 _ a7 rfl rfl).var
  obtain ⟨_, _, v8⟩ := (h.one 8 _ a8 rfl rfl).var
  refine rets_of Tryd.func5 (by kernel_rfl) rfl Tryd.ntmps5 (Nat.le_of_ble_eq_true rfl) ?_
  refine runWNames0 ?_
  refine s_val (r_bs rfl (bs_errs w a0 a1 a2 a3 a4 a5 a6 a7 a8)) wnt_none ?_
  refine runWNames0 ?_
  exact ret_s rfl rfl ⟨rfl, rfl⟩

theorem errL_get {ea : List Addr} (h : ea.length = 9) {i : Nat} (hi : i < 10) (h0 : 0 < i) : ∃ a, ea[i - 1]? = some a ∧ (errL ea)[i]? = some (errV a) := by
  obtain ⟨a, ha⟩ : ∃ a, ea[i - 1]? = some a := ⟨_, List.getElem?_eq_getElem (by omega)⟩
  refine ⟨a, ha, ?_⟩
  obtain ⟨j, rfl⟩ : ∃ j, i = j + 1 := ⟨i - 1, by omega⟩
  simp only [errL, List.getElem?_cons_succ, List.getElem?_map]
  simp only [Nat.add_sub_cancel] at ha
  rw [ha]
  rfl
theorem errs_ne {ea : List Addr} (h : ea.Nodup) {i j : Nat} {a b : Addr} (hi : ea[i]? = some a) (hj : ea[j]? = some b) (hne : i ≠ j) : a ≠ b := by
  rintro rfl
  have h1 := (List.getElem?_eq_some_iff.1 hi)
  have h2 := (List.getElem?_eq_some_iff.1 hj)
  obtain ⟨l1, e1⟩ := h1
  obtain ⟨l2, e2⟩ := h2
  exact hne ((List.getElem_inj h).1 (e1.trans e2.symm))

theorem errs_get_one {w : World} {ea : List Addr} (h : Errs w ea) {i : Nat} {a : Addr} (hi : ea[i]? = some a) : ∃ c t, At w a.block (.cells c t (0, 0)) := by
  have : i < 9 := by have := (List.getElem?_eq_some_iff.1 hi).1; rw [h.len] at this; exact this
  obtain ⟨g, hg⟩ : ∃ g, errG[i]? = some g := ⟨_, List.getElem?_eq_getElem (by simpa [errG] using this)⟩
  exact (h.one i g a hg hi).blk
/-- Two elements of the list of reasons, the first behind the second: not the same. -/
theorem err_differ {w : World} {ea : List Addr} (h : Errs w ea) {i k : Nat} (hi : i < 10) (hk : k < i) : ∃ x y, (errL ea)[i]? = some x ∧ (errL ea)[k]? = some y ∧ (∀ X Y, (eqGuard .eql 25 X Y x y).run Tryd.prog w = .ok () w) ∧ (binOp .eql 25 x y).run Tryd.prog w = .ok (.bool false) w := by
  obtain ⟨a, ha, hx⟩ := errL_get h.len hi (by omega)
  by_cases h0 : k = 0
  · subst h0
    exact ⟨_, .nilIface, hx, rfl, fun _ _ => rfl, eq_nil a⟩
  · obtain ⟨b, hb, hy⟩ := errL_get (i := k) h.len (by omega) (by omega)
    exact ⟨_, _, hx, hy, fun _ _ => rfl, eq_other (errs_ne h.nodup ha hb (by omega)) (errs_get_one h ha) (errs_get_one h hb)⟩

set_option maxHeartbeats 1000000 in
theorem Names_ret {w : World} {ea : List Addr} (h : Errs w ea) : Rets Tryd.prog 3 [] w fun v w' => v = B true ∧ Frm0 w w' := by
  refine rets_of Tryd.func3 (by kernel_rfl) rfl Tryd.ntmps3 (Nat.le_of_ble_eq_true rfl) ?_
  refine runWNames1 ?_
  refine s_callf (errs_ret h) rfl wnt_none ?_
  rintro v w1 ⟨rfl, rfl⟩
  refine runWNames1 ?_
  have hA : At (w.alloc (cel (errL ea) 25)) w.heap.size (cel (errL ea) 25) := at_alloc_new _ _
  refine lp (fun env w' => Frm0 (w.alloc (cel (errL ea) 25)) w' ∧ ∃ env0, ∃ i : Nat, env = setL env0 [(1, .slice (some ⟨w.heap.size, 0, none⟩) 10 10), (2, I i)] ∧ i ≤ 10) (fun env _ => 10 - cnt (env 2)) ?_ ?_
  · exact ⟨Frm.refl _ _, _, 0, fixL ⟨rfl, rfl, trivial⟩, by omega⟩
  · rintro env w' ⟨hf, env0, i, rfl, hi⟩
    refine runWNames1 ?_
    refine c_dec rfl (fun hlt => ?_) (fun hge => ?_)
    · refine runWNames1 ?_
      refine lp (fun env w2 => Frm0 (w.alloc (cel (errL ea) 25)) w2 ∧ ∃ env0, ∃ k : Nat, env = setL env0 [(1, .slice (some ⟨w.heap.size, 0, none⟩) 10 10), (2, I i), (3, I k)] ∧ k ≤ i) (fun env _ => i - cnt (env 3)) ?_ ?_
      · exact ⟨hf, _, 0, fixL ⟨rfl, rfl, rfl, trivial⟩, by omega⟩
      · rintro env w2 ⟨hf2, env1, k, rfl, hk⟩
        refine runWNames1 ?_
        refine c_dec rfl (fun hlt2 => ?_) (fun hge2 => ?_)
        · obtain ⟨x, y, hx, hy, hg, hb⟩ := err_differ (h.frm0 ((Frm.of_alloc w _).trans0 hf2)) (i := i) (k := k) (by omega) (by omega)
          have hA2 := hf2.at0 hA
          refine runWNames1 ?_
          refine w_drawn [(0, false), (1, false), (2, false), (3, false), (4, false), (5, false), (6, false), (7, false), (8, false)] [] (fun wq => Frm0 w2 wq) mixed (by kernel_rfl) ?_ ?_
          · exact Frm.of_drew _
          · refine runWNames1 ?_
            refine x_q rfl (fun wq hq => r_load (u_ok rfl) rfl rfl (hq.at0 hA2) (by simpa using hx)) wnt_none ?_
            refine runWNames1 ?_
            refine x_q rfl (fun wq hq => r_load (u_ok rfl) rfl rfl (hq.at0 hA2) (by simpa using hy)) wnt_none ?_
            refine x_q (v := .bool false) rfl (fun wq hq => ?_) wnt_none ?_
            · obtain ⟨x', y', hx', hy', hg', hb'⟩ := err_differ (h.frm0 ((Frm.of_alloc w _).trans0 (hf2.trans0 hq))) (i := i) (k := k) (by omega) (by omega)
              rw [hx] at hx'
              rw [hy] at hy'
              cases hx'
              cases hy'
              exact r_eq2 rfl rfl (hg' _ _) hb'
            refine runWNames1 ?_
            exact ⟨_, rfl, ⟨hf2.drew, _, k + 1, fixL ⟨rfl, rfl, rfl, trivial⟩, by omega⟩, by show i - ((k : Int) + 1).toNat < i - (k : Int).toNat; omega⟩
        · refine runWNames1 ?_
          exact ⟨_, rfl, ⟨hf2, _, i + 1, fixL ⟨rfl, rfl, trivial⟩, by omega⟩, by show 10 - ((i : Int) + 1).toNat < 10 - (i : Int).toNat; omega⟩
    · refine runWNames1 ?_
      exact ret_b rfl rfl ⟨rfl, (Frm.of_alloc w _).trans0 hf⟩
end Go.Proofs.YtbicffldggcdhaaDoor
