/-
  The program's order of nodes (compare), and slices.SortFunc by it.
-/
import Derived.Test.YtbicffldggcdhaaDoorWTree4
import Derived.Shelf.SlSortCmp.WholeK
namespace Go.Proofs.YtbicffldggcdhaaDoor
open Go
theorem runWCmp0 {G K : Prop} (k : K) (h : Wrap K → G := by intro h; (repeat (first | (with_reducible first | refine wpIn_seq ?_ | refine w_reg ?_ | refine s_nil ?_ | refine s_nilQ ?_ | refine wpIn_block ?_ | refine q_then ?_ | refine q_blk ?_ | refine q_then_ret ?_ | refine q_blk_ret ?_ | refine q_then_exit ?_ | refine q_blk_exit ?_ | refine wpIn_skip ?_ | refine wpIn_ret ?_ | refine wpIn_exit ?_) | ((with_reducible refine q_blk_other ?_ ?_); exact rfl) | ((with_reducible apply c_true); exact rfl; (with_reducible exact rfl)) | ((with_reducible apply c_false); exact rfl; (with_reducible exact rfl)) | ((with_reducible apply s_val); (first | ((with_reducible apply r_assign_b); exact rfl) | ((with_reducible apply r_move_i); exact rfl) | ((with_reducible apply r_neq_t); exact rfl; exact rfl; omega) | ((with_reducible apply r_neq_f); exact rfl; exact rfl; omega) | ((with_reducible apply r_neq); exact rfl; exact rfl)); (with_reducible exact wnt_none)))); exact h.out) : G := h ⟨k⟩
theorem runWCmp1 {G K : Prop} (k : K) (h : Wrap K → G := by intro h; (repeat (first | (with_reducible first | refine wpIn_seq ?_ | refine w_reg ?_ | refine s_nil ?_ | refine s_nilQ ?_ | refine wpIn_block ?_ | refine q_then ?_ | refine q_blk ?_ | refine q_then_ret ?_ | refine q_blk_ret ?_ | refine q_then_exit ?_ | refine q_blk_exit ?_ | refine wpIn_skip ?_ | refine wpIn_ret ?_ | refine wpIn_exit ?_) | ((with_reducible refine q_blk_other ?_ ?_); exact rfl) | ((with_reducible apply c_true); exact rfl; (with_reducible exact rfl)) | ((with_reducible apply c_false); exact rfl; (with_reducible exact rfl)) | ((with_reducible apply s_val); (first | ((with_reducible apply r_assign_i); exact rfl) | ((with_reducible apply r_move_i); exact rfl) | ((with_reducible apply r_assign_b); exact rfl) | ((with_reducible apply r_move_b); exact rfl) | ((with_reducible apply r_lss_t); exact rfl; exact rfl; omega) | ((with_reducible apply r_lss_f); exact rfl; exact rfl; omega) | ((with_reducible apply r_lss); exact rfl; exact rfl) | ((with_reducible apply r_gtr_t); exact rfl; exact rfl; omega) | ((with_reducible apply r_gtr_f); exact rfl; exact rfl; omega) | ((with_reducible apply r_gtr); exact rfl; exact rfl)); (with_reducible exact wnt_none)))); exact h.out) : G := h ⟨k⟩
theorem runWCmp2 {G K : Prop} (k : K) (h : Wrap K → G := by intro h; (repeat (first | (with_reducible first | refine wpIn_seq ?_ | refine w_reg ?_ | refine s_nil ?_ | refine s_nilQ ?_ | refine wpIn_block ?_ | refine q_then ?_ | refine q_blk ?_ | refine q_then_ret ?_ | refine q_blk_ret ?_ | refine q_then_exit ?_ | refine q_blk_exit ?_ | refine wpIn_skip ?_ | refine wpIn_ret ?_ | refine wpIn_exit ?_) | ((with_reducible refine q_blk_other ?_ ?_); exact rfl) | ((with_reducible apply c_true); exact rfl; (with_reducible exact rfl)) | ((with_reducible apply c_false); exact rfl; (with_reducible exact rfl)) | ((with_reducible apply s_val); (first | ((with_reducible apply r_assign_i); exact rfl) | ((with_reducible apply r_move_s); exact rfl) | ((with_reducible apply r_len); exact u_ok rfl; exact rfl) | ((with_reducible apply r_move_i); exact rfl) | ((with_reducible apply r_lss_t); exact rfl; exact rfl; omega) | ((with_reducible apply r_lss_f); exact rfl; exact rfl; omega) | ((with_reducible apply r_lss); exact rfl; exact rfl) | ((with_reducible apply r_index); exact u_ok rfl; exact s_ok rfl; exact rfl; exact rfl; omega; omega) | ((with_reducible apply r_indexarr); exact u_ok rfl; exact s_ok rfl; exact rfl; exact rfl; omega; omega) | ((with_reducible apply r_load); exact u_ok rfl; exact rfl; exact rfl; (first | (with_reducible assumption) | assumption | exact at_alloc_new _ _ | (repeat (first | assumption | exact at_alloc_new _ _ | refine at_drew ?_ | refine at_alloc _ ?_))); exact rfl) | ((with_reducible apply r_neq_t); exact rfl; exact rfl; omega) | ((with_reducible apply r_neq_f); exact rfl; exact rfl; omega) | ((with_reducible apply r_neq); exact rfl; exact rfl) | ((with_reducible apply r_add); exact rfl; exact rfl; omega; omega)); (with_reducible exact wnt_none)))); exact h.out) : G := h ⟨k⟩
theorem runWCmp3 {G K : Prop} (k : K) (h : Wrap K → G := by intro h; (repeat (first | (with_reducible first | refine wpIn_seq ?_ | refine w_reg ?_ | refine s_nil ?_ | refine s_nilQ ?_ | refine wpIn_block ?_ | refine q_then ?_ | refine q_blk ?_ | refine q_then_ret ?_ | refine q_blk_ret ?_ | refine q_then_exit ?_ | refine q_blk_exit ?_ | refine wpIn_skip ?_ | refine wpIn_ret ?_ | refine wpIn_exit ?_ | refine y_nil ?_ | refine y_nilQ ?_ | refine x_late ?_) | ((with_reducible refine q_blk_other ?_ ?_); exact rfl) | ((with_reducible apply c_true); exact rfl; (with_reducible exact rfl)) | ((with_reducible apply c_false); exact rfl; (with_reducible exact rfl)) | ((first | with_reducible apply s_val | ((with_reducible apply y_val); exact rfl) | ((with_reducible apply x_q); exact rfl; intro wq hq)); (first | ((with_reducible apply r_boxA); exact rfl) | ((with_reducible apply r_box1); exact rfl; exact rfl) | ((with_reducible apply r_assign_i); exact rfl) | ((with_reducible apply r_fld); exact fa_ok rfl; exact rfl) | ((with_reducible apply r_load); exact u_ok rfl; exact rfl; exact rfl; (first | exact Frm.at0 hq (by assumption) | exact Frm.at hq (by assumption) (by assumption) | (first | (with_reducible assumption) | assumption | exact at_alloc_new _ _ | (repeat (first | assumption | exact at_alloc_new _ _ | refine at_drew ?_ | refine at_alloc _ ?_)))); exact rfl)); (with_reducible exact wnt_none)))); exact h.out) : G := h ⟨k⟩

def sortNd_ren : Go.Shelf.Ren := ⟨fun | 6 => 35 | 15 => 38 | 14 => 37 | 28 => 49 | 29 => 50 | 20 => 41 | 21 => 42 | 22 => 43 | 23 => 44 | 24 => 45 | 25 => 46 | 26 => 47 | 27 => 48 | 46 => 52 | 47 => 53 | 48 => 54 | 49 => 55 | 50 => 56 | 57 => 57 | n => n, fun | 22 => 41 | 24 => 40 | 25 => 74 | 3 => 3 | 39 => 77 | 0 => 0 | 53 => 88 | 55 => 90 | 4 => 4 | 46 => 81 | 45 => 80 | 50 => 85 | 5 => 5 | 9 => 9 | 66 => 92 | 70 => 96 | 76 => 98 | 77 => 99 | n => n, fun | n => n⟩
theorem sortNd : Go.Proofs.SlLaysF0.n6 Tryd.prog sortNd_ren := {
  mixed := by kernel_rfl,
  f6 := ⟨Tryd.f35.name, by decide, Tryd.func35.trans (congrArg some (by kernel_rfl))⟩,
  f14 := ⟨Tryd.f37.name, by decide, Tryd.func37.trans (congrArg some (by kernel_rfl))⟩,
  f15 := Tryd.func38.trans (congrArg some (by kernel_rfl)),
  f20 := ⟨Tryd.f41.name, by decide, Tryd.func41.trans (congrArg some (by kernel_rfl))⟩,
  f21 := ⟨Tryd.f42.name, by decide, Tryd.func42.trans (congrArg some (by kernel_rfl))⟩,
  f22 := ⟨Tryd.f43.name, by decide, Tryd.func43.trans (congrArg some (by kernel_rfl))⟩,
  f23 := ⟨Tryd.f44.name, by decide, Tryd.func44.trans (congrArg some (by kernel_rfl))⟩,
  f24 := ⟨Tryd.f45.name, by decide, Tryd.func45.trans (congrArg some (by kernel_rfl))⟩,
  f25 := ⟨Tryd.f46.name, by decide, Tryd.func46.trans (congrArg some (by kernel_rfl))⟩,
  f26 := ⟨Tryd.f47.name, by decide, Tryd.func47.trans (congrArg some (by kernel_rfl))⟩,
  f27 := ⟨Tryd.f48.name, by decide, Tryd.func48.trans (congrArg some (by kernel_rfl))⟩,
  f28 := Tryd.func49.trans (congrArg some (by kernel_rfl)),
  f29 := Tryd.func50.trans (congrArg some (by kernel_rfl)),
  f46 := ⟨Tryd.f52.name, by decide, Tryd.func52.trans (congrArg some (by kernel_rfl))⟩,
  f47 := Tryd.func53.trans (congrArg some (by kernel_rfl)),
  f48 := Tryd.func54.trans (congrArg some (by kernel_rfl)),
  f49 := ⟨Tryd.f55.name, by decide, Tryd.func55.trans (congrArg some (by kernel_rfl))⟩,
  f50 := ⟨Tryd.f56.name, by decide, Tryd.func56.trans (congrArg some (by kernel_rfl))⟩,
  f57 := ⟨Tryd.f57.name, by decide, Tryd.func57.trans (congrArg some (by kernel_rfl))⟩,
  t0 := Tryd.underlying0,
  a0 := Tryd.isAgg0,
  z0 := Tryd.sizeOf0,
  v0 := Tryd.zeroValue0,
  t3 := Tryd.underlying3,
  a3 := Tryd.isAgg3,
  z3 := Tryd.sizeOf3,
  v3 := Tryd.zeroValue3,
  t4 := Tryd.underlying4,
  a4 := Tryd.isAgg4,
  z4 := Tryd.sizeOf4,
  v4 := Tryd.zeroValue4,
  t5 := Tryd.underlying5,
  a5 := Tryd.isAgg5,
  z5 := Tryd.sizeOf5,
  v5 := Tryd.zeroValue5,
  t9 := Tryd.underlying9,
  a9 := Tryd.isAgg9,
  z9 := Tryd.sizeOf9,
  v9 := Tryd.zeroValue9,
  t22 := Tryd.underlying41,
  a22 := Tryd.isAgg41,
  z22 := Tryd.sizeOf41,
  v22 := Tryd.zeroValue41,
  t25 := Tryd.underlying74,
  a25 := Tryd.isAgg74,
  z25 := Tryd.sizeOf74,
  v25 := Tryd.zeroValue74,
  t39 := Tryd.underlying77,
  a39 := Tryd.isAgg77,
  z39 := Tryd.sizeOf77,
  v39 := Tryd.zeroValue77,
  t45 := Tryd.underlying80,
  a45 := Tryd.isAgg80,
  z45 := Tryd.sizeOf80,
  v45 := Tryd.zeroValue80,
  t46 := Tryd.underlying81,
  a46 := Tryd.isAgg81,
  z46 := Tryd.sizeOf81,
  v46 := Tryd.zeroValue81,
  t50 := Tryd.underlying85,
  a50 := Tryd.isAgg85,
  z50 := Tryd.sizeOf85,
  v50 := Tryd.zeroValue85,
  t53 := Tryd.underlying88,
  a53 := Tryd.isAgg88,
  z53 := Tryd.sizeOf88,
  v53 := Tryd.zeroValue88,
  t55 := Tryd.underlying90,
  a55 := Tryd.isAgg90,
  z55 := Tryd.sizeOf90,
  v55 := Tryd.zeroValue90,
  t66 := Tryd.underlying92,
  a66 := Tryd.isAgg92,
  z66 := Tryd.sizeOf92,
  v66 := Tryd.zeroValue92,
  t70 := Tryd.underlying96,
  a70 := Tryd.isAgg96,
  z70 := Tryd.sizeOf96,
  v70 := Tryd.zeroValue96,
  t76 := Tryd.underlying98,
  a76 := Tryd.isAgg98,
  z76 := Tryd.sizeOf98,
  v76 := Tryd.zeroValue98,
  t77 := Tryd.underlying99,
  a77 := Tryd.isAgg99,
  z77 := Tryd.sizeOf99,
  v77 := Tryd.zeroValue99 }

/-- How two numbers stand to each other. -/
def cmpI (a b : Int) : Int := if a < b then -1 else if b < a then 1 else 0
theorem isNaN_ret (a : Int) (w : World) : Rets Tryd.prog 51 [I a] w fun v w' => v = B false ∧ w = w' := by
  refine rets_of Tryd.func51 (by kernel_rfl) rfl Tryd.ntmps51 (Nat.le_of_ble_eq_true rfl) ?_
  refine runWCmp0 ?_
  exact ret_b rfl rfl ⟨rfl, rfl⟩
theorem Compare_ret (a b : Int) (w : World) : Rets Tryd.prog 40 [I a, I b] w fun v w' => v = I (cmpI a b) ∧ w = w' := by
  refine rets_of Tryd.func40 (by kernel_rfl) rfl Tryd.ntmps40 (Nat.le_of_ble_eq_true rfl) ?_
  refine runWCmp1 ?_
  refine s_callf (isNaN_ret a w) rfl wnt_none ?_
  rintro v w1 ⟨rfl, rfl⟩
  refine runWCmp1 ?_
  refine s_callf (isNaN_ret b w) rfl wnt_none ?_
  rintro v w1 ⟨rfl, rfl⟩
  by_cases h : a < b
  · refine runWCmp1 ?_
    exact ret_i rfl rfl ⟨by rw [cmpI, if_pos h], rfl⟩
  · by_cases h2 : b < a
    · refine runWCmp1 ?_
      exact ret_i rfl rfl ⟨by rw [cmpI, if_neg h, if_pos h2], rfl⟩
    · refine runWCmp1 ?_
      exact ret_i rfl rfl ⟨by rw [cmpI, if_neg h, if_neg h2], rfl⟩
theorem Or_ret {a b : Int} {w : World} {s c e : Nat} (hs : At w s (cel [I a, I b] e)) : Rets Tryd.prog 39 [.slice (some ⟨s, 0, none⟩) 2 c] w fun v w' => v = I (if a ≠ 0 then a else b) ∧ w = w' := by
  refine rets_of Tryd.func39 (by kernel_rfl) rfl Tryd.ntmps39 (Nat.le_of_ble_eq_true rfl) ?_
  refine runWCmp2 ?_
  refine lp (fun env w' => ∃ env0, ∃ (j : Nat), env = setL env0 [(3, I 0), (6, .slice (some ⟨s, 0, none⟩) 2 c), (7, I 2), (8, I j)] ∧ w = w' ∧ j ≤ 2 ∧ (1 ≤ j → a = 0) ∧ (2 ≤ j → b = 0)) (fun env _ => 2 - cnt (env 8)) ?_ ?_
  · exact ⟨_, 0, fixL ⟨rfl, rfl, rfl, rfl, trivial⟩, rfl, by omega, by omega, by omega⟩
  · rintro env w1 ⟨env0, j, rfl, rfl, hj, ha, hb⟩
    by_cases hlt : j < 2
    · obtain ⟨x, hx, hx1, hx2⟩ : ∃ x : Int, [I a, I b][0 + (j : Int).toNat * 1]? = some (I x) ∧ (x ≠ 0 → I x = I (if a ≠ 0 then a else b)) ∧ (x = 0 → (1 ≤ j + 1 → a = 0) ∧ (2 ≤ j + 1 → b = 0)) := by
        rcases (show j = 0 ∨ j = 1 by omega) with rfl | rfl
        · exact ⟨a, rfl, fun h => by rw [if_pos h], fun h => ⟨fun _ => h, by omega⟩⟩
        · have := ha (by omega)
          exact ⟨b, rfl, fun _ => by rw [if_neg (by omega)], fun h => ⟨fun _ => this, fun _ => h⟩⟩
      refine runWCmp2 ?_
      refine s_val (r_load (u_ok rfl) rfl rfl hs hx) wnt_none ?_
      by_cases h0 : x = 0
      · refine runWCmp2 ?_
        refine ⟨_, rfl, ⟨_, j + 1, fixL ⟨rfl, rfl, rfl, rfl, trivial⟩, rfl, by omega, (hx2 h0).1, (hx2 h0).2⟩, ?_⟩
        show 2 - ((j : Int) + 1).toNat < 2 - (j : Int).toNat
        omega
      · refine runWCmp2 ?_
        exact ret_i rfl rfl ⟨hx1 h0, rfl⟩
    · have h1 := ha (by omega)
      have h2 := hb (by omega)
      refine runWCmp2 ?_
      refine ret_i rfl rfl ⟨?_, rfl⟩
      rw [if_neg (by omega), h2]

/-- The order of nodes: by Key, and of the same Key by ID. -/
def cmpN (x y : Nd) : Int := if cmpI x.key y.key ≠ 0 then cmpI x.key y.key else cmpI x.id y.id
theorem bs_two (a b : Int) (w : World) : (Instr.buildSlice 91 2 [(0, I a), (1, I b)].toArray).run Tryd.prog w = .ok (.slice (some ⟨w.heap.size, 0, none⟩) 2 2) (w.alloc (cel [I a, I b] 3)) := by kernel_rfl

theorem compare_ret (x y : Nd) (w : World) : Rets Tryd.prog 36 [NdV x, NdV y] w fun v w' => v = I (cmpN x y) ∧ ∃ q os, w' = Go.Sort.grow (w.drewN q) os := by
  have hx1 := at_alloc (cel y.vals 40) (at_alloc_new w (cel x.vals 40))
  have hy1 := at_alloc_new (w.alloc (cel x.vals 40)) (cel y.vals 40)
  obtain ⟨w1, hw1⟩ : ∃ w1, (w.alloc (cel x.vals 40)).alloc (cel y.vals 40) = w1 := ⟨_, rfl⟩
  rw [hw1] at hx1 hy1
  refine rets_of Tryd.func36 (by kernel_rfl) rfl Tryd.ntmps36 (Nat.le_of_ble_eq_true rfl) ?_
  refine runWCmp3 ?_
  rw [hw1]
  refine w_drawn [(0, false), (1, false), (2, false), (3, false), (5, false), (6, false), (7, false), (8, false), (4, true)] [9, 10, 11, 12] (fun wq => wq = w1.drew) mixed (by kernel_rfl) ?_ ?_
  · rfl
  · have gx : ∀ wq, wq = w1.drew → At wq w.heap.size (cel x.vals 40) := fun wq hq => by rw [hq]; exact hx1
    have gy : ∀ wq, wq = w1.drew → At wq (w.alloc (cel x.vals 40)).heap.size (cel y.vals 40) := fun wq hq => by rw [hq]; exact hy1
    refine x_q rfl (fun wq hq => r_fld (fa_ok rfl) rfl) wnt_none ?_
    refine x_q rfl (fun wq hq => r_load (u_ok rfl) rfl rfl (gx wq hq) rfl) wnt_none ?_
    refine x_q rfl (fun wq hq => r_fld (fa_ok rfl) rfl) wnt_none ?_
    refine x_q rfl (fun wq hq => r_load (u_ok rfl) rfl rfl (gy wq hq) rfl) wnt_none ?_
    refine x_q rfl (fun wq hq => r_fld (fa_ok rfl) rfl) wnt_none ?_
    refine x_q rfl (fun wq hq => r_load (u_ok rfl) rfl rfl (gx wq hq) rfl) wnt_none ?_
    refine x_q rfl (fun wq hq => r_fld (fa_ok rfl) rfl) wnt_none ?_
    refine x_q rfl (fun wq hq => r_load (u_ok rfl) rfl rfl (gy wq hq) rfl) wnt_none ?_
    refine x_callf rfl (Compare_ret x.key y.key w1.drew) rfl wnt_none ?_
    rintro v w2 ⟨rfl, rfl⟩
    refine ⟨rfl, x_late ?_⟩
    refine y_callf rfl (Compare_ret x.id y.id w1.drew) rfl wnt_none ?_
    rintro v w2 ⟨rfl, rfl⟩
    refine y_val rfl (r_bs rfl (bs_two _ _ _)) wnt_none ?_
    refine y_callf rfl (Or_ret (at_alloc_new _ _)) rfl wnt_none ?_
    rintro v w2 ⟨rfl, rfl⟩
    refine y_val rfl (r_assign_i rfl) wnt_none ?_
    refine y_nil ?_
    refine wpIn_ret ?_
    refine ret_i rfl rfl ⟨rfl, 1, #[cel x.vals 40, cel y.vals 40, cel [I (cmpI x.key y.key), I (cmpI x.id y.id)] 3], ?_⟩
    rw [← hw1]
    simp only [Go.Sort.alloc_eq_grow, Go.Sort.drew_grow, Go.Sort.grow_grow]
    rfl

theorem cmpI_neg {a b : Int} : cmpI a b < 0 ↔ a < b := by
  unfold cmpI
  split
  · simp_all
  · split <;> omega
theorem cmpI_zero {a b : Int} : cmpI a b = 0 ↔ a = b := by
  unfold cmpI
  split
  · omega
  · split <;> omega
def ltN (x y : Nd) : Bool := decide (x.key < y.key ∨ (x.key = y.key ∧ x.id < y.id))
theorem ltOf_cmpN (x y : Nd) : ltOf cmpN x y = ltN x y := by
  unfold ltOf cmpN ltN
  refine decide_eq_decide.2 ?_
  by_cases h : cmpI x.key y.key = 0
  · have hk := cmpI_zero.1 h
    rw [if_neg (by simp [h]), cmpI_neg]
    omega
  · have hk : x.key ≠ y.key := fun e => h (cmpI_zero.2 e)
    rw [if_pos h, cmpI_neg]
    omega
theorem swoN : Go.Sort.SWO (ltOf cmpN) where
  irrefl x := by rw [ltOf_cmpN]; simp [ltN]
  trans x y z h1 h2 := by rw [ltOf_cmpN] at *; simp [ltN] at *; omega
  ntrans x y z h1 h2 := by rw [ltOf_cmpN] at *; simp [ltN] at *; omega

theorem flatK_flat [Inhabited Nd] (l : List Nd) : Go.Sort.flatK Nd.vals 7 l.toArray = (flat l).toArray := by
  apply Array.ext'
  apply List.ext_getElem?
  intro t
  by_cases ht : t < l.length * 7
  · have hi : t / 7 < l.length := by omega
    have hx : l[t / 7]? = some l[t / 7] := List.getElem?_eq_getElem hi
    have h1 := flat_get l (t / 7) _ hx [] (t % 7) (by omega)
    rw [List.append_nil, show t / 7 * 7 + t % 7 = t by omega] at h1
    rw [h1]
    have hv : (l[t / 7].vals)[t % 7]? = some (l[t / 7].vals)[t % 7]! := by
      have h7 : t % 7 < (l[t / 7].vals).length := by show t % 7 < 7; omega
      rw [List.getElem?_eq_getElem h7]
      simp [h7]
    rw [hv]
    simp [Go.Sort.flatK, ht, hi]
  · have h1 : (flat l)[t]? = none := List.getElem?_eq_none (by rw [flat_length]; omega)
    rw [h1]
    simp [Go.Sort.flatK]
    omega
theorem holds_row [Inhabited Nd] {w : World} {b : Nat} {xs : List Nd} {rest : List Value} {e : Nat} (hb : At w b (cel (flat xs ++ rest) e)) : Go.Sort.HoldsK Nd.vals 7 w b 0 xs.toArray := by
  unfold Go.Sort.HoldsK
  rw [flatK_flat]
  intro j hj
  refine ⟨?_, frozen_at hb _⟩
  have hj' : j < (flat xs).length := by simpa using hj
  rw [cell_at hb, Nat.zero_add, List.getElem?_append_left hj', List.getElem?_eq_getElem hj']
  simp [hj']
theorem row_at [Inhabited Nd] {w : World} {b n : Nat} {xs ys : List Nd} {rest : List Value} {os : Array Obj} {e : Nat} (hb : At w b (cel (flat xs ++ rest) e)) (hl : ys.length = xs.length) :
    At (sortWorldK Nd.vals 7 w b 0 n ys.toArray os) b (cel (flat ys ++ rest) e) ∧ Frm (fun c => c = b) w (sortWorldK Nd.vals 7 w b 0 n ys.toArray os) := by
  have hb' : w.heap[b]? = some (cel (flat xs ++ rest) e) := hb
  have hlt := at_lt hb
  have hput : Go.Sort.putCells id 0 (flat ys).toArray (flat xs ++ rest).toArray = (flat ys ++ rest).toArray := by
    apply Array.ext'
    apply List.ext_getElem?
    intro t
    have h1 := flat_length xs
    have h2 := flat_length ys
    simp only [Go.Sort.putCells, Array.toList_mapIdx, List.getElem?_mapIdx, Nat.zero_le, true_and, Nat.zero_add, List.size_toArray, id]
    by_cases ht : t < (flat ys).length
    · rw [List.getElem?_append_left (by omega), List.getElem?_append_left ht, List.getElem?_eq_getElem (show t < (flat xs).length by omega), List.getElem?_eq_getElem ht]
      simp [ht]
    · rw [List.getElem?_append_right (by omega), List.getElem?_append_right (by omega), show t - (flat xs).length = t - (flat ys).length by omega]
      cases rest[t - (flat ys).length]? <;> simp [ht]
  have hheap : (Go.Sort.putRowK Nd.vals 7 (Go.Sort.ahead w n) b 0 ys.toArray).heap = w.heap.setIfInBounds b (cel (flat ys ++ rest) e) := by
    unfold Go.Sort.putRowK Go.Sort.putRow Go.Sort.mapBlock
    rw [flatK_flat]
    apply Array.ext_getElem?
    intro k
    simp only [Array.getElem?_modify, Go.Sort.ahead, Array.getElem?_setIfInBounds]
    by_cases hk : b = k
    · subst hk
      rw [if_pos rfl, if_pos rfl, if_pos hlt, hb']
      simp only [Option.map_some, Go.Sort.onCells, cel]
      rw [hput]
    · rw [if_neg hk, if_neg hk]
  have hh : (sortWorldK Nd.vals 7 w b 0 n ys.toArray os).heap = w.heap.setIfInBounds b (cel (flat ys ++ rest) e) ++ os := by
    unfold sortWorldK Go.Sort.grow
    rw [hheap]
  constructor
  · show (sortWorldK Nd.vals 7 w b 0 n ys.toArray os).heap[b]? = _
    rw [hh, Array.getElem?_append_left (by simpa using hlt), Array.getElem?_setIfInBounds_self, if_pos hlt]
  · refine ⟨by rw [hh]; simp, fun c o hc hn => ?_, rfl, rfl, rfl⟩
    have hc' : w.heap[c]? = some o := hc
    show (sortWorldK Nd.vals 7 w b 0 n ys.toArray os).heap[c]? = _
    rw [hh, Array.getElem?_append_left (by simpa using at_lt hc), Array.getElem?_setIfInBounds_ne (fun h => hn h.symm), hc']

/-- Ascending. -/
abbrev Asc (l : List Nd) : Prop := l.Pairwise fun a c => ltN c a = false
theorem sort_ret {w : World} {b cap : Nat} {xs : List Nd} {rest : List Value} (hb : At w b (cel (flat xs ++ rest) 40)) (hsz : xs.length < 1000000) :
    Rets Tryd.prog 35 [.slice (some ⟨b, 0, none⟩) xs.length cap, .func (.func 36) #[] #[]] w fun v w' => v = .tuple #[] ∧ ∃ ys, ys.Perm xs ∧ Asc ys ∧ At w' b (cel (flat ys ++ rest) 40) ∧ Frm (fun c => c = b) w w' := by
  refine ⟨by kernel_rfl, ?_⟩
  have hcf : callable Tryd.prog 36 = true := by kernel_rfl
  have : Inhabited Nd := ⟨⟨0, 0, 0, 0, 0, 0, 0⟩⟩
  have hcon := AnyQ.slices_SortFunc sortNd 7 Tryd.isAgg40 Tryd.sizeOf40 Nd.vals (fun _ => rfl) (fun x v hv => by
      have := vals_one x v hv
      cases v <;> first | rfl | cases this) cmpN swoN 36 #[] b 0 cap xs.toArray w (fun args w => run_callFunc hcf args)
    (fun m os dk _ x y => (compare_ret x y _).2.mono fun e w' he => by
      obtain ⟨v, rfl, rfl, q, os', rfl⟩ := he
      exact ⟨rfl, q, os', rfl⟩) (holds_row hb) (at_lt hb) (by simp; omega)
  refine hcon.mono ?_
  rintro e w' ⟨rfl, d', n, os, hp, hs, rfl⟩
  obtain ⟨hsize, _, hperm⟩ := hp
  have hd : d' = d'.toList.toArray := rfl
  have hlen : d'.toList.length = xs.length := by simpa using hsize
  have hperm' : d'.toList.Perm xs := by
    have h1 : d'.extract 0 xs.toArray.size = d' := by rw [← hsize]; exact Array.extract_size
    have h2 : xs.toArray.extract 0 xs.toArray.size = xs.toArray := Array.extract_size
    rw [h1, h2] at hperm
    exact hperm
  refine ⟨_, rfl, rfl, d'.toList, hperm', ?_, ?_⟩
  · unfold Asc
    rw [List.pairwise_iff_getElem]
    intro i j hi hj hij
    have := hs i j (Nat.zero_le _) hij (by simpa [hlen] using hj)
    rw [ltOf_cmpN] at this
    simp only [Array.getElem_toList]
    rw [getElem!_pos d' j (by simpa using hj), getElem!_pos d' i (by simpa using hi)] at this
    exact this
  · rw [hd]
    exact row_at hb hlen
end Go.Proofs.YtbicffldggcdhaaDoor
