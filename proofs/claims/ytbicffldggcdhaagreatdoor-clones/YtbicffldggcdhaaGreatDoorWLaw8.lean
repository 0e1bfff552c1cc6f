/-
  The law's first, walked: the steps that are asked in any case.
-/
import Derived.Test.YtbicffldggcdhaaGreatDoorWLaw7
namespace Go.Proofs.YtbicffldggcdhaaGreatDoor
open Go
theorem runWLaw80 {G K : Prop} (k : K) (h : Wrap K → G := by intro h; (repeat (first | (with_reducible first | refine wpIn_seq ?_ | refine w_reg ?_ | refine s_nil ?_ | refine s_nilQ ?_ | refine wpIn_block ?_ | refine q_then ?_ | refine q_blk ?_ | refine q_then_ret ?_ | refine q_blk_ret ?_ | refine q_then_exit ?_ | refine q_blk_exit ?_ | refine wpIn_skip ?_ | refine wpIn_ret ?_ | refine wpIn_exit ?_) | ((with_reducible refine q_blk_other ?_ ?_); exact rfl) | ((with_reducible apply c_true); exact rfl; (with_reducible exact rfl)) | ((with_reducible apply c_false); exact rfl; (with_reducible exact rfl)) | ((with_reducible apply s_val); (first | ((with_reducible apply r_assign_s); exact rfl) | ((with_reducible apply r_allocA); exact z_ok rfl) | ((with_reducible apply r_alloc1); exact z_ok rfl; exact rfl) | ((with_reducible apply r_loadA); exact u_ok rfl; exact rfl; exact s_ok rfl; exact rfl; (first | (with_reducible assumption) | assumption | exact at_alloc_new _ _ | (repeat (first | assumption | exact at_alloc_new _ _ | refine at_drew ?_ | refine at_alloc _ ?_))); exact Nat.le_of_ble_eq_true rfl)); (with_reducible exact wnt_none)))); exact h.out) : G := h ⟨k⟩

def flatOp : List OpR → List Value
  | [] => []
  | x :: l => x.vals ++ flatOp l
theorem flatOp_length : ∀ l : List OpR, (flatOp l).length = l.length * 10
  | [] => rfl
  | x :: l => by simp [flatOp, flatOp_length l, OpR.vals]; omega
theorem flatOp_append : ∀ a b : List OpR, flatOp (a ++ b) = flatOp a ++ flatOp b
  | [], b => rfl
  | x :: a, b => by simp [flatOp, flatOp_append a b]
theorem flatOp_sub : ∀ (l : List OpR) (i : Nat) (x : OpR), l[i]? = some x → ∀ rest : List Value, sub (flatOp l ++ rest) (i * 10) 10 = x.vals
  | [], i, x, h, _ => by simp at h
  | y :: l, 0, x, h, rest => by
    simp at h
    subst h
    simp only [flatOp, Nat.zero_mul, List.append_assoc]
    rw [sub_append_left _ _ 10 (by simp [OpR.vals])]
    rfl
  | y :: l, i + 1, x, h, rest => by
    simp only [flatOp, List.append_assoc]
    rw [show (i + 1) * 10 = y.vals.length + i * 10 by simp [OpR.vals]; omega, sub_drop]
    exact flatOp_sub l i x (by simpa using h) rest
theorem op_one (o : OpR) : ∀ u ∈ o.vals, one u = true := by
  intro u h
  simp only [OpR.vals, List.mem_cons, List.not_mem_nil, or_false] at h
  rcases h with h | h | h | h | h | h | h | h | h | h <;> subst h <;> rfl
theorem flatOp_one (l : List OpR) : ∀ u ∈ flatOp l, one u = true := by
  induction l with
  | nil => intro u h; cases h
  | cons x l ih =>
    intro u h
    rcases List.mem_append.1 h with h | h
    · exact op_one x u h
    · exact ih u h

def z0 : Ed := ⟨0, 0, 0, 0, 0, 0⟩
def cE : Ed := ⟨1, 1, 0, 0, 0, 0⟩
def k0 (k : Int) : OpR := ⟨k, 0, 0, 0, z0⟩
theorem bld_c (w : World) : (Instr.build 31 [(0, I 1), (1, I 1)].toArray).run Tryz.prog w = .ok (EdV cE) w := by kernel_rfl
theorem bo1 (k : Int) (w : World) : (Instr.build 81 [(0, I k)].toArray).run Tryz.prog w = .ok (OpV (k0 k)) w := by kernel_rfl
theorem bo2 (k : Int) (w : World) : (Instr.build 81 [(0, I k), (4, EdV cE)].toArray).run Tryz.prog w = .ok (OpV ⟨k, 0, 0, 0, cE⟩) w := by kernel_rfl
theorem bo3 (k b : Int) (w : World) : (Instr.build 81 [(0, I k), (2, I b)].toArray).run Tryz.prog w = .ok (OpV ⟨k, 0, b, 0, z0⟩) w := by kernel_rfl
theorem bo4 (k a b : Int) (w : World) : (Instr.build 81 [(0, I k), (1, I a), (2, I b)].toArray).run Tryz.prog w = .ok (OpV ⟨k, a, b, 0, z0⟩) w := by kernel_rfl
def firstOps : List OpR := [k0 1, ⟨2, 0, 0, 0, cE⟩, ⟨3, 0, 1, 0, z0⟩, k0 4, k0 5, ⟨10, 2, 1, 0, z0⟩, ⟨11, 0, 0, 0, cE⟩, k0 16, k0 12, k0 14, k0 14, k0 21, k0 15, k0 17, k0 19, k0 20]
theorem bs_ops (w : World) : (Instr.buildSlice 22 16 [(0, OpV (k0 1)), (1, OpV ⟨2, 0, 0, 0, cE⟩), (2, OpV ⟨3, 0, 1, 0, z0⟩), (3, OpV (k0 4)), (4, OpV (k0 5)), (5, OpV ⟨10, 2, 1, 0, z0⟩), (6, OpV ⟨11, 0, 0, 0, cE⟩), (7, OpV (k0 16)), (8, OpV (k0 12)), (9, OpV (k0 14)), (10, OpV (k0 14)), (11, OpV (k0 21)), (12, OpV (k0 15)), (13, OpV (k0 17)), (14, OpV (k0 19)), (15, OpV (k0 20))].toArray).run Tryz.prog w =
    .ok (.slice (some ⟨w.heap.size, 0, none⟩) 16 16) (w.alloc (cel (flatOp firstOps) 81)) := by kernel_rfl

set_option maxHeartbeats 2000000 in
theorem first_ret (w : World) : Rets Tryz.prog 35 [] w fun v w' => ∃ b, v = .slice (some ⟨b, 0, none⟩) 16 16 ∧ At w' b (cel (flatOp firstOps) 81) ∧ w.heap.size ≤ b ∧ Frm0 w w' := by
  refine rets_of Tryz.func35 (by kernel_rfl) rfl Tryz.ntmps35 (Nat.le_of_ble_eq_true rfl) ?_
  refine runWLaw80 ?_
  refine s_val (r_build rfl (bld_c _)) wnt_none ?_
  refine runWLaw80 ?_
  refine s_skip (r_storeAll (vs := cE.vals) (s_ok rfl) rfl rfl (edit_one _) (at_alloc_new w _) rfl) wnt_none ?_
  have hx := at_setB (cel cE.vals 31) (at_alloc_new w (cel [I 0, I 0, I 0, I 0, I 0, I 0] 31))
  have f1 : Frm0 w (setB (w.alloc (cel [I 0, I 0, I 0, I 0, I 0, I 0] 31)) w.heap.size (cel cE.vals 31)) := (Frm.of_alloc w _).setB (.inr (Nat.le_refl _)) _
  generalize setB (w.alloc (cel [I 0, I 0, I 0, I 0, I 0, I 0] 31)) w.heap.size (cel cE.vals 31) = w1 at *
  refine runWLaw80 ?_
  refine s_val (r_build rfl (bo1 _ _)) wnt_none ?_
  refine runWLaw80 ?_
  refine s_val (r_build rfl (bo2 _ _)) wnt_none ?_
  refine s_val (r_build rfl (bo3 _ _ _)) wnt_none ?_
  refine s_val (r_build rfl (bo1 _ _)) wnt_none ?_
  refine s_val (r_build rfl (bo1 _ _)) wnt_none ?_
  refine s_val (r_build rfl (bo4 _ _ _ _)) wnt_none ?_
  refine runWLaw80 ?_
  refine s_val (r_build rfl (bo2 _ _)) wnt_none ?_
  refine s_val (r_build rfl (bo1 _ _)) wnt_none ?_
  refine s_val (r_build rfl (bo1 _ _)) wnt_none ?_
  refine s_val (r_build rfl (bo1 _ _)) wnt_none ?_
  refine s_val (r_build rfl (bo1 _ _)) wnt_none ?_
  refine s_val (r_build rfl (bo1 _ _)) wnt_none ?_
  refine s_val (r_build rfl (bo1 _ _)) wnt_none ?_
  refine s_val (r_build rfl (bo1 _ _)) wnt_none ?_
  refine s_val (r_build rfl (bo1 _ _)) wnt_none ?_
  refine s_val (r_build rfl (bo1 _ _)) wnt_none ?_
  refine s_val (r_bs rfl (bs_ops _)) wnt_none ?_
  refine runWLaw80 ?_
  exact ret_s rfl rfl ⟨_, rfl, at_alloc_new _ _, f1.size, f1.alloc _⟩
end Go.Proofs.YtbicffldggcdhaaGreatDoor
