/-
  The document's tree: its small functions, walked.
-/
import Derived.Test.YtbicffldggcdhaaDoorLTab
namespace Go.Proofs.YtbicffldggcdhaaDoor
open Go
theorem runWRef10 {G K : Prop} (k : K) (h : Wrap K → G := by intro h; (repeat (first | (with_reducible first | refine wpIn_seq ?_ | refine w_reg ?_ | refine s_nil ?_ | refine s_nilQ ?_ | refine wpIn_block ?_ | refine q_then ?_ | refine q_blk ?_ | refine q_then_ret ?_ | refine q_blk_ret ?_ | refine q_then_exit ?_ | refine q_blk_exit ?_ | refine wpIn_skip ?_ | refine wpIn_ret ?_ | refine wpIn_exit ?_) | ((with_reducible refine q_blk_other ?_ ?_); exact rfl) | ((with_reducible apply c_true); exact rfl; (with_reducible exact rfl)) | ((with_reducible apply c_false); exact rfl; (with_reducible exact rfl)) | ((with_reducible apply s_no); (first | ((with_reducible apply wnt_nt); exact rfl; exact rfl; exact rfl; exact rfl; (with_reducible exact rfl)) | ((with_reducible apply wnt_nf); exact rfl; exact rfl; exact rfl; exact rfl; (with_reducible exact rfl)))) | ((with_reducible apply s_val); (first | ((with_reducible apply r_assign_b); exact rfl) | ((with_reducible apply r_move_i); exact rfl) | ((with_reducible apply r_geq_t); exact rfl; exact rfl; omega) | ((with_reducible apply r_geq_f); exact rfl; exact rfl; omega) | ((with_reducible apply r_geq); exact rfl; exact rfl) | ((with_reducible apply r_move_b); exact rfl) | ((with_reducible apply r_leq_t); exact rfl; exact rfl; omega) | ((with_reducible apply r_leq_f); exact rfl; exact rfl; omega) | ((with_reducible apply r_leq); exact rfl; exact rfl) | ((with_reducible apply r_pick_t); exact rfl; (with_reducible exact rfl); exact rfl) | ((with_reducible apply r_pick_f); exact rfl; (with_reducible exact rfl); exact rfl)); (first | (with_reducible exact wnt_none) | ((with_reducible apply wnt_y); exact rfl; exact rfl; exact rfl; exact rfl; (with_reducible exact rfl)))))); exact h.out) : G := h ⟨k⟩
theorem runWRef11 {G K : Prop} (k : K) (h : Wrap K → G := by intro h; (repeat (first | (with_reducible first | refine wpIn_seq ?_ | refine w_reg ?_ | refine s_nil ?_ | refine s_nilQ ?_ | refine wpIn_block ?_ | refine q_then ?_ | refine q_blk ?_ | refine q_then_ret ?_ | refine q_blk_ret ?_ | refine q_then_exit ?_ | refine q_blk_exit ?_ | refine wpIn_skip ?_ | refine wpIn_ret ?_ | refine wpIn_exit ?_) | ((with_reducible refine q_blk_other ?_ ?_); exact rfl) | ((with_reducible apply c_true); exact rfl; (with_reducible exact rfl)) | ((with_reducible apply c_false); exact rfl; (with_reducible exact rfl)) | ((with_reducible apply s_no); (first | ((with_reducible apply wnt_nt); exact rfl; exact rfl; exact rfl; exact rfl; (with_reducible exact rfl)) | ((with_reducible apply wnt_nf); exact rfl; exact rfl; exact rfl; exact rfl; (with_reducible exact rfl)))) | ((with_reducible apply s_val); (first | ((with_reducible apply r_assign_b); exact rfl) | ((with_reducible apply r_move_i); exact rfl) | ((with_reducible apply r_leq_t); exact rfl; exact rfl; omega) | ((with_reducible apply r_leq_f); exact rfl; exact rfl; omega) | ((with_reducible apply r_leq); exact rfl; exact rfl) | ((with_reducible apply r_move_b); exact rfl) | ((with_reducible apply r_pick_t); exact rfl; (with_reducible exact rfl); exact rfl) | ((with_reducible apply r_pick_f); exact rfl; (with_reducible exact rfl); exact rfl)); (first | (with_reducible exact wnt_none) | ((with_reducible apply wnt_y); exact rfl; exact rfl; exact rfl; exact rfl; (with_reducible exact rfl)))))); exact h.out) : G := h ⟨k⟩

abbrev I (n : Int) : Value := .int .i64 n
abbrev B (b : Bool) : Value := .bool b
abbrev Ptr (b : Nat) : Value := .pointer (some ⟨b, 0, none⟩)

def cnt (v : Value) : Nat := match v with | .int _ k => k.toNat | _ => 0
theorem bF {p : Prop} [Decidable p] (h : ¬ p) : Value.bool false = B (decide p) := by rw [decide_eq_false h]
theorem bT {p : Prop} [Decidable p] (h : p) : Value.bool true = B (decide p) := by rw [decide_eq_true h]
theorem bI {p q : Prop} [Decidable p] [Decidable q] (h : p ↔ q) : Value.bool (decide p) = B (decide q) := by rw [decide_eq_decide.2 h]
theorem bN {p q : Prop} [Decidable p] [Decidable q] (h : ¬ p ↔ q) : Value.bool (!decide p) = B (decide q) := by
  by_cases hp : p
  · have : ¬ q := fun hq => h.2 hq hp
    simp [hp, this]
  · simp [hp, h.1 hp]

theorem in_ret (a hi : Int) (w : World) : Rets Tryd.prog 34 [I a, I hi] w fun v w' => v = B (decide (0 ≤ a ∧ a ≤ hi)) ∧ w = w' := by
  refine rets_of Tryd.func34 (by kernel_rfl) rfl Tryd.ntmps34 (Nat.le_of_ble_eq_true rfl) ?_
  refine runWRef10 ?_
  cases h : decide (0 ≤ a)
  · refine runWRef10 ?_
    exact ret_1 rfl rfl ⟨bF (by have := of_decide_eq_false h; omega), rfl⟩
  · refine runWRef10 ?_
    exact ret_1 rfl rfl ⟨bI (by have := of_decide_eq_true h; omega), rfl⟩
theorem upTo_ret (hi a : Int) (w : World) : Rets Tryd.prog 31 [I hi, I a] w fun v w' => v = B (decide (0 ≤ a ∧ a ≤ hi)) ∧ w = w' := by
  refine rets_of Tryd.func31 (by kernel_rfl) rfl Tryd.ntmps31 (Nat.le_of_ble_eq_true rfl) ?_
  refine runWRef11 ?_
  cases h : decide (0 ≤ a)
  · refine runWRef11 ?_
    exact ret_1 rfl rfl ⟨bF (by have := of_decide_eq_false h; omega), rfl⟩
  · refine runWRef11 ?_
    exact ret_1 rfl rfl ⟨bI (by have := of_decide_eq_true h; omega), rfl⟩
end Go.Proofs.YtbicffldggcdhaaDoor
