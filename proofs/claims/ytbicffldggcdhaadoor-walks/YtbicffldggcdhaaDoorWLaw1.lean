/-
  Structs held against themselves; small functions of the law, walked.
-/
import Derived.Test.YtbicffldggcdhaaDoorWRef6
import Derived.Test.YtbicffldggcdhaaDoorWNames
namespace Go.Proofs.YtbicffldggcdhaaDoor
open Go
theorem runWLaw10 {G K : Prop} (k : K) (h : Wrap K → G := by intro h; (repeat (first | (with_reducible first | refine wpIn_seq ?_ | refine w_reg ?_ | refine s_nil ?_ | refine s_nilQ ?_ | refine wpIn_block ?_ | refine q_then ?_ | refine q_blk ?_ | refine q_then_ret ?_ | refine q_blk_ret ?_ | refine q_then_exit ?_ | refine q_blk_exit ?_ | refine wpIn_skip ?_ | refine wpIn_ret ?_ | refine wpIn_exit ?_) | ((with_reducible refine q_blk_other ?_ ?_); exact rfl) | ((with_reducible apply c_true); exact rfl; (with_reducible exact rfl)) | ((with_reducible apply c_false); exact rfl; (with_reducible exact rfl)) | ((with_reducible apply s_val); (first | ((with_reducible apply r_assign_i); exact rfl) | ((with_reducible apply r_move_i); exact rfl) | ((with_reducible apply r_lss_t); exact rfl; exact rfl; omega) | ((with_reducible apply r_lss_f); exact rfl; exact rfl; omega) | ((with_reducible apply r_lss); exact rfl; exact rfl) | ((with_reducible apply r_add); exact rfl; exact rfl; omega; omega) | ((with_reducible apply r_neg); exact rfl; omega; omega) | ((with_reducible apply r_remE); exact rfl; exact rfl; omega; omega) | ((with_reducible apply r_rem); exact rfl; exact rfl; omega)); (with_reducible exact wnt_none)))); exact h.out) : G := h ⟨k⟩

theorem eq_int {w : World} (d : Nat) (a : Int) : (Op.equalIn (d + 1) 3 (I a) (I a)).run Tryd.prog w = .ok true w := by
  simp [Op.equalIn, run_underlying Tryd.underlying3]
theorem part_int {w : World} {cs : List Value} {off : Nat} {v : Value} (h : cs[off]? = some v) : (part 3 cs.toArray off).run Tryd.prog w = .ok v w := by
  simp [part, isAgg, run_underlying Tryd.underlying3, h]
theorem part_props (x : Nd) (w : World) : (part 38 x.vals.toArray 3).run Tryd.prog w = .ok (.agg [I x.p0, I x.p1, I x.p2, I x.p3].toArray) w := by kernel_rfl
theorem eq_arr {w : World} (d : Nat) (a b c e : Int) : (Op.equalIn (d + 2) 38 (.agg [I a, I b, I c, I e].toArray) (.agg [I a, I b, I c, I e].toArray)).run Tryd.prog w = .ok true w := by
  simp only [Op.equalIn, Sem.run_bind, run_underlying Tryd.underlying38, Result.andThen_ok, run_size (s_ok (t := 3) rfl)]
  simp [Std.Legacy.Range.forIn_eq_forIn_range', Std.Legacy.Range.size, List.range', part_int]
theorem eq_node {w : World} (d : Nat) (x : Nd) : (Op.equalIn (d + 3) 40 (.agg x.vals.toArray) (.agg x.vals.toArray)).run Tryd.prog w = .ok true w := by
  have p0 : ∀ w : World, (part 3 x.vals.toArray 0).run Tryd.prog w = .ok (I x.id) w := fun w => part_int rfl
  have p1 : ∀ w : World, (part 3 x.vals.toArray 1).run Tryd.prog w = .ok (I x.par) w := fun w => part_int rfl
  have p2 : ∀ w : World, (part 3 x.vals.toArray 2).run Tryd.prog w = .ok (I x.key) w := fun w => part_int rfl
  have e3 : ∀ (a : Int) (w : World), (Op.equalIn (d + 2) 3 (I a) (I a)).run Tryd.prog w = .ok true w := fun a w => eq_int (d + 1) a
  have e4 : ∀ (a b c e : Int) (w : World), (Op.equalIn (d + 2) 38 (.agg [I a, I b, I c, I e].toArray) (.agg [I a, I b, I c, I e].toArray)).run Tryd.prog w = .ok true w := fun a b c e w => eq_arr d a b c e
  rw [Op.equalIn]
  simp [run_underlying Tryd.underlying40]
  simp only [p0, p1, p2, part_props, e3, e4, Result.andThen_ok]
  simp
theorem eq_edit {w : World} (d : Nat) (e : Ed) : (Op.equalIn (d + 2) 34 (EdV e) (EdV e)).run Tryd.prog w = .ok true w := by
  have p0 : ∀ w : World, (part 3 e.vals.toArray 0).run Tryd.prog w = .ok (I e.kind) w := fun w => part_int rfl
  have p1 : ∀ w : World, (part 3 e.vals.toArray 1).run Tryd.prog w = .ok (I e.node) w := fun w => part_int rfl
  have p2 : ∀ w : World, (part 3 e.vals.toArray 2).run Tryd.prog w = .ok (I e.parent) w := fun w => part_int rfl
  have p3 : ∀ w : World, (part 3 e.vals.toArray 3).run Tryd.prog w = .ok (I e.key) w := fun w => part_int rfl
  have p4 : ∀ w : World, (part 3 e.vals.toArray 4).run Tryd.prog w = .ok (I e.prop) w := fun w => part_int rfl
  have p5 : ∀ w : World, (part 3 e.vals.toArray 5).run Tryd.prog w = .ok (I e.value) w := fun w => part_int rfl
  have e3 : ∀ (a : Int) (w : World), (Op.equalIn (d + 1) 3 (I a) (I a)).run Tryd.prog w = .ok true w := fun a w => eq_int d a
  rw [Op.equalIn]
  simp [run_underlying Tryd.underlying34]
  simp only [p0, p1, p2, p3, p4, p5, e3, Result.andThen_ok]
  simp
section
variable {w : World} {ρ : Operand → Value} {d : Option Nat} {t ty2 : Nat} {p : String} {af : Array Edge} {g : Option (Nat × Bool)} {x y : Operand}
theorem r_eq_node {n : Nd} (hx : ρ x = .agg n.vals.toArray) (hy : ρ y = .agg n.vals.toArray) : (execOp ρ ⟨d, .binOp .eql 40 x y ty2, t, p, af, g⟩).run Tryd.prog w = .ok (.value (.bool true)) w := by
  refine r_eq2 hx hy (by simp [eqGuard]) ?_
  simp [binOp, Op.equal, Op.maxDepth, eq_node 9997 n]
theorem r_ne_node {n : Nd} (hx : ρ x = .agg n.vals.toArray) (hy : ρ y = .agg n.vals.toArray) : (execOp ρ ⟨d, .binOp .neq 40 x y ty2, t, p, af, g⟩).run Tryd.prog w = .ok (.value (.bool false)) w := by
  refine r_eq2 hx hy (by simp [eqGuard]) ?_
  simp [binOp, Op.equal, Op.maxDepth, eq_node 9997 n]
theorem r_eq_edit {n : Ed} (hx : ρ x = EdV n) (hy : ρ y = EdV n) : (execOp ρ ⟨d, .binOp .eql 34 x y ty2, t, p, af, g⟩).run Tryd.prog w = .ok (.value (.bool true)) w := by
  refine r_eq2 hx hy (by simp [eqGuard]) ?_
  simp [binOp, Op.equal, Op.maxDepth, eq_edit 9998 n]
end

theorem pick_ret (c n : Int) (hc : -9223372036854775808 ≤ c) (hc2 : c ≤ 9223372036854775807) (hn : 0 < n) (w : World) : Rets Tryd.prog 11 [I c, I n] w fun v w' => (∃ i : Nat, v = I i ∧ (i : Int) < n) ∧ w = w' := by
  have key : ∀ c : Int, ∃ i : Nat, I (c % n) = I i ∧ (i : Int) < n := fun c => ⟨(c % n).toNat, by
    have := Int.emod_nonneg c (show n ≠ 0 by omega)
    rw [Int.toNat_of_nonneg this], by
    have := Int.emod_nonneg c (show n ≠ 0 by omega)
    have := Int.emod_lt_of_pos c hn
    omega⟩
  refine rets_of Tryd.func11 (by kernel_rfl) rfl Tryd.ntmps11 (Nat.le_of_ble_eq_true rfl) ?_
  by_cases h : c < 0
  · refine runWLaw10 ?_
    exact ret_i rfl rfl ⟨key _, rfl⟩
  · refine runWLaw10 ?_
    exact ret_i rfl rfl ⟨key _, rfl⟩

end Go.Proofs.YtbicffldggcdhaaDoor
