/-
  A script that is handed in, opened: its steps as a list of records.
-/
import Derived.Test.YtbicffldggcdhaaDoorWLaw9
import Derived.Deep.Slices
import Derived.SizedLaws
import Derived.ChangeArms
namespace Go.Proofs.YtbicffldggcdhaaDoor
open Go Go.ChangeShapes Go.WideShapes

theorem cellsInt : Tryd.prog.cellsOf 3 = 1 := by kernel_rfl
theorem cellsEdit : Tryd.prog.cellsOf 34 = 6 := by kernel_rfl
def Int64 (z : Int) : Prop := -9223372036854775808 ≤ z ∧ z ≤ 9223372036854775807
theorem wf64 {z : Int} (h : (Lit.int .i64 z).wf = true) : Int64 z := by
  simp only [Lit.wf, Bool.and_eq_true, decide_eq_true_eq] at h
  have e1 : IntKind.i64.min = -9223372036854775808 := by decide
  have e2 : IntKind.i64.max = 9223372036854775807 := by decide
  rw [e1, e2] at h
  exact h

theorem list6 {cs : List Value} {a0 a1 a2 a3 a4 a5 : Value} (hl : cs.length = 6) (h0 : cs[0]? = some a0) (h1 : cs[1]? = some a1) (h2 : cs[2]? = some a2) (h3 : cs[3]? = some a3) (h4 : cs[4]? = some a4) (h5 : cs[5]? = some a5) : cs = [a0, a1, a2, a3, a4, a5] := by
  match cs, hl with
  | [b0, b1, b2, b3, b4, b5], _ =>
    simp at h0 h1 h2 h3 h4 h5
    simp [h0, h1, h2, h3, h4, h5]
theorem list10 {cs : List Value} {a0 a1 a2 a3 : Value} {e : Ed} (hl : cs.length = 10) (h0 : cs[0]? = some a0) (h1 : cs[1]? = some a1) (h2 : cs[2]? = some a2) (h3 : cs[3]? = some a3) (he : (cs.drop 4).take 6 = e.vals) : cs = [a0, a1, a2, a3, I e.kind, I e.node, I e.parent, I e.key, I e.prop, I e.value] := by
  match cs, hl with
  | [b0, b1, b2, b3, b4, b5, b6, b7, b8, b9], _ =>
    simp at h0 h1 h2 h3
    simp [Ed.vals] at he
    simp [h0, h1, h2, h3, he]
section
variable {H : Type} {enc : TypeId × Value → H} {W : World} {base : Nat} {sp : Nat → Bool} {held : Bool} {n : Nat}
theorem int_cell {cs : List Value} {k i : Nat} {xs : List (DataW H × List MemPlace)} (h : DataW.trod enc Tryd.prog W base sp held n 3 ((cs.drop k).take (Tryd.prog.cellsOf 3)) = xs[i]?) (hi : i < xs.length) : ∃ z, cs[k]? = some (I z) ∧ Int64 z := by
  rw [List.getElem?_eq_getElem hi, cellsInt] at h
  obtain ⟨z, hz, _, hw⟩ := DataW.trod_int (u_ok rfl) h
  refine ⟨z, ?_, wf64 hw⟩
  have := congrArg (fun l => l[0]?) hz
  simpa using this
theorem open_edit {cs : List Value} {x : DataW H × List MemPlace} (h : DataW.trod enc Tryd.prog W base sp held n 34 cs = some x) : ∃ e : Ed, cs = e.vals := by
  obtain ⟨xs, m, _, _, hl, hn, hf⟩ := DataW.trod_struct (u_ok rfl) h
  rw [cellsEdit] at hl
  have hn' : xs.length = 6 := hn
  obtain ⟨z0, h0, _⟩ := int_cell (hf 0 _ rfl) (by omega)
  obtain ⟨z1, h1, _⟩ := int_cell (hf 1 _ rfl) (by omega)
  obtain ⟨z2, h2, _⟩ := int_cell (hf 2 _ rfl) (by omega)
  obtain ⟨z3, h3, _⟩ := int_cell (hf 3 _ rfl) (by omega)
  obtain ⟨z4, h4, _⟩ := int_cell (hf 4 _ rfl) (by omega)
  obtain ⟨z5, h5, _⟩ := int_cell (hf 5 _ rfl) (by omega)
  exact ⟨⟨z0, z1, z2, z3, z4, z5⟩, list6 hl h0 h1 h2 h3 h4 h5⟩
theorem sub_ops {X : List Value} : ∀ (l : List OpR) (so : Nat), (∀ (i : Nat) (o : OpR), l[i]? = some o → ∀ j, j < 10 → X[so + (i * 10 + j)]? = o.vals[j]?) → sub X so (l.length * 10) = flatOp l
  | [], so, _ => by simp [sub_zero, flatOp]
  | o :: l, so, h => by
    have h0 := h 0 o rfl
    have g : ∀ k j v, k = so + j → j < 10 → o.vals[j]? = some v → X[k]? = some v := fun k j v hk hj hv => by
      have := h0 j hj
      rw [show so + (0 * 10 + j) = k by omega] at this
      rw [this, hv]
    have ih := sub_ops l (so + 10) (fun i x hx j hj => by
      have := h (i + 1) x (by simpa using hx) j hj
      rw [← this]
      congr 1
      omega)
    rw [show (o :: l).length * 10 = l.length * 10 + 1 + 1 + 1 + 1 + 1 + 1 + 1 + 1 + 1 + 1 by simp; omega]
    rw [sub_succ X (so) _ _ (g _ 0 _ (by omega) (by decide) rfl), sub_succ X (so + 1) _ _ (g _ 1 _ (by omega) (by decide) rfl), sub_succ X (so + 1 + 1) _ _ (g _ 2 _ (by omega) (by decide) rfl), sub_succ X (so + 1 + 1 + 1) _ _ (g _ 3 _ (by omega) (by decide) rfl), sub_succ X (so + 1 + 1 + 1 + 1) _ _ (g _ 4 _ (by omega) (by decide) rfl), sub_succ X (so + 1 + 1 + 1 + 1 + 1) _ _ (g _ 5 _ (by omega) (by decide) rfl), sub_succ X (so + 1 + 1 + 1 + 1 + 1 + 1) _ _ (g _ 6 _ (by omega) (by decide) rfl), sub_succ X (so + 1 + 1 + 1 + 1 + 1 + 1 + 1) _ _ (g _ 7 _ (by omega) (by decide) rfl), sub_succ X (so + 1 + 1 + 1 + 1 + 1 + 1 + 1 + 1) _ _ (g _ 8 _ (by omega) (by decide) rfl), sub_succ X (so + 1 + 1 + 1 + 1 + 1 + 1 + 1 + 1 + 1) _ _ (g _ 9 _ (by omega) (by decide) rfl)]
    rw [show so + 1 + 1 + 1 + 1 + 1 + 1 + 1 + 1 + 1 + 1 = so + 10 by omega, ih]
    rfl

end
end Go.Proofs.YtbicffldggcdhaaDoor
