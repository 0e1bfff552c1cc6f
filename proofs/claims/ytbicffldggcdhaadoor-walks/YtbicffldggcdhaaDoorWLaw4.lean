/-
  The law's tree, walked: a tree that came out becomes one pair more, and its owner edits it.
-/
import Derived.Test.YtbicffldggcdhaaDoorWLaw3
namespace Go.Proofs.YtbicffldggcdhaaDoor
open Go

def setE (n : Nat) : Ed := ⟨4, 0, 0, 0, (n : Int) % 4, 1 + (n : Int) % 1000⟩
theorem bld_edit (a b : Int) (w : World) : (Instr.build 34 [(0, I 4), (1, I 0), (4, I a), (5, I b)].toArray).run Tryd.prog w = .ok (EdV ⟨4, 0, 0, 0, a, b⟩) w := by kernel_rfl
theorem setE_fine {l : List Nd} (h : Wf l) (n : Nat) : refused l (setE n) = 0 := by
  refine rf34_ok ?_ (.inr rfl) (.inl rfl) h.thereRoot
  rw [wrong_4 (setE n) rfl]
  have h1 : decide (0 ≤ (setE n).node ∧ (setE n).node ≤ 1000) = true := by simp [setE]
  have h2 : decide (0 ≤ (setE n).prop ∧ (setE n).prop ≤ 3) = true := decide_eq_true (show 0 ≤ (n : Int) % 4 ∧ (n : Int) % 4 ≤ 3 by omega)
  have h3 : decide (0 ≤ (setE n).value ∧ (setE n).value ≤ 1000000) = true := decide_eq_true (show 0 ≤ 1 + (n : Int) % 1000 ∧ 1 + (n : Int) % 1000 ≤ 1000000 by omega)
  rw [h1, h2, h3]
  rfl
theorem Wf.ne {l : List Nd} (h : Wf l) : l ≠ [] := by
  obtain ⟨x, r, e, _⟩ := h.root
  rw [e]
  exact List.cons_ne_nil _ _
theorem Wf.rootId {l : List Nd} (h : Wf l) : ∃ x t, l = x :: t ∧ x.id = 0 := by
  obtain ⟨x, r, e, hx, _⟩ := h.root
  exact ⟨x, r, e, hx⟩
theorem errs_lt {w : World} {ea : List Addr} (h : Errs w ea) : (∀ g ∈ errG, g < w.heap.size) ∧ ∀ a ∈ ea, a.block < w.heap.size := by
  constructor
  · intro g hg
    obtain ⟨i, hi⟩ := List.mem_iff_getElem?.1 hg
    have h9 : i < 9 := by have := (List.getElem?_eq_some_iff.1 hi).1; simpa [errG] using this
    obtain ⟨a, ha⟩ : ∃ a, ea[i]? = some a := ⟨_, List.getElem?_eq_getElem (by rw [h.len]; exact h9)⟩
    obtain ⟨ty, k, hv⟩ := (h.one i g a hi ha).var
    exact at_lt hv
  · intro a ha
    obtain ⟨i, hi⟩ := List.mem_iff_getElem?.1 ha
    obtain ⟨c, t, hb⟩ := errs_get_one h hi
    exact at_lt hb

section
variable {PT : World → Nat → List Nd → (Nat → Prop) → Prop}
end
end Go.Proofs.YtbicffldggcdhaaDoor
