/-
  Lists of edits that are handed in, opened.
-/
import Derived.Test.YtbicffldggcdhaaDoorLScr
import Derived.Test.YtbicffldggcdhaaDoorWWk1
namespace Go.Proofs.YtbicffldggcdhaaDoor
open Go Go.ChangeShapes Go.WideShapes

theorem bytesEdit : Tryd.prog.bytesOf 34 = 48 := by kernel_rfl
theorem sub6 {X : List Value} {so : Nat} {e : Ed} (h : ∀ j, j < 6 → X[so + j]? = e.vals[j]?) : so + 6 ≤ X.length ∧ sub X so 6 = e.vals := by
  have g : ∀ j v, j < 6 → e.vals[j]? = some v → X[so + j]? = some v := fun j v hj hv => (h j hj).trans hv
  have h5 := (List.getElem?_eq_some_iff.1 (g 5 _ (by omega) rfl)).1
  refine ⟨by omega, ?_⟩
  rw [sub_succ X so 5 _ (g 0 _ (by omega) rfl), sub_succ X (so + 1) 4 _ (g 1 _ (by omega) rfl), sub_succ X (so + 1 + 1) 3 _ (g 2 _ (by omega) rfl), sub_succ X (so + 1 + 1 + 1) 2 _ (g 3 _ (by omega) rfl), sub_succ X (so + 1 + 1 + 1 + 1) 1 _ (g 4 _ (by omega) rfl), sub_succ X (so + 1 + 1 + 1 + 1 + 1) 0 _ (g 5 _ (by omega) rfl), sub_zero]
  rfl
section
variable {H : Type} {enc : TypeId × Value → H} {W : World} {sp : Nat → Bool} {held : Bool}
theorem open_edits {v : Value} {d : DataW H} {p : List MemPlace} (h : DataW.Trod enc Tryd.prog W 0 sp held 27 v d p) (hv : ∃ a len cap, v = .slice a len cap)
    (hw : ∀ elems spare, d = .slice elems spare → (elems.length + spare.length) * Tryd.prog.bytesOf 34 ≤ reachBytes) :
    ∃ es : List Ed, EScr W v es ∧ es.length < 4000000000000 := by
  obtain ⟨a0, len0, cap0, rfl⟩ := hv
  obtain ⟨fuel, hf⟩ := h
  rcases Deep.open_slice (u_ok rfl) hf with ⟨hcs, _⟩ | ⟨a, len, cap, m, k, D, Pl, hcs, _, hlc, _, hm, hx, hel⟩
  · simp [Value.cells] at hcs
    obtain ⟨rfl, rfl, rfl⟩ := hcs
    exact ⟨[], .inl ⟨⟨_, _, rfl⟩, rfl⟩, by decide⟩
  · simp [Value.cells] at hcs
    obtain ⟨rfl, rfl, rfl⟩ := hcs
    have hd := congrArg Prod.fst hx
    clear hx
    have hlm : len0 ≤ m := by rw [hm]; split <;> omega
    have hb := hw _ _ hd
    rw [bytesEdit] at hb
    have hr : reachBytes = 140737488351232 := by decide
    rw [hr] at hb
    simp only [List.length_map, List.length_range] at hb
    have hsz : len0 < 4000000000000 := by omega
    have : Inhabited Ed := ⟨⟨0, 0, 0, 0, 0, 0⟩⟩
    obtain ⟨S, hS⟩ := Deep.choose_lt (α := Ed) (p := fun i o => ∀ j, j < 6 → W.cell? ((a.add (i * 6)).add j) = o.vals[j]?) (fun i (hi : i < m) => by
      obtain ⟨cs', h1, h2⟩ := hel i hi
      rw [cellsEdit] at h1
      obtain ⟨_, hlen, hc⟩ := World.cells?_some h1
      obtain ⟨o, ho⟩ := open_edit h2
      exact ⟨o, fun j hj => by rw [hc j hj, ho]⟩)
    by_cases h0 : len0 = 0
    · subst h0
      exact ⟨[], .inl ⟨⟨_, _, rfl⟩, rfl⟩, by decide⟩
    · have hc0 : W.cell? a = some (I (S 0).kind) := by
        have := (hS 0 (by omega)) 0 (by omega)
        simpa [Addr.add, Ed.vals] using this
      obtain ⟨sb, so, spot⟩ := a
      unfold World.cell? at hc0
      simp only at hc0
      split at hc0
      · rename_i C tx kk hB
        cases spot with
        | some q => simp at hc0
        | none =>
          have hA : At W sb (.cells C.toList.toArray tx kk) := by simpa using hB
          have hcell : ∀ i, i < m → ∀ j, j < 6 → C.toList[so + i * 6 + j]? = (S i).vals[j]? := fun i hi j hj => by
            have := (hS i hi) j hj
            rw [add_none, add_none, cell_at hA] at this
            exact this
          refine ⟨(List.range len0).map S, .inr ⟨sb, so, cap0, C.toList, tx, kk, by simp, hA, fun i o ho => ?_⟩, by simpa using hsz⟩
          simp only [List.getElem?_map] at ho
          have hi : i < len0 := by
            rcases Nat.lt_or_ge i len0 with h | h
            · exact h
            · rw [List.getElem?_eq_none (by simpa using h)] at ho; cases ho
          rw [List.getElem?_range hi] at ho
          simp at ho
          subst ho
          exact sub6 (hcell i (by omega))
      · cases hc0
end
end Go.Proofs.YtbicffldggcdhaaDoor
