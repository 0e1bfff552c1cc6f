/-
  A script that is handed in, opened: its steps as a list of records.
-/
import Derived.Test.YtbicffldggcdhaaGreatDoorWLaw9
import Derived.Deep.Slices
import Derived.SizedLaws
import Derived.ChangeArms
namespace Go.Proofs.YtbicffldggcdhaaGreatDoor
open Go Go.ChangeShapes Go.WideShapes

theorem cellsInt : Tryz.prog.cellsOf 3 = 1 := by kernel_rfl
theorem cellsEdit : Tryz.prog.cellsOf 31 = 6 := by kernel_rfl
theorem cellsOp : Tryz.prog.cellsOf 81 = 10 := by kernel_rfl
theorem bytesOp : Tryz.prog.bytesOf 81 = 80 := by kernel_rfl
def Int64 (z : Int) : Prop := -9223372036854775808 ≤ z ∧ z ≤ 9223372036854775807
theorem wf64 {z : Int} (h : (Lit.int .i64 z).wf = true) : Int64 z := by
  simp only [Lit.wf, Bool.and_eq_true, decide_eq_true_eq] at h
  have e1 : IntKind.i64.min = -9223372036854775808 := by decide
  have e2 : IntKind.i64.max = 9223372036854775807 := by decide
  rw [e1, e2] at h
  exact h

theorem list6 {cs : List Value} {a0 a1 a2 a3 a4 a5 : Value} (hl : cs.length = 6) (h0 : cs[0]? = some a0) (h1 : cs[1]? = some a1) (h2 : cs[2]? = some a2) (h3 : cs[3]? = some a3) (h4 : cs[4]? = some a4) (h5 : cs[5]? = some a5) : cs = [a0, a1, a2, a3, a4, a5] := by
  match cs, hl with
  | [b0, b1, b2, b3, b4, b5], _ =>
    simp at h0 h1 h2 h3 h4 h5
    simp [h0, h1, h2, h3, h4, h5]
theorem list10 {cs : List Value} {a0 a1 a2 a3 : Value} {e : Ed} (hl : cs.length = 10) (h0 : cs[0]? = some a0) (h1 : cs[1]? = some a1) (h2 : cs[2]? = some a2) (h3 : cs[3]? = some a3) (he : (cs.drop 4).take 6 = e.vals) : cs = [a0, a1, a2, a3, I e.kind, I e.node, I e.parent, I e.key, I e.prop, I e.value] := by
  match cs, hl with
  | [b0, b1, b2, b3, b4, b5, b6, b7, b8, b9], _ =>
    simp at h0 h1 h2 h3
    simp [Ed.vals] at he
    simp [h0, h1, h2, h3, he]
section
variable {H : Type} {enc : TypeId × Value → H} {W : World} {base : Nat} {sp : Nat → Bool} {held : Bool} {n : Nat}
theorem int_cell {cs : List Value} {k i : Nat} {xs : List (DataW H × List MemPlace)} (h : DataW.trod enc Tryz.prog W base sp held n 3 ((cs.drop k).take (Tryz.prog.cellsOf 3)) = xs[i]?) (hi : i < xs.length) : ∃ z, cs[k]? = some (I z) ∧ Int64 z := by
  rw [List.getElem?_eq_getElem hi, cellsInt] at h
  obtain ⟨z, hz, _, hw⟩ := DataW.trod_int (u_ok rfl) h
  refine ⟨z, ?_, wf64 hw⟩
  have := congrArg (fun l => l[0]?) hz
  simpa using this
theorem open_edit {cs : List Value} {x : DataW H × List MemPlace} (h : DataW.trod enc Tryz.prog W base sp held n 31 cs = some x) : ∃ e : Ed, cs = e.vals := by
  obtain ⟨xs, m, _, _, hl, hn, hf⟩ := DataW.trod_struct (u_ok rfl) h
  rw [cellsEdit] at hl
  have hn' : xs.length = 6 := hn
  obtain ⟨z0, h0, _⟩ := int_cell (hf 0 _ rfl) (by omega)
  obtain ⟨z1, h1, _⟩ := int_cell (hf 1 _ rfl) (by omega)
  obtain ⟨z2, h2, _⟩ := int_cell (hf 2 _ rfl) (by omega)
  obtain ⟨z3, h3, _⟩ := int_cell (hf 3 _ rfl) (by omega)
  obtain ⟨z4, h4, _⟩ := int_cell (hf 4 _ rfl) (by omega)
  obtain ⟨z5, h5, _⟩ := int_cell (hf 5 _ rfl) (by omega)
  exact ⟨⟨z0, z1, z2, z3, z4, z5⟩, list6 hl h0 h1 h2 h3 h4 h5⟩
theorem open_op {cs : List Value} {x : DataW H × List MemPlace} (h : DataW.trod enc Tryz.prog W base sp held n 81 cs = some x) : ∃ o : OpR, cs = o.vals ∧ OpOk o := by
  obtain ⟨xs, m, _, _, hl, hn, hf⟩ := DataW.trod_struct (u_ok rfl) h
  rw [cellsOp] at hl
  have hn' : xs.length = 5 := hn
  obtain ⟨z0, h0, _⟩ := int_cell (hf 0 _ rfl) (by omega)
  obtain ⟨z1, h1, hA⟩ := int_cell (hf 1 _ rfl) (by omega)
  obtain ⟨z2, h2, _⟩ := int_cell (hf 2 _ rfl) (by omega)
  obtain ⟨z3, h3, _⟩ := int_cell (hf 3 _ rfl) (by omega)
  obtain ⟨e, he⟩ := open_edit ((hf 4 _ rfl).trans (List.getElem?_eq_getElem (show 4 < xs.length by omega)))
  have he' : (cs.drop 4).take 6 = e.vals := by rw [← cellsEdit]; exact he
  exact ⟨⟨z0, z1, z2, z3, e⟩, list10 hl h0 h1 h2 h3 he', hA⟩

theorem sub_ops {X : List Value} : ∀ (l : List OpR) (so : Nat), (∀ (i : Nat) (o : OpR), l[i]? = some o → ∀ j, j < 10 → X[so + (i * 10 + j)]? = o.vals[j]?) → sub X so (l.length * 10) = flatOp l
  | [], so, _ => by simp [sub_zero, flatOp]
  | o :: l, so, h => by
    have h0 := h 0 o rfl
    have g : ∀ k j v, k = so + j → j < 10 → o.vals[j]? = some v → X[k]? = some v := fun k j v hk hj hv => by
      have := h0 j hj
      rw [show so + (0 * 10 + j) = k by omega] at this
      rw [this, hv]
    have ih := sub_ops l (so + 10) (fun i x hx j hj => by
      have := h (i + 1) x (by simpa using hx) j hj
      rw [← this]
      congr 1
      omega)
    rw [show (o :: l).length * 10 = l.length * 10 + 1 + 1 + 1 + 1 + 1 + 1 + 1 + 1 + 1 + 1 by simp; omega]
    rw [sub_succ X (so) _ _ (g _ 0 _ (by omega) (by decide) rfl), sub_succ X (so + 1) _ _ (g _ 1 _ (by omega) (by decide) rfl), sub_succ X (so + 1 + 1) _ _ (g _ 2 _ (by omega) (by decide) rfl), sub_succ X (so + 1 + 1 + 1) _ _ (g _ 3 _ (by omega) (by decide) rfl), sub_succ X (so + 1 + 1 + 1 + 1) _ _ (g _ 4 _ (by omega) (by decide) rfl), sub_succ X (so + 1 + 1 + 1 + 1 + 1) _ _ (g _ 5 _ (by omega) (by decide) rfl), sub_succ X (so + 1 + 1 + 1 + 1 + 1 + 1) _ _ (g _ 6 _ (by omega) (by decide) rfl), sub_succ X (so + 1 + 1 + 1 + 1 + 1 + 1 + 1) _ _ (g _ 7 _ (by omega) (by decide) rfl), sub_succ X (so + 1 + 1 + 1 + 1 + 1 + 1 + 1 + 1) _ _ (g _ 8 _ (by omega) (by decide) rfl), sub_succ X (so + 1 + 1 + 1 + 1 + 1 + 1 + 1 + 1 + 1) _ _ (g _ 9 _ (by omega) (by decide) rfl)]
    rw [show so + 1 + 1 + 1 + 1 + 1 + 1 + 1 + 1 + 1 + 1 = so + 10 by omega, ih]
    rfl

/-- A SCRIPT THAT IS HANDED IN. -/
theorem open_script {v : Value} {d : DataW H} {p : List MemPlace} (h : DataW.Trod enc Tryz.prog W 0 sp held 22 v d p) (hv : ∃ a len cap, v = .slice a len cap)
    (hw : ∀ elems spare, d = .slice elems spare → (elems.length + spare.length) * Tryz.prog.bytesOf 81 ≤ reachBytes) :
    ∃ script : List OpR, Scr W v script ∧ (∀ o ∈ script, OpOk o) ∧ (16 + script.length) * 160 ≤ 2 ^ 48 := by
  obtain ⟨a0, len0, cap0, rfl⟩ := hv
  obtain ⟨fuel, hf⟩ := h
  rcases Deep.open_slice (u_ok rfl) hf with ⟨hcs, _⟩ | ⟨a, len, cap, m, k, D, Pl, hcs, _, hlc, _, hm, hx, hel⟩
  · simp [Value.cells] at hcs
    obtain ⟨rfl, rfl, rfl⟩ := hcs
    exact ⟨[], .inl ⟨⟨_, _, rfl⟩, rfl⟩, fun o ho => (by cases ho), (by decide)⟩
  · simp [Value.cells] at hcs
    obtain ⟨rfl, rfl, rfl⟩ := hcs
    have hd := congrArg Prod.fst hx
    clear hx
    have hlm : len0 ≤ m := by rw [hm]; split <;> omega
    have hb := hw _ _ hd
    rw [bytesOp] at hb
    have hr : reachBytes = 140737488351232 := by decide
    rw [hr] at hb
    simp only [List.length_map, List.length_range] at hb
    have hsz : (16 + len0) * 160 ≤ 2 ^ 48 := by omega
    have : Inhabited OpR := ⟨⟨0, 0, 0, 0, ⟨0, 0, 0, 0, 0, 0⟩⟩⟩
    obtain ⟨S, hS⟩ := Deep.choose_lt (α := OpR) (p := fun i o => OpOk o ∧ ∀ j, j < 10 → W.cell? ((a.add (i * 10)).add j) = o.vals[j]?) (fun i (hi : i < m) => by
      obtain ⟨cs', h1, h2⟩ := hel i hi
      rw [cellsOp] at h1
      obtain ⟨_, hlen, hc⟩ := World.cells?_some h1
      obtain ⟨o, ho, hok⟩ := open_op h2
      exact ⟨o, hok, fun j hj => by rw [hc j hj, ho]⟩)
    by_cases h0 : len0 = 0
    · subst h0
      exact ⟨[], .inl ⟨⟨_, _, rfl⟩, rfl⟩, fun o ho => (by cases ho), (by decide)⟩
    · have hc0 : W.cell? a = some (I (S 0).kind) := by
        have := (hS 0 (by omega)).2 0 (by omega)
        simpa [Addr.add, OpR.vals] using this
      obtain ⟨sb, so, spot⟩ := a
      unfold World.cell? at hc0
      simp only at hc0
      split at hc0
      · rename_i C tx kk hB
        cases spot with
        | some q => simp at hc0
        | none =>
          have hA : At W sb (.cells C.toList.toArray tx kk) := by simpa using hB
          have hcell : ∀ i, i < m → ∀ j, j < 10 → C.toList[so + (i * 10 + j)]? = (S i).vals[j]? := fun i hi j hj => by
            have := (hS i hi).2 j hj
            rw [add_none, add_none, cell_at hA, Nat.add_assoc] at this
            exact this
          refine ⟨(List.range len0).map S, .inr ⟨sb, so, cap0, C.toList, tx, kk, by simp, hA, ?_, ?_⟩, ?_, by simpa using hsz⟩
          · have h9 := hcell (len0 - 1) (by omega) 9 (by omega)
            have hlt := (List.getElem?_eq_some_iff.1 (h9.trans (show (S (len0 - 1)).vals[9]? = some (I (S (len0 - 1)).e.value) from rfl))).1
            simp only [List.length_map, List.length_range]
            omega
          · refine sub_ops _ _ (fun i o ho j hj => ?_)
            simp only [List.getElem?_map] at ho
            have hi : i < len0 := by
              rcases Nat.lt_or_ge i len0 with h | h
              · exact h
              · rw [List.getElem?_eq_none (by simpa using h)] at ho; cases ho
            rw [List.getElem?_range hi] at ho
            simp at ho
            subst ho
            exact hcell i (by omega) j hj
          · intro o ho
            obtain ⟨i, hi, rfl⟩ := List.mem_map.1 ho
            exact (hS i (by have := List.mem_range.1 hi; omega)).1
      · cases hc0
end
end Go.Proofs.YtbicffldggcdhaaGreatDoor
