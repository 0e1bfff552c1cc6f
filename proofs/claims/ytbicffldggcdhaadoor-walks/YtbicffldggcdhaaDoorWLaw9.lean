/-
  The law's plays and Trees, walked.
-/
import Derived.Test.YtbicffldggcdhaaDoorWLaw8
namespace Go.Proofs.YtbicffldggcdhaaDoor
open Go

theorem run_append0 {P : Program} {w : World} {sT xT ty e sz n : Nat} {v : Value} {D : TypeDesc} {pre : List Value} (hu : P.underlying sT = some (.slice e)) (hx : P.underlying xT = some D) (hD : ∀ kk, D ≠ .int kk) (hs : szOf P e = some sz)
    (hrow : Row w v e sz n pre) (a : Option Addr) (c : Nat) : (Builtin.append_ #[sT, xT] ty #[v, .slice a 0 c]).run P w = .ok v w := by
  have h0 : (Builtin.firstCells sz 0 (.slice a 0 c)).run P w = .ok #[] w := by cases a <;> simp [Builtin.firstCells, loadCells, loadCellsFrom]
  have hD' : (match D with | .int _ => true | _ => false) = false := by cases D <;> first | rfl | exact absurd rfl (hD _)
  rcases hrow with ⟨rfl, rfl, rfl⟩ | ⟨b, cap, rest, rfl, hA, hpl, hroom, hnc⟩
  · simp [Builtin.append_, run_underlying hu, run_underlying hx, run_size hs, run_lenOf, h0]
  · simp [Builtin.append_, run_underlying hu, run_underlying hx, run_size hs, run_lenOf, h0, hnc, storeCells]

/-- A script in memory. -/
def Scr (w : World) (sv : Value) (script : List OpR) : Prop :=
  ((∃ a c, sv = .slice a 0 c) ∧ script = []) ∨ ∃ sb so sc X tx kk, sv = .slice (some ⟨sb, so, none⟩) script.length sc ∧ At w sb (.cells X.toArray tx kk) ∧ so + script.length * 10 ≤ X.length ∧ sub X so (script.length * 10) = flatOp script
def OpOk (o : OpR) : Prop := -9223372036854775808 ≤ o.a ∧ o.a ≤ 9223372036854775807
theorem first_ok : ∀ o ∈ firstOps, OpOk o := by
  intro o h
  simp only [firstOps, List.mem_cons, List.not_mem_nil, or_false] at h
  rcases h with h | h | h | h | h | h | h | h | h | h | h | h | h | h | h | h <;> subst h <;> exact ⟨by decide, by decide⟩
def nil4 : List Value := [.slice none 0 0, .slice none 0 0, .slice none 0 0, .slice none 0 0]
section
variable {PT : World → Nat → List Nd → (Nat → Prop) → Prop}
theorem bs_ks (w : World) : (Instr.buildSlice 91 4 [(0, I 1), (1, I 2), (2, I 3), (3, I 4)].toArray).run Tryd.prog w = .ok (.slice (some ⟨w.heap.size, 0, none⟩) 4 4) (w.alloc (cel (([1, 2, 3, 4] : List Int).map I ++ []) 3)) := by kernel_rfl
theorem Scr.frm0 {w w' : World} {sv : Value} {script : List OpR} (h : Scr w sv script) (f : Frm0 w w') : Scr w' sv script := by
  rcases h with h | ⟨sb, so, sc, X, tx, kk, e, hA, q⟩
  · exact .inl h
  · exact .inr ⟨sb, so, sc, X, tx, kk, e, f.at0 hA, q⟩
end
end Go.Proofs.YtbicffldggcdhaaDoor
