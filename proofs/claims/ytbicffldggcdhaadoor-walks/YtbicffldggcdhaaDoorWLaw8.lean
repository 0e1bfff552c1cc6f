/-
  The law's first, walked: the steps that are asked in any case.
-/
import Derived.Test.YtbicffldggcdhaaDoorWLaw7
namespace Go.Proofs.YtbicffldggcdhaaDoor
open Go

def flatOp : List OpR → List Value
  | [] => []
  | x :: l => x.vals ++ flatOp l
theorem flatOp_length : ∀ l : List OpR, (flatOp l).length = l.length * 10
  | [] => rfl
  | x :: l => by simp [flatOp, flatOp_length l, OpR.vals]; omega
theorem flatOp_append : ∀ a b : List OpR, flatOp (a ++ b) = flatOp a ++ flatOp b
  | [], b => rfl
  | x :: a, b => by simp [flatOp, flatOp_append a b]
theorem flatOp_sub : ∀ (l : List OpR) (i : Nat) (x : OpR), l[i]? = some x → ∀ rest : List Value, sub (flatOp l ++ rest) (i * 10) 10 = x.vals
  | [], i, x, h, _ => by simp at h
  | y :: l, 0, x, h, rest => by
    simp at h
    subst h
    simp only [flatOp, Nat.zero_mul, List.append_assoc]
    rw [sub_append_left _ _ 10 (by simp [OpR.vals])]
    rfl
  | y :: l, i + 1, x, h, rest => by
    simp only [flatOp, List.append_assoc]
    rw [show (i + 1) * 10 = y.vals.length + i * 10 by simp [OpR.vals]; omega, sub_drop]
    exact flatOp_sub l i x (by simpa using h) rest
theorem op_one (o : OpR) : ∀ u ∈ o.vals, one u = true := by
  intro u h
  simp only [OpR.vals, List.mem_cons, List.not_mem_nil, or_false] at h
  rcases h with h | h | h | h | h | h | h | h | h | h <;> subst h <;> rfl
theorem flatOp_one (l : List OpR) : ∀ u ∈ flatOp l, one u = true := by
  induction l with
  | nil => intro u h; cases h
  | cons x l ih =>
    intro u h
    rcases List.mem_append.1 h with h | h
    · exact op_one x u h
    · exact ih u h

def z0 : Ed := ⟨0, 0, 0, 0, 0, 0⟩
def cE : Ed := ⟨1, 1, 0, 0, 0, 0⟩
def k0 (k : Int) : OpR := ⟨k, 0, 0, 0, z0⟩
theorem bld_c (w : World) : (Instr.build 34 [(0, I 1), (1, I 1)].toArray).run Tryd.prog w = .ok (EdV cE) w := by kernel_rfl
def firstOps : List OpR := [k0 1, ⟨2, 0, 0, 0, cE⟩, ⟨3, 0, 1, 0, z0⟩, k0 4, k0 5, ⟨10, 2, 1, 0, z0⟩, ⟨11, 0, 0, 0, cE⟩, k0 16, k0 12, k0 14, k0 14, k0 21, k0 15, k0 17, k0 19, k0 20]
end Go.Proofs.YtbicffldggcdhaaDoor
