/-
  What the law holds of its trees; looks (no lists yet) and trees, walked.
-/
import Derived.Test.YtbicffldggcdhaaDoorWLaw2
import Derived.Test.YtbicffldggcdhaaDoorLTree3
namespace Go.Proofs.YtbicffldggcdhaaDoor
open Go

structure TP where
  t : Nat
  r : Nat
  l : List Nd
def pairs : List TP → List Value
  | [] => []
  | x :: ts => [Ptr x.t, Ptr x.r] ++ pairs ts
theorem pairs_length : ∀ ts : List TP, (pairs ts).length = ts.length * 2
  | [] => rfl
  | x :: ts => by simp [pairs, pairs_length ts]; omega
theorem pairs_append : ∀ a b : List TP, pairs (a ++ b) = pairs a ++ pairs b
  | [], b => rfl
  | x :: a, b => by simp [pairs, pairs_append a b]
theorem pairs_get : ∀ (ts : List TP) (i : Nat) (x : TP), ts[i]? = some x → ∀ (rest : List Value) (j : Nat), j < 2 → (pairs ts ++ rest)[i * 2 + j]? = [Ptr x.t, Ptr x.r][j]?
  | [], i, x, h, _, _, _ => by simp at h
  | y :: l, 0, x, h, rest, j, hj => by
    simp at h
    subst h
    simp only [pairs, Nat.zero_mul, Nat.zero_add, List.append_assoc]
    exact List.getElem?_append_left (by simpa using hj)
  | y :: l, i + 1, x, h, rest, j, hj => by
    simp only [pairs, List.append_assoc]
    rw [List.getElem?_append_right (by simp; omega), show (i + 1) * 2 + j - [Ptr y.t, Ptr y.r].length = i * 2 + j by simp; omega]
    exact pairs_get l i x (by simpa using h) rest j hj
theorem pair_at {ts : List TP} {rest : List Value} {i : Nat} {x : TP} (h : ts[i]? = some x) (j : Nat) (v : Value) (off : Nat) (ho : off = i * 2 + j) (hj : j < 2) (hv : [Ptr x.t, Ptr x.r][j]? = some v) : (pairs ts ++ rest)[off]? = some v := by
  rw [ho, pairs_get ts i x h rest j hj, hv]
theorem pairs_sub {ts : List TP} {rest : List Value} {i : Nat} {x : TP} (h : ts[i]? = some x) : sub (pairs ts ++ rest) (i * 2) 2 = [Ptr x.t, Ptr x.r] := by
  rw [sub_succ (pairs ts ++ rest) (i * 2) 1 (Ptr x.t) (pair_at h 0 (Ptr x.t) _ (by omega) (by decide) rfl), sub_succ (pairs ts ++ rest) (i * 2 + 1) 0 (Ptr x.r) (pair_at h 1 (Ptr x.r) _ (by omega) (by decide) rfl), sub_zero]
theorem pairs_one (ts : List TP) : ∀ u ∈ pairs ts, one u = true := by
  induction ts with
  | nil => intro u h; cases h
  | cons x l ih =>
    intro u h
    rcases List.mem_append.1 h with h | h
    · simp only [List.mem_cons, List.not_mem_nil, or_false] at h
      rcases h with h | h <;> subst h <;> rfl
    · exact ih u h

/-- One pair: a tree of the program's and the document's, which are the same; each in blocks of its own colour. -/
structure TOk (PT : World → Nat → List Nd → (Nat → Prop) → Prop) (w : World) (col : Nat → Nat) (i : Nat) (x : TP) : Prop where
  pt : PT w x.t x.l (fun b => col b = 2 * i + 1)
  rt : ∃ b cap rest, RefT w x.r b cap rest x.l ∧ col x.r = 2 * i + 2 ∧ col b = 2 * i + 2
  wf : Wf x.l
/-- What steps on trees change: the law's World, its row of pairs, the trees' own blocks. -/
def TS (wp : Nat) (tsv : Value) (col : Nat → Nat) (b : Nat) : Prop := b = wp ∨ InV tsv b ∨ col b ≠ 0
theorem Row.frm {w w' : World} {v : Value} {e sz n : Nat} {pre : List Value} {S : Nat → Prop} (h : Row w v e sz n pre) (f : Frm S w w') (hs : ∀ b, InV v b → ¬ S b) : Row w' v e sz n pre := by
  rcases h with h | ⟨b, cap, rest, rfl, hA, q⟩
  · exact .inl h
  · exact .inr ⟨b, cap, rest, rfl, f.at (hs b ⟨_, _, _, rfl⟩) hA, q⟩
section
variable {PT : World → Nat → List Nd → (Nat → Prop) → Prop}
theorem TOk.frm {w w' : World} {col : Nat → Nat} {i : Nat} {x : TP} {S : Nat → Prop} (sp : TreeSpec PT) (h : TOk PT w col i x) (f : Frm S w w') (hs : ∀ b, col b = 2 * i + 1 ∨ col b = 2 * i + 2 → ¬ S b) : TOk PT w' col i x := by
  obtain ⟨b, cap, rest, hR, c1, c2⟩ := h.rt
  exact ⟨sp.frm h.pt f (fun b hb => hs b (.inl hb)), ⟨b, cap, rest, hR.frm f (hs _ (.inr c1)) (hs _ (.inr c2)), c1, c2⟩, h.wf⟩
end
end Go.Proofs.YtbicffldggcdhaaDoor
