/-
  The law's one, walked: a step on a tree (Apply, Find, Len).
-/
import Derived.Test.YtbicffldggcdhaaDoorWLaw4
namespace Go.Proofs.YtbicffldggcdhaaDoor
open Go

structure OpR where
  kind : Int
  a : Int
  b : Int
  c : Int
  e : Ed
def OpR.vals (o : OpR) : List Value := [I o.kind, I o.a, I o.b, I o.c, I o.e.kind, I o.e.node, I o.e.parent, I o.e.key, I o.e.prop, I o.e.value]
abbrev OpV (o : OpR) : Value := .agg o.vals.toArray
/-- The reasons lie below wp. -/
structure EI (w : World) (wp : Nat) (ea : List Addr) : Prop where
  errs : Errs w ea
  g : ∀ g ∈ errG, g < wp
  a : ∀ a ∈ ea, a.block < wp
theorem EI.frm {w w' : World} {wp : Nat} {ea : List Addr} {S : Nat → Prop} (h : EI w wp ea) (f : Frm S w w') (hs : ∀ b, S b → wp ≤ b) : EI w' wp ea :=
  ⟨h.errs.frm f (fun g hg hS => by have := h.g g hg; have := hs g hS; omega) (fun a ha hS => by have := h.a a ha; have := hs a.block hS; omega), h.g, h.a⟩
theorem EI.frm0 {w w' : World} {wp : Nat} {ea : List Addr} (h : EI w wp ea) (f : Frm0 w w') : EI w' wp ea := h.frm f (fun _ h => h.elim)

theorem pairs_set : ∀ {ts : List TP} {i : Nat} {x : TP} {l : List Nd}, ts[i]? = some x → pairs (ts.set i ⟨x.t, x.r, l⟩) = pairs ts
  | [], i, x, _, h => by simp at h
  | y :: ts, 0, x, _, h => by
    simp at h
    subst h
    rfl
  | y :: ts, i + 1, x, l, h => by
    simp only [List.set_cons_succ, pairs]
    rw [pairs_set (by simpa using h)]
section
variable {PT : World → Nat → List Nd → (Nat → Prop) → Prop}
end
end Go.Proofs.YtbicffldggcdhaaDoor
