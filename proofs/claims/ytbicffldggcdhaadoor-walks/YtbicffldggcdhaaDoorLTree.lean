/-
  Trees as lists of nodes, without any program: edits, why one is refused, what comes of it.
-/
import Derived.Test.YtbicffldggcdhaaDoorWRef2
namespace Go.Proofs.YtbicffldggcdhaaDoor
open Go

structure Ed where
  kind : Int
  node : Int
  parent : Int
  key : Int
  prop : Int
  value : Int
def Ed.vals (e : Ed) : List Value := [I e.kind, I e.node, I e.parent, I e.key, I e.prop, I e.value]
abbrev EdV (e : Ed) : Value := .agg e.vals.toArray
def inB (n hi : Int) : Bool := decide (0 ≤ n ∧ n ≤ hi)
def wrongB (e : Ed) : Bool :=
  if e.kind = 1 ∨ e.kind = 2 then !inB e.node 1000 || (!inB e.parent 1000 || !inB e.key 1000)
  else if e.kind = 3 then !inB e.node 1000
  else if e.kind = 4 then !inB e.node 1000 || (!inB e.prop 3 || !inB e.value 1000000)
  else true

/-- Whose parent is what. -/
def fnd (id : Int) : List Nd → Option Nd
  | [] => none
  | x :: l => if x.id = id then some x else fnd id l
theorem fnd_at (id : Int) : ∀ l : List Nd, fnd id l = (at_ id l).bind (fun i => l[i]?)
  | [] => rfl
  | x :: l => by
    unfold fnd at_
    split
    · rfl
    · rw [fnd_at id l]
      cases at_ id l <;> simp
def parOf (l : List Nd) (id : Int) : Int := match fnd id l with | some x => x.par | none => 0
/-- Is a node another one, or below it, in so many steps? -/
def bel (l : List Nd) : Nat → Int → Int → Bool
  | 0, _, _ => false
  | n + 1, id, other => if id = other then true else if id = 0 then false else bel l n (parOf l id) other
def below (l : List Nd) (id other : Int) : Bool := bel l (l.length + 1) id other
def there (l : List Nd) (id : Int) : Bool := (at_ id l).isSome
def refused (l : List Nd) (e : Ed) : Nat :=
  if wrongB e then 1
  else if e.kind = 1 ∧ there l e.node then 4
  else if (e.kind = 2 ∨ e.kind = 3) ∧ e.node = 0 then 2
  else if e.kind ≠ 1 ∧ ¬ there l e.node then 3
  else if (e.kind = 1 ∨ e.kind = 2) ∧ ¬ there l e.parent then 3
  else if e.kind = 1 ∧ 32 ≤ l.length then 5
  else if e.kind = 2 ∧ below l e.parent e.node then 6
  else 0
def setProp (x : Nd) (p v : Int) : Nd :=
  if p = 0 then { x with p0 := v } else if p = 1 then { x with p1 := v } else if p = 2 then { x with p2 := v } else { x with p3 := v }
def upAt (id : Int) (f : Nd → Nd) (l : List Nd) : List Nd := l.map fun x => if x.id = id then f x else x
def applyL (l : List Nd) (e : Ed) : List Nd :=
  if refused l e ≠ 0 then l
  else if e.kind = 1 then l ++ [⟨e.node, e.parent, e.key, 0, 0, 0, 0⟩]
  else if e.kind = 2 then upAt e.node (fun x => { x with par := e.parent, key := e.key }) l
  else if e.kind = 4 then upAt e.node (fun x => setProp x e.prop e.value) l
  else l.filter fun x => !below l x.id e.node

theorem there_spec {l : List Nd} {id : Int} (h : there l id = true) : ∃ (i : Nat) (x : Nd), l[i]? = some x ∧ x.id = id ∧ atI l id = i ∧ fnd id l = some x := by
  unfold there at h
  cases hi : at_ id l with
  | none => rw [hi] at h; cases h
  | some i =>
    obtain ⟨x, hx, he, _⟩ := at_some hi
    exact ⟨i, x, hx, he, by rw [atI, hi], by rw [fnd_at, hi]; exact hx⟩
theorem there_not {l : List Nd} {id : Int} (h : there l id = false) : atI l id = -1 ∧ fnd id l = none := by
  unfold there at h
  cases hi : at_ id l with
  | none => exact ⟨by rw [atI, hi], by rw [fnd_at, hi]; rfl⟩
  | some i => rw [hi] at h; cases h
theorem there_mem {l : List Nd} {id : Int} : there l id = true ↔ ∃ x ∈ l, x.id = id := by
  constructor
  · intro h
    obtain ⟨i, x, hx, he, _⟩ := there_spec h
    exact ⟨x, List.mem_of_getElem? hx, he⟩
  · rintro ⟨x, hx, he⟩
    unfold there
    cases hi : at_ id l with
    | none => exact absurd he (at_none hi x hx)
    | some i => rfl
/-- Closed: each parent is there. -/
def Clo (l : List Nd) : Prop := ∀ x ∈ l, there l x.par = true
/-- Each stands behind its parent. -/
def Topo (par : Int → Int) : List Int → List Int → Prop
  | _, [] => True
  | seen, x :: r => (x = 0 ∨ par x ∈ seen) ∧ Topo par (x :: seen) r
/-- A tree: the root first; no number twice; and there is an order of the numbers in which each stands behind its parent. -/
structure Wf (l : List Nd) : Prop where
  root : ∃ x r, l = x :: r ∧ x.id = 0 ∧ x.par = 0 ∧ x.key = 0
  nodup : (l.map (·.id)).Nodup
  small : l.length ≤ 32
  order : ∃ o : List Int, o.Perm (l.map (·.id)) ∧ Topo (parOf l) [] o
end Go.Proofs.YtbicffldggcdhaaDoor
