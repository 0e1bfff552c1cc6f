/-
  The same nodes in another order: what is found, and what lies below what, is the same. How deep a node lies.
-/
import Derived.Test.YtbicffldggcdhaaDoorLMap
import Derived.Test.YtbicffldggcdhaaDoorLSpec
namespace Go.Proofs.YtbicffldggcdhaaDoor
open Go
variable {m l : List Nd}

theorem perm_nodup (hp : m.Perm l) (hn : (l.map (·.id)).Nodup) : (m.map (·.id)).Nodup := (hp.map _).nodup_iff.2 hn
theorem fnd_perm (hp : m.Perm l) (hn : (l.map (·.id)).Nodup) (id : Int) : fnd id m = fnd id l := by
  cases hl : fnd id l with
  | some x =>
    obtain ⟨hx, he⟩ := fnd_id hl
    have := fnd_mem (perm_nodup hp hn) (hp.mem_iff.2 hx)
    rw [he] at this
    exact this
  | none =>
    cases hm : fnd id m with
    | none => rfl
    | some y =>
      obtain ⟨hy, he⟩ := fnd_id hm
      have := fnd_mem hn (hp.mem_iff.1 hy)
      rw [he, hl] at this
      cases this
theorem there_perm (hp : m.Perm l) (hn : (l.map (·.id)).Nodup) (id : Int) : there m id = there l id := by
  rw [Bool.eq_iff_iff, fnd_there, fnd_there, fnd_perm hp hn]
theorem par_perm (hp : m.Perm l) (hn : (l.map (·.id)).Nodup) : parOf m = parOf l := by
  funext id
  rw [parOf, parOf, fnd_perm hp hn]
theorem bel_par (h : parOf m = parOf l) : ∀ (n : Nat) (a b : Int), bel m n a b = bel l n a b
  | 0, _, _ => rfl
  | n + 1, a, b => by
    unfold bel
    rw [h, bel_par h n]
theorem below_perm (hp : m.Perm l) (hn : (l.map (·.id)).Nodup) (a b : Int) : below m a b = below l a b := by
  rw [below, below, hp.length_eq, bel_par (par_perm hp hn)]
theorem upAt_const {id : Int} {x : Nd} {f : Nd → Nd} (hn : (m.map (·.id)).Nodup) (hx : fnd id m = some x) : upAt id (fun _ => f x) m = upAt id f m := by
  refine List.map_congr_left (fun y hy => ?_)
  by_cases h : y.id = id
  · have := fnd_mem hn hy
    rw [h, hx] at this
    cases this
    rfl
  · rw [if_neg h, if_neg h]

/-- How many nodes lie above one. -/
def dep (l : List Nd) : Nat → Int → Nat
  | 0, _ => 0
  | n + 1, id => if id = 0 then 0 else dep l n (parOf l id) + 1
theorem dep_stable : ∀ (n : Nat) (id : Int), bel l n id 0 = true → dep l (n + 1) id = dep l n id
  | 0, _, h => by cases h
  | n + 1, id, h => by
    by_cases h0 : id = 0
    · rw [dep, if_pos h0, dep, if_pos h0]
    · rw [bel, if_neg h0, if_neg h0] at h
      rw [dep, if_neg h0, dep_stable n _ h]
      conv => rhs; rw [dep, if_neg h0]
def depth (l : List Nd) (id : Int) : Nat := dep l (l.length + 1) id
theorem Wf.depth_par (h : Wf l) {id : Int} (hi : there l id = true) (h0 : id ≠ 0) : depth l id = depth l (parOf l id) + 1 := by
  unfold depth
  rw [dep_stable l.length (parOf l id) (h.reach (h.par_there hi)), dep, if_neg h0]
def num (v : Value) : Int := match v with | .int _ k => k | _ => 0
end Go.Proofs.YtbicffldggcdhaaDoor
