/-
  Trees as lists, further: an edit that is done leaves a tree.
-/
import Derived.Test.YtbicffldggcdhaaDoorWRef6
namespace Go.Proofs.YtbicffldggcdhaaDoor
open Go

theorem topo_sub {par : Int → Int} : ∀ {r seen seen' : List Int}, (∀ x ∈ seen, x ∈ seen') → Topo par seen r → Topo par seen' r
  | [], _, _, _, _ => trivial
  | x :: r, seen, seen', hs, h => ⟨h.1.imp id (hs _), topo_sub (fun y hy => by
      rcases List.mem_cons.1 hy with e | e
      · exact e ▸ List.mem_cons_self
      · exact List.mem_cons_of_mem _ (hs y e)) h.2⟩
theorem topo_append {par : Int → Int} : ∀ {a b seen : List Int}, Topo par seen a → Topo par (a ++ seen) b → Topo par seen (a ++ b)
  | [], _, _, _, h => h
  | x :: a, b, seen, h, k => ⟨h.1, topo_append h.2 (topo_sub (fun y hy => by
      simp only [List.cons_append, List.mem_cons, List.mem_append] at hy ⊢
      rcases hy with e | e | e
      · exact .inr (.inl e)
      · exact .inl e
      · exact .inr (.inr e)) k)⟩
/-- Those of a kind, each of whose parents is of it or else seen already. -/
theorem topo_filter {par par' : Int → Int} {p : Int → Bool} : ∀ {r seen seen' : List Int}, (∀ x ∈ r, p x = true → x ≠ 0 → (par' x = par x ∧ p (par x) = true) ∨ par' x ∈ seen') → (∀ x ∈ seen, p x = true → x ∈ seen') → Topo par seen r → Topo par' seen' (r.filter p)
  | [], _, _, _, _, _ => trivial
  | x :: r, seen, seen', hp, hs, h => by
    by_cases hx : p x = true
    · rw [List.filter_cons_of_pos hx]
      refine ⟨?_, topo_filter (seen := x :: seen) (fun y hy h1 h2 => (hp y (List.mem_cons_of_mem _ hy) h1 h2).imp id (List.mem_cons_of_mem _)) (fun y hy h1 => ?_) h.2⟩
      · by_cases h0 : x = 0
        · exact .inl h0
        · rcases hp x List.mem_cons_self hx h0 with ⟨e, h1⟩ | h1
          · rcases h.1 with h2 | h2
            · exact absurd h2 h0
            · exact .inr (e ▸ hs _ h2 h1)
          · exact .inr h1
      · rcases List.mem_cons.1 hy with e | e
        · exact e ▸ List.mem_cons_self
        · exact List.mem_cons_of_mem _ (hs y e h1)
    · rw [List.filter_cons_of_neg hx]
      refine topo_filter (seen := x :: seen) (fun y hy => hp y (List.mem_cons_of_mem _ hy)) (fun y hy h1 => ?_) h.2
      rcases List.mem_cons.1 hy with e | e
      · exact absurd (e ▸ h1) hx
      · exact hs y e h1

theorem bel_root_mono {l : List Nd} : ∀ {n m : Nat} {id : Int}, n ≤ m → bel l n id 0 = true → bel l m id 0 = true
  | 0, _, _, _, h => by cases h
  | n + 1, 0, _, hle, _ => by omega
  | n + 1, m + 1, id, hle, h => by
    unfold bel at h ⊢
    by_cases h0 : id = 0
    · rw [if_pos h0]
    · rw [if_neg h0, if_neg h0] at h ⊢
      exact bel_root_mono (by omega) h
/-- Who reaches the root in n steps needs no more fuel. -/
theorem bel_stable {l : List Nd} {other : Int} : ∀ {n m : Nat} {id : Int}, n ≤ m → bel l n id 0 = true → bel l m id other = bel l n id other
  | 0, _, _, _, h => by cases h
  | n + 1, 0, _, hle, _ => by omega
  | n + 1, m + 1, id, hle, h => by
    unfold bel at h ⊢
    by_cases h0 : id = 0
    · rw [if_pos h0, if_pos h0]
    · rw [if_neg h0, if_neg h0] at h
      rw [if_neg h0, if_neg h0, bel_stable (by omega) h]
theorem topo_reach {l : List Nd} : ∀ {r seen : List Int}, Topo (parOf l) seen r → (∀ x ∈ seen, bel l seen.length x 0 = true) → ∀ x ∈ r ++ seen, bel l (r.length + seen.length) x 0 = true
  | [], seen, _, hs, x, hx => by simpa using hs x (by simpa using hx)
  | y :: r, seen, h, hs, x, hx => by
    have h1 : ∀ z ∈ y :: seen, bel l (y :: seen).length z 0 = true := fun z hz => by
      rcases List.mem_cons.1 hz with e | e
      · subst e
        rw [List.length_cons, bel]
        by_cases h0 : z = 0
        · rw [if_pos h0]
        · rw [if_neg h0, if_neg h0]
          exact hs _ (h.1.resolve_left h0)
      · exact bel_root_mono (by simp) (hs z e)
    have := topo_reach h.2 h1 x (by
      simp only [List.cons_append, List.mem_cons, List.mem_append] at hx ⊢
      rcases hx with e | e | e
      · exact .inr (.inl e)
      · exact .inl e
      · exact .inr (.inr e))
    rw [List.length_cons] at this ⊢
    rw [show r.length + 1 + seen.length = r.length + (seen.length + 1) by omega]
    exact this
section
variable {l : List Nd}
theorem Wf.reach (h : Wf l) {id : Int} (hi : there l id = true) : bel l l.length id 0 = true := by
  obtain ⟨o, hperm, ht⟩ := h.order
  have ho : ∀ id, id ∈ o ↔ id ∈ l.map (·.id) := fun id => hperm.mem_iff
  have hl : o.length = l.length := by simpa using hperm.length_eq
  have := topo_reach ht (fun x hx => by cases hx) id (by
    rw [List.append_nil, ho]
    obtain ⟨x, hx, e⟩ := there_mem.1 hi
    exact List.mem_map.2 ⟨x, hx, e⟩)
  simpa [hl] using this
theorem Wf.thereRoot (h : Wf l) : there l 0 = true := by
  obtain ⟨x, r, rfl, hx, _⟩ := h.root
  exact there_mem.2 ⟨x, List.mem_cons_self, hx⟩
end
theorem fnd_mem {l : List Nd} (hn : (l.map (·.id)).Nodup) {x : Nd} (hx : x ∈ l) : fnd x.id l = some x := by
  induction l with
  | nil => cases hx
  | cons y l ih =>
    simp only [List.map_cons, List.nodup_cons] at hn
    unfold fnd
    rcases List.mem_cons.1 hx with e | e
    · subst e; rw [if_pos rfl]
    · rw [if_neg (fun h : y.id = x.id => hn.1 (by rw [h]; exact List.mem_map.2 ⟨x, e, rfl⟩)), ih hn.2 e]
theorem fnd_id {l : List Nd} {id : Int} {x : Nd} (h : fnd id l = some x) : x ∈ l ∧ x.id = id := by
  induction l with
  | nil => cases h
  | cons y l ih =>
    unfold fnd at h
    split at h
    · rename_i hy
      cases h
      exact ⟨List.mem_cons_self, hy⟩
    · exact ⟨List.mem_cons_of_mem _ (ih h).1, (ih h).2⟩
theorem fnd_there {l : List Nd} {id : Int} : there l id = true ↔ ∃ x, fnd id l = some x := by
  constructor
  · intro h
    obtain ⟨_, x, _, _, _, hx⟩ := there_spec h
    exact ⟨x, hx⟩
  · rintro ⟨x, hx⟩
    exact there_mem.2 ⟨x, (fnd_id hx).1, (fnd_id hx).2⟩
section
variable {l : List Nd}
theorem par_mem (hn : (l.map (·.id)).Nodup) {x : Nd} (hx : x ∈ l) : parOf l x.id = x.par := by
  rw [parOf, fnd_mem hn hx]
theorem topo_par {par : Int → Int} : ∀ {r seen : List Int}, Topo par seen r → ∀ x ∈ r, x ≠ 0 → par x ∈ r ++ seen
  | y :: r, seen, h, x, hx, h0 => by
    rcases List.mem_cons.1 hx with e | e
    · subst e
      exact List.mem_append_right _ (h.1.resolve_left h0)
    · have := topo_par h.2 x e h0
      simp only [List.cons_append, List.mem_cons, List.mem_append] at this ⊢
      rcases this with a | a | a
      · exact .inr (.inl a)
      · exact .inl a
      · exact .inr (.inr a)
theorem there_ids {id : Int} : there l id = true ↔ id ∈ l.map (·.id) := by
  rw [there_mem, List.mem_map]
theorem Wf.par_there (h : Wf l) {id : Int} (hi : there l id = true) : there l (parOf l id) = true := by
  by_cases h0 : id = 0
  · subst h0
    obtain ⟨x, r, e, hx, hp, _⟩ := h.root
    have : x ∈ l := by rw [e]; exact List.mem_cons_self
    rw [← hx, par_mem h.nodup this, hp]
    exact h.thereRoot
  · obtain ⟨o, hperm, ht⟩ := h.order
    have ho : ∀ id, id ∈ o ↔ id ∈ l.map (·.id) := fun id => hperm.mem_iff
    have := topo_par ht id ((ho id).2 (there_ids.1 hi)) h0
    rw [List.append_nil, ho] at this
    exact there_ids.2 this
theorem Wf.clo (h : Wf l) : Clo l := fun x hx => by
  rw [← par_mem h.nodup hx]
  exact h.par_there (there_mem.2 ⟨x, hx, rfl⟩)
theorem below_refl (l : List Nd) (id : Int) : below l id id = true := by rw [below, bel, if_pos rfl]
theorem below_root (l : List Nd) {other : Int} (h : other ≠ 0) : below l 0 other = false := by rw [below, bel, if_neg (fun e => h e.symm), if_pos rfl]
theorem Wf.step (h : Wf l) {id other : Int} (hi : there l id = true) (h0 : id ≠ 0) (hne : id ≠ other) : below l id other = below l (parOf l id) other := by
  have hr := h.reach hi
  cases hn : l.length with
  | zero => rw [hn] at hr; cases hr
  | succ n =>
    rw [hn, bel, if_neg h0, if_neg h0] at hr
    rw [below, below, hn, bel, if_neg hne, if_neg h0]
    rw [bel_stable (show n ≤ n + 1 by omega) hr, bel_stable (show n ≤ n + 1 + 1 by omega) hr]

theorem fnd_append (id : Int) : ∀ (a b : List Nd), fnd id (a ++ b) = match fnd id a with | some x => some x | none => fnd id b
  | [], b => rfl
  | x :: a, b => by
    simp only [List.cons_append, fnd]
    split
    · rfl
    · exact fnd_append id a b
theorem fnd_up {n : Int} {f : Nd → Nd} (hf : ∀ x, (f x).id = x.id) (id : Int) : ∀ l : List Nd, fnd id (upAt n f l) = (fnd id l).map (fun x => if x.id = n then f x else x)
  | [] => rfl
  | x :: l => by
    have hx : (if x.id = n then f x else x).id = x.id := by split <;> simp [hf]
    simp only [upAt, List.map_cons, fnd, hx]
    split
    · rfl
    · exact fnd_up hf id l
theorem up_ids {n : Int} {f : Nd → Nd} (hf : ∀ x, (f x).id = x.id) (l : List Nd) : (upAt n f l).map (·.id) = l.map (·.id) := by
  unfold upAt
  rw [List.map_map]
  apply List.map_congr_left
  intro x _
  show (if x.id = n then f x else x).id = x.id
  split <;> simp [hf]
theorem topo_congr {par par' : Int → Int} : ∀ {r seen : List Int}, (∀ x ∈ r, x ≠ 0 → par' x = par x) → Topo par seen r → Topo par' seen r
  | [], _, _, _ => trivial
  | x :: r, seen, he, h => ⟨by
      by_cases h0 : x = 0
      · exact .inl h0
      · rw [he x List.mem_cons_self h0]; exact h.1, topo_congr (fun y hy => he y (List.mem_cons_of_mem _ hy)) h.2⟩
theorem setProp_id (x : Nd) (p v : Int) : (setProp x p v).id = x.id ∧ (setProp x p v).par = x.par ∧ (setProp x p v).key = x.key := by
  unfold setProp
  split
  · exact ⟨rfl, rfl, rfl⟩
  · split
    · exact ⟨rfl, rfl, rfl⟩
    · split <;> exact ⟨rfl, rfl, rfl⟩
end
end Go.Proofs.YtbicffldggcdhaaDoor
