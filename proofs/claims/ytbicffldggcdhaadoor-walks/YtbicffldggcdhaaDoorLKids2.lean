/-
  What is told of a tree names each node once.
-/
import Derived.Test.YtbicffldggcdhaaDoorLKids
namespace Go.Proofs.YtbicffldggcdhaaDoor
open Go

theorem below_depth {l : List Nd} (h : Wf l) {c : Int} : ∀ (k : Nat) {y : Int}, there l y = true → depth l y = k → below l y c = true → depth l c ≤ k ∧ (depth l c = k → y = c) := by
  intro k
  induction k with
  | zero =>
    intro y hy hk hb
    have h0 : y = 0 := Decidable.byContradiction fun h0 => by
      have := h.depth_par hy h0
      omega
    have hc0 : c = 0 := Decidable.byContradiction fun hc0 => by
      rw [h0, below_root l hc0] at hb
      cases hb
    rw [hc0, ← h0, hk]
    exact ⟨Nat.le_refl _, fun _ => rfl⟩
  | succ k ih =>
    intro y hy hk hb
    by_cases hyc : y = c
    · rw [← hyc, hk]
      exact ⟨Nat.le_refl _, fun _ => rfl⟩
    · have h0 : y ≠ 0 := fun h0 => by
        have hc0 : c ≠ 0 := fun e => hyc (by rw [h0, e])
        rw [h0, below_root l hc0] at hb
        cases hb
      rw [h.step hy h0 hyc] at hb
      have hd := h.depth_par hy h0
      obtain ⟨h1, _⟩ := ih (h.par_there hy) (by omega) hb
      exact ⟨by omega, fun e => by omega⟩
theorem below_uniq {l : List Nd} (h : Wf l) {c e : Int} : ∀ (k : Nat) {y : Int}, there l y = true → depth l y = k → below l y c = true → below l y e = true → depth l c = depth l e → c = e := by
  intro k
  induction k with
  | zero =>
    intro y hy hk h1 h2 hd
    have a1 := below_depth h 0 hy hk h1
    have a2 := below_depth h 0 hy hk h2
    rw [← a1.2 (by omega), ← a2.2 (by omega)]
  | succ k ih =>
    intro y hy hk h1 h2 hd
    have a1 := below_depth h _ hy hk h1
    have a2 := below_depth h _ hy hk h2
    by_cases hyc : y = c
    · rw [← a2.2 (by rw [← hd, ← hyc]; exact hk)]
      exact hyc.symm
    · by_cases hye : y = e
      · exact absurd (a1.2 (by rw [hd, ← hye]; exact hk)) hyc
      · have h0 : y ≠ 0 := fun h0 => by
          have hc0 : c ≠ 0 := fun e => hyc (by rw [h0, e])
          rw [h0, below_root l hc0] at h1
          cases h1
        rw [h.step hy h0 hyc] at h1
        rw [h.step hy h0 hye] at h2
        have hdp := h.depth_par hy h0
        exact ih (h.par_there hy) (by omega) h1 h2 hd
theorem go_nodup {l : List Nd} (h : Wf l) : ∀ {n : Nat} {x : Nd} {d : Int}, x ∈ l → ((go (kids l) n x d).map fun p => p.1.id).Nodup
  | 0, _, _, _ => List.Pairwise.nil
  | n + 1, x, d, hx => by
    have hdep : ∀ c ∈ kids l x.id, c ∈ l ∧ depth l c.id = depth l x.id + 1 := fun c hc => by
      obtain ⟨h1, h2, h3⟩ := (mem_kids h).1 hc
      refine ⟨h1, ?_⟩
      rw [h.depth_par (there_mem.2 ⟨c, h1, rfl⟩) h2, par_mem h.nodup h1, h3]
    have hsub : ∀ c ∈ kids l x.id, ∀ p ∈ go (kids l) n c (d + 1), p.1 ∈ l ∧ below l p.1.id c.id = true := fun c hc p hp => ⟨go_mem h (hdep c hc).1 (d' := p.2) hp, go_below h (hdep c hc).1 (d' := p.2) hp⟩
    simp only [go, List.map_cons, List.nodup_cons, List.map_flatMap]
    constructor
    · intro hm
      obtain ⟨c, hc, hm⟩ := List.mem_flatMap.1 hm
      obtain ⟨p, hp, hpe⟩ := List.mem_map.1 hm
      obtain ⟨h1, h2⟩ := hsub c hc p hp
      have := (below_depth h _ (there_mem.2 ⟨p.1, h1, rfl⟩) rfl h2).1
      have h3 := (hdep c hc).2
      rw [hpe] at this
      omega
    · unfold List.Nodup
      rw [List.pairwise_flatMap]
      constructor
      · intro c hc
        exact go_nodup h (hdep c hc).1
      · have hn := kids_nodup h x.id
        have hp : (kids l x.id).Pairwise (fun a b => a.id ≠ b.id ∧ a ∈ kids l x.id ∧ b ∈ kids l x.id) := by
          refine List.Pairwise.and (List.pairwise_map.1 hn) ?_
          exact List.pairwise_of_forall_mem_list (fun a ha b hb => ⟨ha, hb⟩)
        refine hp.imp ?_
        rintro a b ⟨hne, ha, hb⟩ u hu v hv e
        obtain ⟨p, hp1, rfl⟩ := List.mem_map.1 hu
        obtain ⟨q, hq1, rfl⟩ := List.mem_map.1 hv
        obtain ⟨a1, a2⟩ := hsub a ha p hp1
        obtain ⟨b1, b2⟩ := hsub b hb q hq1
        rw [← e] at b2
        refine hne (below_uniq h _ (there_mem.2 ⟨p.1, a1, rfl⟩) rfl a2 b2 ?_)
        rw [(hdep a ha).2, (hdep b hb).2]
theorem len_sub {α : Type} [DecidableEq α] {a b : List α} (ha : a.Nodup) (hb : b.Nodup) (h : ∀ x ∈ a, x ∈ b) : a.length ≤ b.length := by
  have hp : a.Perm (b.filter fun x => decide (x ∈ a)) := (List.perm_ext_iff_of_nodup ha (List.filter_sublist.nodup hb)).2 (fun x => by
    rw [List.mem_filter, decide_eq_true_eq]
    exact ⟨fun hx => ⟨h x hx, hx⟩, fun hx => hx.2⟩)
  rw [hp.length_eq]
  exact List.length_filter_le _ _
theorem go_len {l : List Nd} (h : Wf l) {n : Nat} {x : Nd} {d : Int} (hx : x ∈ l) : (go (kids l) n x d).length ≤ 32 := by
  have h1 := len_sub (go_nodup h hx (n := n) (d := d)) h.nodup (fun i hi => by
    obtain ⟨p, hp, rfl⟩ := List.mem_map.1 hi
    exact List.mem_map_of_mem (go_mem h hx (d' := p.2) hp))
  have h2 := h.small
  simp only [List.length_map] at h1
  omega
theorem kids_len' {l : List Nd} (h : Wf l) (p : Int) : (kids l p).length ≤ 1000 := by
  have h1 := (kids_perm l p).length_eq
  have h2 := List.length_filter_le (fun x : Nd => decide (x.par = p)) l.tail
  have h3 := h.small
  rw [List.length_tail] at h2
  omega
theorem fm_take' {α β : Type} (f : α → List β) (L : List α) (j : Nat) (y : α) (h : L[j]? = some y) : (L.take j).flatMap f ++ f y = (L.take (j + 1)).flatMap f := by
  rw [List.take_add_one, h]
  simp [List.flatMap_append]
theorem fm_pre' {α β : Type} (f : α → List β) (L : List α) (j : Nat) : (L.take j).flatMap f <+: L.flatMap f := by
  refine ⟨(L.drop j).flatMap f, ?_⟩
  rw [← List.flatMap_append, List.take_append_drop]
end Go.Proofs.YtbicffldggcdhaaDoor
