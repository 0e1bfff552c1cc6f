/-
  An edit that is done, or refused, leaves a tree.
-/
import Derived.Test.YtbicffldggcdhaaDoorLTree2
namespace Go.Proofs.YtbicffldggcdhaaDoor
open Go

theorem rf0_create {l : List Nd} {e : Ed} (h : refused l e = 0) (k : e.kind = 1) : there l e.node = false ∧ there l e.parent = true ∧ l.length < 32 := by
  have hw := rf0_wrong h
  cases a : there l e.node with
  | true => rw [rf1_ex hw k a] at h; cases h
  | false =>
    cases b : there l e.parent with
    | false => rw [rf1_par hw k a b] at h; cases h
    | true =>
      by_cases c : 32 ≤ l.length
      · rw [rf1_full hw k a b c] at h; cases h
      · exact ⟨rfl, rfl, by omega⟩
theorem rf0_move {l : List Nd} {e : Ed} (h : refused l e = 0) (k : e.kind = 2) : e.node ≠ 0 ∧ there l e.node = true ∧ there l e.parent = true ∧ below l e.parent e.node = false := by
  have hw := rf0_wrong h
  obtain ⟨a, z⟩ := rf0_node h (by omega)
  have z' : e.node ≠ 0 := by omega
  cases b : there l e.parent with
  | false => rw [rf2_par hw k z' a b] at h; cases h
  | true =>
    cases c : below l e.parent e.node with
    | true => rw [rf2_cyc hw k z' a b c] at h; cases h
    | false => exact ⟨z', a, rfl, rfl⟩
theorem there_false_ids {l : List Nd} {id : Int} (h : there l id = false) : id ∉ l.map (·.id) := fun hm => by
  rw [there_ids.2 hm] at h
  cases h

theorem Wf.create {l : List Nd} {e : Ed} (h : Wf l) (hz : refused l e = 0) (k : e.kind = 1) : Wf (l ++ [⟨e.node, e.parent, e.key, 0, 0, 0, 0⟩]) := by
  obtain ⟨a, b, c⟩ := rf0_create hz k
  obtain ⟨x, r, rfl, hx⟩ := h.root
  obtain ⟨o, hperm, hot⟩ := h.order
  have ho : ∀ id, id ∈ o ↔ id ∈ (x :: r).map (·.id) := fun id => hperm.mem_iff
  refine ⟨⟨x, r ++ [_], rfl, hx⟩, ?_, by simp at c ⊢; omega, o ++ [e.node], ?_, ?_⟩
  · rw [List.map_append, List.nodup_append]
    refine ⟨h.nodup, by simp, ?_⟩
    intro y hy z hz' e'
    simp at hz'
    subst hz'
    exact there_false_ids a (e' ▸ hy)
  · rw [List.map_append]
    exact hperm.append (List.Perm.refl _)
  · have hp : ∀ id ∈ o, parOf ((x :: r) ++ [⟨e.node, e.parent, e.key, 0, 0, 0, 0⟩]) id = parOf (x :: r) id := fun id hid => by
      obtain ⟨y, hy⟩ := fnd_there.1 (there_ids.2 ((ho id).1 hid))
      rw [parOf, parOf, fnd_append, hy]
    refine topo_append (topo_congr (fun id hid _ => hp id hid) hot) ⟨.inr ?_, trivial⟩
    have : parOf ((x :: r) ++ [⟨e.node, e.parent, e.key, 0, 0, 0, 0⟩]) e.node = e.parent := by
      rw [parOf, fnd_append, (there_not a).2]
      simp [fnd]
    rw [this, List.append_nil, ho]
    exact there_ids.1 b

theorem Wf.set {l : List Nd} {n p v : Int} (h : Wf l) : Wf (upAt n (fun x => setProp x p v) l) := by
  have hf : ∀ x, (setProp x p v).id = x.id := fun x => (setProp_id x p v).1
  obtain ⟨x, r, rfl, hx1, hx2, hx3⟩ := h.root
  obtain ⟨o, hperm, hot⟩ := h.order
  refine ⟨⟨_, _, rfl, ?_, ?_, ?_⟩, by rw [up_ids hf]; exact h.nodup, by simpa [upAt] using h.small, o, by rw [up_ids hf]; exact hperm, ?_⟩
  · show (if x.id = n then setProp x p v else x).id = 0
    split <;> simp [hf, hx1]
  · show (if x.id = n then setProp x p v else x).par = 0
    split <;> simp [(setProp_id x p v).2.1, hx2]
  · show (if x.id = n then setProp x p v else x).key = 0
    split <;> simp [(setProp_id x p v).2.2, hx3]
  · refine topo_congr (fun id _ _ => ?_) hot
    rw [parOf, parOf, fnd_up hf]
    cases fnd id (x :: r) with
    | none => rfl
    | some y =>
      show (if y.id = n then setProp y p v else y).par = y.par
      split
      · exact (setProp_id y p v).2.1
      · rfl

theorem Wf.move {l : List Nd} {e : Ed} (h : Wf l) (hz : refused l e = 0) (k : e.kind = 2) : Wf (upAt e.node (fun x => { x with par := e.parent, key := e.key }) l) := by
  obtain ⟨z, a, b, c⟩ := rf0_move hz k
  have hf : ∀ x : Nd, ({ x with par := e.parent, key := e.key } : Nd).id = x.id := fun x => rfl
  obtain ⟨x, r, e0, hx1, hx2, hx3⟩ := h.root
  obtain ⟨o, hperm, hot⟩ := h.order
  have ho : ∀ id, id ∈ o ↔ id ∈ l.map (·.id) := fun id => hperm.mem_iff
  have hpar : ∀ id, there l id = true → parOf (upAt e.node (fun x => { x with par := e.parent, key := e.key }) l) id = if id = e.node then e.parent else parOf l id := fun id hid => by
    obtain ⟨y, hy⟩ := fnd_there.1 hid
    rw [parOf, parOf, fnd_up hf, hy]
    have := (fnd_id hy).2
    show (if y.id = e.node then ({ y with par := e.parent, key := e.key } : Nd) else y).par = _
    rw [this]
    split <;> rfl
  have hin : ∀ id ∈ o, there l id = true := fun id hid => there_ids.2 ((ho id).1 hid)
  refine ⟨?_, by rw [up_ids hf]; exact h.nodup, by simpa [upAt] using h.small, o.filter (fun id => !below l id e.node) ++ o.filter (fun id => below l id e.node), ?_, ?_⟩
  · subst e0
    refine ⟨_, _, rfl, ?_⟩
    show (if x.id = e.node then _ else x).id = 0 ∧ (if x.id = e.node then _ else x).par = 0 ∧ (if x.id = e.node then _ else x).key = 0
    rw [if_neg (by rw [hx1]; exact fun h => z h.symm)]
    exact ⟨hx1, hx2, hx3⟩
  · rw [up_ids hf]
    exact (List.perm_append_comm.trans (List.filter_append_perm _ o)).trans hperm
  · refine topo_append (topo_filter (seen := []) (seen' := []) (fun id hid hp h0 => .inl ?_) (fun y hy => by cases hy) hot) (topo_filter (seen := []) (fun id hid hp h0 => ?_) (fun y hy => by cases hy) hot)
    · have hb : below l id e.node = false := by simpa using hp
      have hne : id ≠ e.node := fun h => by rw [h, below_refl] at hb; cases hb
      rw [hpar id (hin id hid), if_neg hne]
      refine ⟨rfl, ?_⟩
      rw [← h.step (hin id hid) h0 hne, hb]
      rfl
    · by_cases hne : id = e.node
      · refine .inr ?_
        rw [hpar id (hin id hid), if_pos hne, List.append_nil, List.mem_filter, ho]
        exact ⟨there_ids.1 b, by rw [c]; rfl⟩
      · refine .inl ?_
        rw [hpar id (hin id hid), if_neg hne]
        exact ⟨rfl, by rw [← h.step (hin id hid) h0 hne]; exact hp⟩

theorem fnd_filter {l : List Nd} {p : Nd → Bool} {id : Int} {x : Nd} (hn : (l.map (·.id)).Nodup) (hx : fnd id l = some x) (hp : p x = true) : fnd id (l.filter p) = some x := by
  have h1 := fnd_id hx
  have hn' : ((l.filter p).map (·.id)).Nodup := (List.filter_sublist.map _).nodup hn
  rw [← h1.2]
  exact fnd_mem hn' (List.mem_filter.2 ⟨h1.1, hp⟩)
theorem Wf.delete {l : List Nd} {n : Int} (h : Wf l) (hn0 : n ≠ 0) : Wf (l.filter fun x => !below l x.id n) := by
  obtain ⟨x, r, e0, hx1, hx2, hx3⟩ := h.root
  obtain ⟨o, hperm, hot⟩ := h.order
  have ho : ∀ id, id ∈ o ↔ id ∈ l.map (·.id) := fun id => hperm.mem_iff
  have hin : ∀ id ∈ o, there l id = true := fun id hid => there_ids.2 ((ho id).1 hid)
  have hids : (l.filter fun x => !below l x.id n).map (·.id) = (l.map (·.id)).filter fun id => !below l id n := by
    rw [List.filter_map]
    rfl
  refine ⟨?_, ?_, Nat.le_trans (List.length_filter_le _ _) h.small, o.filter (fun id => !below l id n), ?_, ?_⟩
  · refine ⟨x, r.filter fun x => !below l x.id n, ?_, hx1, hx2, hx3⟩
    rw [e0, List.filter_cons_of_pos]
    rw [← e0, hx1, below_root l hn0]
    rfl
  · exact (List.filter_sublist.map _).nodup h.nodup
  · rw [hids]
    exact hperm.filter _
  · refine topo_filter (seen := []) (seen' := []) (fun id hid hp h0 => .inl ?_) (fun y hy => by cases hy) hot
    have hb : below l id n = false := by simpa using hp
    have hne : id ≠ n := fun h => by rw [h, below_refl] at hb; cases hb
    obtain ⟨y, hy⟩ := fnd_there.1 (hin id hid)
    have hk : fnd id (l.filter fun x => !below l x.id n) = some y := fnd_filter h.nodup hy (by rw [(fnd_id hy).2, hb]; rfl)
    refine ⟨by rw [parOf, parOf, hy, hk], ?_⟩
    rw [← h.step (hin id hid) h0 hne, hb]
    rfl

theorem Wf.apply {l : List Nd} (h : Wf l) (e : Ed) : Wf (applyL l e) := by
  unfold applyL
  by_cases hz : refused l e ≠ 0
  · rw [if_pos hz]; exact h
  · rw [if_neg hz]
    have hz' : refused l e = 0 := by omega
    by_cases k1 : e.kind = 1
    · rw [if_pos k1]; exact h.create hz' k1
    · rw [if_neg k1]
      by_cases k2 : e.kind = 2
      · rw [if_pos k2]; exact h.move hz' k2
      · rw [if_neg k2]
        by_cases k4 : e.kind = 4
        · rw [if_pos k4]; exact h.set
        · rw [if_neg k4]
          exact h.delete (by have := (rf0_node hz' k1).2; omega)
theorem wf_root0 : Wf [root0] :=
  ⟨⟨root0, [], rfl, rfl, rfl, rfl⟩, by simp, by simp, [0], List.Perm.refl _, ⟨.inl rfl, trivial⟩⟩
end Go.Proofs.YtbicffldggcdhaaDoor
