/-
  Going through a tree, without any program: who lies right below whom, in which order; what is told of a node and of all below it.
-/
import Derived.Test.YtbicffldggcdhaaDoorWCmp
namespace Go.Proofs.YtbicffldggcdhaaDoor
open Go

def ins (x : Nd) (l : List Nd) : List Nd := l.takeWhile (fun y => ltN y x) ++ x :: l.dropWhile (fun y => ltN y x)
def kids (l : List Nd) (p : Int) : List Nd := (l.tail.filter fun x => decide (x.par = p)).foldl (fun o x => ins x o) []
theorem ltN_asymm {x y : Nd} (h : ltN x y = true) : ltN y x = false := by
  simp [ltN] at *
  omega
theorem ltN_ntrans {x y z : Nd} (h1 : ltN x y = false) (h2 : ltN y z = false) : ltN x z = false := by
  have := swoN.ntrans x y z
  rw [ltOf_cmpN, ltOf_cmpN, ltOf_cmpN] at this
  exact this h1 h2
theorem ins_perm (x : Nd) (l : List Nd) : (ins x l).Perm (x :: l) := by
  have h := List.perm_middle (a := x) (l₁ := l.takeWhile (fun y => ltN y x)) (l₂ := l.dropWhile (fun y => ltN y x))
  rw [List.takeWhile_append_dropWhile] at h
  exact h
theorem drop_ge {x : Nd} : ∀ {l : List Nd}, Asc l → ∀ y ∈ l.dropWhile (fun y => ltN y x), ltN y x = false
  | [], _, y, hy => by simp at hy
  | z :: l, h, y, hy => by
    rw [List.dropWhile_cons] at hy
    have h' := List.pairwise_cons.1 h
    cases hz : ltN z x with
    | true => rw [hz] at hy; exact drop_ge h'.2 y hy
    | false =>
      rw [hz] at hy
      simp only [Bool.false_eq_true, if_false, List.mem_cons] at hy
      rcases hy with rfl | hy
      · exact hz
      · exact ltN_ntrans (h'.1 y hy) hz
theorem take_lt {x : Nd} : ∀ {l : List Nd}, ∀ y ∈ l.takeWhile (fun y => ltN y x), ltN y x = true
  | [], y, hy => by simp at hy
  | z :: l, y, hy => by
    rw [List.takeWhile_cons] at hy
    cases hz : ltN z x with
    | true =>
      rw [hz] at hy
      simp only [if_true, List.mem_cons] at hy
      rcases hy with rfl | hy
      · exact hz
      · exact take_lt y hy
    | false => rw [hz] at hy; simp at hy
theorem asc_ins {x : Nd} {l : List Nd} (h : Asc l) : Asc (ins x l) := by
  have h0 : Asc (l.takeWhile (fun y => ltN y x) ++ l.dropWhile (fun y => ltN y x)) := by rw [List.takeWhile_append_dropWhile]; exact h
  obtain ⟨h1, h2, h3⟩ := List.pairwise_append.1 h0
  refine List.pairwise_append.2 ⟨h1, List.pairwise_cons.2 ⟨drop_ge h, h2⟩, fun a ha b hb => ?_⟩
  rcases List.mem_cons.1 hb with rfl | hb
  · exact ltN_asymm (take_lt a ha)
  · exact h3 a ha b hb
theorem fold_ins : ∀ (a o : List Nd), Asc o → Asc (a.foldl (fun o x => ins x o) o) ∧ (a.foldl (fun o x => ins x o) o).Perm (a ++ o)
  | [], o, h => ⟨h, List.Perm.refl _⟩
  | x :: a, o, h => by
    obtain ⟨h1, h2⟩ := fold_ins a (ins x o) (asc_ins h)
    refine ⟨h1, h2.trans ?_⟩
    refine (List.Perm.append_left a (ins_perm x o)).trans ?_
    exact List.perm_middle
theorem kids_asc (l : List Nd) (p : Int) : Asc (kids l p) := (fold_ins _ [] List.Pairwise.nil).1
theorem kids_perm (l : List Nd) (p : Int) : (kids l p).Perm (l.tail.filter fun x => decide (x.par = p)) := by
  have := (fold_ins (l.tail.filter fun x => decide (x.par = p)) [] List.Pairwise.nil).2
  rw [List.append_nil] at this
  exact this
theorem tail_mem {l : List Nd} (h : Wf l) {x : Nd} : x ∈ l.tail ↔ x ∈ l ∧ x.id ≠ 0 := by
  obtain ⟨y, r, rfl, h0, _⟩ := h.root
  have hn := h.nodup
  simp only [List.map_cons, List.nodup_cons] at hn
  simp only [List.tail_cons, List.mem_cons]
  constructor
  · intro hx
    exact ⟨.inr hx, fun e => hn.1 (by rw [h0, ← e]; exact List.mem_map_of_mem hx)⟩
  · rintro ⟨rfl | hx, h1⟩
    · exact absurd h0 h1
    · exact hx
theorem mem_kids {l : List Nd} (h : Wf l) {x : Nd} {p : Int} : x ∈ kids l p ↔ x ∈ l ∧ x.id ≠ 0 ∧ x.par = p := by
  rw [(kids_perm l p).mem_iff, List.mem_filter, tail_mem h, decide_eq_true_eq, and_assoc]
theorem kids_nodup {l : List Nd} (h : Wf l) (p : Int) : ((kids l p).map (·.id)).Nodup := by
  refine ((kids_perm l p).map _).nodup_iff.2 ?_
  refine ((List.filter_sublist.trans (List.tail_sublist l)).map _).nodup h.nodup
theorem asc_unique {a b : List Nd} (h1 : Asc a) (h2 : Asc b) (hp : a.Perm b) (hn : (b.map (·.id)).Nodup) : a = b := by
  refine hp.eq_of_pairwise (le := fun a c => ltN c a = false) (fun x y hx hy e1 e2 => ?_) h1 h2
  have hid : x.id = y.id := by
    simp [ltN] at e1 e2
    omega
  have hx' := hp.mem_iff.1 hx
  have h3 := fnd_mem hn hx'
  have h4 := fnd_mem hn hy
  rw [hid, h4] at h3
  cases h3
  rfl
theorem nodup_ids {a : List Nd} (h : (a.map (·.id)).Nodup) : a.Nodup := List.Pairwise.imp (fun hne e => hne (by rw [e])) (List.pairwise_map.1 h)
theorem kids_unique {l a : List Nd} {p : Int} (h : Wf l) (ha : Asc a) (hn : (a.map (·.id)).Nodup) (hm : ∀ x, x ∈ a ↔ x ∈ l ∧ x.id ≠ 0 ∧ x.par = p) : a = kids l p :=
  asc_unique ha (kids_asc l p) ((List.perm_ext_iff_of_nodup (nodup_ids hn) (nodup_ids (kids_nodup h p))).2 (fun x => by rw [hm, mem_kids h])) (kids_nodup h p)

/-- What is told of a node and of all below it, so many steps down. -/
def go (K : Int → List Nd) : Nat → Nd → Int → List (Nd × Int)
  | 0, _, _ => []
  | n + 1, x, d => (x, d) :: (K x.id).flatMap fun y => go K n y (d + 1)
def Fits (K : Int → List Nd) : Nat → Nd → Prop
  | 0, _ => False
  | n + 1, x => ∀ y ∈ K x.id, Fits K n y
theorem dep_le (l : List Nd) : ∀ (n : Nat) (id : Int), dep l n id ≤ n
  | 0, _ => Nat.le_refl _
  | n + 1, id => by
    unfold dep
    split
    · omega
    · have := dep_le l n (parOf l id)
      omega
theorem fits_of {l : List Nd} (h : Wf l) : ∀ (n : Nat) (x : Nd), x ∈ l → 34 ≤ depth l x.id + n → Fits (kids l) n x
  | 0, x, _, hd => by
    have h1 := dep_le l (l.length + 1) x.id
    have h2 := h.small
    unfold depth at hd
    omega
  | n + 1, x, hx, hd => fun y hy => by
    obtain ⟨h1, h2, h3⟩ := (mem_kids h).1 hy
    refine fits_of h n y h1 ?_
    rw [h.depth_par (there_mem.2 ⟨y, h1, rfl⟩) h2, par_mem h.nodup h1, h3]
    omega
theorem fits_all {l : List Nd} (h : Wf l) {x : Nd} (hx : x ∈ l) : Fits (kids l) 34 x := fits_of h 34 x hx (by omega)
theorem go_in {K : Int → List Nd} : ∀ {n : Nat} {x : Nd} {d : Int} {z y : Nd} {dz : Int}, Fits K n x → (z, dz) ∈ go K n x d → y ∈ K z.id → ∃ d', (y, d') ∈ go K n x d
  | 0, _, _, _, _, _, h, _, _ => h.elim
  | n + 1, x, d, z, y, dz, h, hz, hy => by
    simp only [go, List.mem_cons, Prod.mk.injEq, List.mem_flatMap] at hz ⊢
    rcases hz with ⟨rfl, _⟩ | ⟨c, hc, hz⟩
    · have hf := h y hy
      cases n with
      | zero => exact hf.elim
      | succ n => exact ⟨d + 1, .inr ⟨y, hy, by simp [go]⟩⟩
    · obtain ⟨d', hd'⟩ := go_in (h c hc) hz hy
      exact ⟨d', .inr ⟨c, hc, hd'⟩⟩
theorem go_mem {l : List Nd} (h : Wf l) : ∀ {n : Nat} {x : Nd} {d : Int} {y : Nd} {d' : Int}, x ∈ l → (y, d') ∈ go (kids l) n x d → y ∈ l
  | 0, _, _, _, _, _, hy => by cases hy
  | n + 1, x, d, y, d', hx, hy => by
    simp only [go, List.mem_cons, Prod.mk.injEq, List.mem_flatMap] at hy
    rcases hy with ⟨rfl, _⟩ | ⟨c, hc, hy⟩
    · exact hx
    · exact go_mem h ((mem_kids h).1 hc).1 hy
theorem below_up {l : List Nd} (h : Wf l) {y c : Int} (hy : there l y = true) (hc0 : c ≠ 0) (hb : below l y c = true) : below l y (parOf l c) = true := by
  obtain ⟨k, hk⟩ : ∃ k, depth l y = k := ⟨_, rfl⟩
  induction k generalizing y with
  | zero =>
    have h0 : y = 0 := Decidable.byContradiction fun h0 => by
      have := h.depth_par hy h0
      omega
    subst h0
    rw [below_root l hc0] at hb
    cases hb
  | succ k ih =>
    by_cases h0 : y = 0
    · subst h0
      rw [below_root l hc0] at hb
      cases hb
    · have hd := h.depth_par hy h0
      by_cases hyc : y = c
      · subst hyc
        by_cases hs : y = parOf l y
        · rw [← hs]; exact below_refl l y
        · rw [h.step hy h0 hs]
          exact below_refl l _
      · rw [h.step hy h0 hyc] at hb
        have := ih (h.par_there hy) hb (by omega)
        by_cases hs : y = parOf l c
        · rw [← hs]; exact below_refl l y
        · rw [h.step hy h0 hs]
          exact this
theorem go_below {l : List Nd} (h : Wf l) : ∀ {n : Nat} {x : Nd} {d : Int} {y : Nd} {d' : Int}, x ∈ l → (y, d') ∈ go (kids l) n x d → below l y.id x.id = true
  | 0, _, _, _, _, _, hy => by cases hy
  | n + 1, x, d, y, d', hx, hy => by
    simp only [go, List.mem_cons, Prod.mk.injEq, List.mem_flatMap] at hy
    rcases hy with ⟨rfl, _⟩ | ⟨c, hc, hy⟩
    · exact below_refl l _
    · obtain ⟨h1, h2, h3⟩ := (mem_kids h).1 hc
      have := below_up h (there_mem.2 ⟨y, go_mem h h1 hy, rfl⟩) h2 (go_below h h1 hy)
      rw [par_mem h.nodup h1, h3] at this
      exact this
theorem below_go {l : List Nd} (h : Wf l) {x : Nd} (hx : x ∈ l) {n : Nat} (hf : Fits (kids l) n x) (d : Int) : ∀ (k : Nat) (y : Nd), y ∈ l → depth l y.id = k → below l y.id x.id = true → ∃ d', (y, d') ∈ go (kids l) n x d := by
  intro k
  induction k with
  | zero =>
    intro y hy hk hb
    have h0 : y.id = 0 := Decidable.byContradiction fun h0 => by
      have := h.depth_par (there_mem.2 ⟨y, hy, rfl⟩) h0
      omega
    have hx0 : x.id = 0 := Decidable.byContradiction fun hx0 => by
      rw [h0, below_root l hx0] at hb
      cases hb
    have hxy : y = x := by
      have h1 := fnd_mem h.nodup hy
      have h2 := fnd_mem h.nodup hx
      rw [h0] at h1
      rw [hx0, h1] at h2
      cases h2
      rfl
    subst hxy
    cases n with
    | zero => exact hf.elim
    | succ n => exact ⟨d, by simp [go]⟩
  | succ k ih =>
    intro y hy hk hb
    by_cases hxy : y.id = x.id
    · have hxy : y = x := by
        have h1 := fnd_mem h.nodup hy
        have h2 := fnd_mem h.nodup hx
        rw [hxy, h2] at h1
        cases h1
        rfl
      subst hxy
      cases n with
      | zero => exact hf.elim
      | succ n => exact ⟨d, by simp [go]⟩
    · have hyt : there l y.id = true := there_mem.2 ⟨y, hy, rfl⟩
      have h0 : y.id ≠ 0 := fun h0 => by
        have hx0 : x.id ≠ 0 := fun e => hxy (by rw [h0, e])
        rw [h0, below_root l hx0] at hb
        cases hb
      rw [h.step hyt h0 hxy] at hb
      obtain ⟨z, hz, hze⟩ := there_mem.1 (h.par_there hyt)
      have hd := h.depth_par hyt h0
      obtain ⟨dz, hdz⟩ := ih z hz (by rw [hze]; omega) (by rw [hze]; exact hb)
      refine go_in hf hdz ((mem_kids h).2 ⟨hy, h0, ?_⟩)
      rw [hze, par_mem h.nodup hy]
theorem go_ids {l : List Nd} (h : Wf l) {x y : Nd} (hx : x ∈ l) (hy : y ∈ l) {n : Nat} (hf : Fits (kids l) n x) (d : Int) : y.id ∈ (go (kids l) n x d).map (fun p => p.1.id) ↔ below l y.id x.id = true := by
  constructor
  · intro hm
    obtain ⟨⟨z, dz⟩, hz, he⟩ := List.mem_map.1 hm
    simp only at he
    have := go_below h hx hz
    rw [he] at this
    exact this
  · intro hb
    obtain ⟨d', hd'⟩ := below_go h hx hf d _ y hy rfl hb
    exact List.mem_map.2 ⟨_, hd', rfl⟩
end Go.Proofs.YtbicffldggcdhaaDoor
