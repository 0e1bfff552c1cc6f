/-
  The program's tree, laid out: the nodes of each parent, in their order.
-/
import Derived.Test.YtbicffldggcdhaaDoorLKids
import Derived.Test.YtbicffldggcdhaaDoorLMapG
namespace Go.Proofs.YtbicffldggcdhaaDoor
open Go

/-! ### Loops over a map -/
/-- How many entries a loop over a map has still to see. -/
def left (es : Array MapEntry) (r : Nat) (w : World) : Nat :=
  match w.heap[r]? with
  | some (.mapIter _ _ seen _) => (es.toList.filter fun e => !seen.contains e.born).length
  | _ => 0
theorem left_at {es : Array MapEntry} {r b c c' : Nat} {seen : Array Nat} {w : World} (h : At w r (.mapIter (some b) c seen c')) : left es r w = (es.toList.filter fun e => !seen.contains e.born).length := by
  have h' : w.heap[r]? = some (.mapIter (some b) c seen c') := h
  simp [left, h']
theorem filter_lt {α : Type} {p q : α → Bool} : ∀ {l : List α}, (∀ x ∈ l, q x = true → p x = true) → (∃ x ∈ l, p x = true ∧ q x = false) → (l.filter q).length < (l.filter p).length
  | [], _, ⟨x, hx, _⟩ => by cases hx
  | y :: l, h, ⟨x, hx, hp, hq⟩ => by
    have hle : ∀ {l : List α}, (∀ x ∈ l, q x = true → p x = true) → (l.filter q).length ≤ (l.filter p).length := by
      intro l
      induction l with
      | nil => intro _; exact Nat.le_refl _
      | cons z l ih =>
        intro h
        have := ih (fun x hx => h x (List.mem_cons_of_mem _ hx))
        have hz := h z List.mem_cons_self
        rw [List.filter_cons, List.filter_cons]
        cases hq : q z with
        | true => rw [hz hq]; simp; exact this
        | false => cases p z <;> simp <;> omega
    have hl := hle (fun x hx => h x (List.mem_cons_of_mem _ hx))
    rw [List.filter_cons, List.filter_cons]
    rcases List.mem_cons.1 hx with e | e
    · subst e
      simp [hp, hq]
      omega
    · have ih := filter_lt (fun x hx => h x (List.mem_cons_of_mem _ hx)) ⟨x, e, hp, hq⟩
      have hy := h y List.mem_cons_self
      cases hqy : q y with
      | true => rw [hy hqy]; simp; exact ih
      | false => cases p y <;> simp <;> omega
theorem left_push {es : Array MapEntry} {seen : Array Nat} {e : MapEntry} (he : e ∈ es.toList) (hn : e.born ∉ seen.toList) :
    (es.toList.filter fun x => !(seen.push e.born).contains x.born).length < (es.toList.filter fun x => !seen.contains x.born).length := by
  refine filter_lt (fun x _ hx => ?_) ⟨e, he, ?_, ?_⟩
  · simp at hx ⊢
    exact hx.1
  · simpa using hn
  · simp
section
variable {P : Program} {w : World} {ρ : Operand → Value} {d : Option Nat} {t : Nat} {p : String} {af : Array Edge} {g : Option (Nat × Bool)} {b cl : Nat} {es : Array MapEntry} {x : Operand}
theorem r_entryN {r : Nat} {seen : Array Nat} {e : MapEntry} {n : Nd} (hx : ρ x = .pointer (some ⟨r, 0, none⟩)) (hr : At w r (.mapIter (some b) cl (seen.push e.born) cl)) (hb : At w b (.map es cl)) (he : e ∈ es.toList) (hn : (es.toList.map (·.born)).Nodup) (hk : e.key = I n.id) (hv : e.val = NdV n) :
    (execOp ρ ⟨d, .entry x, t, p, af, g⟩).run P w = .ok (.value (.tuple [I n.id, NdV n].toArray)) w := by
  rw [r_entry hx hr hb he hn, hk, hv]
theorem r_entryG {r : Nat} {seen : Array Nat} {e : MapEntry} {k : Int} {v : Value} (hx : ρ x = .pointer (some ⟨r, 0, none⟩)) (hr : At w r (.mapIter (some b) cl (seen.push e.born) cl)) (hb : At w b (.map es cl)) (he : e ∈ es.toList) (hn : (es.toList.map (·.born)).Nodup) (hk : e.key = I k) (hv : e.val = v) :
    (execOp ρ ⟨d, .entry x, t, p, af, g⟩).run P w = .ok (.value (.tuple [I k, v].toArray)) w := by
  rw [r_entry hx hr hb he hn, hk, hv]
end
theorem nodup_map_inj {α β : Type} {f : α → β} : ∀ {l : List α}, (l.map f).Nodup → ∀ a ∈ l, ∀ b ∈ l, f a = f b → a = b
  | [], _, a, ha, _, _, _ => by cases ha
  | x :: l, h, a, ha, b, hb, e => by
    simp only [List.map_cons, List.nodup_cons] at h
    rcases List.mem_cons.1 ha with h1 | h1 <;> rcases List.mem_cons.1 hb with h2 | h2
    · rw [h1, h2]
    · subst h1
      exact absurd (by rw [e]; exact List.mem_map_of_mem h2) h.1
    · subst h2
      exact absurd (by rw [← e]; exact List.mem_map_of_mem h1) h.1
    · exact nodup_map_inj h.2 a h1 b h2 e
theorem Ents.keys {es : Array MapEntry} {cl : Nat} {m : List Nd} (h : Ents es cl m) (hn : (m.map (·.id)).Nodup) : (es.toList.map (·.key)).Nodup := by
  have h1 : es.toList.map (·.key) = (m.map (·.id)).map I := by
    have := congrArg (List.map Prod.fst) h.ents
    simpa [entOf, ndEnt, List.map_map, Function.comp_def] using this
  rw [h1]
  refine List.Pairwise.map _ (fun a b hab e => hab ?_) hn
  cases e
  rfl
theorem NdV_inj {x y : Nd} (h : NdV x = NdV y) : x = y := by
  obtain ⟨a1, a2, a3, a4, a5, a6, a7⟩ := x
  obtain ⟨b1, b2, b3, b4, b5, b6, b7⟩ := y
  simp [NdV, Nd.vals] at h
  obtain ⟨h1, h2, h3, h4, h5, h6, h7⟩ := h
  subst h1 h2 h3 h4 h5 h6 h7
  rfl

/-! ### Rows -/
theorem Row.keep {w w' : World} {v : Value} {e sz n : Nat} {pre : List Value} {S : Nat → Prop} (h : Row w v e sz n pre) (f : Frm S w w') (hn : ∀ b, InV v b → ¬ S b) : Row w' v e sz n pre := by
  rcases h with h | ⟨b, cap, rest, rfl, hA, h1, h2, h3⟩
  · exact .inl h
  · exact .inr ⟨b, cap, rest, rfl, f.at (hn b ⟨_, _, _, rfl⟩) hA, h1, h2, h3⟩
theorem Row.isCells {w : World} {v : Value} {e sz n : Nat} {pre : List Value} (h : Row w v e sz n pre) {b : Nat} (hb : InV v b) : ∃ l, At w b (cel l e) := by
  obtain ⟨off, l, c, hv⟩ := hb
  rcases h with ⟨h, _⟩ | ⟨b', cap, rest, h, hA, _⟩
  · rw [h] at hv; cases hv
  · rw [h] at hv
    cases hv
    exact ⟨_, hA⟩
theorem at_unique {w : World} {b : Nat} {o o' : Obj} (h : At w b o) (h' : At w b o') : o = o' := by
  have h1 : w.heap[b]? = some o := h
  have h2 : w.heap[b]? = some o' := h'
  rw [h1] at h2
  cases h2
  rfl

/-- A layout: a map of rows of nodes. -/
structure Lay (w : World) (lb base : Nat) (es : Array MapEntry) (cl : Nat) (M : List (Int × Value)) (K : Int → List Nd) : Prop where
  row : At w lb (.map es cl)
  ents : GEnts es cl M
  val : ∀ p, Row w (gor M p) 40 7 (K p).length (flat (K p))
  low : ∀ p b, InV (gor M p) b → base ≤ b
  apart : ∀ p q b, p ≠ q → InV (gor M p) b → ¬ InV (gor M q) b
  has : ∀ p v, gget p M = some v → K p ≠ []
section
variable {w w' w1 : World} {lb base : Nat} {es es' : Array MapEntry} {cl cl' : Nat} {M : List (Int × Value)} {K : Int → List Nd}
theorem Lay.frm {S : Nat → Prop} (h : Lay w lb base es cl M K) (f : Frm S w w') (hl : ¬ S lb) (hb : ∀ p b, InV (gor M p) b → ¬ S b) : Lay w' lb base es cl M K :=
  ⟨f.at hl h.row, h.ents, fun p => (h.val p).keep f (hb p), h.low, h.apart, h.has⟩
theorem Lay.frm0 (h : Lay w lb base es cl M K) (f : Frm0 w w') : Lay w' lb base es cl M K := h.frm f id (fun _ _ _ => id)
theorem Lay.ne (h : Lay w lb base es cl M K) {c : Nat} {o : Obj} (hc : At w c o) (ho : ∀ l e, o ≠ cel l e) : ∀ p b, InV (gor M p) b → ¬ b = c := fun p b hb e => by
  obtain ⟨l, hA⟩ := (h.val p).isCells hb
  subst e
  exact ho _ _ (at_unique hc hA)
theorem Lay.put {x : Nd} {p : Int} {v : Value} (h : Lay w lb base es cl M K) (hv : Row w1 v 40 7 ((K p).length + 1) (flat (K p) ++ x.vals)) (f : Frm (InV (gor M p)) w w1) (hn : ∀ b, InV v b → InV (gor M p) b ∨ w.heap.size ≤ b) (hlb : lb < base) (hbase : base ≤ w.heap.size) (hu : GEnts es' cl' (gput p v M)) :
    Lay (setB w1 lb (.map es' cl')) lb base es' cl' (gput p v M) (fun q => if q = p then K p ++ [x] else K q) := by
  have hlow : ∀ b, InV v b → base ≤ b := fun b hb => by
    rcases hn b hb with h1 | h1
    · exact h.low p b h1
    · omega
  have hF : Frm (fun b => b = lb) w1 (setB w1 lb (.map es' cl')) := (Frm.refl (fun b => b = lb) w1).setB (b := lb) (.inl rfl) _
  have hlt : ∀ q b, InV (gor M q) b → b < w.heap.size := fun q b hb => by
    obtain ⟨l, hA⟩ := (h.val q).isCells hb
    exact at_lt hA
  have hlb1 : At w1 lb (.map es cl) := f.at (fun hb => by have := h.low p lb hb; omega) h.row
  refine ⟨at_setB _ hlb1, hu, fun q => ?_, fun q b hb => ?_, fun q r b hqr hb hc => ?_, fun q u hq => ?_⟩
  · rw [gor_put]
    by_cases hq : q = p
    · rw [if_pos hq, if_pos hq, flat_append, List.length_append]
      simp only [flat, List.append_nil, List.length_cons, List.length_nil, Nat.zero_add]
      exact hv.keep hF (fun b hb e => by have := hlow b hb; omega)
    · rw [if_neg hq, if_neg hq]
      exact ((h.val q).keep f (fun b hb hc => h.apart q p b hq hb hc)).keep hF (fun b hb e => by have := h.low q b hb; omega)
  · rw [gor_put] at hb
    by_cases hq : q = p
    · rw [if_pos hq] at hb; exact hlow b hb
    · rw [if_neg hq] at hb; exact h.low q b hb
  · rw [gor_put] at hb hc
    by_cases hq : q = p
    · rw [if_pos hq] at hb
      rw [if_neg (fun e => hqr (hq.trans e.symm))] at hc
      rcases hn b hb with h1 | h1
      · exact h.apart p r b (hq ▸ hqr) h1 hc
      · have := hlt r b hc
        omega
    · rw [if_neg hq] at hb
      by_cases hr : r = p
      · rw [if_pos hr] at hc
        rcases hn b hc with h1 | h1
        · exact h.apart q p b hq hb h1
        · have := hlt q b hb
          omega
      · rw [if_neg hr] at hc
        exact h.apart q r b hqr hb hc
  · show (if q = p then K p ++ [x] else K q) ≠ []
    by_cases h1 : q = p
    · rw [if_pos h1]; simp
    · rw [if_neg h1]
      rw [gget_put, if_neg h1] at hq
      exact h.has q u hq
theorem Lay.sorted {p : Int} {b cap : Nat} {ys : List Nd} {rest : List Value} (h : Lay w lb base es cl M K) (hv : gor M p = .slice (some ⟨b, 0, none⟩) (K p).length cap) (hr : (K p).length * 7 + rest.length = cap * 7) (hc : (K p).length ≤ cap) (hy : ys.Perm (K p)) (hA : At w1 b (cel (flat ys ++ rest) 40)) (f : Frm (fun c => c = b) w w1) :
    Lay w1 lb base es cl M (fun q => if q = p then ys else K q) := by
  have hbb : InV (gor M p) b := ⟨_, _, _, hv⟩
  have hne : lb ≠ b := fun e => h.ne h.row (fun l e => by simp [cel]) p b hbb e.symm
  refine ⟨f.at hne h.row, h.ents, fun q => ?_, h.low, h.apart, fun q u hq => ?_⟩
  · by_cases hq : q = p
    · subst hq
      rw [if_pos rfl]
      refine .inr ⟨b, cap, rest, by rw [hv, hy.length_eq], hA, flat_length ys, by rw [hy.length_eq]; exact hr, by rw [hy.length_eq]; exact hc⟩
    · rw [if_neg hq]
      exact (h.val q).keep f (fun c hc e => h.apart q p c hq hc (e ▸ hbb))
  · show (if q = p then ys else K q) ≠ []
    by_cases h1 : q = p
    · rw [if_pos h1]
      intro e
      rw [e] at hy
      exact h.has p u (h1 ▸ hq) hy.symm.eq_nil
    · rw [if_neg h1]
      exact h.has q u hq
end
def chOf (l : List Nd) (p : Int) : List Nd := l.filter fun x => decide (x.id ≠ 0 ∧ x.par = p)
theorem chOf_root {l : List Nd} {x : Nd} (h : x.id = 0) : chOf (l ++ [x]) = chOf l := by
  funext p
  simp [chOf, List.filter_append, h]
theorem chOf_put {l : List Nd} {x : Nd} (h : x.id ≠ 0) : (fun q => if q = x.par then chOf l x.par ++ [x] else chOf l q) = chOf (l ++ [x]) := by
  funext q
  by_cases hq : q = x.par
  · subst hq
    simp [chOf, List.filter_append, h]
  · have : ¬ x.par = q := fun e => hq e.symm
    simp [chOf, List.filter_append, hq, this]
end Go.Proofs.YtbicffldggcdhaaDoor
