/-
  Pieces of rows: slicing, and appending a piece to a row.
-/
import Derived.Test.YtbicffldggcdhaaDoorLKids
import Derived.Test.YtbicffldggcdhaaDoorWLaw9
namespace Go.Proofs.YtbicffldggcdhaaDoor
open Go

/-- A slice's value, and what it shows: n elements of so many cells. -/
def Seg (w : World) (v : Value) (sz n : Nat) (vs : List Value) : Prop :=
  ((∃ a c, v = .slice a 0 c) ∧ n = 0 ∧ vs = []) ∨ ∃ bx ox c X tx k, v = .slice (some ⟨bx, ox, none⟩) n c ∧ At w bx (.cells X.toArray tx k) ∧ ox + n * sz ≤ X.length ∧ sub X ox (n * sz) = vs
theorem Row.seg {w : World} {v : Value} {e sz n : Nat} {pre : List Value} (h : Row w v e sz n pre) : Seg w v sz n pre := by
  rcases h with ⟨rfl, rfl, rfl⟩ | ⟨b, cap, rest, rfl, hA, hl, hr, hc⟩
  · exact .inl ⟨⟨_, _, rfl⟩, rfl, rfl⟩
  · refine .inr ⟨b, 0, cap, pre ++ rest, e, (0, 0), rfl, hA, by rw [List.length_append]; omega, ?_⟩
    rw [← hl]
    exact sub_left pre rest
theorem Seg.frm {S : Nat → Prop} {w w' : World} {v : Value} {sz n : Nat} {vs : List Value} (h : Seg w v sz n vs) (f : Frm S w w') (hs : ∀ b, InV v b → ¬ S b) : Seg w' v sz n vs := by
  rcases h with h | ⟨bx, ox, c, X, tx, k, rfl, hA, h1, h2⟩
  · exact .inl h
  · exact .inr ⟨bx, ox, c, X, tx, k, rfl, f.at (hs bx ⟨_, _, _, rfl⟩) hA, h1, h2⟩
theorem append_seg {P : Program} {w : World} {sT ty e sz by' n m : Nat} {z v s : Value} {D : TypeDesc} {pre vs : List Value}
    (hu : P.underlying sT = some (.slice e)) (hx : P.underlying sT = some D) (hD : ∀ kk, D ≠ .int kk) (hs : szOf P e = some sz) (hb : byOf P e = some by') (hz : zrOf P e = some z) (hzc : z.cells.size = sz)
    (hrow : Row w v e sz n pre) (hseg : Seg w s sz m vs) (hone : ∀ u ∈ vs, one u = true) (hby : 0 < by') (hcap : 2 * (n + m) * by' ≤ 2 ^ 48) :
    ∃ v' w', (Builtin.append_ #[sT, sT] ty #[v, s]).run P w = .ok v' w' ∧ Row w' v' e sz (n + m) (pre ++ vs) ∧ Frm (InV v) w w' ∧ ∀ b, InV v' b → InV v b ∨ w.heap.size ≤ b := by
  rcases hseg with ⟨⟨a, c, rfl⟩, rfl, rfl⟩ | ⟨bx, ox, c, X, tx, k, rfl, hA, h1, h2⟩
  · refine ⟨v, w, run_append0 hu hx hD hs hrow a c, ?_, Frm.refl _ _, fun b hb => .inl hb⟩
    rw [List.append_nil, Nat.add_zero]
    exact hrow
  · obtain ⟨v', w', e1, r1, f1, n1⟩ := run_append (ty := ty) (cx := c) hu hx hD hs hb hz hzc hrow hA h1 (by rw [h2]; exact hone) hby hcap
    rw [h2] at r1
    exact ⟨v', w', e1, r1, f1, n1⟩
section
variable {P : Program} {w : World} {ty e sz : Nat} {a : Option Addr} {len cap : Nat}
theorem sliceTo_run {k : Nat} (hu : P.underlying ty = some (.slice e)) (hs : szOf P e = some sz) (hk : k ≤ cap) :
    (Instr.sliceAt ty (.slice a len cap) none (some (I k)) none).run P w = .ok (.slice (if cap = 0 then a else a.map (·.add (0 * sz))) k cap) w := by
  simp [Instr.sliceAt, Instr.slice, run_underlying hu, Instr.sliceBounds, Instr.sliceBound, asIntOf, run_size hs]
  omega
theorem sliceFrom_run {k : Nat} (hu : P.underlying ty = some (.slice e)) (hs : szOf P e = some sz) (hk : k ≤ len) :
    (Instr.sliceAt ty (.slice a len cap) (some (I k)) none none).run P w = .ok (.slice (if cap = k then a else a.map (·.add (k * sz))) (len - k) (cap - k)) w := by
  simp [Instr.sliceAt, Instr.slice, run_underlying hu, Instr.sliceBounds, Instr.sliceBound, asIntOf, run_size hs]
  omega
end
theorem flat_take : ∀ (l : List Nd) (j : Nat), (flat l).take (j * 7) = flat (l.take j)
  | [], j => by simp [flat]
  | x :: l, 0 => by simp [flat]
  | x :: l, j + 1 => by
    have h := flat_take l j
    have hv : x.vals.length = 7 := rfl
    rw [List.take_succ_cons, flat, flat, List.take_append, List.take_of_length_le (by omega), hv, show (j + 1) * 7 - 7 = j * 7 by omega, h]
theorem seg_to {w : World} {v : Value} {xs : List Nd} {j : Nat} (h : Row w v 40 7 xs.length (flat xs)) (hj : j ≤ xs.length) :
    ∃ s, (Instr.sliceAt 41 v none (some (I j)) none).run Tryd.prog w = .ok s w ∧ Seg w s 7 (xs.take j).length (flat (xs.take j)) ∧ ∀ b, InV s b → InV v b := by
  have hlt : (xs.take j).length = j := by rw [List.length_take]; omega
  rcases h with ⟨rfl, h0, _⟩ | ⟨b, cap, rest, rfl, hA, hl, hr, hc⟩
  · have hz : j = 0 := by omega
    subst hz
    refine ⟨_, sliceTo_run (u_ok rfl) (s_ok rfl) (Nat.le_refl _), .inl ⟨⟨_, _, rfl⟩, by simp, by simp [flat]⟩, ?_⟩
    rintro b ⟨_, _, _, hv⟩
    simp at hv
  · refine ⟨_, sliceTo_run (u_ok rfl) (s_ok rfl) (by omega), ?_, ?_⟩
    · by_cases hz : cap = 0
      · have : j = 0 := by omega
        subst this
        exact .inl ⟨⟨_, _, rfl⟩, by simp, by simp [flat]⟩
      · rw [if_neg hz]
        refine .inr ⟨b, 0, cap, _, _, _, by rw [hlt]; simp [Addr.add], hA, ?_, ?_⟩
        · rw [hlt, List.length_append, hl]; omega
        · rw [hlt, sub_append_left _ _ _ (by rw [hl]; omega), flat_take]
    · rintro b' ⟨off, l, c, hv⟩
      split at hv
      · injection hv with h1 _ _
        exact ⟨_, _, _, by rw [h1]⟩
      · simp [Addr.add] at hv
        exact ⟨_, _, _, by rw [hv.1.1]⟩
theorem seg_from {w : World} {v : Value} {xs : List Nd} {j : Nat} (h : Row w v 40 7 xs.length (flat xs)) (hj : j ≤ xs.length) :
    ∃ s, (Instr.sliceAt 41 v (some (I j)) none none).run Tryd.prog w = .ok s w ∧ Seg w s 7 (xs.drop j).length (flat (xs.drop j)) ∧ ∀ b, InV s b → InV v b := by
  have hlt : (xs.drop j).length = xs.length - j := List.length_drop
  rcases h with ⟨rfl, h0, _⟩ | ⟨b, cap, rest, rfl, hA, hl, hr, hc⟩
  · have hz : j = 0 := by omega
    subst hz
    refine ⟨_, sliceFrom_run (u_ok rfl) (s_ok rfl) (Nat.le_refl _), .inl ⟨⟨_, _, rfl⟩, by rw [hlt]; omega, ?_⟩, ?_⟩
    · rw [List.length_eq_zero_iff.1 h0]; simp [flat]
    · rintro b ⟨_, _, _, hv⟩
      simp at hv
  · refine ⟨_, sliceFrom_run (u_ok rfl) (s_ok rfl) hj, ?_, ?_⟩
    · by_cases hz : cap = j
      · have h2 : xs.length - j = 0 := by omega
        rw [h2]
        have h3 : xs.drop j = [] := List.length_eq_zero_iff.1 (by omega)
        rw [h3]
        exact .inl ⟨⟨_, _, rfl⟩, rfl, rfl⟩
      · rw [if_neg hz]
        refine .inr ⟨b, j * 7, cap - j, flat xs ++ rest, _, _, by rw [hlt, Option.map_some, add_none, Nat.zero_add], hA, ?_, ?_⟩
        · rw [hlt, List.length_append, hl]; omega
        · have e1 : flat xs ++ rest = flat (xs.take j) ++ (flat (xs.drop j) ++ rest) := by rw [← List.append_assoc, ← flat_append, List.take_append_drop]
          have e2 : (flat (xs.take j)).length = j * 7 := by rw [flat_length, List.length_take]; omega
          rw [e1, show j * 7 = (flat (xs.take j)).length + 0 by omega, sub_drop, ← flat_length]
          exact sub_left _ _
    · rintro b' ⟨off, l, c, hv⟩
      split at hv
      · injection hv with h1 _ _
        exact ⟨_, _, _, by rw [h1]⟩
      · rw [Option.map_some, add_none] at hv
        injection hv with h1 _ _
        injection h1 with h1
        injection h1 with h1 _ _
        exact ⟨_, _, _, by rw [h1]⟩
section
variable {P : Program} {w : World} {ρ : Operand → Value} {d : Option Nat} {t : Nat} {p : String} {af : Array Edge} {g : Option (Nat × Bool)}
theorem r_slTo {ty : Nat} {x y : Operand} {v k s : Value} (hx : ρ x = v) (hy : ρ y = k) (h : (Instr.sliceAt ty v none (some k) none).run P w = .ok s w) : (execOp ρ ⟨d, .slice ty x none (some y) none, t, p, af, g⟩).run P w = .ok (.value s) w := by
  simp [execOp, hx, hy, h]
theorem r_slFrom {ty : Nat} {x y : Operand} {v k s : Value} (hx : ρ x = v) (hy : ρ y = k) (h : (Instr.sliceAt ty v (some k) none none).run P w = .ok s w) : (execOp ρ ⟨d, .slice ty x (some y) none none, t, p, af, g⟩).run P w = .ok (.value s) w := by
  simp [execOp, hx, hy, h]
end
theorem while_at {x : Nd} : ∀ {l : List Nd} {j : Nat}, (∀ y ∈ l.take j, ltN y x = true) → (∀ y, l[j]? = some y → ltN y x = false) → l.takeWhile (fun y => ltN y x) = l.take j ∧ l.dropWhile (fun y => ltN y x) = l.drop j
  | [], j, _, _ => by simp
  | z :: l, 0, _, h => by
    have hz := h z rfl
    simp [hz]
  | z :: l, j + 1, h1, h2 => by
    have hz := h1 z (by simp)
    obtain ⟨e1, e2⟩ := while_at (l := l) (j := j) (fun y hy => h1 y (by simp [hy])) (fun y hy => h2 y (by simpa using hy))
    simp [hz, e1, e2]
end Go.Proofs.YtbicffldggcdhaaDoor
