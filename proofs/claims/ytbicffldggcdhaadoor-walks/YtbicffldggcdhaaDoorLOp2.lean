/-
  Appending to a row that one slice owns.
-/
import Derived.Test.YtbicffldggcdhaaDoorLMem
namespace Go.Proofs.YtbicffldggcdhaaDoor
open Go

theorem next_le (need cap : Nat) (h : cap < need) : Builtin.nextslicecap need cap ≤ 2 * need := by
  unfold Builtin.nextslicecap
  split
  · omega
  · split
    · omega
    · rename_i h1 h2
      have g : ∀ (k c : Nat), c ≤ 2 * need → 256 ≤ c → Builtin.growBy need k c ≤ 2 * need := by
        intro k
        induction k with
        | zero => intro c hc _; exact hc
        | succ k ih =>
          intro c hc h256
          unfold Builtin.growBy
          split
          · exact hc
          · rename_i hlt
            refine ih _ ?_ (by omega)
            omega
      exact g 4 cap (by omega) (by omega)

theorem next_le2 (need cap : Nat) (h : cap < need) : Builtin.nextslicecap need cap ≤ need + need / 4 + 512 := by
  unfold Builtin.nextslicecap
  split
  · omega
  · split
    · omega
    · rename_i h1 h2
      have g : ∀ (k c : Nat), c ≤ need + need / 4 + 512 → 256 ≤ c → Builtin.growBy need k c ≤ need + need / 4 + 512 := by
        intro k
        induction k with
        | zero => intro c hc _; exact hc
        | succ k ih =>
          intro c hc h256
          unfold Builtin.growBy
          split
          · exact hc
          · rename_i hlt
            refine ih _ ?_ (by omega)
            omega
      exact g 4 cap (by omega) (by omega)

/-- A block that a slice's value lies in. -/
def InV (v : Value) (b : Nat) : Prop := ∃ off l c, v = .slice (some ⟨b, off, none⟩) l c
/-- A slice that owns its row from the row's head on: its cells, and spare room behind. -/
def Row (w : World) (v : Value) (e sz n : Nat) (pre : List Value) : Prop :=
  (v = .slice none 0 0 ∧ n = 0 ∧ pre = []) ∨
  ∃ b cap rest, v = .slice (some ⟨b, 0, none⟩) n cap ∧ At w b (cel (pre ++ rest) e) ∧ pre.length = n * sz ∧ n * sz + rest.length = cap * sz ∧ n ≤ cap

theorem sub_length : ∀ (l : List Value) (k n : Nat), k + n ≤ l.length → (sub l k n).length = n
  | l, k, 0, _ => by rw [sub_zero]; rfl
  | l, k, n + 1, h => by
    have hlt : k < l.length := by omega
    rw [sub_succ l k n _ (List.getElem?_eq_getElem hlt), List.length_cons, sub_length l (k + 1) n (by omega)]
theorem sub_all (l : List Value) : sub l 0 l.length = l := by
  induction l with
  | nil => rfl
  | cons x l ih => simp only [List.length_cons, sub]; rw [ih]
theorem sub_all' {l : List Value} {n : Nat} (h : l.length = n) : sub l 0 n = l := by rw [← h]; exact sub_all l
theorem sub_left : ∀ (a b : List Value), sub (a ++ b) 0 a.length = a
  | [], b => by simp [sub_zero]
  | x :: a, b => by simp only [List.cons_append, List.length_cons, sub]; rw [sub_left a b]
theorem put_right : ∀ (a b vs : List Value), put (a ++ b) a.length vs = a ++ put b 0 vs
  | [], b, vs => rfl
  | x :: a, b, vs => by simp only [List.cons_append, List.length_cons, put]; rw [put_right a b vs]
theorem put_head : ∀ (b vs : List Value), vs.length ≤ b.length → put b 0 vs = vs ++ b.drop vs.length
  | b, [], _ => by simp [put_nil]
  | [], v :: vs, h => by simp at h
  | x :: b, v :: vs, h => by
    simp only [put, List.cons_append, List.length_cons, List.drop_succ_cons]
    rw [put_head b vs (by simpa using h)]

section
variable {P : Program} {w : World}
theorem run_lenOf {a : Option Addr} {m c : Nat} : (Builtin.lenOf (.slice a m c)).run P w = .ok m w := rfl
theorem run_typeInfo {t : Nat} {i : TypeInfo} (h : P.info? t = some i) : (typeInfo t).run P w = .ok i w := by simp [typeInfo, h]

theorem run_append2 {sT xT ty e sz by' n m : Nat} {z v : Value} {D : TypeDesc} {pre X : List Value} {bx ox cx tx : Nat} {k : Nat × Nat}
    (hu : P.underlying sT = some (.slice e)) (hx : P.underlying xT = some D) (hD : ∀ kk, D ≠ .int kk) (hs : szOf P e = some sz) (hb : byOf P e = some by') (hz : zrOf P e = some z) (hzc : z.cells.size = sz)
    (hrow : Row w v e sz n pre) (hX : At w bx (.cells X.toArray tx k)) (hsub : ox + m * sz ≤ X.length) (hone : ∀ u ∈ sub X ox (m * sz), one u = true) (hby : 0 < by') (hcap : ∀ cap, cap < n + m → Builtin.nextslicecap (n + m) cap * by' ≤ 2 ^ 48) :
    ∃ v' w', (Builtin.append_ #[sT, xT] ty #[v, .slice (some ⟨bx, ox, none⟩) m cx]).run P w = .ok v' w' ∧ Row w' v' e sz (n + m) (pre ++ sub X ox (m * sz)) ∧ Frm (InV v) w w' ∧ (∀ b, InV v' b → InV v b ∨ w.heap.size ≤ b) ∧ ((Frm0 w w' ∧ ∀ b, InV v' b → w.heap.size ≤ b) ∨ ∃ b cap, v = .slice (some ⟨b, 0, none⟩) n cap ∧ v' = .slice (some ⟨b, 0, none⟩) (n + m) cap) := by
  obtain ⟨i, hi⟩ : ∃ i, P.info? e = some i := by
    cases h : P.info? e with
    | none => simp [szOf, h] at hs
    | some i => exact ⟨i, rfl⟩
  have hib : i.bytes = by' := by simpa [byOf, hi] using hb
  have hxl := sub_length X ox (m * sz) hsub
  have hD' : (match D with | .int _ => true | _ => false) = false := by cases D <;> first | rfl | exact absurd rfl (hD _)
  have hfc : ∀ w' : World, At w' bx (.cells X.toArray tx k) → (Builtin.firstCells sz m (.slice (some ⟨bx, ox, none⟩) m cx)).run P w' = .ok (sub X ox (m * sz)).toArray w' := fun w' h => run_loadCells_at h hsub
  have hnx : ∀ cap, cap < n + m → ¬ (Builtin.nextslicecap (n + m) cap * i.bytes > 2 ^ 48) := fun cap hc => by
    rw [hib]
    have := hcap cap hc
    omega
  have hb0 : i.bytes ≠ 0 := by omega
  have grow : ∀ (base : Option Addr) (cap : Nat), v = .slice base n cap → ¬ n + m ≤ cap → pre.length = n * sz → (Builtin.firstCells sz n v).run P w.drew = .ok pre.toArray w.drew →
      ∃ v' w', (Builtin.append_ #[sT, xT] ty #[v, .slice (some ⟨bx, ox, none⟩) m cx]).run P w = .ok v' w' ∧ Row w' v' e sz (n + m) (pre ++ sub X ox (m * sz)) ∧ Frm (InV v) w w' ∧ (∀ b, InV v' b → InV v b ∨ w.heap.size ≤ b) ∧ ((Frm0 w w' ∧ ∀ b, InV v' b → w.heap.size ≤ b) ∨ ∃ b cap, v = .slice (some ⟨b, 0, none⟩) n cap ∧ v' = .slice (some ⟨b, 0, none⟩) (n + m) cap) := by
    intro base cap hv hfit hpl hold
    have hcut : ∃ cc, (Question.appendCap (n + m) cap e).cut (w.tape w.drawn (Question.appendCap (n + m) cap e)) = cc ∧ n + m ≤ cc := ⟨_, rfl, by simp only [Question.cut]; omega⟩
    obtain ⟨cc, hcc, hle⟩ := hcut
    have hdr : At w.drew bx (.cells X.toArray tx k) := hX
    refine ⟨.slice (some ⟨w.heap.size, 0, none⟩) (n + m) cc, w.drew.alloc (cel (pre ++ sub X ox (m * sz) ++ (Builtin.zeroCells z.cells (cc - (n + m))).toList) e), ?_, ?_, ?_, ?_, .inl ⟨(Frm.of_drew w).alloc _, ?_⟩⟩
    · subst hv
      have hfo : Question.forced (.appendCap (n + m) cap e) = false := rfl
      simp [Builtin.append_, run_underlying hu, run_underlying hx, run_size hs, run_lenOf, hfit, run_typeInfo hi, hnx cap (by omega), hb0, hfo, hcc]
      rw [hold]
      simp only [Result.andThen_ok]
      rw [hfc _ hdr]
      simp only [Result.andThen_ok]
      rw [run_zero hz]
      have earr : pre.toArray ++ ((sub X ox (m * sz)).toArray ++ Builtin.zeroCells z.cells (cc - (n + m))) = (pre ++ (sub X ox (m * sz) ++ (Builtin.zeroCells z.cells (cc - (n + m))).toList)).toArray := by
        apply Array.ext'
        simp
      simp only [Result.andThen_ok, newRow, Sem.run_bind, run_newObj, Sem.run_pure, earr]
      rfl
    · refine .inr ⟨w.heap.size, cc, (Builtin.zeroCells z.cells (cc - (n + m))).toList, rfl, at_alloc_new w.drew _, ?_, ?_, hle⟩
      · rw [List.length_append, hpl, hxl, Nat.add_mul]
      · have : (Builtin.zeroCells z.cells (cc - (n + m))).toList.length = (cc - (n + m)) * sz := by simp [Builtin.zeroCells, hzc]
        rw [this, ← Nat.add_mul]
        congr 1
        omega
    · exact (Frm.of_drew w).alloc _
    · rintro b' ⟨off, l', c', he⟩
      cases he
      exact .inr (Nat.le_refl _)
    · rintro b' ⟨off, l', c', he⟩
      cases he
      exact Nat.le_refl _
  rcases hrow with ⟨rfl, rfl, rfl⟩ | ⟨b, cap, rest, rfl, hA, hpl, hroom, hnc⟩
  · by_cases hm : m = 0
    · subst hm
      refine ⟨.slice none 0 0, w, ?_, .inl ⟨rfl, rfl, by simp [sub_zero]⟩, Frm.refl _ _, fun b h => .inl h, .inl ⟨Frm.refl _ _, fun b h => by obtain ⟨_, _, _, h⟩ := h; cases h⟩⟩
      have h0 := hfc w hX
      simp only [Nat.zero_mul, sub_zero] at h0
      simp [Builtin.append_, run_underlying hu, run_underlying hx, run_size hs, run_lenOf, h0]
    · exact grow none 0 rfl (by omega) (by simp) rfl
  · by_cases hfit : n + m ≤ cap
    · refine ⟨.slice (some ⟨b, 0, none⟩) (n + m) cap, setB w b (cel (put (pre ++ rest) (n * sz) (sub X ox (m * sz))) e), ?_, ?_, ?_, ?_, .inr ⟨b, cap, rfl, rfl⟩⟩
      · have hst := run_storeCells_at (P := P) (off := n * sz) (sub X ox (m * sz)) 0 w (pre ++ rest) hA (by
          rw [hxl, List.length_append, hpl, Nat.add_zero, hroom, ← Nat.add_mul]; exact Nat.mul_le_mul_right _ hfit) hone
        simp only [Nat.add_zero] at hst
        simp [Builtin.append_, run_underlying hu, run_underlying hx, run_size hs, run_lenOf, hfit, hfc w hX, add_none, hst]
      · have hle : (sub X ox (m * sz)).length ≤ rest.length := by
          have := Nat.mul_le_mul_right sz hfit
          rw [Nat.add_mul] at this
          omega
        refine .inr ⟨b, cap, rest.drop (sub X ox (m * sz)).length, rfl, ?_, ?_, ?_, hfit⟩
        · have e1 : put (pre ++ rest) (n * sz) (sub X ox (m * sz)) = pre ++ sub X ox (m * sz) ++ rest.drop (sub X ox (m * sz)).length := by
            rw [← hpl, put_right, put_head _ _ hle, List.append_assoc]
          rw [e1]
          exact at_setB _ hA
        · rw [List.length_append, hpl, hxl, Nat.add_mul]
        · rw [List.length_drop, hxl, Nat.add_mul]
          omega
      · exact (Frm.refl _ w).setB (.inl ⟨0, n, cap, rfl⟩) _
      · rintro b' ⟨off, l', c', he⟩
        cases he
        exact .inl ⟨0, n, cap, rfl⟩
    · have hold : (Builtin.firstCells sz n (.slice (some ⟨b, 0, none⟩) n cap)).run P w.drew = .ok pre.toArray w.drew := by
        have h1 := run_loadCells_at (P := P) (w := w.drew) (off := 0) (n := n * sz) (k := (0, 0)) hA (by rw [List.length_append]; omega)
        rw [← hpl, sub_left] at h1
        simp only [Builtin.firstCells]
        rw [← hpl]
        exact h1
      exact grow _ cap rfl hfit hpl hold
theorem run_append {sT xT ty e sz by' n m : Nat} {z v : Value} {D : TypeDesc} {pre X : List Value} {bx ox cx tx : Nat} {k : Nat × Nat}
    (hu : P.underlying sT = some (.slice e)) (hx : P.underlying xT = some D) (hD : ∀ kk, D ≠ .int kk) (hs : szOf P e = some sz) (hb : byOf P e = some by') (hz : zrOf P e = some z) (hzc : z.cells.size = sz)
    (hrow : Row w v e sz n pre) (hX : At w bx (.cells X.toArray tx k)) (hsub : ox + m * sz ≤ X.length) (hone : ∀ u ∈ sub X ox (m * sz), one u = true) (hby : 0 < by') (hcap : 2 * (n + m) * by' ≤ 2 ^ 48) :
    ∃ v' w', (Builtin.append_ #[sT, xT] ty #[v, .slice (some ⟨bx, ox, none⟩) m cx]).run P w = .ok v' w' ∧ Row w' v' e sz (n + m) (pre ++ sub X ox (m * sz)) ∧ Frm (InV v) w w' ∧ ∀ b, InV v' b → InV v b ∨ w.heap.size ≤ b := by
  obtain ⟨v', w', h1, h2, h3, h4, _⟩ := run_append2 (ty := ty) (cx := cx) hu hx hD hs hb hz hzc hrow hX hsub hone hby (fun cap hc => Nat.le_trans (Nat.mul_le_mul_right _ (next_le (n + m) cap hc)) hcap)
  exact ⟨v', w', h1, h2, h3, h4⟩
end
section
variable {P : Program} {w : World} {ρ : Operand → Value} {d : Option Nat} {t : Nat} {p : String} {af : Array Edge} {g : Option (Nat × Bool)}
theorem r_remE {ty ty2 : Nat} {x y : Operand} {k : IntKind} {a b : Int} (hx : ρ x = .int k a) (hy : ρ y = .int k b) (ha : 0 ≤ a) (hb : 0 < b) :
    (execOp ρ ⟨d, .binOp .rem ty x y ty2, t, p, af, g⟩).run P w = .ok (.value (.int k (a % b))) w := by
  rw [r_rem hx hy (by omega), Int.tmod_eq_emod_of_nonneg ha]
theorem r_loadV {ty : Nat} {x : Operand} {b off m : Nat} {D : TypeDesc} {l vs : List Value} {e : Nat} {k : Nat × Nat} (hu : P.underlying ty = some D) (ha : isAggD D = true) (hz : szOf P ty = some m) (hx : ρ x = .pointer (some ⟨b, off, none⟩)) (hb : At w b (.cells l.toArray e k)) (hl : off + m ≤ l.length) (hv : sub l off m = vs) :
    (execOp ρ ⟨d, .load ty x, t, p, af, g⟩).run P w = .ok (.value (.agg vs.toArray)) w := by
  rw [← hv]
  exact r_loadA hu ha hz hx hb hl
theorem r_store_i {ty : Nat} {x y : Operand} {b off : Nat} {l : List Value} {e : Nat} {k : IntKind} {a : Int} (hz : szOf P ty = some 1) (hx : ρ x = .pointer (some ⟨b, off, none⟩)) (hy : ρ y = .int k a) (hb : At w b (cel l e)) (hl : off < l.length) : (execOp ρ ⟨d, .store ty x y, t, p, af, g⟩).run P w = .ok .skip (setB w b (cel (l.set off (.int k a)) e)) := r_store hz hx hy rfl hb hl
theorem r_store_b {ty : Nat} {x y : Operand} {b off : Nat} {l : List Value} {e : Nat} {c : Bool} (hz : szOf P ty = some 1) (hx : ρ x = .pointer (some ⟨b, off, none⟩)) (hy : ρ y = .bool c) (hb : At w b (cel l e)) (hl : off < l.length) : (execOp ρ ⟨d, .store ty x y, t, p, af, g⟩).run P w = .ok .skip (setB w b (cel (l.set off (.bool c)) e)) := r_store hz hx hy rfl hb hl
theorem r_store_p {ty : Nat} {x y : Operand} {b off : Nat} {l : List Value} {e : Nat} {a : Option Addr} (hz : szOf P ty = some 1) (hx : ρ x = .pointer (some ⟨b, off, none⟩)) (hy : ρ y = .pointer a) (hb : At w b (cel l e)) (hl : off < l.length) : (execOp ρ ⟨d, .store ty x y, t, p, af, g⟩).run P w = .ok .skip (setB w b (cel (l.set off (.pointer a)) e)) := r_store hz hx hy rfl hb hl
theorem r_store_s {ty : Nat} {x y : Operand} {b off : Nat} {l : List Value} {e : Nat} {a : Option Addr} {m c : Nat} (hz : szOf P ty = some 1) (hx : ρ x = .pointer (some ⟨b, off, none⟩)) (hy : ρ y = .slice a m c) (hb : At w b (cel l e)) (hl : off < l.length) : (execOp ρ ⟨d, .store ty x y, t, p, af, g⟩).run P w = .ok .skip (setB w b (cel (l.set off (.slice a m c)) e)) := r_store hz hx hy rfl hb hl
theorem r_store_m {ty : Nat} {x y : Operand} {b off : Nat} {l : List Value} {e : Nat} {a : Option Nat} (hz : szOf P ty = some 1) (hx : ρ x = .pointer (some ⟨b, off, none⟩)) (hy : ρ y = .map a) (hb : At w b (cel l e)) (hl : off < l.length) : (execOp ρ ⟨d, .store ty x y, t, p, af, g⟩).run P w = .ok .skip (setB w b (cel (l.set off (.map a)) e)) := r_store hz hx hy rfl hb hl
theorem r_store_if {ty : Nat} {x y : Operand} {b off : Nat} {l : List Value} {e : Nat} {u : Nat} {v : Value} (hz : szOf P ty = some 1) (hx : ρ x = .pointer (some ⟨b, off, none⟩)) (hy : ρ y = .iface u v) (hb : At w b (cel l e)) (hl : off < l.length) : (execOp ρ ⟨d, .store ty x y, t, p, af, g⟩).run P w = .ok .skip (setB w b (cel (l.set off (.iface u v)) e)) := r_store hz hx hy rfl hb hl
theorem r_store_ni {ty : Nat} {x y : Operand} {b off : Nat} {l : List Value} {e : Nat}  (hz : szOf P ty = some 1) (hx : ρ x = .pointer (some ⟨b, off, none⟩)) (hy : ρ y = .nilIface) (hb : At w b (cel l e)) (hl : off < l.length) : (execOp ρ ⟨d, .store ty x y, t, p, af, g⟩).run P w = .ok .skip (setB w b (cel (l.set off (.nilIface)) e)) := r_store hz hx hy rfl hb hl
theorem r_store_f {ty : Nat} {x y : Operand} {b off : Nat} {l : List Value} {e : Nat} {fn : Fn} {x1 x2 : Array Value} (hz : szOf P ty = some 1) (hx : ρ x = .pointer (some ⟨b, off, none⟩)) (hy : ρ y = .func fn x1 x2) (hb : At w b (cel l e)) (hl : off < l.length) : (execOp ρ ⟨d, .store ty x y, t, p, af, g⟩).run P w = .ok .skip (setB w b (cel (l.set off (.func fn x1 x2)) e)) := r_store hz hx hy rfl hb hl
end
end Go.Proofs.YtbicffldggcdhaaDoor
