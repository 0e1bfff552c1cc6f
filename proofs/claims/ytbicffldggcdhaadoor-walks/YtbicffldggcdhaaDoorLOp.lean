/-
  The calculus, its second part: what one operation does in a frame that is a function, over blocks of memory.
-/
import Derived.Test.YtbicffldggcdhaaDoorLWp
import Derived.LaidEql
namespace Go.Proofs.YtbicffldggcdhaaDoor
open Go

/-! ### Blocks -/
abbrev At (w : World) (b : Nat) (o : Obj) : Prop := w.heap[b]? = some o
abbrev cel (l : List Value) (ty : Nat) : Obj := .cells l.toArray ty (0, 0)
def setB (w : World) (b : Nat) (o : Obj) : World := { w with heap := w.heap.setIfInBounds b o }
def sub : List Value → Nat → Nat → List Value
  | [], _, _ => []
  | x :: l, 0, n => match n with
    | 0 => []
    | m + 1 => x :: sub l 0 m
  | _ :: l, k + 1, n => sub l k n
def put : List Value → Nat → List Value → List Value
  | [], _, _ => []
  | x :: l, 0, vs => match vs with
    | [] => x :: l
    | v :: r => v :: put l 0 r
  | x :: l, k + 1, vs => x :: put l k vs

theorem sub_zero (l : List Value) (k : Nat) : sub l k 0 = [] := by
  induction l generalizing k with
  | nil => rfl
  | cons x l ih => cases k with
    | zero => rfl
    | succ k => exact ih k
theorem sub_succ : ∀ (l : List Value) (k n : Nat) (v : Value), l[k]? = some v → sub l k (n + 1) = v :: sub l (k + 1) n
  | [], k, n, v, h => by simp at h
  | x :: l, 0, n, v, h => by simp at h; subst h; rfl
  | x :: l, k + 1, n, v, h => by
    simp only [List.getElem?_cons_succ] at h
    exact sub_succ l k n v h
theorem put_nil (l : List Value) (k : Nat) : put l k [] = l := by
  induction l generalizing k with
  | nil => rfl
  | cons x l ih => cases k with
    | zero => rfl
    | succ k => simp [put, ih k]
theorem put_cons : ∀ (l : List Value) (k : Nat) (v : Value) (r : List Value), k < l.length → put l k (v :: r) = put (l.set k v) (k + 1) r
  | [], k, v, r, h => by simp at h
  | x :: l, 0, v, r, _ => by
    cases r <;> rfl
  | x :: l, k + 1, v, r, h => by
    simp only [List.length_cons] at h
    simp only [put, List.set_cons_succ]
    rw [put_cons l k v r (by omega)]
theorem put_length : ∀ (l : List Value) (k : Nat) (vs : List Value), (put l k vs).length = l.length
  | [], _, _ => rfl
  | x :: l, 0, [] => rfl
  | x :: l, 0, v :: r => by simp [put, put_length l 0 r]
  | x :: l, k + 1, vs => by simp [put, put_length l k vs]

theorem at_lt {w : World} {b : Nat} {o : Obj} (h : At w b o) : b < w.heap.size := by
  rcases Nat.lt_or_ge b w.heap.size with h' | h'
  · exact h'
  · simp [At, Array.getElem?_eq_none h'] at h
theorem at_alloc_new (w : World) (o : Obj) : At (w.alloc o) w.heap.size o := by
  show (w.heap.push o)[w.heap.size]? = some o
  simp
theorem at_alloc {w : World} {b : Nat} {x : Obj} (o : Obj) (h : At w b x) : At (w.alloc o) b x := by
  have := at_lt h
  show (w.heap.push o)[b]? = some x
  rw [Array.getElem?_push, if_neg (Nat.ne_of_lt this)]
  exact h
theorem at_drew {w : World} {b : Nat} {x : Obj} (h : At w b x) : At w.drew b x := h
theorem at_setB {w : World} {b : Nat} {x : Obj} (o : Obj) (h : At w b x) : At (setB w b o) b o := by
  have := at_lt h
  simp [At, setB, this]
theorem at_setB_ne {w : World} {b c : Nat} {x : Obj} (o : Obj) (hne : b ≠ c) (h : At w c x) : At (setB w b o) c x := by
  simp only [At, setB]
  rw [Array.getElem?_setIfInBounds_ne hne]
  exact h
theorem size_setB (w : World) (b : Nat) (o : Obj) : (setB w b o).heap.size = w.heap.size := by simp [setB]
theorem setB_setB (w : World) (b : Nat) (o p : Obj) : setB (setB w b o) b p = setB w b p := by simp [setB]
theorem setB_self {w : World} {b : Nat} {o : Obj} (h : At w b o) : setB w b o = w := by
  unfold setB
  have : w.heap.setIfInBounds b o = w.heap := by
    apply Array.ext'
    apply List.ext_getElem?
    intro i
    by_cases hi : b = i
    · subst hi
      have h1 := at_lt h
      have h2 : w.heap[b]? = some o := h
      rw [Array.getElem?_eq_getElem h1] at h2
      simp [h1, Option.some.inj h2]
    · simp [Array.toList_setIfInBounds, List.getElem?_set_ne hi]
  rw [this]
theorem cell_at {w : World} {b : Nat} {l : List Value} {ty : Nat} {k : Nat × Nat} (h : At w b (.cells l.toArray ty k)) (off : Nat) : w.cell? ⟨b, off, none⟩ = l[off]? := by
  have h' : w.heap[b]? = some (.cells l.toArray ty k) := h
  simp [World.cell?, h']
theorem frozen_at {w : World} {b : Nat} {C : Array Value} {ty : Nat} (h : At w b (.cells C ty (0, 0))) (off : Nat) : w.frozen? ⟨b, off, none⟩ = false := by
  have h' : w.heap[b]? = some (.cells C ty (0, 0)) := h
  simp [World.frozen?, h']
theorem setCell_at {w : World} {b : Nat} {l : List Value} {ty : Nat} (h : At w b (cel l ty)) (off : Nat) (v : Value) : w.setCell ⟨b, off, none⟩ v = setB w b (cel (l.set off v) ty) := by
  have h' : w.heap[b]? = some (cel l ty) := h
  have hlt := at_lt h
  unfold World.setCell setB
  have : (w.heap.modify b fun
      | .cells c elem frozen => .cells (if (none : Option Nat).isSome then c else c.setIfInBounds off v) elem frozen
      | o => o) = w.heap.setIfInBounds b (cel (l.set off v) ty) := by
    apply Array.ext
    · simp
    · intro i h1 h2
      by_cases hi : b = i
      · subst hi
        have hx : w.heap[b] = cel l ty := by
          have := Array.getElem?_eq_getElem hlt
          rw [h'] at this
          exact (Option.some.inj this).symm
        simp [Array.getElem_modify, hx]
      · have h3 : i < w.heap.size := by simpa using h2
        have hx : (w.heap.setIfInBounds b (cel (l.set off v) ty))[i]? = w.heap[i]? := Array.getElem?_setIfInBounds_ne hi
        rw [Array.getElem_modify]
        simp only [hi, if_false]
        have := Array.getElem?_eq_getElem h3
        rw [← hx] at this
        exact ((Array.getElem_eq_iff).2 this).symm
  exact congrArg (fun h => { w with heap := h }) this

section
variable {P : Program} {w : World}

def szOf (P : Program) (t : Nat) : Option Nat := (P.info? t).map (·.size)
def zrOf (P : Program) (t : Nat) : Option Value := (P.info? t).bind (·.zero)
def byOf (P : Program) (t : Nat) : Option Nat := (P.info? t).map (·.bytes)

theorem run_size {t n : Nat} (h : szOf P t = some n) : (sizeOf t).run P w = .ok n w := by
  unfold szOf at h
  cases hi : P.info? t with
  | none => simp [hi] at h
  | some i => simp [hi] at h; simp [sizeOf, typeInfo, hi, h]
theorem run_zero {t : Nat} {v : Value} (h : zrOf P t = some v) : (zeroValue t).run P w = .ok v w := by
  unfold zrOf at h
  cases hi : P.info? t with
  | none => simp [hi] at h
  | some i => simp [hi] at h; simp [zeroValue, typeInfo, hi, h]
theorem run_bytes {t n : Nat} (h : byOf P t = some n) : ∃ i, (typeInfo t).run P w = .ok i w ∧ i.bytes = n := by
  unfold byOf at h
  cases hi : P.info? t with
  | none => simp [hi] at h
  | some i => simp [hi] at h; exact ⟨i, by simp [typeInfo, hi], h⟩

theorem run_load_at {b off : Nat} {l : List Value} {ty : Nat} {k : Nat × Nat} {v : Value} (h : At w b (.cells l.toArray ty k)) (hv : l[off]? = some v) : (load ⟨b, off, none⟩).run P w = .ok v w := by
  simp [load, Sem.run, cell_at h, hv]
theorem add_none (b off n : Nat) : (⟨b, off, none⟩ : Addr).add n = ⟨b, off + n, none⟩ := by
  unfold Addr.add
  split
  · rename_i h; subst h; rfl
  · rfl
theorem run_loadCellsFrom {b off : Nat} {l : List Value} {ty : Nat} {k : Nat × Nat} (h : At w b (.cells l.toArray ty k)) : ∀ (n i : Nat) (acc : Array Value), off + i + n ≤ l.length → (loadCellsFrom ⟨b, off, none⟩ i n acc).run P w = .ok (acc ++ (sub l (off + i) n).toArray) w
  | 0, i, acc, _ => by simp [loadCellsFrom, sub_zero]
  | n + 1, i, acc, hl => by
    have hlt : off + i < l.length := by omega
    have hv : l[off + i]? = some l[off + i] := List.getElem?_eq_getElem hlt
    simp only [loadCellsFrom, Sem.run_bind, add_none, run_load_at h hv, Result.andThen_ok]
    rw [run_loadCellsFrom h n (i + 1) _ (by omega), sub_succ l (off + i) n _ hv]
    simp [Nat.add_assoc]
theorem run_loadCells_at {b off n : Nat} {l : List Value} {ty : Nat} {k : Nat × Nat} (h : At w b (.cells l.toArray ty k)) (hl : off + n ≤ l.length) : (loadCells ⟨b, off, none⟩ n).run P w = .ok (sub l off n).toArray w := by
  unfold loadCells
  rw [run_loadCellsFrom h n 0 #[] (by omega)]
  simp

def one (v : Value) : Bool := match v with | .agg _ | .tuple _ => false | _ => true
theorem run_store_at {b off : Nat} {l : List Value} {ty : Nat} {v : Value} (h : At w b (cel l ty)) (hl : off < l.length) (hv : one v = true) : (store ⟨b, off, none⟩ v).run P w = .ok () (setB w b (cel (l.set off v) ty)) := by
  have hc := cell_at (k := (0, 0)) h off
  rw [List.getElem?_eq_getElem hl] at hc
  have hf := frozen_at h off
  have hs := setCell_at h off v
  cases v <;> first | (simp [one] at hv; done) | simp [store, Sem.run, hc, hf, hs]
theorem run_storeCells_at {b off : Nat} {ty : Nat} : ∀ (vs : List Value) (i : Nat) (w : World) (l : List Value), At w b (cel l ty) → off + i + vs.length ≤ l.length → (∀ v ∈ vs, one v = true) → (storeCells ⟨b, off, none⟩ vs i).run P w = .ok () (setB w b (cel (put l (off + i) vs) ty))
  | [], i, w, l, h, _, _ => by simp [storeCells, put_nil, setB_self h]
  | v :: vs, i, w, l, h, hl, hv => by
    simp only [List.length_cons] at hl
    simp only [storeCells, Sem.run_bind, add_none, run_store_at h (show off + i < l.length by omega) (hv v List.mem_cons_self), Result.andThen_ok]
    rw [run_storeCells_at vs (i + 1) _ (l.set (off + i) v) (at_setB _ h) (by simp; omega) (fun x hx => hv x (List.mem_cons_of_mem _ hx)), setB_setB, put_cons l (off + i) v vs (by omega)]
    simp [Nat.add_assoc]

def isAggD : TypeDesc → Bool
  | .struct _ | .array _ _ => true
  | _ => false
theorem run_isAgg {t : Nat} {d : TypeDesc} (h : P.underlying t = some d) : (isAgg t).run P w = .ok (isAggD d) w := by
  unfold isAgg
  simp only [Sem.run_bind, run_underlying h, Result.andThen_ok]
  cases d <;> rfl
end

/-! ### Operations -/
section
variable {P : Program} {w : World} {n : Nat} {env : Env} {ρ : Operand → Value} {d : Option Nat} {t : Nat} {p : String} {af : Array Edge} {g : Option (Nat × Bool)}

theorem r_move_i {x : Operand} {k : IntKind} {a : Int} (hx : ρ x = .int k a) : (execOp ρ ⟨d, .move x, t, p, af, g⟩).run P w = .ok (.value (.int k a)) w := by rw [← hx]; rfl
theorem r_move_b {x : Operand} {b : Bool} (hx : ρ x = .bool b) : (execOp ρ ⟨d, .move x, t, p, af, g⟩).run P w = .ok (.value (.bool b)) w := by rw [← hx]; rfl
theorem r_move_p {x : Operand} {a : Option Addr} (hx : ρ x = .pointer a) : (execOp ρ ⟨d, .move x, t, p, af, g⟩).run P w = .ok (.value (.pointer a)) w := by rw [← hx]; rfl
theorem r_move_s {x : Operand} {a : Option Addr} {m c : Nat} (hx : ρ x = .slice a m c) : (execOp ρ ⟨d, .move x, t, p, af, g⟩).run P w = .ok (.value (.slice a m c)) w := by rw [← hx]; rfl
theorem r_move_m {x : Operand} {a : Option Nat} (hx : ρ x = .map a) : (execOp ρ ⟨d, .move x, t, p, af, g⟩).run P w = .ok (.value (.map a)) w := by rw [← hx]; rfl
theorem r_move_t {x : Operand} {vs : Array Value} (hx : ρ x = .tuple vs) : (execOp ρ ⟨d, .move x, t, p, af, g⟩).run P w = .ok (.value (.tuple vs)) w := by rw [← hx]; rfl
theorem r_move_a {x : Operand} {vs : Array Value} (hx : ρ x = .agg vs) : (execOp ρ ⟨d, .move x, t, p, af, g⟩).run P w = .ok (.value (.agg vs)) w := by rw [← hx]; rfl
theorem r_move_if {x : Operand} {u : Nat} {v : Value} (hx : ρ x = .iface u v) : (execOp ρ ⟨d, .move x, t, p, af, g⟩).run P w = .ok (.value (.iface u v)) w := by rw [← hx]; rfl
theorem r_move_ni {x : Operand}  (hx : ρ x = .nilIface) : (execOp ρ ⟨d, .move x, t, p, af, g⟩).run P w = .ok (.value (.nilIface)) w := by rw [← hx]; rfl
theorem r_move_f {x : Operand} {fn : Fn} {x1 x2 : Array Value} (hx : ρ x = .func fn x1 x2) : (execOp ρ ⟨d, .move x, t, p, af, g⟩).run P w = .ok (.value (.func fn x1 x2)) w := by rw [← hx]; rfl
theorem r_move {x : Operand} {v : Value} (hx : ρ x = v) : (execOp ρ ⟨d, .move x, t, p, af, g⟩).run P w = .ok (.value v) w := by rw [← hx]; rfl
theorem r_assign_i {x : Operand} {k : IntKind} {a : Int} (hx : ρ x = .int k a) : (execOp ρ ⟨d, .assign x, t, p, af, g⟩).run P w = .ok (.value (.int k a)) w := by rw [← hx]; rfl
theorem r_assign_b {x : Operand} {b : Bool} (hx : ρ x = .bool b) : (execOp ρ ⟨d, .assign x, t, p, af, g⟩).run P w = .ok (.value (.bool b)) w := by rw [← hx]; rfl
theorem r_assign_p {x : Operand} {a : Option Addr} (hx : ρ x = .pointer a) : (execOp ρ ⟨d, .assign x, t, p, af, g⟩).run P w = .ok (.value (.pointer a)) w := by rw [← hx]; rfl
theorem r_assign_s {x : Operand} {a : Option Addr} {m c : Nat} (hx : ρ x = .slice a m c) : (execOp ρ ⟨d, .assign x, t, p, af, g⟩).run P w = .ok (.value (.slice a m c)) w := by rw [← hx]; rfl
theorem r_assign_m {x : Operand} {a : Option Nat} (hx : ρ x = .map a) : (execOp ρ ⟨d, .assign x, t, p, af, g⟩).run P w = .ok (.value (.map a)) w := by rw [← hx]; rfl
theorem r_assign_t {x : Operand} {vs : Array Value} (hx : ρ x = .tuple vs) : (execOp ρ ⟨d, .assign x, t, p, af, g⟩).run P w = .ok (.value (.tuple vs)) w := by rw [← hx]; rfl
theorem r_assign_a {x : Operand} {vs : Array Value} (hx : ρ x = .agg vs) : (execOp ρ ⟨d, .assign x, t, p, af, g⟩).run P w = .ok (.value (.agg vs)) w := by rw [← hx]; rfl
theorem r_assign_if {x : Operand} {u : Nat} {v : Value} (hx : ρ x = .iface u v) : (execOp ρ ⟨d, .assign x, t, p, af, g⟩).run P w = .ok (.value (.iface u v)) w := by rw [← hx]; rfl
theorem r_assign_ni {x : Operand}  (hx : ρ x = .nilIface) : (execOp ρ ⟨d, .assign x, t, p, af, g⟩).run P w = .ok (.value (.nilIface)) w := by rw [← hx]; rfl
theorem r_assign_f {x : Operand} {fn : Fn} {x1 x2 : Array Value} (hx : ρ x = .func fn x1 x2) : (execOp ρ ⟨d, .assign x, t, p, af, g⟩).run P w = .ok (.value (.func fn x1 x2)) w := by rw [← hx]; rfl
theorem r_assign {x : Operand} {v : Value} (hx : ρ x = v) : (execOp ρ ⟨d, .assign x, t, p, af, g⟩).run P w = .ok (.value v) w := by rw [← hx]; rfl
theorem r_pick_t {c x y : Operand} {b e : Bool} (hc : ρ c = .bool e) (he : e = true) (hx : ρ x = .bool b) : (execOp ρ ⟨d, .pick c x y, t, p, af, g⟩).run P w = .ok (.value (.bool b)) w := by subst he; simp [execOp, hc, asBool, hx]
theorem r_pick_f {c x y : Operand} {b e : Bool} (hc : ρ c = .bool e) (he : e = false) (hx : ρ y = .bool b) : (execOp ρ ⟨d, .pick c x y, t, p, af, g⟩).run P w = .ok (.value (.bool b)) w := by subst he; simp [execOp, hc, asBool, hx]

theorem r_cmp {op : BinOp} {ty ty2 : Nat} {x y : Operand} {k : IntKind} {a b : Int} {r : Bool} (hx : ρ x = .int k a) (hy : ρ y = .int k b)
    (h : match op with | .eql => r = decide (a = b) | .neq => r = !decide (a = b) | .lss => r = decide (a < b) | .leq => r = decide (a ≤ b) | .gtr => r = decide (b < a) | .geq => r = decide (b ≤ a) | _ => False) :
    (execOp ρ ⟨d, .binOp op ty x y ty2, t, p, af, g⟩).run P w = .ok (.value (.bool r)) w := by
  cases op <;> simp only at h <;> subst h <;> simp [execOp, hx, hy, eqGuard, binOp, Op.intCmp] <;> first | rfl | (cases hd : decide (a = b) <;> simp_all)
theorem r_eql {ty ty2 : Nat} {x y : Operand} {k : IntKind} {a b : Int} (hx : ρ x = .int k a) (hy : ρ y = .int k b) : (execOp ρ ⟨d, .binOp .eql ty x y ty2, t, p, af, g⟩).run P w = .ok (.value (.bool (decide (a = b)))) w := r_cmp hx hy rfl
theorem r_neq {ty ty2 : Nat} {x y : Operand} {k : IntKind} {a b : Int} (hx : ρ x = .int k a) (hy : ρ y = .int k b) : (execOp ρ ⟨d, .binOp .neq ty x y ty2, t, p, af, g⟩).run P w = .ok (.value (.bool (!decide (a = b)))) w := r_cmp hx hy rfl
theorem r_lss {ty ty2 : Nat} {x y : Operand} {k : IntKind} {a b : Int} (hx : ρ x = .int k a) (hy : ρ y = .int k b) : (execOp ρ ⟨d, .binOp .lss ty x y ty2, t, p, af, g⟩).run P w = .ok (.value (.bool (decide (a < b)))) w := r_cmp hx hy rfl
theorem r_leq {ty ty2 : Nat} {x y : Operand} {k : IntKind} {a b : Int} (hx : ρ x = .int k a) (hy : ρ y = .int k b) : (execOp ρ ⟨d, .binOp .leq ty x y ty2, t, p, af, g⟩).run P w = .ok (.value (.bool (decide (a ≤ b)))) w := r_cmp hx hy rfl
theorem r_gtr {ty ty2 : Nat} {x y : Operand} {k : IntKind} {a b : Int} (hx : ρ x = .int k a) (hy : ρ y = .int k b) : (execOp ρ ⟨d, .binOp .gtr ty x y ty2, t, p, af, g⟩).run P w = .ok (.value (.bool (decide (b < a)))) w := r_cmp hx hy rfl
theorem r_geq {ty ty2 : Nat} {x y : Operand} {k : IntKind} {a b : Int} (hx : ρ x = .int k a) (hy : ρ y = .int k b) : (execOp ρ ⟨d, .binOp .geq ty x y ty2, t, p, af, g⟩).run P w = .ok (.value (.bool (decide (b ≤ a)))) w := r_cmp hx hy rfl

theorem r_eql_t {ty ty2 : Nat} {x y : Operand} {k : IntKind} {a b : Int} (hx : ρ x = .int k a) (hy : ρ y = .int k b) (h : a = b) : (execOp ρ ⟨d, .binOp .eql ty x y ty2, t, p, af, g⟩).run P w = .ok (.value (.bool true)) w := r_cmp hx hy (by simp; first | exact h | omega)
theorem r_eql_f {ty ty2 : Nat} {x y : Operand} {k : IntKind} {a b : Int} (hx : ρ x = .int k a) (hy : ρ y = .int k b) (h : a ≠ b) : (execOp ρ ⟨d, .binOp .eql ty x y ty2, t, p, af, g⟩).run P w = .ok (.value (.bool false)) w := r_cmp hx hy (by simp; first | exact h | omega)
theorem r_neq_t {ty ty2 : Nat} {x y : Operand} {k : IntKind} {a b : Int} (hx : ρ x = .int k a) (hy : ρ y = .int k b) (h : a ≠ b) : (execOp ρ ⟨d, .binOp .neq ty x y ty2, t, p, af, g⟩).run P w = .ok (.value (.bool true)) w := r_cmp hx hy (by simp; first | exact h | omega)
theorem r_neq_f {ty ty2 : Nat} {x y : Operand} {k : IntKind} {a b : Int} (hx : ρ x = .int k a) (hy : ρ y = .int k b) (h : a = b) : (execOp ρ ⟨d, .binOp .neq ty x y ty2, t, p, af, g⟩).run P w = .ok (.value (.bool false)) w := r_cmp hx hy (by simp; first | exact h | omega)
theorem r_lss_t {ty ty2 : Nat} {x y : Operand} {k : IntKind} {a b : Int} (hx : ρ x = .int k a) (hy : ρ y = .int k b) (h : a < b) : (execOp ρ ⟨d, .binOp .lss ty x y ty2, t, p, af, g⟩).run P w = .ok (.value (.bool true)) w := r_cmp hx hy (by simp; first | exact h | omega)
theorem r_lss_f {ty ty2 : Nat} {x y : Operand} {k : IntKind} {a b : Int} (hx : ρ x = .int k a) (hy : ρ y = .int k b) (h : b ≤ a) : (execOp ρ ⟨d, .binOp .lss ty x y ty2, t, p, af, g⟩).run P w = .ok (.value (.bool false)) w := r_cmp hx hy (by simp; first | exact h | omega)
theorem r_leq_t {ty ty2 : Nat} {x y : Operand} {k : IntKind} {a b : Int} (hx : ρ x = .int k a) (hy : ρ y = .int k b) (h : a ≤ b) : (execOp ρ ⟨d, .binOp .leq ty x y ty2, t, p, af, g⟩).run P w = .ok (.value (.bool true)) w := r_cmp hx hy (by simp; first | exact h | omega)
theorem r_leq_f {ty ty2 : Nat} {x y : Operand} {k : IntKind} {a b : Int} (hx : ρ x = .int k a) (hy : ρ y = .int k b) (h : b < a) : (execOp ρ ⟨d, .binOp .leq ty x y ty2, t, p, af, g⟩).run P w = .ok (.value (.bool false)) w := r_cmp hx hy (by simp; first | exact h | omega)
theorem r_gtr_t {ty ty2 : Nat} {x y : Operand} {k : IntKind} {a b : Int} (hx : ρ x = .int k a) (hy : ρ y = .int k b) (h : b < a) : (execOp ρ ⟨d, .binOp .gtr ty x y ty2, t, p, af, g⟩).run P w = .ok (.value (.bool true)) w := r_cmp hx hy (by simp; first | exact h | omega)
theorem r_gtr_f {ty ty2 : Nat} {x y : Operand} {k : IntKind} {a b : Int} (hx : ρ x = .int k a) (hy : ρ y = .int k b) (h : a ≤ b) : (execOp ρ ⟨d, .binOp .gtr ty x y ty2, t, p, af, g⟩).run P w = .ok (.value (.bool false)) w := r_cmp hx hy (by simp; first | exact h | omega)
theorem r_geq_t {ty ty2 : Nat} {x y : Operand} {k : IntKind} {a b : Int} (hx : ρ x = .int k a) (hy : ρ y = .int k b) (h : b ≤ a) : (execOp ρ ⟨d, .binOp .geq ty x y ty2, t, p, af, g⟩).run P w = .ok (.value (.bool true)) w := r_cmp hx hy (by simp; first | exact h | omega)
theorem r_geq_f {ty ty2 : Nat} {x y : Operand} {k : IntKind} {a b : Int} (hx : ρ x = .int k a) (hy : ρ y = .int k b) (h : a < b) : (execOp ρ ⟨d, .binOp .geq ty x y ty2, t, p, af, g⟩).run P w = .ok (.value (.bool false)) w := r_cmp hx hy (by simp; first | exact h | omega)

theorem wrap_id {n : Int} (h1 : -9223372036854775808 ≤ n) (h2 : n ≤ 9223372036854775807) : IntKind.i64.wrap n = n := by
  have e1 : (2 : Int) ^ IntKind.i64.bits = 18446744073709551616 := by decide
  have e2 : (2 : Int) ^ (IntKind.i64.bits - 1) = 9223372036854775808 := by decide
  unfold IntKind.wrap
  simp only [e1, e2, IntKind.signed, Bool.true_and, decide_eq_true_eq]
  split <;> omega
theorem r_add {ty ty2 : Nat} {x y : Operand} {a b : Int} (hx : ρ x = .int .i64 a) (hy : ρ y = .int .i64 b) (h1 : -9223372036854775808 ≤ a + b) (h2 : a + b ≤ 9223372036854775807) :
    (execOp ρ ⟨d, .binOp .add ty x y ty2, t, p, af, g⟩).run P w = .ok (.value (.int .i64 (a + b))) w := by
  simp [execOp, hx, hy, eqGuard, binOp, Op.intArith, wrap_id h1 h2]
theorem r_sub {ty ty2 : Nat} {x y : Operand} {a b : Int} (hx : ρ x = .int .i64 a) (hy : ρ y = .int .i64 b) (h1 : -9223372036854775808 ≤ a - b) (h2 : a - b ≤ 9223372036854775807) :
    (execOp ρ ⟨d, .binOp .sub ty x y ty2, t, p, af, g⟩).run P w = .ok (.value (.int .i64 (a - b))) w := by
  simp [execOp, hx, hy, eqGuard, binOp, Op.intArith, wrap_id h1 h2]
theorem r_rem {ty ty2 : Nat} {x y : Operand} {k : IntKind} {a b : Int} (hx : ρ x = .int k a) (hy : ρ y = .int k b) (h : b ≠ 0) :
    (execOp ρ ⟨d, .binOp .rem ty x y ty2, t, p, af, g⟩).run P w = .ok (.value (.int k (a.tmod b))) w := by
  simp [execOp, hx, hy, eqGuard, binOp, Op.intDiv, h]
theorem r_quo {ty ty2 : Nat} {x y : Operand} {a b : Int} (hx : ρ x = .int .i64 a) (hy : ρ y = .int .i64 b) (h : b ≠ 0) (h1 : -9223372036854775808 ≤ a.tdiv b) (h2 : a.tdiv b ≤ 9223372036854775807) :
    (execOp ρ ⟨d, .binOp .quo ty x y ty2, t, p, af, g⟩).run P w = .ok (.value (.int .i64 (a.tdiv b))) w := by
  simp [execOp, hx, hy, eqGuard, binOp, Op.intDiv, h, wrap_id h1 h2]
theorem r_not {ty : Nat} {x : Operand} {b : Bool} (hx : ρ x = .bool b) : (execOp ρ ⟨d, .unOp .not ty x, t, p, af, g⟩).run P w = .ok (.value (.bool !b)) w := by simp [execOp, hx, Op.unary]
theorem r_not_t {ty : Nat} {x : Operand} {b : Bool} (hx : ρ x = .bool b) (hb : b = true) : (execOp ρ ⟨d, .unOp .not ty x, t, p, af, g⟩).run P w = .ok (.value (.bool false)) w := by subst hb; simp [execOp, hx, Op.unary]
theorem r_not_f {ty : Nat} {x : Operand} {b : Bool} (hx : ρ x = .bool b) (hb : b = false) : (execOp ρ ⟨d, .unOp .not ty x, t, p, af, g⟩).run P w = .ok (.value (.bool true)) w := by subst hb; simp [execOp, hx, Op.unary]
theorem r_neg {ty : Nat} {x : Operand} {a : Int} (hx : ρ x = .int .i64 a) (h1 : -9223372036854775808 ≤ 0 - a) (h2 : 0 - a ≤ 9223372036854775807) :
    (execOp ρ ⟨d, .unOp .neg ty x, t, p, af, g⟩).run P w = .ok (.value (.int .i64 (0 - a))) w := by simp only [execOp, hx, Op.unary, Op.intArith, wrap_id h1 h2]; rfl
theorem r_nilCheck {x : Operand} {a : Addr} (hx : ρ x = .pointer (some a)) : (execOp ρ ⟨d, .nilCheck x, t, p, af, g⟩).run P w = .ok (.value (.pointer (some a))) w := by simp [execOp, hx]
theorem r_len {ty e : Nat} {x : Operand} {a : Option Addr} {m c : Nat} (hu : P.underlying ty = some (.slice e)) (hx : ρ x = .slice a m c) :
    (execOp ρ ⟨d, .call { callee := .builtin .len, args := #[x], argTypes := #[ty] }, t, p, af, g⟩).run P w = .ok (.value (.int .i64 m)) w := by
  simp [execOp, resolve, invoke, builtin, Builtin.len_, hx, run_underlying hu, goInt]
theorem r_lenmap {ty k e : Nat} {x : Operand} {b : Nat} {es : Array MapEntry} {cl : Nat} (hu : P.underlying ty = some (.map k e)) (hx : ρ x = .map (some b)) (hb : At w b (.map es cl)) :
    (execOp ρ ⟨d, .call { callee := .builtin .len, args := #[x], argTypes := #[ty] }, t, p, af, g⟩).run P w = .ok (.value (.int .i64 es.size)) w := by
  have hb' : w.heap[b]? = some (.map es cl) := hb
  simp [execOp, resolve, invoke, builtin, Builtin.len_, hx, run_underlying hu, goInt, getObj, Sem.run, hb']
theorem r_field {s f : Nat} {x : Operand} {b off : Nat} {fs : Array Field} {fi : Field} {m : Nat} (hu : P.underlying s = some (.struct fs)) (hx : ρ x = .pointer (some ⟨b, off, none⟩)) (hf : fs[f]? = some fi) (hz : szOf P fi.type = some (m + 1)) :
    (execOp ρ ⟨d, .fieldAddr s x f, t, p, af, g⟩).run P w = .ok (.value (.pointer (some ⟨b, off + fi.offset, none⟩))) w := by
  simp [execOp, Instr.fieldAt, run_underlying hu, hf, hx, Instr.sureAddr, fieldPlace, run_size hz, add_none]
theorem r_index {ty e : Nat} {x y : Operand} {b off len cap : Nat} {i : Int} {k : IntKind} {m : Nat} (hu : P.underlying ty = some (.slice e)) (hz : szOf P e = some m) (hx : ρ x = .slice (some ⟨b, off, none⟩) len cap) (hy : ρ y = .int k i) (h0 : 0 ≤ i) (h1 : i < len) :
    (execOp ρ ⟨d, .indexAddr ty x y, t, p, af, g⟩).run P w = .ok (.value (.pointer (some ⟨b, off + i.toNat * m, none⟩))) w := by
  simp [execOp, Instr.indexAt, asIntOf, hx, hy, run_underlying hu, run_size hz, h0, h1, add_none]
theorem r_indexarr {ty e : Nat} {x y : Operand} {b off len : Nat} {i : Int} {k : IntKind} {m : Nat} (hu : P.underlying ty = some (.array len e)) (hz : szOf P e = some m) (hx : ρ x = .pointer (some ⟨b, off, none⟩)) (hy : ρ y = .int k i) (h0 : 0 ≤ i) (h1 : i < len) :
    (execOp ρ ⟨d, .indexAddr ty x y, t, p, af, g⟩).run P w = .ok (.value (.pointer (some ⟨b, off + i.toNat * m, none⟩))) w := by
  simp [execOp, Instr.indexAt, asIntOf, hx, hy, run_underlying hu, run_size hz, h0, h1, add_none, Instr.sureAddr]
theorem r_load {ty : Nat} {x : Operand} {b off : Nat} {D : TypeDesc} {l : List Value} {e : Nat} {k : Nat × Nat} {v : Value} (hu : P.underlying ty = some D) (ha : isAggD D = false) (hx : ρ x = .pointer (some ⟨b, off, none⟩)) (hb : At w b (.cells l.toArray e k)) (hv : l[off]? = some v) :
    (execOp ρ ⟨d, .load ty x, t, p, af, g⟩).run P w = .ok (.value v) w := by
  have h1 := run_load_at (P := P) hb hv
  simp only [load] at h1
  simp [execOp, Instr.loadAt, hx, Instr.sureAddr, loadVar, run_isAgg hu, ha]
  rw [← run_load, load, h1]
  rfl
theorem r_loadA {ty : Nat} {x : Operand} {b off m : Nat} {D : TypeDesc} {l : List Value} {e : Nat} {k : Nat × Nat} (hu : P.underlying ty = some D) (ha : isAggD D = true) (hz : szOf P ty = some m) (hx : ρ x = .pointer (some ⟨b, off, none⟩)) (hb : At w b (.cells l.toArray e k)) (hl : off + m ≤ l.length) :
    (execOp ρ ⟨d, .load ty x, t, p, af, g⟩).run P w = .ok (.value (.agg (sub l off m).toArray)) w := by
  simp [execOp, Instr.loadAt, hx, Instr.sureAddr, loadVar, run_isAgg hu, ha, run_size hz, run_loadCells_at hb hl]
theorem r_store {ty : Nat} {x y : Operand} {b off : Nat} {l : List Value} {e : Nat} {v : Value} (hz : szOf P ty = some 1) (hx : ρ x = .pointer (some ⟨b, off, none⟩)) (hy : ρ y = v) (hv : one v = true) (hb : At w b (cel l e)) (hl : off < l.length) :
    (execOp ρ ⟨d, .store ty x y, t, p, af, g⟩).run P w = .ok .skip (setB w b (cel (l.set off v) e)) := by
  have hc : v.cells = #[v] := by cases v <;> first | rfl | (simp [one] at hv; done)
  have h1 := run_storeCells_at (P := P) (off := off) [v] 0 w l hb (by simp; omega) (by simpa using hv)
  rw [Nat.add_zero, put_cons l off v [] hl, put_nil] at h1
  simp [execOp, Instr.storeAt, hx, hy, Instr.sureAddr, storeVar, hc, run_size hz, h1]
theorem r_storeA {ty : Nat} {x y : Operand} {b off m : Nat} {l vs : List Value} {e : Nat} (hz : szOf P ty = some m) (hx : ρ x = .pointer (some ⟨b, off, none⟩)) (hy : ρ y = .agg vs.toArray) (hm : vs.length = m) (hv : ∀ v ∈ vs, one v = true) (hb : At w b (cel l e)) (hl : off + m ≤ l.length) :
    (execOp ρ ⟨d, .store ty x y, t, p, af, g⟩).run P w = .ok .skip (setB w b (cel (put l off vs) e)) := by
  have h1 := run_storeCells_at (P := P) (off := off) vs 0 w l hb (by omega) hv
  rw [Nat.add_zero] at h1
  simp [execOp, Instr.storeAt, hx, hy, Instr.sureAddr, storeVar, Value.cells, run_size hz, hm, h1]
theorem r_alloc {e : Nat} {z : Value} (hz : zrOf P e = some z) : (execOp ρ ⟨d, .alloc e, t, p, af, g⟩).run P w = .ok (.value (.pointer (some ⟨w.heap.size, 0, none⟩))) (w.alloc (.cells z.cells e (0, 0))) := by
  simp [execOp, Instr.alloc, run_zero hz, newVar, newRow]
theorem r_box {e : Nat} {x : Operand} {v : Value} (hx : ρ x = v) : (execOp ρ ⟨d, .box e x, t, p, af, g⟩).run P w = .ok (.value (.pointer (some ⟨w.heap.size, 0, none⟩))) (w.alloc (.cells v.cells e (0, 0))) := by
  simp [execOp, Instr.box, newVar, newRow, hx]
theorem r_alloc1 {e : Nat} {z : Value} (hz : zrOf P e = some z) (h1 : one z = true) : (execOp ρ ⟨d, .alloc e, t, p, af, g⟩).run P w = .ok (.value (.pointer (some ⟨w.heap.size, 0, none⟩))) (w.alloc (cel [z] e)) := by
  have hc : z.cells = #[z] := by cases z <;> first | rfl | (simp [one] at h1; done)
  rw [r_alloc hz, hc]
theorem r_allocA {e : Nat} {l : List Value} (hz : zrOf P e = some (.agg l.toArray)) : (execOp ρ ⟨d, .alloc e, t, p, af, g⟩).run P w = .ok (.value (.pointer (some ⟨w.heap.size, 0, none⟩))) (w.alloc (cel l e)) := r_alloc hz
theorem r_box1 {e : Nat} {x : Operand} {z : Value} (hx : ρ x = z) (h1 : one z = true) : (execOp ρ ⟨d, .box e x, t, p, af, g⟩).run P w = .ok (.value (.pointer (some ⟨w.heap.size, 0, none⟩))) (w.alloc (cel [z] e)) := by
  have hc : z.cells = #[z] := by cases z <;> first | rfl | (simp [one] at h1; done)
  rw [r_box hx, hc]
theorem r_boxA {e : Nat} {x : Operand} {l : List Value} (hx : ρ x = .agg l.toArray) : (execOp ρ ⟨d, .box e x, t, p, af, g⟩).run P w = .ok (.value (.pointer (some ⟨w.heap.size, 0, none⟩))) (w.alloc (cel l e)) := r_box hx
def FieldAt (P : Program) (s f k : Nat) : Prop := ∃ fs fi m, P.underlying s = some (.struct fs) ∧ fs[f]? = some fi ∧ fi.offset = k ∧ szOf P fi.type = some (m + 1)
theorem r_fld {s f k : Nat} {x : Operand} {b off : Nat} (hf : FieldAt P s f k) (hx : ρ x = .pointer (some ⟨b, off, none⟩)) :
    (execOp ρ ⟨d, .fieldAddr s x f, t, p, af, g⟩).run P w = .ok (.value (.pointer (some ⟨b, off + k, none⟩))) w := by
  obtain ⟨fs, fi, m, hu, hf, rfl, hz⟩ := hf
  exact r_field hu hx hf hz
theorem r_bs {ty len : Nat} {parts : List (Nat × Operand)} {pv : List (Nat × Value)} {v : Value} {w' : World} (hp : parts.map (fun x => (x.1, ρ x.2)) = pv) (h : (Instr.buildSlice ty len pv.toArray).run P w = .ok v w') :
    (execOp ρ ⟨d, .buildSlice ty len parts.toArray, t, p, af, g⟩).run P w = .ok (.value v) w' := by
  have e : (parts.toArray.map fun (i, x) => (i, ρ x)) = pv.toArray := by rw [← hp]; simp
  simp [execOp, e, h]
theorem r_build {ty : Nat} {parts : List (Nat × Operand)} {pv : List (Nat × Value)} {v : Value} (hp : parts.map (fun x => (x.1, ρ x.2)) = pv) (h : (Instr.build ty pv.toArray).run P w = .ok v w) :
    (execOp ρ ⟨d, .build ty parts.toArray, t, p, af, g⟩).run P w = .ok (.value v) w := by
  have e : (parts.toArray.map fun (i, x) => (i, ρ x)) = pv.toArray := by rw [← hp]; simp
  simp [execOp, e, h]
theorem r_eq2 {op : BinOp} {ty ty2 : Nat} {x y : Operand} {a b : Value} {r : Bool} (hx : ρ x = a) (hy : ρ y = b) (hg : (eqGuard op ty x y a b).run P w = .ok () w) (h : (binOp op ty a b).run P w = .ok (.bool r) w) :
    (execOp ρ ⟨d, .binOp op ty x y ty2, t, p, af, g⟩).run P w = .ok (.value (.bool r)) w := by
  simp [execOp, hx, hy, hg, h]
theorem r_extract {x : Operand} {k : Nat} {vs : List Value} {v : Value} (hx : ρ x = .tuple vs.toArray) (hv : vs[k]? = some v) : (execOp ρ ⟨d, .extract x k, t, p, af, g⟩).run P w = .ok (.value v) w := by
  simp [execOp, Instr.extract, hx, hv]
theorem r_iface {ty : Nat} {x : Operand} {D : TypeDesc} {a : Option Addr} (hx : ρ x = .pointer a) (hu : P.underlying ty = some D) (hd : match D with | .interface _ => False | _ => True) : (execOp ρ ⟨d, .makeInterface ty x, t, p, af, g⟩).run P w = .ok (.value (.iface ty (.pointer a))) w := by
  simp only [execOp, Instr.makeInterface, Sem.run_bind, run_underlying hu, Result.andThen_ok, hx]
  cases D <;> first | rfl | exact absurd hd id

theorem r_ifaceP {ty e : Nat} {x : Operand} {a : Option Addr} (hx : ρ x = .pointer a) (hu : P.underlying ty = some (.pointer e)) : (execOp ρ ⟨d, .makeInterface ty x, t, p, af, g⟩).run P w = .ok (.value (.iface ty (.pointer a))) w := r_iface hx hu trivial

def callable (P : Program) (f : Nat) : Bool := match P.funcs[f]? with | some fn => !(fn.name == "runtime.NumGoroutine") && fn.body.isSome | none => false
def Rets (P : Program) (f : Nat) (args : List Value) (w : World) (φ : Value → World → Prop) : Prop :=
  callable P f = true ∧ Calls P f args.toArray w (fun e w' => ∃ v, e = .returned v ∧ φ v w')
theorem Rets.mono {P : Program} {f : Nat} {args : List Value} {w : World} {φ ψ : Value → World → Prop} (h : Rets P f args w φ) (hh : ∀ v w', φ v w' → ψ v w') : Rets P f args w ψ :=
  ⟨h.1, h.2.mono fun _ w' ⟨v, he, hv⟩ => ⟨v, he, hh v w' hv⟩⟩
theorem run_callFunc {f : Nat} (h : callable P f = true) (args : Array Value) : (callFunc f args).run P w = .ok (.enter f args) w := by
  unfold callable at h
  cases hf : P.funcs[f]? with
  | none => simp [hf] at h
  | some fn =>
    simp only [hf, Bool.and_eq_true, Bool.not_eq_true'] at h
    have hb : fn.body.isNone = false := by cases hb : fn.body <;> simp_all
    unfold callFunc
    simp only [Sem.run_bind, run_program, Result.andThen_ok, hf, h.1, hb, Bool.false_eq_true, if_false]
    rfl
theorem r_call {f : Nat} {xs : List Operand} {tys : Array Nat} (hf : callable P f = true) :
    (execOp ρ ⟨d, .call { callee := .value (.func f), args := xs.toArray, argTypes := tys }, t, p, af, g⟩).run P w = .ok (.enter f (xs.map ρ).toArray) w ∨ ρ (.func f) ≠ .func (.func f) #[] #[] := by
  by_cases hr : ρ (.func f) = .func (.func f) #[] #[]
  · left
    simp [execOp, resolve, hr, Deferred.ofValue, invoke, run_callFunc hf]
  · exact .inr hr
theorem r_callf {f : Nat} {xs : List Operand} {tys : Array Nat} (hf : callable P f = true) :
    (execOp (ev n env) ⟨d, .call { callee := .value (.func f), args := xs.toArray, argTypes := tys }, t, p, af, g⟩).run P w = .ok (.enter f (xs.map (ev n env)).toArray) w :=
  (r_call hf).resolve_right (fun h => h rfl)
theorem r_callv {c : Operand} {f : Nat} {xs : List Operand} {tys : Array Nat} {caps : Array Value} (hc : ρ c = .func (.func f) #[] caps) (hf : callable P f = true) :
    (execOp ρ ⟨d, .call { callee := .value c, args := xs.toArray, argTypes := tys }, t, p, af, g⟩).run P w = .ok (.enter f ((xs.map ρ).toArray ++ caps)) w := by
  simp [execOp, resolve, hc, Deferred.ofValue, invoke, run_callFunc hf]
end

/-! ### The walk -/
section
variable {P : Program} {w w' : World} {n : Nat} {ds : List Deferred} {env : Env} {ops : Array Oper} {R : Option Nat} {Q : Exit → Act → World → Prop} {o : Oper} {rest : List Oper} {v : Value}

def Wnt (n : Nat) (env : Env) (ops : Array Oper) (g : Option (Nat × Bool)) : Bool :=
  match g with
  | none => true
  | some (j, b) => match ops.toList[j]? with
    | some oj => match oj.dst with
      | some d => bif Nat.blt d n then (match env d with | .bool c => c == b | _ => false) else false
      | none => false
    | none => false
theorem wnt_none : Wnt n env ops none = true := rfl
theorem wnt_y {j d : Nat} {b c : Bool} {oj : Oper} (hj : ops.toList[j]? = some oj) (hd : oj.dst = some d) (hn : Nat.blt d n = true) (he : env d = .bool c) (hc : c = b) : Wnt n env ops (some (j, b)) = true := by
  subst hc
  simp only [Wnt, hj, hd, hn, he]
  simp
theorem wnt_nt {j d : Nat} {c : Bool} {oj : Oper} (hj : ops.toList[j]? = some oj) (hd : oj.dst = some d) (hn : Nat.blt d n = true) (he : env d = .bool c) (hc : c = false) : Wnt n env ops (some (j, true)) = false := by
  subst hc
  simp only [Wnt, hj, hd, hn, he]
  simp
theorem wnt_nf {j d : Nat} {c : Bool} {oj : Oper} (hj : ops.toList[j]? = some oj) (hd : oj.dst = some d) (hn : Nat.blt d n = true) (he : env d = .bool c) (hc : c = true) : Wnt n env ops (some (j, false)) = false := by
  subst hc
  simp only [Wnt, hj, hd, hn, he]
  simp
theorem wanted_rep (n : Nat) (ds : List Deferred) (env : Env) (ops : Array Oper) (o : Oper) : Region.wanted o (yielded ops (rep n ds env).tmps) = Wnt n env ops o.guard := by
  unfold Region.wanted Wnt
  cases hg : o.guard with
  | none => rfl
  | some gb =>
    obtain ⟨j, b⟩ := gb
    simp only [Array.getElem?_toList]
    cases hj : ops[j]? with
    | none => simp [yielded, hj]
    | some oj =>
      cases hd : oj.dst with
      | none => simp [yielded, hj, hd]
      | some d =>
        simp only [hd]
        cases hb : Nat.blt d n with
        | true =>
          rw [yielded_rep n ds env ops j d (by simp [hj, hd]) hb]
          cases env d <;> rfl
        | false =>
          have : ¬ d < n := fun h => by rw [show Nat.blt d n = true from Nat.ble_eq_true_of_le h] at hb; cases hb
          simp [yielded, hj, hd, rep, this]

variable {d : Nat} {op : Op} {t : Nat} {p : String} {af : Array Edge} {g : Option (Nat × Bool)} {dd : Option Nat}
theorem ow_val {K : Act → World → Prop} (h : (execOp (ev n env) ⟨some d, op, t, p, af, g⟩).run P w = .ok (.value v) w') (k : K (rep n ds (upd env d v)) w') : opw P ⟨some d, op, t, p, af, g⟩ (rep n ds env) w K :=
  .inl ⟨v, w', by rw [rep_eval]; exact h, by rw [rep_put]; exact k⟩
theorem ow_val0 {K : Act → World → Prop} (h : (execOp (ev n env) ⟨none, op, t, p, af, g⟩).run P w = .ok (.value v) w') (k : K (rep n ds env) w') : opw P ⟨none, op, t, p, af, g⟩ (rep n ds env) w K :=
  .inl ⟨v, w', by rw [rep_eval]; exact h, by rw [rep_put]; exact k⟩
theorem ow_skip {K : Act → World → Prop} (h : (execOp (ev n env) ⟨none, op, t, p, af, g⟩).run P w = .ok .skip w') (k : K (rep n ds env) w') : opw P ⟨none, op, t, p, af, g⟩ (rep n ds env) w K :=
  .inr (.inl ⟨w', by rw [rep_eval]; exact h, by rw [rep_put]; exact k⟩)
theorem ow_call {K : Act → World → Prop} {f : Nat} {args : List Value} {φ : Value → World → Prop} (hc : Rets P f args w φ) (h : callable P f = true → (execOp (ev n env) ⟨dd, op, t, p, af, g⟩).run P w = .ok (.enter f args.toArray) w) (k : ∀ v w', φ v w' → K (rep n ds (updo env dd v)) w') : opw P ⟨dd, op, t, p, af, g⟩ (rep n ds env) w K :=
  .inr (.inr (.inl ⟨f, args.toArray, w, by rw [rep_eval]; exact h hc.1, hc.2.mono fun e w' he => let ⟨v, h1, h2⟩ := he; ⟨v, h1, by rw [rep_put]; exact k v w' h2⟩⟩))
structure WpS (P : Program) (ops : Array Oper) (Q : Exit → Act → World → Prop) (l : List Oper) (a : Act) (w : World) : Prop where
  out : wpS P ops Q l a w
structure WpX (P : Program) (ops : Array Oper) (S : World → Prop) (Q : Exit → Act → World → Prop) (late : List Nat) (l : List (Nat × Bool)) (a : Act) (w : World) : Prop where
  out : wpX P ops S Q late l a w
structure WpX2 (P : Program) (ops : Array Oper) (Q : Exit → Act → World → Prop) (l : List Nat) (a : Act) (w : World) : Prop where
  out : wpX2 P ops Q l a w
theorem s_op (hw : Wnt n env ops o.guard = true) (h : opw P o (rep n ds env) w (wpS P ops Q rest)) : WpS P ops Q (o :: rest) (rep n ds env) w := by
  constructor
  unfold wpS wpOne
  rw [wanted_rep, hw, if_pos rfl]
  exact h
theorem s_val (h : (execOp (ev n env) ⟨some d, op, t, p, af, g⟩).run P w = .ok (.value v) w') (hw : Wnt n env ops g = true) (k : WpS P ops Q rest (rep n ds (upd env d v)) w') : WpS P ops Q (⟨some d, op, t, p, af, g⟩ :: rest) (rep n ds env) w :=
  s_op hw (ow_val h k.out)
theorem s_val0 (h : (execOp (ev n env) ⟨none, op, t, p, af, g⟩).run P w = .ok (.value v) w') (hw : Wnt n env ops g = true) (k : WpS P ops Q rest (rep n ds env) w') : WpS P ops Q (⟨none, op, t, p, af, g⟩ :: rest) (rep n ds env) w :=
  s_op hw (ow_val0 h k.out)
theorem s_skip (h : (execOp (ev n env) ⟨none, op, t, p, af, g⟩).run P w = .ok .skip w') (hw : Wnt n env ops g = true) (k : WpS P ops Q rest (rep n ds env) w') : WpS P ops Q (⟨none, op, t, p, af, g⟩ :: rest) (rep n ds env) w :=
  s_op hw (ow_skip h k.out)
theorem s_no (hw : Wnt n env ops g = false) (k : WpS P ops Q rest (rep n ds (upd env d undef)) w) : WpS P ops Q (⟨some d, op, t, p, af, g⟩ :: rest) (rep n ds env) w := by
  constructor
  unfold wpS wpOne
  rw [wanted_rep, hw, if_neg (by simp), rep_put]
  exact k.out
theorem s_call {f : Nat} {args : List Value} {φ : Value → World → Prop} (hc : Rets P f args w φ) (h : callable P f = true → (execOp (ev n env) ⟨some d, op, t, p, af, g⟩).run P w = .ok (.enter f args.toArray) w) (hw : Wnt n env ops g = true) (k : ∀ v w', φ v w' → WpS P ops Q rest (rep n ds (upd env d v)) w') : WpS P ops Q (⟨some d, op, t, p, af, g⟩ :: rest) (rep n ds env) w :=
  s_op hw (ow_call hc h fun v w' hv => (k v w' hv).out)
theorem s_callf {f : Nat} {xs : List Operand} {tys : Array Nat} {args : List Value} {φ : Value → World → Prop} (hc : Rets P f args w φ) (ha : xs.map (ev n env) = args) (hw : Wnt n env ops g = true) (k : ∀ v w', φ v w' → WpS P ops Q rest (rep n ds (upd env d v)) w') : WpS P ops Q (⟨some d, .call { callee := .value (.func f), args := xs.toArray, argTypes := tys }, t, p, af, g⟩ :: rest) (rep n ds env) w :=
  s_call hc (fun hf => by rw [r_callf hf, ha]) hw k
theorem s_nil {K : Act → World → Prop} {a : Act} (h : K a w) : WpS P ops (Exit.then K Q) [] a w := ⟨h⟩
theorem s_nilQ {a : Act} (h : Q .normal a w) : WpS P ops Q [] a w := ⟨h⟩
theorem w_reg {id : Nat} {l : List Oper} {a : Act} (h : WpS P l.toArray Q l a w) : (Code.region id l.toArray false).wpIn (fen R) 0 P Q a w := wp_reg h.out
def NP (Q : Exit → Act → World → Prop) : Prop := ∀ c a w, ¬ Q (.panic c) a w
theorem np_then {K : Act → World → Prop} (h : NP Q) : NP (Exit.then K Q) := h
theorem np_blk {id : Nat} (h : NP Q) : NP (Exit.inBlock id Q) := h
theorem np_body {fn : Func} {φ : Value → World → Prop} : NP (bodyPost P fn (fun e w' => ∃ v, e = .returned v ∧ φ v w')) := by
  rintro c a w ⟨_, v, hv, _⟩
  cases hv
theorem w_drawn {id : Nat} {l : List Oper} {a : Act} (ord : List (Nat × Bool)) (late : List Nat) (S : World → Prop) (hm : P.follows .mixedOrders = true) (hc : chk l.toArray ord late = true) (hS : S w.drew) (h : WpX P l.toArray S Q late ord a w.drew) : (Code.region id l.toArray true).wpIn (fen R) 0 P Q a w := wp_drawn ord late S hm hc hS h.out

variable {S : World → Prop} {late : List Nat} {i : Nat} {r : List (Nat × Bool)}
theorem x_q (ho : ops.toList[i]? = some ⟨some d, op, t, p, af, g⟩) (h : ∀ w', S w' → (execOp (ev n env) ⟨some d, op, t, p, af, g⟩).run P w' = .ok (.value v) w') (hw : Wnt n env ops g = true) (k : WpX P ops S Q late r (rep n ds (upd env d v)) w) : WpX P ops S Q late ((i, false) :: r) (rep n ds env) w :=
  ⟨⟨_, v, by simpa using ho, .inl ⟨by rw [wanted_rep, hw], by rw [rep_eval]; exact h⟩, by rw [rep_put]; exact k.out⟩⟩
theorem x_qno (ho : ops.toList[i]? = some ⟨some d, op, t, p, af, g⟩) (hw : Wnt n env ops g = false) (k : WpX P ops S Q late r (rep n ds (upd env d undef)) w) : WpX P ops S Q late ((i, false) :: r) (rep n ds env) w :=
  ⟨⟨_, undef, by simpa using ho, .inr ⟨by rw [wanted_rep, hw], rfl⟩, by rw [rep_put]; exact k.out⟩⟩
theorem x_op {K : Act → World → Prop} (ho : ops.toList[i]? = some o) (hw : Wnt n env ops o.guard = true) (h : opw P o (rep n ds env) w K) : wpo P ops i K (rep n ds env) w := by
  unfold wpo
  rw [show ops[i]? = some o by simpa using ho]
  dsimp only
  rw [wanted_rep, hw, if_pos rfl]
  exact h
theorem x_val (ho : ops.toList[i]? = some ⟨some d, op, t, p, af, g⟩) (h : (execOp (ev n env) ⟨some d, op, t, p, af, g⟩).run P w = .ok (.value v) w') (hw : Wnt n env ops g = true) (hS : S w') (k : WpX P ops S Q late r (rep n ds (upd env d v)) w') : WpX P ops S Q late ((i, true) :: r) (rep n ds env) w :=
  ⟨x_op ho hw (ow_val h ⟨hS, k.out⟩)⟩
theorem x_skip (ho : ops.toList[i]? = some ⟨none, op, t, p, af, g⟩) (h : (execOp (ev n env) ⟨none, op, t, p, af, g⟩).run P w = .ok .skip w') (hw : Wnt n env ops g = true) (hS : S w') (k : WpX P ops S Q late r (rep n ds env) w') : WpX P ops S Q late ((i, true) :: r) (rep n ds env) w :=
  ⟨x_op ho hw (ow_skip h ⟨hS, k.out⟩)⟩
theorem x_callf {f : Nat} {xs : List Operand} {tys : Array Nat} {args : List Value} {φ : Value → World → Prop} (ho : ops.toList[i]? = some ⟨some d, .call { callee := .value (.func f), args := xs.toArray, argTypes := tys }, t, p, af, g⟩) (hc : Rets P f args w φ) (ha : xs.map (ev n env) = args) (hw : Wnt n env ops g = true) (k : ∀ v w', φ v w' → S w' ∧ WpX P ops S Q late r (rep n ds (upd env d v)) w') : WpX P ops S Q late ((i, true) :: r) (rep n ds env) w :=
  ⟨x_op ho hw (ow_call hc (fun hf => by rw [r_callf hf, ha]) fun v w' hv => ⟨(k v w' hv).1, (k v w' hv).2.out⟩)⟩
theorem x_late {a : Act} (h : WpX2 P ops Q late a w) : WpX P ops S Q late [] a w := ⟨h.out⟩
variable {l2 : List Nat}
theorem y_val (ho : ops.toList[i]? = some ⟨some d, op, t, p, af, g⟩) (h : (execOp (ev n env) ⟨some d, op, t, p, af, g⟩).run P w = .ok (.value v) w') (hw : Wnt n env ops g = true) (k : WpX2 P ops Q l2 (rep n ds (upd env d v)) w') : WpX2 P ops Q (i :: l2) (rep n ds env) w :=
  ⟨x_op ho hw (ow_val h k.out)⟩
theorem y_val0 (ho : ops.toList[i]? = some ⟨none, op, t, p, af, g⟩) (h : (execOp (ev n env) ⟨none, op, t, p, af, g⟩).run P w = .ok (.value v) w') (hw : Wnt n env ops g = true) (k : WpX2 P ops Q l2 (rep n ds env) w') : WpX2 P ops Q (i :: l2) (rep n ds env) w :=
  ⟨x_op ho hw (ow_val0 h k.out)⟩
theorem y_skip (ho : ops.toList[i]? = some ⟨none, op, t, p, af, g⟩) (h : (execOp (ev n env) ⟨none, op, t, p, af, g⟩).run P w = .ok .skip w') (hw : Wnt n env ops g = true) (k : WpX2 P ops Q l2 (rep n ds env) w') : WpX2 P ops Q (i :: l2) (rep n ds env) w :=
  ⟨x_op ho hw (ow_skip h k.out)⟩
theorem y_callf {f : Nat} {xs : List Operand} {tys : Array Nat} {args : List Value} {φ : Value → World → Prop} (ho : ops.toList[i]? = some ⟨some d, .call { callee := .value (.func f), args := xs.toArray, argTypes := tys }, t, p, af, g⟩) (hc : Rets P f args w φ) (ha : xs.map (ev n env) = args) (hw : Wnt n env ops g = true) (k : ∀ v w', φ v w' → WpX2 P ops Q l2 (rep n ds (upd env d v)) w') : WpX2 P ops Q (i :: l2) (rep n ds env) w :=
  ⟨x_op ho hw (ow_call hc (fun hf => by rw [r_callf hf, ha]) fun v w' hv => (k v w' hv).out)⟩
theorem y_nilQ {a : Act} (h : Q .normal a w) : WpX2 P ops Q [] a w := ⟨h⟩
theorem y_nil {K : Act → World → Prop} {a : Act} (h : K a w) : WpX2 P ops (Exit.then K Q) [] a w := ⟨h⟩

/-! ### Control -/
variable {a : Act} {K : Act → World → Prop}
theorem c_cond {c : Operand} {x y : Code} {b : Bool} (hc : ev n env c = .bool b) (ht : b = true → x.wpIn (fen R) 0 P Q (rep n ds env) w) (hf : b = false → y.wpIn (fen R) 0 P Q (rep n ds env) w) : (Code.cond c x y).wpIn (fen R) 0 P Q (rep n ds env) w :=
  wpIn_cond_split (by rw [rep_eval]; exact hc) ht hf
theorem c_true {c : Operand} {x y : Code} {b : Bool} (hc : ev n env c = .bool b) (hb : b = true) (h : x.wpIn (fen R) 0 P Q (rep n ds env) w) : (Code.cond c x y).wpIn (fen R) 0 P Q (rep n ds env) w := wpIn_cond_true (by rw [rep_eval, hc, hb]) h
theorem c_false {c : Operand} {x y : Code} {b : Bool} (hc : ev n env c = .bool b) (hb : b = false) (h : y.wpIn (fen R) 0 P Q (rep n ds env) w) : (Code.cond c x y).wpIn (fen R) 0 P Q (rep n ds env) w := wpIn_cond_false (by rw [rep_eval, hc, hb]) h
theorem c_dec {c : Operand} {x y : Code} {p : Prop} {dp : Decidable p} (hc : ev n env c = .bool (@decide p dp)) (ht : p → x.wpIn (fen R) 0 P Q (rep n ds env) w) (hf : ¬ p → y.wpIn (fen R) 0 P Q (rep n ds env) w) : (Code.cond c x y).wpIn (fen R) 0 P Q (rep n ds env) w :=
  c_cond hc (fun h => ht (of_decide_eq_true h)) (fun h => hf (of_decide_eq_false h))
theorem c_ndec {c : Operand} {x y : Code} {p : Prop} {dp : Decidable p} (hc : ev n env c = .bool (!@decide p dp)) (ht : ¬ p → x.wpIn (fen R) 0 P Q (rep n ds env) w) (hf : p → y.wpIn (fen R) 0 P Q (rep n ds env) w) : (Code.cond c x y).wpIn (fen R) 0 P Q (rep n ds env) w :=
  c_cond hc (fun h => ht (by simpa using h)) (fun h => hf (by simpa using h))
theorem q_then (h : K a w) : Exit.then K Q .normal a w := h
theorem q_then_ret (h : Q .ret a w) : Exit.then K Q .ret a w := h
theorem q_then_exit {id : Nat} (h : Q (.exit id) a w) : Exit.then K Q (.exit id) a w := h
theorem q_blk {id : Nat} (h : Q .normal a w) : Exit.inBlock id Q .normal a w := h
theorem q_blk_ret {id : Nat} (h : Q .ret a w) : Exit.inBlock id Q .ret a w := h
theorem q_blk_exit {id : Nat} (h : Q .normal a w) : Exit.inBlock id Q (.exit id) a w := by simp only [Exit.inBlock, if_true]; exact h
theorem q_blk_other {id j : Nat} (hne : (j == id) = false) (h : Q (.exit j) a w) : Exit.inBlock id Q (.exit j) a w := by
  have : j ≠ id := by simpa using hne
  simp only [Exit.inBlock, this, if_false]; exact h
theorem lp {c : Code} (I : Env → World → Prop) (μ : Env → World → Nat) (h0 : I env w)
    (round : ∀ env w, I env w → c.wpIn (fen R) 0 P (Exit.then (fun a' w' => ∃ env', a' = rep n ds env' ∧ I env' w' ∧ μ env' w' < μ env w) Q) (rep n ds env) w) : (Code.loop c).wpIn (fen R) 0 P Q (rep n ds env) w := by
  let Ex (a : Act) (w : World) : Prop := ∃ m env, a = rep n ds env ∧ I env w ∧ μ env w = m
  have hm : ∀ a w, Ex a w → ∃ m, (∃ env, a = rep n ds env ∧ I env w ∧ μ env w = m) ∧ ∀ m' env, a = rep n ds env → I env w → μ env w = m' → m ≤ m' := by
    rintro a w ⟨m, hmm⟩
    induction m using Nat.strongRecOn with
    | _ m ih =>
      by_cases hlt : ∃ m', m' < m ∧ ∃ env, a = rep n ds env ∧ I env w ∧ μ env w = m'
      · obtain ⟨m', h1, h2⟩ := hlt
        exact ih m' h1 h2
      · refine ⟨m, hmm, fun m' env h1 h2 h3 => ?_⟩
        rcases Nat.lt_or_ge m' m with h | h
        · exact absurd ⟨m', h, env, h1, h2, h3⟩ hlt
        · exact h
  let μ' : Act → World → Nat := fun a w => open Classical in if h : Ex a w then Classical.choose (hm a w h) else 0
  have hμ : ∀ a w (h : Ex a w), (∃ env, a = rep n ds env ∧ I env w ∧ μ env w = μ' a w) ∧ ∀ m' env, a = rep n ds env → I env w → μ env w = m' → μ' a w ≤ m' := by
    intro a w h
    have := Classical.choose_spec (hm a w h)
    simp only [μ', h, dite_true]
    exact this
  refine wpIn_loop Ex μ' ⟨_, env, rfl, h0, rfl⟩ ?_
  intro a w hx
  obtain ⟨⟨e0, rfl, hI, he⟩, _⟩ := hμ a w hx
  refine wpIn_mono (round e0 w hI) ?_
  intro x a1 w1 h
  cases x with
  | normal =>
    obtain ⟨e1, rfl, hI1, hlt⟩ := h
    have hx1 : Ex (rep n ds e1) w1 := ⟨_, e1, rfl, hI1, rfl⟩
    exact ⟨hx1, Nat.lt_of_le_of_lt ((hμ _ _ hx1).2 _ e1 rfl hI1 rfl) (by rw [← he]; exact hlt)⟩
  | _ => exact h

/-! ### Frames' slots, entry and return -/
def setL (env : Env) : List (Nat × Value) → Env
  | [] => env
  | (d, v) :: r => upd (setL env r) d v
def AllL (env : Env) : List (Nat × Value) → Prop
  | [] => True
  | (d, v) :: r => env d = v ∧ AllL env r
theorem fixL {env : Env} : ∀ {l : List (Nat × Value)}, AllL env l → env = setL env l
  | [], _ => rfl
  | (d, v) :: r, h => by
    have h1 := fixL h.2
    unfold setL
    rw [← h1, upd_self h.1]
theorem rets_of {f : Nat} {fn : Func} {c : Code} {args : List Value} {φ : Value → World → Prop} (hf : P.funcs[f]? = some fn) (hcl : callable P f = true) (hb : fn.body = some c) (hn : fn.ntmps = n) (hargs : args.length ≤ n)
    (h : c.wpIn (fen none) 0 P (bodyPost P fn (fun e w' => ∃ v, e = .returned v ∧ φ v w')) (rep n [] (ini args)) w) : Rets P f args w φ := by
  refine ⟨hcl, calls_of_wp hf hb ((wpIn_wide (n := 0)).1 ?_)⟩
  have : ({ tmps := args.toArray ++ Array.replicate (fn.ntmps - args.toArray.size) undef, defers := [] } : Act) = rep n [] (ini args) := by
    unfold rep
    congr 1
    have hini : ∀ (l : List Value) (i : Nat), ini l i = l.getD i undef := by
      intro l
      induction l with
      | nil => intro i; rfl
      | cons v r ih => intro i; cases i with
        | zero => rfl
        | succ k => show ini r k = _; simpa using ih k
    apply Array.ext
    · simp [hn]; omega
    · intro i h1 h2
      simp only [Array.getElem_ofFn, hini]
      simp only [Array.getElem_append]
      split
      · rename_i hlt
        have hlt' : i < args.length := by simpa using hlt
        simp [hlt']
      · rename_i hlt
        have hlt' : ¬ i < args.length := by simpa using hlt
        simp [hlt']
  rw [this]
  exact h
theorem ret_run {fn : Func} {φ : Value → World → Prop} (hr : (results fn (rep n [] env).tmps).run P w = .ok v w) (h : φ v w) : bodyPost P fn (fun e w' => ∃ v, e = .returned v ∧ φ v w') .ret (rep n [] env) w :=
  ⟨rfl, v, hr, v, rfl, h⟩
theorem end_run {fn : Func} {φ : Value → World → Prop} (hr : (results fn (rep n [] env).tmps).run P w = .ok v w) (h : φ v w) : bodyPost P fn (fun e w' => ∃ v, e = .returned v ∧ φ v w') .normal (rep n [] env) w :=
  ⟨rfl, v, hr, v, rfl, h⟩
theorem tmp_getD (n : Nat) (ds : List Deferred) (env : Env) (t : Nat) : (rep n ds env).tmps.getD t undef = ev n env (.tmp t) := by
  rw [← rep_eval]; rfl
theorem res_0 {fn : Func} (hr : fn.results = #[]) : (results fn (rep n ds env).tmps).run P w = .ok (.tuple #[]) w := by
  simp [results, hr]
theorem res_1 {fn : Func} {t : Nat} (hr : fn.results = #[.tmp t]) : (results fn (rep n ds env).tmps).run P w = .ok (ev n env (.tmp t)) w := by
  rw [← tmp_getD n ds]
  simp [results, hr]
theorem res_2 {fn : Func} {t u : Nat} (hr : fn.results = #[.tmp t, .tmp u]) : (results fn (rep n ds env).tmps).run P w = .ok (.tuple #[ev n env (.tmp t), ev n env (.tmp u)]) w := by
  rw [← tmp_getD n ds, ← tmp_getD n ds]
  simp [results, hr]
theorem ret_1 {fn : Func} {t : Nat} {φ : Value → World → Prop} (hr : fn.results = #[.tmp t]) (hv : ev n env (.tmp t) = v) (h : φ v w) : bodyPost P fn (fun e w' => ∃ v, e = .returned v ∧ φ v w') .ret (rep n [] env) w :=
  ret_run (res_1 hr) (by rw [hv]; exact h)
theorem ret_2 {fn : Func} {t u : Nat} {v1 v2 : Value} {φ : Value → World → Prop} (hr : fn.results = #[.tmp t, .tmp u]) (hv1 : ev n env (.tmp t) = v1) (hv2 : ev n env (.tmp u) = v2) (h : φ (.tuple #[v1, v2]) w) : bodyPost P fn (fun e w' => ∃ v, e = .returned v ∧ φ v w') .ret (rep n [] env) w :=
  ret_run (res_2 hr) (by rw [hv1, hv2]; exact h)
theorem ret_i {fn : Func} {t : Nat} {φ : Value → World → Prop} {k : IntKind} {x : Int} (hr : fn.results = #[.tmp t]) (hv : ev n env (.tmp t) = .int k x) (h : φ (.int k x) w) : bodyPost P fn (fun e w' => ∃ v, e = .returned v ∧ φ v w') .ret (rep n [] env) w := ret_1 hr hv h
theorem ret_b {fn : Func} {t : Nat} {φ : Value → World → Prop} {b : Bool} (hr : fn.results = #[.tmp t]) (hv : ev n env (.tmp t) = .bool b) (h : φ (.bool b) w) : bodyPost P fn (fun e w' => ∃ v, e = .returned v ∧ φ v w') .ret (rep n [] env) w := ret_1 hr hv h
theorem ret_p {fn : Func} {t : Nat} {φ : Value → World → Prop} {x : Option Addr} (hr : fn.results = #[.tmp t]) (hv : ev n env (.tmp t) = .pointer x) (h : φ (.pointer x) w) : bodyPost P fn (fun e w' => ∃ v, e = .returned v ∧ φ v w') .ret (rep n [] env) w := ret_1 hr hv h
theorem ret_s {fn : Func} {t : Nat} {φ : Value → World → Prop} {x : Option Addr} {m c : Nat} (hr : fn.results = #[.tmp t]) (hv : ev n env (.tmp t) = .slice x m c) (h : φ (.slice x m c) w) : bodyPost P fn (fun e w' => ∃ v, e = .returned v ∧ φ v w') .ret (rep n [] env) w := ret_1 hr hv h
theorem ret_m {fn : Func} {t : Nat} {φ : Value → World → Prop} {x : Option Nat} (hr : fn.results = #[.tmp t]) (hv : ev n env (.tmp t) = .map x) (h : φ (.map x) w) : bodyPost P fn (fun e w' => ∃ v, e = .returned v ∧ φ v w') .ret (rep n [] env) w := ret_1 hr hv h
theorem ret_if {fn : Func} {t : Nat} {φ : Value → World → Prop} {u : Nat} {x : Value} (hr : fn.results = #[.tmp t]) (hv : ev n env (.tmp t) = .iface u x) (h : φ (.iface u x) w) : bodyPost P fn (fun e w' => ∃ v, e = .returned v ∧ φ v w') .ret (rep n [] env) w := ret_1 hr hv h
theorem ret_ni {fn : Func} {t : Nat} {φ : Value → World → Prop}  (hr : fn.results = #[.tmp t]) (hv : ev n env (.tmp t) = .nilIface) (h : φ (.nilIface) w) : bodyPost P fn (fun e w' => ∃ v, e = .returned v ∧ φ v w') .ret (rep n [] env) w := ret_1 hr hv h
theorem ret_f {fn : Func} {t : Nat} {φ : Value → World → Prop} {fn1 : Fn} {x1 x2 : Array Value} (hr : fn.results = #[.tmp t]) (hv : ev n env (.tmp t) = .func fn1 x1 x2) (h : φ (.func fn1 x1 x2) w) : bodyPost P fn (fun e w' => ∃ v, e = .returned v ∧ φ v w') .ret (rep n [] env) w := ret_1 hr hv h
theorem ret_0 {fn : Func} {φ : Value → World → Prop} (hr : fn.results = #[]) (h : φ (.tuple #[]) w) : bodyPost P fn (fun e w' => ∃ v, e = .returned v ∧ φ v w') .ret (rep n [] env) w := ret_run (res_0 hr) h
theorem end_0 {fn : Func} {φ : Value → World → Prop} (hr : fn.results = #[]) (h : φ (.tuple #[]) w) : bodyPost P fn (fun e w' => ∃ v, e = .returned v ∧ φ v w') .normal (rep n [] env) w := end_run (res_0 hr) h
theorem no_panic {fn : Func} {φ : Value → World → Prop} (c : List PanicEntry) (a : Act) (w : World) : ¬ bodyPost P fn (fun e w' => ∃ v, e = .returned v ∧ φ v w') (.panic c) a w := by
  rintro ⟨_, v, hv, _⟩
  cases hv
end
end Go.Proofs.YtbicffldggcdhaaDoor
