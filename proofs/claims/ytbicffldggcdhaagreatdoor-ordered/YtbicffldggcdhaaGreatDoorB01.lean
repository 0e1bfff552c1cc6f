/-
  WRef2; LTree; WRef3; WRef4; LOp2; WRef5; WRef6; LTree2; LTree3; LMap; WErr.
-/
import Derived.Test.YtbicffldggcdhaaGreatDoorB00
import Derived.MapKept
import Derived.Test.YtbicffldggcdhaaGreatDoorRows
import Derived.ProofKit
import Derived.LaidMore
namespace Go.Proofs.YtbicffldggcdhaaGreatDoor
open Go
theorem runG01 {G K : Prop} (k : K) (h : Wrap K → G := by intro h; (repeat (first | (with_reducible first | refine wpIn_seq ?_ | refine w_reg ?_ | refine s_nil ?_ | refine s_nilQ ?_ | refine wpIn_block ?_ | refine q_then ?_ | refine q_blk ?_ | refine q_then_ret ?_ | refine q_blk_ret ?_ | refine q_then_exit ?_ | refine q_blk_exit ?_ | refine wpIn_skip ?_ | refine wpIn_ret ?_ | refine wpIn_exit ?_ | refine y_nil ?_ | refine y_nilQ ?_ | refine x_late ?_) | ((with_reducible refine q_blk_other ?_ ?_); exact rfl) | ((with_reducible apply c_true); exact rfl; (with_reducible exact rfl)) | ((with_reducible apply c_false); exact rfl; (with_reducible exact rfl)) | ((with_reducible apply s_no); (first | ((with_reducible apply wnt_nt); exact rfl; exact rfl; exact rfl; exact rfl; (with_reducible exact rfl)) | ((with_reducible apply wnt_nf); exact rfl; exact rfl; exact rfl; exact rfl; (with_reducible exact rfl)))) | ((with_reducible apply x_qno); exact rfl; (first | ((with_reducible apply wnt_nt); exact rfl; exact rfl; exact rfl; exact rfl; (with_reducible exact rfl)) | ((with_reducible apply wnt_nf); exact rfl; exact rfl; exact rfl; exact rfl; (with_reducible exact rfl)))) | ((first | with_reducible apply s_val | ((with_reducible apply y_val); exact rfl) | ((with_reducible apply x_q); exact rfl; intro wq hq)); (first | ((with_reducible apply r_assign_i); exact rfl) | ((with_reducible apply r_move_i); exact rfl) | ((with_reducible apply r_move_p); exact rfl) | ((with_reducible apply r_nilCheck); exact rfl) | ((with_reducible apply r_fld); exact fa_ok rfl; exact rfl) | ((with_reducible apply r_load); exact u_ok rfl; exact rfl; exact rfl; (first | exact Frm.at0 hq (by assumption) | exact Frm.at hq (by assumption) (by assumption) | (first | (with_reducible assumption) | assumption | exact at_alloc_new _ _ | (repeat (first | assumption | exact at_alloc_new _ _ | refine at_drew ?_ | refine at_alloc _ ?_)))); exact rfl) | ((with_reducible apply r_len); exact u_ok rfl; exact rfl) | ((with_reducible apply r_lss_t); exact rfl; exact rfl; omega) | ((with_reducible apply r_lss_f); exact rfl; exact rfl; omega) | ((with_reducible apply r_lss); exact rfl; exact rfl) | ((with_reducible apply r_index); exact u_ok rfl; exact s_ok rfl; exact rfl; exact rfl; omega; omega) | ((with_reducible apply r_indexarr); exact u_ok rfl; exact s_ok rfl; exact rfl; exact rfl; omega; omega) | ((with_reducible apply r_eql_t); exact rfl; exact rfl; omega) | ((with_reducible apply r_eql_f); exact rfl; exact rfl; omega) | ((with_reducible apply r_eql); exact rfl; exact rfl) | ((with_reducible apply r_add); exact rfl; exact rfl; omega; omega) | ((with_reducible apply r_boxA); exact rfl) | ((with_reducible apply r_box1); exact rfl; exact rfl) | ((with_reducible apply r_assign_b); exact rfl) | ((with_reducible apply r_move_b); exact rfl) | ((with_reducible apply r_not_t); exact rfl; (with_reducible exact rfl)) | ((with_reducible apply r_not_f); exact rfl; (with_reducible exact rfl)) | ((with_reducible apply r_not); exact rfl) | ((with_reducible apply r_pick_t); exact rfl; (with_reducible exact rfl); exact rfl) | ((with_reducible apply r_pick_f); exact rfl; (with_reducible exact rfl); exact rfl) | ((with_reducible apply r_leq_t); exact rfl; exact rfl; omega) | ((with_reducible apply r_leq_f); exact rfl; exact rfl; omega) | ((with_reducible apply r_leq); exact rfl; exact rfl) | ((with_reducible apply r_loadA); exact u_ok rfl; exact rfl; exact s_ok rfl; exact rfl; (first | exact Frm.at0 hq (by assumption) | exact Frm.at hq (by assumption) (by assumption) | (first | (with_reducible assumption) | assumption | exact at_alloc_new _ _ | (repeat (first | assumption | exact at_alloc_new _ _ | refine at_drew ?_ | refine at_alloc _ ?_)))); exact Nat.le_of_ble_eq_true rfl) | ((with_reducible apply r_geq_t); exact rfl; exact rfl; omega) | ((with_reducible apply r_geq_f); exact rfl; exact rfl; omega) | ((with_reducible apply r_geq); exact rfl; exact rfl) | ((with_reducible apply r_neq_t); exact rfl; exact rfl; omega) | ((with_reducible apply r_neq_f); exact rfl; exact rfl; omega) | ((with_reducible apply r_neq); exact rfl; exact rfl) | ((with_reducible apply r_assign_p); exact rfl) | ((with_reducible apply r_assign_s); exact rfl) | ((with_reducible apply r_move_s); exact rfl)); (first | (with_reducible exact wnt_none) | ((with_reducible apply wnt_y); exact rfl; exact rfl; exact rfl; exact rfl; (with_reducible exact rfl)))))); exact h.out) : G := h ⟨k⟩

structure Nd where
  id : Int
  par : Int
  key : Int
  p0 : Int
  p1 : Int
  p2 : Int
  p3 : Int
def Nd.vals (x : Nd) : List Value := [I x.id, I x.par, I x.key, I x.p0, I x.p1, I x.p2, I x.p3]
def flat : List Nd → List Value
  | [] => []
  | x :: l => x.vals ++ flat l
theorem flat_length : ∀ l : List Nd, (flat l).length = l.length * 7
  | [] => rfl
  | x :: l => by simp [flat, flat_length l, Nd.vals]; omega
theorem flat_append : ∀ a b : List Nd, flat (a ++ b) = flat a ++ flat b
  | [], b => rfl
  | x :: a, b => by simp [flat, flat_append a b]
theorem flat_get : ∀ (l : List Nd) (i : Nat) (x : Nd), l[i]? = some x → ∀ (rest : List Value) (j : Nat), j < 7 → (flat l ++ rest)[i * 7 + j]? = x.vals[j]?
  | [], i, x, h, _, _, _ => by simp at h
  | y :: l, 0, x, h, rest, j, hj => by
    simp at h
    subst h
    simp only [flat, Nat.zero_mul, Nat.zero_add, List.append_assoc]
    exact List.getElem?_append_left (by simp [Nd.vals]; omega)
  | y :: l, i + 1, x, h, rest, j, hj => by
    have hy : y.vals.length = 7 := rfl
    simp only [flat, List.append_assoc]
    rw [List.getElem?_append_right (by rw [hy]; omega), hy, show (i + 1) * 7 + j - 7 = i * 7 + j by omega]
    exact flat_get l i x (by simpa using h) rest j hj
theorem sub_append_left : ∀ (a b : List Value) (n : Nat), n ≤ a.length → sub (a ++ b) 0 n = a.take n
  | a, b, 0, _ => by simp [sub_zero]
  | [], b, n + 1, h => by simp at h
  | x :: a, b, n + 1, h => by
    simp only [List.cons_append, sub, List.take_succ_cons]
    rw [sub_append_left a b n (by simpa using h)]
theorem sub_drop : ∀ (a b : List Value) (k n : Nat), sub (a ++ b) (a.length + k) n = sub b k n
  | [], b, k, n => by simp
  | x :: a, b, k, n => by
    simp only [List.cons_append, List.length_cons]
    rw [show a.length + 1 + k = (a.length + k) + 1 by omega]
    exact sub_drop a b k n
theorem flat_sub : ∀ (l : List Nd) (i : Nat) (x : Nd), l[i]? = some x → ∀ rest : List Value, sub (flat l ++ rest) (i * 7) 7 = x.vals
  | [], i, x, h, _ => by simp at h
  | y :: l, 0, x, h, rest => by
    simp at h
    subst h
    simp only [flat, Nat.zero_mul, List.append_assoc]
    rw [sub_append_left _ _ 7 (by simp [Nd.vals])]
    rfl
  | y :: l, i + 1, x, h, rest => by
    simp only [flat, List.append_assoc]
    rw [show (i + 1) * 7 = y.vals.length + i * 7 by simp [Nd.vals]; omega, sub_drop]
    exact flat_sub l i x (by simpa using h) rest

def at_ (id : Int) : List Nd → Option Nat
  | [] => none
  | x :: l => if x.id = id then some 0 else (at_ id l).map (· + 1)
def atI (l : List Nd) (id : Int) : Int := match at_ id l with | some i => i | none => -1
theorem at_none {id : Int} : ∀ {l : List Nd}, at_ id l = none → ∀ x ∈ l, x.id ≠ id
  | [], _, x, hx => by cases hx
  | y :: l, h, x, hx => by
    unfold at_ at h
    split at h
    · cases h
    · rename_i hy
      rcases List.mem_cons.1 hx with e | e
      · subst e; exact hy
      · exact at_none (by simpa using h) x e
theorem at_some {id : Int} : ∀ {l : List Nd} {i : Nat}, at_ id l = some i → ∃ x, l[i]? = some x ∧ x.id = id ∧ ∀ j y, j < i → l[j]? = some y → y.id ≠ id
  | [], _, h => by cases h
  | y :: l, i, h => by
    unfold at_ at h
    split at h
    · rename_i hy
      cases h
      exact ⟨y, rfl, hy, fun j _ hj => by omega⟩
    · rename_i hy
      cases hl : at_ id l with
      | none => rw [hl] at h; cases h
      | some k =>
        rw [hl] at h
        simp at h
        subst h
        obtain ⟨x, hx, he, hn⟩ := at_some hl
        refine ⟨x, by simpa using hx, he, fun j z hj hz => ?_⟩
        cases j with
        | zero => simp at hz; subst hz; exact hy
        | succ j => exact hn j z (by omega) (by simpa using hz)
end Go.Proofs.YtbicffldggcdhaaGreatDoor

namespace Go.Proofs.YtbicffldggcdhaaGreatDoor
open Go

structure Ed where
  kind : Int
  node : Int
  parent : Int
  key : Int
  prop : Int
  value : Int
def Ed.vals (e : Ed) : List Value := [I e.kind, I e.node, I e.parent, I e.key, I e.prop, I e.value]
abbrev EdV (e : Ed) : Value := .agg e.vals.toArray
def inB (n hi : Int) : Bool := decide (0 ≤ n ∧ n ≤ hi)
def wrongB (e : Ed) : Bool :=
  if e.kind = 1 ∨ e.kind = 2 then !inB e.node 1000 || (!inB e.parent 1000 || !inB e.key 1000)
  else if e.kind = 3 then !inB e.node 1000
  else if e.kind = 4 then !inB e.node 1000 || (!inB e.prop 3 || !inB e.value 1000000)
  else true

/-- Whose parent is what. -/
def fnd (id : Int) : List Nd → Option Nd
  | [] => none
  | x :: l => if x.id = id then some x else fnd id l
theorem fnd_at (id : Int) : ∀ l : List Nd, fnd id l = (at_ id l).bind (fun i => l[i]?)
  | [] => rfl
  | x :: l => by
    unfold fnd at_
    split
    · rfl
    · rw [fnd_at id l]
      cases at_ id l <;> simp
def parOf (l : List Nd) (id : Int) : Int := match fnd id l with | some x => x.par | none => 0
/-- Is a node another one, or below it, in so many steps? -/
def bel (l : List Nd) : Nat → Int → Int → Bool
  | 0, _, _ => false
  | n + 1, id, other => if id = other then true else if id = 0 then false else bel l n (parOf l id) other
def below (l : List Nd) (id other : Int) : Bool := bel l (l.length + 1) id other
def there (l : List Nd) (id : Int) : Bool := (at_ id l).isSome
def refused (l : List Nd) (e : Ed) : Nat :=
  if wrongB e then 1
  else if e.kind = 1 ∧ there l e.node then 4
  else if (e.kind = 2 ∨ e.kind = 3) ∧ e.node = 0 then 2
  else if e.kind ≠ 1 ∧ ¬ there l e.node then 3
  else if (e.kind = 1 ∨ e.kind = 2) ∧ ¬ there l e.parent then 3
  else if e.kind = 1 ∧ 32 ≤ l.length then 5
  else if e.kind = 2 ∧ below l e.parent e.node then 6
  else 0
def setProp (x : Nd) (p v : Int) : Nd :=
  if p = 0 then { x with p0 := v } else if p = 1 then { x with p1 := v } else if p = 2 then { x with p2 := v } else { x with p3 := v }
def upAt (id : Int) (f : Nd → Nd) (l : List Nd) : List Nd := l.map fun x => if x.id = id then f x else x
def applyL (l : List Nd) (e : Ed) : List Nd :=
  if refused l e ≠ 0 then l
  else if e.kind = 1 then l ++ [⟨e.node, e.parent, e.key, 0, 0, 0, 0⟩]
  else if e.kind = 2 then upAt e.node (fun x => { x with par := e.parent, key := e.key }) l
  else if e.kind = 4 then upAt e.node (fun x => setProp x e.prop e.value) l
  else l.filter fun x => !below l x.id e.node

theorem there_spec {l : List Nd} {id : Int} (h : there l id = true) : ∃ (i : Nat) (x : Nd), l[i]? = some x ∧ x.id = id ∧ atI l id = i ∧ fnd id l = some x := by
  unfold there at h
  cases hi : at_ id l with
  | none => rw [hi] at h; cases h
  | some i =>
    obtain ⟨x, hx, he, _⟩ := at_some hi
    exact ⟨i, x, hx, he, by rw [atI, hi], by rw [fnd_at, hi]; exact hx⟩
theorem there_not {l : List Nd} {id : Int} (h : there l id = false) : atI l id = -1 ∧ fnd id l = none := by
  unfold there at h
  cases hi : at_ id l with
  | none => exact ⟨by rw [atI, hi], by rw [fnd_at, hi]; rfl⟩
  | some i => rw [hi] at h; cases h
theorem there_mem {l : List Nd} {id : Int} : there l id = true ↔ ∃ x ∈ l, x.id = id := by
  constructor
  · intro h
    obtain ⟨i, x, hx, he, _⟩ := there_spec h
    exact ⟨x, List.mem_of_getElem? hx, he⟩
  · rintro ⟨x, hx, he⟩
    unfold there
    cases hi : at_ id l with
    | none => exact absurd he (at_none hi x hx)
    | some i => rfl
/-- Each stands behind its parent. -/
def Topo (par : Int → Int) : List Int → List Int → Prop
  | _, [] => True
  | seen, x :: r => (x = 0 ∨ par x ∈ seen) ∧ Topo par (x :: seen) r
/-- A tree: the root first; no number twice; and there is an order of the numbers in which each stands behind its parent. -/
structure Wf (l : List Nd) : Prop where
  root : ∃ x r, l = x :: r ∧ x.id = 0 ∧ x.par = 0 ∧ x.key = 0
  nodup : (l.map (·.id)).Nodup
  small : l.length ≤ 32
  order : ∃ o : List Int, o.Perm (l.map (·.id)) ∧ Topo (parOf l) [] o
end Go.Proofs.YtbicffldggcdhaaGreatDoor

namespace Go.Proofs.YtbicffldggcdhaaGreatDoor
open Go

theorem wrong_12 (e : Ed) (h : e.kind = 1 ∨ e.kind = 2) : wrongB e = (!decide (0 ≤ e.node ∧ e.node ≤ 1000) || (!decide (0 ≤ e.parent ∧ e.parent ≤ 1000) || !decide (0 ≤ e.key ∧ e.key ≤ 1000))) := by
  unfold wrongB; rw [if_pos h]; rfl
theorem wrong_3 (e : Ed) (h : e.kind = 3) : wrongB e = !decide (0 ≤ e.node ∧ e.node ≤ 1000) := by
  unfold wrongB; rw [if_neg (by omega), if_pos h]; rfl
theorem wrong_4 (e : Ed) (h : e.kind = 4) : wrongB e = (!decide (0 ≤ e.node ∧ e.node ≤ 1000) || (!decide (0 ≤ e.prop ∧ e.prop ≤ 3) || !decide (0 ≤ e.value ∧ e.value ≤ 1000000))) := by
  unfold wrongB; rw [if_neg (by omega), if_neg (by omega), if_pos h]; rfl
theorem wrong_0 (e : Ed) (h1 : e.kind ≠ 1) (h2 : e.kind ≠ 2) (h3 : e.kind ≠ 3) (h4 : e.kind ≠ 4) : wrongB e = true := by
  unfold wrongB; rw [if_neg (by omega), if_neg h3, if_neg h4]

end Go.Proofs.YtbicffldggcdhaaGreatDoor

namespace Go.Proofs.YtbicffldggcdhaaGreatDoor
open Go

theorem kinds_of {e : Ed} (h : wrongB e = false) : e.kind = 1 ∨ e.kind = 2 ∨ e.kind = 3 ∨ e.kind = 4 := by
  by_cases h1 : e.kind = 1
  · exact .inl h1
  by_cases h2 : e.kind = 2
  · exact .inr (.inl h2)
  by_cases h3 : e.kind = 3
  · exact .inr (.inr (.inl h3))
  by_cases h4 : e.kind = 4
  · exact .inr (.inr (.inr h4))
  rw [wrong_0 e h1 h2 h3 h4] at h
  cases h
theorem rf_wrong {l : List Nd} {e : Ed} (h : wrongB e = true) : refused l e = 1 := by unfold refused; rw [if_pos h]
theorem rf1_ex {l : List Nd} {e : Ed} (h : wrongB e = false) (k : e.kind = 1) (a : there l e.node = true) : refused l e = 4 := by simp [refused, h, k, a]
theorem rf1_par {l : List Nd} {e : Ed} (h : wrongB e = false) (k : e.kind = 1) (a : there l e.node = false) (b : there l e.parent = false) : refused l e = 3 := by simp [refused, h, k, a, b]
theorem rf1_full {l : List Nd} {e : Ed} (h : wrongB e = false) (k : e.kind = 1) (a : there l e.node = false) (b : there l e.parent = true) (c : 32 ≤ l.length) : refused l e = 5 := by simp [refused, h, k, a, b, c]
theorem rf1_ok {l : List Nd} {e : Ed} (h : wrongB e = false) (k : e.kind = 1) (a : there l e.node = false) (b : there l e.parent = true) (c : ¬ 32 ≤ l.length) : refused l e = 0 := by simp [refused, h, k, a, b, c]
theorem rf23_root {l : List Nd} {e : Ed} (h : wrongB e = false) (k : e.kind = 2 ∨ e.kind = 3) (a : e.node = 0) : refused l e = 2 := by
  have : e.kind ≠ 1 := by omega
  simp [refused, h, this, k, a]
theorem rf_node {l : List Nd} {e : Ed} (h : wrongB e = false) (k : e.kind ≠ 1) (a : e.kind = 4 ∨ e.node ≠ 0) (b : there l e.node = false) : refused l e = 3 := by
  have : ¬ ((e.kind = 2 ∨ e.kind = 3) ∧ e.node = 0) := by omega
  simp [refused, h, k, this, b]
theorem rf2_par {l : List Nd} {e : Ed} (h : wrongB e = false) (k : e.kind = 2) (a : e.node ≠ 0) (b : there l e.node = true) (c : there l e.parent = false) : refused l e = 3 := by simp [refused, h, k, a, b, c]
theorem rf2_cyc {l : List Nd} {e : Ed} (h : wrongB e = false) (k : e.kind = 2) (a : e.node ≠ 0) (b : there l e.node = true) (c : there l e.parent = true) (d : below l e.parent e.node = true) : refused l e = 6 := by simp [refused, h, k, a, b, c, d]
theorem rf2_ok {l : List Nd} {e : Ed} (h : wrongB e = false) (k : e.kind = 2) (a : e.node ≠ 0) (b : there l e.node = true) (c : there l e.parent = true) (d : below l e.parent e.node = false) : refused l e = 0 := by simp [refused, h, k, a, b, c, d]
theorem rf34_ok {l : List Nd} {e : Ed} (h : wrongB e = false) (k : e.kind = 3 ∨ e.kind = 4) (a : e.kind = 4 ∨ e.node ≠ 0) (b : there l e.node = true) : refused l e = 0 := by
  have h1 : e.kind ≠ 1 := by omega
  have h2 : e.kind ≠ 2 := by omega
  have h3 : ¬ (e.kind = 3 ∧ e.node = 0) := by omega
  simp [refused, h, h1, h2, h3, b]
end Go.Proofs.YtbicffldggcdhaaGreatDoor

namespace Go.Proofs.YtbicffldggcdhaaGreatDoor
open Go

theorem next_le (need cap : Nat) (h : cap < need) : Builtin.nextslicecap need cap ≤ 2 * need := by
  unfold Builtin.nextslicecap
  split
  · omega
  · split
    · omega
    · rename_i h1 h2
      have g : ∀ (k c : Nat), c ≤ 2 * need → 256 ≤ c → Builtin.growBy need k c ≤ 2 * need := by
        intro k
        induction k with
        | zero => intro c hc _; exact hc
        | succ k ih =>
          intro c hc h256
          unfold Builtin.growBy
          split
          · exact hc
          · rename_i hlt
            refine ih _ ?_ (by omega)
            omega
      exact g 4 cap (by omega) (by omega)

/-- A block that a slice's value lies in. -/
def InV (v : Value) (b : Nat) : Prop := ∃ off l c, v = .slice (some ⟨b, off, none⟩) l c
/-- A slice that owns its row from the row's head on: its cells, and spare room behind. -/
def Row (w : World) (v : Value) (e sz n : Nat) (pre : List Value) : Prop :=
  (v = .slice none 0 0 ∧ n = 0 ∧ pre = []) ∨
  ∃ b cap rest, v = .slice (some ⟨b, 0, none⟩) n cap ∧ At w b (cel (pre ++ rest) e) ∧ pre.length = n * sz ∧ n * sz + rest.length = cap * sz ∧ n ≤ cap

theorem sub_length : ∀ (l : List Value) (k n : Nat), k + n ≤ l.length → (sub l k n).length = n
  | l, k, 0, _ => by rw [sub_zero]; rfl
  | l, k, n + 1, h => by
    have hlt : k < l.length := by omega
    rw [sub_succ l k n _ (List.getElem?_eq_getElem hlt), List.length_cons, sub_length l (k + 1) n (by omega)]
theorem sub_all (l : List Value) : sub l 0 l.length = l := by
  induction l with
  | nil => rfl
  | cons x l ih => simp only [List.length_cons, sub]; rw [ih]
theorem sub_all' {l : List Value} {n : Nat} (h : l.length = n) : sub l 0 n = l := by rw [← h]; exact sub_all l
theorem sub_left : ∀ (a b : List Value), sub (a ++ b) 0 a.length = a
  | [], b => by simp [sub_zero]
  | x :: a, b => by simp only [List.cons_append, List.length_cons, sub]; rw [sub_left a b]
theorem put_right : ∀ (a b vs : List Value), put (a ++ b) a.length vs = a ++ put b 0 vs
  | [], b, vs => rfl
  | x :: a, b, vs => by simp only [List.cons_append, List.length_cons, put]; rw [put_right a b vs]
theorem put_head : ∀ (b vs : List Value), vs.length ≤ b.length → put b 0 vs = vs ++ b.drop vs.length
  | b, [], _ => by simp [put_nil]
  | [], v :: vs, h => by simp at h
  | x :: b, v :: vs, h => by
    simp only [put, List.cons_append, List.length_cons, List.drop_succ_cons]
    rw [put_head b vs (by simpa using h)]

section
variable {P : Program} {w : World}
theorem run_lenOf {a : Option Addr} {m c : Nat} : (Builtin.lenOf (.slice a m c)).run P w = .ok m w := rfl
theorem run_typeInfo {t : Nat} {i : TypeInfo} (h : P.info? t = some i) : (typeInfo t).run P w = .ok i w := by simp [typeInfo, h]

theorem run_append2 {sT xT ty e sz by' n m : Nat} {z v : Value} {D : TypeDesc} {pre X : List Value} {bx ox cx tx : Nat} {k : Nat × Nat}
    (hu : P.underlying sT = some (.slice e)) (hx : P.underlying xT = some D) (hD : ∀ kk, D ≠ .int kk) (hs : szOf P e = some sz) (hb : byOf P e = some by') (hz : zrOf P e = some z) (hzc : z.cells.size = sz)
    (hrow : Row w v e sz n pre) (hX : At w bx (.cells X.toArray tx k)) (hsub : ox + m * sz ≤ X.length) (hone : ∀ u ∈ sub X ox (m * sz), one u = true) (hby : 0 < by') (hcap : ∀ cap, cap < n + m → Builtin.nextslicecap (n + m) cap * by' ≤ 2 ^ 48) :
    ∃ v' w', (Builtin.append_ #[sT, xT] ty #[v, .slice (some ⟨bx, ox, none⟩) m cx]).run P w = .ok v' w' ∧ Row w' v' e sz (n + m) (pre ++ sub X ox (m * sz)) ∧ Frm (InV v) w w' ∧ (∀ b, InV v' b → InV v b ∨ w.heap.size ≤ b) ∧ ((Frm0 w w' ∧ ∀ b, InV v' b → w.heap.size ≤ b) ∨ ∃ b cap, v = .slice (some ⟨b, 0, none⟩) n cap ∧ v' = .slice (some ⟨b, 0, none⟩) (n + m) cap) := by
  obtain ⟨i, hi⟩ : ∃ i, P.info? e = some i := by
    cases h : P.info? e with
    | none => simp [szOf, h] at hs
    | some i => exact ⟨i, rfl⟩
  have hib : i.bytes = by' := by simpa [byOf, hi] using hb
  have hxl := sub_length X ox (m * sz) hsub
  have hD' : (match D with | .int _ => true | _ => false) = false := by cases D <;> first | rfl | exact absurd rfl (hD _)
  have hfc : ∀ w' : World, At w' bx (.cells X.toArray tx k) → (Builtin.firstCells sz m (.slice (some ⟨bx, ox, none⟩) m cx)).run P w' = .ok (sub X ox (m * sz)).toArray w' := fun w' h => run_loadCells_at h hsub
  have hnx : ∀ cap, cap < n + m → ¬ (Builtin.nextslicecap (n + m) cap * i.bytes > 2 ^ 48) := fun cap hc => by
    rw [hib]
    have := hcap cap hc
    omega
  have hb0 : i.bytes ≠ 0 := by omega
  have grow : ∀ (base : Option Addr) (cap : Nat), v = .slice base n cap → ¬ n + m ≤ cap → pre.length = n * sz → (Builtin.firstCells sz n v).run P w.drew = .ok pre.toArray w.drew →
      ∃ v' w', (Builtin.append_ #[sT, xT] ty #[v, .slice (some ⟨bx, ox, none⟩) m cx]).run P w = .ok v' w' ∧ Row w' v' e sz (n + m) (pre ++ sub X ox (m * sz)) ∧ Frm (InV v) w w' ∧ (∀ b, InV v' b → InV v b ∨ w.heap.size ≤ b) ∧ ((Frm0 w w' ∧ ∀ b, InV v' b → w.heap.size ≤ b) ∨ ∃ b cap, v = .slice (some ⟨b, 0, none⟩) n cap ∧ v' = .slice (some ⟨b, 0, none⟩) (n + m) cap) := by
    intro base cap hv hfit hpl hold
    have hcut : ∃ cc, (Question.appendCap (n + m) cap e).cut (w.tape w.drawn (Question.appendCap (n + m) cap e)) = cc ∧ n + m ≤ cc := ⟨_, rfl, by simp only [Question.cut]; omega⟩
    obtain ⟨cc, hcc, hle⟩ := hcut
    have hdr : At w.drew bx (.cells X.toArray tx k) := hX
    refine ⟨.slice (some ⟨w.heap.size, 0, none⟩) (n + m) cc, w.drew.alloc (cel (pre ++ sub X ox (m * sz) ++ (Builtin.zeroCells z.cells (cc - (n + m))).toList) e), ?_, ?_, ?_, ?_, .inl ⟨(Frm.of_drew w).alloc _, ?_⟩⟩
    · subst hv
      have hfo : Question.forced (.appendCap (n + m) cap e) = false := rfl
      simp [Builtin.append_, run_underlying hu, run_underlying hx, run_size hs, run_lenOf, hfit, run_typeInfo hi, hnx cap (by omega), hb0, hfo, hcc]
      rw [hold]
      simp only [Result.andThen_ok]
      rw [hfc _ hdr]
      simp only [Result.andThen_ok]
      rw [run_zero hz]
      have earr : pre.toArray ++ ((sub X ox (m * sz)).toArray ++ Builtin.zeroCells z.cells (cc - (n + m))) = (pre ++ (sub X ox (m * sz) ++ (Builtin.zeroCells z.cells (cc - (n + m))).toList)).toArray := by
        apply Array.ext'
        simp
      simp only [Result.andThen_ok, newRow, Sem.run_bind, run_newObj, Sem.run_pure, earr]
      rfl
    · refine .inr ⟨w.heap.size, cc, (Builtin.zeroCells z.cells (cc - (n + m))).toList, rfl, at_alloc_new w.drew _, ?_, ?_, hle⟩
      · rw [List.length_append, hpl, hxl, Nat.add_mul]
      · have : (Builtin.zeroCells z.cells (cc - (n + m))).toList.length = (cc - (n + m)) * sz := by simp [Builtin.zeroCells, hzc]
        rw [this, ← Nat.add_mul]
        congr 1
        omega
    · exact (Frm.of_drew w).alloc _
    · rintro b' ⟨off, l', c', he⟩
      cases he
      exact .inr (Nat.le_refl _)
    · rintro b' ⟨off, l', c', he⟩
      cases he
      exact Nat.le_refl _
  rcases hrow with ⟨rfl, rfl, rfl⟩ | ⟨b, cap, rest, rfl, hA, hpl, hroom, hnc⟩
  · by_cases hm : m = 0
    · subst hm
      refine ⟨.slice none 0 0, w, ?_, .inl ⟨rfl, rfl, by simp [sub_zero]⟩, Frm.refl _ _, fun b h => .inl h, .inl ⟨Frm.refl _ _, fun b h => by obtain ⟨_, _, _, h⟩ := h; cases h⟩⟩
      have h0 := hfc w hX
      simp only [Nat.zero_mul, sub_zero] at h0
      simp [Builtin.append_, run_underlying hu, run_underlying hx, run_size hs, run_lenOf, h0]
    · exact grow none 0 rfl (by omega) (by simp) rfl
  · by_cases hfit : n + m ≤ cap
    · refine ⟨.slice (some ⟨b, 0, none⟩) (n + m) cap, setB w b (cel (put (pre ++ rest) (n * sz) (sub X ox (m * sz))) e), ?_, ?_, ?_, ?_, .inr ⟨b, cap, rfl, rfl⟩⟩
      · have hst := run_storeCells_at (P := P) (off := n * sz) (sub X ox (m * sz)) 0 w (pre ++ rest) hA (by
          rw [hxl, List.length_append, hpl, Nat.add_zero, hroom, ← Nat.add_mul]; exact Nat.mul_le_mul_right _ hfit) hone
        simp only [Nat.add_zero] at hst
        simp [Builtin.append_, run_underlying hu, run_underlying hx, run_size hs, run_lenOf, hfit, hfc w hX, add_none, hst]
      · have hle : (sub X ox (m * sz)).length ≤ rest.length := by
          have := Nat.mul_le_mul_right sz hfit
          rw [Nat.add_mul] at this
          omega
        refine .inr ⟨b, cap, rest.drop (sub X ox (m * sz)).length, rfl, ?_, ?_, ?_, hfit⟩
        · have e1 : put (pre ++ rest) (n * sz) (sub X ox (m * sz)) = pre ++ sub X ox (m * sz) ++ rest.drop (sub X ox (m * sz)).length := by
            rw [← hpl, put_right, put_head _ _ hle, List.append_assoc]
          rw [e1]
          exact at_setB _ hA
        · rw [List.length_append, hpl, hxl, Nat.add_mul]
        · rw [List.length_drop, hxl, Nat.add_mul]
          omega
      · exact (Frm.refl _ w).setB (.inl ⟨0, n, cap, rfl⟩) _
      · rintro b' ⟨off, l', c', he⟩
        cases he
        exact .inl ⟨0, n, cap, rfl⟩
    · have hold : (Builtin.firstCells sz n (.slice (some ⟨b, 0, none⟩) n cap)).run P w.drew = .ok pre.toArray w.drew := by
        have h1 := run_loadCells_at (P := P) (w := w.drew) (off := 0) (n := n * sz) (k := (0, 0)) hA (by rw [List.length_append]; omega)
        rw [← hpl, sub_left] at h1
        simp only [Builtin.firstCells]
        rw [← hpl]
        exact h1
      exact grow _ cap rfl hfit hpl hold
theorem run_append {sT xT ty e sz by' n m : Nat} {z v : Value} {D : TypeDesc} {pre X : List Value} {bx ox cx tx : Nat} {k : Nat × Nat}
    (hu : P.underlying sT = some (.slice e)) (hx : P.underlying xT = some D) (hD : ∀ kk, D ≠ .int kk) (hs : szOf P e = some sz) (hb : byOf P e = some by') (hz : zrOf P e = some z) (hzc : z.cells.size = sz)
    (hrow : Row w v e sz n pre) (hX : At w bx (.cells X.toArray tx k)) (hsub : ox + m * sz ≤ X.length) (hone : ∀ u ∈ sub X ox (m * sz), one u = true) (hby : 0 < by') (hcap : 2 * (n + m) * by' ≤ 2 ^ 48) :
    ∃ v' w', (Builtin.append_ #[sT, xT] ty #[v, .slice (some ⟨bx, ox, none⟩) m cx]).run P w = .ok v' w' ∧ Row w' v' e sz (n + m) (pre ++ sub X ox (m * sz)) ∧ Frm (InV v) w w' ∧ ∀ b, InV v' b → InV v b ∨ w.heap.size ≤ b := by
  obtain ⟨v', w', h1, h2, h3, h4, _⟩ := run_append2 (ty := ty) (cx := cx) hu hx hD hs hb hz hzc hrow hX hsub hone hby (fun cap hc => Nat.le_trans (Nat.mul_le_mul_right _ (next_le (n + m) cap hc)) hcap)
  exact ⟨v', w', h1, h2, h3, h4⟩
end
section
variable {P : Program} {w : World} {ρ : Operand → Value} {d : Option Nat} {t : Nat} {p : String} {af : Array Edge} {g : Option (Nat × Bool)}
theorem r_remE {ty ty2 : Nat} {x y : Operand} {k : IntKind} {a b : Int} (hx : ρ x = .int k a) (hy : ρ y = .int k b) (ha : 0 ≤ a) (hb : 0 < b) :
    (execOp ρ ⟨d, .binOp .rem ty x y ty2, t, p, af, g⟩).run P w = .ok (.value (.int k (a % b))) w := by
  rw [r_rem hx hy (by omega), Int.tmod_eq_emod_of_nonneg ha]
theorem r_loadV {ty : Nat} {x : Operand} {b off m : Nat} {D : TypeDesc} {l vs : List Value} {e : Nat} {k : Nat × Nat} (hu : P.underlying ty = some D) (ha : isAggD D = true) (hz : szOf P ty = some m) (hx : ρ x = .pointer (some ⟨b, off, none⟩)) (hb : At w b (.cells l.toArray e k)) (hl : off + m ≤ l.length) (hv : sub l off m = vs) :
    (execOp ρ ⟨d, .load ty x, t, p, af, g⟩).run P w = .ok (.value (.agg vs.toArray)) w := by
  rw [← hv]
  exact r_loadA hu ha hz hx hb hl
theorem r_store_i {ty : Nat} {x y : Operand} {b off : Nat} {l : List Value} {e : Nat} {k : IntKind} {a : Int} (hz : szOf P ty = some 1) (hx : ρ x = .pointer (some ⟨b, off, none⟩)) (hy : ρ y = .int k a) (hb : At w b (cel l e)) (hl : off < l.length) : (execOp ρ ⟨d, .store ty x y, t, p, af, g⟩).run P w = .ok .skip (setB w b (cel (l.set off (.int k a)) e)) := r_store hz hx hy rfl hb hl
theorem r_store_b {ty : Nat} {x y : Operand} {b off : Nat} {l : List Value} {e : Nat} {c : Bool} (hz : szOf P ty = some 1) (hx : ρ x = .pointer (some ⟨b, off, none⟩)) (hy : ρ y = .bool c) (hb : At w b (cel l e)) (hl : off < l.length) : (execOp ρ ⟨d, .store ty x y, t, p, af, g⟩).run P w = .ok .skip (setB w b (cel (l.set off (.bool c)) e)) := r_store hz hx hy rfl hb hl
theorem r_store_s {ty : Nat} {x y : Operand} {b off : Nat} {l : List Value} {e : Nat} {a : Option Addr} {m c : Nat} (hz : szOf P ty = some 1) (hx : ρ x = .pointer (some ⟨b, off, none⟩)) (hy : ρ y = .slice a m c) (hb : At w b (cel l e)) (hl : off < l.length) : (execOp ρ ⟨d, .store ty x y, t, p, af, g⟩).run P w = .ok .skip (setB w b (cel (l.set off (.slice a m c)) e)) := r_store hz hx hy rfl hb hl
end
end Go.Proofs.YtbicffldggcdhaaGreatDoor

namespace Go.Proofs.YtbicffldggcdhaaGreatDoor
open Go

section
variable {P : Program} {w w' : World} {ρ : Operand → Value} {d : Option Nat} {t : Nat} {p : String} {af : Array Edge} {g : Option (Nat × Bool)}
theorem r_app {x y : Operand} {sT xT : Nat} {v u v' : Value} (hx : ρ x = v) (hy : ρ y = u) (h : (Builtin.append_ #[sT, xT] t #[v, u]).run P w = .ok v' w') :
    (execOp ρ ⟨d, .call { callee := .builtin .append, args := #[x, y], argTypes := #[sT, xT] }, t, p, af, g⟩).run P w = .ok (.value v') w' := by
  simp [execOp, resolve, invoke, builtin, hx, hy, h]
end

theorem upAt_set {id : Int} {f : Nd → Nd} : ∀ {l : List Nd} {i : Nat} {x : Nd}, (l.map (·.id)).Nodup → l[i]? = some x → x.id = id → upAt id f l = l.set i (f x)
  | [], i, x, _, h, _ => by simp at h
  | y :: l, 0, x, hn, h, he => by
    simp at h
    subst h
    simp only [List.map_cons, List.nodup_cons] at hn
    simp only [upAt, List.map_cons, he, if_true, List.set_cons_zero, List.cons.injEq, true_and]
    have : ∀ z ∈ l, (if z.id = id then f z else z) = z := fun z hz => by
      rw [if_neg]
      intro e
      exact hn.1 (by rw [he, ← e]; exact List.mem_map.2 ⟨z, hz, rfl⟩)
    rw [List.map_congr_left this]
    simp
  | y :: l, i + 1, x, hn, h, he => by
    simp only [List.map_cons, List.nodup_cons] at hn
    have hx : x ∈ l := List.mem_of_getElem? (by simpa using h)
    have hy : y.id ≠ id := fun e => hn.1 (by rw [e, ← he]; exact List.mem_map.2 ⟨x, hx, rfl⟩)
    simp only [upAt, List.map_cons, hy, if_false, List.set_cons_succ]
    congr 1
    exact upAt_set hn.2 (by simpa using h) he
theorem flat_one (l : List Nd) : ∀ u ∈ flat l, one u = true := by
  induction l with
  | nil => intro u h; cases h
  | cons x l ih =>
    intro u h
    rcases List.mem_append.1 h with h | h
    · simp only [Nd.vals, List.mem_cons, List.not_mem_nil, or_false] at h
      rcases h with h | h | h | h | h | h | h <;> subst h <;> rfl
    · exact ih u h

theorem bld_node0 (w : World) : (Instr.build 90 [].toArray).run Tryz.prog w = .ok (.agg (Nd.vals ⟨0, 0, 0, 0, 0, 0, 0⟩).toArray) w := by kernel_rfl
theorem bld_node (a b c : Int) (w : World) : (Instr.build 90 [(0, I a), (1, I b), (2, I c)].toArray).run Tryz.prog w = .ok (.agg (Nd.vals ⟨a, b, c, 0, 0, 0, 0⟩).toArray) w := by kernel_rfl
theorem bs_node (x : Nd) (w : World) : (Instr.buildSlice 154 1 [(0, .agg x.vals.toArray)].toArray).run Tryz.prog w = .ok (.slice (some ⟨w.heap.size, 0, none⟩) 1 1) (w.alloc (cel x.vals 90)) := by kernel_rfl

def root0 : Nd := ⟨0, 0, 0, 0, 0, 0, 0⟩
theorem append_node {w : World} {v : Value} {n m bx ox cx tx ty : Nat} {k : Nat × Nat} {pre X : List Value} (hrow : Row w v 90 7 n pre) (hX : At w bx (.cells X.toArray tx k)) (hsub : ox + m * 7 ≤ X.length) (hone : ∀ u ∈ sub X ox (m * 7), one u = true) (hcap : n + m < 2000000) :
    ∃ v' w', (Builtin.append_ #[154, 154] ty #[v, .slice (some ⟨bx, ox, none⟩) m cx]).run Tryz.prog w = .ok v' w' ∧ Row w' v' 90 7 (n + m) (pre ++ sub X ox (m * 7)) ∧ Frm (InV v) w w' ∧ ∀ b, InV v' b → InV v b ∨ w.heap.size ≤ b :=
  run_append (sz := 7) (by' := 56) (u_ok rfl) (u_ok rfl) (fun kk h => by cases h) (s_ok rfl) (b_ok rfl) (z_ok rfl) rfl hrow hX hsub hone (by omega) (by omega)

end Go.Proofs.YtbicffldggcdhaaGreatDoor

namespace Go.Proofs.YtbicffldggcdhaaGreatDoor
open Go

theorem in_of {n hi : Int} (h : (!decide (0 ≤ n ∧ n ≤ hi)) = false) : 0 ≤ n ∧ n ≤ hi := by simpa using h
theorem prop_of {e : Ed} (h : wrongB e = false) (k : e.kind = 4) : 0 ≤ e.prop ∧ e.prop ≤ 3 := by
  rw [wrong_4 e k] at h
  simp only [Bool.or_eq_false_iff] at h
  exact in_of h.2.1
theorem rf0_wrong {l : List Nd} {e : Ed} (h : refused l e = 0) : wrongB e = false := by
  cases hw : wrongB e with
  | false => rfl
  | true => rw [rf_wrong hw] at h; cases h
theorem rf0_node {l : List Nd} {e : Ed} (h : refused l e = 0) (k : e.kind ≠ 1) : there l e.node = true ∧ (e.kind = 4 ∨ e.node ≠ 0) := by
  have hw := rf0_wrong h
  have hk := kinds_of hw
  by_cases z : e.kind = 4 ∨ e.node ≠ 0
  · cases a : there l e.node with
    | true => exact ⟨rfl, z⟩
    | false => rw [rf_node hw k z a] at h; cases h
  · rw [rf23_root hw (by omega) (by omega)] at h; cases h

end Go.Proofs.YtbicffldggcdhaaGreatDoor

namespace Go.Proofs.YtbicffldggcdhaaGreatDoor
open Go

theorem topo_sub {par : Int → Int} : ∀ {r seen seen' : List Int}, (∀ x ∈ seen, x ∈ seen') → Topo par seen r → Topo par seen' r
  | [], _, _, _, _ => trivial
  | x :: r, seen, seen', hs, h => ⟨h.1.imp id (hs _), topo_sub (fun y hy => by
      rcases List.mem_cons.1 hy with e | e
      · exact e ▸ List.mem_cons_self
      · exact List.mem_cons_of_mem _ (hs y e)) h.2⟩
theorem topo_append {par : Int → Int} : ∀ {a b seen : List Int}, Topo par seen a → Topo par (a ++ seen) b → Topo par seen (a ++ b)
  | [], _, _, _, h => h
  | x :: a, b, seen, h, k => ⟨h.1, topo_append h.2 (topo_sub (fun y hy => by
      simp only [List.cons_append, List.mem_cons, List.mem_append] at hy ⊢
      rcases hy with e | e | e
      · exact .inr (.inl e)
      · exact .inl e
      · exact .inr (.inr e)) k)⟩
/-- Those of a kind, each of whose parents is of it or else seen already. -/
theorem topo_filter {par par' : Int → Int} {p : Int → Bool} : ∀ {r seen seen' : List Int}, (∀ x ∈ r, p x = true → x ≠ 0 → (par' x = par x ∧ p (par x) = true) ∨ par' x ∈ seen') → (∀ x ∈ seen, p x = true → x ∈ seen') → Topo par seen r → Topo par' seen' (r.filter p)
  | [], _, _, _, _, _ => trivial
  | x :: r, seen, seen', hp, hs, h => by
    by_cases hx : p x = true
    · rw [List.filter_cons_of_pos hx]
      refine ⟨?_, topo_filter (seen := x :: seen) (fun y hy h1 h2 => (hp y (List.mem_cons_of_mem _ hy) h1 h2).imp id (List.mem_cons_of_mem _)) (fun y hy h1 => ?_) h.2⟩
      · by_cases h0 : x = 0
        · exact .inl h0
        · rcases hp x List.mem_cons_self hx h0 with ⟨e, h1⟩ | h1
          · rcases h.1 with h2 | h2
            · exact absurd h2 h0
            · exact .inr (e ▸ hs _ h2 h1)
          · exact .inr h1
      · rcases List.mem_cons.1 hy with e | e
        · exact e ▸ List.mem_cons_self
        · exact List.mem_cons_of_mem _ (hs y e h1)
    · rw [List.filter_cons_of_neg hx]
      refine topo_filter (seen := x :: seen) (fun y hy => hp y (List.mem_cons_of_mem _ hy)) (fun y hy h1 => ?_) h.2
      rcases List.mem_cons.1 hy with e | e
      · exact absurd (e ▸ h1) hx
      · exact hs y e h1

theorem bel_root_mono {l : List Nd} : ∀ {n m : Nat} {id : Int}, n ≤ m → bel l n id 0 = true → bel l m id 0 = true
  | 0, _, _, _, h => by cases h
  | n + 1, 0, _, hle, _ => by omega
  | n + 1, m + 1, id, hle, h => by
    unfold bel at h ⊢
    by_cases h0 : id = 0
    · rw [if_pos h0]
    · rw [if_neg h0, if_neg h0] at h ⊢
      exact bel_root_mono (by omega) h
/-- Who reaches the root in n steps needs no more fuel. -/
theorem bel_stable {l : List Nd} {other : Int} : ∀ {n m : Nat} {id : Int}, n ≤ m → bel l n id 0 = true → bel l m id other = bel l n id other
  | 0, _, _, _, h => by cases h
  | n + 1, 0, _, hle, _ => by omega
  | n + 1, m + 1, id, hle, h => by
    unfold bel at h ⊢
    by_cases h0 : id = 0
    · rw [if_pos h0, if_pos h0]
    · rw [if_neg h0, if_neg h0] at h
      rw [if_neg h0, if_neg h0, bel_stable (by omega) h]
theorem topo_reach {l : List Nd} : ∀ {r seen : List Int}, Topo (parOf l) seen r → (∀ x ∈ seen, bel l seen.length x 0 = true) → ∀ x ∈ r ++ seen, bel l (r.length + seen.length) x 0 = true
  | [], seen, _, hs, x, hx => by simpa using hs x (by simpa using hx)
  | y :: r, seen, h, hs, x, hx => by
    have h1 : ∀ z ∈ y :: seen, bel l (y :: seen).length z 0 = true := fun z hz => by
      rcases List.mem_cons.1 hz with e | e
      · subst e
        rw [List.length_cons, bel]
        by_cases h0 : z = 0
        · rw [if_pos h0]
        · rw [if_neg h0, if_neg h0]
          exact hs _ (h.1.resolve_left h0)
      · exact bel_root_mono (by simp) (hs z e)
    have := topo_reach h.2 h1 x (by
      simp only [List.cons_append, List.mem_cons, List.mem_append] at hx ⊢
      rcases hx with e | e | e
      · exact .inr (.inl e)
      · exact .inl e
      · exact .inr (.inr e))
    rw [List.length_cons] at this ⊢
    rw [show r.length + 1 + seen.length = r.length + (seen.length + 1) by omega]
    exact this
section
variable {l : List Nd}
theorem Wf.reach (h : Wf l) {id : Int} (hi : there l id = true) : bel l l.length id 0 = true := by
  obtain ⟨o, hperm, ht⟩ := h.order
  have ho : ∀ id, id ∈ o ↔ id ∈ l.map (·.id) := fun id => hperm.mem_iff
  have hl : o.length = l.length := by simpa using hperm.length_eq
  have := topo_reach ht (fun x hx => by cases hx) id (by
    rw [List.append_nil, ho]
    obtain ⟨x, hx, e⟩ := there_mem.1 hi
    exact List.mem_map.2 ⟨x, hx, e⟩)
  simpa [hl] using this
theorem Wf.thereRoot (h : Wf l) : there l 0 = true := by
  obtain ⟨x, r, rfl, hx, _⟩ := h.root
  exact there_mem.2 ⟨x, List.mem_cons_self, hx⟩
end
theorem fnd_mem {l : List Nd} (hn : (l.map (·.id)).Nodup) {x : Nd} (hx : x ∈ l) : fnd x.id l = some x := by
  induction l with
  | nil => cases hx
  | cons y l ih =>
    simp only [List.map_cons, List.nodup_cons] at hn
    unfold fnd
    rcases List.mem_cons.1 hx with e | e
    · subst e; rw [if_pos rfl]
    · rw [if_neg (fun h : y.id = x.id => hn.1 (by rw [h]; exact List.mem_map.2 ⟨x, e, rfl⟩)), ih hn.2 e]
theorem fnd_id {l : List Nd} {id : Int} {x : Nd} (h : fnd id l = some x) : x ∈ l ∧ x.id = id := by
  induction l with
  | nil => cases h
  | cons y l ih =>
    unfold fnd at h
    split at h
    · rename_i hy
      cases h
      exact ⟨List.mem_cons_self, hy⟩
    · exact ⟨List.mem_cons_of_mem _ (ih h).1, (ih h).2⟩
theorem fnd_there {l : List Nd} {id : Int} : there l id = true ↔ ∃ x, fnd id l = some x := by
  constructor
  · intro h
    obtain ⟨_, x, _, _, _, hx⟩ := there_spec h
    exact ⟨x, hx⟩
  · rintro ⟨x, hx⟩
    exact there_mem.2 ⟨x, (fnd_id hx).1, (fnd_id hx).2⟩
section
variable {l : List Nd}
theorem par_mem (hn : (l.map (·.id)).Nodup) {x : Nd} (hx : x ∈ l) : parOf l x.id = x.par := by
  rw [parOf, fnd_mem hn hx]
theorem topo_par {par : Int → Int} : ∀ {r seen : List Int}, Topo par seen r → ∀ x ∈ r, x ≠ 0 → par x ∈ r ++ seen
  | y :: r, seen, h, x, hx, h0 => by
    rcases List.mem_cons.1 hx with e | e
    · subst e
      exact List.mem_append_right _ (h.1.resolve_left h0)
    · have := topo_par h.2 x e h0
      simp only [List.cons_append, List.mem_cons, List.mem_append] at this ⊢
      rcases this with a | a | a
      · exact .inr (.inl a)
      · exact .inl a
      · exact .inr (.inr a)
theorem there_ids {id : Int} : there l id = true ↔ id ∈ l.map (·.id) := by
  rw [there_mem, List.mem_map]
theorem Wf.par_there (h : Wf l) {id : Int} (hi : there l id = true) : there l (parOf l id) = true := by
  by_cases h0 : id = 0
  · subst h0
    obtain ⟨x, r, e, hx, hp, _⟩ := h.root
    have : x ∈ l := by rw [e]; exact List.mem_cons_self
    rw [← hx, par_mem h.nodup this, hp]
    exact h.thereRoot
  · obtain ⟨o, hperm, ht⟩ := h.order
    have ho : ∀ id, id ∈ o ↔ id ∈ l.map (·.id) := fun id => hperm.mem_iff
    have := topo_par ht id ((ho id).2 (there_ids.1 hi)) h0
    rw [List.append_nil, ho] at this
    exact there_ids.2 this
theorem below_refl (l : List Nd) (id : Int) : below l id id = true := by rw [below, bel, if_pos rfl]
theorem below_root (l : List Nd) {other : Int} (h : other ≠ 0) : below l 0 other = false := by rw [below, bel, if_neg (fun e => h e.symm), if_pos rfl]
theorem Wf.step (h : Wf l) {id other : Int} (hi : there l id = true) (h0 : id ≠ 0) (hne : id ≠ other) : below l id other = below l (parOf l id) other := by
  have hr := h.reach hi
  cases hn : l.length with
  | zero => rw [hn] at hr; cases hr
  | succ n =>
    rw [hn, bel, if_neg h0, if_neg h0] at hr
    rw [below, below, hn, bel, if_neg hne, if_neg h0]
    rw [bel_stable (show n ≤ n + 1 by omega) hr, bel_stable (show n ≤ n + 1 + 1 by omega) hr]

theorem fnd_append (id : Int) : ∀ (a b : List Nd), fnd id (a ++ b) = match fnd id a with | some x => some x | none => fnd id b
  | [], b => rfl
  | x :: a, b => by
    simp only [List.cons_append, fnd]
    split
    · rfl
    · exact fnd_append id a b
theorem fnd_up {n : Int} {f : Nd → Nd} (hf : ∀ x, (f x).id = x.id) (id : Int) : ∀ l : List Nd, fnd id (upAt n f l) = (fnd id l).map (fun x => if x.id = n then f x else x)
  | [] => rfl
  | x :: l => by
    have hx : (if x.id = n then f x else x).id = x.id := by split <;> simp [hf]
    simp only [upAt, List.map_cons, fnd, hx]
    split
    · rfl
    · exact fnd_up hf id l
theorem up_ids {n : Int} {f : Nd → Nd} (hf : ∀ x, (f x).id = x.id) (l : List Nd) : (upAt n f l).map (·.id) = l.map (·.id) := by
  unfold upAt
  rw [List.map_map]
  apply List.map_congr_left
  intro x _
  show (if x.id = n then f x else x).id = x.id
  split <;> simp [hf]
theorem topo_congr {par par' : Int → Int} : ∀ {r seen : List Int}, (∀ x ∈ r, x ≠ 0 → par' x = par x) → Topo par seen r → Topo par' seen r
  | [], _, _, _ => trivial
  | x :: r, seen, he, h => ⟨by
      by_cases h0 : x = 0
      · exact .inl h0
      · rw [he x List.mem_cons_self h0]; exact h.1, topo_congr (fun y hy => he y (List.mem_cons_of_mem _ hy)) h.2⟩
theorem setProp_id (x : Nd) (p v : Int) : (setProp x p v).id = x.id ∧ (setProp x p v).par = x.par ∧ (setProp x p v).key = x.key := by
  unfold setProp
  split
  · exact ⟨rfl, rfl, rfl⟩
  · split
    · exact ⟨rfl, rfl, rfl⟩
    · split <;> exact ⟨rfl, rfl, rfl⟩
end
end Go.Proofs.YtbicffldggcdhaaGreatDoor

namespace Go.Proofs.YtbicffldggcdhaaGreatDoor
open Go

theorem rf0_create {l : List Nd} {e : Ed} (h : refused l e = 0) (k : e.kind = 1) : there l e.node = false ∧ there l e.parent = true ∧ l.length < 32 := by
  have hw := rf0_wrong h
  cases a : there l e.node with
  | true => rw [rf1_ex hw k a] at h; cases h
  | false =>
    cases b : there l e.parent with
    | false => rw [rf1_par hw k a b] at h; cases h
    | true =>
      by_cases c : 32 ≤ l.length
      · rw [rf1_full hw k a b c] at h; cases h
      · exact ⟨rfl, rfl, by omega⟩
theorem rf0_move {l : List Nd} {e : Ed} (h : refused l e = 0) (k : e.kind = 2) : e.node ≠ 0 ∧ there l e.node = true ∧ there l e.parent = true ∧ below l e.parent e.node = false := by
  have hw := rf0_wrong h
  obtain ⟨a, z⟩ := rf0_node h (by omega)
  have z' : e.node ≠ 0 := by omega
  cases b : there l e.parent with
  | false => rw [rf2_par hw k z' a b] at h; cases h
  | true =>
    cases c : below l e.parent e.node with
    | true => rw [rf2_cyc hw k z' a b c] at h; cases h
    | false => exact ⟨z', a, rfl, rfl⟩
theorem there_false_ids {l : List Nd} {id : Int} (h : there l id = false) : id ∉ l.map (·.id) := fun hm => by
  rw [there_ids.2 hm] at h
  cases h

theorem Wf.create {l : List Nd} {e : Ed} (h : Wf l) (hz : refused l e = 0) (k : e.kind = 1) : Wf (l ++ [⟨e.node, e.parent, e.key, 0, 0, 0, 0⟩]) := by
  obtain ⟨a, b, c⟩ := rf0_create hz k
  obtain ⟨x, r, rfl, hx⟩ := h.root
  obtain ⟨o, hperm, hot⟩ := h.order
  have ho : ∀ id, id ∈ o ↔ id ∈ (x :: r).map (·.id) := fun id => hperm.mem_iff
  refine ⟨⟨x, r ++ [_], rfl, hx⟩, ?_, by simp at c ⊢; omega, o ++ [e.node], ?_, ?_⟩
  · rw [List.map_append, List.nodup_append]
    refine ⟨h.nodup, by simp, ?_⟩
    intro y hy z hz' e'
    simp at hz'
    subst hz'
    exact there_false_ids a (e' ▸ hy)
  · rw [List.map_append]
    exact hperm.append (List.Perm.refl _)
  · have hp : ∀ id ∈ o, parOf ((x :: r) ++ [⟨e.node, e.parent, e.key, 0, 0, 0, 0⟩]) id = parOf (x :: r) id := fun id hid => by
      obtain ⟨y, hy⟩ := fnd_there.1 (there_ids.2 ((ho id).1 hid))
      rw [parOf, parOf, fnd_append, hy]
    refine topo_append (topo_congr (fun id hid _ => hp id hid) hot) ⟨.inr ?_, trivial⟩
    have : parOf ((x :: r) ++ [⟨e.node, e.parent, e.key, 0, 0, 0, 0⟩]) e.node = e.parent := by
      rw [parOf, fnd_append, (there_not a).2]
      simp [fnd]
    rw [this, List.append_nil, ho]
    exact there_ids.1 b

theorem Wf.set {l : List Nd} {n p v : Int} (h : Wf l) : Wf (upAt n (fun x => setProp x p v) l) := by
  have hf : ∀ x, (setProp x p v).id = x.id := fun x => (setProp_id x p v).1
  obtain ⟨x, r, rfl, hx1, hx2, hx3⟩ := h.root
  obtain ⟨o, hperm, hot⟩ := h.order
  refine ⟨⟨_, _, rfl, ?_, ?_, ?_⟩, by rw [up_ids hf]; exact h.nodup, by simpa [upAt] using h.small, o, by rw [up_ids hf]; exact hperm, ?_⟩
  · show (if x.id = n then setProp x p v else x).id = 0
    split <;> simp [hf, hx1]
  · show (if x.id = n then setProp x p v else x).par = 0
    split <;> simp [(setProp_id x p v).2.1, hx2]
  · show (if x.id = n then setProp x p v else x).key = 0
    split <;> simp [(setProp_id x p v).2.2, hx3]
  · refine topo_congr (fun id _ _ => ?_) hot
    rw [parOf, parOf, fnd_up hf]
    cases fnd id (x :: r) with
    | none => rfl
    | some y =>
      show (if y.id = n then setProp y p v else y).par = y.par
      split
      · exact (setProp_id y p v).2.1
      · rfl

theorem Wf.move {l : List Nd} {e : Ed} (h : Wf l) (hz : refused l e = 0) (k : e.kind = 2) : Wf (upAt e.node (fun x => { x with par := e.parent, key := e.key }) l) := by
  obtain ⟨z, a, b, c⟩ := rf0_move hz k
  have hf : ∀ x : Nd, ({ x with par := e.parent, key := e.key } : Nd).id = x.id := fun x => rfl
  obtain ⟨x, r, e0, hx1, hx2, hx3⟩ := h.root
  obtain ⟨o, hperm, hot⟩ := h.order
  have ho : ∀ id, id ∈ o ↔ id ∈ l.map (·.id) := fun id => hperm.mem_iff
  have hpar : ∀ id, there l id = true → parOf (upAt e.node (fun x => { x with par := e.parent, key := e.key }) l) id = if id = e.node then e.parent else parOf l id := fun id hid => by
    obtain ⟨y, hy⟩ := fnd_there.1 hid
    rw [parOf, parOf, fnd_up hf, hy]
    have := (fnd_id hy).2
    show (if y.id = e.node then ({ y with par := e.parent, key := e.key } : Nd) else y).par = _
    rw [this]
    split <;> rfl
  have hin : ∀ id ∈ o, there l id = true := fun id hid => there_ids.2 ((ho id).1 hid)
  refine ⟨?_, by rw [up_ids hf]; exact h.nodup, by simpa [upAt] using h.small, o.filter (fun id => !below l id e.node) ++ o.filter (fun id => below l id e.node), ?_, ?_⟩
  · subst e0
    refine ⟨_, _, rfl, ?_⟩
    show (if x.id = e.node then _ else x).id = 0 ∧ (if x.id = e.node then _ else x).par = 0 ∧ (if x.id = e.node then _ else x).key = 0
    rw [if_neg (by rw [hx1]; exact fun h => z h.symm)]
    exact ⟨hx1, hx2, hx3⟩
  · rw [up_ids hf]
    exact (List.perm_append_comm.trans (List.filter_append_perm _ o)).trans hperm
  · refine topo_append (topo_filter (seen := []) (seen' := []) (fun id hid hp h0 => .inl ?_) (fun y hy => by cases hy) hot) (topo_filter (seen := []) (fun id hid hp h0 => ?_) (fun y hy => by cases hy) hot)
    · have hb : below l id e.node = false := by simpa using hp
      have hne : id ≠ e.node := fun h => by rw [h, below_refl] at hb; cases hb
      rw [hpar id (hin id hid), if_neg hne]
      refine ⟨rfl, ?_⟩
      rw [← h.step (hin id hid) h0 hne, hb]
      rfl
    · by_cases hne : id = e.node
      · refine .inr ?_
        rw [hpar id (hin id hid), if_pos hne, List.append_nil, List.mem_filter, ho]
        exact ⟨there_ids.1 b, by rw [c]; rfl⟩
      · refine .inl ?_
        rw [hpar id (hin id hid), if_neg hne]
        exact ⟨rfl, by rw [← h.step (hin id hid) h0 hne]; exact hp⟩

theorem fnd_filter {l : List Nd} {p : Nd → Bool} {id : Int} {x : Nd} (hn : (l.map (·.id)).Nodup) (hx : fnd id l = some x) (hp : p x = true) : fnd id (l.filter p) = some x := by
  have h1 := fnd_id hx
  have hn' : ((l.filter p).map (·.id)).Nodup := (List.filter_sublist.map _).nodup hn
  rw [← h1.2]
  exact fnd_mem hn' (List.mem_filter.2 ⟨h1.1, hp⟩)
theorem Wf.delete {l : List Nd} {n : Int} (h : Wf l) (hn0 : n ≠ 0) : Wf (l.filter fun x => !below l x.id n) := by
  obtain ⟨x, r, e0, hx1, hx2, hx3⟩ := h.root
  obtain ⟨o, hperm, hot⟩ := h.order
  have ho : ∀ id, id ∈ o ↔ id ∈ l.map (·.id) := fun id => hperm.mem_iff
  have hin : ∀ id ∈ o, there l id = true := fun id hid => there_ids.2 ((ho id).1 hid)
  have hids : (l.filter fun x => !below l x.id n).map (·.id) = (l.map (·.id)).filter fun id => !below l id n := by
    rw [List.filter_map]
    rfl
  refine ⟨?_, ?_, Nat.le_trans (List.length_filter_le _ _) h.small, o.filter (fun id => !below l id n), ?_, ?_⟩
  · refine ⟨x, r.filter fun x => !below l x.id n, ?_, hx1, hx2, hx3⟩
    rw [e0, List.filter_cons_of_pos]
    rw [← e0, hx1, below_root l hn0]
    rfl
  · exact (List.filter_sublist.map _).nodup h.nodup
  · rw [hids]
    exact hperm.filter _
  · refine topo_filter (seen := []) (seen' := []) (fun id hid hp h0 => .inl ?_) (fun y hy => by cases hy) hot
    have hb : below l id n = false := by simpa using hp
    have hne : id ≠ n := fun h => by rw [h, below_refl] at hb; cases hb
    obtain ⟨y, hy⟩ := fnd_there.1 (hin id hid)
    have hk : fnd id (l.filter fun x => !below l x.id n) = some y := fnd_filter h.nodup hy (by rw [(fnd_id hy).2, hb]; rfl)
    refine ⟨by rw [parOf, parOf, hy, hk], ?_⟩
    rw [← h.step (hin id hid) h0 hne, hb]
    rfl

theorem Wf.apply {l : List Nd} (h : Wf l) (e : Ed) : Wf (applyL l e) := by
  unfold applyL
  by_cases hz : refused l e ≠ 0
  · rw [if_pos hz]; exact h
  · rw [if_neg hz]
    have hz' : refused l e = 0 := by omega
    by_cases k1 : e.kind = 1
    · rw [if_pos k1]; exact h.create hz' k1
    · rw [if_neg k1]
      by_cases k2 : e.kind = 2
      · rw [if_pos k2]; exact h.move hz' k2
      · rw [if_neg k2]
        by_cases k4 : e.kind = 4
        · rw [if_pos k4]; exact h.set
        · rw [if_neg k4]
          exact h.delete (by have := (rf0_node hz' k1).2; omega)
theorem wf_root0 : Wf [root0] :=
  ⟨⟨root0, [], rfl, rfl, rfl, rfl⟩, by simp, by simp, [0], List.Perm.refl _, ⟨.inl rfl, trivial⟩⟩
end Go.Proofs.YtbicffldggcdhaaGreatDoor

namespace Go.Proofs.YtbicffldggcdhaaGreatDoor
open Go

abbrev NdV (x : Nd) : Value := .agg x.vals.toArray
def ndEnt (x : Nd) : Value × Value := (I x.id, NdV x)
def entOf (e : MapEntry) : Value × Value := (e.key, e.val)
structure Ents (es : Array MapEntry) (cl : Nat) (m : List Nd) : Prop where
  ents : es.toList.map entOf = m.map ndEnt
  born : (es.toList.map (·.born)).Nodup
  low : ∀ e ∈ es.toList, e.born < cl
theorem Ents.size {es : Array MapEntry} {cl : Nat} {m : List Nd} (h : Ents es cl m) : es.size = m.length := by
  have := congrArg List.length h.ents
  simpa using this
theorem Ents.get {es : Array MapEntry} {cl : Nat} {m : List Nd} (h : Ents es cl m) {j : Nat} {x : Nd} (hx : m[j]? = some x) : ∃ e, es.toList[j]? = some e ∧ e.key = I x.id ∧ e.val = NdV x := by
  have h1 := congrArg (fun l => l[j]?) h.ents
  simp only [List.getElem?_map, hx, Option.map_some] at h1
  cases he : es.toList[j]? with
  | none => rw [he] at h1; cases h1
  | some e =>
    rw [he] at h1
    simp only [Option.map_some, Option.some.injEq, entOf, ndEnt, Prod.mk.injEq] at h1
    exact ⟨e, rfl, h1.1, h1.2⟩
theorem Ents.mem {es : Array MapEntry} {cl : Nat} {m : List Nd} (h : Ents es cl m) {e : MapEntry} (he : e ∈ es.toList) : ∃ x ∈ m, e.key = I x.id ∧ e.val = NdV x := by
  have h1 : entOf e ∈ m.map ndEnt := by rw [← h.ents]; exact List.mem_map_of_mem he
  obtain ⟨x, hx, hxe⟩ := List.mem_map.1 h1
  simp only [entOf, ndEnt, Prod.mk.injEq] at hxe
  exact ⟨x, hx, hxe.1.symm, hxe.2.symm⟩
theorem ents_nil : Ents #[] 0 [] := ⟨rfl, by simp, by simp⟩

theorem find_nd (id : Int) : ∀ (m : List Nd) (es : List MapEntry) (i : Nat), es.map entOf = m.map ndEnt →
    Instr.findNow (.int .i64) (I id) es i = some ((at_ id m).bind fun j => (m[j]?).map fun x => (i + j, NdV x))
  | [], [], i, _ => rfl
  | [], e :: es, i, h => by simp at h
  | x :: m, [], i, h => by simp at h
  | x :: m, e :: es, i, h => by
    simp only [List.map_cons, List.cons.injEq, entOf, ndEnt, Prod.mk.injEq] at h
    obtain ⟨⟨hk, hv⟩, hr⟩ := h
    unfold Instr.findNow at_
    rw [hk]
    by_cases hx : x.id = id
    · subst hx
      simp [Instr.sameNow, hv]
    · have hx' : ¬ id = x.id := fun e => hx e.symm
      simp only [Instr.sameNow, if_true, if_neg hx, beq_eq_false_iff_ne.2 hx']
      rw [find_nd id m es (i + 1) hr]
      cases at_ id m with
      | none => rfl
      | some j => simp only [Option.bind_some, Option.map_some, List.getElem?_cons_succ]; rw [show i + 1 + j = i + (j + 1) by omega]
theorem isK {id : Int} : MapKept.IsKey (.int .i64) (I id) := by simp [MapKept.IsKey]
theorem eraseIdx_mapL {α β : Type} (f : α → β) : ∀ (l : List α) (j : Nat), (l.eraseIdx j).map f = (l.map f).eraseIdx j
  | [], _ => rfl
  | _ :: _, 0 => rfl
  | x :: l, j + 1 => by simp [eraseIdx_mapL f l j]
def ndOr (m : List Nd) (id : Int) : Nd := (fnd id m).getD ⟨0, 0, 0, 0, 0, 0, 0⟩
section
variable {P : Program} {w : World} {ty kt et b : Nat} {id : Int} {es : Array MapEntry} {cl : Nat} {m : List Nd}
theorem find_run (hk : P.underlying kt = some (.int .i64)) (hE : Ents es cl m) : (Instr.findKey kt (I id) es.toList).run P w = .ok ((at_ id m).bind fun j => (m[j]?).map fun x => (j, NdV x)) w := by
  have h1 := find_nd id m es.toList 0 hE.ents
  simp only [Nat.zero_add] at h1
  exact MapKept.run_findKey hk h1
theorem look_run (hu : P.underlying ty = some (.map kt et)) (hk : P.underlying kt = some (.int .i64)) (hz : zrOf P et = some (NdV ⟨0, 0, 0, 0, 0, 0, 0⟩)) (hb : At w b (.map es cl)) (hE : Ents es cl m) (ok : Bool) :
    (Instr.lookup ty (.map (some b)) (I id) ok).run P w = .ok (if ok then .tuple [NdV (ndOr m id), .bool (there m id)].toArray else NdV (ndOr m id)) w := by
  have hf := find_run (w := w) (id := id) hk hE
  have hc : ∀ e, (Instr.checkKey e 10000 kt (I id)).run P w = .ok () w := fun e => MapKept.run_checkKey (k := I id) hk isK e 9999
  simp only [Instr.lookup, Sem.run_bind, run_underlying hu, MapKept.run_getObj_map hb, Result.andThen_ok, Sem.run_pure, hc, hf]
  unfold ndOr there
  rw [fnd_at]
  cases ha : at_ id m with
  | none => simp [run_zero hz]
  | some j =>
    obtain ⟨x, hx, _⟩ := at_some ha
    simp [hx]
def putM (x : Nd) (m : List Nd) : List Nd := if there m x.id then upAt x.id (fun _ => x) m else m ++ [x]
theorem upd_run {x : Nd} (hu : P.underlying ty = some (.map kt et)) (hk : P.underlying kt = some (.int .i64)) (hb : At w b (.map es cl)) (hE : Ents es cl m) (hn : (m.map (·.id)).Nodup) (hx : x.id = id) :
    ∃ es' cl', (Instr.mapUpdate ty (.map (some b)) (I id) (NdV x)).run P w = .ok () (setB w b (.map es' cl')) ∧ Ents es' cl' (putM x m) := by
  subst hx
  have hf := find_run (w := w) (id := x.id) hk hE
  have hc : ∀ e, (Instr.checkKey e 10000 kt (I x.id)).run P w = .ok () w := fun e => MapKept.run_checkKey (k := I x.id) hk isK e 9999
  cases ha : at_ x.id m with
  | none =>
    rw [ha] at hf
    refine ⟨es.push ⟨I x.id, NdV x, cl⟩, cl + 1, ?_, ?_⟩
    · simp [Instr.mapUpdate, run_underlying hu, MapKept.run_getObj_map hb, hc, hf, MapKept.run_setObj_map _ hb, setB]
    · have hp : putM x m = m ++ [x] := by simp [putM, there, ha]
      rw [hp]
      refine ⟨?_, ?_, ?_⟩
      · simp [hE.ents, entOf, ndEnt]
      · simp only [Array.toList_push, List.map_append, List.map_cons, List.map_nil]
        refine List.nodup_append.2 ⟨hE.born, by simp, ?_⟩
        intro a h1 c h2
        obtain ⟨e, he, rfl⟩ := List.mem_map.1 h1
        have := hE.low e he
        simp at h2
        omega
      · intro e he
        simp only [Array.toList_push, List.mem_append, List.mem_singleton] at he
        rcases he with he | rfl
        · have := hE.low e he; omega
        · exact Nat.lt_succ_self _
  | some j =>
    obtain ⟨y, hy, hyi, _⟩ := at_some ha
    rw [ha] at hf
    simp only [Option.bind_some, hy, Option.map_some] at hf
    obtain ⟨e, he, hek, hev⟩ := hE.get hy
    have he' : es[j]? = some e := by simpa using he
    refine ⟨es.modify j fun e => { e with key := I x.id, val := NdV x }, cl, ?_, ?_⟩
    · have hks : (Instr.keyThatStays (I x.id) (I x.id)).run P w = .ok (I x.id) w := MapKept.run_keyThatStays (d := .int .i64) isK
      have hek' : e.key = I x.id := by rw [hek, hyi]
      simp [Instr.mapUpdate, run_underlying hu, MapKept.run_getObj_map hb, hc, hf, he', hek', hks, MapKept.run_setObj_map _ hb, setB]
    · have hp : putM x m = m.set j x := by
        have : there m x.id = true := by simp [there, ha]
        rw [putM, if_pos this, upAt_set hn hy hyi]
      rw [hp]
      have hl : (es.modify j fun e => { e with key := I x.id, val := NdV x }).toList = es.toList.set j { e with key := I x.id, val := NdV x } := by
        rw [Array.toList_modify]
        apply List.ext_getElem?
        intro k
        rw [List.getElem?_modify, List.getElem?_set]
        by_cases hjk : j = k
        · subst hjk
          have hlt := (List.getElem?_eq_some_iff.1 he).1
          simp only [he, hlt, if_true]
          rfl
        · simp [hjk]
      refine ⟨?_, ?_, ?_⟩
      · rw [hl, List.map_set, hE.ents, List.map_set]
        rfl
      · rw [hl, List.map_set]
        have : es.toList.map (·.born) = (es.toList.map (·.born)).set j e.born := by
          apply List.ext_getElem?
          intro k
          rw [List.getElem?_set]
          by_cases hjk : j = k
          · subst hjk
            have hlt := (List.getElem?_eq_some_iff.1 he).1
            rw [if_pos rfl, List.length_map, if_pos hlt, List.getElem?_map, he]; rfl
          · rw [if_neg hjk]
        show ((es.toList.map (·.born)).set j e.born).Nodup
        rw [← this]
        exact hE.born
      · intro e' he2
        rw [hl] at he2
        rcases List.mem_or_eq_of_mem_set he2 with h | h
        · exact hE.low e' h
        · subst h
          exact hE.low e (List.mem_of_getElem? he)
theorem del_run {ty2 : Nat} {tys : Nat} (hu : P.underlying ty = some (.map kt et)) (hk : P.underlying kt = some (.int .i64)) (hb : At w b (.map es cl)) (hE : Ents es cl m) (hn : (m.map (·.id)).Nodup) :
    ∃ es', (Builtin.delete_ #[ty, tys] ty2 #[.map (some b), I id]).run P w = .ok (.tuple #[]) (setB w b (.map es' cl)) ∧ Ents es' cl (m.filter fun x => !decide (x.id = id)) := by
  have hf := find_run (w := w) (id := id) hk hE
  have hc : ∀ e, (Instr.checkKey e 10000 kt (I id)).run P w = .ok () w := fun e => MapKept.run_checkKey (k := I id) hk isK e 9999
  cases ha : at_ id m with
  | none =>
    rw [ha] at hf
    refine ⟨es, ?_, ?_⟩
    · simp [Builtin.delete_, run_underlying hu, MapKept.run_getObj_map hb, hc, hf, MapKept.run_setObj_map _ hb, setB]
    · rw [List.filter_eq_self.2 (fun x hx => by simpa using at_none ha x hx)]
      exact hE
  | some j =>
    obtain ⟨y, hy, hyi, _⟩ := at_some ha
    rw [ha] at hf
    simp only [Option.bind_some, hy, Option.map_some] at hf
    have hjm := (List.getElem?_eq_some_iff.1 hy).1
    have hje : j < es.size := by rw [hE.size]; exact hjm
    refine ⟨es.eraseIdxIfInBounds j, ?_, ?_⟩
    · simp [Builtin.delete_, run_underlying hu, MapKept.run_getObj_map hb, hc, hf, MapKept.run_setObj_map _ hb, setB]
    · have hl : (es.eraseIdxIfInBounds j).toList = es.toList.eraseIdx j := by
        unfold Array.eraseIdxIfInBounds
        rw [dif_pos hje, Array.toList_eraseIdx]
      have hsub : (es.toList.eraseIdx j).Sublist es.toList := List.eraseIdx_sublist _ _
      have hfe : ∀ (l : List Nd) (j : Nat) (y : Nd), (l.map (·.id)).Nodup → l[j]? = some y → y.id = id → l.filter (fun x => !decide (x.id = id)) = l.eraseIdx j := by
        intro l
        induction l with
        | nil => intro j y _ h; simp at h
        | cons z l ih =>
          intro j y hn h he
          simp only [List.map_cons, List.nodup_cons] at hn
          cases j with
          | zero =>
            simp at h
            subst h
            rw [List.filter_cons, if_neg (by simp [he]), List.eraseIdx_cons_zero]
            refine List.filter_eq_self.2 (fun x hx => ?_)
            have : x.id ≠ id := fun e => hn.1 (by rw [he, ← e]; exact List.mem_map_of_mem hx)
            simpa using this
          | succ j =>
            simp only [List.getElem?_cons_succ] at h
            have hz : z.id ≠ id := fun e => hn.1 (by rw [e, ← he]; exact List.mem_map_of_mem (List.mem_of_getElem? h))
            rw [List.filter_cons, if_pos (by simp [hz]), List.eraseIdx_cons_succ, ih j y hn.2 h he]
      rw [hfe m j y hn hy hyi]
      refine ⟨?_, ?_, ?_⟩
      · rw [hl, eraseIdx_mapL, hE.ents, eraseIdx_mapL]
      · rw [hl]
        exact (hsub.map _).nodup hE.born
      · intro e he
        rw [hl] at he
        exact hE.low e (hsub.subset he)
end

section
variable {P : Program} {w w' : World} {ρ : Operand → Value} {d : Option Nat} {t : Nat} {p : String} {af : Array Edge} {g : Option (Nat × Bool)} {ty kt et b : Nat} {id : Int} {es : Array MapEntry} {cl : Nat} {m : List Nd} {x y z : Operand}
theorem r_look (hu : P.underlying ty = some (.map kt et)) (hk : P.underlying kt = some (.int .i64)) (hz : zrOf P et = some (NdV ⟨0, 0, 0, 0, 0, 0, 0⟩)) (hx : ρ x = .map (some b)) (hy : ρ y = I id) (hb : At w b (.map es cl)) (hE : Ents es cl m) :
    (execOp ρ ⟨d, .lookup ty x y false, t, p, af, g⟩).run P w = .ok (.value (NdV (ndOr m id))) w := by
  simp [execOp, hx, hy, look_run hu hk hz hb hE false]
theorem r_look2 (hu : P.underlying ty = some (.map kt et)) (hk : P.underlying kt = some (.int .i64)) (hz : zrOf P et = some (NdV ⟨0, 0, 0, 0, 0, 0, 0⟩)) (hx : ρ x = .map (some b)) (hy : ρ y = I id) (hb : At w b (.map es cl)) (hE : Ents es cl m) :
    (execOp ρ ⟨d, .lookup ty x y true, t, p, af, g⟩).run P w = .ok (.value (.tuple [NdV (ndOr m id), .bool (there m id)].toArray)) w := by
  simp [execOp, hx, hy, look_run hu hk hz hb hE true]
theorem r_upd {vm vk vv : Value} (hx : ρ x = vm) (hy : ρ y = vk) (hz : ρ z = vv) (h : (Instr.mapUpdate ty vm vk vv).run P w = .ok () w') : (execOp ρ ⟨d, .mapUpdate ty x y z, t, p, af, g⟩).run P w = .ok .skip w' := by
  simp [execOp, hx, hy, hz, h]
theorem r_ins {vm vk vv : Value} (hx : ρ x = vm) (hy : ρ y = vk) (hz : ρ z = vv) (h : (Instr.mapUpdate ty vm vk vv).run P w = .ok () w') : (execOp ρ ⟨d, .insert ty x y z, t, p, af, g⟩).run P w = .ok .skip w' := by
  simp [execOp, hx, hy, hz, h]
theorem r_del {tys : Nat} {vm vk v : Value} (hx : ρ x = vm) (hy : ρ y = vk) (h : (Builtin.delete_ #[ty, tys] t #[vm, vk]).run P w = .ok v w') :
    (execOp ρ ⟨d, .call { callee := .builtin .delete, args := #[x, y], argTypes := #[ty, tys] }, t, p, af, g⟩).run P w = .ok (.value v) w' := by
  simp [execOp, resolve, invoke, builtin, hx, hy, h]
theorem r_mkmap : (execOp ρ ⟨d, .makeMap ty none, t, p, af, g⟩).run P w = .ok (.value (.map (some w.heap.size))) (w.alloc (.map #[] 0)) := by
  simp [execOp, Instr.makeMap]
theorem r_fieldV {f : Nat} {vs : List Value} {v : Value} {fs : Array Field} {fi : Field} {D : TypeDesc} (hu : P.underlying ty = some (.struct fs)) (hx : ρ x = .agg vs.toArray) (hf : fs[f]? = some fi) (hD : P.underlying fi.type = some D) (ha : isAggD D = false) (hv : vs[fi.offset]? = some v) :
    (execOp ρ ⟨d, .field ty x f, t, p, af, g⟩).run P w = .ok (.value v) w := by
  simp [execOp, Instr.field, run_underlying hu, hf, hx, asAgg, part, run_isAgg hD, ha, hv]
theorem r_range (hu : P.underlying ty = some (.map kt et)) (hx : ρ x = .map (some b)) (hb : At w b (.map es cl)) :
    (execOp ρ ⟨d, .range ty x, t, p, af, g⟩).run P w = .ok (.value (.pointer (some ⟨w.heap.size, 0, none⟩))) (w.alloc (.mapIter (some b) cl #[] cl)) := by
  simp [execOp, Instr.range, run_underlying hu, hx, MapKept.run_getObj_map hb]
theorem run_get {o : Obj} {r : Nat} (h : At w r o) (hc : ∀ c e f, o ≠ .cells c e f) : (getObj r).run P w = .ok o w := by
  have h' : w.heap[r]? = some o := h
  cases o <;> first | exact absurd rfl (hc _ _ _) | simp [getObj, Sem.run, h']
theorem run_set {o o' : Obj} {r : Nat} (h : At w r o) (hc : ∀ c e f, o ≠ .cells c e f) : (setObj r o').run P w = .ok () (setB w r o') := by
  have h' : w.heap[r]? = some o := h
  cases o <;> first | exact absurd rfl (hc _ _ _) | simp [setObj, Sem.run, h', setB]
/-- A step of a loop over a map that nobody changes meanwhile: it is over when all were seen, or comes to one that was not. -/
theorem next_run {r : Nat} {seen : Array Nat} (hr : At w r (.mapIter (some b) cl seen cl)) (hb : At w b (.map es cl)) (hlow : ∀ e ∈ es.toList, e.born < cl) :
    ((∀ e ∈ es.toList, e.born ∈ seen.toList) ∧ (Instr.next (.pointer (some ⟨r, 0, none⟩)) false t).run P w = .ok (.tuple [.bool false].toArray) w) ∨
    ∃ e ∈ es.toList, e.born ∉ seen.toList ∧ ∃ w1, (w1 = w ∨ w1 = w.drew) ∧ (Instr.next (.pointer (some ⟨r, 0, none⟩)) false t).run P w = .ok (.tuple [.bool true, e.key, e.val].toArray) (setB w1 r (.mapIter (some b) cl (seen.push e.born) cl)) := by
  have hg := run_get (P := P) hr (by intros; simp)
  have hgb := run_get (P := P) hb (by intros; simp)
  have hnot : (!seen.isEmpty && !es.isEmpty && es.all (·.born ≥ cl)) = false := by
    cases hem : es.isEmpty with
    | true => simp
    | false =>
      have : es.all (·.born ≥ cl) = false := by
        have h0 : 0 < es.size := by
          rcases Nat.eq_zero_or_pos es.size with h | h
          · rw [Array.isEmpty_iff_size_eq_zero.2 h] at hem; cases hem
          · exact h
        cases ha : es.all (·.born ≥ cl) with
        | false => rfl
        | true =>
          have h1 := (Array.all_eq_true.1 ha) 0 h0
          have h2 := hlow es[0] (by simp)
          simp at h1
          omega
      simp [this]
  have hnew : ((es.filter fun e => !seen.contains e.born).filter (·.born ≥ cl)) = #[] := by
    apply Array.ext'
    simp only [Array.toList_filter]
    refine List.filter_eq_nil_iff.2 (fun e he => ?_)
    have := hlow e (List.mem_filter.1 he).1
    simp; omega
  have hold : ((es.filter fun e => !seen.contains e.born).filter (·.born < cl)) = (es.filter fun e => !seen.contains e.born) := by
    apply Array.ext'
    simp only [Array.toList_filter]
    refine List.filter_eq_self.2 (fun e he => ?_)
    have := hlow e (List.mem_filter.1 he).1
    simpa using this
  by_cases hall : ∀ e ∈ es.toList, e.born ∈ seen.toList
  · left
    refine ⟨hall, ?_⟩
    have hleft : (es.filter fun e => !seen.contains e.born) = #[] := by
      apply Array.ext'
      simp only [Array.toList_filter]
      refine List.filter_eq_nil_iff.2 (fun e he => ?_)
      have := hall e he
      simpa using this
    rw [hleft] at hnew hold
    simp only [Instr.next, Sem.run_bind, hg, hgb, Result.andThen_ok, hnot, hleft, hnew, hold]
    simp [choose, Sem.run, Question.forced]
  · right
    generalize hL : (es.filter fun e => !seen.contains e.born) = left at *
    have hne : 0 < left.size := by
      rcases Nat.eq_zero_or_pos left.size with h | h
      · exfalso
        refine hall (fun e he => ?_)
        have h0 : left.toList = [] := by
          have : left = #[] := Array.eq_empty_of_size_eq_zero h
          rw [this]
        rw [← hL, Array.toList_filter] at h0
        have := List.filter_eq_nil_iff.1 h0 e he
        simpa using this
      · exact h
    have hem : left.isEmpty = false := by
      cases hx : left.isEmpty with
      | false => rfl
      | true => have := Array.isEmpty_iff_size_eq_zero.1 hx; omega
    have hmem : ∀ e ∈ left.toList, e ∈ es.toList ∧ e.born ∉ seen.toList := by
      intro e he
      rw [← hL, Array.toList_filter] at he
      have h2 := List.mem_filter.1 he
      exact ⟨h2.1, by simpa using h2.2⟩
    have fin : ∀ i w1, i < left.size → (w1 = w ∨ w1 = w.drew) → ((choose (.mapNext left.size)).run P w = .ok i w1) →
        ∃ e ∈ es.toList, e.born ∉ seen.toList ∧ ∃ w1, (w1 = w ∨ w1 = w.drew) ∧ (Instr.next (.pointer (some ⟨r, 0, none⟩)) false t).run P w = .ok (.tuple [.bool true, e.key, e.val].toArray) (setB w1 r (.mapIter (some b) cl (seen.push e.born) cl)) := by
      intro i w1 hi hw hch
      obtain ⟨h1, h2⟩ := hmem left[i] (by simp)
      refine ⟨left[i], h1, h2, w1, hw, ?_⟩
      have hr1 : At w1 r (.mapIter (some b) cl seen cl) := by rcases hw with rfl | rfl <;> exact hr
      have hset := run_set (P := P) (o' := .mapIter (some b) cl (seen.push left[i].born) cl) hr1 (by intros; simp)
      simp only [Instr.next, Sem.run_bind, hg, hgb, Result.andThen_ok, hnot, hL, hnew, hold, hem]
      simp [-run_choose_drew, hch, hi, hset]
    by_cases h1 : left.size ≤ 1
    · exact fin 0 w hne (.inl rfl) (by simp [choose, Sem.run, Question.forced, h1])
    · refine fin (w.tape w.drawn (.mapNext left.size) % left.size) w.drew (Nat.mod_lt _ hne) (.inr rfl) ?_
      have hfo : (Question.mapNext left.size).forced = false := by simp only [Question.forced]; simpa using h1
      simp only [choose, Sem.run]
      rw [hfo]
      rfl
theorem r_next {v : Value} (hx : ρ x = v) {u : Value} (h : (Instr.next v false t).run P w = .ok u w') : (execOp ρ ⟨d, .next x false, t, p, af, g⟩).run P w = .ok (.value u) w' := by
  simp [execOp, hx, h]
theorem r_entry {r : Nat} {seen : Array Nat} {e : MapEntry} (hx : ρ x = .pointer (some ⟨r, 0, none⟩)) (hr : At w r (.mapIter (some b) cl (seen.push e.born) cl)) (hb : At w b (.map es cl)) (he : e ∈ es.toList) (hn : (es.toList.map (·.born)).Nodup) :
    (execOp ρ ⟨d, .entry x, t, p, af, g⟩).run P w = .ok (.value (.tuple [e.key, e.val].toArray)) w := by
  have hg := run_get (P := P) hr (by intros; simp)
  have hgb := run_get (P := P) hb (by intros; simp)
  have hfind : es.find? (·.born == e.born) = some e := by
    rw [← Array.find?_toList]
    have key : ∀ l : List MapEntry, (l.map (·.born)).Nodup → e ∈ l → l.find? (·.born == e.born) = some e := by
      intro l
      induction l with
      | nil => intro _ h; cases h
      | cons a l ih =>
        intro hn hm
        simp only [List.map_cons, List.nodup_cons] at hn
        rcases List.mem_cons.1 hm with h | h
        · subst h; simp
        · have : a.born ≠ e.born := fun q => hn.1 (by rw [q]; exact List.mem_map_of_mem h)
          rw [List.find?_cons, beq_eq_false_iff_ne.2 this]
          exact ih hn.2 h
    exact key _ hn he
  simp only [execOp, Instr.entry, hx, Sem.run_bind, hg, Result.andThen_ok]
  simp [hgb, hfind]
end
end Go.Proofs.YtbicffldggcdhaaGreatDoor

namespace Go.Proofs.YtbicffldggcdhaaGreatDoor
open Go Go.ChangeShapes Go.WideShapes Go.RowKit

theorem star : "*" ++ "errors.errorString" = "*errors.errorString" := by decide
theorem rowErr (u : TypeId) (h : Tryz.prog.typeName? 3 u = some "*errors.errorString") : u = 236 :=
  typeName_ptr_named (nm := "errors.errorString") (by rw [star]; kernel_rfl) (by kernel_rfl) (by decide) u (by rw [star]; exact h)
theorem cellsES : Tryz.prog.cellsOf 287 = 1 := by kernel_rfl
theorem cellsStr : Tryz.prog.cellsOf 9 = 1 := by kernel_rfl

/-- One reason: what its variable holds, and that it points to a plain block. -/
structure ErrAt (w : World) (g : Nat) (a : Addr) : Prop where
  var : ∃ ty k, At w g (.cells [.iface 236 (.pointer (some a))].toArray ty k)
  blk : ∃ c t, At w a.block (.cells c t (0, 0))
def isErr (d : DataW Unit) : Bool := match d with | .iface n (.ptr (.agg [.lit (.string _)])) => n == "*errors.errorString" | _ => false
theorem of_isErr {d : DataW Unit} (h : isErr d = true) : ∃ text, d = .iface "*errors.errorString" (.ptr (.agg [.lit (.string text)])) := by
  unfold isErr at h
  split at h
  · rename_i n s
    exact ⟨s, by rw [beq_iff_eq.1 h]⟩
  · cases h

set_option maxRecDepth 100000 in
theorem laid_errs {W : World} : ∀ (l : List (String × DataW Unit)) (gs : List Nat) (ps : List MemPlace),
    l.map (fun x => Tryz.prog.globalNamed x.1) = gs.map some → (gs.all fun g => (Tryz.prog.globals[g]?).map (·.type) == some 34) = true → (l.all fun x => isErr x.2) = true →
    DataW.LaidVars Tryz.prog W l ps → ps.Nodup → (∀ b off, MemPlace.cell b off ∈ ps → (∃ c t, W.heap[b]? = some (.cells c t (0, 0))) ∧ ∀ u v, W.cell? ⟨b, off, none⟩ = some (.iface u v) → Value.okWide Tryz.prog W .any 0 u v) →
    ∃ ea : List Addr, ea.length = gs.length ∧ (∀ (i g : Nat) (a : Addr), gs[i]? = some g → ea[i]? = some a → ErrAt W g a) ∧ ea.Nodup ∧ ∀ a ∈ ea, a.spot = none ∧ MemPlace.cell a.block a.off ∈ ps
  | [], gs, ps, hg, _, _, _, _, _ => by
    cases gs with
    | nil => exact ⟨[], rfl, fun i g a h => by simp at h, List.nodup_nil, fun a h => by cases h⟩
    | cons g r => simp at hg
  | (n, d) :: l, [], ps, hg, _, _, _, _, _ => by simp at hg
  | (n, d) :: l, g :: gs, ps, hg, ht, he, hv, hn, hr => by
    simp only [List.map_cons, List.cons.injEq] at hg
    simp only [List.all_cons, Bool.and_eq_true, beq_iff_eq] at ht he
    obtain ⟨g0, t0, cs, fuel, p, q, hg0, ht0, hv0, hd0, hq, rfl⟩ := hv
    obtain rfl := Option.some.inj (hg.1.symm.trans hg0)
    obtain rfl := Option.some.inj (ht.1.symm.trans ht0)
    obtain ⟨text, rfl⟩ := of_isErr he.1
    obtain ⟨l0⟩ := cs
    have hn' := hn
    rw [List.nodup_append] at hn
    obtain ⟨hn1, hn2, hn3⟩ := hn
    have hsz : ∀ i, i < l0.length → MemPlace.cell g i ∈ MemPlace.row ⟨g, 0, none⟩ (Array.mk l0).size ++ p ++ q := fun i hi => by
      refine List.mem_append_left _ (List.mem_append_left _ ?_)
      simp [MemPlace.row]
      exact hi
    have ok0 : ∀ u v, l0 = [.iface u v] → Value.okWide Tryz.prog W .any 0 u v := fun u v e => by
      subst e
      exact (hr g 0 (hsz 0 (by simp))).2 u v (by simpa using World.var?_cell hg.1 hv0 0)
    obtain ⟨a, s, rfl, hc, _, _, rfl⟩ := errorString_of_trod Tryz.underlying34 rowErr Tryz.underlying236 Tryz.underlying287 rfl rfl Tryz.underlying9 cellsES cellsStr hd0 ok0
    obtain ⟨ea, h1, h2, h3, h4⟩ := laid_errs l gs q hg.2 ht.2 he.2 hq hn2 (fun b off hm => hr b off (List.mem_append_right _ hm))
    have hspot : a.spot = none := by
      cases hs : a.spot with
      | none => rfl
      | some x =>
        unfold World.cell? at hc
        split at hc
        · simp [hs] at hc
        · cases hc
    have hmem : MemPlace.cell a.block a.off ∈ MemPlace.row ⟨g, 0, none⟩ (Array.mk [Value.iface 236 (.pointer (some a))]).size ++ MemPlace.row a 1 := List.mem_append_right _ (by simp [MemPlace.row])
    refine ⟨a :: ea, by simp [h1], ?_, ?_, ?_⟩
    · intro i g' a' hi ha
      cases i with
      | zero =>
        simp at hi ha
        subst hi ha
        refine ⟨?_, ?_⟩
        · unfold World.var? at hv0
          rw [hg.1] at hv0
          simp only [Option.bind_some] at hv0
          split at hv0
          · rename_i c ty k hh
            cases hv0
            exact ⟨ty, k, hh⟩
          · cases hv0
        · exact (hr a.block a.off (List.mem_append_left _ hmem)).1
      | succ i => exact h2 i g' a' (by simpa using hi) (by simpa using ha)
    · refine List.nodup_cons.2 ⟨fun hm => ?_, h3⟩
      exact hn3 _ hmem _ (h4 a hm).2 rfl
    · intro x hx
      rcases List.mem_cons.1 hx with e | e
      · subst e
        exact ⟨hspot, List.mem_append_left _ hmem⟩
      · exact ⟨(h4 x e).1, List.mem_append_right _ (h4 x e).2⟩

/-- The reasons by their numbers, 0 being none. -/
def errG : List Nat := [0, 4, 2, 1, 3, 5, 6, 8, 7]
structure Errs (w : World) (ea : List Addr) : Prop where
  len : ea.length = 9
  one : ∀ (i g : Nat) (a : Addr), errG[i]? = some g → ea[i]? = some a → ErrAt w g a
  nodup : ea.Nodup
  spot : ∀ a ∈ ea, a.spot = none
def errV (a : Addr) : Value := .iface 236 (.pointer (some a))
theorem errs_of_laid {W : World} {l : List (String × DataW Unit)} (h : laidMetH Tryz.prog l W) (h1 : (l.all fun x => x.2.handleName?.isNone) = true) (h2 : l.map (fun x => Tryz.prog.globalNamed x.1) = errG.map some) (h3 : (l.all fun x => isErr x.2) = true) : ∃ ea, Errs W ea := by
  rw [MakeChecks.laidMetH_plain _ _ _ h1] at h
  obtain ⟨ps, hv, hn, hr⟩ := h
  obtain ⟨ea, e1, e2, e3, e4⟩ := laid_errs l errG ps h2 (by kernel_rfl) h3 hv hn hr
  exact ⟨ea, e1, e2, e3, fun a ha => (e4 a ha).1⟩
theorem Errs.frm {w w' : World} {ea : List Addr} {S : Nat → Prop} (h : Errs w ea) (f : Frm S w w') (hg : ∀ g ∈ errG, ¬ S g) (ha : ∀ a ∈ ea, ¬ S a.block) : Errs w' ea := by
  refine ⟨h.len, fun i g a hi hj => ?_, h.nodup, h.spot⟩
  obtain ⟨⟨ty, k, e1⟩, ⟨c, t, e2⟩⟩ := h.one i g a hi hj
  exact ⟨⟨ty, k, f.at (hg g (List.mem_of_getElem? hi)) e1⟩, ⟨c, t, f.at (ha a (List.mem_of_getElem? hj)) e2⟩⟩
theorem Errs.frm0 {w w' : World} {ea : List Addr} (h : Errs w ea) (f : Frm0 w w') : Errs w' ea := h.frm f (fun _ _ h => h) (fun _ _ h => h)
end Go.Proofs.YtbicffldggcdhaaGreatDoor
