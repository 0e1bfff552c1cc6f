/-
  LParty; LMid; LParty2; LParty3; LParty4; LParty5; LParty6; LParty7; LParty8.
-/
import Derived.Test.YtbicffldggcdhaaGreatDoorB04
namespace Go.Proofs.YtbicffldggcdhaaGreatDoor
open Go

structure Ent where
  client : Int
  seq : Int
  e : Ed
  done : Bool
structure Ans where
  seq : Int
  done : Bool
structure Msg where
  hello : Bool
  seq : Int
  e : Ed
  ent : Ent
  tree : Option (List Nd)
  n : Int
  ans : List Ans
structure Cli where
  base : List Nd
  n : Int
  pend : List (Int × Ed)
  seq : Int
  ans : List Ans
  joined : Bool
  told : Bool
  up : List Msg
  down : List Msg
structure Par where
  clients : Int
  log : Int
  t : List Nd
  ents : List Ent
  cls : List Cli

def ed0 : Ed := ⟨0, 0, 0, 0, 0, 0⟩
def ent0 : Ent := ⟨0, 0, ed0, false⟩
def cli0 : Cli := ⟨[root0], 0, [], 0, [], false, false, [], []⟩
def msgE (seq : Int) (e : Ed) : Msg := ⟨false, seq, e, ent0, none, 0, []⟩
def msgH (n : Int) : Msg := ⟨true, n, ed0, ent0, none, 0, []⟩
def msgN (x : Ent) : Msg := ⟨false, 0, ed0, x, none, 0, []⟩
def msgS (t : List Nd) (n : Int) (ans : List Ans) : Msg := ⟨false, 0, ed0, ent0, some t, n, ans⟩

def newP (c l : Int) : Option Par := if c < 1 ∨ 4 < c ∨ l < 0 ∨ 8 < l then none else some ⟨c, l, [root0], [], List.replicate c.toNat cli0⟩
def Par.cl (P : Par) (i : Int) : Option Cli := if i < 0 then none else P.cls[i.toNat]?
def Par.set (P : Par) (i : Int) (c : Cli) : Par := { P with cls := P.cls.set i.toNat c }
def editC (c : Cli) (e : Ed) : Cli := { c with seq := c.seq + 1, pend := c.pend ++ [(c.seq + 1, e)], up := if c.joined then c.up ++ [msgE (c.seq + 1) e] else c.up }
def editP (P : Par) (i : Int) (e : Ed) : Nat × Par :=
  match P.cl i with
  | none => (1, P)
  | some c => if wrongB e then (1, P) else if 6 ≤ c.pend.length then (7, P) else (0, P.set i (editC c e))
def joinC (c : Cli) : Cli := { c with joined := true, up := msgH c.n :: c.pend.map fun q => msgE q.1 q.2 }
def joinP (P : Par) (i : Int) : Nat × Par :=
  match P.cl i with
  | none => (1, P)
  | some c => if c.joined then (8, P) else (0, P.set i (joinC c))
def dropC (c : Cli) : Cli := { c with joined := false, told := false, up := [], down := [] }
def dropP (P : Par) (i : Int) : Nat × Par :=
  match P.cl i with
  | none => (1, P)
  | some c => if c.joined then (0, P.set i (dropC c)) else (8, P)
def taken (l : List Ent) (i seq : Int) : Bool := l.any fun x => decide (x.client = i ∧ x.seq = seq)
def ansOf (l : List Ent) (i : Int) : List Ans := (l.filter fun x => decide (x.client = i)).map fun x => ⟨x.seq, x.done⟩
def helloC (P : Par) (i : Int) (c : Cli) (n : Int) : Cli :=
  { c with told := true, down := c.down ++ if (P.ents.length : Int) - n ≤ P.log then (P.ents.drop n.toNat).map msgN else [msgS P.t P.ents.length (ansOf P.ents i)] }
def tell (x : Ent) (c : Cli) : Cli := if c.told then { c with down := c.down ++ [msgN x] } else c
def takeP (P : Par) (i : Int) (m : Msg) : Par :=
  let x : Ent := ⟨i, m.seq, m.e, decide (refused P.t m.e = 0)⟩
  { P with t := applyL P.t m.e, ents := P.ents ++ [x], cls := P.cls.map (tell x) }
def upP (P : Par) (i : Int) : Nat × Par :=
  match P.cl i with
  | none => (1, P)
  | some c => match c.up with
    | [] => (9, P)
    | m :: us =>
      let Q := P.set i { c with up := us }
      if m.hello then (0, P.set i (helloC P i { c with up := us } m.seq)) else if taken P.ents i m.seq then (0, Q) else (0, takeP Q i m)
def answered (c : Cli) (a : Ans) : Cli :=
  if c.pend.any (fun q => decide (q.1 = a.seq)) then { c with pend := c.pend.eraseP fun q => decide (q.1 = a.seq), ans := c.ans ++ [a] } else c
def downC (i : Int) (c : Cli) (m : Msg) : Cli :=
  match m.tree with
  | some t => m.ans.foldl answered { c with base := t, n := m.n }
  | none =>
    let c1 := { c with base := if m.ent.done then applyL c.base m.ent.e else c.base, n := c.n + 1 }
    if m.ent.client = i then answered c1 ⟨m.ent.seq, m.ent.done⟩ else c1
def downP (P : Par) (i : Int) : Nat × Par :=
  match P.cl i with
  | none => (1, P)
  | some c => match c.down with
    | [] => (9, P)
    | m :: ds => (0, P.set i (downC i { c with down := ds } m))
def logP (P : Par) : List Ent := if (P.ents.length : Int) ≤ P.log then P.ents else P.ents.drop (P.ents.length - P.log.toNat)

/-! ### In memory -/
def Ent.vals (x : Ent) : List Value := [I x.client, I x.seq, I x.e.kind, I x.e.node, I x.e.parent, I x.e.key, I x.e.prop, I x.e.value, B x.done]
def Ans.vals (x : Ans) : List Value := [I x.seq, B x.done]
def pdV (q : Int × Ed) : List Value := [I q.1, I q.2.kind, I q.2.node, I q.2.parent, I q.2.key, I q.2.prop, I q.2.value]
def fl {α : Type} (f : α → List Value) : List α → List Value
  | [] => []
  | x :: l => f x ++ fl f l
section
variable {α : Type} {f : α → List Value} {k : Nat}
theorem fl_append (f : α → List Value) : ∀ a b : List α, fl f (a ++ b) = fl f a ++ fl f b
  | [], b => rfl
  | x :: a, b => by simp [fl, fl_append f a b]
theorem fl_len (hf : ∀ x, (f x).length = k) : ∀ l : List α, (fl f l).length = l.length * k
  | [] => by simp [fl]
  | x :: l => by rw [fl, List.length_append, hf, fl_len hf l, List.length_cons, Nat.add_mul]; omega
theorem fl_one (hf : ∀ x, ∀ u ∈ f x, one u = true) : ∀ (l : List α), ∀ u ∈ fl f l, one u = true
  | [], u, h => by cases h
  | x :: l, u, h => by
    rcases List.mem_append.1 h with h | h
    · exact hf x u h
    · exact fl_one hf l u h
theorem fl_sub (hf : ∀ x, (f x).length = k) : ∀ (l : List α) (i : Nat) (x : α), l[i]? = some x → ∀ (skip rest : List Value), sub (skip ++ (fl f l ++ rest)) (skip.length + i * k) k = f x
  | [], i, x, h, _, _ => by simp at h
  | y :: l, 0, x, h, skip, rest => by
    simp at h
    subst h
    rw [Nat.zero_mul, sub_drop, fl, List.append_assoc]
    have := sub_left (f y) (fl f l ++ rest)
    rw [hf] at this
    exact this
  | y :: l, i + 1, x, h, skip, rest => by
    have ih := fl_sub hf l i x (by simpa using h) (skip ++ f y) rest
    rw [List.length_append, hf] at ih
    rw [fl]
    simp only [List.append_assoc] at ih ⊢
    rw [show skip.length + (i + 1) * k = skip.length + k + i * k by rw [Nat.add_mul]; omega]
    exact ih
theorem fl_get (hf : ∀ x, (f x).length = k) {l : List α} {i j : Nat} {x : α} {v : Value} (h : l[i]? = some x) (hv : (f x)[j]? = some v) (skip rest : List Value) : (skip ++ (fl f l ++ rest))[skip.length + i * k + j]? = some v := by
  induction l generalizing i skip with
  | nil => simp at h
  | cons y l ih =>
    cases i with
    | zero =>
      simp at h
      subst h
      have hj : j < (f y).length := (List.getElem?_eq_some_iff.1 hv).1
      rw [Nat.zero_mul, Nat.add_zero, List.getElem?_append_right (by omega), show skip.length + j - skip.length = j by omega, fl, List.append_assoc, List.getElem?_append_left hj]
      exact hv
    | succ i =>
      have := ih (by simpa using h) (skip ++ f y)
      rw [List.length_append, hf] at this
      rw [fl]
      simp only [List.append_assoc] at this ⊢
      rw [show skip.length + (i + 1) * k + j = skip.length + k + i * k + j by rw [Nat.add_mul]; omega]
      exact this
end
end Go.Proofs.YtbicffldggcdhaaGreatDoor

namespace Go.Proofs.YtbicffldggcdhaaGreatDoor
open Go

section
variable {pre x post : List Value} {k a b n : Nat} {v : Value}
theorem mid_get (h : x[k]? = some v) : (pre ++ (x ++ post))[pre.length + k]? = some v := by
  have hl := (List.getElem?_eq_some_iff.1 h).1
  rw [List.getElem?_append_right (by omega), show pre.length + k - pre.length = k by omega, List.getElem?_append_left hl]
  exact h
theorem mid_get0 (h : x[0]? = some v) : (pre ++ (x ++ post))[pre.length]? = some v := mid_get (k := 0) h
theorem mid_get2 (h : x[a + b]? = some v) : (pre ++ (x ++ post))[pre.length + a + b]? = some v := by
  rw [Nat.add_assoc]
  exact mid_get h
theorem mid_set (h : k < x.length) : (pre ++ (x ++ post)).set (pre.length + k) v = pre ++ (x.set k v ++ post) := by
  rw [List.set_append_right _ _ (by omega), show pre.length + k - pre.length = k by omega, List.set_append_left _ _ h]
theorem mid_set2 (h : a + b < x.length) : (pre ++ (x ++ post)).set (pre.length + a + b) v = pre ++ (x.set (a + b) v ++ post) := by
  rw [Nat.add_assoc]
  exact mid_set h
theorem mid_sub : ∀ (pre : List Value) (k : Nat), k + n ≤ x.length → sub (pre ++ (x ++ post)) (pre.length + k) n = sub x k n
  | [], k, h => by
    rw [List.nil_append, List.length_nil, Nat.zero_add]
    induction n generalizing k with
    | zero => rw [sub_zero, sub_zero]
    | succ n ih =>
      have hk : k < x.length := by omega
      have e : x[k]? = some x[k] := List.getElem?_eq_getElem hk
      rw [sub_succ x k n x[k] e, sub_succ (x ++ post) k n x[k] (by rw [List.getElem?_append_left hk]; exact e), ih (k + 1) (by omega)]
  | y :: pre, k, h => by
    rw [List.length_cons, List.cons_append, show pre.length + 1 + k = pre.length + k + 1 by omega]
    exact mid_sub pre k h
theorem mid_put : ∀ (vs x : List Value) (k : Nat), k + vs.length ≤ x.length → put (pre ++ (x ++ post)) (pre.length + k) vs = pre ++ (put x k vs ++ post)
  | [], x, k, _ => by rw [put_nil, put_nil]
  | v :: vs, x, k, h => by
    simp only [List.length_cons] at h
    rw [put_cons _ _ _ _ (by simp; omega), mid_set (by omega), put_cons _ _ _ _ (by omega), show pre.length + k + 1 = pre.length + (k + 1) by omega]
    exact mid_put vs _ (k + 1) (by rw [List.length_set]; omega)
end
theorem fl_take_drop {α : Type} (f : α → List Value) {l : List α} {i : Nat} {x : α} (h : l[i]? = some x) (rest : List Value) : fl f l ++ rest = fl f (l.take i) ++ (f x ++ (fl f (l.drop (i + 1)) ++ rest)) := by
  have hl := (List.getElem?_eq_some_iff.1 h).1
  have e : l = l.take i ++ x :: l.drop (i + 1) := by
    conv => lhs; rw [← List.take_append_drop i l, List.drop_eq_getElem_cons hl]
    have : l[i] = x := by rw [List.getElem?_eq_getElem hl] at h; exact Option.some.inj h
    rw [this]
  conv => lhs; rw [e, fl_append]
  simp only [fl, List.append_assoc]
theorem fl_set {α : Type} (f : α → List Value) {l : List α} {i : Nat} {x : α} (h : i < l.length) (rest : List Value) : fl f (l.set i x) ++ rest = fl f (l.take i) ++ (f x ++ (fl f (l.drop (i + 1)) ++ rest)) := by
  rw [fl_take_drop f (l := l.set i x) (i := i) (x := x) (List.getElem?_set_self h)]
  rw [List.take_set_of_le (Nat.le_refl _), List.drop_set_of_lt (by omega)]
end Go.Proofs.YtbicffldggcdhaaGreatDoor

namespace Go.Proofs.YtbicffldggcdhaaGreatDoor
open Go

/-- What the messages down make of n. -/
def Cnt (len : Int) (c : Cli) : Prop :=
  ((∀ m ∈ c.down, m.tree = none) ∧ c.n + c.down.length = len) ∨ ∃ m ds, c.down = m :: ds ∧ m.tree.isSome ∧ (∀ m ∈ ds, m.tree = none) ∧ m.n + ds.length = len
structure COk (ents : List Ent) (i : Int) (c : Cli) : Prop where
  n0 : 0 ≤ c.n ∧ c.n ≤ ents.length
  p6 : c.pend.length ≤ 6
  sq : c.seq = c.pend.length + c.ans.length
  pr : ∀ q ∈ c.pend, q.1 ≤ c.seq
  off : c.joined = false → c.up = [] ∧ c.told = false
  nd : c.told = false → c.down = []
  hl : ∀ m ∈ c.up, m.hello = true → m.seq = c.n ∧ c.told = false
  hd : ∀ m ∈ c.up.tail, m.hello = false
  ur : ∀ m ∈ c.up, m.hello = false → m.seq ≤ c.seq
  un : ∀ m ∈ c.up, m.hello = false → taken ents i m.seq = false → m.seq ∈ c.pend.map (·.1)
  cnt : c.told = true → Cnt ents.length c
  n2 : ∀ m ∈ c.down, m.tree.isSome → 0 ≤ m.n
  dt : ∀ m ∈ c.down, (m.tree = none → m.ent.client = i → taken ents i m.ent.seq = true) ∧ m.ans.length ≤ ents.length ∧ ∀ a ∈ m.ans, taken ents i a.seq = true
theorem cok0 {ents : List Ent} {i : Int} : COk ents i cli0 := by
  refine ⟨⟨by simp [cli0], by simp [cli0]⟩, ?_, ?_, ?_, ?_, ?_, ?_, ?_, ?_, ?_, ?_, ?_, ?_⟩ <;> simp [cli0]
section
variable {ents : List Ent} {i : Int} {c : Cli}
theorem COk.edit (h : COk ents i c) (hp : c.pend.length < 6) (e : Ed) : COk ents i (editC c e) := by
  have hup : ∀ m ∈ (editC c e).up, m ∈ c.up ∨ (m = msgE (c.seq + 1) e ∧ c.joined = true) := by
    intro m hm
    unfold editC at hm
    simp only at hm
    split at hm
    · rename_i hj
      rcases List.mem_append.1 hm with h1 | h1
      · exact .inl h1
      · simp at h1
        exact .inr ⟨h1, hj⟩
    · exact .inl hm
  refine ⟨h.n0, by simp [editC]; omega, by have := h.sq; simp [editC]; omega, ?_, ?_, h.nd, ?_, ?_, ?_, ?_, h.cnt, h.n2, h.dt⟩
  · intro q hq
    simp only [editC, List.mem_append, List.mem_cons, List.not_mem_nil, or_false] at hq
    rcases hq with hq | rfl
    · have := h.pr q hq; show q.1 ≤ c.seq + 1; omega
    · exact Int.le_refl _
  · intro hj
    have hj' : c.joined = false := hj
    have := h.off hj'
    exact ⟨by simp [editC, hj', this.1], this.2⟩
  · intro m hm hh
    rcases hup m hm with h1 | ⟨rfl, _⟩
    · exact h.hl m h1 hh
    · cases hh
  · intro m hm
    unfold editC at hm
    simp only at hm
    split at hm
    · cases hu : c.up with
      | nil => rw [hu] at hm; cases hm
      | cons a us =>
        rw [hu] at hm
        rcases List.mem_append.1 hm with h1 | h1
        · exact h.hd m (by rw [hu]; exact h1)
        · simp at h1; subst h1; rfl
    · exact h.hd m hm
  · intro m hm hh
    rcases hup m hm with h1 | ⟨rfl, _⟩
    · have := h.ur m h1 hh; show m.seq ≤ c.seq + 1; omega
    · exact Int.le_refl _
  · intro m hm hh ht
    show m.seq ∈ (c.pend ++ [(c.seq + 1, e)]).map (·.1)
    rw [List.map_append, List.mem_append]
    rcases hup m hm with h1 | ⟨rfl, _⟩
    · exact .inl (h.un m h1 hh ht)
    · exact .inr (by simp [msgE])
theorem COk.join (h : COk ents i c) (hj : c.joined = false) : COk ents i (joinC c) := by
  have h0 := h.off hj
  have hup : ∀ m ∈ (joinC c).up, m = msgH c.n ∨ ∃ q ∈ c.pend, m = msgE q.1 q.2 := by
    intro m hm
    simp only [joinC, List.mem_cons, List.mem_map] at hm
    rcases hm with rfl | ⟨q, hq, rfl⟩
    · exact .inl rfl
    · exact .inr ⟨q, hq, rfl⟩
  refine ⟨h.n0, h.p6, h.sq, h.pr, fun hj' => (by cases hj'), h.nd, ?_, ?_, ?_, ?_, h.cnt, h.n2, h.dt⟩
  · intro m hm hh
    rcases hup m hm with rfl | ⟨q, hq, rfl⟩
    · exact ⟨rfl, h0.2⟩
    · cases hh
  · intro m hm
    simp only [joinC, List.tail_cons, List.mem_map] at hm
    obtain ⟨q, _, rfl⟩ := hm
    rfl
  · intro m hm hh
    rcases hup m hm with rfl | ⟨q, hq, rfl⟩
    · cases hh
    · exact h.pr q hq
  · intro m hm hh _
    rcases hup m hm with rfl | ⟨q, hq, rfl⟩
    · cases hh
    · exact List.mem_map.2 ⟨q, hq, rfl⟩
theorem COk.drop (h : COk ents i c) : COk ents i (dropC c) :=
  ⟨h.n0, h.p6, h.sq, h.pr, fun _ => ⟨rfl, rfl⟩, fun _ => rfl, fun m hm => (by cases hm), fun m hm => (by cases hm), fun m hm => (by cases hm), fun m hm => (by cases hm), fun ht => (by cases ht), fun m hm => (by cases hm), fun m hm => (by cases hm)⟩
/-- The first message is taken off. -/
theorem COk.pop {m : Msg} {us : List Msg} (h : COk ents i c) (hu : c.up = m :: us) : COk ents i { c with up := us } := by
  have hs : ∀ m' ∈ us, m' ∈ c.up := fun m' hm => by rw [hu]; exact List.mem_cons_of_mem _ hm
  exact ⟨h.n0, h.p6, h.sq, h.pr, fun hj => (by have := (h.off hj).1; rw [hu] at this; cases this), h.nd, fun m' hm => h.hl m' (hs m' hm), fun m' hm => h.hd m' (by rw [hu]; exact List.mem_of_mem_tail hm), fun m' hm => h.ur m' (hs m' hm), fun m' hm => h.un m' (hs m' hm), h.cnt, h.n2, h.dt⟩
theorem taken_append {l : List Ent} {x : Ent} {i s : Int} (h : taken l i s = true) : taken (l ++ [x]) i s = true := by
  unfold taken at *
  rw [List.any_append, h]
  rfl
theorem taken_not {l : List Ent} {x : Ent} {i s : Int} (h : taken (l ++ [x]) i s = false) : taken l i s = false := by
  cases ht : taken l i s with
  | false => rfl
  | true => rw [taken_append ht] at h; cases h
/-- One entry more, which all that are told are told of. -/
theorem COk.tell (h : COk ents i c) (x : Ent) : COk (ents ++ [x]) i (tell x c) := by
  have hlen : ((ents ++ [x]).length : Int) = ents.length + 1 := by simp
  unfold Go.Proofs.YtbicffldggcdhaaGreatDoor.tell
  by_cases ht : c.told = true
  · rw [if_pos ht]
    have hc := h.cnt ht
    refine ⟨⟨h.n0.1, by have := h.n0.2; show c.n ≤ _; omega⟩, h.p6, h.sq, h.pr, fun hj => (by have := (h.off hj).2; rw [ht] at this; cases this), fun hn => (by have hn' : c.told = false := hn; rw [ht] at hn'; cases hn'), fun m hm hh => h.hl m hm hh, h.hd, h.ur, fun m hm hh hn => h.un m hm hh (taken_not hn), fun _ => ?_, ?_, ?_⟩
    · rcases hc with ⟨h1, h2⟩ | ⟨m, ds, h1, h2, h3, h4⟩
      · refine .inl ⟨?_, by simp; omega⟩
        intro m hm
        rcases List.mem_append.1 hm with hm | hm
        · exact h1 m hm
        · simp at hm; subst hm; rfl
      · refine .inr ⟨m, ds ++ [msgN x], by rw [h1]; rfl, h2, ?_, by simp; omega⟩
        intro m' hm
        rcases List.mem_append.1 hm with hm | hm
        · exact h3 m' hm
        · simp at hm; subst hm; rfl
    · intro m hm hs
      rcases List.mem_append.1 hm with hm | hm
      · exact h.n2 m hm hs
      · simp at hm; subst hm; cases hs
    · intro m hm
      rcases List.mem_append.1 hm with hm | hm
      · have h1 := h.dt m hm
        exact ⟨fun a b => taken_append (h1.1 a b), by simp; omega, fun a ha => taken_append (h1.2.2 a ha)⟩
      · simp at hm
        subst hm
        refine ⟨fun _ hc => ?_, by simp [msgN], fun a ha => by cases ha⟩
        have hc' : x.client = i := hc
        unfold taken
        simp [msgN, hc']
  · rw [if_neg ht]
    have ht' : c.told = false := by simpa using ht
    refine ⟨⟨h.n0.1, by have := h.n0.2; omega⟩, h.p6, h.sq, h.pr, h.off, h.nd, h.hl, h.hd, h.ur, fun m hm hh hn => h.un m hm hh (taken_not hn), fun hn => absurd hn ht, h.n2, fun m hm => ?_⟩
    rw [h.nd ht'] at hm
    cases hm
theorem taken_mem {l : List Ent} {x : Ent} (h : x ∈ l) : taken l x.client x.seq = true := by
  unfold taken
  exact List.any_eq_true.2 ⟨x, h, by simp⟩
theorem COk.hello {P : Par} {us : List Msg} {m : Msg} (h : COk P.ents i c) (hu : c.up = m :: us) (hm : m.hello = true) : COk P.ents i (helloC P i { c with up := us } m.seq) := by
  obtain ⟨hn, ht⟩ := h.hl m (by rw [hu]; exact List.mem_cons_self) hm
  have hd := h.nd ht
  have hno : ∀ m' ∈ us, m'.hello = false := fun m' hm' => h.hd m' (by rw [hu]; exact hm')
  have hs : ∀ m' ∈ us, m' ∈ c.up := fun m' hm' => by rw [hu]; exact List.mem_cons_of_mem _ hm'
  have h0 := h.n0
  have hjn : c.joined = true := by
    cases hj : c.joined with
    | true => rfl
    | false => have := (h.off hj).1; rw [hu] at this; cases this
  have key : ∀ dl : List Msg, (helloC P i { c with up := us } m.seq) = { c with up := us, told := true, down := dl } → Cnt P.ents.length { c with up := us, told := true, down := dl } → (∀ m ∈ dl, m.tree.isSome → 0 ≤ m.n) → (∀ m ∈ dl, (m.tree = none → m.ent.client = i → taken P.ents i m.ent.seq = true) ∧ m.ans.length ≤ P.ents.length ∧ ∀ a ∈ m.ans, taken P.ents i a.seq = true) → COk P.ents i (helloC P i { c with up := us } m.seq) := by
    intro dl e h1 h2 h3
    rw [e]
    exact ⟨h.n0, h.p6, h.sq, h.pr, fun hj => (by have hj' : c.joined = false := hj; rw [hjn] at hj'; cases hj'), fun hn => (by cases hn), fun m' hm' hh => (by rw [hno m' hm'] at hh; cases hh), fun m' hm' => hno m' (List.mem_of_mem_tail hm'), fun m' hm' => h.ur m' (hs m' hm'), fun m' hm' => h.un m' (hs m' hm'), fun _ => h1, h2, h3⟩
  by_cases hle : (P.ents.length : Int) - m.seq ≤ P.log
  · refine key ((P.ents.drop m.seq.toNat).map msgN) (by simp [helloC, hle, hd]) (.inl ⟨?_, ?_⟩) ?_ ?_
    · intro m' hm'
      obtain ⟨x, _, rfl⟩ := List.mem_map.1 hm'
      rfl
    · simp only [List.length_map, List.length_drop]
      omega
    · intro m' hm' hs'
      obtain ⟨x, _, rfl⟩ := List.mem_map.1 hm'
      cases hs'
    · intro m' hm'
      obtain ⟨x, hx, rfl⟩ := List.mem_map.1 hm'
      refine ⟨fun _ hc => ?_, Nat.zero_le _, fun a ha => by cases ha⟩
      have hc' : x.client = i := hc
      have := taken_mem (List.mem_of_mem_drop hx)
      rw [hc'] at this
      exact this
  · refine key [msgS P.t P.ents.length (ansOf P.ents i)] (by simp [helloC, hle, hd]) (.inr ⟨_, [], rfl, rfl, fun m' hm' => (by cases hm'), by simp [msgS]⟩) ?_ ?_
    · intro m' hm' _
      simp at hm'
      subst hm'
      simp [msgS]
    · intro m' hm'
      simp at hm'
      subst hm'
      refine ⟨fun hn => (by cases hn), ?_, fun a ha => ?_⟩
      · simp only [msgS, ansOf, List.length_map]
        exact List.length_filter_le _ _
      · simp only [msgS, ansOf, List.mem_map, List.mem_filter] at ha
        obtain ⟨x, ⟨hx, hxc⟩, rfl⟩ := ha
        have := taken_mem hx
        rw [show x.client = i by simpa using hxc] at this
        exact this
/-- A pending edit is answered. -/
theorem COk.answered (h : COk ents i c) {a : Ans} (ha : taken ents i a.seq = true) : COk ents i (answered c a) := by
  unfold Go.Proofs.YtbicffldggcdhaaGreatDoor.answered
  split
  · rename_i hany
    obtain ⟨q, hq, hqs⟩ := List.any_eq_true.1 hany
    have hl : (c.pend.eraseP fun q => decide (q.1 = a.seq)).length = c.pend.length - 1 := List.length_eraseP_of_mem hq hqs
    have hpos : 0 < c.pend.length := List.length_pos_of_mem hq
    refine ⟨h.n0, by have := h.p6; show (c.pend.eraseP _).length ≤ 6; omega, ?_, fun q hq => h.pr q (List.mem_of_mem_eraseP hq), h.off, h.nd, h.hl, h.hd, h.ur, fun m hm hh ht => ?_, h.cnt, h.n2, h.dt⟩
    · have := h.sq
      show c.seq = ((c.pend.eraseP _).length : Int) + ((c.ans ++ [a]).length : Int)
      rw [hl, List.length_append]
      simp only [List.length_cons, List.length_nil]
      omega
    · obtain ⟨p, hp, hps⟩ := List.mem_map.1 (h.un m hm hh ht)
      refine List.mem_map.2 ⟨p, ?_, hps⟩
      refine (List.mem_eraseP_of_neg ?_).2 hp
      intro he
      have he' : p.1 = a.seq := by simpa using he
      rw [← hps, he', ha] at ht
      cases ht
  · exact h
/-- A message down has come: before anything is answered. -/
theorem COk.came {m : Msg} {ds : List Msg} (h : COk ents i c) (hd : c.down = m :: ds) (bs : List Nd) (n : Int) (hn : n = if m.tree.isSome then m.n else c.n + 1) : COk ents i { c with down := ds, base := bs, n := n } := by
  have ht : c.told = true := by
    cases ht : c.told with
    | true => rfl
    | false => have := h.nd ht; rw [hd] at this; cases this
  have hno : ∀ m' ∈ c.up, m'.hello = true → False := fun m' hm' hh => by have := (h.hl m' hm' hh).2; rw [ht] at this; cases this
  have hmm : m ∈ c.down := by rw [hd]; exact List.mem_cons_self
  have hs : ∀ m' ∈ ds, m' ∈ c.down := fun m' hm' => by rw [hd]; exact List.mem_cons_of_mem _ hm'
  have h0 := h.n0
  have hc : 0 ≤ n ∧ (∀ m ∈ ds, m.tree = none) ∧ n + ds.length = ents.length := by
    rcases h.cnt ht with ⟨h1, h2⟩ | ⟨m', ds', h1, h2, h3, h4⟩
    · rw [h1 m hmm] at hn
      rw [hd, List.length_cons] at h2
      simp at hn
      exact ⟨by omega, fun m' hm' => h1 m' (hs m' hm'), by omega⟩
    · rw [hd] at h1
      cases h1
      rw [if_pos h2] at hn
      exact ⟨by rw [hn]; exact h.n2 m hmm h2, h3, by rw [hn]; exact h4⟩
  exact ⟨⟨hc.1, by show n ≤ _; omega⟩, h.p6, h.sq, h.pr, h.off, fun hn => (by have hn' : c.told = false := hn; rw [ht] at hn'; cases hn'), fun m' hm' hh => (hno m' hm' hh).elim, h.hd, h.ur, h.un, fun _ => .inl hc.2, fun m' hm' => h.n2 m' (hs m' hm'), fun m' hm' => h.dt m' (hs m' hm')⟩
end
end Go.Proofs.YtbicffldggcdhaaGreatDoor

namespace Go.Proofs.YtbicffldggcdhaaGreatDoor
open Go

theorem nodup_sub {α : Type} [DecidableEq α] : ∀ {l m : List α}, l.Nodup → (∀ x ∈ l, x ∈ m) → l.length ≤ m.length
  | [], m, _, _ => Nat.zero_le _
  | x :: l, m, hn, hs => by
    rw [List.nodup_cons] at hn
    have hx := hs x List.mem_cons_self
    have := nodup_sub (l := l) (m := m.erase x) hn.2 (fun y hy => (List.mem_erase_of_ne (fun e => hn.1 (by rw [← e]; exact hy))).2 (hs y (List.mem_cons_of_mem _ hy)))
    rw [List.length_erase_of_mem hx] at this
    have := List.length_pos_of_mem hx
    rw [List.length_cons]
    omega
theorem filter_leq {α : Type} {p q : α → Bool} : ∀ {l : List α}, (∀ x ∈ l, q x = true → p x = true) → (l.filter q).length ≤ (l.filter p).length
  | [], _ => Nat.le_refl _
  | x :: l, h => by
    have ih := filter_leq (l := l) (fun y hy => h y (List.mem_cons_of_mem _ hy))
    have hx := h x List.mem_cons_self
    cases hq : q x with
    | false =>
      rw [List.filter_cons_of_neg (by simp [hq])]
      cases hp : p x with
      | false => rw [List.filter_cons_of_neg (by simp [hp])]; exact ih
      | true => rw [List.filter_cons_of_pos (by simp [hp]), List.length_cons]; omega
    | true =>
      rw [List.filter_cons_of_pos (by simp [hq]), List.filter_cons_of_pos (by simp [hx hq]), List.length_cons, List.length_cons]
      omega
theorem filter_less {α : Type} {p q : α → Bool} : ∀ {l : List α}, (∀ x ∈ l, q x = true → p x = true) → (∃ x ∈ l, p x = true ∧ q x = false) → (l.filter q).length + 1 ≤ (l.filter p).length
  | [], _, h => by obtain ⟨x, hx, _⟩ := h; cases hx
  | x :: l, h, he => by
    have hl : ∀ y ∈ l, q y = true → p y = true := fun y hy => h y (List.mem_cons_of_mem _ hy)
    have hx := h x List.mem_cons_self
    obtain ⟨y, hy, hpy, hqy⟩ := he
    rcases List.mem_cons.1 hy with rfl | hy
    · rw [List.filter_cons_of_neg (by simp [hqy]), List.filter_cons_of_pos (by simp [hpy]), List.length_cons]
      have := filter_leq hl
      omega
    · have ih := filter_less hl ⟨y, hy, hpy, hqy⟩
      cases hq : q x with
      | false =>
        rw [List.filter_cons_of_neg (by simp [hq])]
        cases hp : p x with
        | false => rw [List.filter_cons_of_neg (by simp [hp])]; exact ih
        | true => rw [List.filter_cons_of_pos (by simp [hp]), List.length_cons]; omega
      | true =>
        rw [List.filter_cons_of_pos (by simp [hq]), List.filter_cons_of_pos (by simp [hx hq]), List.length_cons, List.length_cons]
        omega
def edits (l : List Msg) : List Msg := l.filter fun m => !m.hello
structure CO2 (ents : List Ent) (i : Int) (c : Cli) : Prop where
  ok : COk ents i c
  us : ((edits c.up).map (·.seq)).Nodup
  tk : ((edits c.up).filter fun m => taken ents i m.seq).length ≤ 6
  pd : (c.pend.map (·.1)).Nodup
  es : ∀ x ∈ ents, x.client = i → x.seq ≤ c.seq
  tu : (ents.filter fun x => decide (x.client = i)).length + (c.pend.filter fun q => !taken ents i q.1).length ≤ c.pend.length + c.ans.length
section
variable {ents : List Ent} {i : Int} {c : Cli}
theorem co20 : CO2 [] i cli0 := ⟨cok0, by simp [cli0, edits], by simp [cli0, edits], by simp [cli0], fun x h => (by cases h), by simp [cli0]⟩
theorem mem_edits {l : List Msg} {m : Msg} : m ∈ edits l ↔ m ∈ l ∧ m.hello = false := by
  unfold edits
  rw [List.mem_filter]
  simp
/-- At most thirteen messages up. -/
theorem CO2.up13 (h : CO2 ents i c) : c.up.length ≤ 13 := by
  have h1 : c.up.length ≤ 1 + (edits c.up).length := by
    cases hu : c.up with
    | nil => simp
    | cons m us =>
      have ht : edits us = us := by
        unfold edits
        rw [List.filter_eq_self]
        intro m' hm'
        have := h.ok.hd m' (by rw [hu]; exact hm')
        simp [this]
      have : us.length ≤ (edits (m :: us)).length := by
        rw [show edits (m :: us) = (if !m.hello then m :: edits us else edits us) by unfold edits; rw [List.filter_cons], ht]
        split
        · rw [List.length_cons]; omega
        · exact Nat.le_refl _
      rw [List.length_cons]
      omega
  have h2 : (edits c.up).length = ((edits c.up).filter fun m => taken ents i m.seq).length + ((edits c.up).filter fun m => !taken ents i m.seq).length := by
    generalize edits c.up = l
    induction l with
    | nil => rfl
    | cons a l ih =>
      cases ha : taken ents i a.seq with
      | true => rw [List.filter_cons_of_pos (by simp [ha]), List.filter_cons_of_neg (by simp [ha]), List.length_cons, List.length_cons]; omega
      | false => rw [List.filter_cons_of_neg (by simp [ha]), List.filter_cons_of_pos (by simp [ha]), List.length_cons, List.length_cons]; omega
  have h3 : (((edits c.up).filter fun m => !taken ents i m.seq).map (·.seq)).length ≤ (c.pend.map (·.1)).length := by
    refine nodup_sub (h.us.sublist (List.filter_sublist.map _)) (fun s hs => ?_)
    obtain ⟨m, hm, rfl⟩ := List.mem_map.1 hs
    rw [List.mem_filter] at hm
    obtain ⟨hm1, hm2⟩ := hm
    have := mem_edits.1 hm1
    exact h.ok.un m this.1 this.2 (by simpa using hm2)
  rw [List.length_map, List.length_map] at h3
  have := h.ok.p6
  have := h.tk
  omega
theorem CO2.pop {m : Msg} {us : List Msg} (h : CO2 ents i c) (hu : c.up = m :: us) : CO2 ents i { c with up := us } := by
  have hs : (edits us).Sublist (edits c.up) := by rw [hu]; exact (List.sublist_cons_self m us).filter _
  exact ⟨h.ok.pop hu, h.us.sublist (hs.map _), Nat.le_trans (hs.filter _).length_le h.tk, h.pd, h.es, h.tu⟩
theorem CO2.drop (h : CO2 ents i c) : CO2 ents i (dropC c) := ⟨h.ok.drop, by simp [dropC, edits], by simp [dropC, edits], h.pd, h.es, h.tu⟩
theorem edits_append (a b : List Msg) : edits (a ++ b) = edits a ++ edits b := List.filter_append ..
theorem taken_false {l : List Ent} {i s : Int} (h : ∀ x ∈ l, x.client = i → x.seq ≤ s - 1) : taken l i s = false := by
  unfold taken
  rw [List.any_eq_false]
  intro x hx
  have := h x hx
  simp
  intro hc
  have := this hc
  omega
theorem CO2.edit (h : CO2 ents i c) (hp : c.pend.length < 6) (e : Ed) : CO2 ents i (editC c e) := by
  have hnt : taken ents i (c.seq + 1) = false := taken_false (fun x hx hc => by have := h.es x hx hc; omega)
  have hup : (editC c e).up = c.up ∨ (editC c e).up = c.up ++ [msgE (c.seq + 1) e] := by
    simp only [editC]
    split
    · exact .inr rfl
    · exact .inl rfl
  have hed : edits [msgE (c.seq + 1) e] = [msgE (c.seq + 1) e] := rfl
  refine ⟨h.ok.edit hp e, ?_, ?_, ?_, fun x hx hc => by have := h.es x hx hc; show x.seq ≤ c.seq + 1; omega, ?_⟩
  · rcases hup with h1 | h1 <;> rw [h1]
    · exact h.us
    · rw [edits_append, hed, List.map_append, List.nodup_append]
      refine ⟨h.us, by simp, ?_⟩
      intro a ha b hb
      obtain ⟨m, hm, rfl⟩ := List.mem_map.1 ha
      have hm' := mem_edits.1 hm
      have := h.ok.ur m hm'.1 hm'.2
      simp [msgE] at hb
      omega
  · rcases hup with h1 | h1 <;> rw [h1]
    · exact h.tk
    · rw [edits_append, hed, List.filter_append, List.filter_cons_of_neg (by simp [msgE, hnt]), List.filter_nil, List.append_nil]
      exact h.tk
  · show ((c.pend ++ [(c.seq + 1, e)]).map (·.1)).Nodup
    rw [List.map_append, List.nodup_append]
    refine ⟨h.pd, by simp, ?_⟩
    intro a ha b hb
    obtain ⟨q, hq, rfl⟩ := List.mem_map.1 ha
    have := h.ok.pr q hq
    simp at hb
    omega
  · show _ + ((c.pend ++ [(c.seq + 1, e)]).filter _).length ≤ (c.pend ++ [(c.seq + 1, e)]).length + c.ans.length
    rw [List.filter_append, List.length_append, List.length_append, List.filter_cons_of_pos (by simp [hnt])]
    have := h.tu
    simp only [List.filter_nil, List.length_cons, List.length_nil]
    omega
theorem CO2.join (h : CO2 ents i c) (hj : c.joined = false) : CO2 ents i (joinC c) := by
  have he : edits (joinC c).up = c.pend.map fun q => msgE q.1 q.2 := by
    show edits (msgH c.n :: c.pend.map fun q => msgE q.1 q.2) = _
    unfold edits
    rw [List.filter_cons_of_neg (by simp [msgH]), List.filter_eq_self]
    intro m hm
    obtain ⟨q, _, rfl⟩ := List.mem_map.1 hm
    rfl
  refine ⟨h.ok.join hj, ?_, ?_, h.pd, h.es, h.tu⟩
  · rw [he, List.map_map]
    exact h.pd
  · rw [he]
    exact Nat.le_trans (List.length_filter_le _ _) (by rw [List.length_map]; exact h.ok.p6)
theorem CO2.hello {P : Par} {us : List Msg} {m : Msg} (h : CO2 P.ents i c) (hu : c.up = m :: us) (hm : m.hello = true) : CO2 P.ents i (helloC P i { c with up := us } m.seq) := by
  have h1 := h.pop hu
  exact ⟨h.ok.hello hu hm, h1.us, h1.tk, h1.pd, h1.es, h1.tu⟩
theorem tell_up (x : Ent) (c : Cli) : (tell x c).up = c.up ∧ (tell x c).pend = c.pend ∧ (tell x c).ans = c.ans ∧ (tell x c).seq = c.seq := by
  unfold tell
  split <;> exact ⟨rfl, rfl, rfl, rfl⟩
theorem taken_other {l : List Ent} {x : Ent} {i s : Int} (h : x.client ≠ i ∨ x.seq ≠ s) : taken (l ++ [x]) i s = taken l i s := by
  unfold taken
  rw [List.any_append]
  have hf : (decide (x.client = i ∧ x.seq = s)) = false := by simp; omega
  rw [List.any_cons, hf, List.any_nil, Bool.or_false, Bool.or_false]
/-- Another's entry. -/
theorem CO2.tell (h : CO2 ents i c) {x : Ent} (hx : x.client ≠ i) : CO2 (ents ++ [x]) i (tell x c) := by
  obtain ⟨e1, e2, e3, e4⟩ := tell_up x c
  have ht : ∀ s, taken (ents ++ [x]) i s = taken ents i s := fun s => taken_other (.inl hx)
  refine ⟨h.ok.tell x, by rw [e1]; exact h.us, ?_, by rw [e2]; exact h.pd, fun y hy hc => ?_, ?_⟩
  · rw [e1]
    simp only [ht]
    exact h.tk
  · rw [e4]
    rcases List.mem_append.1 hy with hy | hy
    · exact h.es y hy hc
    · simp at hy; subst hy; exact (hx hc).elim
  · rw [e2, e3]
    simp only [ht]
    rw [List.filter_append, List.filter_cons_of_neg (by simpa using hx), List.filter_nil, List.append_nil]
    exact h.tu
/-- Its own edit is taken. -/
theorem CO2.take {m : Msg} {us : List Msg} (h : CO2 ents i c) (hu : c.up = m :: us) (hm : m.hello = false) (ht : taken ents i m.seq = false) {x : Ent} (hxc : x.client = i) (hxs : x.seq = m.seq) : CO2 (ents ++ [x]) i (Go.Proofs.YtbicffldggcdhaaGreatDoor.tell x { c with up := us }) := by
  have h1 := h.pop hu
  obtain ⟨e1, e2, e3, e4⟩ := tell_up x { c with up := us }
  have hmm : m ∈ c.up := by rw [hu]; exact List.mem_cons_self
  have hus := h.us
  rw [hu, show edits (m :: us) = m :: edits us by unfold edits; rw [List.filter_cons_of_pos (by simp [hm])], List.map_cons, List.nodup_cons] at hus
  have hpm := h.ok.un m hmm hm ht
  refine ⟨h1.ok.tell x, by rw [e1]; exact h1.us, ?_, by rw [e2]; exact h.pd, fun y hy hc => ?_, ?_⟩
  · rw [e1]
    show ((edits us).filter _).length ≤ 6
    rw [List.filter_congr (q := fun m => taken ents i m.seq)]
    · exact h1.tk
    · intro m' hm'
      refine taken_other (.inr fun e => hus.1 ?_)
      rw [← hxs, e]
      exact List.mem_map.2 ⟨m', hm', rfl⟩
  · rw [e4]
    rcases List.mem_append.1 hy with hy | hy
    · exact h.es y hy hc
    · simp at hy; subst hy; rw [hxs]; exact h.ok.ur m hmm hm
  · rw [e2, e3]
    show _ + (c.pend.filter _).length ≤ c.pend.length + c.ans.length
    rw [List.filter_append, List.filter_cons_of_pos (by simpa using hxc), List.filter_nil, List.length_append]
    obtain ⟨q, hq, hqs⟩ := List.mem_map.1 hpm
    have hlt : (c.pend.filter fun q => !taken (ents ++ [x]) i q.1).length + 1 ≤ (c.pend.filter fun q => !taken ents i q.1).length := by
      refine filter_less (fun q _ hq => ?_) ⟨q, hq, ?_, ?_⟩
      · have : taken (ents ++ [x]) i q.1 = false := by simpa using hq
        simp [taken_not this]
      · show (!taken ents i q.1) = true
        rw [hqs, ht]; rfl
      · have := taken_mem (l := ents ++ [x]) (x := x) (by simp)
        rw [hxc, hxs] at this
        show (!taken (ents ++ [x]) i q.1) = false
        rw [hqs, this]; rfl
    have := h.tu
    simp only [List.length_cons, List.length_nil]
    omega
theorem CO2.answered (h : CO2 ents i c) {a : Ans} (ha : taken ents i a.seq = true) : CO2 ents i (answered c a) := by
  have hok := h.ok.answered ha
  unfold Go.Proofs.YtbicffldggcdhaaGreatDoor.answered at hok ⊢
  split
  · rename_i hany
    rw [if_pos hany] at hok
    obtain ⟨q, hq, hqs⟩ := List.any_eq_true.1 hany
    have hl : (c.pend.eraseP fun q => decide (q.1 = a.seq)).length = c.pend.length - 1 := List.length_eraseP_of_mem hq hqs
    have hpos : 0 < c.pend.length := List.length_pos_of_mem hq
    have hsub : (c.pend.eraseP fun q => decide (q.1 = a.seq)).Sublist c.pend := List.eraseP_sublist
    refine ⟨hok, h.us, h.tk, h.pd.sublist (hsub.map _), h.es, ?_⟩
    have := h.tu
    have := (hsub.filter fun q => !taken ents i q.1).length_le
    show _ + ((c.pend.eraseP _).filter _).length ≤ (c.pend.eraseP _).length + (c.ans ++ [a]).length
    rw [hl, List.length_append]
    simp only [List.length_cons, List.length_nil]
    omega
  · exact h
theorem CO2.fold (l : List Ans) : ∀ {c : Cli}, CO2 ents i c → (∀ a ∈ l, taken ents i a.seq = true) → CO2 ents i (l.foldl Go.Proofs.YtbicffldggcdhaaGreatDoor.answered c) := by
  induction l with
  | nil => intro c h _; exact h
  | cons a l ih => intro c h ha; exact ih (h.answered (ha a List.mem_cons_self)) (fun b hb => ha b (List.mem_cons_of_mem _ hb))
theorem CO2.down {m : Msg} {ds : List Msg} (h : CO2 ents i c) (hd : c.down = m :: ds) : CO2 ents i (downC i { c with down := ds } m) := by
  have hmm : m ∈ c.down := by rw [hd]; exact List.mem_cons_self
  have hdt := h.ok.dt m hmm
  have hk : ∀ bs n, (n = if m.tree.isSome then m.n else c.n + 1) → CO2 ents i { c with down := ds, base := bs, n := n } := fun bs n hn => ⟨h.ok.came hd bs n hn, h.us, h.tk, h.pd, h.es, h.tu⟩
  unfold downC
  cases hmt : m.tree with
  | some t => exact CO2.fold m.ans (hk t m.n (by rw [hmt]; rfl)) hdt.2.2
  | none =>
    simp only
    split
    · rename_i hci
      exact (hk _ (c.n + 1) (by rw [hmt]; rfl)).answered (hdt.1 hmt hci)
    · exact hk _ (c.n + 1) (by rw [hmt]; rfl)
/-! ### The whole party -/
structure POk (P : Par) : Prop where
  len : (P.cls.length : Int) = P.clients
  few : P.cls.length ≤ 4
  cl : ∀ (i : Nat) c, P.cls[i]? = some c → CO2 P.ents i c
  who : ∀ x ∈ P.ents, 0 ≤ x.client ∧ x.client < P.clients
theorem pok_new {c l : Int} {P : Par} (h : newP c l = some P) : POk P := by
  unfold newP at h
  split at h
  · cases h
  · cases h
    refine ⟨by simp; omega, by simp; omega, fun i x hx => ?_, fun x hx => by cases hx⟩
    have : x = cli0 := List.eq_of_mem_replicate (List.mem_of_getElem? hx)
    subst this
    exact co20
theorem Par.cl_nat {P : Par} {i : Int} {c : Cli} (h : P.cl i = some c) : ∃ n : Nat, i = n ∧ P.cls[n]? = some c := by
  unfold Par.cl at h
  split at h
  · cases h
  · exact ⟨i.toNat, by omega, h⟩
theorem POk.get {P : Par} {i : Int} {c : Cli} (h : POk P) (hc : P.cl i = some c) : CO2 P.ents i c := by
  obtain ⟨n, rfl, hn⟩ := Par.cl_nat hc
  exact h.cl n c hn
theorem POk.set {P : Par} {i : Int} {c y : Cli} (h : POk P) (hc : P.cl i = some c) (hy : CO2 P.ents i y) : POk (P.set i y) := by
  obtain ⟨n, rfl, hn⟩ := Par.cl_nat hc
  refine ⟨by simpa [Par.set] using h.len, by simpa [Par.set] using h.few, fun j x hx => ?_, h.who⟩
  simp only [Par.set, Int.toNat_natCast] at hx
  by_cases hj : n = j
  · subst hj
    rw [List.getElem?_set_self (List.getElem?_eq_some_iff.1 hn).1] at hx
    cases hx
    exact hy
  · rw [List.getElem?_set_ne hj] at hx
    exact h.cl j x hx
theorem POk.edit {P : Par} (h : POk P) (i : Int) (e : Ed) : POk (editP P i e).2 := by
  unfold editP
  cases hc : P.cl i with
  | none => exact h
  | some c =>
    simp only
    split
    · exact h
    · split
      · exact h
      · exact h.set hc ((h.get hc).edit (by omega) e)
theorem POk.join {P : Par} (h : POk P) (i : Int) : POk (joinP P i).2 := by
  unfold joinP
  cases hc : P.cl i with
  | none => exact h
  | some c =>
    simp only
    split
    · exact h
    · rename_i hj
      exact h.set hc ((h.get hc).join (by simpa using hj))
theorem POk.drop {P : Par} (h : POk P) (i : Int) : POk (dropP P i).2 := by
  unfold dropP
  cases hc : P.cl i with
  | none => exact h
  | some c =>
    simp only
    split
    · exact h.set hc (h.get hc).drop
    · exact h
theorem POk.down {P : Par} (h : POk P) (i : Int) : POk (downP P i).2 := by
  unfold downP
  cases hc : P.cl i with
  | none => exact h
  | some c =>
    simp only
    split
    · exact h
    · rename_i hd
      exact h.set hc ((h.get hc).down hd)
theorem POk.up {P : Par} (h : POk P) (i : Int) : POk (upP P i).2 := by
  unfold upP
  cases hc : P.cl i with
  | none => exact h
  | some c =>
    simp only
    split
    · exact h
    · rename_i m us hu
      split
      · rename_i hm
        exact h.set hc ((h.get hc).hello hu hm)
      · rename_i hm
        have hm' : m.hello = false := by simpa using hm
        split
        · exact h.set hc ((h.get hc).pop hu)
        · rename_i ht
          have ht' : taken P.ents i m.seq = false := by simpa using ht
          have hg := h.get hc
          obtain ⟨n, rfl, hn⟩ := Par.cl_nat hc
          have hlt := (List.getElem?_eq_some_iff.1 hn).1
          have hl := h.len
          refine ⟨by simpa [takeP, Par.set] using hl, by simpa [takeP, Par.set] using h.few, fun j y hy => ?_, fun x hx => ?_⟩
          · simp only [takeP, Par.set, Int.toNat_natCast, List.getElem?_map] at hy
            simp only [takeP, Par.set]
            by_cases hj : n = j
            · subst hj
              rw [List.getElem?_set_self hlt] at hy
              cases hy
              exact hg.take hu hm' ht' rfl rfl
            · rw [List.getElem?_set_ne hj] at hy
              cases hz : P.cls[j]? with
              | none => rw [hz] at hy; cases hy
              | some z =>
                rw [hz] at hy
                cases hy
                exact (h.cl j z hz).tell (by show (n : Int) ≠ j; omega)
          · simp only [takeP, Par.set] at hx ⊢
            rcases List.mem_append.1 hx with hx | hx
            · exact h.who x hx
            · simp at hx
              subst hx
              show 0 ≤ (n : Int) ∧ (n : Int) < P.clients
              omega
end
end Go.Proofs.YtbicffldggcdhaaGreatDoor

namespace Go.Proofs.YtbicffldggcdhaaGreatDoor
open Go

def sumN (f : Cli → Nat) : List Cli → Nat
  | [] => 0
  | c :: l => f c + sumN f l
theorem sum_set (f : Cli → Nat) : ∀ {l : List Cli} {i : Nat} {x y : Cli}, l[i]? = some x → sumN f (l.set i y) + f x = sumN f l + f y
  | [], i, x, y, h => by simp at h
  | c :: l, 0, x, y, h => by
    simp at h
    subst h
    simp only [List.set_cons_zero, sumN]
    omega
  | c :: l, i + 1, x, y, h => by
    have := sum_set f (l := l) (i := i) (x := x) (y := y) (by simpa using h)
    simp only [List.set_cons_succ, sumN]
    omega
theorem sum_map (f : Cli → Nat) (g : Cli → Cli) (h : ∀ c, f (g c) = f c) : ∀ l : List Cli, sumN f (l.map g) = sumN f l
  | [] => rfl
  | c :: l => by simp only [List.map_cons, sumN, h, sum_map f g h l]
theorem sum_le {f g : Cli → Nat} {d : Nat} : ∀ {l : List Cli}, (∀ c ∈ l, f c ≤ g c + d) → sumN f l ≤ sumN g l + d * l.length
  | [], _ => by simp [sumN]
  | c :: l, h => by
    have := sum_le (l := l) (fun c hc => h c (List.mem_cons_of_mem _ hc))
    have := h c List.mem_cons_self
    simp only [sumN, List.length_cons, Nat.mul_add]
    omega
def eC (c : Cli) : Nat := c.pend.length + c.ans.length
def dC (c : Cli) : Nat := c.ans.length
def hC (c : Cli) : Nat := (c.up.filter fun m => m.hello).length
def sC (c : Cli) : Nat := (c.down.filter fun m => m.tree.isSome).length
/-- N steps pay for it. -/
def Paid (N : Nat) (P : Par) : Prop := ∃ De S, sumN dC P.cls ≤ De + 6 * S ∧ sumN eC P.cls + P.ents.length + De + sumN hC P.cls + 2 * sumN sC P.cls + 3 * S ≤ N
theorem Paid.mono {N M : Nat} {P : Par} (h : Paid N P) (hl : N ≤ M) : Paid M P := by
  obtain ⟨De, S, h1, h2⟩ := h
  exact ⟨De, S, h1, by omega⟩
/-- One client goes on. -/
theorem Paid.set {N : Nat} {P : Par} {i : Int} {c y : Cli} (h : Paid N P) (hc : P.cl i = some c) (De S : Nat) (hd : dC y ≤ dC c + De + 6 * S) (hs : eC y + hC y + 2 * sC y + De + 3 * S ≤ eC c + hC c + 2 * sC c + 1) : Paid (N + 1) (P.set i y) := by
  obtain ⟨n, rfl, hn⟩ := Par.cl_nat hc
  obtain ⟨D0, S0, h1, h2⟩ := h
  have e1 := sum_set dC (y := y) hn
  have e2 := sum_set eC (y := y) hn
  have e3 := sum_set hC (y := y) hn
  have e4 := sum_set sC (y := y) hn
  refine ⟨D0 + De, S0 + S, ?_, ?_⟩
  · show sumN dC (P.cls.set n y) ≤ _
    omega
  · show sumN eC (P.cls.set n y) + P.ents.length + _ + sumN hC (P.cls.set n y) + 2 * sumN sC (P.cls.set n y) + _ ≤ _
    omega
theorem paid_new {c l : Int} {P : Par} (h : newP c l = some P) : Paid 0 P := by
  unfold newP at h
  split at h
  · cases h
  · cases h
    have z : ∀ (f : Cli → Nat) n, f cli0 = 0 → sumN f (List.replicate n cli0) = 0 := by
      intro f n h0
      induction n with
      | zero => rfl
      | succ n ih => simp only [List.replicate_succ, sumN, ih, h0]
    refine ⟨0, 0, ?_, ?_⟩
    · simp only []
      rw [z dC _ rfl]
      omega
    · simp only []
      rw [z eC _ rfl, z hC _ rfl, z sC _ rfl]
      simp
theorem Paid.edit {N : Nat} {P : Par} (h : Paid N P) (i : Int) (e : Ed) : Paid (N + 1) (editP P i e).2 := by
  unfold editP
  cases hc : P.cl i with
  | none => exact h.mono (by omega)
  | some c =>
    simp only
    split
    · exact h.mono (by omega)
    · split
      · exact h.mono (by omega)
      · refine h.set hc 0 0 (by simp [dC, editC]) ?_
        have hh : hC (editC c e) = hC c := by
          unfold hC editC
          simp only
          split
          · rw [List.filter_append, List.filter_cons_of_neg (by simp [msgE]), List.filter_nil, List.append_nil]
          · rfl
        have he : eC (editC c e) = eC c + 1 := by simp [eC, editC]; omega
        have hs : sC (editC c e) = sC c := rfl
        omega
theorem Paid.join {N : Nat} {P : Par} (h : Paid N P) (i : Int) : Paid (N + 1) (joinP P i).2 := by
  unfold joinP
  cases hc : P.cl i with
  | none => exact h.mono (by omega)
  | some c =>
    simp only
    split
    · exact h.mono (by omega)
    · refine h.set hc 0 0 (by simp [dC, joinC]) ?_
      have hh : hC (joinC c) = 1 := by
        unfold hC joinC
        simp only
        rw [List.filter_cons_of_pos (by simp [msgH]), List.filter_eq_nil_iff.2]
        · rfl
        · intro m hm
          obtain ⟨q, _, rfl⟩ := List.mem_map.1 hm
          simp [msgE]
      have he : eC (joinC c) = eC c := rfl
      have hs : sC (joinC c) = sC c := rfl
      omega
theorem Paid.drop {N : Nat} {P : Par} (h : Paid N P) (i : Int) : Paid (N + 1) (dropP P i).2 := by
  unfold dropP
  cases hc : P.cl i with
  | none => exact h.mono (by omega)
  | some c =>
    simp only
    split
    · refine h.set hc 0 0 (by simp [dC, dropC]) ?_
      have h1 : eC (dropC c) = eC c := rfl
      have h2 : hC (dropC c) = 0 := rfl
      have h3 : sC (dropC c) = 0 := rfl
      omega
    · exact h.mono (by omega)
theorem tell_sum (x : Ent) (c : Cli) : eC (tell x c) = eC c ∧ dC (tell x c) = dC c ∧ hC (tell x c) = hC c ∧ sC (tell x c) = sC c := by
  unfold tell
  split
  · refine ⟨rfl, rfl, rfl, ?_⟩
    unfold sC
    rw [List.filter_append, List.filter_cons_of_neg (by simp [msgN]), List.filter_nil, List.append_nil]
  · exact ⟨rfl, rfl, rfl, rfl⟩
theorem Paid.up {N : Nat} {P : Par} (h : Paid N P) (ho : POk P) (i : Int) : Paid (N + 1) (upP P i).2 := by
  unfold upP
  cases hc : P.cl i with
  | none => exact h.mono (by omega)
  | some c =>
    simp only
    split
    · exact h.mono (by omega)
    · rename_i m us hu
      have hpop : hC { c with up := us } ≤ hC c := by
        unfold hC
        rw [hu]
        exact ((List.sublist_cons_self m us).filter _).length_le
      split
      · rename_i hm
        have hg := (ho.get hc).ok
        have hd := hg.nd (hg.hl m (by rw [hu]; exact List.mem_cons_self) hm).2
        have h1 : hC c = 1 + hC { c with up := us } := by
          unfold hC
          rw [hu, List.filter_cons_of_pos (by simp [hm]), List.length_cons]
          exact Nat.add_comm _ _
        have h2 : sC (helloC P i { c with up := us } m.seq) ≤ 1 := by
          unfold sC helloC
          simp only [hd, List.nil_append]
          split
          · rw [List.filter_eq_nil_iff.2]
            · simp
            · intro m' hm'
              obtain ⟨x, _, rfl⟩ := List.mem_map.1 hm'
              simp [msgN]
          · exact Nat.le_trans (List.length_filter_le _ _) (by simp)
        refine h.set hc 0 0 (by simp [dC, helloC]) ?_
        have h3 : eC (helloC P i { c with up := us } m.seq) = eC c := rfl
        have h4 : hC (helloC P i { c with up := us } m.seq) = hC { c with up := us } := rfl
        omega
      · split
        · refine h.set hc 0 0 (by simp [dC]) ?_
          have h3 : eC { c with up := us } = eC c := rfl
          have h4 : sC { c with up := us } = sC c := rfl
          omega
        · obtain ⟨n, rfl, hn⟩ := Par.cl_nat hc
          obtain ⟨D0, S0, h1, h2⟩ := h
          have e1 := sum_set dC (y := { c with up := us }) hn
          have e2 := sum_set eC (y := { c with up := us }) hn
          have e3 := sum_set hC (y := { c with up := us }) hn
          have e4 := sum_set sC (y := { c with up := us }) hn
          have h3 : eC { c with up := us } = eC c := rfl
          have h4 : sC { c with up := us } = sC c := rfl
          have h5 : dC { c with up := us } = dC c := rfl
          refine ⟨D0, S0, ?_, ?_⟩
          · simp only [takeP, Par.set, Int.toNat_natCast]
            rw [sum_map dC _ (fun c => (tell_sum _ c).2.1)]
            omega
          · simp only [takeP, Par.set, Int.toNat_natCast]
            rw [sum_map eC _ (fun c => (tell_sum _ c).1), sum_map hC _ (fun c => (tell_sum _ c).2.2.1), sum_map sC _ (fun c => (tell_sum _ c).2.2.2), List.length_append]
            simp only [List.length_cons, List.length_nil]
            omega
theorem answered_sum (c : Cli) (a : Ans) : eC (answered c a) = eC c ∧ hC (answered c a) = hC c ∧ sC (answered c a) = sC c ∧ dC (answered c a) ≤ dC c + 1 := by
  unfold answered
  split
  · rename_i hany
    obtain ⟨q, hq, hqs⟩ := List.any_eq_true.1 hany
    have hl : (c.pend.eraseP fun q => decide (q.1 = a.seq)).length = c.pend.length - 1 := List.length_eraseP_of_mem hq hqs
    have hpos : 0 < c.pend.length := List.length_pos_of_mem hq
    refine ⟨?_, rfl, rfl, by simp [dC]⟩
    simp only [eC, hl, List.length_append, List.length_cons, List.length_nil]
    omega
  · exact ⟨rfl, rfl, rfl, by omega⟩
theorem fold_sum : ∀ (l : List Ans) (c : Cli), eC (l.foldl answered c) = eC c ∧ hC (l.foldl answered c) = hC c ∧ sC (l.foldl answered c) = sC c
  | [], c => ⟨rfl, rfl, rfl⟩
  | a :: l, c => by
    obtain ⟨h1, h2, h3⟩ := fold_sum l (answered c a)
    obtain ⟨g1, g2, g3, _⟩ := answered_sum c a
    simp only [List.foldl_cons]
    exact ⟨h1.trans g1, h2.trans g2, h3.trans g3⟩
theorem Paid.down {N : Nat} {P : Par} (h : Paid N P) (ho : POk P) (i : Int) : Paid (N + 1) (downP P i).2 := by
  unfold downP
  cases hc : P.cl i with
  | none => exact h.mono (by omega)
  | some c =>
    simp only
    split
    · exact h.mono (by omega)
    · rename_i m ds hd
      have hp6 := (ho.get hc).ok.p6
      unfold downC
      cases hmt : m.tree with
      | some t =>
        obtain ⟨f1, f2, f3⟩ := fold_sum m.ans { c with down := ds, base := t, n := m.n }
        have h1 : eC { c with down := ds, base := t, n := m.n } = eC c := rfl
        have h2 : hC { c with down := ds, base := t, n := m.n } = hC c := rfl
        have h3 : sC c = 1 + sC { c with down := ds, base := t, n := m.n } := by
          unfold sC
          rw [hd, List.filter_cons_of_pos (by simp [hmt]), List.length_cons]
          exact Nat.add_comm _ _
        have h4 : dC (m.ans.foldl answered { c with down := ds, base := t, n := m.n }) ≤ eC c := by
          rw [← h1, ← f1]
          simp only [dC, eC]
          omega
        refine h.set hc 0 1 ?_ ?_
        · simp only [eC] at h4
          have : dC c = c.ans.length := rfl
          show dC (m.ans.foldl answered { c with down := ds, base := t, n := m.n }) ≤ _
          omega
        · show eC (m.ans.foldl answered { c with down := ds, base := t, n := m.n }) + hC (m.ans.foldl answered { c with down := ds, base := t, n := m.n }) + 2 * sC (m.ans.foldl answered { c with down := ds, base := t, n := m.n }) + 0 + 3 * 1 ≤ _
          omega
      | none =>
        have h3 : ∀ bs n, sC { c with down := ds, base := bs, n := n } = sC c := fun bs n => by
          unfold sC
          rw [hd, List.filter_cons_of_neg (by simp [hmt])]
        have key : ∀ bs n, Paid (N + 1) (P.set i { c with down := ds, base := bs, n := n }) ∧ ∀ a, Paid (N + 1) (P.set i (answered { c with down := ds, base := bs, n := n } a)) := fun bs n => by
          have e1 : eC { c with down := ds, base := bs, n := n } = eC c := rfl
          have e2 : hC { c with down := ds, base := bs, n := n } = hC c := rfl
          have e3 : dC { c with down := ds, base := bs, n := n } = dC c := rfl
          have e4 := h3 bs n
          refine ⟨h.set hc 0 0 (by omega) (by omega), fun a => ?_⟩
          obtain ⟨g1, g2, g3, g4⟩ := answered_sum { c with down := ds, base := bs, n := n } a
          exact h.set hc 1 0 (by omega) (by omega)
        simp only
        split
        · exact (key _ _).2 _
        · exact (key _ _).1
theorem filter_or {α : Type} {p q r : α → Bool} : ∀ {l : List α}, (∀ x ∈ l, r x = true → p x = true ∨ q x = true) → (l.filter r).length ≤ (l.filter p).length + (l.filter q).length
  | [], _ => Nat.zero_le _
  | x :: l, h => by
    have ih := filter_or (l := l) (fun y hy => h y (List.mem_cons_of_mem _ hy))
    have hx := h x List.mem_cons_self
    rw [List.filter_cons, List.filter_cons, List.filter_cons]
    cases hr : r x with
    | false =>
      simp only [Bool.false_eq_true, if_false]
      split <;> split <;> (try simp only [List.length_cons]) <;> omega
    | true =>
      rcases hx hr with h1 | h1
      · rw [h1]; simp only [if_true]; split <;> simp only [List.length_cons] <;> omega
      · rw [h1]; simp only [if_true]; split <;> simp only [List.length_cons] <;> omega
theorem count_le {ents : List Ent} : ∀ {l : List Cli} {k : Int}, (∀ (i : Nat) c, l[i]? = some c → (ents.filter fun x => decide (x.client = k + i)).length ≤ eC c) → (ents.filter fun x => decide (k ≤ x.client ∧ x.client < k + l.length)).length ≤ sumN eC l
  | [], k, _ => by
    rw [List.filter_eq_nil_iff.2]
    · exact Nat.zero_le _
    · intro x _
      simp only [List.length_nil, decide_eq_true_eq]
      omega
  | c :: l, k, h => by
    have h0 := h 0 c rfl
    have ih := count_le (l := l) (k := k + 1) (fun i c hi => by
      have := h (i + 1) c (by simpa using hi)
      rw [show k + ((i + 1 : Nat) : Int) = k + 1 + i by omega] at this
      exact this)
    have := filter_or (l := ents) (p := fun x => decide (x.client = k + ((0 : Nat) : Int))) (q := fun x => decide (k + 1 ≤ x.client ∧ x.client < k + 1 + l.length)) (r := fun x => decide (k ≤ x.client ∧ x.client < k + (c :: l).length)) (fun x _ hx => by
      simp only [decide_eq_true_eq, List.length_cons] at hx ⊢
      omega)
    simp only [sumN]
    omega
theorem POk.taken_le {P : Par} (h : POk P) : P.ents.length ≤ sumN eC P.cls := by
  have h1 := count_le (ents := P.ents) (l := P.cls) (k := 0) (fun i c hi => by
    have := (h.cl i c hi).tu
    rw [show (0 : Int) + (i : Int) = i by omega]
    simp only [eC]
    omega)
  rw [List.filter_eq_self.2] at h1
  · exact h1
  · intro x hx
    have := h.who x hx
    have := h.len
    simp
    omega
/-- Two entries cost five steps, but for the first few. -/
theorem Paid.few {N : Nat} {P : Par} (h : Paid N P) (ho : POk P) : 5 * P.ents.length ≤ 2 * N + 24 := by
  obtain ⟨De, S, h1, h2⟩ := h
  have h3 := ho.taken_le
  have h4 : sumN eC P.cls ≤ sumN dC P.cls + 6 * P.cls.length := sum_le (fun c hc => by
    obtain ⟨i, hi⟩ := List.getElem?_of_mem hc
    have := (ho.cl i c hi).ok.p6
    simp only [eC, dC]
    omega)
  have := ho.few
  omega
theorem CO2.down_le {ents : List Ent} {i : Int} {c : Cli} (h : CO2 ents i c) : c.down.length ≤ ents.length + 1 := by
  cases ht : c.told with
  | false => rw [h.ok.nd ht]; exact Nat.zero_le _
  | true =>
    have h0 := h.ok.n0
    rcases h.ok.cnt ht with ⟨_, h2⟩ | ⟨m, ds, h1, h2, _, h4⟩
    · omega
    · have := h.ok.n2 m (by rw [h1]; exact List.mem_cons_self) h2
      rw [h1, List.length_cons]
      omega
end Go.Proofs.YtbicffldggcdhaaGreatDoor

namespace Go.Proofs.YtbicffldggcdhaaGreatDoor
open Go

/-- What a party is like behind N steps. -/
structure PInv (N : Nat) (P : Par) : Prop where
  ok : POk P
  paid : Paid N P
theorem pinv_new {c l : Int} {P : Par} (h : newP c l = some P) : PInv 0 P := ⟨pok_new h, paid_new h⟩
section
variable {N : Nat} {P : Par}
theorem PInv.edit (h : PInv N P) (i : Int) (e : Ed) : PInv (N + 1) (editP P i e).2 := ⟨h.ok.edit i e, h.paid.edit i e⟩
theorem PInv.join (h : PInv N P) (i : Int) : PInv (N + 1) (joinP P i).2 := ⟨h.ok.join i, h.paid.join i⟩
theorem PInv.drop (h : PInv N P) (i : Int) : PInv (N + 1) (dropP P i).2 := ⟨h.ok.drop i, h.paid.drop i⟩
theorem PInv.up (h : PInv N P) (i : Int) : PInv (N + 1) (upP P i).2 := ⟨h.ok.up i, h.paid.up h.ok i⟩
theorem PInv.down (h : PInv N P) (i : Int) : PInv (N + 1) (downP P i).2 := ⟨h.ok.down i, h.paid.down h.ok i⟩
variable (hN : N ≤ 1800000000000)
end
end Go.Proofs.YtbicffldggcdhaaGreatDoor

namespace Go.Proofs.YtbicffldggcdhaaGreatDoor
open Go

def mine (l : List Ent) (i : Int) : List Ent := l.filter fun x => decide (x.client = i)
def ansE (x : Ent) : Ans := ⟨x.seq, x.done⟩
theorem ansOf_mine (l : List Ent) (i : Int) : ansOf l i = (mine l i).map ansE := rfl
theorem mine_append (a b : List Ent) (i : Int) : mine (a ++ b) i = mine a i ++ mine b i := List.filter_append ..
theorem ansOf_len (l : List Ent) (i : Int) : (ansOf l i).length = (mine l i).length := by rw [ansOf_mine, List.length_map]
def stepE (t : List Nd) (x : Ent) : List Nd := if x.done then applyL t x.e else t
def foldE (l : List Ent) : List Nd := l.foldl stepE [root0]
theorem foldE_snoc (l : List Ent) (x : Ent) : foldE (l ++ [x]) = stepE (foldE l) x := by unfold foldE; rw [List.foldl_append]; rfl
theorem take_snoc {α : Type} {l : List α} {k : Nat} {x : α} (h : l[k]? = some x) : l.take (k + 1) = l.take k ++ [x] := by rw [List.take_add_one, h]; rfl
theorem take_left {α : Type} (a b : List α) {k : Nat} (h : k ≤ a.length) : (a ++ b).take k = a.take k := by rw [List.take_append_of_le_length h]
structure SC (ents : List Ent) (i : Int) (c : Cli) : Prop where
  n0 : 0 ≤ c.n ∧ c.n ≤ ents.length
  pq : ∀ (k : Nat) q, c.pend[k]? = some q → q.1 = (c.ans.length : Int) + 1 + k
  aq : c.ans = ansOf (ents.take c.n.toNat) i
  sq : c.seq = c.pend.length + c.ans.length
  p6 : c.pend.length ≤ 6
  es : ∀ (k : Nat) x, (mine ents i)[k]? = some x → x.seq = k + 1
  cn : (mine ents i).length ≤ c.ans.length + c.pend.length
  bs : c.base = foldE (ents.take c.n.toNat)
  off : c.joined = false → c.up = [] ∧ c.told = false
  nd : c.told = false → c.down = []
  up : c.joined = true → ∃ us, ∃ s : Nat, c.up = (if c.told then [] else [msgH c.n]) ++ us ∧ s ≤ (mine ents i).length ∧ (mine ents i).length ≤ s + 6 ∧ (s : Int) + us.length = c.seq ∧ ∀ (k : Nat) m, us[k]? = some m → ∃ e, m = msgE (s + 1 + k) e ∧ ((mine ents i).length < s + 1 + k → ((s + 1 + k : Int), e) ∈ c.pend)
  dn : c.told = true → c.down = (ents.drop c.n.toNat).map msgN ∨ ∃ m : Nat, c.n ≤ m ∧ m ≤ ents.length ∧ c.down = msgS (foldE (ents.take m)) m (ansOf (ents.take m) i) :: (ents.drop m).map msgN
theorem sc0 {i : Int} : SC [] i cli0 := by
  refine ⟨by simp [cli0], by simp [cli0], by simp [cli0, ansOf], by simp [cli0], by simp [cli0], by simp [mine], by simp [mine], by simp [cli0, foldE], by simp [cli0], by simp [cli0], by simp [cli0], by simp [cli0]⟩
theorem taken_iff {ents : List Ent} {i s : Int} : taken ents i s = true ↔ ∃ x ∈ mine ents i, x.seq = s := by
  unfold taken mine
  simp only [List.any_eq_true, decide_eq_true_eq, List.mem_filter]
  constructor
  · rintro ⟨x, h1, h2, h3⟩; exact ⟨x, ⟨h1, h2⟩, h3⟩
  · rintro ⟨x, ⟨h1, h2⟩, h3⟩; exact ⟨x, h1, h2, h3⟩
theorem taken_num {ents : List Ent} {i s : Int} (h : ∀ (k : Nat) x, (mine ents i)[k]? = some x → x.seq = k + 1) : taken ents i s = true ↔ 1 ≤ s ∧ s ≤ (mine ents i).length := by
  rw [taken_iff]
  constructor
  · rintro ⟨x, hx, rfl⟩
    obtain ⟨k, hk⟩ := List.getElem?_of_mem hx
    have := h k x hk
    have := (List.getElem?_eq_some_iff.1 hk).1
    omega
  · rintro ⟨h1, h2⟩
    obtain ⟨x, hx⟩ : ∃ x, (mine ents i)[(s - 1).toNat]? = some x := ⟨_, List.getElem?_eq_getElem (by omega)⟩
    exact ⟨x, List.mem_of_getElem? hx, by have := h _ x hx; omega⟩
section
variable {ents : List Ent} {i : Int} {c : Cli}
theorem SC.edit (h : SC ents i c) (hp6 : c.pend.length < 6) (e : Ed) : SC ents i (editC c e) := by
  have hsq := h.sq
  refine ⟨h.n0, ?_, h.aq, by simp [editC]; omega, by simp [editC]; omega, h.es, by have := h.cn; simp [editC]; omega, h.bs, ?_, h.nd, ?_, h.dn⟩
  · intro k q hk
    show q.1 = (c.ans.length : Int) + 1 + k
    have hk' : (c.pend ++ [(c.seq + 1, e)])[k]? = some q := hk
    rcases Nat.lt_or_ge k c.pend.length with h1 | h1
    · rw [List.getElem?_append_left h1] at hk'
      exact h.pq k q hk'
    · have hl := (List.getElem?_eq_some_iff.1 hk').1
      simp at hl
      rw [List.getElem?_append_right h1, show k - c.pend.length = 0 by omega] at hk'
      simp at hk'
      subst hk'
      show c.seq + 1 = _
      omega
  · intro hj
    have hj' : c.joined = false := hj
    have := h.off hj'
    exact ⟨by simp [editC, hj', this.1], this.2⟩
  · intro hj
    have hj' : c.joined = true := hj
    obtain ⟨us, s, h1, h2, h26, h3, h4⟩ := h.up hj'
    refine ⟨us ++ [msgE (c.seq + 1) e], s, ?_, h2, h26, by simp [editC]; omega, ?_⟩
    · show (if c.joined then c.up ++ [msgE (c.seq + 1) e] else c.up) = (if c.told then [] else [msgH c.n]) ++ _
      rw [hj', if_pos rfl, h1, List.append_assoc]
    · intro k m hk
      rcases Nat.lt_or_ge k us.length with hlt | hge
      · rw [List.getElem?_append_left hlt] at hk
        obtain ⟨e', h5, h6⟩ := h4 k m hk
        exact ⟨e', h5, fun h7 => List.mem_append_left _ (h6 h7)⟩
      · have hl := (List.getElem?_eq_some_iff.1 hk).1
        simp at hl
        rw [List.getElem?_append_right hge, show k - us.length = 0 by omega] at hk
        simp at hk
        subst hk
        have : k = us.length := by omega
        subst this
        refine ⟨e, by rw [show (s : Int) + 1 + us.length = c.seq + 1 by omega], fun _ => ?_⟩
        rw [show (s : Int) + 1 + us.length = c.seq + 1 by omega]
        exact List.mem_append_right _ (by simp)
theorem SC.join (h : SC ents i c) (hj : c.joined = false) : SC ents i (joinC c) := by
  have h0 := h.off hj
  refine ⟨h.n0, h.pq, h.aq, h.sq, h.p6, h.es, h.cn, h.bs, fun h1 => (by cases h1), h.nd, fun _ => ?_, h.dn⟩
  have ha : c.ans.length ≤ (mine ents i).length := by
    rw [h.aq, ansOf_len]
    exact ((List.take_sublist _ _).filter _).length_le
  refine ⟨c.pend.map fun q => msgE q.1 q.2, c.ans.length, ?_, ha, by have := h.cn; have := h.p6; omega, ?_, ?_⟩
  · show msgH c.n :: _ = (if c.told then [] else [msgH c.n]) ++ _
    rw [h0.2]
    rfl
  · have := h.sq
    show (c.ans.length : Int) + _ = c.seq
    rw [List.length_map]
    omega
  · intro k m hk
    rw [List.getElem?_map] at hk
    cases hq : c.pend[k]? with
    | none => rw [hq] at hk; cases hk
    | some q =>
      rw [hq] at hk
      cases hk
      have := h.pq k q hq
      refine ⟨q.2, by show msgE q.1 q.2 = _; rw [this], fun _ => ?_⟩
      rw [← this]
      exact List.mem_of_getElem? hq
theorem SC.drop (h : SC ents i c) : SC ents i (dropC c) :=
  ⟨h.n0, h.pq, h.aq, h.sq, h.p6, h.es, h.cn, h.bs, fun _ => ⟨rfl, rfl⟩, fun _ => rfl, fun h1 => (by cases h1), fun h1 => (by cases h1)⟩
/-- The message that it comes, is the first; an edit is, else. -/
theorem SC.hello {P : Par} {us : List Msg} {m : Msg} (h : SC P.ents i c) (hu : c.up = m :: us) (hm : m.hello = true) (ht : P.t = foldE P.ents) : m = msgH c.n ∧ c.told = false ∧ SC P.ents i (helloC P i { c with up := us } m.seq) := by
  have hj : c.joined = true := by
    cases hj : c.joined with
    | true => rfl
    | false => have := (h.off hj).1; rw [hu] at this; cases this
  obtain ⟨us', s, h1, h2, h26, h3, h4⟩ := h.up hj
  cases htl : c.told with
  | true =>
    rw [htl, if_pos rfl, List.nil_append, hu] at h1
    obtain ⟨e, h5, _⟩ := h4 0 m (by rw [← h1]; rfl)
    rw [h5] at hm
    cases hm
  | false =>
    rw [htl, hu] at h1
    simp only [Bool.false_eq_true, if_false, List.cons_append, List.nil_append, List.cons.injEq] at h1
    obtain ⟨rfl, rfl⟩ := h1
    refine ⟨rfl, rfl, h.n0, h.pq, h.aq, h.sq, h.p6, h.es, h.cn, h.bs, fun h1 => ?_, fun h1 => (by cases h1), fun _ => ⟨us, s, rfl, h2, h26, h3, h4⟩, fun _ => ?_⟩
    · have h1' : c.joined = false := h1
      rw [hj] at h1'; cases h1'
    · have hd := h.nd htl
      show c.down ++ _ = _ ∨ ∃ m : Nat, c.n ≤ m ∧ m ≤ P.ents.length ∧ c.down ++ _ = _
      rw [hd, List.nil_append]
      by_cases hlog : (P.ents.length : Int) - (msgH c.n).seq ≤ P.log
      · rw [if_pos hlog]
        exact .inl rfl
      · rw [if_neg hlog]
        refine .inr ⟨P.ents.length, h.n0.2, Nat.le_refl _, ?_⟩
        rw [List.take_length, List.drop_length, ht]
        rfl
/-- An edit is the first message. -/
theorem SC.first {us : List Msg} {m : Msg} (h : SC ents i c) (hu : c.up = m :: us) (hm : m.hello = false) : c.joined = true ∧ c.told = true ∧ ∃ s : Nat, ∃ e, m = msgE (s + 1) e ∧ s ≤ (mine ents i).length ∧ (mine ents i).length ≤ s + 6 ∧ (s : Int) + 1 + us.length = c.seq ∧ ((mine ents i).length < s + 1 → ((s + 1 : Int), e) ∈ c.pend) ∧
    ∀ (k : Nat) m, us[k]? = some m → ∃ e, m = msgE (s + 1 + 1 + k) e ∧ ((mine ents i).length < s + 1 + 1 + k → ((s + 1 + 1 + k : Int), e) ∈ c.pend) := by
  have hj : c.joined = true := by
    cases hj : c.joined with
    | true => rfl
    | false => have := (h.off hj).1; rw [hu] at this; cases this
  obtain ⟨us', s, h1, h2, h26, h3, h4⟩ := h.up hj
  cases htl : c.told with
  | false =>
    rw [htl, hu] at h1
    simp only [Bool.false_eq_true, if_false, List.cons_append, List.nil_append, List.cons.injEq] at h1
    rw [h1.1] at hm
    cases hm
  | true =>
    rw [htl, if_pos rfl, List.nil_append, hu] at h1
    subst h1
    obtain ⟨e, h5, h6⟩ := h4 0 m rfl
    refine ⟨hj, rfl, s, e, by rw [h5]; simp, h2, h26, by simp at h3; omega, fun h7 => by simpa using h6 (by omega), fun k m hk => ?_⟩
    obtain ⟨e', h7, h8⟩ := h4 (k + 1) m (by simpa using hk)
    refine ⟨e', by rw [h7]; congr 1; omega, fun h9 => ?_⟩
    have := h8 (by omega)
    rw [show (s : Int) + 1 + ((k + 1 : Nat) : Int) = s + 1 + 1 + k by omega] at this
    exact this
/-- An edit that was taken already is taken off. -/
theorem SC.pop {us : List Msg} {m : Msg} (h : SC ents i c) (hu : c.up = m :: us) (hm : m.hello = false) (ht : taken ents i m.seq = true) : SC ents i { c with up := us } := by
  obtain ⟨hj, htl, s, e, rfl, h2, h26, h3, h4, h5⟩ := h.first hu hm
  rw [taken_num h.es] at ht
  have ht' : 1 ≤ (s : Int) + 1 ∧ (s : Int) + 1 ≤ (mine ents i).length := ht
  refine ⟨h.n0, h.pq, h.aq, h.sq, h.p6, h.es, h.cn, h.bs, fun h1 => ?_, h.nd, fun _ => ⟨us, s + 1, ?_, by omega, by omega, by show ((s + 1 : Nat) : Int) + us.length = c.seq; omega, ?_⟩, h.dn⟩
  · have h1' : c.joined = false := h1
    rw [hj] at h1'; cases h1'
  · show us = (if c.told then [] else _) ++ us
    rw [htl]
    rfl
  · intro k m hk
    obtain ⟨e', h6, h7⟩ := h5 k m hk
    exact ⟨e', by rw [h6]; congr 1, fun h8 => h7 (by omega)⟩
theorem mine_snoc {x : Ent} : mine (ents ++ [x]) i = mine ents i ++ if x.client = i then [x] else [] := by
  rw [mine_append]
  unfold mine
  by_cases h : x.client = i
  · rw [if_pos h, List.filter_cons_of_pos (by simpa using h)]; rfl
  · rw [if_neg h, List.filter_cons_of_neg (by simpa using h)]; rfl
theorem dn_tell {x : Ent} {c : Cli} (h0 : c.n ≤ ents.length) (h : c.told = true → c.down = (ents.drop c.n.toNat).map msgN ∨ ∃ m : Nat, c.n ≤ m ∧ m ≤ ents.length ∧ c.down = msgS (foldE (ents.take m)) m (ansOf (ents.take m) i) :: (ents.drop m).map msgN) (ht : c.told = true) :
    c.down ++ [msgN x] = ((ents ++ [x]).drop c.n.toNat).map msgN ∨ ∃ m : Nat, c.n ≤ m ∧ m ≤ (ents ++ [x]).length ∧ c.down ++ [msgN x] = msgS (foldE ((ents ++ [x]).take m)) m (ansOf ((ents ++ [x]).take m) i) :: ((ents ++ [x]).drop m).map msgN := by
  rcases h ht with h1 | ⟨m, h1, h2, h3⟩
  · left
    rw [h1, List.drop_append_of_le_length (by omega), List.map_append]
    rfl
  · right
    refine ⟨m, h1, by simp; omega, ?_⟩
    rw [h3, List.drop_append_of_le_length h2, List.map_append, take_left _ _ h2]
    rfl
/-- One entry more, of another. -/
theorem SC.tell (h : SC ents i c) {x : Ent} (hx : x.client ≠ i) : SC (ents ++ [x]) i (tell x c) := by
  have h0 := h.n0
  have hm : mine (ents ++ [x]) i = mine ents i := by rw [mine_snoc, if_neg hx, List.append_nil]
  have e1 := take_left ents [x] (k := c.n.toNat) (by omega)
  unfold Go.Proofs.YtbicffldggcdhaaGreatDoor.tell
  by_cases ht : c.told = true
  · rw [if_pos ht]
    refine ⟨⟨h0.1, by simp; omega⟩, h.pq, by rw [e1]; exact h.aq, h.sq, h.p6, by rw [hm]; exact h.es, by rw [hm]; exact h.cn, by rw [e1]; exact h.bs, h.off, fun h1 => ?_, by rw [hm]; exact h.up, fun _ => dn_tell h0.2 h.dn ht⟩
    have h1' : c.told = false := h1
    rw [ht] at h1'; cases h1'
  · rw [if_neg ht]
    exact ⟨⟨h0.1, by simp; omega⟩, h.pq, by rw [e1]; exact h.aq, h.sq, h.p6, by rw [hm]; exact h.es, by rw [hm]; exact h.cn, by rw [e1]; exact h.bs, h.off, h.nd, by rw [hm]; exact h.up, fun h1 => absurd h1 ht⟩
/-- One entry more, its own. -/
theorem SC.take {us : List Msg} {m : Msg} (h : SC ents i c) (hu : c.up = m :: us) (hm : m.hello = false) (ht : taken ents i m.seq = false) {x : Ent} (hxc : x.client = i) (hxs : x.seq = m.seq) :
    m.seq = (mine ents i).length + 1 ∧ (m.seq, m.e) ∈ c.pend ∧ SC (ents ++ [x]) i (Go.Proofs.YtbicffldggcdhaaGreatDoor.tell x { c with up := us }) := by
  obtain ⟨hj, htl, s, e, rfl, h2, h26, h3, h4, h5⟩ := h.first hu hm
  have hs : s = (mine ents i).length := by
    rcases Nat.lt_or_ge s (mine ents i).length with h6 | h6
    · have := (taken_num h.es).2 (⟨show 1 ≤ (s : Int) + 1 by omega, show (s : Int) + 1 ≤ _ by omega⟩ : 1 ≤ (msgE ((s : Int) + 1) e).seq ∧ (msgE ((s : Int) + 1) e).seq ≤ _)
      rw [this] at ht
      cases ht
    · omega
  have hs1 : ((s : Int) + 1, e) ∈ c.pend := h4 (by omega)
  have h0 := h.n0
  have hmm : mine (ents ++ [x]) i = mine ents i ++ [x] := by rw [mine_snoc, if_pos hxc]
  have e1 := take_left ents [x] (k := c.n.toNat) (by omega)
  have hx' : x.seq = (s : Int) + 1 := hxs
  refine ⟨by show (s : Int) + 1 = _; omega, hs1, ?_⟩
  unfold Go.Proofs.YtbicffldggcdhaaGreatDoor.tell
  rw [if_pos (show ({ c with up := us } : Cli).told = true from htl)]
  refine ⟨⟨h0.1, by simp; omega⟩, h.pq, by rw [e1]; exact h.aq, h.sq, h.p6, ?_, ?_, by rw [e1]; exact h.bs, fun h1 => ?_, fun h1 => ?_, fun _ => ⟨us, s + 1, ?_, ?_, by rw [hmm]; simp; omega, by show ((s + 1 : Nat) : Int) + us.length = c.seq; omega, ?_⟩, fun _ => dn_tell (c := { c with up := us }) h0.2 h.dn htl⟩
  · intro k y hk
    rw [hmm] at hk
    rcases Nat.lt_or_ge k (mine ents i).length with h6 | h6
    · rw [List.getElem?_append_left h6] at hk
      exact h.es k y hk
    · have hl := (List.getElem?_eq_some_iff.1 hk).1
      simp at hl
      rw [List.getElem?_append_right h6, show k - (mine ents i).length = 0 by omega] at hk
      simp at hk
      subst hk
      omega
  · rw [hmm]
    obtain ⟨k, hk⟩ := List.getElem?_of_mem hs1
    have := h.pq k _ hk
    have := (List.getElem?_eq_some_iff.1 hk).1
    have hcc := h.cn
    simp only [List.length_append, List.length_cons, List.length_nil] at this ⊢
    omega
  · have h1' : c.joined = false := h1
    rw [hj] at h1'; cases h1'
  · have h1' : c.told = false := h1
    rw [htl] at h1'; cases h1'
  · show us = (if c.told then [] else _) ++ us
    rw [htl]
    rfl
  · rw [hmm]; simp; omega
  · intro k m hk
    obtain ⟨e', h6, h7⟩ := h5 k m hk
    refine ⟨e', by rw [h6]; congr 1, fun h8 => ?_⟩
    rw [hmm] at h8
    simp at h8
    exact h7 (by omega)
/-- Answers to what is pending first, one behind the other. -/
theorem fold_heads : ∀ (B : List Ans) (c : Cli), (∀ (k : Nat) q, c.pend[k]? = some q → q.1 = (c.ans.length : Int) + 1 + k) → (∀ (k : Nat) a, B[k]? = some a → a.seq = (c.ans.length : Int) + 1 + k) → B.length ≤ c.pend.length →
    B.foldl answered c = { c with pend := c.pend.drop B.length, ans := c.ans ++ B }
  | [], c, _, _, _ => by simp
  | a :: B, c, h1, h2, h3 => by
    cases hp : c.pend with
    | nil => rw [hp] at h3; simp at h3
    | cons q l =>
      have hq := h1 0 q (by rw [hp]; rfl)
      have ha := h2 0 a rfl
      have hqa : q.1 = a.seq := by omega
      have e1 : answered c a = { c with pend := l, ans := c.ans ++ [a] } := by
        unfold answered
        rw [hp, if_pos (by simp [hqa]), List.eraseP_cons_of_pos (by simpa using hqa)]
      rw [List.foldl_cons, e1, fold_heads B { c with pend := l, ans := c.ans ++ [a] }]
      · simp
      · intro k q' hk
        have := h1 (k + 1) q' (by rw [hp]; exact hk)
        simp only [List.length_append, List.length_cons, List.length_nil]
        omega
      · intro k a' hk
        have := h2 (k + 1) a' (by simpa using hk)
        simp only [List.length_append, List.length_cons, List.length_nil]
        omega
      · rw [hp] at h3
        simp at h3
        exact h3
/-- Answers that it has got already. -/
theorem fold_old : ∀ (A : List Ans) (c : Cli), (∀ a ∈ A, ∀ q ∈ c.pend, q.1 ≠ a.seq) → A.foldl answered c = c
  | [], c, _ => rfl
  | a :: A, c, h => by
    have e1 : answered c a = c := by
      unfold answered
      rw [if_neg]
      intro h1
      obtain ⟨q, hq, hqs⟩ := List.any_eq_true.1 h1
      exact h a List.mem_cons_self q hq (by simpa using hqs)
    rw [List.foldl_cons, e1]
    exact fold_old A c (fun a' ha => h a' (List.mem_cons_of_mem _ ha))
theorem pend_drop {pend : List (Int × Ed)} {n : Int} (h : ∀ (k : Nat) q, pend[k]? = some q → q.1 = n + 1 + k) (j : Nat) {q : Int × Ed} (hq : q ∈ pend) (hl : n + j < q.1) : q ∈ pend.drop j := by
  obtain ⟨k, hk⟩ := List.getElem?_of_mem hq
  have := h k q hk
  refine List.mem_of_getElem? (i := k - j) ?_
  rw [List.getElem?_drop, show j + (k - j) = k by omega]
  exact hk
theorem mine_take_len (ents : List Ent) (i : Int) (n m : Nat) (h : n ≤ m) : mine (ents.take m) i = mine (ents.take n) i ++ mine ((ents.take m).drop n) i := by
  rw [← mine_append]
  congr 1
  conv => lhs; rw [← List.take_append_drop n (ents.take m)]
  rw [List.take_take, Nat.min_eq_left h]
theorem mine_pre (ents : List Ent) (i : Int) (m : Nat) : ∃ r, mine ents i = mine (ents.take m) i ++ r := ⟨mine (ents.drop m) i, by rw [← mine_append, List.take_append_drop]⟩
/-- What a snapshot's answers are to a client whose base is made of n entries: those that it has got, and those to its first pending edits. -/
theorem SC.snap (h : SC ents i c) {m : Nat} (h1 : c.n ≤ m) : ∃ B, ansOf (ents.take m) i = c.ans ++ B ∧ B = ansOf ((ents.take m).drop c.n.toNat) i ∧ (∀ (k : Nat) a, B[k]? = some a → a.seq = (c.ans.length : Int) + 1 + k) ∧ B.length ≤ c.pend.length ∧ c.ans.length + B.length ≤ (mine ents i).length ∧ ∀ a ∈ c.ans, a.seq ≤ c.ans.length := by
  have h0 := h.n0
  have e1 := mine_take_len ents i c.n.toNat m (by omega)
  have hB : ansOf (ents.take m) i = c.ans ++ ansOf ((ents.take m).drop c.n.toNat) i := by
    rw [ansOf_mine, e1, List.map_append, h.aq]
    rfl
  obtain ⟨r, hr⟩ := mine_pre ents i m
  have hnum : ∀ (k : Nat) a, (ansOf (ents.take m) i)[k]? = some a → a.seq = (k : Int) + 1 := by
    intro k a hk
    rw [ansOf_mine, List.getElem?_map] at hk
    cases hx : (mine (ents.take m) i)[k]? with
    | none => rw [hx] at hk; cases hk
    | some x =>
      rw [hx] at hk
      cases hk
      refine h.es k x ?_
      rw [hr, List.getElem?_append_left (List.getElem?_eq_some_iff.1 hx).1]
      exact hx
  have hlen : (ansOf (ents.take m) i).length ≤ (mine ents i).length := by
    rw [ansOf_len, hr, List.length_append]
    omega
  refine ⟨_, hB, rfl, ?_, ?_, ?_, ?_⟩
  · intro k a hk
    have := hnum (c.ans.length + k) a (by rw [hB, List.getElem?_append_right (by omega), show c.ans.length + k - c.ans.length = k by omega]; exact hk)
    omega
  · have := h.cn
    rw [hB, List.length_append] at hlen
    omega
  · rw [hB, List.length_append] at hlen
    omega
  · intro a ha
    obtain ⟨k, hk⟩ := List.getElem?_of_mem ha
    have hl := (List.getElem?_eq_some_iff.1 hk).1
    have := hnum k a (by rw [hB, List.getElem?_append_left hl]; exact hk)
    omega
/-- Its first so many pending edits are answered, with what the first m entries say. -/
theorem SC.went (h : SC ents i c) {m : Nat} {B : List Ans} {ds : List Msg} (h2 : m ≤ ents.length) (hB : ansOf (ents.take m) i = c.ans ++ B) (h3 : B.length ≤ c.pend.length) (hj : c.told = true) (hd : ds = (ents.drop m).map msgN) (h4 : c.ans.length + B.length ≤ (mine ents i).length) :
    SC ents i { c with base := foldE (ents.take m), n := m, down := ds, pend := c.pend.drop B.length, ans := c.ans ++ B } := by
  have hpq := h.pq
  refine ⟨⟨by show (0 : Int) ≤ m; omega, by show (m : Int) ≤ _; omega⟩, ?_, ?_, ?_, (by have := h.p6; show (c.pend.drop B.length).length ≤ 6; rw [List.length_drop]; omega), h.es, ?_, ?_, ?_, ?_, ?_, ?_⟩
  · intro k q hk
    have hk' : (c.pend.drop B.length)[k]? = some q := hk
    rw [List.getElem?_drop] at hk'
    have := hpq _ q hk'
    show q.1 = ((c.ans ++ B).length : Int) + 1 + k
    rw [List.length_append]
    omega
  · show c.ans ++ B = ansOf (ents.take (m : Int).toNat) i
    rw [Int.toNat_natCast, hB]
  · have := h.sq
    show c.seq = ((c.pend.drop B.length).length : Int) + (c.ans ++ B).length
    rw [List.length_drop, List.length_append]
    omega
  · have := h.cn
    show _ ≤ (c.ans ++ B).length + (c.pend.drop B.length).length
    rw [List.length_drop, List.length_append]
    omega
  · show _ = foldE (ents.take (m : Int).toNat)
    rw [Int.toNat_natCast]
  · intro h1'
    have h1' : c.joined = false := h1'
    have := (h.off h1').2
    rw [hj] at this
    cases this
  · intro h1'
    have h1' : c.told = false := h1'
    rw [hj] at h1'
    cases h1'
  · intro h1'
    obtain ⟨us, s, g1, g2, g26, g3, g4⟩ := h.up h1'
    refine ⟨us, s, ?_, g2, g26, g3, ?_⟩
    · show c.up = (if c.told then [] else _) ++ us
      rw [hj] at g1 ⊢
      exact g1
    · intro k mm hk
      obtain ⟨e, g5, g6⟩ := g4 k mm hk
      exact ⟨e, g5, fun g7 => pend_drop hpq B.length (g6 g7) (by show _ < (s : Int) + 1 + k; omega)⟩
  · intro _
    left
    show ds = (ents.drop (m : Int).toNat).map msgN
    rw [Int.toNat_natCast, hd]
/-- What comes down, and what becomes of the client. -/
theorem SC.comes {m : Msg} {ds : List Msg} (h : SC ents i c) (hd : c.down = m :: ds) :
    (∃ x, ents[c.n.toNat]? = some x ∧ m = msgN x ∧ (x.client = i → ∃ q l, c.pend = q :: l ∧ q.1 = x.seq ∧ x.seq = c.ans.length + 1)) ∨
    ∃ k : Nat, ∃ B, c.n ≤ k ∧ k ≤ ents.length ∧ m = msgS (foldE (ents.take k)) k (c.ans ++ B) ∧ ds = (ents.drop k).map msgN ∧ B = ansOf ((ents.take k).drop c.n.toNat) i ∧ (∀ (k : Nat) a, B[k]? = some a → a.seq = (c.ans.length : Int) + 1 + k) ∧ B.length ≤ c.pend.length ∧ ∀ a ∈ c.ans, a.seq ≤ c.ans.length := by
  have h0 := h.n0
  have ht : c.told = true := by
    cases ht : c.told with
    | true => rfl
    | false => have := h.nd ht; rw [hd] at this; cases this
  rcases h.dn ht with h1 | ⟨k, h1, h2, h3⟩
  · left
    rw [hd] at h1
    cases hx : ents[c.n.toNat]? with
    | none =>
      rw [List.drop_eq_nil_of_le (List.getElem?_eq_none_iff.1 hx)] at h1
      cases h1
    | some x =>
      have hl := (List.getElem?_eq_some_iff.1 hx).1
      rw [List.drop_eq_getElem_cons hl, List.map_cons, List.cons.injEq] at h1
      have hxe : ents[c.n.toNat] = x := by rw [List.getElem?_eq_getElem hl] at hx; exact Option.some.inj hx
      refine ⟨x, rfl, by rw [h1.1, hxe], fun hc => ?_⟩
      have hsnap := h.snap (m := c.n.toNat + 1) (by omega)
      obtain ⟨B, b1, b2, b3, b4, b5, b6⟩ := hsnap
      have hB : B = [ansE x] := by
        rw [b2, take_snoc hx, List.drop_append_of_le_length (by rw [List.length_take]; omega), List.drop_eq_nil_of_le (by rw [List.length_take]; omega)]
        unfold ansOf
        rw [List.nil_append, List.filter_cons_of_pos (by simpa using hc)]
        rfl
      subst hB
      have h5 := b3 0 (ansE x) rfl
      cases hp : c.pend with
      | nil => rw [hp] at b4; simp at b4
      | cons q l =>
        have h6 := h.pq 0 q (by rw [hp]; rfl)
        have h5' : x.seq = (c.ans.length : Int) + 1 + ((0 : Nat) : Int) := h5
        exact ⟨q, l, rfl, by omega, by omega⟩
  · right
    rw [hd, List.cons.injEq] at h3
    obtain ⟨B, b1, b2, b3, b4, b5, b6⟩ := h.snap h1
    exact ⟨k, B, h1, h2, by rw [h3.1, b1], h3.2, b2, b3, b4, b6⟩
theorem SC.down {m : Msg} {ds : List Msg} (h : SC ents i c) (hd : c.down = m :: ds) : SC ents i (downC i { c with down := ds } m) := by
  have h0 := h.n0
  have ht : c.told = true := by
    cases ht : c.told with
    | true => rfl
    | false => have := h.nd ht; rw [hd] at this; cases this
  rcases h.comes hd with ⟨x, h1, rfl, h3⟩ | ⟨k, B, h1, h2, rfl, h4, h5, h6, h7, h8⟩
  · have hl := (List.getElem?_eq_some_iff.1 h1).1
    have hds : ds = (ents.drop (c.n.toNat + 1)).map msgN := by
      rcases h.dn ht with g | ⟨k, _, _, g⟩
      · rw [hd, List.drop_eq_getElem_cons hl, List.map_cons, List.cons.injEq] at g
        exact g.2
      · rw [hd, List.cons.injEq] at g
        have := congrArg (·.tree) g.1
        cases this
    obtain ⟨B, b1, b2, b3, b4, b5, b6⟩ := h.snap (m := c.n.toNat + 1) (by omega)
    have hw := h.went (ds := ds) (by omega) b1 b4 ht hds b5
    have hbs : foldE (ents.take (c.n.toNat + 1)) = stepE c.base x := by rw [take_snoc h1, foldE_snoc, h.bs]
    have hn : ((c.n.toNat + 1 : Nat) : Int) = c.n + 1 := by omega
    rw [hbs, hn] at hw
    unfold downC
    show SC ents i (if x.client = i then answered { c with down := ds, base := stepE c.base x, n := c.n + 1 } (ansE x) else { c with down := ds, base := stepE c.base x, n := c.n + 1 })
    by_cases hc : x.client = i
    · rw [if_pos hc]
      have hB : B = [ansE x] := by
        rw [b2, take_snoc h1, List.drop_append_of_le_length (by rw [List.length_take]; omega), List.drop_eq_nil_of_le (by rw [List.length_take]; omega)]
        unfold ansOf
        rw [List.nil_append, List.filter_cons_of_pos (by simpa using hc)]
        rfl
      have := fold_heads [ansE x] { c with down := ds, base := stepE c.base x, n := c.n + 1 } h.pq (hB ▸ b3) (hB ▸ b4)
      simp only [List.foldl_cons, List.foldl_nil] at this
      rw [this, ← hB]
      exact hw
    · rw [if_neg hc]
      have hB : B = [] := by
        rw [b2, take_snoc h1, List.drop_append_of_le_length (by rw [List.length_take]; omega), List.drop_eq_nil_of_le (by rw [List.length_take]; omega)]
        unfold ansOf
        rw [List.nil_append, List.filter_cons_of_neg (by simpa using hc)]
        rfl
      rw [hB] at hw
      simpa using hw
  · obtain ⟨B', b1, b2, b3, b4, b5, b6⟩ := h.snap h1
    have hBB : B = B' := by rw [h5, b2]
    subst hBB
    have hw := h.went (ds := ds) h2 b1 h7 ht h4 b5
    show SC ents i ((c.ans ++ B).foldl answered { c with down := ds, base := foldE (ents.take k), n := k })
    rw [List.foldl_append, fold_old c.ans _ (fun a ha q hq e => by
      obtain ⟨j, hj⟩ := List.getElem?_of_mem hq
      have := h.pq j q hj
      have := h8 a ha
      omega), fold_heads B { c with down := ds, base := foldE (ents.take k), n := k } h.pq h6 h7]
    exact hw
end
/-! ### The whole party -/
structure SP (P : Par) : Prop where
  t : P.t = foldE P.ents
  dn : ∀ (k : Nat) x, P.ents[k]? = some x → x.done = decide (refused (foldE (P.ents.take k)) x.e = 0)
  cl : ∀ (i : Nat) c, P.cls[i]? = some c → SC P.ents i c
theorem sp_new {c l : Int} {P : Par} (h : newP c l = some P) : SP P := by
  unfold newP at h
  split at h
  · cases h
  · cases h
    refine ⟨rfl, fun k x hk => by simp at hk, fun i x hx => ?_⟩
    have : x = cli0 := List.eq_of_mem_replicate (List.mem_of_getElem? hx)
    subst this
    exact sc0
theorem SP.get {P : Par} {i : Int} {c : Cli} (h : SP P) (hc : P.cl i = some c) : SC P.ents i c := by
  obtain ⟨n, rfl, hn⟩ := Par.cl_nat hc
  exact h.cl n c hn
theorem SP.set {P : Par} {i : Int} {c y : Cli} (h : SP P) (hc : P.cl i = some c) (hy : SC P.ents i y) : SP (P.set i y) := by
  obtain ⟨n, rfl, hn⟩ := Par.cl_nat hc
  refine ⟨h.t, h.dn, fun j x hx => ?_⟩
  simp only [Par.set, Int.toNat_natCast] at hx
  by_cases hj : n = j
  · subst hj
    rw [List.getElem?_set_self (List.getElem?_eq_some_iff.1 hn).1] at hx
    cases hx
    exact hy
  · rw [List.getElem?_set_ne hj] at hx
    exact h.cl j x hx
theorem SP.edit {P : Par} (h : SP P) (i : Int) (e : Ed) : SP (editP P i e).2 := by
  unfold editP
  cases hc : P.cl i with
  | none => exact h
  | some c =>
    simp only
    split
    · exact h
    · split
      · exact h
      · exact h.set hc ((h.get hc).edit (by omega) e)
theorem SP.join {P : Par} (h : SP P) (i : Int) : SP (joinP P i).2 := by
  unfold joinP
  cases hc : P.cl i with
  | none => exact h
  | some c =>
    simp only
    split
    · exact h
    · rename_i hj
      exact h.set hc ((h.get hc).join (by simpa using hj))
theorem SP.drop {P : Par} (h : SP P) (i : Int) : SP (dropP P i).2 := by
  unfold dropP
  cases hc : P.cl i with
  | none => exact h
  | some c =>
    simp only
    split
    · exact h.set hc (h.get hc).drop
    · exact h
theorem SP.down {P : Par} (h : SP P) (i : Int) : SP (downP P i).2 := by
  unfold downP
  cases hc : P.cl i with
  | none => exact h
  | some c =>
    simp only
    split
    · exact h
    · rename_i m ds hd
      exact h.set hc ((h.get hc).down hd)
theorem SP.up {P : Par} (h : SP P) (i : Int) : SP (upP P i).2 := by
  unfold upP
  cases hc : P.cl i with
  | none => exact h
  | some c =>
    simp only
    split
    · exact h
    · rename_i m us hu
      split
      · rename_i hm
        exact h.set hc ((h.get hc).hello hu hm h.t).2.2
      · rename_i hm
        have hm' : m.hello = false := by simpa using hm
        split
        · rename_i ht
          exact h.set hc ((h.get hc).pop hu hm' ht)
        · rename_i ht
          have ht' : taken P.ents i m.seq = false := by simpa using ht
          obtain ⟨n, rfl, hn⟩ := Par.cl_nat hc
          have hg := h.get hc
          have hx : applyL P.t m.e = stepE (foldE P.ents) ⟨n, m.seq, m.e, decide (refused P.t m.e = 0)⟩ := by
            rw [h.t]
            unfold stepE
            by_cases hr : refused (foldE P.ents) m.e = 0
            · simp [hr]
            · simp only [hr, decide_false, Bool.false_eq_true, if_false]
              unfold applyL
              rw [if_pos hr]
          refine ⟨?_, ?_, ?_⟩
          · show applyL P.t m.e = foldE (P.ents ++ [⟨n, m.seq, m.e, decide (refused P.t m.e = 0)⟩])
            rw [foldE_snoc, hx]
          · intro k x hk
            have hk' : (P.ents ++ [(⟨n, m.seq, m.e, decide (refused P.t m.e = 0)⟩ : Ent)])[k]? = some x := hk
            show x.done = decide (refused (foldE ((P.ents ++ [(⟨n, m.seq, m.e, decide (refused P.t m.e = 0)⟩ : Ent)]).take k)) x.e = 0)
            rcases Nat.lt_or_ge k P.ents.length with h6 | h6
            · rw [List.getElem?_append_left h6] at hk'
              rw [take_left _ _ (by omega)]
              exact h.dn k x hk'
            · have hl := (List.getElem?_eq_some_iff.1 hk').1
              simp at hl
              have : k = P.ents.length := by omega
              subst this
              rw [List.getElem?_append_right h6, Nat.sub_self] at hk'
              simp at hk'
              subst hk'
              rw [take_left _ _ (Nat.le_refl _), List.take_length, ← h.t]
          · intro j x hx
            simp only [takeP, Par.set, Int.toNat_natCast, List.getElem?_map] at hx
            show SC (P.ents ++ [⟨n, m.seq, m.e, decide (refused P.t m.e = 0)⟩]) j x
            by_cases hj : n = j
            · subst hj
              rw [List.getElem?_set_self (List.getElem?_eq_some_iff.1 hn).1] at hx
              cases hx
              exact (hg.take hu hm' ht' (x := ⟨n, m.seq, m.e, decide (refused P.t m.e = 0)⟩) rfl rfl).2.2
            · rw [List.getElem?_set_ne hj] at hx
              cases hy : P.cls[j]? with
              | none => rw [hy] at hx; cases hx
              | some y =>
                rw [hy] at hx
                cases hx
                exact (h.cl j y hy).tell (x := ⟨n, m.seq, m.e, decide (refused P.t m.e = 0)⟩) (by show (n : Int) ≠ j; omega)
end Go.Proofs.YtbicffldggcdhaaGreatDoor

namespace Go.Proofs.YtbicffldggcdhaaGreatDoor
open Go

/-- A message up: that a client comes (how many entries its base is made of), or an edit with its number. -/
abbrev UMsg := Sum Int (Int × Ed)
/-- A message down: an entry, or a snapshot (a tree, of how many entries, answers). -/
abbrev DMsg := Sum Ent (List Nd × Int × List Ans)
structure PCli where
  base : List Nd
  n : Int
  pend : List (Int × Ed)
  ans : List Ans
  joined : Bool
  told : Bool
  up : List UMsg
  down : List DMsg
/-- A client's edit, and what became of it (by which entry, done or not). -/
abbrev VD := List ((Int × Int) × (Int × Bool))
structure PPar where
  t : List Nd
  n : Int
  keeps : Int
  log : List Ent
  vd : VD
  cls : List PCli
def pcli0 : PCli := ⟨[root0], 0, [], [], false, false, [], []⟩
def PPar.cl (Q : PPar) (i : Int) : Option PCli := if i < 0 then none else Q.cls[i.toNat]?
def PPar.set (Q : PPar) (i : Int) (c : PCli) : PPar := { Q with cls := Q.cls.set i.toNat c }
def newQ (c l : Int) : PPar := ⟨[root0], 0, l, [], [], List.replicate c.toNat pcli0⟩
def PCli.next (c : PCli) : Int := c.ans.length + c.pend.length + 1
def editD (c : PCli) (e : Ed) : PCli := { c with pend := c.pend ++ [(c.next, e)], up := if c.joined then c.up ++ [.inr (c.next, e)] else c.up }
def editQ (Q : PPar) (i : Int) (e : Ed) : Nat × PPar :=
  match Q.cl i with
  | none => (1, Q)
  | some c => if wrongB e then (1, Q) else if 6 ≤ c.pend.length then (7, Q) else (0, Q.set i (editD c e))
def joinD (c : PCli) : PCli := { c with joined := true, up := c.up ++ .inl c.n :: c.pend.map fun q => .inr (q.1, q.2) }
def joinQ (Q : PPar) (i : Int) : Nat × PPar :=
  match Q.cl i with
  | none => (1, Q)
  | some c => if c.joined then (8, Q) else (0, Q.set i (joinD c))
def dropD (c : PCli) : PCli := { c with joined := false, told := false, up := [], down := [] }
def dropQ (Q : PPar) (i : Int) : Nat × PPar :=
  match Q.cl i with
  | none => (1, Q)
  | some c => if c.joined then (0, Q.set i (dropD c)) else (8, Q)
def hasT (vd : VD) (i s : Int) : Bool := vd.any fun x => decide (x.1 = (i, s))
def lack (vd : VD) (i n : Int) : List Ans := (vd.filter fun x => decide (x.1.1 = i) && decide (n < x.2.1)).map fun x => ⟨x.1.2, x.2.2⟩
def behindQ (Q : PPar) (n : Int) (L : List Ans) : List DMsg :=
  if (Q.log.length : Int) < Q.n - n then [.inr (Q.t, Q.n, L)] else (Q.log.drop ((Q.log.length : Int) - (Q.n - n)).toNat).map .inl
def tellD (x : Ent) (c : PCli) : PCli := if c.told then { c with down := c.down ++ [.inl x] } else c
def vput (vd : VD) (k : Int × Int) (v : Int × Bool) : VD := vd ++ [(k, v)]
def vdel (vd : VD) (k : Int × Int) : VD := vd.filter fun x => !decide (x.1 = k)
def takeQ (Q : PPar) (i s : Int) (e : Ed) : PPar :=
  let x : Ent := ⟨i, s, e, decide (refused Q.t e = 0)⟩
  { Q with t := applyL Q.t e, n := Q.n + 1, log := if Q.keeps < (Q.log ++ [x]).length then (Q.log ++ [x]).tail else Q.log ++ [x], vd := vdel (vput Q.vd (i, s) (Q.n + 1, decide (refused Q.t e = 0))) (i, s - 6), cls := Q.cls.map (tellD x) }
def upQ (Q : PPar) (i : Int) (L : List Ans) : Nat × PPar :=
  match Q.cl i with
  | none => (1, Q)
  | some c => match c.up with
    | [] => (9, Q)
    | .inl n :: us => (0, Q.set i { c with up := us, told := true, down := c.down ++ behindQ Q n L })
    | .inr (s, e) :: us => if hasT Q.vd i s then (0, Q.set i { c with up := us }) else (0, takeQ (Q.set i { c with up := us }) i s e)
def got (c : PCli) (a : Ans) : PCli := { c with pend := c.pend.filter fun q => !decide (q.1 = a.seq), ans := c.ans ++ [a] }
def downD (i : Int) (c : PCli) : DMsg → PCli
  | .inr (t, n, L) => L.foldl got { c with base := t, n := n }
  | .inl x =>
    let c1 := { c with base := if x.done then applyL c.base x.e else c.base, n := c.n + 1 }
    if x.client = i then got c1 ⟨x.seq, x.done⟩ else c1
def downQ (Q : PPar) (i : Int) : Nat × PPar :=
  match Q.cl i with
  | none => (1, Q)
  | some c => match c.down with
    | [] => (9, Q)
    | m :: ds => (0, Q.set i (downD i { c with down := ds } m))
def viewD (c : PCli) : List Nd := appAll c.base (c.pend.map (·.2))

/-! ### How it stands to the document's -/
def reprU (m : Msg) : UMsg := if m.hello then .inl m.seq else .inr (m.seq, m.e)
def reprD (k : Nat) (m : Msg) : DMsg := match m.tree with
  | some t => .inr (t, m.n, m.ans.filter fun a => decide ((k : Int) < a.seq))
  | none => .inl m.ent
def reprC (c : Cli) : PCli := ⟨c.base, c.n, c.pend, c.ans, c.joined, c.told, c.up.map reprU, c.down.map (reprD c.ans.length)⟩
structure VOk (vd : VD) (ents : List Ent) : Prop where
  keys : (vd.map (·.1)).Nodup
  mem : ∀ i s v, ((i, s), v) ∈ vd ↔ ∃ (j : Nat) (x : Ent), ents[j]? = some x ∧ x.client = i ∧ x.seq = s ∧ v = ((j : Int) + 1, x.done) ∧ (mine ents i).length < s + 6
structure Sim (Q : PPar) (P : Par) : Prop where
  t : Q.t = P.t
  n : Q.n = P.ents.length
  keeps : Q.keeps = P.log
  log : Q.log = logP P
  vd : VOk Q.vd P.ents
  cls : Q.cls = P.cls.map reprC
theorem sim_new {c l : Int} {P : Par} (h : newP c l = some P) : Sim (newQ c l) P := by
  unfold newP at h
  split at h
  · cases h
  · cases h
    refine ⟨rfl, rfl, rfl, ?_, ⟨by simp [newQ], fun i s v => ?_⟩, ?_⟩
    · simp [newQ, logP]
    · simp [newQ]
    · simp only [newQ, List.map_replicate]
      rfl
section
variable {Q : PPar} {P : Par}
theorem Sim.cl (h : Sim Q P) (i : Int) : Q.cl i = (P.cl i).map reprC := by
  unfold PPar.cl Par.cl
  split
  · rfl
  · rw [h.cls, List.getElem?_map]
theorem Sim.set (h : Sim Q P) (i : Int) (y : Cli) : Sim (Q.set i (reprC y)) (P.set i y) := by
  refine ⟨h.t, h.n, h.keeps, h.log, h.vd, ?_⟩
  show Q.cls.set i.toNat (reprC y) = (P.cls.set i.toNat y).map reprC
  rw [List.map_set, h.cls]
theorem reprC_edit {ents : List Ent} {i : Int} {c : Cli} (h : SC ents i c) (e : Ed) : editD (reprC c) e = reprC (editC c e) := by
  have hn : (reprC c).next = c.seq + 1 := by
    have := h.sq
    show (c.ans.length : Int) + c.pend.length + 1 = _
    omega
  unfold editD
  rw [hn]
  unfold reprC editC
  simp only [PCli.mk.injEq, true_and, and_true]
  split
  · rw [List.map_append]
    rfl
  · rfl
theorem Sim.edit (h : Sim Q P) (hs : SP P) (i : Int) (e : Ed) : (editQ Q i e).1 = (editP P i e).1 ∧ Sim (editQ Q i e).2 (editP P i e).2 := by
  unfold editQ editP
  rw [h.cl i]
  cases hc : P.cl i with
  | none => exact ⟨rfl, h⟩
  | some c =>
    simp only [Option.map_some]
    split
    · exact ⟨rfl, h⟩
    · show (if 6 ≤ c.pend.length then (7, Q) else _ : Nat × PPar).1 = _ ∧ Sim (if 6 ≤ c.pend.length then (7, Q) else _ : Nat × PPar).2 _
      split
      · exact ⟨rfl, h⟩
      · rw [reprC_edit (hs.get hc)]
        exact ⟨rfl, h.set i _⟩
theorem reprC_join {ents : List Ent} {i : Int} {c : Cli} (h : SC ents i c) (hj : c.joined = false) : joinD (reprC c) = reprC (joinC c) := by
  have h0 := h.off hj
  unfold joinD reprC joinC
  simp only [PCli.mk.injEq, true_and, and_true]
  rw [h0.1, List.map_cons, List.map_map]
  rfl
theorem Sim.join (h : Sim Q P) (hs : SP P) (i : Int) : (joinQ Q i).1 = (joinP P i).1 ∧ Sim (joinQ Q i).2 (joinP P i).2 := by
  unfold joinQ joinP
  rw [h.cl i]
  cases hc : P.cl i with
  | none => exact ⟨rfl, h⟩
  | some c =>
    simp only [Option.map_some]
    cases hj : c.joined with
    | true =>
      have : (reprC c).joined = true := hj
      rw [this]
      exact ⟨rfl, h⟩
    | false =>
      have : (reprC c).joined = false := hj
      rw [this]
      simp only [Bool.false_eq_true, if_false]
      rw [reprC_join (hs.get hc) hj]
      exact ⟨trivial, h.set i _⟩
theorem Sim.drop (h : Sim Q P) (i : Int) : (dropQ Q i).1 = (dropP P i).1 ∧ Sim (dropQ Q i).2 (dropP P i).2 := by
  unfold dropQ dropP
  rw [h.cl i]
  cases hc : P.cl i with
  | none => exact ⟨rfl, h⟩
  | some c =>
    simp only [Option.map_some]
    cases hj : c.joined with
    | true =>
      have : (reprC c).joined = true := hj
      rw [this]
      exact ⟨rfl, h.set i (dropC c)⟩
    | false =>
      have : (reprC c).joined = false := hj
      rw [this]
      exact ⟨rfl, h⟩
/-! Down. -/
theorem got_heads : ∀ (B : List Ans) (c : PCli), (∀ (k : Nat) q, c.pend[k]? = some q → q.1 = (c.ans.length : Int) + 1 + k) → (∀ (k : Nat) a, B[k]? = some a → a.seq = (c.ans.length : Int) + 1 + k) → B.length ≤ c.pend.length →
    B.foldl got c = { c with pend := c.pend.drop B.length, ans := c.ans ++ B }
  | [], c, _, _, _ => by simp
  | a :: B, c, h1, h2, h3 => by
    cases hp : c.pend with
    | nil => rw [hp] at h3; simp at h3
    | cons q l =>
      have hq := h1 0 q (by rw [hp]; rfl)
      have ha := h2 0 a rfl
      have hqa : q.1 = a.seq := by omega
      have hl : l.filter (fun q => !decide (q.1 = a.seq)) = l := List.filter_eq_self.2 (fun q' hq' => by
        obtain ⟨k, hk⟩ := List.getElem?_of_mem hq'
        have := h1 (k + 1) q' (by rw [hp]; exact hk)
        have : q'.1 ≠ a.seq := by omega
        simp [this])
      have e1 : got c a = { c with pend := l, ans := c.ans ++ [a] } := by
        unfold got
        rw [hp, List.filter_cons_of_neg (by simp [hqa]), hl]
      rw [List.foldl_cons, e1, got_heads B { c with pend := l, ans := c.ans ++ [a] }]
      · simp
      · intro k q' hk
        have := h1 (k + 1) q' (by rw [hp]; exact hk)
        simp only [List.length_append, List.length_cons, List.length_nil]
        omega
      · intro k a' hk
        have := h2 (k + 1) a' (by simpa using hk)
        simp only [List.length_append, List.length_cons, List.length_nil]
        omega
      · rw [hp] at h3
        simp at h3
        exact h3
theorem repr_news {k l : Nat} {ds : List Msg} (h : ∀ m ∈ ds, m.tree = none) : ds.map (reprD k) = ds.map (reprD l) := by
  refine List.map_congr_left fun m hm => ?_
  unfold reprD
  rw [h m hm]
theorem filt_new {A B : List Ans} {n : Nat} (h1 : ∀ a ∈ A, a.seq ≤ n) (h2 : ∀ (k : Nat) a, B[k]? = some a → a.seq = (n : Int) + 1 + k) : (A ++ B).filter (fun a => decide ((n : Int) < a.seq)) = B := by
  rw [List.filter_append, List.filter_eq_nil_iff.2, List.filter_eq_self.2, List.nil_append]
  · intro a ha
    obtain ⟨k, hk⟩ := List.getElem?_of_mem ha
    have := h2 k a hk
    simp
    omega
  · intro a ha
    have := h1 a ha
    simp
    omega
theorem reprC_down {ents : List Ent} {i : Int} {c : Cli} {m : Msg} {ds : List Msg} (h : SC ents i c) (hd : c.down = m :: ds) (hn : ∀ m ∈ ds, m.tree = none) : downD i { reprC c with down := ds.map (reprD c.ans.length) } (reprD c.ans.length m) = reprC (downC i { c with down := ds } m) := by
  rcases h.comes hd with ⟨x, h1, rfl, h3⟩ | ⟨k, B, h1, h2, rfl, h4, h5, h6, h7, h8⟩
  · show (if x.client = i then got { reprC c with down := ds.map (reprD c.ans.length), base := if x.done then applyL c.base x.e else c.base, n := c.n + 1 } (ansE x) else { reprC c with down := ds.map (reprD c.ans.length), base := if x.done then applyL c.base x.e else c.base, n := c.n + 1 }) = reprC (if x.client = i then answered { c with down := ds, base := if x.done then applyL c.base x.e else c.base, n := c.n + 1 } (ansE x) else { c with down := ds, base := if x.done then applyL c.base x.e else c.base, n := c.n + 1 })
    by_cases hc : x.client = i
    · rw [if_pos hc, if_pos hc]
      obtain ⟨q, l, hp, hq, hxs⟩ := h3 hc
      have hb : ∀ (k : Nat) a, [ansE x][k]? = some a → a.seq = (c.ans.length : Int) + 1 + k := by
        intro k a hk
        have hl := (List.getElem?_eq_some_iff.1 hk).1
        simp at hl
        subst hl
        simp at hk
        subst hk
        show x.seq = _
        omega
      have hlen : [ansE x].length ≤ c.pend.length := by rw [hp]; simp
      have g1 := got_heads [ansE x] { reprC c with down := ds.map (reprD c.ans.length), base := if x.done then applyL c.base x.e else c.base, n := c.n + 1 } h.pq hb hlen
      have g2 := fold_heads [ansE x] { c with down := ds, base := if x.done then applyL c.base x.e else c.base, n := c.n + 1 } h.pq hb hlen
      simp only [List.foldl_cons, List.foldl_nil] at g1 g2
      rw [g1, g2]
      unfold reprC
      simp only [PCli.mk.injEq, true_and]
      exact repr_news hn
    · rw [if_neg hc, if_neg hc]
      rfl
  · have e1 : reprD c.ans.length (msgS (foldE (ents.take k)) k (c.ans ++ B)) = .inr ((foldE (ents.take k)), k, B) := by
      unfold reprD msgS
      simp only [Sum.inr.injEq, Prod.mk.injEq, true_and]
      exact filt_new h8 h6
    rw [e1]
    show B.foldl got { reprC c with down := ds.map (reprD c.ans.length), base := foldE (ents.take k), n := k } = reprC ((c.ans ++ B).foldl answered { c with down := ds, base := foldE (ents.take k), n := k })
    rw [List.foldl_append, fold_old c.ans _ (fun a ha q hq e => by
      obtain ⟨j, hj⟩ := List.getElem?_of_mem hq
      have := h.pq j q hj
      have := h8 a ha
      omega), fold_heads B { c with down := ds, base := foldE (ents.take k), n := k } h.pq h6 h7, got_heads B { reprC c with down := ds.map (reprD c.ans.length), base := foldE (ents.take k), n := k } h.pq h6 h7]
    unfold reprC
    simp only [PCli.mk.injEq, true_and]
    exact repr_news hn
theorem SC.tail_news {ents : List Ent} {i : Int} {c : Cli} {m : Msg} {ds : List Msg} (h : SC ents i c) (hd : c.down = m :: ds) : ∀ m ∈ ds, m.tree = none := by
  have ht : c.told = true := by
    cases ht : c.told with
    | true => rfl
    | false => have := h.nd ht; rw [hd] at this; cases this
  intro m' hm'
  rcases h.dn ht with h1 | ⟨k, _, _, h1⟩
  · have : m' ∈ (ents.drop c.n.toNat).map msgN := by rw [← h1, hd]; exact List.mem_cons_of_mem _ hm'
    obtain ⟨x, _, rfl⟩ := List.mem_map.1 this
    rfl
  · rw [hd, List.cons.injEq] at h1
    rw [h1.2] at hm'
    obtain ⟨x, _, rfl⟩ := List.mem_map.1 hm'
    rfl
theorem Sim.down (h : Sim Q P) (hs : SP P) (i : Int) : (downQ Q i).1 = (downP P i).1 ∧ Sim (downQ Q i).2 (downP P i).2 := by
  unfold downQ downP
  rw [h.cl i]
  cases hc : P.cl i with
  | none => exact ⟨rfl, h⟩
  | some c =>
    simp only [Option.map_some]
    cases hd : c.down with
    | nil =>
      have : (reprC c).down = [] := by show c.down.map _ = []; rw [hd]; rfl
      rw [this]
      exact ⟨rfl, h⟩
    | cons m ds =>
      have : (reprC c).down = reprD c.ans.length m :: ds.map (reprD c.ans.length) := by show c.down.map _ = _; rw [hd]; rfl
      rw [this]
      simp only
      rw [reprC_down (hs.get hc) hd ((hs.get hc).tail_news hd)]
      exact ⟨trivial, h.set i _⟩
end
end Go.Proofs.YtbicffldggcdhaaGreatDoor

namespace Go.Proofs.YtbicffldggcdhaaGreatDoor
open Go

theorem hasT_iff {vd : VD} {i s : Int} : hasT vd i s = true ↔ ∃ v, ((i, s), v) ∈ vd := by
  unfold hasT
  simp only [List.any_eq_true, decide_eq_true_eq]
  constructor
  · rintro ⟨⟨k, v⟩, h1, h2⟩
    simp only at h2
    exact ⟨v, h2 ▸ h1⟩
  · rintro ⟨v, h⟩
    exact ⟨_, h, rfl⟩
theorem mine_get {ents : List Ent} {i : Int} {j : Nat} {x : Ent} (h : ents[j]? = some x) (hc : x.client = i) : (mine ents i)[(mine (ents.take j) i).length]? = some x := by
  obtain ⟨r, hr⟩ := mine_pre ents i (j + 1)
  have : mine (ents.take (j + 1)) i = mine (ents.take j) i ++ [x] := by
    rw [take_snoc h, mine_append]
    unfold mine
    rw [List.filter_cons_of_pos (by simpa using hc)]
    rfl
  rw [hr, this, List.append_assoc, List.getElem?_append_right (Nat.le_refl _), Nat.sub_self]
  rfl
theorem mine_mono (ents : List Ent) (i : Int) {n m : Nat} (h : n ≤ m) : (mine (ents.take n) i).length ≤ (mine (ents.take m) i).length := by
  rw [mine_take_len ents i n m h, List.length_append]
  omega
section
variable {ents : List Ent} {i : Int} {c : Cli} {vd : VD}
/-- An edit of a client that still sends it: taken just where the map says so. -/
theorem vok_hasT (hv : VOk vd ents) {s : Int} (hs : (mine ents i).length < s + 6) : Go.Proofs.YtbicffldggcdhaaGreatDoor.hasT vd i s = taken ents i s := by
  rw [Bool.eq_iff_iff, hasT_iff, taken_iff]
  constructor
  · rintro ⟨v, hm⟩
    obtain ⟨j, x, h1, h2, h3, _⟩ := (hv.mem i s v).1 hm
    exact ⟨x, List.mem_filter.2 ⟨List.mem_of_getElem? h1, by simpa using h2⟩, h3⟩
  · rintro ⟨x, hx, hxs⟩
    obtain ⟨h1, h2⟩ := List.mem_filter.1 hx
    obtain ⟨j, hj⟩ := List.getElem?_of_mem h1
    exact ⟨((j : Int) + 1, x.done), (hv.mem i s _).2 ⟨j, x, hj, by simpa using h2, hxs, rfl, hs⟩⟩
/-- The answers that a client lacks. -/
theorem SC.lack (h : SC ents i c) (hv : VOk vd ents) {L : List Ans} (hp : L.Perm (Go.Proofs.YtbicffldggcdhaaGreatDoor.lack vd i c.n)) (ho : L.Pairwise fun a b => a.seq ≤ b.seq) : L = ansOf (ents.drop c.n.toNat) i := by
  have h0 := h.n0
  obtain ⟨B, b1, b2, b3, b4, b5, b6⟩ := h.snap (m := ents.length) h.n0.2
  rw [List.take_length] at b1 b2
  rw [← b2]
  have hal : c.ans.length = (mine (ents.take c.n.toNat) i).length := by
    conv => lhs; rw [h.aq]
    rw [ansOf_len]
  -- who is in the list
  have hmem : ∀ a, a ∈ L ↔ a ∈ B := by
    intro a
    rw [hp.mem_iff]
    unfold Go.Proofs.YtbicffldggcdhaaGreatDoor.lack
    simp only [List.mem_map, List.mem_filter, Bool.and_eq_true, decide_eq_true_eq]
    constructor
    · rintro ⟨⟨⟨i', s⟩, ⟨e, d⟩⟩, ⟨h1, h2, h3⟩, rfl⟩
      simp only at h2 h3
      subst h2
      obtain ⟨j, x, g1, g2, g3, g4, g5⟩ := (hv.mem _ _ _).1 h1
      simp only [Prod.mk.injEq] at g4
      rw [b2, ansOf_mine]
      refine List.mem_map.2 ⟨x, List.mem_filter.2 ⟨?_, by simpa using g2⟩, by unfold ansE; rw [g3, g4.2]⟩
      refine List.mem_of_getElem? (i := j - c.n.toNat) ?_
      rw [List.getElem?_drop, show c.n.toNat + (j - c.n.toNat) = j by omega]
      exact g1
    · intro ha
      rw [b2, ansOf_mine] at ha
      obtain ⟨x, hx, rfl⟩ := List.mem_map.1 ha
      obtain ⟨hx1, hx2⟩ := List.mem_filter.1 hx
      have hxc : x.client = i := by simpa using hx2
      obtain ⟨j, hj⟩ := List.getElem?_of_mem hx1
      rw [List.getElem?_drop] at hj
      have hseq := h.es _ x (mine_get hj hxc)
      have hmm := mine_mono ents i (n := c.n.toNat) (m := c.n.toNat + j) (by omega)
      have hcn := h.cn
      have hp6 := h.p6
      refine ⟨((i, x.seq), (((c.n.toNat + j : Nat) : Int) + 1, x.done)), ⟨(hv.mem _ _ _).2 ⟨c.n.toNat + j, x, hj, hxc, rfl, rfl, by omega⟩, rfl, by show c.n < ((c.n.toNat + j : Nat) : Int) + 1; omega⟩, rfl⟩
  have hnodB : B.Nodup := by
    rw [List.nodup_iff_pairwise_ne, List.pairwise_iff_getElem]
    intro a b ha hb hab e
    have e1 := b3 a _ (List.getElem?_eq_getElem ha)
    have e2 := b3 b _ (List.getElem?_eq_getElem hb)
    rw [e] at e1
    omega
  have hordB : B.Pairwise fun a b => a.seq ≤ b.seq := by
    rw [List.pairwise_iff_getElem]
    intro a b ha hb hab
    have e1 := b3 a _ (List.getElem?_eq_getElem ha)
    have e2 := b3 b _ (List.getElem?_eq_getElem hb)
    omega
  have hnodL : L.Nodup := by
    refine hp.nodup_iff.2 ?_
    unfold Go.Proofs.YtbicffldggcdhaaGreatDoor.lack
    rw [List.nodup_iff_pairwise_ne, List.pairwise_map]
    have hk : (vd.filter fun x => decide (x.1.1 = i) && decide (c.n < x.2.1)).Pairwise fun a b => a.1 ≠ b.1 := by
      have := hv.keys
      rw [List.nodup_iff_pairwise_ne, List.pairwise_map] at this
      exact this.sublist List.filter_sublist
    refine (List.pairwise_iff_forall_sublist.2 fun {a b} hab e => ?_)
    have hab2 := (List.pairwise_iff_forall_sublist.1 hk) hab
    have ha := (List.mem_filter.1 (hab.subset (List.mem_cons_self)))
    have hb := (List.mem_filter.1 (hab.subset (List.mem_cons_of_mem _ List.mem_cons_self)))
    simp only [Bool.and_eq_true, decide_eq_true_eq] at ha hb
    simp only [Ans.mk.injEq] at e
    exact hab2 (Prod.ext (ha.2.1.trans hb.2.1.symm) e.1)
  have hperm : L.Perm B := (List.perm_ext_iff_of_nodup hnodL hnodB).2 hmem
  refine hperm.eq_of_pairwise ?_ ho hordB
  intro a b ha hb h1 h2
  have hb' : b ∈ B := hb
  have ha' := (hmem a).1 ha
  obtain ⟨k, hk⟩ := List.getElem?_of_mem ha'
  obtain ⟨l, hl⟩ := List.getElem?_of_mem hb'
  have e1 := b3 k a hk
  have e2 := b3 l b hl
  have : k = l := by omega
  subst this
  rw [hk] at hl
  exact Option.some.inj hl
end
section
variable {Q : PPar} {P : Par}
theorem log_len (P : Par) (hl : 0 ≤ P.log) : ((logP P).length : Int) = if (P.ents.length : Int) ≤ P.log then (P.ents.length : Int) else P.log := by
  unfold logP
  split
  · rfl
  · rw [List.length_drop]
    omega
theorem behind_ent (hq : Sim Q P) (hl : 0 ≤ P.log) {n : Int} (h0 : 0 ≤ n) (h1 : n ≤ P.ents.length) (L : List Ans) : behindQ Q n L = if (P.ents.length : Int) - n ≤ P.log then (P.ents.drop n.toNat).map Sum.inl else [.inr (P.t, (P.ents.length : Int), L)] := by
  have hlen := log_len P hl
  unfold behindQ
  rw [hq.log, hq.n, hq.t]
  by_cases hle : (P.ents.length : Int) ≤ P.log
  · rw [if_pos hle] at hlen
    rw [if_neg (by omega), if_pos (by omega)]
    congr 1
    rw [hlen]
    unfold logP
    rw [if_pos hle]
    congr 1
    omega
  · rw [if_neg hle] at hlen
    by_cases hs : (P.ents.length : Int) - n ≤ P.log
    · rw [if_neg (by omega), if_pos hs]
      congr 1
      rw [hlen]
      unfold logP
      rw [if_neg hle, List.drop_drop]
      congr 1
      omega
    · rw [if_pos (by omega), if_neg hs]
theorem reprC_hello (hq : Sim Q P) (hl : 0 ≤ P.log) {i : Int} {c : Cli} {m : Msg} {us : List Msg} {L : List Ans} (h : SC P.ents i c) (hu : c.up = m :: us) (hm : m.hello = true) (ht : P.t = foldE P.ents) (hL : (P.ents.length : Int) - c.n ≤ P.log ∨ L = ansOf (P.ents.drop c.n.toNat) i) :
    ({ reprC c with up := us.map reprU, told := true, down := (reprC c).down ++ behindQ Q m.seq L } : PCli) = reprC (helloC P i { c with up := us } m.seq) := by
  obtain ⟨e1, htl, _⟩ := h.hello hu hm ht
  have hd := h.nd htl
  subst e1
  have h0 := h.n0
  unfold reprC helloC
  simp only [PCli.mk.injEq, true_and]
  rw [hd, List.map_nil, List.nil_append, List.nil_append]
  show behindQ Q c.n L = List.map _ (if (P.ents.length : Int) - c.n ≤ P.log then _ else _)
  rw [behind_ent hq hl h0.1 h0.2]
  by_cases hs : (P.ents.length : Int) - c.n ≤ P.log
  · rw [if_pos hs, if_pos hs, List.map_map]
    rfl
  · rw [if_neg hs, if_neg hs]
    obtain ⟨B, b1, b2, b3, b4, b5, b6⟩ := h.snap (m := P.ents.length) h0.2
    rw [List.take_length] at b1 b2
    have hLB : L = B := by
      rcases hL with h9 | h9
      · exact absurd h9 hs
      · rw [h9, b2]
    subst hLB
    show [_] = [reprD c.ans.length (msgS P.t P.ents.length (ansOf P.ents i))]
    congr 1
    unfold reprD msgS
    simp only [Sum.inr.injEq, Prod.mk.injEq, true_and]
    rw [b1, filt_new b6 b3]
theorem reprC_tell (x : Ent) (c : Cli) : tellD x (reprC c) = reprC (tell x c) := by
  unfold tellD tell
  show (if c.told then _ else _) = _
  split
  · unfold reprC
    simp only [PCli.mk.injEq, true_and, List.map_append]
    rfl
  · rfl
theorem logP_snoc (hl : 0 ≤ P.log) (x : Ent) : (if P.log < (logP P ++ [x]).length then (logP P ++ [x]).tail else logP P ++ [x]) = logP { P with ents := P.ents ++ [x] } := by
  have hlen := log_len P hl
  unfold logP at hlen ⊢
  simp only [List.length_append, List.length_cons, List.length_nil]
  by_cases hle : (P.ents.length : Int) ≤ P.log
  · rw [if_pos hle] at hlen
    rw [if_pos hle]
    by_cases hlt : P.log < ((P.ents.length + (0 + 1) : Nat) : Int)
    · rw [if_pos hlt, if_neg (by omega), show P.ents.length + (0 + 1) - P.log.toNat = 1 by omega, List.drop_one]
    · rw [if_neg hlt, if_pos (by omega)]
  · rw [if_neg hle] at hlen
    rw [if_neg hle, if_pos (by rw [if_neg hle] at hlen; omega), if_neg (by omega), ← List.drop_one]
    rw [show P.ents.drop (P.ents.length - P.log.toNat) ++ [x] = (P.ents ++ [x]).drop (P.ents.length - P.log.toNat) by rw [List.drop_append_of_le_length (by omega)], List.drop_drop]
    congr 1
    omega
theorem vok_take {ents : List Ent} {vd : VD} {i : Nat} {c : Cli} {s : Int} {e : Ed} {d : Bool} (h : SC ents i c) (hv : VOk vd ents) (hs : s = (mine ents i).length + 1) :
    VOk (vdel (vput vd (i, s) ((ents.length : Int) + 1, d)) (i, s - 6)) (ents ++ [⟨i, s, e, d⟩]) := by
  have hnew : (((i : Int), s) : Int × Int) ∉ vd.map (·.1) := by
    intro hm
    obtain ⟨⟨k, v⟩, h1, h2⟩ := List.mem_map.1 hm
    simp only at h2
    subst h2
    obtain ⟨j, x, g1, g2, g3, _⟩ := (hv.mem _ _ _).1 h1
    have := h.es _ x (mine_get g1 g2)
    have hl : (mine (ents.take j) i).length < (mine ents i).length := (List.getElem?_eq_some_iff.1 (mine_get g1 g2)).1
    omega
  refine ⟨?_, fun i' s' v => ?_⟩
  · unfold vdel vput
    refine List.Nodup.sublist (List.filter_sublist.map _) ?_
    rw [List.map_append, List.nodup_append]
    refine ⟨hv.keys, by simp, ?_⟩
    intro a ha b hb e
    simp at hb
    subst hb
    exact hnew (e ▸ ha)
  · have hmm : ∀ k : Int, (mine (ents ++ [(⟨i, s, e, d⟩ : Ent)]) k).length = (mine ents k).length + if (i : Int) = k then 1 else 0 := by
      intro k
      rw [mine_snoc]
      by_cases hk : (i : Int) = k
      · rw [if_pos hk, if_pos hk, List.length_append]; rfl
      · rw [if_neg hk, if_neg hk, List.append_nil]; rfl
    unfold vdel vput
    simp only [List.mem_filter, List.mem_append, List.mem_cons, List.not_mem_nil, or_false, Prod.mk.injEq, Bool.not_eq_true', decide_eq_false_iff_not]
    rw [hmm]
    constructor
    · rintro ⟨h1 | ⟨⟨rfl, rfl⟩, rfl⟩, h2⟩
      · obtain ⟨j, x, g1, g2, g3, g4, g5⟩ := (hv.mem _ _ _).1 h1
        refine ⟨j, x, by rw [List.getElem?_append_left (List.getElem?_eq_some_iff.1 g1).1]; exact g1, g2, g3, g4, ?_⟩
        split
        · rename_i hk
          have : ¬ s' = s - 6 := fun e => h2 ⟨hk.symm, e⟩
          rw [← hk] at g5
          have g5' : ((mine ents (i : Int)).length : Int) < s' + 6 := g5
          rw [← hk]
          omega
        · exact g5
      · refine ⟨ents.length, ⟨i, s', e, d⟩, by rw [List.getElem?_append_right (Nat.le_refl _), Nat.sub_self]; rfl, rfl, rfl, rfl, ?_⟩
        rw [if_pos rfl]
        omega
    · rintro ⟨j, x, g1, g2, g3, g4, g5⟩
      rcases Nat.lt_or_ge j ents.length with h6 | h6
      · rw [List.getElem?_append_left h6] at g1
        refine ⟨.inl ((hv.mem _ _ _).2 ⟨j, x, g1, g2, g3, g4, ?_⟩), ?_⟩
        · split at g5 <;> omega
        · rintro ⟨rfl, rfl⟩
          rw [if_pos rfl] at g5
          omega
      · have hl := (List.getElem?_eq_some_iff.1 g1).1
        simp at hl
        have : j = ents.length := by omega
        subst this
        rw [List.getElem?_append_right (Nat.le_refl _), Nat.sub_self] at g1
        simp at g1
        subst g1
        simp only at g2 g3 g4
        refine ⟨.inr ⟨⟨g2.symm, g3.symm⟩, g4⟩, ?_⟩
        rintro ⟨_, h9⟩
        omega
theorem Sim.up (h : Sim Q P) (hs : SP P) (hl : 0 ≤ P.log) (i : Int) {L : List Ans} (hp : ∀ n c us, Q.cl i = some c → c.up = .inl n :: us → (Q.log.length : Int) < Q.n - n → L.Perm (lack Q.vd i n) ∧ L.Pairwise fun a b => a.seq ≤ b.seq) : (upQ Q i L).1 = (upP P i).1 ∧ Sim (upQ Q i L).2 (upP P i).2 := by
  have hcl := h.cl i
  unfold upQ upP
  rw [hcl]
  cases hc : P.cl i with
  | none => exact ⟨rfl, h⟩
  | some c =>
    rw [hc] at hcl
    have hg := hs.get hc
    simp only [Option.map_some]
    cases hu : c.up with
    | nil =>
      have : (reprC c).up = [] := by show c.up.map _ = []; rw [hu]; rfl
      rw [this]
      exact ⟨rfl, h⟩
    | cons m us =>
      have hru : (reprC c).up = reprU m :: us.map reprU := by show c.up.map _ = _; rw [hu]; rfl
      rw [hru]
      cases hm : m.hello with
      | true =>
        have e1 := (hg.hello hu hm hs.t).1
        have e2 : reprU m = .inl m.seq := by unfold reprU; rw [hm]; rfl
        have e3 : m.seq = c.n := by rw [e1]; rfl
        rw [e2]
        simp only
        have h0 := hg.n0
        have hL : (P.ents.length : Int) - c.n ≤ P.log ∨ L = ansOf (P.ents.drop c.n.toNat) i := by
          by_cases hs : (P.ents.length : Int) - c.n ≤ P.log
          · exact .inl hs
          · right
            have hlen := log_len P hl
            rw [if_neg (by omega)] at hlen
            obtain ⟨h1, h2⟩ := hp c.n (reprC c) (us.map reprU) hcl (by rw [hru, e2, e3]) (by rw [h.log, h.n]; omega)
            exact hg.lack h.vd h1 h2
        rw [reprC_hello h hl hg hu hm hs.t hL]
        rw [if_pos hm]
        exact ⟨rfl, h.set i _⟩
      | false =>
        obtain ⟨hj, htl, s, e, rfl, g2, g26, g3, g4, g5⟩ := hg.first hu hm
        have e2 : reprU (msgE (s + 1) e) = .inr ((s + 1), e) := rfl
        have e4 : ({ reprC c with up := us.map reprU } : PCli) = reprC { c with up := us } := rfl
        rw [e2]
        simp only
        have hht : hasT Q.vd i ((s : Int) + 1) = taken P.ents i ((s : Int) + 1) := vok_hasT h.vd (by omega)
        rw [hht, e4]
        show (if taken P.ents i ((s : Int) + 1) = true then _ else _ : Nat × PPar).1 = (if taken P.ents i ((s : Int) + 1) = true then _ else _ : Nat × Par).1 ∧ Sim (if taken P.ents i ((s : Int) + 1) = true then _ else _ : Nat × PPar).2 (if taken P.ents i ((s : Int) + 1) = true then _ else _ : Nat × Par).2
        by_cases htk : taken P.ents i ((s : Int) + 1) = true
        · rw [if_pos htk, if_pos htk]
          exact ⟨rfl, h.set i _⟩
        · rw [if_neg htk, if_neg htk]
          refine ⟨rfl, ?_⟩
          have hsm := h.set i { c with up := us }
          obtain ⟨n, rfl, hn⟩ := Par.cl_nat hc
          have hg' := hs.get hc
          have hsq := (hg'.take hu hm (by show taken P.ents (n : Int) ((s : Int) + 1) = false; simpa using htk) (x := ⟨n, (s : Int) + 1, e, decide (refused P.t e = 0)⟩) rfl rfl).1
          have hsq' : (s : Int) + 1 = (mine P.ents (n : Int)).length + 1 := hsq
          refine ⟨?_, ?_, h.keeps, ?_, ?_, ?_⟩
          · show applyL Q.t e = applyL P.t e
            rw [h.t]
          · show Q.n + 1 = ((P.ents ++ [_]).length : Int)
            rw [h.n]
            simp
          · have hlog := logP_snoc (P := P) hl ⟨n, (s : Int) + 1, e, decide (refused P.t e = 0)⟩
            show (if Q.keeps < (Q.log ++ [(⟨n, (s : Int) + 1, e, decide (refused Q.t e = 0)⟩ : Ent)]).length then (Q.log ++ [(⟨n, (s : Int) + 1, e, decide (refused Q.t e = 0)⟩ : Ent)]).tail else Q.log ++ [(⟨n, (s : Int) + 1, e, decide (refused Q.t e = 0)⟩ : Ent)]) = _
            rw [h.keeps, h.log, h.t]
            exact hlog
          · show VOk (vdel (vput Q.vd (n, (s : Int) + 1) (Q.n + 1, decide (refused Q.t e = 0))) (n, (s : Int) + 1 - 6)) (P.ents ++ [⟨n, (s : Int) + 1, e, decide (refused P.t e = 0)⟩])
            rw [h.n, h.t]
            exact vok_take hg' h.vd hsq'
          · show (Q.set n (reprC { c with up := us })).cls.map (tellD ⟨n, (s : Int) + 1, e, decide (refused Q.t e = 0)⟩) = ((P.set n { c with up := us }).cls.map (tell ⟨n, (s : Int) + 1, e, decide (refused P.t e = 0)⟩)).map reprC
            rw [hsm.cls, h.t, List.map_map, List.map_map]
            exact List.map_congr_left fun y _ => reprC_tell _ y
end
end Go.Proofs.YtbicffldggcdhaaGreatDoor
