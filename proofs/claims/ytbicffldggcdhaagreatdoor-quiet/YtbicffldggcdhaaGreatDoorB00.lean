/-
  LWp; LOp; LTab; LMem; WRef1.
-/
import Derived.OrdersHeld
import Derived.KernelRfl
import Derived.Deep.Draws
import Derived.RangeFuncRecord
import Derived.OrdersIn
import Derived.LaidEql
import Derived.Test.YtbicffldggcdhaaGreatDoorProg
namespace Go.Proofs.YtbicffldggcdhaaGreatDoor
open Go

structure Wrap (p : Prop) : Prop where
  out : p
abbrev Env := Nat → Value
def upd (env : Env) (d : Nat) (v : Value) : Env := fun i => bif Nat.beq i d then v else env i
def updo (env : Env) : Option Nat → Value → Env
  | some d, v => upd env d v
  | none, _ => env
def ini : List Value → Env
  | [] => fun _ => undef
  | v :: r => fun i => match i with
    | 0 => v
    | k + 1 => ini r k
def rep (n : Nat) (ds : List Deferred) (env : Env) : Act := { tmps := Array.ofFn (n := n) fun i => env i.val, defers := ds }
def ev (n : Nat) (env : Env) : Operand → Value
  | .tmp t => bif Nat.blt t n then env t else undef
  | .const v => v
  | .global g => .pointer (some ⟨g, 0, none⟩)
  | .func f => .func (.func f) #[] #[]

theorem rep_eval (n : Nat) (ds : List Deferred) (env : Env) : (rep n ds env).eval = ev n env := by
  funext x
  cases x with
  | tmp t =>
    simp only [Act.eval, rep, ev, Array.getD_eq_getD_getElem?, Array.getElem?_ofFn]
    by_cases h : t < n
    · have hb : Nat.blt t n = true := Nat.ble_eq_true_of_le h
      simp [h, hb]
    · have hb : Nat.blt t n = false := by
        cases hx : Nat.blt t n with
        | false => rfl
        | true => exact absurd (Nat.le_of_ble_eq_true hx) h
      simp [h, hb]
  | _ => rfl

theorem rep_put (n : Nat) (ds : List Deferred) (env : Env) (d : Option Nat) (v : Value) : (rep n ds env).put d v = rep n ds (updo env d v) := by
  cases d with
  | none => rfl
  | some d =>
    simp only [Act.put, rep, updo]
    congr 1
    apply Array.ext
    · simp
    · intro i h1 h2
      simp only [Array.size_setIfInBounds, Array.size_ofFn] at h1
      simp only [Array.getElem_ofFn, upd]
      by_cases hd : d = i
      · subst hd; simp
      · have hb : Nat.beq i d = false := by
          cases hb : Nat.beq i d with
          | false => rfl
          | true => exact absurd (Nat.eq_of_beq_eq_true hb).symm hd
        have hx : ((Array.ofFn fun i : Fin n => env i.val).setIfInBounds d v)[i]? = some (env i) := by
          rw [Array.getElem?_setIfInBounds_ne hd, Array.getElem?_ofFn]; simp [h1]
        rw [hb]
        exact (Array.getElem_eq_iff).2 hx

theorem upd_self {env : Env} {d : Nat} {v : Value} (h : env d = v) : upd env d v = env := by
  funext i
  unfold upd
  cases hb : Nat.beq i d with
  | false => rfl
  | true => have := Nat.eq_of_beq_eq_true hb; subst this; simp [h]

theorem yielded_rep (n : Nat) (ds : List Deferred) (env : Env) (ops : Array Oper) (j d : Nat) (h : (ops[j]?).bind (·.dst) = some d) (hd : Nat.blt d n = true) :
    yielded ops (rep n ds env).tmps j = match env d with | .bool b => some b | _ => none := by
  have hlt : d < n := Nat.le_of_ble_eq_true hd
  unfold yielded
  rw [h]
  simp only [Option.bind_some, rep, Array.getElem?_ofFn, hlt, dite_true]
  cases env d <;> rfl

/-! ### A region that draws nothing -/
section
variable {P : Program} {ops : Array Oper} {Q : Exit → Act → World → Prop}

/-- The fence that lets all by, of an activation (none) or of a round of the loop l. -/
def fen (R : Option Nat) : Fence := { Fence.wide with round := R }

/-- What one operation may do: a value, nothing, a call that returns, a round that returns. -/
def opw (P : Program) (o : Oper) (a : Act) (w : World) (K : Act → World → Prop) : Prop :=
  (∃ v w', (execOp a.eval o).run P w = .ok (.value v) w' ∧ K (a.put o.dst v) w') ∨
  (∃ w', (execOp a.eval o).run P w = .ok .skip w' ∧ K (a.put o.dst undef) w') ∨
  (∃ f args w', (execOp a.eval o).run P w = .ok (.enter f args) w' ∧ Calls P f args w' (fun e w'' => ∃ v, e = .returned v ∧ K (a.put o.dst v) w'')) ∨
  (∃ l f tmps assign body w', (execOp a.eval o).run P w = .ok (.round l f tmps assign body) w' ∧ RoundIn Fence.wide 0 P l f tmps assign body w' (fun e w'' => ∃ v, e = .returned v ∧ K (a.put o.dst v) w''))

theorem opw_mono {o : Oper} {a : Act} {w : World} {K K' : Act → World → Prop} (h : ∀ a w, K a w → K' a w) (hh : opw P o a w K) : opw P o a w K' := by
  rcases hh with ⟨v, w', hr, hk⟩ | ⟨w', hr, hk⟩ | ⟨f, args, w', hr, hk⟩ | ⟨l, f, tmps, ars, bo, w', hr, hk⟩
  · exact .inl ⟨v, w', hr, h _ _ hk⟩
  · exact .inr (.inl ⟨w', hr, h _ _ hk⟩)
  · exact .inr (.inr (.inl ⟨f, args, w', hr, hk.mono fun e w'' he => let ⟨v, h1, h2⟩ := he; ⟨v, h1, h _ _ h2⟩⟩))
  · exact .inr (.inr (.inr ⟨l, f, tmps, ars, bo, w', hr, hk.mono fun e w'' he => let ⟨v, h1, h2⟩ := he; ⟨v, h1, h _ _ h2⟩⟩))

theorem opw_at {o : Oper} {a : Act} {w : World} {K : Act → World → Prop} (h : opw P o a w K) (R : Option Nat) : o.semAt R a.eval = execOp a.eval o := by
  refine Oper.semAt_eq R a.eval o fun c hc => ?_
  have hd : ∀ x w', (execOp a.eval o).run P w = .ok x w' → ∃ d, x = .defer d := by
    intro x w' hx
    obtain ⟨d0, op, t, p, af, g⟩ := o
    simp only at hc
    subst hc
    simp only [execOp, Sem.run_bind] at hx
    cases hy : (resolve a.eval c t).run P w with
    | ok d w1 =>
      rw [hy] at hx
      simp only [Result.andThen, Sem.run_pure] at hx
      cases hx
      exact ⟨_, rfl⟩
    | halt q w1 => rw [hy] at hx; simp [Result.andThen] at hx
  rcases h with ⟨v, w', hr, _⟩ | ⟨w', hr, _⟩ | ⟨f, args, w', hr, _⟩ | ⟨l, f, tmps, ars, bo, w', hr, _⟩ <;>
  · obtain ⟨d, hd⟩ := hd _ _ hr
    cases hd

theorem opw_wpIn {o : Oper} {a : Act} {w : World} {K : Act → World → Prop} {R : Option Nat} (h : opw P o a w K) : o.wpIn (fen R) 0 P a w K Q := by
  refine ⟨fun _ _ => trivial, ?_⟩
  show o.uponIn (fen R) 0 P a K Q ((o.semAt R a.eval).run P w)
  rw [opw_at h R]
  rcases h with ⟨v, w', hr, hk⟩ | ⟨w', hr, hk⟩ | ⟨f, args, w', hr, hk⟩ | ⟨l, f, tmps, ars, bo, w', hr, hk⟩
  · rw [hr]; exact hk
  · rw [hr]; exact hk
  · rw [hr, Oper.uponIn_enter]
    refine ⟨fun h => (by cases h), ?_⟩
    have h1 : CallsIn Fence.wide 0 P f args w' (fun e w'' => ∃ v, e = .returned v ∧ K (a.put o.dst v) w'') := callsIn_wide.2 hk
    have h2 : CallsIn (fen R) 0 P f args w' (fun e w'' => ∃ v, e = .returned v ∧ K (a.put o.dst v) w'') := h1
    refine h2.mono ?_
    rintro e w'' ⟨v, rfl, hv⟩
    exact hv
  · rw [hr, Oper.uponIn_round]
    refine ⟨fun h => (by cases h), ?_⟩
    have h2 : RoundIn (fen R) 0 P l f tmps ars bo w' (fun e w'' => ∃ v, e = .returned v ∧ K (a.put o.dst v) w'') := hk
    refine h2.mono ?_
    rintro e w'' ⟨v, rfl, hv⟩
    exact hv

def wpOne (P : Program) (ops : Array Oper) (o : Oper) (K : Act → World → Prop) (a : Act) (w : World) : Prop :=
  if Region.wanted o (yielded ops a.tmps) then opw P o a w K else K (a.put o.dst undef) w

def wpS (P : Program) (ops : Array Oper) (Q : Exit → Act → World → Prop) : List Oper → Act → World → Prop
  | [], a, w => Q .normal a w
  | o :: r, a, w => wpOne P ops o (wpS P ops Q r) a w

theorem wpS_ops {R : Option Nat} : ∀ (l : List Oper) (k : Nat), (∀ j, l[j]? = ops[k + j]?) → ∀ a w, wpS P ops Q l a w → wpOpsIn (fen R) 0 P ops Q (List.range' k l.length) a w
  | [], _, _, _, _, h => h
  | o :: l, k, hl, a, w, h => by
    have h0 : ops[k]? = some o := by simpa using (hl 0).symm
    simp only [List.length_cons, List.range'_succ]
    unfold wpOpsIn
    rw [h0]
    simp only [wpS, wpOne] at h
    have ih := wpS_ops (R := R) l (k + 1) (fun j => by have := hl (j + 1); simpa [Nat.add_assoc, Nat.add_comm 1 j] using this)
    dsimp only
    split
    · rename_i hw
      rw [if_pos hw] at h
      exact opw_wpIn (opw_mono (fun a w h => ih a w h) h)
    · rename_i hw
      rw [if_neg hw] at h
      exact ⟨fun _ _ => trivial, ih _ _ h⟩

theorem wp_reg {R : Option Nat} {id : Nat} {l : List Oper} {a : Act} {w : World} (h : wpS P l.toArray Q l a w) : (Code.region id l.toArray false).wpIn (fen R) 0 P Q a w := by
  apply wpIn_region
  have := wpS_ops (P := P) (Q := Q) (R := R) (ops := l.toArray) l 0 (fun j => by simp) a w h
  simpa [List.range_eq_range'] using this

end

/-! ### A region that draws its order -/
section
variable {P : Program} {ops : Array Oper} {Q : Exit → Act → World → Prop} {S : World → Prop} {early : Nat → Bool} {R : Option Nat}

def wpo (P : Program) (ops : Array Oper) (i : Nat) (K : Act → World → Prop) (a : Act) (w : World) : Prop :=
  match ops[i]? with
  | none => K a w
  | some o => if Region.wanted o (yielded ops a.tmps) then opw P o a w K else K (a.put o.dst undef) w

theorem wpo_mono {i : Nat} {a : Act} {w : World} {K K' : Act → World → Prop} (h : ∀ a w, K a w → K' a w) (hh : wpo P ops i K a w) : wpo P ops i K' a w := by
  unfold wpo at *
  split
  · exact h _ _ (by simpa [*] using hh)
  · rename_i o ho
    simp only [ho] at hh
    split
    · rename_i hw; simp only [hw, if_true] at hh; exact opw_mono h hh
    · rename_i hw; simp only [hw] at hh; exact h _ _ hh

theorem wpo_in {i : Nat} {a : Act} {w : World} {K : Act → World → Prop} (hh : wpo P ops i K a w) : wpOpIn (fen R) 0 P ops Q i K a w := by
  unfold wpo at hh
  unfold wpOpIn
  split
  · simpa [*] using hh
  · rename_i o ho
    simp only [ho] at hh
    split
    · rename_i hw; simp only [hw, if_true] at hh; exact opw_wpIn hh
    · rename_i hw; simp only [hw] at hh; exact ⟨fun _ _ => trivial, hh⟩

theorem yif_wpo {i : Nat} {o : Oper} {v : Value} {a : Act} (hi : ops[i]? = some o) (hy : YieldsIf P ops S o v a) {K : Act → World → Prop} {w : World} (hS : S w) (h : K (a.put o.dst v) w) : wpo P ops i K a w := by
  unfold wpo
  simp only [hi]
  rcases hy with ⟨hw, hv⟩ | ⟨hw, rfl⟩
  · simp only [hw, if_true]; exact .inl ⟨v, w, hv w hS, h⟩
  · simp only [hw, Bool.false_eq_true, if_false]; exact h

theorem wpo_putIf {j : Nat} {oi oj : Oper} {v : Value} (hj : ops[j]? = some oj) (hap : oi.apart ops oj = true)
    (hsi : ∀ cs b, oi.op ≠ .select cs b) (hsj : ∀ cs b, oj.op ≠ .select cs b) {K : Act → World → Prop} {a : Act} {w : World}
    (hy : YieldsIf P ops S oi v a) (h : wpo P ops j K (a.put oi.dst v) w) :
    wpo P ops j (fun a' w' => YieldsIf P ops S oi v a' ∧ K (a'.put oi.dst v) w') a w := by
  obtain ⟨h1, h2, h3⟩ := Oper.apart_spec hap
  have keep : ∀ (a : Act), YieldsIf P ops S oi v a → ∀ u, YieldsIf P ops S oi v (a.put oj.dst u) := fun a hy u =>
    hy.of_same (execOp_put oi hsi a oj.dst u h3) (wanted_put oi a oj.dst u h3)
  unfold wpo at *
  simp only [hj] at *
  rw [wanted_put oj a oi.dst v h1] at h
  split
  · rename_i hw
    simp only [hw, if_true] at h
    unfold opw at *
    rw [execOp_put oj hsj a oi.dst v h1] at h
    rcases h with ⟨u, w', hr, hk⟩ | ⟨w', hr, hk⟩ | ⟨f, args, w', hr, hk⟩ | ⟨l, f, tmps, ars, bo, w', hr, hk⟩
    · exact .inl ⟨u, w', hr, keep a hy u, by rw [← Act.put_comm a v u h2]; exact hk⟩
    · exact .inr (.inl ⟨w', hr, keep a hy _, by rw [← Act.put_comm a v undef h2]; exact hk⟩)
    · exact .inr (.inr (.inl ⟨f, args, w', hr, hk.mono fun e w'' he => let ⟨u, e1, e2⟩ := he; ⟨u, e1, keep a hy u, by rw [← Act.put_comm a v u h2]; exact e2⟩⟩))
    · exact .inr (.inr (.inr ⟨l, f, tmps, ars, bo, w', hr, hk.mono fun e w'' he => let ⟨u, e1, e2⟩ := he; ⟨u, e1, keep a hy u, by rw [← Act.put_comm a v u h2]; exact e2⟩⟩))
  · rename_i hw
    simp only [hw] at h
    exact ⟨keep a hy _, by rw [← Act.put_comm a v undef h2]; exact h⟩

def wpE (P : Program) (ops : Array Oper) (Q : Exit → Act → World → Prop) (S : World → Prop) (early : Nat → Bool) : Nat → Array Bool → Act → World → Prop
  | 0, listed, a, w => Region.ready .any ops listed = [] ∧ Q .normal a w
  | fuel + 1, listed, a, w =>
    (Region.ready .any ops listed = [] → Q .normal a w) ∧
    ∀ i ∈ Region.ready .any ops listed, wpo P ops i (fun a' w' => (early i = true → S w') ∧ wpE P ops Q S early fuel (listed.setIfInBounds i true) a' w') a w

theorem wpAny_of_wpE : ∀ (fuel : Nat) (listed : Array Bool) (a : Act) (w : World), wpE P ops Q S early fuel listed a w → wpAnyIn (fen R) 0 P .any ops Q fuel listed a w
  | 0, _, _, _, h => h
  | fuel + 1, _, _, _, h => ⟨h.1, fun i hi => wpo_in (wpo_mono (fun a' w' h' => wpAny_of_wpE fuel _ a' w' h'.2) (h.2 i hi))⟩

/-- What has come up is closed downwards. -/
def Shut (ops : Array Oper) (listed : Array Bool) : Prop :=
  ∀ (j : Nat) (o : Oper), ops[j]? = some o → listed.getD j false = true → ∀ e ∈ o.after, Region.binds .any e = true → listed.getD e.on false = true

theorem Shut.step {listed : Array Bool} {i : Nat} (h : Shut ops listed) (hi : i ∈ Region.ready .any ops listed) : Shut ops (listed.setIfInBounds i true) := by
  obtain ⟨h0, o, ho, hall⟩ := mem_ready.1 hi
  intro j oj hj hl e he hb
  by_cases hij : i = j
  · subst hij
    rw [ho] at hj
    cases hj
    exact getD_set_true (hall e he hb)
  · rw [getD_set_ne false hij] at hl
    exact getD_set_true (h j oj hj hl e he hb)

def aft (ops : Array Oper) (j : Nat) : List Nat :=
  match ops[j]? with
  | some o => o.after.toList.filterMap fun e => if Region.binds .any e then some e.on else none
  | none => []
def anc (ops : Array Oper) : Nat → List Nat → List Nat
  | 0, l => l
  | n + 1, l => anc ops n ((l ++ l.flatMap (aft ops)).eraseDups)

theorem aft_listed {listed : Array Bool} (h : Shut ops listed) {j : Nat} (hl : listed.getD j false = true) : ∀ x ∈ aft ops j, listed.getD x false = true := by
  intro x hx
  unfold aft at hx
  split at hx
  · rename_i o ho
    obtain ⟨e, he, hb⟩ := List.mem_filterMap.1 hx
    split at hb
    · rename_i hbi
      cases hb
      exact h j o ho hl e (by simpa using he) hbi
    · cases hb
  · cases hx

theorem anc_listed {listed : Array Bool} (h : Shut ops listed) : ∀ (n : Nat) (l : List Nat), (∀ x ∈ l, listed.getD x false = true) → ∀ x ∈ anc ops n l, listed.getD x false = true
  | 0, _, hl, x, hx => hl x hx
  | n + 1, l, hl, x, hx => by
    refine anc_listed h n _ (fun y hy => ?_) x hx
    rw [List.mem_eraseDups, List.mem_append] at hy
    rcases hy with hy | hy
    · exact hl y hy
    · obtain ⟨z, hz, hy⟩ := List.mem_flatMap.1 hy
      exact aft_listed h (hl z hz) y hy

theorem ready_aft {listed : Array Bool} {j : Nat} (hj : j ∈ Region.ready .any ops listed) : ∀ x ∈ aft ops j, listed.getD x false = true := by
  obtain ⟨_, o, ho, hall⟩ := mem_ready.1 hj
  intro x hx
  unfold aft at hx
  rw [ho] at hx
  obtain ⟨e, he, hb⟩ := List.mem_filterMap.1 hx
  split at hb
  · rename_i hbi
    cases hb
    exact hall e (by simpa using he) hbi
  · cases hb

theorem getD_ne_of {listed : Array Bool} {i : Nat} (h : listed.getD i true = false) : listed.getD i false = false := by
  simp only [Array.getD_eq_getD_getElem?] at *
  cases hx : listed[i]? <;> simp_all

theorem wpE_first {i : Nat} {oi : Oper} {v : Value} (hi : ops[i]? = some oi) (hsel : ∀ (j : Nat) (o : Oper) cs b, ops[j]? = some o → o.op ≠ .select cs b)
    (hlate : ∀ j, early j = false → ∃ n, i ∈ anc ops n (aft ops j)) :
    ∀ (fuel : Nat) (listed : Array Bool) (a : Act) (w : World), Shut ops listed →
      (∀ j oj, ops[j]? = some oj → j ≠ i → listed.getD j true = false → (∀ e ∈ oj.after, Region.binds .any e = true → e.on ≠ i) → oi.apart ops oj = true) →
      i ∈ Region.ready .any ops listed → YieldsIf P ops S oi v a → S w →
      wpE P ops Q S early fuel (listed.setIfInBounds i true) (a.put oi.dst v) w → wpE P ops Q S early (fuel + 1) listed a w := by
  intro fuel
  induction fuel with
  | zero =>
    intro listed a w _ _ hr hy hS H
    refine ⟨fun h => (by rw [h] at hr; cases hr), fun j hj => ?_⟩
    by_cases hji : j = i
    · subst hji; exact yif_wpo hi hy hS ⟨fun _ => hS, H⟩
    · have := ready_mono hj hji
      rw [H.1] at this
      cases this
  | succ fuel ih =>
    intro listed a w hsh hfree hr hy hS H
    refine ⟨fun h => (by rw [h] at hr; cases hr), fun j hj => ?_⟩
    by_cases hji : j = i
    · subst hji; exact yif_wpo hi hy hS ⟨fun _ => hS, H⟩
    · have h1 := H.2 j (ready_mono hj hji)
      obtain ⟨hjun, oj, hoj, hall⟩ := mem_ready.1 hj
      have hiun := getD_ne_of (mem_ready.1 hr).1
      have hearly : early j = true := by
        cases he : early j with
        | true => rfl
        | false =>
          obtain ⟨n, hn⟩ := hlate j he
          have := anc_listed hsh n _ (ready_aft hj) i hn
          rw [this] at hiun
          cases hiun
      have hnot : ∀ e ∈ oj.after, Region.binds .any e = true → e.on ≠ i := fun e he hb heq => by
        have h1 := hall e he hb
        rw [heq, hiun] at h1
        cases h1
      have h2 := wpo_putIf (S := S) hoj (hfree j oj hoj hji hjun hnot) (fun cs b => hsel i oi cs b hi) (fun cs b => hsel j oj cs b hoj) hy h1
      have hfree' : ∀ k ok, ops[k]? = some ok → k ≠ i → (listed.setIfInBounds j true).getD k true = false →
          (∀ e ∈ ok.after, Region.binds .any e = true → e.on ≠ i) → oi.apart ops ok = true := fun k ok hk hki hun hno => by
        refine hfree k ok hk hki ?_ hno
        by_cases hjk : j = k
        · subst hjk; exact hjun
        · rw [getD_set_ne true hjk] at hun; exact hun
      refine wpo_mono (fun a' w' h3 => ⟨h3.2.1, ih (listed.setIfInBounds j true) a' w' (hsh.step hj) hfree' (ready_mono hr (Ne.symm hji)) h3.1 (h3.2.1 hearly) ?_⟩) h2
      rw [Array.setIfInBounds_comm _ _ hji]
      exact h3.2.2

/-- The walk in an order of ours: first quiet operations (false) and such as S outlives (true), then the late ones. -/
def wpX2 (P : Program) (ops : Array Oper) (Q : Exit → Act → World → Prop) : List Nat → Act → World → Prop
  | [], a, w => Q .normal a w
  | i :: r, a, w => wpo P ops i (wpX2 P ops Q r) a w
def wpX (P : Program) (ops : Array Oper) (S : World → Prop) (Q : Exit → Act → World → Prop) (late : List Nat) : List (Nat × Bool) → Act → World → Prop
  | [], a, w => wpX2 P ops Q late a w
  | (i, false) :: r, a, w => ∃ o v, ops[i]? = some o ∧ YieldsIf P ops S o v a ∧ wpX P ops S Q late r (a.put o.dst v) w
  | (i, true) :: r, a, w => wpo P ops i (fun a' w' => S w' ∧ wpX P ops S Q late r a' w') a w

def chk2 (ops : Array Oper) : List Nat → Array Bool → Bool
  | [], listed => Region.ready .any ops listed == []
  | i :: r, listed => Region.ready .any ops listed == [i] && chk2 ops r (listed.setIfInBounds i true)
def chk1 (ops : Array Oper) (late : List Nat) (fuel : Nat) : List (Nat × Bool) → Array Bool → Bool
  | [], listed => chk2 ops late listed
  | (i, false) :: r, listed => (Region.ready .any ops listed).contains i && Region.free .any ops listed i && late.all (fun j => (anc ops fuel (aft ops j)).contains i) && chk1 ops late fuel r (listed.setIfInBounds i true)
  | (i, true) :: r, listed => Region.ready .any ops listed == [i] && !late.contains i && chk1 ops late fuel r (listed.setIfInBounds i true)
def chk (ops : Array Oper) (ord : List (Nat × Bool)) (late : List Nat) : Bool :=
  Region.noSelect ops && ord.length + late.length == ops.size && chk1 ops late ops.size ord (Array.replicate ops.size false)

theorem wpE_late {late : List Nat} (hS : ∀ i ∈ late, early i = false) : ∀ (l : List Nat) (listed : Array Bool) (a : Act) (w : World), (∀ i ∈ l, i ∈ late) → chk2 ops l listed = true → wpX2 P ops Q l a w → wpE P ops Q S early l.length listed a w
  | [], listed, a, w, _, hc, h => ⟨by simpa [chk2] using hc, h⟩
  | i :: l, listed, a, w, hl, hc, h => by
    simp only [chk2, Bool.and_eq_true, beq_iff_eq] at hc
    refine ⟨fun h0 => (by rw [hc.1] at h0; cases h0), fun j hj => ?_⟩
    rw [hc.1] at hj
    obtain rfl : j = i := by simpa using hj
    refine wpo_mono (fun a' w' h' => ⟨fun he => ?_, wpE_late hS l _ a' w' (fun k hk => hl k (List.mem_cons_of_mem _ hk)) hc.2 h'⟩) h
    rw [hS j (hl j List.mem_cons_self)] at he
    cases he

theorem wpE_ord {late : List Nat} {fuel : Nat} (hsel : Region.noSelect ops = true) : ∀ (l : List (Nat × Bool)) (listed : Array Bool) (a : Act) (w : World), Shut ops listed → S w → chk1 ops late fuel l listed = true →
    wpX P ops S Q late l a w → wpE P ops Q S (fun i => !late.contains i) (l.length + late.length) listed a w
  | [], listed, a, w, _, _, hc, h => by
    simp only [List.length_nil, Nat.zero_add]
    exact wpE_late (late := late) (fun i hi => by simpa using hi) late listed a w (fun _ h => h) (by simpa [chk1] using hc) h
  | (i, false) :: l, listed, a, w, hsh, hS, hc, h => by
    simp only [chk1, Bool.and_eq_true] at hc
    obtain ⟨⟨⟨hr, hf⟩, hl⟩, hc'⟩ := hc
    obtain ⟨o, v, ho, hy, hk⟩ := h
    have hr' : i ∈ Region.ready .any ops listed := by simpa using hr
    rw [show (i, false) :: l = [(i, false)] ++ l from rfl, List.length_append, List.length_singleton, show 1 + l.length + late.length = (l.length + late.length) + 1 by omega]
    refine wpE_first ho (Region.noSelect_spec hsel) (fun j hj => ?_) _ listed a w hsh (Region.free_spec ho hf) hr' hy hS (wpE_ord hsel l _ _ w (hsh.step hr') hS hc' hk)
    refine ⟨fuel, ?_⟩
    have := List.all_eq_true.1 hl j (by simpa using hj)
    simpa using this
  | (i, true) :: l, listed, a, w, hsh, hS, hc, h => by
    simp only [chk1, Bool.and_eq_true, beq_iff_eq] at hc
    obtain ⟨⟨hr, _⟩, hc'⟩ := hc
    simp only [wpX] at h
    rw [show (i, true) :: l = [(i, true)] ++ l from rfl, List.length_append, List.length_singleton, show 1 + l.length + late.length = (l.length + late.length) + 1 by omega]
    refine ⟨fun h0 => (by rw [hr] at h0; cases h0), fun j hj => ?_⟩
    have hj' := hj
    rw [hr] at hj
    obtain rfl : j = i := by simpa using hj
    exact wpo_mono (fun a' w' h' => ⟨fun _ => h'.1, wpE_ord hsel l _ a' w' (hsh.step hj') h'.1 hc' h'.2⟩) h

/-- ONE WALK, IN AN ORDER OF OURS, SERVES EVERY ORDER. -/
theorem wp_drawn {id : Nat} {l : List Oper} {a : Act} {w : World} (ord : List (Nat × Bool)) (late : List Nat) (S : World → Prop) (hm : P.follows .mixedOrders = true) (hc : chk l.toArray ord late = true)
    (hS : S w.drew) (h : wpX P l.toArray S Q late ord a w.drew) : (Code.region id l.toArray true).wpIn (fen R) 0 P Q a w := by
  simp only [chk, Bool.and_eq_true, beq_iff_eq] at hc
  obtain ⟨⟨hs, hz⟩, hc⟩ := hc
  refine wpIn_region_any hm (wpAny_of_wpE (S := S) (early := fun i => !late.contains i) _ _ _ _ ?_)
  rw [← hz]
  refine wpE_ord hs ord _ a _ (fun j o ho hl => ?_) hS (by rw [hz]; exact hc) h
  simp only [Array.getD_eq_getD_getElem?, Array.getElem?_replicate] at hl
  split at hl <;> simp at hl
end
end Go.Proofs.YtbicffldggcdhaaGreatDoor

namespace Go.Proofs.YtbicffldggcdhaaGreatDoor
open Go

/-! ### Blocks -/
abbrev At (w : World) (b : Nat) (o : Obj) : Prop := w.heap[b]? = some o
abbrev cel (l : List Value) (ty : Nat) : Obj := .cells l.toArray ty (0, 0)
def setB (w : World) (b : Nat) (o : Obj) : World := { w with heap := w.heap.setIfInBounds b o }
def sub : List Value → Nat → Nat → List Value
  | [], _, _ => []
  | x :: l, 0, n => match n with
    | 0 => []
    | m + 1 => x :: sub l 0 m
  | _ :: l, k + 1, n => sub l k n
def put : List Value → Nat → List Value → List Value
  | [], _, _ => []
  | x :: l, 0, vs => match vs with
    | [] => x :: l
    | v :: r => v :: put l 0 r
  | x :: l, k + 1, vs => x :: put l k vs

theorem sub_zero (l : List Value) (k : Nat) : sub l k 0 = [] := by
  induction l generalizing k with
  | nil => rfl
  | cons x l ih => cases k with
    | zero => rfl
    | succ k => exact ih k
theorem sub_succ : ∀ (l : List Value) (k n : Nat) (v : Value), l[k]? = some v → sub l k (n + 1) = v :: sub l (k + 1) n
  | [], k, n, v, h => by simp at h
  | x :: l, 0, n, v, h => by simp at h; subst h; rfl
  | x :: l, k + 1, n, v, h => by
    simp only [List.getElem?_cons_succ] at h
    exact sub_succ l k n v h
theorem put_nil (l : List Value) (k : Nat) : put l k [] = l := by
  induction l generalizing k with
  | nil => rfl
  | cons x l ih => cases k with
    | zero => rfl
    | succ k => simp [put, ih k]
theorem put_cons : ∀ (l : List Value) (k : Nat) (v : Value) (r : List Value), k < l.length → put l k (v :: r) = put (l.set k v) (k + 1) r
  | [], k, v, r, h => by simp at h
  | x :: l, 0, v, r, _ => by
    cases r <;> rfl
  | x :: l, k + 1, v, r, h => by
    simp only [List.length_cons] at h
    simp only [put, List.set_cons_succ]
    rw [put_cons l k v r (by omega)]
theorem put_length : ∀ (l : List Value) (k : Nat) (vs : List Value), (put l k vs).length = l.length
  | [], _, _ => rfl
  | x :: l, 0, [] => rfl
  | x :: l, 0, v :: r => by simp [put, put_length l 0 r]
  | x :: l, k + 1, vs => by simp [put, put_length l k vs]

theorem at_lt {w : World} {b : Nat} {o : Obj} (h : At w b o) : b < w.heap.size := by
  rcases Nat.lt_or_ge b w.heap.size with h' | h'
  · exact h'
  · simp [At, Array.getElem?_eq_none h'] at h
theorem at_alloc_new (w : World) (o : Obj) : At (w.alloc o) w.heap.size o := by
  show (w.heap.push o)[w.heap.size]? = some o
  simp
theorem at_alloc {w : World} {b : Nat} {x : Obj} (o : Obj) (h : At w b x) : At (w.alloc o) b x := by
  have := at_lt h
  show (w.heap.push o)[b]? = some x
  rw [Array.getElem?_push, if_neg (Nat.ne_of_lt this)]
  exact h
theorem at_drew {w : World} {b : Nat} {x : Obj} (h : At w b x) : At w.drew b x := h
theorem at_setB {w : World} {b : Nat} {x : Obj} (o : Obj) (h : At w b x) : At (setB w b o) b o := by
  have := at_lt h
  simp [At, setB, this]
theorem at_setB_ne {w : World} {b c : Nat} {x : Obj} (o : Obj) (hne : b ≠ c) (h : At w c x) : At (setB w b o) c x := by
  simp only [At, setB]
  rw [Array.getElem?_setIfInBounds_ne hne]
  exact h
theorem size_setB (w : World) (b : Nat) (o : Obj) : (setB w b o).heap.size = w.heap.size := by simp [setB]
theorem setB_setB (w : World) (b : Nat) (o p : Obj) : setB (setB w b o) b p = setB w b p := by simp [setB]
theorem setB_self {w : World} {b : Nat} {o : Obj} (h : At w b o) : setB w b o = w := by
  unfold setB
  have : w.heap.setIfInBounds b o = w.heap := by
    apply Array.ext'
    apply List.ext_getElem?
    intro i
    by_cases hi : b = i
    · subst hi
      have h1 := at_lt h
      have h2 : w.heap[b]? = some o := h
      rw [Array.getElem?_eq_getElem h1] at h2
      simp [h1, Option.some.inj h2]
    · simp [Array.toList_setIfInBounds, List.getElem?_set_ne hi]
  rw [this]
theorem cell_at {w : World} {b : Nat} {l : List Value} {ty : Nat} {k : Nat × Nat} (h : At w b (.cells l.toArray ty k)) (off : Nat) : w.cell? ⟨b, off, none⟩ = l[off]? := by
  have h' : w.heap[b]? = some (.cells l.toArray ty k) := h
  simp [World.cell?, h']
theorem frozen_at {w : World} {b : Nat} {C : Array Value} {ty : Nat} (h : At w b (.cells C ty (0, 0))) (off : Nat) : w.frozen? ⟨b, off, none⟩ = false := by
  have h' : w.heap[b]? = some (.cells C ty (0, 0)) := h
  simp [World.frozen?, h']
theorem setCell_at {w : World} {b : Nat} {l : List Value} {ty : Nat} (h : At w b (cel l ty)) (off : Nat) (v : Value) : w.setCell ⟨b, off, none⟩ v = setB w b (cel (l.set off v) ty) := by
  have h' : w.heap[b]? = some (cel l ty) := h
  have hlt := at_lt h
  unfold World.setCell setB
  have : (w.heap.modify b fun
      | .cells c elem frozen => .cells (if (none : Option Nat).isSome then c else c.setIfInBounds off v) elem frozen
      | o => o) = w.heap.setIfInBounds b (cel (l.set off v) ty) := by
    apply Array.ext
    · simp
    · intro i h1 h2
      by_cases hi : b = i
      · subst hi
        have hx : w.heap[b] = cel l ty := by
          have := Array.getElem?_eq_getElem hlt
          rw [h'] at this
          exact (Option.some.inj this).symm
        simp [Array.getElem_modify, hx]
      · have h3 : i < w.heap.size := by simpa using h2
        have hx : (w.heap.setIfInBounds b (cel (l.set off v) ty))[i]? = w.heap[i]? := Array.getElem?_setIfInBounds_ne hi
        rw [Array.getElem_modify]
        simp only [hi, if_false]
        have := Array.getElem?_eq_getElem h3
        rw [← hx] at this
        exact ((Array.getElem_eq_iff).2 this).symm
  exact congrArg (fun h => { w with heap := h }) this

section
variable {P : Program} {w : World}

def szOf (P : Program) (t : Nat) : Option Nat := (P.info? t).map (·.size)
def zrOf (P : Program) (t : Nat) : Option Value := (P.info? t).bind (·.zero)
def byOf (P : Program) (t : Nat) : Option Nat := (P.info? t).map (·.bytes)

theorem run_size {t n : Nat} (h : szOf P t = some n) : (sizeOf t).run P w = .ok n w := by
  unfold szOf at h
  cases hi : P.info? t with
  | none => simp [hi] at h
  | some i => simp [hi] at h; simp [sizeOf, typeInfo, hi, h]
theorem run_zero {t : Nat} {v : Value} (h : zrOf P t = some v) : (zeroValue t).run P w = .ok v w := by
  unfold zrOf at h
  cases hi : P.info? t with
  | none => simp [hi] at h
  | some i => simp [hi] at h; simp [zeroValue, typeInfo, hi, h]
theorem run_load_at {b off : Nat} {l : List Value} {ty : Nat} {k : Nat × Nat} {v : Value} (h : At w b (.cells l.toArray ty k)) (hv : l[off]? = some v) : (load ⟨b, off, none⟩).run P w = .ok v w := by
  simp [load, Sem.run, cell_at h, hv]
theorem add_none (b off n : Nat) : (⟨b, off, none⟩ : Addr).add n = ⟨b, off + n, none⟩ := by
  unfold Addr.add
  split
  · rename_i h; subst h; rfl
  · rfl
theorem run_loadCellsFrom {b off : Nat} {l : List Value} {ty : Nat} {k : Nat × Nat} (h : At w b (.cells l.toArray ty k)) : ∀ (n i : Nat) (acc : Array Value), off + i + n ≤ l.length → (loadCellsFrom ⟨b, off, none⟩ i n acc).run P w = .ok (acc ++ (sub l (off + i) n).toArray) w
  | 0, i, acc, _ => by simp [loadCellsFrom, sub_zero]
  | n + 1, i, acc, hl => by
    have hlt : off + i < l.length := by omega
    have hv : l[off + i]? = some l[off + i] := List.getElem?_eq_getElem hlt
    simp only [loadCellsFrom, Sem.run_bind, add_none, run_load_at h hv, Result.andThen_ok]
    rw [run_loadCellsFrom h n (i + 1) _ (by omega), sub_succ l (off + i) n _ hv]
    simp [Nat.add_assoc]
theorem run_loadCells_at {b off n : Nat} {l : List Value} {ty : Nat} {k : Nat × Nat} (h : At w b (.cells l.toArray ty k)) (hl : off + n ≤ l.length) : (loadCells ⟨b, off, none⟩ n).run P w = .ok (sub l off n).toArray w := by
  unfold loadCells
  rw [run_loadCellsFrom h n 0 #[] (by omega)]
  simp

def one (v : Value) : Bool := match v with | .agg _ | .tuple _ => false | _ => true
theorem run_store_at {b off : Nat} {l : List Value} {ty : Nat} {v : Value} (h : At w b (cel l ty)) (hl : off < l.length) (hv : one v = true) : (store ⟨b, off, none⟩ v).run P w = .ok () (setB w b (cel (l.set off v) ty)) := by
  have hc := cell_at (k := (0, 0)) h off
  rw [List.getElem?_eq_getElem hl] at hc
  have hf := frozen_at h off
  have hs := setCell_at h off v
  cases v <;> first | (simp [one] at hv; done) | simp [store, Sem.run, hc, hf, hs]
theorem run_storeCells_at {b off : Nat} {ty : Nat} : ∀ (vs : List Value) (i : Nat) (w : World) (l : List Value), At w b (cel l ty) → off + i + vs.length ≤ l.length → (∀ v ∈ vs, one v = true) → (storeCells ⟨b, off, none⟩ vs i).run P w = .ok () (setB w b (cel (put l (off + i) vs) ty))
  | [], i, w, l, h, _, _ => by simp [storeCells, put_nil, setB_self h]
  | v :: vs, i, w, l, h, hl, hv => by
    simp only [List.length_cons] at hl
    simp only [storeCells, Sem.run_bind, add_none, run_store_at h (show off + i < l.length by omega) (hv v List.mem_cons_self), Result.andThen_ok]
    rw [run_storeCells_at vs (i + 1) _ (l.set (off + i) v) (at_setB _ h) (by simp; omega) (fun x hx => hv x (List.mem_cons_of_mem _ hx)), setB_setB, put_cons l (off + i) v vs (by omega)]
    simp [Nat.add_assoc]

def isAggD : TypeDesc → Bool
  | .struct _ | .array _ _ => true
  | _ => false
theorem run_isAgg {t : Nat} {d : TypeDesc} (h : P.underlying t = some d) : (isAgg t).run P w = .ok (isAggD d) w := by
  unfold isAgg
  simp only [Sem.run_bind, run_underlying h, Result.andThen_ok]
  cases d <;> rfl
end

/-! ### Operations -/
section
variable {P : Program} {w : World} {n : Nat} {env : Env} {ρ : Operand → Value} {d : Option Nat} {t : Nat} {p : String} {af : Array Edge} {g : Option (Nat × Bool)}

theorem r_move_i {x : Operand} {k : IntKind} {a : Int} (hx : ρ x = .int k a) : (execOp ρ ⟨d, .move x, t, p, af, g⟩).run P w = .ok (.value (.int k a)) w := by rw [← hx]; rfl
theorem r_move_b {x : Operand} {b : Bool} (hx : ρ x = .bool b) : (execOp ρ ⟨d, .move x, t, p, af, g⟩).run P w = .ok (.value (.bool b)) w := by rw [← hx]; rfl
theorem r_move_p {x : Operand} {a : Option Addr} (hx : ρ x = .pointer a) : (execOp ρ ⟨d, .move x, t, p, af, g⟩).run P w = .ok (.value (.pointer a)) w := by rw [← hx]; rfl
theorem r_move_s {x : Operand} {a : Option Addr} {m c : Nat} (hx : ρ x = .slice a m c) : (execOp ρ ⟨d, .move x, t, p, af, g⟩).run P w = .ok (.value (.slice a m c)) w := by rw [← hx]; rfl
theorem r_move_m {x : Operand} {a : Option Nat} (hx : ρ x = .map a) : (execOp ρ ⟨d, .move x, t, p, af, g⟩).run P w = .ok (.value (.map a)) w := by rw [← hx]; rfl
theorem r_move_t {x : Operand} {vs : Array Value} (hx : ρ x = .tuple vs) : (execOp ρ ⟨d, .move x, t, p, af, g⟩).run P w = .ok (.value (.tuple vs)) w := by rw [← hx]; rfl
theorem r_move_if {x : Operand} {u : Nat} {v : Value} (hx : ρ x = .iface u v) : (execOp ρ ⟨d, .move x, t, p, af, g⟩).run P w = .ok (.value (.iface u v)) w := by rw [← hx]; rfl
theorem r_move_ni {x : Operand}  (hx : ρ x = .nilIface) : (execOp ρ ⟨d, .move x, t, p, af, g⟩).run P w = .ok (.value (.nilIface)) w := by rw [← hx]; rfl
theorem r_move_f {x : Operand} {fn : Fn} {x1 x2 : Array Value} (hx : ρ x = .func fn x1 x2) : (execOp ρ ⟨d, .move x, t, p, af, g⟩).run P w = .ok (.value (.func fn x1 x2)) w := by rw [← hx]; rfl
theorem r_assign_i {x : Operand} {k : IntKind} {a : Int} (hx : ρ x = .int k a) : (execOp ρ ⟨d, .assign x, t, p, af, g⟩).run P w = .ok (.value (.int k a)) w := by rw [← hx]; rfl
theorem r_assign_b {x : Operand} {b : Bool} (hx : ρ x = .bool b) : (execOp ρ ⟨d, .assign x, t, p, af, g⟩).run P w = .ok (.value (.bool b)) w := by rw [← hx]; rfl
theorem r_assign_p {x : Operand} {a : Option Addr} (hx : ρ x = .pointer a) : (execOp ρ ⟨d, .assign x, t, p, af, g⟩).run P w = .ok (.value (.pointer a)) w := by rw [← hx]; rfl
theorem r_assign_s {x : Operand} {a : Option Addr} {m c : Nat} (hx : ρ x = .slice a m c) : (execOp ρ ⟨d, .assign x, t, p, af, g⟩).run P w = .ok (.value (.slice a m c)) w := by rw [← hx]; rfl
theorem r_assign_m {x : Operand} {a : Option Nat} (hx : ρ x = .map a) : (execOp ρ ⟨d, .assign x, t, p, af, g⟩).run P w = .ok (.value (.map a)) w := by rw [← hx]; rfl
theorem r_assign_if {x : Operand} {u : Nat} {v : Value} (hx : ρ x = .iface u v) : (execOp ρ ⟨d, .assign x, t, p, af, g⟩).run P w = .ok (.value (.iface u v)) w := by rw [← hx]; rfl
theorem r_assign_ni {x : Operand}  (hx : ρ x = .nilIface) : (execOp ρ ⟨d, .assign x, t, p, af, g⟩).run P w = .ok (.value (.nilIface)) w := by rw [← hx]; rfl
theorem r_assign_f {x : Operand} {fn : Fn} {x1 x2 : Array Value} (hx : ρ x = .func fn x1 x2) : (execOp ρ ⟨d, .assign x, t, p, af, g⟩).run P w = .ok (.value (.func fn x1 x2)) w := by rw [← hx]; rfl
theorem r_assign {x : Operand} {v : Value} (hx : ρ x = v) : (execOp ρ ⟨d, .assign x, t, p, af, g⟩).run P w = .ok (.value v) w := by rw [← hx]; rfl
theorem r_pick_t {c x y : Operand} {b e : Bool} (hc : ρ c = .bool e) (he : e = true) (hx : ρ x = .bool b) : (execOp ρ ⟨d, .pick c x y, t, p, af, g⟩).run P w = .ok (.value (.bool b)) w := by subst he; simp [execOp, hc, asBool, hx]
theorem r_pick_f {c x y : Operand} {b e : Bool} (hc : ρ c = .bool e) (he : e = false) (hx : ρ y = .bool b) : (execOp ρ ⟨d, .pick c x y, t, p, af, g⟩).run P w = .ok (.value (.bool b)) w := by subst he; simp [execOp, hc, asBool, hx]

theorem r_cmp {op : BinOp} {ty ty2 : Nat} {x y : Operand} {k : IntKind} {a b : Int} {r : Bool} (hx : ρ x = .int k a) (hy : ρ y = .int k b)
    (h : match op with | .eql => r = decide (a = b) | .neq => r = !decide (a = b) | .lss => r = decide (a < b) | .leq => r = decide (a ≤ b) | .gtr => r = decide (b < a) | .geq => r = decide (b ≤ a) | _ => False) :
    (execOp ρ ⟨d, .binOp op ty x y ty2, t, p, af, g⟩).run P w = .ok (.value (.bool r)) w := by
  cases op <;> simp only at h <;> subst h <;> simp [execOp, hx, hy, eqGuard, binOp, Op.intCmp] <;> first | rfl | (cases hd : decide (a = b) <;> simp_all)
theorem r_eql {ty ty2 : Nat} {x y : Operand} {k : IntKind} {a b : Int} (hx : ρ x = .int k a) (hy : ρ y = .int k b) : (execOp ρ ⟨d, .binOp .eql ty x y ty2, t, p, af, g⟩).run P w = .ok (.value (.bool (decide (a = b)))) w := r_cmp hx hy rfl
theorem r_neq {ty ty2 : Nat} {x y : Operand} {k : IntKind} {a b : Int} (hx : ρ x = .int k a) (hy : ρ y = .int k b) : (execOp ρ ⟨d, .binOp .neq ty x y ty2, t, p, af, g⟩).run P w = .ok (.value (.bool (!decide (a = b)))) w := r_cmp hx hy rfl
theorem r_lss {ty ty2 : Nat} {x y : Operand} {k : IntKind} {a b : Int} (hx : ρ x = .int k a) (hy : ρ y = .int k b) : (execOp ρ ⟨d, .binOp .lss ty x y ty2, t, p, af, g⟩).run P w = .ok (.value (.bool (decide (a < b)))) w := r_cmp hx hy rfl
theorem r_leq {ty ty2 : Nat} {x y : Operand} {k : IntKind} {a b : Int} (hx : ρ x = .int k a) (hy : ρ y = .int k b) : (execOp ρ ⟨d, .binOp .leq ty x y ty2, t, p, af, g⟩).run P w = .ok (.value (.bool (decide (a ≤ b)))) w := r_cmp hx hy rfl
theorem r_gtr {ty ty2 : Nat} {x y : Operand} {k : IntKind} {a b : Int} (hx : ρ x = .int k a) (hy : ρ y = .int k b) : (execOp ρ ⟨d, .binOp .gtr ty x y ty2, t, p, af, g⟩).run P w = .ok (.value (.bool (decide (b < a)))) w := r_cmp hx hy rfl
theorem r_geq {ty ty2 : Nat} {x y : Operand} {k : IntKind} {a b : Int} (hx : ρ x = .int k a) (hy : ρ y = .int k b) : (execOp ρ ⟨d, .binOp .geq ty x y ty2, t, p, af, g⟩).run P w = .ok (.value (.bool (decide (b ≤ a)))) w := r_cmp hx hy rfl

theorem r_eql_t {ty ty2 : Nat} {x y : Operand} {k : IntKind} {a b : Int} (hx : ρ x = .int k a) (hy : ρ y = .int k b) (h : a = b) : (execOp ρ ⟨d, .binOp .eql ty x y ty2, t, p, af, g⟩).run P w = .ok (.value (.bool true)) w := r_cmp hx hy (by simp; first | exact h | omega)
theorem r_eql_f {ty ty2 : Nat} {x y : Operand} {k : IntKind} {a b : Int} (hx : ρ x = .int k a) (hy : ρ y = .int k b) (h : a ≠ b) : (execOp ρ ⟨d, .binOp .eql ty x y ty2, t, p, af, g⟩).run P w = .ok (.value (.bool false)) w := r_cmp hx hy (by simp; first | exact h | omega)
theorem r_neq_t {ty ty2 : Nat} {x y : Operand} {k : IntKind} {a b : Int} (hx : ρ x = .int k a) (hy : ρ y = .int k b) (h : a ≠ b) : (execOp ρ ⟨d, .binOp .neq ty x y ty2, t, p, af, g⟩).run P w = .ok (.value (.bool true)) w := r_cmp hx hy (by simp; first | exact h | omega)
theorem r_neq_f {ty ty2 : Nat} {x y : Operand} {k : IntKind} {a b : Int} (hx : ρ x = .int k a) (hy : ρ y = .int k b) (h : a = b) : (execOp ρ ⟨d, .binOp .neq ty x y ty2, t, p, af, g⟩).run P w = .ok (.value (.bool false)) w := r_cmp hx hy (by simp; first | exact h | omega)
theorem r_lss_t {ty ty2 : Nat} {x y : Operand} {k : IntKind} {a b : Int} (hx : ρ x = .int k a) (hy : ρ y = .int k b) (h : a < b) : (execOp ρ ⟨d, .binOp .lss ty x y ty2, t, p, af, g⟩).run P w = .ok (.value (.bool true)) w := r_cmp hx hy (by simp; first | exact h | omega)
theorem r_lss_f {ty ty2 : Nat} {x y : Operand} {k : IntKind} {a b : Int} (hx : ρ x = .int k a) (hy : ρ y = .int k b) (h : b ≤ a) : (execOp ρ ⟨d, .binOp .lss ty x y ty2, t, p, af, g⟩).run P w = .ok (.value (.bool false)) w := r_cmp hx hy (by simp; first | exact h | omega)
theorem r_leq_t {ty ty2 : Nat} {x y : Operand} {k : IntKind} {a b : Int} (hx : ρ x = .int k a) (hy : ρ y = .int k b) (h : a ≤ b) : (execOp ρ ⟨d, .binOp .leq ty x y ty2, t, p, af, g⟩).run P w = .ok (.value (.bool true)) w := r_cmp hx hy (by simp; first | exact h | omega)
theorem r_leq_f {ty ty2 : Nat} {x y : Operand} {k : IntKind} {a b : Int} (hx : ρ x = .int k a) (hy : ρ y = .int k b) (h : b < a) : (execOp ρ ⟨d, .binOp .leq ty x y ty2, t, p, af, g⟩).run P w = .ok (.value (.bool false)) w := r_cmp hx hy (by simp; first | exact h | omega)
theorem r_gtr_t {ty ty2 : Nat} {x y : Operand} {k : IntKind} {a b : Int} (hx : ρ x = .int k a) (hy : ρ y = .int k b) (h : b < a) : (execOp ρ ⟨d, .binOp .gtr ty x y ty2, t, p, af, g⟩).run P w = .ok (.value (.bool true)) w := r_cmp hx hy (by simp; first | exact h | omega)
theorem r_gtr_f {ty ty2 : Nat} {x y : Operand} {k : IntKind} {a b : Int} (hx : ρ x = .int k a) (hy : ρ y = .int k b) (h : a ≤ b) : (execOp ρ ⟨d, .binOp .gtr ty x y ty2, t, p, af, g⟩).run P w = .ok (.value (.bool false)) w := r_cmp hx hy (by simp; first | exact h | omega)
theorem r_geq_t {ty ty2 : Nat} {x y : Operand} {k : IntKind} {a b : Int} (hx : ρ x = .int k a) (hy : ρ y = .int k b) (h : b ≤ a) : (execOp ρ ⟨d, .binOp .geq ty x y ty2, t, p, af, g⟩).run P w = .ok (.value (.bool true)) w := r_cmp hx hy (by simp; first | exact h | omega)
theorem r_geq_f {ty ty2 : Nat} {x y : Operand} {k : IntKind} {a b : Int} (hx : ρ x = .int k a) (hy : ρ y = .int k b) (h : a < b) : (execOp ρ ⟨d, .binOp .geq ty x y ty2, t, p, af, g⟩).run P w = .ok (.value (.bool false)) w := r_cmp hx hy (by simp; first | exact h | omega)

theorem wrap_id {n : Int} (h1 : -9223372036854775808 ≤ n) (h2 : n ≤ 9223372036854775807) : IntKind.i64.wrap n = n := by
  have e1 : (2 : Int) ^ IntKind.i64.bits = 18446744073709551616 := by decide
  have e2 : (2 : Int) ^ (IntKind.i64.bits - 1) = 9223372036854775808 := by decide
  unfold IntKind.wrap
  simp only [e1, e2, IntKind.signed, Bool.true_and, decide_eq_true_eq]
  split <;> omega
theorem r_add {ty ty2 : Nat} {x y : Operand} {a b : Int} (hx : ρ x = .int .i64 a) (hy : ρ y = .int .i64 b) (h1 : -9223372036854775808 ≤ a + b) (h2 : a + b ≤ 9223372036854775807) :
    (execOp ρ ⟨d, .binOp .add ty x y ty2, t, p, af, g⟩).run P w = .ok (.value (.int .i64 (a + b))) w := by
  simp [execOp, hx, hy, eqGuard, binOp, Op.intArith, wrap_id h1 h2]
theorem r_sub {ty ty2 : Nat} {x y : Operand} {a b : Int} (hx : ρ x = .int .i64 a) (hy : ρ y = .int .i64 b) (h1 : -9223372036854775808 ≤ a - b) (h2 : a - b ≤ 9223372036854775807) :
    (execOp ρ ⟨d, .binOp .sub ty x y ty2, t, p, af, g⟩).run P w = .ok (.value (.int .i64 (a - b))) w := by
  simp [execOp, hx, hy, eqGuard, binOp, Op.intArith, wrap_id h1 h2]
theorem r_rem {ty ty2 : Nat} {x y : Operand} {k : IntKind} {a b : Int} (hx : ρ x = .int k a) (hy : ρ y = .int k b) (h : b ≠ 0) :
    (execOp ρ ⟨d, .binOp .rem ty x y ty2, t, p, af, g⟩).run P w = .ok (.value (.int k (a.tmod b))) w := by
  simp [execOp, hx, hy, eqGuard, binOp, Op.intDiv, h]
theorem r_not {ty : Nat} {x : Operand} {b : Bool} (hx : ρ x = .bool b) : (execOp ρ ⟨d, .unOp .not ty x, t, p, af, g⟩).run P w = .ok (.value (.bool !b)) w := by simp [execOp, hx, Op.unary]
theorem r_not_t {ty : Nat} {x : Operand} {b : Bool} (hx : ρ x = .bool b) (hb : b = true) : (execOp ρ ⟨d, .unOp .not ty x, t, p, af, g⟩).run P w = .ok (.value (.bool false)) w := by subst hb; simp [execOp, hx, Op.unary]
theorem r_not_f {ty : Nat} {x : Operand} {b : Bool} (hx : ρ x = .bool b) (hb : b = false) : (execOp ρ ⟨d, .unOp .not ty x, t, p, af, g⟩).run P w = .ok (.value (.bool true)) w := by subst hb; simp [execOp, hx, Op.unary]
theorem r_neg {ty : Nat} {x : Operand} {a : Int} (hx : ρ x = .int .i64 a) (h1 : -9223372036854775808 ≤ 0 - a) (h2 : 0 - a ≤ 9223372036854775807) :
    (execOp ρ ⟨d, .unOp .neg ty x, t, p, af, g⟩).run P w = .ok (.value (.int .i64 (0 - a))) w := by simp only [execOp, hx, Op.unary, Op.intArith, wrap_id h1 h2]; rfl
theorem r_nilCheck {x : Operand} {a : Addr} (hx : ρ x = .pointer (some a)) : (execOp ρ ⟨d, .nilCheck x, t, p, af, g⟩).run P w = .ok (.value (.pointer (some a))) w := by simp [execOp, hx]
theorem r_len {ty e : Nat} {x : Operand} {a : Option Addr} {m c : Nat} (hu : P.underlying ty = some (.slice e)) (hx : ρ x = .slice a m c) :
    (execOp ρ ⟨d, .call { callee := .builtin .len, args := #[x], argTypes := #[ty] }, t, p, af, g⟩).run P w = .ok (.value (.int .i64 m)) w := by
  simp [execOp, resolve, invoke, builtin, Builtin.len_, hx, run_underlying hu, goInt]
theorem r_lenmap {ty k e : Nat} {x : Operand} {b : Nat} {es : Array MapEntry} {cl : Nat} (hu : P.underlying ty = some (.map k e)) (hx : ρ x = .map (some b)) (hb : At w b (.map es cl)) :
    (execOp ρ ⟨d, .call { callee := .builtin .len, args := #[x], argTypes := #[ty] }, t, p, af, g⟩).run P w = .ok (.value (.int .i64 es.size)) w := by
  have hb' : w.heap[b]? = some (.map es cl) := hb
  simp [execOp, resolve, invoke, builtin, Builtin.len_, hx, run_underlying hu, goInt, getObj, Sem.run, hb']
theorem r_field {s f : Nat} {x : Operand} {b off : Nat} {fs : Array Field} {fi : Field} {m : Nat} (hu : P.underlying s = some (.struct fs)) (hx : ρ x = .pointer (some ⟨b, off, none⟩)) (hf : fs[f]? = some fi) (hz : szOf P fi.type = some (m + 1)) :
    (execOp ρ ⟨d, .fieldAddr s x f, t, p, af, g⟩).run P w = .ok (.value (.pointer (some ⟨b, off + fi.offset, none⟩))) w := by
  simp [execOp, Instr.fieldAt, run_underlying hu, hf, hx, Instr.sureAddr, fieldPlace, run_size hz, add_none]
theorem r_index {ty e : Nat} {x y : Operand} {b off len cap : Nat} {i : Int} {k : IntKind} {m : Nat} (hu : P.underlying ty = some (.slice e)) (hz : szOf P e = some m) (hx : ρ x = .slice (some ⟨b, off, none⟩) len cap) (hy : ρ y = .int k i) (h0 : 0 ≤ i) (h1 : i < len) :
    (execOp ρ ⟨d, .indexAddr ty x y, t, p, af, g⟩).run P w = .ok (.value (.pointer (some ⟨b, off + i.toNat * m, none⟩))) w := by
  simp [execOp, Instr.indexAt, asIntOf, hx, hy, run_underlying hu, run_size hz, h0, h1, add_none]
theorem r_indexarr {ty e : Nat} {x y : Operand} {b off len : Nat} {i : Int} {k : IntKind} {m : Nat} (hu : P.underlying ty = some (.array len e)) (hz : szOf P e = some m) (hx : ρ x = .pointer (some ⟨b, off, none⟩)) (hy : ρ y = .int k i) (h0 : 0 ≤ i) (h1 : i < len) :
    (execOp ρ ⟨d, .indexAddr ty x y, t, p, af, g⟩).run P w = .ok (.value (.pointer (some ⟨b, off + i.toNat * m, none⟩))) w := by
  simp [execOp, Instr.indexAt, asIntOf, hx, hy, run_underlying hu, run_size hz, h0, h1, add_none, Instr.sureAddr]
theorem r_load {ty : Nat} {x : Operand} {b off : Nat} {D : TypeDesc} {l : List Value} {e : Nat} {k : Nat × Nat} {v : Value} (hu : P.underlying ty = some D) (ha : isAggD D = false) (hx : ρ x = .pointer (some ⟨b, off, none⟩)) (hb : At w b (.cells l.toArray e k)) (hv : l[off]? = some v) :
    (execOp ρ ⟨d, .load ty x, t, p, af, g⟩).run P w = .ok (.value v) w := by
  have h1 := run_load_at (P := P) hb hv
  simp only [load] at h1
  simp [execOp, Instr.loadAt, hx, Instr.sureAddr, loadVar, run_isAgg hu, ha]
  rw [← run_load, load, h1]
  rfl
theorem r_loadA {ty : Nat} {x : Operand} {b off m : Nat} {D : TypeDesc} {l : List Value} {e : Nat} {k : Nat × Nat} (hu : P.underlying ty = some D) (ha : isAggD D = true) (hz : szOf P ty = some m) (hx : ρ x = .pointer (some ⟨b, off, none⟩)) (hb : At w b (.cells l.toArray e k)) (hl : off + m ≤ l.length) :
    (execOp ρ ⟨d, .load ty x, t, p, af, g⟩).run P w = .ok (.value (.agg (sub l off m).toArray)) w := by
  simp [execOp, Instr.loadAt, hx, Instr.sureAddr, loadVar, run_isAgg hu, ha, run_size hz, run_loadCells_at hb hl]
theorem r_store {ty : Nat} {x y : Operand} {b off : Nat} {l : List Value} {e : Nat} {v : Value} (hz : szOf P ty = some 1) (hx : ρ x = .pointer (some ⟨b, off, none⟩)) (hy : ρ y = v) (hv : one v = true) (hb : At w b (cel l e)) (hl : off < l.length) :
    (execOp ρ ⟨d, .store ty x y, t, p, af, g⟩).run P w = .ok .skip (setB w b (cel (l.set off v) e)) := by
  have hc : v.cells = #[v] := by cases v <;> first | rfl | (simp [one] at hv; done)
  have h1 := run_storeCells_at (P := P) (off := off) [v] 0 w l hb (by simp; omega) (by simpa using hv)
  rw [Nat.add_zero, put_cons l off v [] hl, put_nil] at h1
  simp [execOp, Instr.storeAt, hx, hy, Instr.sureAddr, storeVar, hc, run_size hz, h1]
theorem r_storeA {ty : Nat} {x y : Operand} {b off m : Nat} {l vs : List Value} {e : Nat} (hz : szOf P ty = some m) (hx : ρ x = .pointer (some ⟨b, off, none⟩)) (hy : ρ y = .agg vs.toArray) (hm : vs.length = m) (hv : ∀ v ∈ vs, one v = true) (hb : At w b (cel l e)) (hl : off + m ≤ l.length) :
    (execOp ρ ⟨d, .store ty x y, t, p, af, g⟩).run P w = .ok .skip (setB w b (cel (put l off vs) e)) := by
  have h1 := run_storeCells_at (P := P) (off := off) vs 0 w l hb (by omega) hv
  rw [Nat.add_zero] at h1
  simp [execOp, Instr.storeAt, hx, hy, Instr.sureAddr, storeVar, Value.cells, run_size hz, hm, h1]
theorem r_alloc {e : Nat} {z : Value} (hz : zrOf P e = some z) : (execOp ρ ⟨d, .alloc e, t, p, af, g⟩).run P w = .ok (.value (.pointer (some ⟨w.heap.size, 0, none⟩))) (w.alloc (.cells z.cells e (0, 0))) := by
  simp [execOp, Instr.alloc, run_zero hz, newVar, newRow]
theorem r_box {e : Nat} {x : Operand} {v : Value} (hx : ρ x = v) : (execOp ρ ⟨d, .box e x, t, p, af, g⟩).run P w = .ok (.value (.pointer (some ⟨w.heap.size, 0, none⟩))) (w.alloc (.cells v.cells e (0, 0))) := by
  simp [execOp, Instr.box, newVar, newRow, hx]
theorem r_alloc1 {e : Nat} {z : Value} (hz : zrOf P e = some z) (h1 : one z = true) : (execOp ρ ⟨d, .alloc e, t, p, af, g⟩).run P w = .ok (.value (.pointer (some ⟨w.heap.size, 0, none⟩))) (w.alloc (cel [z] e)) := by
  have hc : z.cells = #[z] := by cases z <;> first | rfl | (simp [one] at h1; done)
  rw [r_alloc hz, hc]
theorem r_allocA {e : Nat} {l : List Value} (hz : zrOf P e = some (.agg l.toArray)) : (execOp ρ ⟨d, .alloc e, t, p, af, g⟩).run P w = .ok (.value (.pointer (some ⟨w.heap.size, 0, none⟩))) (w.alloc (cel l e)) := r_alloc hz
theorem r_box1 {e : Nat} {x : Operand} {z : Value} (hx : ρ x = z) (h1 : one z = true) : (execOp ρ ⟨d, .box e x, t, p, af, g⟩).run P w = .ok (.value (.pointer (some ⟨w.heap.size, 0, none⟩))) (w.alloc (cel [z] e)) := by
  have hc : z.cells = #[z] := by cases z <;> first | rfl | (simp [one] at h1; done)
  rw [r_box hx, hc]
theorem r_boxA {e : Nat} {x : Operand} {l : List Value} (hx : ρ x = .agg l.toArray) : (execOp ρ ⟨d, .box e x, t, p, af, g⟩).run P w = .ok (.value (.pointer (some ⟨w.heap.size, 0, none⟩))) (w.alloc (cel l e)) := r_box hx
def FieldAt (P : Program) (s f k : Nat) : Prop := ∃ fs fi m, P.underlying s = some (.struct fs) ∧ fs[f]? = some fi ∧ fi.offset = k ∧ szOf P fi.type = some (m + 1)
theorem r_fld {s f k : Nat} {x : Operand} {b off : Nat} (hf : FieldAt P s f k) (hx : ρ x = .pointer (some ⟨b, off, none⟩)) :
    (execOp ρ ⟨d, .fieldAddr s x f, t, p, af, g⟩).run P w = .ok (.value (.pointer (some ⟨b, off + k, none⟩))) w := by
  obtain ⟨fs, fi, m, hu, hf, rfl, hz⟩ := hf
  exact r_field hu hx hf hz
theorem r_bs {ty len : Nat} {parts : List (Nat × Operand)} {pv : List (Nat × Value)} {v : Value} {w' : World} (hp : parts.map (fun x => (x.1, ρ x.2)) = pv) (h : (Instr.buildSlice ty len pv.toArray).run P w = .ok v w') :
    (execOp ρ ⟨d, .buildSlice ty len parts.toArray, t, p, af, g⟩).run P w = .ok (.value v) w' := by
  have e : (parts.toArray.map fun (i, x) => (i, ρ x)) = pv.toArray := by rw [← hp]; simp
  simp [execOp, e, h]
theorem r_build {ty : Nat} {parts : List (Nat × Operand)} {pv : List (Nat × Value)} {v : Value} (hp : parts.map (fun x => (x.1, ρ x.2)) = pv) (h : (Instr.build ty pv.toArray).run P w = .ok v w) :
    (execOp ρ ⟨d, .build ty parts.toArray, t, p, af, g⟩).run P w = .ok (.value v) w := by
  have e : (parts.toArray.map fun (i, x) => (i, ρ x)) = pv.toArray := by rw [← hp]; simp
  simp [execOp, e, h]
theorem r_eq2 {op : BinOp} {ty ty2 : Nat} {x y : Operand} {a b : Value} {r : Bool} (hx : ρ x = a) (hy : ρ y = b) (hg : (eqGuard op ty x y a b).run P w = .ok () w) (h : (binOp op ty a b).run P w = .ok (.bool r) w) :
    (execOp ρ ⟨d, .binOp op ty x y ty2, t, p, af, g⟩).run P w = .ok (.value (.bool r)) w := by
  simp [execOp, hx, hy, hg, h]
theorem r_extract {x : Operand} {k : Nat} {vs : List Value} {v : Value} (hx : ρ x = .tuple vs.toArray) (hv : vs[k]? = some v) : (execOp ρ ⟨d, .extract x k, t, p, af, g⟩).run P w = .ok (.value v) w := by
  simp [execOp, Instr.extract, hx, hv]
theorem r_iface {ty : Nat} {x : Operand} {D : TypeDesc} {a : Option Addr} (hx : ρ x = .pointer a) (hu : P.underlying ty = some D) (hd : match D with | .interface _ => False | _ => True) : (execOp ρ ⟨d, .makeInterface ty x, t, p, af, g⟩).run P w = .ok (.value (.iface ty (.pointer a))) w := by
  simp only [execOp, Instr.makeInterface, Sem.run_bind, run_underlying hu, Result.andThen_ok, hx]
  cases D <;> first | rfl | exact absurd hd id

theorem r_ifaceP {ty e : Nat} {x : Operand} {a : Option Addr} (hx : ρ x = .pointer a) (hu : P.underlying ty = some (.pointer e)) : (execOp ρ ⟨d, .makeInterface ty x, t, p, af, g⟩).run P w = .ok (.value (.iface ty (.pointer a))) w := r_iface hx hu trivial

def callable (P : Program) (f : Nat) : Bool := match P.funcs[f]? with | some fn => !(fn.name == "runtime.NumGoroutine") && fn.body.isSome | none => false
def Rets (P : Program) (f : Nat) (args : List Value) (w : World) (φ : Value → World → Prop) : Prop :=
  callable P f = true ∧ Calls P f args.toArray w (fun e w' => ∃ v, e = .returned v ∧ φ v w')
theorem Rets.mono {P : Program} {f : Nat} {args : List Value} {w : World} {φ ψ : Value → World → Prop} (h : Rets P f args w φ) (hh : ∀ v w', φ v w' → ψ v w') : Rets P f args w ψ :=
  ⟨h.1, h.2.mono fun _ w' ⟨v, he, hv⟩ => ⟨v, he, hh v w' hv⟩⟩
theorem run_callFunc {f : Nat} (h : callable P f = true) (args : Array Value) : (callFunc f args).run P w = .ok (.enter f args) w := by
  unfold callable at h
  cases hf : P.funcs[f]? with
  | none => simp [hf] at h
  | some fn =>
    simp only [hf, Bool.and_eq_true, Bool.not_eq_true'] at h
    have hb : fn.body.isNone = false := by cases hb : fn.body <;> simp_all
    unfold callFunc
    simp only [Sem.run_bind, run_program, Result.andThen_ok, hf, h.1, hb, Bool.false_eq_true, if_false]
    rfl
theorem r_call {f : Nat} {xs : List Operand} {tys : Array Nat} (hf : callable P f = true) :
    (execOp ρ ⟨d, .call { callee := .value (.func f), args := xs.toArray, argTypes := tys }, t, p, af, g⟩).run P w = .ok (.enter f (xs.map ρ).toArray) w ∨ ρ (.func f) ≠ .func (.func f) #[] #[] := by
  by_cases hr : ρ (.func f) = .func (.func f) #[] #[]
  · left
    simp [execOp, resolve, hr, Deferred.ofValue, invoke, run_callFunc hf]
  · exact .inr hr
theorem r_callf {f : Nat} {xs : List Operand} {tys : Array Nat} (hf : callable P f = true) :
    (execOp (ev n env) ⟨d, .call { callee := .value (.func f), args := xs.toArray, argTypes := tys }, t, p, af, g⟩).run P w = .ok (.enter f (xs.map (ev n env)).toArray) w :=
  (r_call hf).resolve_right (fun h => h rfl)
theorem r_callv {c : Operand} {f : Nat} {xs : List Operand} {tys : Array Nat} {caps : Array Value} (hc : ρ c = .func (.func f) #[] caps) (hf : callable P f = true) :
    (execOp ρ ⟨d, .call { callee := .value c, args := xs.toArray, argTypes := tys }, t, p, af, g⟩).run P w = .ok (.enter f ((xs.map ρ).toArray ++ caps)) w := by
  simp [execOp, resolve, hc, Deferred.ofValue, invoke, run_callFunc hf]
end

/-! ### The walk -/
section
variable {P : Program} {w w' : World} {n : Nat} {ds : List Deferred} {env : Env} {ops : Array Oper} {R : Option Nat} {Q : Exit → Act → World → Prop} {o : Oper} {rest : List Oper} {v : Value}

def Wnt (n : Nat) (env : Env) (ops : Array Oper) (g : Option (Nat × Bool)) : Bool :=
  match g with
  | none => true
  | some (j, b) => match ops.toList[j]? with
    | some oj => match oj.dst with
      | some d => bif Nat.blt d n then (match env d with | .bool c => c == b | _ => false) else false
      | none => false
    | none => false
theorem wnt_none : Wnt n env ops none = true := rfl
theorem wnt_y {j d : Nat} {b c : Bool} {oj : Oper} (hj : ops.toList[j]? = some oj) (hd : oj.dst = some d) (hn : Nat.blt d n = true) (he : env d = .bool c) (hc : c = b) : Wnt n env ops (some (j, b)) = true := by
  subst hc
  simp only [Wnt, hj, hd, hn, he]
  simp
theorem wnt_nt {j d : Nat} {c : Bool} {oj : Oper} (hj : ops.toList[j]? = some oj) (hd : oj.dst = some d) (hn : Nat.blt d n = true) (he : env d = .bool c) (hc : c = false) : Wnt n env ops (some (j, true)) = false := by
  subst hc
  simp only [Wnt, hj, hd, hn, he]
  simp
theorem wnt_nf {j d : Nat} {c : Bool} {oj : Oper} (hj : ops.toList[j]? = some oj) (hd : oj.dst = some d) (hn : Nat.blt d n = true) (he : env d = .bool c) (hc : c = true) : Wnt n env ops (some (j, false)) = false := by
  subst hc
  simp only [Wnt, hj, hd, hn, he]
  simp
theorem wanted_rep (n : Nat) (ds : List Deferred) (env : Env) (ops : Array Oper) (o : Oper) : Region.wanted o (yielded ops (rep n ds env).tmps) = Wnt n env ops o.guard := by
  unfold Region.wanted Wnt
  cases hg : o.guard with
  | none => rfl
  | some gb =>
    obtain ⟨j, b⟩ := gb
    simp only [Array.getElem?_toList]
    cases hj : ops[j]? with
    | none => simp [yielded, hj]
    | some oj =>
      cases hd : oj.dst with
      | none => simp [yielded, hj, hd]
      | some d =>
        simp only [hd]
        cases hb : Nat.blt d n with
        | true =>
          rw [yielded_rep n ds env ops j d (by simp [hj, hd]) hb]
          cases env d <;> rfl
        | false =>
          have : ¬ d < n := fun h => by rw [show Nat.blt d n = true from Nat.ble_eq_true_of_le h] at hb; cases hb
          simp [yielded, hj, hd, rep, this]

variable {d : Nat} {op : Op} {t : Nat} {p : String} {af : Array Edge} {g : Option (Nat × Bool)} {dd : Option Nat}
theorem ow_val {K : Act → World → Prop} (h : (execOp (ev n env) ⟨some d, op, t, p, af, g⟩).run P w = .ok (.value v) w') (k : K (rep n ds (upd env d v)) w') : opw P ⟨some d, op, t, p, af, g⟩ (rep n ds env) w K :=
  .inl ⟨v, w', by rw [rep_eval]; exact h, by rw [rep_put]; exact k⟩
theorem ow_val0 {K : Act → World → Prop} (h : (execOp (ev n env) ⟨none, op, t, p, af, g⟩).run P w = .ok (.value v) w') (k : K (rep n ds env) w') : opw P ⟨none, op, t, p, af, g⟩ (rep n ds env) w K :=
  .inl ⟨v, w', by rw [rep_eval]; exact h, by rw [rep_put]; exact k⟩
theorem ow_skip {K : Act → World → Prop} (h : (execOp (ev n env) ⟨none, op, t, p, af, g⟩).run P w = .ok .skip w') (k : K (rep n ds env) w') : opw P ⟨none, op, t, p, af, g⟩ (rep n ds env) w K :=
  .inr (.inl ⟨w', by rw [rep_eval]; exact h, by rw [rep_put]; exact k⟩)
theorem ow_call {K : Act → World → Prop} {f : Nat} {args : List Value} {φ : Value → World → Prop} (hc : Rets P f args w φ) (h : callable P f = true → (execOp (ev n env) ⟨dd, op, t, p, af, g⟩).run P w = .ok (.enter f args.toArray) w) (k : ∀ v w', φ v w' → K (rep n ds (updo env dd v)) w') : opw P ⟨dd, op, t, p, af, g⟩ (rep n ds env) w K :=
  .inr (.inr (.inl ⟨f, args.toArray, w, by rw [rep_eval]; exact h hc.1, hc.2.mono fun e w' he => let ⟨v, h1, h2⟩ := he; ⟨v, h1, by rw [rep_put]; exact k v w' h2⟩⟩))
structure WpS (P : Program) (ops : Array Oper) (Q : Exit → Act → World → Prop) (l : List Oper) (a : Act) (w : World) : Prop where
  out : wpS P ops Q l a w
structure WpX (P : Program) (ops : Array Oper) (S : World → Prop) (Q : Exit → Act → World → Prop) (late : List Nat) (l : List (Nat × Bool)) (a : Act) (w : World) : Prop where
  out : wpX P ops S Q late l a w
structure WpX2 (P : Program) (ops : Array Oper) (Q : Exit → Act → World → Prop) (l : List Nat) (a : Act) (w : World) : Prop where
  out : wpX2 P ops Q l a w
theorem s_op (hw : Wnt n env ops o.guard = true) (h : opw P o (rep n ds env) w (wpS P ops Q rest)) : WpS P ops Q (o :: rest) (rep n ds env) w := by
  constructor
  unfold wpS wpOne
  rw [wanted_rep, hw, if_pos rfl]
  exact h
theorem s_val (h : (execOp (ev n env) ⟨some d, op, t, p, af, g⟩).run P w = .ok (.value v) w') (hw : Wnt n env ops g = true) (k : WpS P ops Q rest (rep n ds (upd env d v)) w') : WpS P ops Q (⟨some d, op, t, p, af, g⟩ :: rest) (rep n ds env) w :=
  s_op hw (ow_val h k.out)
theorem s_val0 (h : (execOp (ev n env) ⟨none, op, t, p, af, g⟩).run P w = .ok (.value v) w') (hw : Wnt n env ops g = true) (k : WpS P ops Q rest (rep n ds env) w') : WpS P ops Q (⟨none, op, t, p, af, g⟩ :: rest) (rep n ds env) w :=
  s_op hw (ow_val0 h k.out)
theorem s_skip (h : (execOp (ev n env) ⟨none, op, t, p, af, g⟩).run P w = .ok .skip w') (hw : Wnt n env ops g = true) (k : WpS P ops Q rest (rep n ds env) w') : WpS P ops Q (⟨none, op, t, p, af, g⟩ :: rest) (rep n ds env) w :=
  s_op hw (ow_skip h k.out)
theorem s_no (hw : Wnt n env ops g = false) (k : WpS P ops Q rest (rep n ds (upd env d undef)) w) : WpS P ops Q (⟨some d, op, t, p, af, g⟩ :: rest) (rep n ds env) w := by
  constructor
  unfold wpS wpOne
  rw [wanted_rep, hw, if_neg (by simp), rep_put]
  exact k.out
theorem s_call {f : Nat} {args : List Value} {φ : Value → World → Prop} (hc : Rets P f args w φ) (h : callable P f = true → (execOp (ev n env) ⟨some d, op, t, p, af, g⟩).run P w = .ok (.enter f args.toArray) w) (hw : Wnt n env ops g = true) (k : ∀ v w', φ v w' → WpS P ops Q rest (rep n ds (upd env d v)) w') : WpS P ops Q (⟨some d, op, t, p, af, g⟩ :: rest) (rep n ds env) w :=
  s_op hw (ow_call hc h fun v w' hv => (k v w' hv).out)
theorem s_callf {f : Nat} {xs : List Operand} {tys : Array Nat} {args : List Value} {φ : Value → World → Prop} (hc : Rets P f args w φ) (ha : xs.map (ev n env) = args) (hw : Wnt n env ops g = true) (k : ∀ v w', φ v w' → WpS P ops Q rest (rep n ds (upd env d v)) w') : WpS P ops Q (⟨some d, .call { callee := .value (.func f), args := xs.toArray, argTypes := tys }, t, p, af, g⟩ :: rest) (rep n ds env) w :=
  s_call hc (fun hf => by rw [r_callf hf, ha]) hw k
theorem s_nil {K : Act → World → Prop} {a : Act} (h : K a w) : WpS P ops (Exit.then K Q) [] a w := ⟨h⟩
theorem s_nilQ {a : Act} (h : Q .normal a w) : WpS P ops Q [] a w := ⟨h⟩
theorem w_reg {id : Nat} {l : List Oper} {a : Act} (h : WpS P l.toArray Q l a w) : (Code.region id l.toArray false).wpIn (fen R) 0 P Q a w := wp_reg h.out
theorem w_drawn {id : Nat} {l : List Oper} {a : Act} (ord : List (Nat × Bool)) (late : List Nat) (S : World → Prop) (hm : P.follows .mixedOrders = true) (hc : chk l.toArray ord late = true) (hS : S w.drew) (h : WpX P l.toArray S Q late ord a w.drew) : (Code.region id l.toArray true).wpIn (fen R) 0 P Q a w := wp_drawn ord late S hm hc hS h.out

variable {S : World → Prop} {late : List Nat} {i : Nat} {r : List (Nat × Bool)}
theorem x_q (ho : ops.toList[i]? = some ⟨some d, op, t, p, af, g⟩) (h : ∀ w', S w' → (execOp (ev n env) ⟨some d, op, t, p, af, g⟩).run P w' = .ok (.value v) w') (hw : Wnt n env ops g = true) (k : WpX P ops S Q late r (rep n ds (upd env d v)) w) : WpX P ops S Q late ((i, false) :: r) (rep n ds env) w :=
  ⟨⟨_, v, by simpa using ho, .inl ⟨by rw [wanted_rep, hw], by rw [rep_eval]; exact h⟩, by rw [rep_put]; exact k.out⟩⟩
theorem x_qno (ho : ops.toList[i]? = some ⟨some d, op, t, p, af, g⟩) (hw : Wnt n env ops g = false) (k : WpX P ops S Q late r (rep n ds (upd env d undef)) w) : WpX P ops S Q late ((i, false) :: r) (rep n ds env) w :=
  ⟨⟨_, undef, by simpa using ho, .inr ⟨by rw [wanted_rep, hw], rfl⟩, by rw [rep_put]; exact k.out⟩⟩
theorem x_op {K : Act → World → Prop} (ho : ops.toList[i]? = some o) (hw : Wnt n env ops o.guard = true) (h : opw P o (rep n ds env) w K) : wpo P ops i K (rep n ds env) w := by
  unfold wpo
  rw [show ops[i]? = some o by simpa using ho]
  dsimp only
  rw [wanted_rep, hw, if_pos rfl]
  exact h
theorem x_val (ho : ops.toList[i]? = some ⟨some d, op, t, p, af, g⟩) (h : (execOp (ev n env) ⟨some d, op, t, p, af, g⟩).run P w = .ok (.value v) w') (hw : Wnt n env ops g = true) (hS : S w') (k : WpX P ops S Q late r (rep n ds (upd env d v)) w') : WpX P ops S Q late ((i, true) :: r) (rep n ds env) w :=
  ⟨x_op ho hw (ow_val h ⟨hS, k.out⟩)⟩
theorem x_skip (ho : ops.toList[i]? = some ⟨none, op, t, p, af, g⟩) (h : (execOp (ev n env) ⟨none, op, t, p, af, g⟩).run P w = .ok .skip w') (hw : Wnt n env ops g = true) (hS : S w') (k : WpX P ops S Q late r (rep n ds env) w') : WpX P ops S Q late ((i, true) :: r) (rep n ds env) w :=
  ⟨x_op ho hw (ow_skip h ⟨hS, k.out⟩)⟩
theorem x_callf {f : Nat} {xs : List Operand} {tys : Array Nat} {args : List Value} {φ : Value → World → Prop} (ho : ops.toList[i]? = some ⟨some d, .call { callee := .value (.func f), args := xs.toArray, argTypes := tys }, t, p, af, g⟩) (hc : Rets P f args w φ) (ha : xs.map (ev n env) = args) (hw : Wnt n env ops g = true) (k : ∀ v w', φ v w' → S w' ∧ WpX P ops S Q late r (rep n ds (upd env d v)) w') : WpX P ops S Q late ((i, true) :: r) (rep n ds env) w :=
  ⟨x_op ho hw (ow_call hc (fun hf => by rw [r_callf hf, ha]) fun v w' hv => ⟨(k v w' hv).1, (k v w' hv).2.out⟩)⟩
theorem x_late {a : Act} (h : WpX2 P ops Q late a w) : WpX P ops S Q late [] a w := ⟨h.out⟩
variable {l2 : List Nat}
theorem y_val (ho : ops.toList[i]? = some ⟨some d, op, t, p, af, g⟩) (h : (execOp (ev n env) ⟨some d, op, t, p, af, g⟩).run P w = .ok (.value v) w') (hw : Wnt n env ops g = true) (k : WpX2 P ops Q l2 (rep n ds (upd env d v)) w') : WpX2 P ops Q (i :: l2) (rep n ds env) w :=
  ⟨x_op ho hw (ow_val h k.out)⟩
theorem y_val0 (ho : ops.toList[i]? = some ⟨none, op, t, p, af, g⟩) (h : (execOp (ev n env) ⟨none, op, t, p, af, g⟩).run P w = .ok (.value v) w') (hw : Wnt n env ops g = true) (k : WpX2 P ops Q l2 (rep n ds env) w') : WpX2 P ops Q (i :: l2) (rep n ds env) w :=
  ⟨x_op ho hw (ow_val0 h k.out)⟩
theorem y_skip (ho : ops.toList[i]? = some ⟨none, op, t, p, af, g⟩) (h : (execOp (ev n env) ⟨none, op, t, p, af, g⟩).run P w = .ok .skip w') (hw : Wnt n env ops g = true) (k : WpX2 P ops Q l2 (rep n ds env) w') : WpX2 P ops Q (i :: l2) (rep n ds env) w :=
  ⟨x_op ho hw (ow_skip h k.out)⟩
theorem y_callf {f : Nat} {xs : List Operand} {tys : Array Nat} {args : List Value} {φ : Value → World → Prop} (ho : ops.toList[i]? = some ⟨some d, .call { callee := .value (.func f), args := xs.toArray, argTypes := tys }, t, p, af, g⟩) (hc : Rets P f args w φ) (ha : xs.map (ev n env) = args) (hw : Wnt n env ops g = true) (k : ∀ v w', φ v w' → WpX2 P ops Q l2 (rep n ds (upd env d v)) w') : WpX2 P ops Q (i :: l2) (rep n ds env) w :=
  ⟨x_op ho hw (ow_call hc (fun hf => by rw [r_callf hf, ha]) fun v w' hv => (k v w' hv).out)⟩
theorem y_nilQ {a : Act} (h : Q .normal a w) : WpX2 P ops Q [] a w := ⟨h⟩
theorem y_nil {K : Act → World → Prop} {a : Act} (h : K a w) : WpX2 P ops (Exit.then K Q) [] a w := ⟨h⟩

/-! ### Control -/
variable {a : Act} {K : Act → World → Prop}
theorem c_cond {c : Operand} {x y : Code} {b : Bool} (hc : ev n env c = .bool b) (ht : b = true → x.wpIn (fen R) 0 P Q (rep n ds env) w) (hf : b = false → y.wpIn (fen R) 0 P Q (rep n ds env) w) : (Code.cond c x y).wpIn (fen R) 0 P Q (rep n ds env) w :=
  wpIn_cond_split (by rw [rep_eval]; exact hc) ht hf
theorem c_true {c : Operand} {x y : Code} {b : Bool} (hc : ev n env c = .bool b) (hb : b = true) (h : x.wpIn (fen R) 0 P Q (rep n ds env) w) : (Code.cond c x y).wpIn (fen R) 0 P Q (rep n ds env) w := wpIn_cond_true (by rw [rep_eval, hc, hb]) h
theorem c_false {c : Operand} {x y : Code} {b : Bool} (hc : ev n env c = .bool b) (hb : b = false) (h : y.wpIn (fen R) 0 P Q (rep n ds env) w) : (Code.cond c x y).wpIn (fen R) 0 P Q (rep n ds env) w := wpIn_cond_false (by rw [rep_eval, hc, hb]) h
theorem c_dec {c : Operand} {x y : Code} {p : Prop} {dp : Decidable p} (hc : ev n env c = .bool (@decide p dp)) (ht : p → x.wpIn (fen R) 0 P Q (rep n ds env) w) (hf : ¬ p → y.wpIn (fen R) 0 P Q (rep n ds env) w) : (Code.cond c x y).wpIn (fen R) 0 P Q (rep n ds env) w :=
  c_cond hc (fun h => ht (of_decide_eq_true h)) (fun h => hf (of_decide_eq_false h))
theorem q_then (h : K a w) : Exit.then K Q .normal a w := h
theorem q_then_ret (h : Q .ret a w) : Exit.then K Q .ret a w := h
theorem q_then_exit {id : Nat} (h : Q (.exit id) a w) : Exit.then K Q (.exit id) a w := h
theorem q_blk {id : Nat} (h : Q .normal a w) : Exit.inBlock id Q .normal a w := h
theorem q_blk_ret {id : Nat} (h : Q .ret a w) : Exit.inBlock id Q .ret a w := h
theorem q_blk_exit {id : Nat} (h : Q .normal a w) : Exit.inBlock id Q (.exit id) a w := by simp only [Exit.inBlock, if_true]; exact h
theorem q_blk_other {id j : Nat} (hne : (j == id) = false) (h : Q (.exit j) a w) : Exit.inBlock id Q (.exit j) a w := by
  have : j ≠ id := by simpa using hne
  simp only [Exit.inBlock, this, if_false]; exact h
theorem lp {c : Code} (I : Env → World → Prop) (μ : Env → World → Nat) (h0 : I env w)
    (round : ∀ env w, I env w → c.wpIn (fen R) 0 P (Exit.then (fun a' w' => ∃ env', a' = rep n ds env' ∧ I env' w' ∧ μ env' w' < μ env w) Q) (rep n ds env) w) : (Code.loop c).wpIn (fen R) 0 P Q (rep n ds env) w := by
  let Ex (a : Act) (w : World) : Prop := ∃ m env, a = rep n ds env ∧ I env w ∧ μ env w = m
  have hm : ∀ a w, Ex a w → ∃ m, (∃ env, a = rep n ds env ∧ I env w ∧ μ env w = m) ∧ ∀ m' env, a = rep n ds env → I env w → μ env w = m' → m ≤ m' := by
    rintro a w ⟨m, hmm⟩
    induction m using Nat.strongRecOn with
    | _ m ih =>
      by_cases hlt : ∃ m', m' < m ∧ ∃ env, a = rep n ds env ∧ I env w ∧ μ env w = m'
      · obtain ⟨m', h1, h2⟩ := hlt
        exact ih m' h1 h2
      · refine ⟨m, hmm, fun m' env h1 h2 h3 => ?_⟩
        rcases Nat.lt_or_ge m' m with h | h
        · exact absurd ⟨m', h, env, h1, h2, h3⟩ hlt
        · exact h
  let μ' : Act → World → Nat := fun a w => open Classical in if h : Ex a w then Classical.choose (hm a w h) else 0
  have hμ : ∀ a w (h : Ex a w), (∃ env, a = rep n ds env ∧ I env w ∧ μ env w = μ' a w) ∧ ∀ m' env, a = rep n ds env → I env w → μ env w = m' → μ' a w ≤ m' := by
    intro a w h
    have := Classical.choose_spec (hm a w h)
    simp only [μ', h, dite_true]
    exact this
  refine wpIn_loop Ex μ' ⟨_, env, rfl, h0, rfl⟩ ?_
  intro a w hx
  obtain ⟨⟨e0, rfl, hI, he⟩, _⟩ := hμ a w hx
  refine wpIn_mono (round e0 w hI) ?_
  intro x a1 w1 h
  cases x with
  | normal =>
    obtain ⟨e1, rfl, hI1, hlt⟩ := h
    have hx1 : Ex (rep n ds e1) w1 := ⟨_, e1, rfl, hI1, rfl⟩
    exact ⟨hx1, Nat.lt_of_le_of_lt ((hμ _ _ hx1).2 _ e1 rfl hI1 rfl) (by rw [← he]; exact hlt)⟩
  | _ => exact h

/-! ### Frames' slots, entry and return -/
def setL (env : Env) : List (Nat × Value) → Env
  | [] => env
  | (d, v) :: r => upd (setL env r) d v
def AllL (env : Env) : List (Nat × Value) → Prop
  | [] => True
  | (d, v) :: r => env d = v ∧ AllL env r
theorem fixL {env : Env} : ∀ {l : List (Nat × Value)}, AllL env l → env = setL env l
  | [], _ => rfl
  | (d, v) :: r, h => by
    have h1 := fixL h.2
    unfold setL
    rw [← h1, upd_self h.1]
theorem rets_of {f : Nat} {fn : Func} {c : Code} {args : List Value} {φ : Value → World → Prop} (hf : P.funcs[f]? = some fn) (hcl : callable P f = true) (hb : fn.body = some c) (hn : fn.ntmps = n) (hargs : args.length ≤ n)
    (h : c.wpIn (fen none) 0 P (bodyPost P fn (fun e w' => ∃ v, e = .returned v ∧ φ v w')) (rep n [] (ini args)) w) : Rets P f args w φ := by
  refine ⟨hcl, calls_of_wp hf hb ((wpIn_wide (n := 0)).1 ?_)⟩
  have : ({ tmps := args.toArray ++ Array.replicate (fn.ntmps - args.toArray.size) undef, defers := [] } : Act) = rep n [] (ini args) := by
    unfold rep
    congr 1
    have hini : ∀ (l : List Value) (i : Nat), ini l i = l.getD i undef := by
      intro l
      induction l with
      | nil => intro i; rfl
      | cons v r ih => intro i; cases i with
        | zero => rfl
        | succ k => show ini r k = _; simpa using ih k
    apply Array.ext
    · simp [hn]; omega
    · intro i h1 h2
      simp only [Array.getElem_ofFn, hini]
      simp only [Array.getElem_append]
      split
      · rename_i hlt
        have hlt' : i < args.length := by simpa using hlt
        simp [hlt']
      · rename_i hlt
        have hlt' : ¬ i < args.length := by simpa using hlt
        simp [hlt']
  rw [this]
  exact h
theorem ret_run {fn : Func} {φ : Value → World → Prop} (hr : (results fn (rep n [] env).tmps).run P w = .ok v w) (h : φ v w) : bodyPost P fn (fun e w' => ∃ v, e = .returned v ∧ φ v w') .ret (rep n [] env) w :=
  ⟨rfl, v, hr, v, rfl, h⟩
theorem end_run {fn : Func} {φ : Value → World → Prop} (hr : (results fn (rep n [] env).tmps).run P w = .ok v w) (h : φ v w) : bodyPost P fn (fun e w' => ∃ v, e = .returned v ∧ φ v w') .normal (rep n [] env) w :=
  ⟨rfl, v, hr, v, rfl, h⟩
theorem tmp_getD (n : Nat) (ds : List Deferred) (env : Env) (t : Nat) : (rep n ds env).tmps.getD t undef = ev n env (.tmp t) := by
  rw [← rep_eval]; rfl
theorem res_0 {fn : Func} (hr : fn.results = #[]) : (results fn (rep n ds env).tmps).run P w = .ok (.tuple #[]) w := by
  simp [results, hr]
theorem res_1 {fn : Func} {t : Nat} (hr : fn.results = #[.tmp t]) : (results fn (rep n ds env).tmps).run P w = .ok (ev n env (.tmp t)) w := by
  rw [← tmp_getD n ds]
  simp [results, hr]
theorem res_2 {fn : Func} {t u : Nat} (hr : fn.results = #[.tmp t, .tmp u]) : (results fn (rep n ds env).tmps).run P w = .ok (.tuple #[ev n env (.tmp t), ev n env (.tmp u)]) w := by
  rw [← tmp_getD n ds, ← tmp_getD n ds]
  simp [results, hr]
theorem ret_1 {fn : Func} {t : Nat} {φ : Value → World → Prop} (hr : fn.results = #[.tmp t]) (hv : ev n env (.tmp t) = v) (h : φ v w) : bodyPost P fn (fun e w' => ∃ v, e = .returned v ∧ φ v w') .ret (rep n [] env) w :=
  ret_run (res_1 hr) (by rw [hv]; exact h)
theorem ret_2 {fn : Func} {t u : Nat} {v1 v2 : Value} {φ : Value → World → Prop} (hr : fn.results = #[.tmp t, .tmp u]) (hv1 : ev n env (.tmp t) = v1) (hv2 : ev n env (.tmp u) = v2) (h : φ (.tuple #[v1, v2]) w) : bodyPost P fn (fun e w' => ∃ v, e = .returned v ∧ φ v w') .ret (rep n [] env) w :=
  ret_run (res_2 hr) (by rw [hv1, hv2]; exact h)
theorem ret_i {fn : Func} {t : Nat} {φ : Value → World → Prop} {k : IntKind} {x : Int} (hr : fn.results = #[.tmp t]) (hv : ev n env (.tmp t) = .int k x) (h : φ (.int k x) w) : bodyPost P fn (fun e w' => ∃ v, e = .returned v ∧ φ v w') .ret (rep n [] env) w := ret_1 hr hv h
theorem ret_b {fn : Func} {t : Nat} {φ : Value → World → Prop} {b : Bool} (hr : fn.results = #[.tmp t]) (hv : ev n env (.tmp t) = .bool b) (h : φ (.bool b) w) : bodyPost P fn (fun e w' => ∃ v, e = .returned v ∧ φ v w') .ret (rep n [] env) w := ret_1 hr hv h
theorem ret_p {fn : Func} {t : Nat} {φ : Value → World → Prop} {x : Option Addr} (hr : fn.results = #[.tmp t]) (hv : ev n env (.tmp t) = .pointer x) (h : φ (.pointer x) w) : bodyPost P fn (fun e w' => ∃ v, e = .returned v ∧ φ v w') .ret (rep n [] env) w := ret_1 hr hv h
theorem ret_s {fn : Func} {t : Nat} {φ : Value → World → Prop} {x : Option Addr} {m c : Nat} (hr : fn.results = #[.tmp t]) (hv : ev n env (.tmp t) = .slice x m c) (h : φ (.slice x m c) w) : bodyPost P fn (fun e w' => ∃ v, e = .returned v ∧ φ v w') .ret (rep n [] env) w := ret_1 hr hv h
theorem ret_m {fn : Func} {t : Nat} {φ : Value → World → Prop} {x : Option Nat} (hr : fn.results = #[.tmp t]) (hv : ev n env (.tmp t) = .map x) (h : φ (.map x) w) : bodyPost P fn (fun e w' => ∃ v, e = .returned v ∧ φ v w') .ret (rep n [] env) w := ret_1 hr hv h
theorem ret_if {fn : Func} {t : Nat} {φ : Value → World → Prop} {u : Nat} {x : Value} (hr : fn.results = #[.tmp t]) (hv : ev n env (.tmp t) = .iface u x) (h : φ (.iface u x) w) : bodyPost P fn (fun e w' => ∃ v, e = .returned v ∧ φ v w') .ret (rep n [] env) w := ret_1 hr hv h
theorem ret_ni {fn : Func} {t : Nat} {φ : Value → World → Prop}  (hr : fn.results = #[.tmp t]) (hv : ev n env (.tmp t) = .nilIface) (h : φ (.nilIface) w) : bodyPost P fn (fun e w' => ∃ v, e = .returned v ∧ φ v w') .ret (rep n [] env) w := ret_1 hr hv h
theorem ret_f {fn : Func} {t : Nat} {φ : Value → World → Prop} {fn1 : Fn} {x1 x2 : Array Value} (hr : fn.results = #[.tmp t]) (hv : ev n env (.tmp t) = .func fn1 x1 x2) (h : φ (.func fn1 x1 x2) w) : bodyPost P fn (fun e w' => ∃ v, e = .returned v ∧ φ v w') .ret (rep n [] env) w := ret_1 hr hv h
theorem ret_0 {fn : Func} {φ : Value → World → Prop} (hr : fn.results = #[]) (h : φ (.tuple #[]) w) : bodyPost P fn (fun e w' => ∃ v, e = .returned v ∧ φ v w') .ret (rep n [] env) w := ret_run (res_0 hr) h
theorem end_0 {fn : Func} {φ : Value → World → Prop} (hr : fn.results = #[]) (h : φ (.tuple #[]) w) : bodyPost P fn (fun e w' => ∃ v, e = .returned v ∧ φ v w') .normal (rep n [] env) w := end_run (res_0 hr) h
end
end Go.Proofs.YtbicffldggcdhaaGreatDoor

namespace Go.Proofs.YtbicffldggcdhaaGreatDoor
open Go
def zU : Nat → Option TypeDesc
  | 2 => some (.int .i64)
  | 3 => some (.int .i64)
  | 4 => some (.bool)
  | 5 => some (.int .u8)
  | 12 => some (.int .u64)
  | 20 => some (.interface #[])
  | 21 => some (.int .i32)
  | 22 => some (.slice 81)
  | 24 => some (.slice 3)
  | 26 => some (.slice 31)
  | 28 => some (.pointer 93)
  | 30 => some (.struct #[⟨ "Kind", 3, 0, false, "", "", 0⟩, ⟨ "Node", 3, 1, false, "", "", 8⟩, ⟨ "Parent", 3, 2, false, "", "", 16⟩, ⟨ "Key", 3, 3, false, "", "", 24⟩, ⟨ "Prop", 3, 4, false, "", "", 32⟩, ⟨ "Value", 3, 5, false, "", "", 40⟩])
  | 31 => some (.struct #[⟨ "Kind", 3, 0, false, "", "", 0⟩, ⟨ "Node", 3, 1, false, "", "", 8⟩, ⟨ "Parent", 3, 2, false, "", "", 16⟩, ⟨ "Key", 3, 3, false, "", "", 24⟩, ⟨ "Prop", 3, 4, false, "", "", 32⟩, ⟨ "Value", 3, 5, false, "", "", 40⟩])
  | 33 => some (.interface #[("Error", 237)])
  | 34 => some (.interface #[("Error", 237)])
  | 40 => some (.slice 52)
  | 41 => some (.pointer 49)
  | 43 => some (.slice 28)
  | 44 => some (.array 4 3)
  | 45 => some (.pointer 108)
  | 46 => some (.slice 54)
  | 47 => some (.array 4 26)
  | 48 => some (.struct #[⟨ "p", 45, 0, false, "", "orchard/orchardkeep", 0⟩, ⟨ "n", 3, 1, false, "", "orchard/orchardkeep", 8⟩, ⟨ "entries", 46, 2, false, "", "orchard/orchardkeep", 16⟩, ⟨ "in", 47, 3, false, "", "orchard/orchardkeep", 40⟩, ⟨ "base", 44, 7, false, "", "orchard/orchardkeep", 136⟩])
  | 49 => some (.struct #[⟨ "p", 45, 0, false, "", "orchard/orchardkeep", 0⟩, ⟨ "n", 3, 1, false, "", "orchard/orchardkeep", 8⟩, ⟨ "entries", 46, 2, false, "", "orchard/orchardkeep", 16⟩, ⟨ "in", 47, 3, false, "", "orchard/orchardkeep", 40⟩, ⟨ "base", 44, 7, false, "", "orchard/orchardkeep", 136⟩])
  | 51 => some (.struct #[⟨ "Kind", 3, 0, false, "", "", 0⟩, ⟨ "Client", 3, 1, false, "", "", 8⟩, ⟨ "Edit", 31, 2, false, "", "", 16⟩])
  | 52 => some (.struct #[⟨ "Kind", 3, 0, false, "", "", 0⟩, ⟨ "Client", 3, 1, false, "", "", 8⟩, ⟨ "Edit", 31, 2, false, "", "", 16⟩])
  | 53 => some (.struct #[⟨ "Client", 3, 0, false, "", "", 0⟩, ⟨ "Seq", 3, 1, false, "", "", 8⟩, ⟨ "Edit", 31, 2, false, "", "", 16⟩, ⟨ "Done", 4, 8, false, "", "", 64⟩])
  | 54 => some (.struct #[⟨ "Client", 3, 0, false, "", "", 0⟩, ⟨ "Seq", 3, 1, false, "", "", 8⟩, ⟨ "Edit", 31, 2, false, "", "", 16⟩, ⟨ "Done", 4, 8, false, "", "", 64⟩])
  | 70 => some (.pointer 79)
  | 71 => some (.slice 131)
  | 72 => some (.slice 135)
  | 73 => some (.slice 26)
  | 74 => some (.slice 114)
  | 75 => some (.slice 46)
  | 76 => some (.struct #[⟨ "edits", 73, 0, false, "", "orchard/orchardlaw", 0⟩, ⟨ "answers", 74, 1, false, "", "orchard/orchardlaw", 24⟩, ⟨ "entries", 75, 2, false, "", "orchard/orchardlaw", 48⟩])
  | 77 => some (.struct #[⟨ "edits", 73, 0, false, "", "orchard/orchardlaw", 0⟩, ⟨ "answers", 74, 1, false, "", "orchard/orchardlaw", 24⟩, ⟨ "entries", 75, 2, false, "", "orchard/orchardlaw", 48⟩])
  | 78 => some (.struct #[⟨ "ts", 71, 0, false, "", "orchard/orchardlaw", 0⟩, ⟨ "ps", 72, 1, false, "", "orchard/orchardlaw", 24⟩, ⟨ "book", 77, 2, false, "", "orchard/orchardlaw", 48⟩])
  | 79 => some (.struct #[⟨ "ts", 71, 0, false, "", "orchard/orchardlaw", 0⟩, ⟨ "ps", 72, 1, false, "", "orchard/orchardlaw", 24⟩, ⟨ "book", 77, 2, false, "", "orchard/orchardlaw", 48⟩])
  | 80 => some (.struct #[⟨ "Kind", 3, 0, false, "", "", 0⟩, ⟨ "A", 3, 1, false, "", "", 8⟩, ⟨ "B", 3, 2, false, "", "", 16⟩, ⟨ "C", 3, 3, false, "", "", 24⟩, ⟨ "E", 31, 4, false, "", "", 32⟩])
  | 81 => some (.struct #[⟨ "Kind", 3, 0, false, "", "", 0⟩, ⟨ "A", 3, 1, false, "", "", 8⟩, ⟨ "B", 3, 2, false, "", "", 16⟩, ⟨ "C", 3, 3, false, "", "", 24⟩, ⟨ "E", 31, 4, false, "", "", 32⟩])
  | 86 => some (.struct #[⟨ "Clients", 3, 0, false, "", "", 0⟩, ⟨ "Log", 3, 1, false, "", "", 8⟩])
  | 87 => some (.struct #[⟨ "Clients", 3, 0, false, "", "", 0⟩, ⟨ "Log", 3, 1, false, "", "", 8⟩])
  | 89 => some (.struct #[⟨ "ID", 3, 0, false, "", "", 0⟩, ⟨ "Parent", 3, 1, false, "", "", 8⟩, ⟨ "Key", 3, 2, false, "", "", 16⟩, ⟨ "Props", 44, 3, false, "", "", 24⟩])
  | 90 => some (.struct #[⟨ "ID", 3, 0, false, "", "", 0⟩, ⟨ "Parent", 3, 1, false, "", "", 8⟩, ⟨ "Key", 3, 2, false, "", "", 16⟩, ⟨ "Props", 44, 3, false, "", "", 24⟩])
  | 91 => some (.map 3 90)
  | 92 => some (.struct #[⟨ "nodes", 91, 0, false, "", "orchard/tree", 0⟩])
  | 93 => some (.struct #[⟨ "nodes", 91, 0, false, "", "orchard/tree", 0⟩])
  | 95 => some (.pointer 97)
  | 96 => some (.struct #[⟨ "Edit", 31, 0, false, "", "", 0⟩, ⟨ "Err", 34, 6, false, "", "", 48⟩])
  | 97 => some (.struct #[⟨ "Edit", 31, 0, false, "", "", 0⟩, ⟨ "Err", 34, 6, false, "", "", 48⟩])
  | 101 => some (.struct #[⟨ "Tree", 28, 0, true, "", "", 0⟩, ⟨ "entries", 3, 1, false, "", "orchard/party", 8⟩])
  | 102 => some (.struct #[⟨ "Tree", 28, 0, true, "", "", 0⟩, ⟨ "entries", 3, 1, false, "", "orchard/party", 8⟩])
  | 103 => some (.map 252 254)
  | 104 => some (.struct #[⟨ "now", 102, 0, false, "", "orchard/party", 0⟩, ⟨ "keeps", 3, 2, false, "", "orchard/party", 16⟩, ⟨ "log", 46, 3, false, "", "orchard/party", 24⟩, ⟨ "answered", 103, 4, false, "", "orchard/party", 48⟩])
  | 105 => some (.struct #[⟨ "now", 102, 0, false, "", "orchard/party", 0⟩, ⟨ "keeps", 3, 2, false, "", "orchard/party", 16⟩, ⟨ "log", 46, 3, false, "", "orchard/party", 24⟩, ⟨ "answered", 103, 4, false, "", "orchard/party", 48⟩])
  | 106 => some (.slice 119)
  | 107 => some (.struct #[⟨ "server", 105, 0, false, "", "orchard/party", 0⟩, ⟨ "clients", 106, 5, false, "", "orchard/party", 56⟩])
  | 108 => some (.struct #[⟨ "server", 105, 0, false, "", "orchard/party", 0⟩, ⟨ "clients", 106, 5, false, "", "orchard/party", 56⟩])
  | 109 => some (.pointer 119)
  | 113 => some (.slice 147)
  | 114 => some (.slice 123)
  | 115 => some (.slice 172)
  | 116 => some (.struct #[⟨ "joined", 4, 0, false, "", "orchard/party", 0⟩, ⟨ "told", 4, 1, false, "", "orchard/party", 1⟩, ⟨ "up", 115, 2, false, "", "orchard/party", 8⟩, ⟨ "down", 115, 3, false, "", "orchard/party", 32⟩])
  | 117 => some (.struct #[⟨ "joined", 4, 0, false, "", "orchard/party", 0⟩, ⟨ "told", 4, 1, false, "", "orchard/party", 1⟩, ⟨ "up", 115, 2, false, "", "orchard/party", 8⟩, ⟨ "down", 115, 3, false, "", "orchard/party", 32⟩])
  | 118 => some (.struct #[⟨ "base", 102, 0, false, "", "orchard/party", 0⟩, ⟨ "pending", 113, 2, false, "", "orchard/party", 16⟩, ⟨ "answers", 114, 3, false, "", "orchard/party", 40⟩, ⟨ "line", 117, 4, false, "", "orchard/party", 64⟩])
  | 119 => some (.struct #[⟨ "base", 102, 0, false, "", "orchard/party", 0⟩, ⟨ "pending", 113, 2, false, "", "orchard/party", 16⟩, ⟨ "answers", 114, 3, false, "", "orchard/party", 40⟩, ⟨ "line", 117, 4, false, "", "orchard/party", 64⟩])
  | 122 => some (.struct #[⟨ "Seq", 3, 0, false, "", "", 0⟩, ⟨ "Done", 4, 1, false, "", "", 8⟩])
  | 123 => some (.struct #[⟨ "Seq", 3, 0, false, "", "", 0⟩, ⟨ "Done", 4, 1, false, "", "", 8⟩])
  | 127 => some (.pointer 156)
  | 130 => some (.struct #[⟨ "t", 28, 0, false, "", "orchard/orchardlaw", 0⟩, ⟨ "r", 127, 1, false, "", "orchard/orchardlaw", 8⟩])
  | 131 => some (.struct #[⟨ "t", 28, 0, false, "", "orchard/orchardlaw", 0⟩, ⟨ "r", 127, 1, false, "", "orchard/orchardlaw", 8⟩])
  | 133 => some (.pointer 163)
  | 134 => some (.struct #[⟨ "p", 45, 0, false, "", "orchard/orchardlaw", 0⟩, ⟨ "r", 133, 1, false, "", "orchard/orchardlaw", 8⟩])
  | 135 => some (.struct #[⟨ "p", 45, 0, false, "", "orchard/orchardlaw", 0⟩, ⟨ "r", 133, 1, false, "", "orchard/orchardlaw", 8⟩])
  | 137 => some (.pointer 77)
  | 142 => some (.func #[28, 31] #[34] false)
  | 143 => some (.array 5 142)
  | 146 => some (.struct #[⟨ "seq", 3, 0, false, "", "orchard/party", 0⟩, ⟨ "edit", 31, 1, false, "", "orchard/party", 8⟩])
  | 147 => some (.struct #[⟨ "seq", 3, 0, false, "", "orchard/party", 0⟩, ⟨ "edit", 31, 1, false, "", "orchard/party", 8⟩])
  | 151 => some (.pointer 115)
  | 154 => some (.slice 90)
  | 155 => some (.struct #[⟨ "L", 154, 0, false, "", "", 0⟩])
  | 156 => some (.struct #[⟨ "L", 154, 0, false, "", "", 0⟩])
  | 161 => some (.slice 165)
  | 162 => some (.struct #[⟨ "C", 87, 0, false, "", "", 0⟩, ⟨ "T", 127, 2, false, "", "", 16⟩, ⟨ "Entries", 46, 3, false, "", "", 24⟩, ⟨ "L", 161, 4, false, "", "", 48⟩])
  | 163 => some (.struct #[⟨ "C", 87, 0, false, "", "", 0⟩, ⟨ "T", 127, 2, false, "", "", 16⟩, ⟨ "Entries", 46, 3, false, "", "", 24⟩, ⟨ "L", 161, 4, false, "", "", 48⟩])
  | 165 => some (.pointer 182)
  | 171 => some (.interface #[("orchard/party.reach", 174)])
  | 172 => some (.interface #[("orchard/party.reach", 174)])
  | 175 => some (.struct #[⟨ "entries", 3, 0, false, "", "orchard/party", 0⟩])
  | 176 => some (.struct #[⟨ "entries", 3, 0, false, "", "orchard/party", 0⟩])
  | 177 => some (.slice 34)
  | 179 => some (.slice 184)
  | 180 => some (.slice 186)
  | 181 => some (.struct #[⟨ "Base", 127, 0, false, "", "", 0⟩, ⟨ "N", 3, 1, false, "", "", 8⟩, ⟨ "L", 179, 2, false, "", "", 16⟩, ⟨ "Seq", 3, 3, false, "", "", 40⟩, ⟨ "Answers", 114, 4, false, "", "", 48⟩, ⟨ "Joined", 4, 5, false, "", "", 72⟩, ⟨ "Told", 4, 6, false, "", "", 73⟩, ⟨ "Up", 180, 7, false, "", "", 80⟩, ⟨ "Down", 180, 8, false, "", "", 104⟩])
  | 182 => some (.struct #[⟨ "Base", 127, 0, false, "", "", 0⟩, ⟨ "N", 3, 1, false, "", "", 8⟩, ⟨ "L", 179, 2, false, "", "", 16⟩, ⟨ "Seq", 3, 3, false, "", "", 40⟩, ⟨ "Answers", 114, 4, false, "", "", 48⟩, ⟨ "Joined", 4, 5, false, "", "", 72⟩, ⟨ "Told", 4, 6, false, "", "", 73⟩, ⟨ "Up", 180, 7, false, "", "", 80⟩, ⟨ "Down", 180, 8, false, "", "", 104⟩])
  | 183 => some (.struct #[⟨ "Seq", 3, 0, false, "", "", 0⟩, ⟨ "Edit", 31, 1, false, "", "", 8⟩])
  | 184 => some (.struct #[⟨ "Seq", 3, 0, false, "", "", 0⟩, ⟨ "Edit", 31, 1, false, "", "", 8⟩])
  | 185 => some (.struct #[⟨ "Hello", 4, 0, false, "", "", 0⟩, ⟨ "Seq", 3, 1, false, "", "", 8⟩, ⟨ "Edit", 31, 2, false, "", "", 16⟩, ⟨ "Entry", 54, 8, false, "", "", 64⟩, ⟨ "Tree", 127, 17, false, "", "", 136⟩, ⟨ "N", 3, 18, false, "", "", 144⟩, ⟨ "Answers", 114, 19, false, "", "", 152⟩])
  | 186 => some (.struct #[⟨ "Hello", 4, 0, false, "", "", 0⟩, ⟨ "Seq", 3, 1, false, "", "", 8⟩, ⟨ "Edit", 31, 2, false, "", "", 16⟩, ⟨ "Entry", 54, 8, false, "", "", 64⟩, ⟨ "Tree", 127, 17, false, "", "", 136⟩, ⟨ "N", 3, 18, false, "", "", 144⟩, ⟨ "Answers", 114, 19, false, "", "", 152⟩])
  | 192 => some (.map 3 154)
  | 193 => some (.map 3 154)
  | 205 => some (.int .u64)
  | 209 => some (.pointer 285)
  | 210 => some (.interface #[("Is", 212)])
  | 213 => some (.interface #[("Unwrap", 152)])
  | 214 => some (.interface #[("Unwrap", 178)])
  | 216 => some (.int .i64)
  | 224 => some (.int .u32)
  | 226 => some (.int .u64)
  | 227 => some (.int .u64)
  | 231 => some (.pointer 3)
  | 233 => some (.pointer 227)
  | 236 => some (.pointer 287)
  | 246 => some (.pointer 5)
  | 251 => some (.struct #[⟨ "client", 3, 0, false, "", "orchard/party", 0⟩, ⟨ "seq", 3, 1, false, "", "orchard/party", 8⟩])
  | 252 => some (.struct #[⟨ "client", 3, 0, false, "", "orchard/party", 0⟩, ⟨ "seq", 3, 1, false, "", "orchard/party", 8⟩])
  | 253 => some (.struct #[⟨ "entries", 3, 0, false, "", "orchard/party", 0⟩, ⟨ "done", 4, 1, false, "", "orchard/party", 8⟩])
  | 254 => some (.struct #[⟨ "entries", 3, 0, false, "", "orchard/party", 0⟩, ⟨ "done", 4, 1, false, "", "orchard/party", 8⟩])
  | 257 => some (.pointer 105)
  | 260 => some (.pointer 117)
  | 261 => some (.struct #[⟨ "Entry", 54, 0, true, "", "", 0⟩])
  | 262 => some (.struct #[⟨ "Entry", 54, 0, true, "", "", 0⟩])
  | 265 => some (.struct #[⟨ "known", 102, 0, true, "", "orchard/party", 0⟩, ⟨ "answers", 114, 2, false, "", "orchard/party", 16⟩])
  | 266 => some (.struct #[⟨ "known", 102, 0, true, "", "orchard/party", 0⟩, ⟨ "answers", 114, 2, false, "", "orchard/party", 16⟩])
  | 289 => some (.pointer 102)
  | 295 => some (.int .u16)
  | _ => none
def zS : Nat → Option Nat
  | 2 => some 1
  | 3 => some 1
  | 4 => some 1
  | 5 => some 1
  | 12 => some 1
  | 20 => some 1
  | 21 => some 1
  | 22 => some 1
  | 24 => some 1
  | 26 => some 1
  | 28 => some 1
  | 30 => some 6
  | 31 => some 6
  | 33 => some 1
  | 34 => some 1
  | 40 => some 1
  | 41 => some 1
  | 43 => some 1
  | 44 => some 4
  | 45 => some 1
  | 46 => some 1
  | 47 => some 4
  | 48 => some 11
  | 49 => some 11
  | 51 => some 8
  | 52 => some 8
  | 53 => some 9
  | 54 => some 9
  | 70 => some 1
  | 71 => some 1
  | 72 => some 1
  | 73 => some 1
  | 74 => some 1
  | 75 => some 1
  | 76 => some 3
  | 77 => some 3
  | 78 => some 5
  | 79 => some 5
  | 80 => some 10
  | 81 => some 10
  | 86 => some 2
  | 87 => some 2
  | 89 => some 7
  | 90 => some 7
  | 91 => some 1
  | 92 => some 1
  | 93 => some 1
  | 95 => some 1
  | 96 => some 7
  | 97 => some 7
  | 101 => some 2
  | 102 => some 2
  | 103 => some 1
  | 104 => some 5
  | 105 => some 5
  | 106 => some 1
  | 107 => some 6
  | 108 => some 6
  | 109 => some 1
  | 113 => some 1
  | 114 => some 1
  | 115 => some 1
  | 116 => some 4
  | 117 => some 4
  | 118 => some 8
  | 119 => some 8
  | 122 => some 2
  | 123 => some 2
  | 127 => some 1
  | 130 => some 2
  | 131 => some 2
  | 133 => some 1
  | 134 => some 2
  | 135 => some 2
  | 137 => some 1
  | 142 => some 1
  | 143 => some 5
  | 146 => some 7
  | 147 => some 7
  | 151 => some 1
  | 154 => some 1
  | 155 => some 1
  | 156 => some 1
  | 161 => some 1
  | 162 => some 5
  | 163 => some 5
  | 165 => some 1
  | 171 => some 1
  | 172 => some 1
  | 175 => some 1
  | 176 => some 1
  | 177 => some 1
  | 179 => some 1
  | 180 => some 1
  | 181 => some 9
  | 182 => some 9
  | 183 => some 7
  | 184 => some 7
  | 185 => some 20
  | 186 => some 20
  | 192 => some 1
  | 193 => some 1
  | 205 => some 1
  | 209 => some 1
  | 210 => some 1
  | 213 => some 1
  | 214 => some 1
  | 216 => some 1
  | 224 => some 1
  | 226 => some 1
  | 227 => some 1
  | 231 => some 1
  | 233 => some 1
  | 236 => some 1
  | 246 => some 1
  | 251 => some 2
  | 252 => some 2
  | 253 => some 2
  | 254 => some 2
  | 257 => some 1
  | 260 => some 1
  | 261 => some 9
  | 262 => some 9
  | 265 => some 3
  | 266 => some 3
  | 289 => some 1
  | 295 => some 1
  | _ => none
def zB : Nat → Option Nat
  | 2 => some 8
  | 3 => some 8
  | 4 => some 1
  | 5 => some 1
  | 12 => some 8
  | 20 => some 16
  | 21 => some 4
  | 22 => some 24
  | 24 => some 24
  | 26 => some 24
  | 28 => some 8
  | 30 => some 48
  | 31 => some 48
  | 33 => some 16
  | 34 => some 16
  | 40 => some 24
  | 41 => some 8
  | 43 => some 24
  | 44 => some 32
  | 45 => some 8
  | 46 => some 24
  | 47 => some 96
  | 48 => some 168
  | 49 => some 168
  | 51 => some 64
  | 52 => some 64
  | 53 => some 72
  | 54 => some 72
  | 70 => some 8
  | 71 => some 24
  | 72 => some 24
  | 73 => some 24
  | 74 => some 24
  | 75 => some 24
  | 76 => some 72
  | 77 => some 72
  | 78 => some 120
  | 79 => some 120
  | 80 => some 80
  | 81 => some 80
  | 86 => some 16
  | 87 => some 16
  | 89 => some 56
  | 90 => some 56
  | 91 => some 8
  | 92 => some 8
  | 93 => some 8
  | 95 => some 8
  | 96 => some 64
  | 97 => some 64
  | 101 => some 16
  | 102 => some 16
  | 103 => some 8
  | 104 => some 56
  | 105 => some 56
  | 106 => some 24
  | 107 => some 80
  | 108 => some 80
  | 109 => some 8
  | 113 => some 24
  | 114 => some 24
  | 115 => some 24
  | 116 => some 56
  | 117 => some 56
  | 118 => some 120
  | 119 => some 120
  | 122 => some 16
  | 123 => some 16
  | 127 => some 8
  | 130 => some 16
  | 131 => some 16
  | 133 => some 8
  | 134 => some 16
  | 135 => some 16
  | 137 => some 8
  | 142 => some 8
  | 143 => some 40
  | 146 => some 56
  | 147 => some 56
  | 151 => some 8
  | 154 => some 24
  | 155 => some 24
  | 156 => some 24
  | 161 => some 24
  | 162 => some 72
  | 163 => some 72
  | 165 => some 8
  | 171 => some 16
  | 172 => some 16
  | 175 => some 8
  | 176 => some 8
  | 177 => some 24
  | 179 => some 24
  | 180 => some 24
  | 181 => some 128
  | 182 => some 128
  | 183 => some 56
  | 184 => some 56
  | 185 => some 176
  | 186 => some 176
  | 192 => some 8
  | 193 => some 8
  | 205 => some 8
  | 209 => some 8
  | 210 => some 16
  | 213 => some 16
  | 214 => some 16
  | 216 => some 8
  | 224 => some 4
  | 226 => some 8
  | 227 => some 8
  | 231 => some 8
  | 233 => some 8
  | 236 => some 8
  | 246 => some 8
  | 251 => some 16
  | 252 => some 16
  | 253 => some 16
  | 254 => some 16
  | 257 => some 8
  | 260 => some 8
  | 261 => some 72
  | 262 => some 72
  | 265 => some 40
  | 266 => some 40
  | 289 => some 8
  | 295 => some 2
  | _ => none
def zZ : Nat → Option Value
  | 2 => some (.int .i64 0)
  | 3 => some (.int .i64 0)
  | 4 => some (.bool false)
  | 5 => some (.int .u8 0)
  | 12 => some (.int .u64 0)
  | 20 => some .nilIface
  | 21 => some (.int .i32 0)
  | 22 => some (.slice none 0 0)
  | 24 => some (.slice none 0 0)
  | 26 => some (.slice none 0 0)
  | 28 => some (.pointer none)
  | 30 => some (.agg [(.int .i64 0), (.int .i64 0), (.int .i64 0), (.int .i64 0), (.int .i64 0), (.int .i64 0)].toArray)
  | 31 => some (.agg [(.int .i64 0), (.int .i64 0), (.int .i64 0), (.int .i64 0), (.int .i64 0), (.int .i64 0)].toArray)
  | 33 => some .nilIface
  | 34 => some .nilIface
  | 40 => some (.slice none 0 0)
  | 41 => some (.pointer none)
  | 43 => some (.slice none 0 0)
  | 44 => some (.agg [(.int .i64 0), (.int .i64 0), (.int .i64 0), (.int .i64 0)].toArray)
  | 45 => some (.pointer none)
  | 46 => some (.slice none 0 0)
  | 47 => some (.agg [(.slice none 0 0), (.slice none 0 0), (.slice none 0 0), (.slice none 0 0)].toArray)
  | 48 => some (.agg [(.pointer none), (.int .i64 0), (.slice none 0 0), (.slice none 0 0), (.slice none 0 0), (.slice none 0 0), (.slice none 0 0), (.int .i64 0), (.int .i64 0), (.int .i64 0), (.int .i64 0)].toArray)
  | 49 => some (.agg [(.pointer none), (.int .i64 0), (.slice none 0 0), (.slice none 0 0), (.slice none 0 0), (.slice none 0 0), (.slice none 0 0), (.int .i64 0), (.int .i64 0), (.int .i64 0), (.int .i64 0)].toArray)
  | 51 => some (.agg [(.int .i64 0), (.int .i64 0), (.int .i64 0), (.int .i64 0), (.int .i64 0), (.int .i64 0), (.int .i64 0), (.int .i64 0)].toArray)
  | 52 => some (.agg [(.int .i64 0), (.int .i64 0), (.int .i64 0), (.int .i64 0), (.int .i64 0), (.int .i64 0), (.int .i64 0), (.int .i64 0)].toArray)
  | 53 => some (.agg [(.int .i64 0), (.int .i64 0), (.int .i64 0), (.int .i64 0), (.int .i64 0), (.int .i64 0), (.int .i64 0), (.int .i64 0), (.bool false)].toArray)
  | 54 => some (.agg [(.int .i64 0), (.int .i64 0), (.int .i64 0), (.int .i64 0), (.int .i64 0), (.int .i64 0), (.int .i64 0), (.int .i64 0), (.bool false)].toArray)
  | 70 => some (.pointer none)
  | 71 => some (.slice none 0 0)
  | 72 => some (.slice none 0 0)
  | 73 => some (.slice none 0 0)
  | 74 => some (.slice none 0 0)
  | 75 => some (.slice none 0 0)
  | 76 => some (.agg [(.slice none 0 0), (.slice none 0 0), (.slice none 0 0)].toArray)
  | 77 => some (.agg [(.slice none 0 0), (.slice none 0 0), (.slice none 0 0)].toArray)
  | 78 => some (.agg [(.slice none 0 0), (.slice none 0 0), (.slice none 0 0), (.slice none 0 0), (.slice none 0 0)].toArray)
  | 79 => some (.agg [(.slice none 0 0), (.slice none 0 0), (.slice none 0 0), (.slice none 0 0), (.slice none 0 0)].toArray)
  | 80 => some (.agg [(.int .i64 0), (.int .i64 0), (.int .i64 0), (.int .i64 0), (.int .i64 0), (.int .i64 0), (.int .i64 0), (.int .i64 0), (.int .i64 0), (.int .i64 0)].toArray)
  | 81 => some (.agg [(.int .i64 0), (.int .i64 0), (.int .i64 0), (.int .i64 0), (.int .i64 0), (.int .i64 0), (.int .i64 0), (.int .i64 0), (.int .i64 0), (.int .i64 0)].toArray)
  | 86 => some (.agg [(.int .i64 0), (.int .i64 0)].toArray)
  | 87 => some (.agg [(.int .i64 0), (.int .i64 0)].toArray)
  | 89 => some (.agg [(.int .i64 0), (.int .i64 0), (.int .i64 0), (.int .i64 0), (.int .i64 0), (.int .i64 0), (.int .i64 0)].toArray)
  | 90 => some (.agg [(.int .i64 0), (.int .i64 0), (.int .i64 0), (.int .i64 0), (.int .i64 0), (.int .i64 0), (.int .i64 0)].toArray)
  | 91 => some (.map none)
  | 92 => some (.agg [(.map none)].toArray)
  | 93 => some (.agg [(.map none)].toArray)
  | 95 => some (.pointer none)
  | 96 => some (.agg [(.int .i64 0), (.int .i64 0), (.int .i64 0), (.int .i64 0), (.int .i64 0), (.int .i64 0), .nilIface].toArray)
  | 97 => some (.agg [(.int .i64 0), (.int .i64 0), (.int .i64 0), (.int .i64 0), (.int .i64 0), (.int .i64 0), .nilIface].toArray)
  | 101 => some (.agg [(.pointer none), (.int .i64 0)].toArray)
  | 102 => some (.agg [(.pointer none), (.int .i64 0)].toArray)
  | 103 => some (.map none)
  | 104 => some (.agg [(.pointer none), (.int .i64 0), (.int .i64 0), (.slice none 0 0), (.map none)].toArray)
  | 105 => some (.agg [(.pointer none), (.int .i64 0), (.int .i64 0), (.slice none 0 0), (.map none)].toArray)
  | 106 => some (.slice none 0 0)
  | 107 => some (.agg [(.pointer none), (.int .i64 0), (.int .i64 0), (.slice none 0 0), (.map none), (.slice none 0 0)].toArray)
  | 108 => some (.agg [(.pointer none), (.int .i64 0), (.int .i64 0), (.slice none 0 0), (.map none), (.slice none 0 0)].toArray)
  | 109 => some (.pointer none)
  | 113 => some (.slice none 0 0)
  | 114 => some (.slice none 0 0)
  | 115 => some (.slice none 0 0)
  | 116 => some (.agg [(.bool false), (.bool false), (.slice none 0 0), (.slice none 0 0)].toArray)
  | 117 => some (.agg [(.bool false), (.bool false), (.slice none 0 0), (.slice none 0 0)].toArray)
  | 118 => some (.agg [(.pointer none), (.int .i64 0), (.slice none 0 0), (.slice none 0 0), (.bool false), (.bool false), (.slice none 0 0), (.slice none 0 0)].toArray)
  | 119 => some (.agg [(.pointer none), (.int .i64 0), (.slice none 0 0), (.slice none 0 0), (.bool false), (.bool false), (.slice none 0 0), (.slice none 0 0)].toArray)
  | 122 => some (.agg [(.int .i64 0), (.bool false)].toArray)
  | 123 => some (.agg [(.int .i64 0), (.bool false)].toArray)
  | 127 => some (.pointer none)
  | 130 => some (.agg [(.pointer none), (.pointer none)].toArray)
  | 131 => some (.agg [(.pointer none), (.pointer none)].toArray)
  | 133 => some (.pointer none)
  | 134 => some (.agg [(.pointer none), (.pointer none)].toArray)
  | 135 => some (.agg [(.pointer none), (.pointer none)].toArray)
  | 137 => some (.pointer none)
  | 142 => some .nilFunc
  | 143 => some (.agg [.nilFunc, .nilFunc, .nilFunc, .nilFunc, .nilFunc].toArray)
  | 146 => some (.agg [(.int .i64 0), (.int .i64 0), (.int .i64 0), (.int .i64 0), (.int .i64 0), (.int .i64 0), (.int .i64 0)].toArray)
  | 147 => some (.agg [(.int .i64 0), (.int .i64 0), (.int .i64 0), (.int .i64 0), (.int .i64 0), (.int .i64 0), (.int .i64 0)].toArray)
  | 151 => some (.pointer none)
  | 154 => some (.slice none 0 0)
  | 155 => some (.agg [(.slice none 0 0)].toArray)
  | 156 => some (.agg [(.slice none 0 0)].toArray)
  | 161 => some (.slice none 0 0)
  | 162 => some (.agg [(.int .i64 0), (.int .i64 0), (.pointer none), (.slice none 0 0), (.slice none 0 0)].toArray)
  | 163 => some (.agg [(.int .i64 0), (.int .i64 0), (.pointer none), (.slice none 0 0), (.slice none 0 0)].toArray)
  | 165 => some (.pointer none)
  | 171 => some .nilIface
  | 172 => some .nilIface
  | 175 => some (.agg [(.int .i64 0)].toArray)
  | 176 => some (.agg [(.int .i64 0)].toArray)
  | 177 => some (.slice none 0 0)
  | 179 => some (.slice none 0 0)
  | 180 => some (.slice none 0 0)
  | 181 => some (.agg [(.pointer none), (.int .i64 0), (.slice none 0 0), (.int .i64 0), (.slice none 0 0), (.bool false), (.bool false), (.slice none 0 0), (.slice none 0 0)].toArray)
  | 182 => some (.agg [(.pointer none), (.int .i64 0), (.slice none 0 0), (.int .i64 0), (.slice none 0 0), (.bool false), (.bool false), (.slice none 0 0), (.slice none 0 0)].toArray)
  | 183 => some (.agg [(.int .i64 0), (.int .i64 0), (.int .i64 0), (.int .i64 0), (.int .i64 0), (.int .i64 0), (.int .i64 0)].toArray)
  | 184 => some (.agg [(.int .i64 0), (.int .i64 0), (.int .i64 0), (.int .i64 0), (.int .i64 0), (.int .i64 0), (.int .i64 0)].toArray)
  | 185 => some (.agg [(.bool false), (.int .i64 0), (.int .i64 0), (.int .i64 0), (.int .i64 0), (.int .i64 0), (.int .i64 0), (.int .i64 0), (.int .i64 0), (.int .i64 0), (.int .i64 0), (.int .i64 0), (.int .i64 0), (.int .i64 0), (.int .i64 0), (.int .i64 0), (.bool false), (.pointer none), (.int .i64 0), (.slice none 0 0)].toArray)
  | 186 => some (.agg [(.bool false), (.int .i64 0), (.int .i64 0), (.int .i64 0), (.int .i64 0), (.int .i64 0), (.int .i64 0), (.int .i64 0), (.int .i64 0), (.int .i64 0), (.int .i64 0), (.int .i64 0), (.int .i64 0), (.int .i64 0), (.int .i64 0), (.int .i64 0), (.bool false), (.pointer none), (.int .i64 0), (.slice none 0 0)].toArray)
  | 192 => some (.map none)
  | 193 => some (.map none)
  | 205 => some (.int .u64 0)
  | 209 => some (.pointer none)
  | 210 => some .nilIface
  | 213 => some .nilIface
  | 214 => some .nilIface
  | 216 => some (.int .i64 0)
  | 224 => some (.int .u32 0)
  | 226 => some (.int .u64 0)
  | 227 => some (.int .u64 0)
  | 231 => some (.pointer none)
  | 233 => some (.pointer none)
  | 236 => some (.pointer none)
  | 246 => some (.pointer none)
  | 251 => some (.agg [(.int .i64 0), (.int .i64 0)].toArray)
  | 252 => some (.agg [(.int .i64 0), (.int .i64 0)].toArray)
  | 253 => some (.agg [(.int .i64 0), (.bool false)].toArray)
  | 254 => some (.agg [(.int .i64 0), (.bool false)].toArray)
  | 257 => some (.pointer none)
  | 260 => some (.pointer none)
  | 261 => some (.agg [(.int .i64 0), (.int .i64 0), (.int .i64 0), (.int .i64 0), (.int .i64 0), (.int .i64 0), (.int .i64 0), (.int .i64 0), (.bool false)].toArray)
  | 262 => some (.agg [(.int .i64 0), (.int .i64 0), (.int .i64 0), (.int .i64 0), (.int .i64 0), (.int .i64 0), (.int .i64 0), (.int .i64 0), (.bool false)].toArray)
  | 265 => some (.agg [(.pointer none), (.int .i64 0), (.slice none 0 0)].toArray)
  | 266 => some (.agg [(.pointer none), (.int .i64 0), (.slice none 0 0)].toArray)
  | 289 => some (.pointer none)
  | 295 => some (.int .u16 0)
  | _ => none
def zF1 : Nat → List (Nat × Nat)
  | 30 => [(0, 0), (1, 1), (2, 2), (3, 3), (4, 4), (5, 5)]
  | 31 => [(0, 0), (1, 1), (2, 2), (3, 3), (4, 4), (5, 5)]
  | 48 => [(0, 0), (1, 1), (2, 2), (3, 3), (4, 7)]
  | 49 => [(0, 0), (1, 1), (2, 2), (3, 3), (4, 7)]
  | 51 => [(0, 0), (1, 1), (2, 2)]
  | 52 => [(0, 0), (1, 1), (2, 2)]
  | 53 => [(0, 0), (1, 1), (2, 2), (3, 8)]
  | 54 => [(0, 0), (1, 1), (2, 2), (3, 8)]
  | 76 => [(0, 0), (1, 1), (2, 2)]
  | 77 => [(0, 0), (1, 1), (2, 2)]
  | 78 => [(0, 0), (1, 1), (2, 2)]
  | 79 => [(0, 0), (1, 1), (2, 2)]
  | 80 => [(0, 0), (1, 1), (2, 2), (3, 3), (4, 4)]
  | 81 => [(0, 0), (1, 1), (2, 2), (3, 3), (4, 4)]
  | 86 => [(0, 0), (1, 1)]
  | 87 => [(0, 0), (1, 1)]
  | 89 => [(0, 0), (1, 1), (2, 2), (3, 3)]
  | 90 => [(0, 0), (1, 1), (2, 2), (3, 3)]
  | 92 => [(0, 0)]
  | 93 => [(0, 0)]
  | 96 => [(0, 0), (1, 6)]
  | 97 => [(0, 0), (1, 6)]
  | 101 => [(0, 0), (1, 1)]
  | 102 => [(0, 0), (1, 1)]
  | 104 => [(0, 0), (1, 2), (2, 3), (3, 4)]
  | 105 => [(0, 0), (1, 2), (2, 3), (3, 4)]
  | 107 => [(0, 0), (1, 5)]
  | 108 => [(0, 0), (1, 5)]
  | 116 => [(0, 0), (1, 1), (2, 2), (3, 3)]
  | 117 => [(0, 0), (1, 1), (2, 2), (3, 3)]
  | 118 => [(0, 0), (1, 2), (2, 3), (3, 4)]
  | 119 => [(0, 0), (1, 2), (2, 3), (3, 4)]
  | 122 => [(0, 0), (1, 1)]
  | 123 => [(0, 0), (1, 1)]
  | 130 => [(0, 0), (1, 1)]
  | 131 => [(0, 0), (1, 1)]
  | 134 => [(0, 0), (1, 1)]
  | 135 => [(0, 0), (1, 1)]
  | 146 => [(0, 0), (1, 1)]
  | 147 => [(0, 0), (1, 1)]
  | 155 => [(0, 0)]
  | 156 => [(0, 0)]
  | 162 => [(0, 0), (1, 2), (2, 3), (3, 4)]
  | 163 => [(0, 0), (1, 2), (2, 3), (3, 4)]
  | 175 => [(0, 0)]
  | 176 => [(0, 0)]
  | 181 => [(0, 0), (1, 1), (2, 2), (3, 3), (4, 4), (5, 5), (6, 6), (7, 7), (8, 8)]
  | 182 => [(0, 0), (1, 1), (2, 2), (3, 3), (4, 4), (5, 5), (6, 6), (7, 7), (8, 8)]
  | 183 => [(0, 0), (1, 1)]
  | 184 => [(0, 0), (1, 1)]
  | 185 => [(0, 0), (1, 1), (2, 2), (3, 8), (4, 17), (5, 18), (6, 19)]
  | 186 => [(0, 0), (1, 1), (2, 2), (3, 8), (4, 17), (5, 18), (6, 19)]
  | 251 => [(0, 0), (1, 1)]
  | 252 => [(0, 0), (1, 1)]
  | 253 => [(0, 0), (1, 1)]
  | 254 => [(0, 0), (1, 1)]
  | 261 => [(0, 0)]
  | 262 => [(0, 0)]
  | 265 => [(0, 0), (1, 2)]
  | 266 => [(0, 0), (1, 2)]
  | _ => []
theorem u_ok {t : Nat} {D : TypeDesc} (h : zU t = some D) : Tryz.prog.underlying t = some D := by
  unfold zU at h
  split at h <;> first | (cases h; done) | (rw [← h]; kernel_rfl)
theorem s_ok {t m : Nat} (h : zS t = some m) : szOf Tryz.prog t = some m := by
  unfold zS at h
  split at h <;> first | (cases h; done) | (rw [← h]; kernel_rfl)
theorem b_ok {t m : Nat} (h : zB t = some m) : byOf Tryz.prog t = some m := by
  unfold zB at h
  split at h <;> first | (cases h; done) | (rw [← h]; kernel_rfl)
theorem z_ok {t : Nat} {v : Value} (h : zZ t = some v) : zrOf Tryz.prog t = some v := by
  unfold zZ at h
  split at h <;> first | (cases h; done) | (rw [← h]; kernel_rfl)
def look : List (Nat × Nat) → Nat → Option Nat
  | [], _ => none
  | (a, c) :: r, f => bif Nat.beq a f then some c else look r f
def zF (s f : Nat) : Option Nat := look (zF1 s) f
def fieldB (P : Program) (s f k : Nat) : Bool :=
  match P.underlying s with
  | some (.struct fs) => match fs[f]? with
    | some fi => fi.offset == k && (match szOf P fi.type with | some (_ + 1) => true | _ => false)
    | none => false
  | _ => false
theorem field_of {P : Program} {s f k : Nat} (h : fieldB P s f k = true) : FieldAt P s f k := by
  unfold fieldB at h
  split at h
  · rename_i fs hu
    split at h
    · rename_i fi hf
      simp only [Bool.and_eq_true, beq_iff_eq] at h
      obtain ⟨ho, hz⟩ := h
      split at hz
      · rename_i m hm
        exact ⟨fs, fi, m, hu, hf, ho, hm⟩
      · cases hz
    · cases h
  · cases h
theorem look_mem : ∀ {l : List (Nat × Nat)} {f c : Nat}, look l f = some c → (f, c) ∈ l
  | [], _, _, h => by cases h
  | (a, x) :: r, f, c, h => by
    unfold look at h
    cases hb : Nat.beq a f with
    | true =>
      rw [hb] at h
      have := Nat.eq_of_beq_eq_true hb
      cases h
      subst this
      exact List.mem_cons_self
    | false =>
      rw [hb] at h
      exact List.mem_cons_of_mem _ (look_mem h)
def zFok (P : Program) (s : Nat) : Bool := (zF1 s).all fun x => fieldB P s x.1 x.2
theorem zF_all {s : Nat} : zFok Tryz.prog s = true := by
  by_cases h : s < 300
  · have hall : (List.range 300).all (zFok Tryz.prog) = true := by kernel_rfl
    exact List.all_eq_true.1 hall s (List.mem_range.2 h)
  · unfold zFok zF1
    split <;> first | omega | rfl
theorem fa_ok {s f k : Nat} (h : zF s f = some k) : FieldAt Tryz.prog s f k :=
  field_of (List.all_eq_true.1 zF_all (f, k) (look_mem h))
theorem mixed : Tryz.prog.follows .mixedOrders = true := by kernel_rfl
end Go.Proofs.YtbicffldggcdhaaGreatDoor

namespace Go.Proofs.YtbicffldggcdhaaGreatDoor
open Go

structure Frm (S : Nat → Prop) (w w' : World) : Prop where
  size : w.heap.size ≤ w'.heap.size
  same : ∀ b o, At w b o → ¬ S b → At w' b o
  tape : w'.tape = w.tape
  os : w'.os = w.os
  output : w'.output = w.output
abbrev Frm0 (w w' : World) : Prop := Frm (fun _ => False) w w'
section
variable {S T : Nat → Prop} {w w1 w2 : World}
theorem Frm.refl (S : Nat → Prop) (w : World) : Frm S w w := ⟨Nat.le_refl _, fun _ _ h _ => h, rfl, rfl, rfl⟩
theorem Frm.trans (h : Frm S w w1) (k : Frm T w1 w2) (hs : ∀ b, T b → S b ∨ w.heap.size ≤ b) : Frm S w w2 :=
  ⟨Nat.le_trans h.size k.size, fun b o hb hn => k.same b o (h.same b o hb hn) (fun ht => by
    rcases hs b ht with h1 | h1
    · exact hn h1
    · have := at_lt hb; omega), k.tape.trans h.tape, k.os.trans h.os, k.output.trans h.output⟩
theorem Frm.trans0 (h : Frm S w w1) (k : Frm0 w1 w2) : Frm S w w2 := h.trans k (fun _ h => h.elim)
theorem Frm.mono (h : Frm S w w1) (hs : ∀ b, S b → T b ∨ w.heap.size ≤ b) : Frm T w w1 := (Frm.refl T w).trans h hs
theorem Frm.alloc (h : Frm S w w1) (o : Obj) : Frm S w (w1.alloc o) :=
  h.trans0 ⟨by simp, fun b x hb _ => at_alloc o hb, rfl, rfl, rfl⟩
theorem Frm.drew (h : Frm S w w1) : Frm S w w1.drew := ⟨h.size, h.same, h.tape, h.os, h.output⟩
theorem Frm.drew0 (h : Frm S w.drew w1) : Frm S w w1 := ⟨h.size, h.same, h.tape, h.os, h.output⟩
theorem Frm.setB (h : Frm S w w1) {b : Nat} (hb : S b ∨ w.heap.size ≤ b) (o : Obj) : Frm S w (setB w1 b o) :=
  h.trans (T := fun x => x = b) ⟨by rw [size_setB]; exact Nat.le_refl _, fun c x hc hne => at_setB_ne o (fun e => hne e.symm) hc, rfl, rfl, rfl⟩ (fun _ e => e ▸ hb)
theorem Frm.at0 (h : Frm0 w w1) {b : Nat} {o : Obj} (hb : At w b o) : At w1 b o := h.same b o hb id
theorem Frm.at (h : Frm S w w1) {b : Nat} {o : Obj} (hn : ¬ S b) (hb : At w b o) : At w1 b o := h.same b o hb hn
theorem Frm.of_alloc (w : World) (o : Obj) : Frm S w (w.alloc o) := (Frm.refl S w).alloc o
theorem Frm.of_drew (w : World) : Frm S w w.drew := (Frm.refl S w).drew
end
end Go.Proofs.YtbicffldggcdhaaGreatDoor

namespace Go.Proofs.YtbicffldggcdhaaGreatDoor
open Go
theorem runG00 {G K : Prop} (k : K) (h : Wrap K → G := by intro h; (repeat (first | (with_reducible first | refine wpIn_seq ?_ | refine w_reg ?_ | refine s_nil ?_ | refine s_nilQ ?_ | refine wpIn_block ?_ | refine q_then ?_ | refine q_blk ?_ | refine q_then_ret ?_ | refine q_blk_ret ?_ | refine q_then_exit ?_ | refine q_blk_exit ?_ | refine wpIn_skip ?_ | refine wpIn_ret ?_ | refine wpIn_exit ?_) | ((with_reducible refine q_blk_other ?_ ?_); exact rfl) | ((with_reducible apply c_true); exact rfl; (with_reducible exact rfl)) | ((with_reducible apply c_false); exact rfl; (with_reducible exact rfl)) | ((with_reducible apply s_no); (first | ((with_reducible apply wnt_nt); exact rfl; exact rfl; exact rfl; exact rfl; (with_reducible exact rfl)) | ((with_reducible apply wnt_nf); exact rfl; exact rfl; exact rfl; exact rfl; (with_reducible exact rfl)))) | ((with_reducible apply s_val); (first | ((with_reducible apply r_assign_b); exact rfl) | ((with_reducible apply r_move_i); exact rfl) | ((with_reducible apply r_geq_t); exact rfl; exact rfl; omega) | ((with_reducible apply r_geq_f); exact rfl; exact rfl; omega) | ((with_reducible apply r_geq); exact rfl; exact rfl) | ((with_reducible apply r_move_b); exact rfl) | ((with_reducible apply r_leq_t); exact rfl; exact rfl; omega) | ((with_reducible apply r_leq_f); exact rfl; exact rfl; omega) | ((with_reducible apply r_leq); exact rfl; exact rfl) | ((with_reducible apply r_pick_t); exact rfl; (with_reducible exact rfl); exact rfl) | ((with_reducible apply r_pick_f); exact rfl; (with_reducible exact rfl); exact rfl)); (first | (with_reducible exact wnt_none) | ((with_reducible apply wnt_y); exact rfl; exact rfl; exact rfl; exact rfl; (with_reducible exact rfl)))))); exact h.out) : G := h ⟨k⟩

abbrev I (n : Int) : Value := .int .i64 n
abbrev B (b : Bool) : Value := .bool b
abbrev Ptr (b : Nat) : Value := .pointer (some ⟨b, 0, none⟩)

def cnt (v : Value) : Nat := match v with | .int _ k => k.toNat | _ => 0
theorem bF {p : Prop} [Decidable p] (h : ¬ p) : Value.bool false = B (decide p) := by rw [decide_eq_false h]
theorem bI {p q : Prop} [Decidable p] [Decidable q] (h : p ↔ q) : Value.bool (decide p) = B (decide q) := by rw [decide_eq_decide.2 h]
theorem upTo_ret (hi a : Int) (w : World) : Rets Tryz.prog 100 [I hi, I a] w fun v w' => v = B (decide (0 ≤ a ∧ a ≤ hi)) ∧ w = w' := by
  refine rets_of Tryz.func100 (by kernel_rfl) rfl Tryz.ntmps100 (Nat.le_of_ble_eq_true rfl) ?_
  refine runG00 ?_
  cases h : decide (0 ≤ a)
  · refine runG00 ?_
    exact ret_1 rfl rfl ⟨bF (by have := of_decide_eq_false h; omega), rfl⟩
  · refine runG00 ?_
    exact ret_1 rfl rfl ⟨bI (by have := of_decide_eq_true h; omega), rfl⟩
end Go.Proofs.YtbicffldggcdhaaGreatDoor
