/-
  A small calculus of our own over the model's code: frames as functions, regions walked operation by operation, regions that draw their order walked in one order of ours.
-/
import Derived.OrdersHeld
import Derived.KernelRfl
import Derived.Deep.Draws
import Derived.RangeFuncRecord
import Derived.OrdersIn
namespace Go.Proofs.YtbicffldggcdhaaDoor
open Go

structure Wrap (p : Prop) : Prop where
  out : p
abbrev Env := Nat → Value
def upd (env : Env) (d : Nat) (v : Value) : Env := fun i => bif Nat.beq i d then v else env i
def updo (env : Env) : Option Nat → Value → Env
  | some d, v => upd env d v
  | none, _ => env
def ini : List Value → Env
  | [] => fun _ => undef
  | v :: r => fun i => match i with
    | 0 => v
    | k + 1 => ini r k
def rep (n : Nat) (ds : List Deferred) (env : Env) : Act := { tmps := Array.ofFn (n := n) fun i => env i.val, defers := ds }
def ev (n : Nat) (env : Env) : Operand → Value
  | .tmp t => bif Nat.blt t n then env t else undef
  | .const v => v
  | .global g => .pointer (some ⟨g, 0, none⟩)
  | .func f => .func (.func f) #[] #[]

theorem rep_eval (n : Nat) (ds : List Deferred) (env : Env) : (rep n ds env).eval = ev n env := by
  funext x
  cases x with
  | tmp t =>
    simp only [Act.eval, rep, ev, Array.getD_eq_getD_getElem?, Array.getElem?_ofFn]
    by_cases h : t < n
    · have hb : Nat.blt t n = true := Nat.ble_eq_true_of_le h
      simp [h, hb]
    · have hb : Nat.blt t n = false := by
        cases hx : Nat.blt t n with
        | false => rfl
        | true => exact absurd (Nat.le_of_ble_eq_true hx) h
      simp [h, hb]
  | _ => rfl

theorem rep_congr {n : Nat} {ds : List Deferred} {e e' : Env} (h : ∀ i, i < n → e i = e' i) : rep n ds e = rep n ds e' := by
  unfold rep
  congr 1
  congr 1
  funext i
  exact h i.val i.isLt

theorem rep_put (n : Nat) (ds : List Deferred) (env : Env) (d : Option Nat) (v : Value) : (rep n ds env).put d v = rep n ds (updo env d v) := by
  cases d with
  | none => rfl
  | some d =>
    simp only [Act.put, rep, updo]
    congr 1
    apply Array.ext
    · simp
    · intro i h1 h2
      simp only [Array.size_setIfInBounds, Array.size_ofFn] at h1
      simp only [Array.getElem_ofFn, upd]
      by_cases hd : d = i
      · subst hd; simp
      · have hb : Nat.beq i d = false := by
          cases hb : Nat.beq i d with
          | false => rfl
          | true => exact absurd (Nat.eq_of_beq_eq_true hb).symm hd
        have hx : ((Array.ofFn fun i : Fin n => env i.val).setIfInBounds d v)[i]? = some (env i) := by
          rw [Array.getElem?_setIfInBounds_ne hd, Array.getElem?_ofFn]; simp [h1]
        rw [hb]
        exact (Array.getElem_eq_iff).2 hx

theorem upd_self {env : Env} {d : Nat} {v : Value} (h : env d = v) : upd env d v = env := by
  funext i
  unfold upd
  cases hb : Nat.beq i d with
  | false => rfl
  | true => have := Nat.eq_of_beq_eq_true hb; subst this; simp [h]

theorem yielded_rep (n : Nat) (ds : List Deferred) (env : Env) (ops : Array Oper) (j d : Nat) (h : (ops[j]?).bind (·.dst) = some d) (hd : Nat.blt d n = true) :
    yielded ops (rep n ds env).tmps j = match env d with | .bool b => some b | _ => none := by
  have hlt : d < n := Nat.le_of_ble_eq_true hd
  unfold yielded
  rw [h]
  simp only [Option.bind_some, rep, Array.getElem?_ofFn, hlt, dite_true]
  cases env d <;> rfl

/-! ### A region that draws nothing -/
section
variable {P : Program} {ops : Array Oper} {Q : Exit → Act → World → Prop}

/-- The fence that lets all by, of an activation (none) or of a round of the loop l. -/
def fen (R : Option Nat) : Fence := { Fence.wide with round := R }

/-- What one operation may do: a value, nothing, a call that returns, a round that returns. -/
def opw (P : Program) (o : Oper) (a : Act) (w : World) (K : Act → World → Prop) : Prop :=
  (∃ v w', (execOp a.eval o).run P w = .ok (.value v) w' ∧ K (a.put o.dst v) w') ∨
  (∃ w', (execOp a.eval o).run P w = .ok .skip w' ∧ K (a.put o.dst undef) w') ∨
  (∃ f args w', (execOp a.eval o).run P w = .ok (.enter f args) w' ∧ Calls P f args w' (fun e w'' => ∃ v, e = .returned v ∧ K (a.put o.dst v) w'')) ∨
  (∃ l f tmps assign body w', (execOp a.eval o).run P w = .ok (.round l f tmps assign body) w' ∧ RoundIn Fence.wide 0 P l f tmps assign body w' (fun e w'' => ∃ v, e = .returned v ∧ K (a.put o.dst v) w''))

theorem opw_mono {o : Oper} {a : Act} {w : World} {K K' : Act → World → Prop} (h : ∀ a w, K a w → K' a w) (hh : opw P o a w K) : opw P o a w K' := by
  rcases hh with ⟨v, w', hr, hk⟩ | ⟨w', hr, hk⟩ | ⟨f, args, w', hr, hk⟩ | ⟨l, f, tmps, as, bo, w', hr, hk⟩
  · exact .inl ⟨v, w', hr, h _ _ hk⟩
  · exact .inr (.inl ⟨w', hr, h _ _ hk⟩)
  · exact .inr (.inr (.inl ⟨f, args, w', hr, hk.mono fun e w'' he => let ⟨v, h1, h2⟩ := he; ⟨v, h1, h _ _ h2⟩⟩))
  · exact .inr (.inr (.inr ⟨l, f, tmps, as, bo, w', hr, hk.mono fun e w'' he => let ⟨v, h1, h2⟩ := he; ⟨v, h1, h _ _ h2⟩⟩))

theorem opw_at {o : Oper} {a : Act} {w : World} {K : Act → World → Prop} (h : opw P o a w K) (R : Option Nat) : o.semAt R a.eval = execOp a.eval o := by
  refine Oper.semAt_eq R a.eval o fun c hc => ?_
  have hd : ∀ x w', (execOp a.eval o).run P w = .ok x w' → ∃ d, x = .defer d := by
    intro x w' hx
    obtain ⟨d0, op, t, p, af, g⟩ := o
    simp only at hc
    subst hc
    simp only [execOp, Sem.run_bind] at hx
    cases hy : (resolve a.eval c t).run P w with
    | ok d w1 =>
      rw [hy] at hx
      simp only [Result.andThen, Sem.run_pure] at hx
      cases hx
      exact ⟨_, rfl⟩
    | halt q w1 => rw [hy] at hx; simp [Result.andThen] at hx
  rcases h with ⟨v, w', hr, _⟩ | ⟨w', hr, _⟩ | ⟨f, args, w', hr, _⟩ | ⟨l, f, tmps, as, bo, w', hr, _⟩ <;>
  · obtain ⟨d, hd⟩ := hd _ _ hr
    cases hd

theorem opw_wpIn {o : Oper} {a : Act} {w : World} {K : Act → World → Prop} {R : Option Nat} (h : opw P o a w K) : o.wpIn (fen R) 0 P a w K Q := by
  refine ⟨fun _ _ => trivial, ?_⟩
  show o.uponIn (fen R) 0 P a K Q ((o.semAt R a.eval).run P w)
  rw [opw_at h R]
  rcases h with ⟨v, w', hr, hk⟩ | ⟨w', hr, hk⟩ | ⟨f, args, w', hr, hk⟩ | ⟨l, f, tmps, as, bo, w', hr, hk⟩
  · rw [hr]; exact hk
  · rw [hr]; exact hk
  · rw [hr, Oper.uponIn_enter]
    refine ⟨fun h => (by cases h), ?_⟩
    have h1 : CallsIn Fence.wide 0 P f args w' (fun e w'' => ∃ v, e = .returned v ∧ K (a.put o.dst v) w'') := callsIn_wide.2 hk
    have h2 : CallsIn (fen R) 0 P f args w' (fun e w'' => ∃ v, e = .returned v ∧ K (a.put o.dst v) w'') := h1
    refine h2.mono ?_
    rintro e w'' ⟨v, rfl, hv⟩
    exact hv
  · rw [hr, Oper.uponIn_round]
    refine ⟨fun h => (by cases h), ?_⟩
    have h2 : RoundIn (fen R) 0 P l f tmps as bo w' (fun e w'' => ∃ v, e = .returned v ∧ K (a.put o.dst v) w'') := hk
    refine h2.mono ?_
    rintro e w'' ⟨v, rfl, hv⟩
    exact hv

def wpOne (P : Program) (ops : Array Oper) (o : Oper) (K : Act → World → Prop) (a : Act) (w : World) : Prop :=
  if Region.wanted o (yielded ops a.tmps) then opw P o a w K else K (a.put o.dst undef) w

def wpS (P : Program) (ops : Array Oper) (Q : Exit → Act → World → Prop) : List Oper → Act → World → Prop
  | [], a, w => Q .normal a w
  | o :: r, a, w => wpOne P ops o (wpS P ops Q r) a w

theorem wpS_ops {R : Option Nat} : ∀ (l : List Oper) (k : Nat), (∀ j, l[j]? = ops[k + j]?) → ∀ a w, wpS P ops Q l a w → wpOpsIn (fen R) 0 P ops Q (List.range' k l.length) a w
  | [], _, _, _, _, h => h
  | o :: l, k, hl, a, w, h => by
    have h0 : ops[k]? = some o := by simpa using (hl 0).symm
    simp only [List.length_cons, List.range'_succ]
    unfold wpOpsIn
    rw [h0]
    simp only [wpS, wpOne] at h
    have ih := wpS_ops (R := R) l (k + 1) (fun j => by have := hl (j + 1); simpa [Nat.add_assoc, Nat.add_comm 1 j] using this)
    dsimp only
    split
    · rename_i hw
      rw [if_pos hw] at h
      exact opw_wpIn (opw_mono (fun a w h => ih a w h) h)
    · rename_i hw
      rw [if_neg hw] at h
      exact ⟨fun _ _ => trivial, ih _ _ h⟩

theorem wp_reg {R : Option Nat} {id : Nat} {l : List Oper} {a : Act} {w : World} (h : wpS P l.toArray Q l a w) : (Code.region id l.toArray false).wpIn (fen R) 0 P Q a w := by
  apply wpIn_region
  have := wpS_ops (P := P) (Q := Q) (R := R) (ops := l.toArray) l 0 (fun j => by simp) a w h
  simpa [List.range_eq_range'] using this

end

/-! ### A region that draws its order -/
section
variable {P : Program} {ops : Array Oper} {Q : Exit → Act → World → Prop} {S : World → Prop} {early : Nat → Bool} {R : Option Nat}

def wpo (P : Program) (ops : Array Oper) (i : Nat) (K : Act → World → Prop) (a : Act) (w : World) : Prop :=
  match ops[i]? with
  | none => K a w
  | some o => if Region.wanted o (yielded ops a.tmps) then opw P o a w K else K (a.put o.dst undef) w

theorem wpo_mono {i : Nat} {a : Act} {w : World} {K K' : Act → World → Prop} (h : ∀ a w, K a w → K' a w) (hh : wpo P ops i K a w) : wpo P ops i K' a w := by
  unfold wpo at *
  split
  · exact h _ _ (by simpa [*] using hh)
  · rename_i o ho
    simp only [ho] at hh
    split
    · rename_i hw; simp only [hw, if_true] at hh; exact opw_mono h hh
    · rename_i hw; simp only [hw] at hh; exact h _ _ hh

theorem wpo_in {i : Nat} {a : Act} {w : World} {K : Act → World → Prop} (hh : wpo P ops i K a w) : wpOpIn (fen R) 0 P ops Q i K a w := by
  unfold wpo at hh
  unfold wpOpIn
  split
  · simpa [*] using hh
  · rename_i o ho
    simp only [ho] at hh
    split
    · rename_i hw; simp only [hw, if_true] at hh; exact opw_wpIn hh
    · rename_i hw; simp only [hw] at hh; exact ⟨fun _ _ => trivial, hh⟩

theorem yif_wpo {i : Nat} {o : Oper} {v : Value} {a : Act} (hi : ops[i]? = some o) (hy : YieldsIf P ops S o v a) {K : Act → World → Prop} {w : World} (hS : S w) (h : K (a.put o.dst v) w) : wpo P ops i K a w := by
  unfold wpo
  simp only [hi]
  rcases hy with ⟨hw, hv⟩ | ⟨hw, rfl⟩
  · simp only [hw, if_true]; exact .inl ⟨v, w, hv w hS, h⟩
  · simp only [hw, Bool.false_eq_true, if_false]; exact h

theorem wpo_putIf {j : Nat} {oi oj : Oper} {v : Value} (hj : ops[j]? = some oj) (hap : oi.apart ops oj = true)
    (hsi : ∀ cs b, oi.op ≠ .select cs b) (hsj : ∀ cs b, oj.op ≠ .select cs b) {K : Act → World → Prop} {a : Act} {w : World}
    (hy : YieldsIf P ops S oi v a) (h : wpo P ops j K (a.put oi.dst v) w) :
    wpo P ops j (fun a' w' => YieldsIf P ops S oi v a' ∧ K (a'.put oi.dst v) w') a w := by
  obtain ⟨h1, h2, h3⟩ := Oper.apart_spec hap
  have keep : ∀ (a : Act), YieldsIf P ops S oi v a → ∀ u, YieldsIf P ops S oi v (a.put oj.dst u) := fun a hy u =>
    hy.of_same (execOp_put oi hsi a oj.dst u h3) (wanted_put oi a oj.dst u h3)
  unfold wpo at *
  simp only [hj] at *
  rw [wanted_put oj a oi.dst v h1] at h
  split
  · rename_i hw
    simp only [hw, if_true] at h
    unfold opw at *
    rw [execOp_put oj hsj a oi.dst v h1] at h
    rcases h with ⟨u, w', hr, hk⟩ | ⟨w', hr, hk⟩ | ⟨f, args, w', hr, hk⟩ | ⟨l, f, tmps, as, bo, w', hr, hk⟩
    · exact .inl ⟨u, w', hr, keep a hy u, by rw [← Act.put_comm a v u h2]; exact hk⟩
    · exact .inr (.inl ⟨w', hr, keep a hy _, by rw [← Act.put_comm a v undef h2]; exact hk⟩)
    · exact .inr (.inr (.inl ⟨f, args, w', hr, hk.mono fun e w'' he => let ⟨u, e1, e2⟩ := he; ⟨u, e1, keep a hy u, by rw [← Act.put_comm a v u h2]; exact e2⟩⟩))
    · exact .inr (.inr (.inr ⟨l, f, tmps, as, bo, w', hr, hk.mono fun e w'' he => let ⟨u, e1, e2⟩ := he; ⟨u, e1, keep a hy u, by rw [← Act.put_comm a v u h2]; exact e2⟩⟩))
  · rename_i hw
    simp only [hw] at h
    exact ⟨keep a hy _, by rw [← Act.put_comm a v undef h2]; exact h⟩

def wpE (P : Program) (ops : Array Oper) (Q : Exit → Act → World → Prop) (S : World → Prop) (early : Nat → Bool) : Nat → Array Bool → Act → World → Prop
  | 0, listed, a, w => Region.ready .any ops listed = [] ∧ Q .normal a w
  | fuel + 1, listed, a, w =>
    (Region.ready .any ops listed = [] → Q .normal a w) ∧
    ∀ i ∈ Region.ready .any ops listed, wpo P ops i (fun a' w' => (early i = true → S w') ∧ wpE P ops Q S early fuel (listed.setIfInBounds i true) a' w') a w

theorem wpAny_of_wpE : ∀ (fuel : Nat) (listed : Array Bool) (a : Act) (w : World), wpE P ops Q S early fuel listed a w → wpAnyIn (fen R) 0 P .any ops Q fuel listed a w
  | 0, _, _, _, h => h
  | fuel + 1, _, _, _, h => ⟨h.1, fun i hi => wpo_in (wpo_mono (fun a' w' h' => wpAny_of_wpE fuel _ a' w' h'.2) (h.2 i hi))⟩

/-- What has come up is closed downwards. -/
def Shut (ops : Array Oper) (listed : Array Bool) : Prop :=
  ∀ (j : Nat) (o : Oper), ops[j]? = some o → listed.getD j false = true → ∀ e ∈ o.after, Region.binds .any e = true → listed.getD e.on false = true

theorem Shut.step {listed : Array Bool} {i : Nat} (h : Shut ops listed) (hi : i ∈ Region.ready .any ops listed) : Shut ops (listed.setIfInBounds i true) := by
  obtain ⟨h0, o, ho, hall⟩ := mem_ready.1 hi
  intro j oj hj hl e he hb
  by_cases hij : i = j
  · subst hij
    rw [ho] at hj
    cases hj
    exact getD_set_true (hall e he hb)
  · rw [getD_set_ne false hij] at hl
    exact getD_set_true (h j oj hj hl e he hb)

def aft (ops : Array Oper) (j : Nat) : List Nat :=
  match ops[j]? with
  | some o => o.after.toList.filterMap fun e => if Region.binds .any e then some e.on else none
  | none => []
def anc (ops : Array Oper) : Nat → List Nat → List Nat
  | 0, l => l
  | n + 1, l => anc ops n ((l ++ l.flatMap (aft ops)).eraseDups)

theorem aft_listed {listed : Array Bool} (h : Shut ops listed) {j : Nat} (hl : listed.getD j false = true) : ∀ x ∈ aft ops j, listed.getD x false = true := by
  intro x hx
  unfold aft at hx
  split at hx
  · rename_i o ho
    obtain ⟨e, he, hb⟩ := List.mem_filterMap.1 hx
    split at hb
    · rename_i hbi
      cases hb
      exact h j o ho hl e (by simpa using he) hbi
    · cases hb
  · cases hx

theorem anc_listed {listed : Array Bool} (h : Shut ops listed) : ∀ (n : Nat) (l : List Nat), (∀ x ∈ l, listed.getD x false = true) → ∀ x ∈ anc ops n l, listed.getD x false = true
  | 0, _, hl, x, hx => hl x hx
  | n + 1, l, hl, x, hx => by
    refine anc_listed h n _ (fun y hy => ?_) x hx
    rw [List.mem_eraseDups, List.mem_append] at hy
    rcases hy with hy | hy
    · exact hl y hy
    · obtain ⟨z, hz, hy⟩ := List.mem_flatMap.1 hy
      exact aft_listed h (hl z hz) y hy

theorem ready_aft {listed : Array Bool} {j : Nat} (hj : j ∈ Region.ready .any ops listed) : ∀ x ∈ aft ops j, listed.getD x false = true := by
  obtain ⟨_, o, ho, hall⟩ := mem_ready.1 hj
  intro x hx
  unfold aft at hx
  rw [ho] at hx
  obtain ⟨e, he, hb⟩ := List.mem_filterMap.1 hx
  split at hb
  · rename_i hbi
    cases hb
    exact hall e (by simpa using he) hbi
  · cases hb

theorem getD_ne_of {listed : Array Bool} {i : Nat} (h : listed.getD i true = false) : listed.getD i false = false := by
  simp only [Array.getD_eq_getD_getElem?] at *
  cases hx : listed[i]? <;> simp_all

theorem wpE_first {i : Nat} {oi : Oper} {v : Value} (hi : ops[i]? = some oi) (hsel : ∀ (j : Nat) (o : Oper) cs b, ops[j]? = some o → o.op ≠ .select cs b)
    (hlate : ∀ j, early j = false → ∃ n, i ∈ anc ops n (aft ops j)) :
    ∀ (fuel : Nat) (listed : Array Bool) (a : Act) (w : World), Shut ops listed →
      (∀ j oj, ops[j]? = some oj → j ≠ i → listed.getD j true = false → (∀ e ∈ oj.after, Region.binds .any e = true → e.on ≠ i) → oi.apart ops oj = true) →
      i ∈ Region.ready .any ops listed → YieldsIf P ops S oi v a → S w →
      wpE P ops Q S early fuel (listed.setIfInBounds i true) (a.put oi.dst v) w → wpE P ops Q S early (fuel + 1) listed a w := by
  intro fuel
  induction fuel with
  | zero =>
    intro listed a w _ _ hr hy hS H
    refine ⟨fun h => (by rw [h] at hr; cases hr), fun j hj => ?_⟩
    by_cases hji : j = i
    · subst hji; exact yif_wpo hi hy hS ⟨fun _ => hS, H⟩
    · have := ready_mono hj hji
      rw [H.1] at this
      cases this
  | succ fuel ih =>
    intro listed a w hsh hfree hr hy hS H
    refine ⟨fun h => (by rw [h] at hr; cases hr), fun j hj => ?_⟩
    by_cases hji : j = i
    · subst hji; exact yif_wpo hi hy hS ⟨fun _ => hS, H⟩
    · have h1 := H.2 j (ready_mono hj hji)
      obtain ⟨hjun, oj, hoj, hall⟩ := mem_ready.1 hj
      have hiun := getD_ne_of (mem_ready.1 hr).1
      have hearly : early j = true := by
        cases he : early j with
        | true => rfl
        | false =>
          obtain ⟨n, hn⟩ := hlate j he
          have := anc_listed hsh n _ (ready_aft hj) i hn
          rw [this] at hiun
          cases hiun
      have hnot : ∀ e ∈ oj.after, Region.binds .any e = true → e.on ≠ i := fun e he hb heq => by
        have h1 := hall e he hb
        rw [heq, hiun] at h1
        cases h1
      have h2 := wpo_putIf (S := S) hoj (hfree j oj hoj hji hjun hnot) (fun cs b => hsel i oi cs b hi) (fun cs b => hsel j oj cs b hoj) hy h1
      have hfree' : ∀ k ok, ops[k]? = some ok → k ≠ i → (listed.setIfInBounds j true).getD k true = false →
          (∀ e ∈ ok.after, Region.binds .any e = true → e.on ≠ i) → oi.apart ops ok = true := fun k ok hk hki hun hno => by
        refine hfree k ok hk hki ?_ hno
        by_cases hjk : j = k
        · subst hjk; exact hjun
        · rw [getD_set_ne true hjk] at hun; exact hun
      refine wpo_mono (fun a' w' h3 => ⟨h3.2.1, ih (listed.setIfInBounds j true) a' w' (hsh.step hj) hfree' (ready_mono hr (Ne.symm hji)) h3.1 (h3.2.1 hearly) ?_⟩) h2
      rw [Array.setIfInBounds_comm _ _ hji]
      exact h3.2.2

/-- The walk in an order of ours: first quiet operations (false) and such as S outlives (true), then the late ones. -/
def wpX2 (P : Program) (ops : Array Oper) (Q : Exit → Act → World → Prop) : List Nat → Act → World → Prop
  | [], a, w => Q .normal a w
  | i :: r, a, w => wpo P ops i (wpX2 P ops Q r) a w
def wpX (P : Program) (ops : Array Oper) (S : World → Prop) (Q : Exit → Act → World → Prop) (late : List Nat) : List (Nat × Bool) → Act → World → Prop
  | [], a, w => wpX2 P ops Q late a w
  | (i, false) :: r, a, w => ∃ o v, ops[i]? = some o ∧ YieldsIf P ops S o v a ∧ wpX P ops S Q late r (a.put o.dst v) w
  | (i, true) :: r, a, w => wpo P ops i (fun a' w' => S w' ∧ wpX P ops S Q late r a' w') a w

def chk2 (ops : Array Oper) : List Nat → Array Bool → Bool
  | [], listed => Region.ready .any ops listed == []
  | i :: r, listed => Region.ready .any ops listed == [i] && chk2 ops r (listed.setIfInBounds i true)
def chk1 (ops : Array Oper) (late : List Nat) (fuel : Nat) : List (Nat × Bool) → Array Bool → Bool
  | [], listed => chk2 ops late listed
  | (i, false) :: r, listed => (Region.ready .any ops listed).contains i && Region.free .any ops listed i && late.all (fun j => (anc ops fuel (aft ops j)).contains i) && chk1 ops late fuel r (listed.setIfInBounds i true)
  | (i, true) :: r, listed => Region.ready .any ops listed == [i] && !late.contains i && chk1 ops late fuel r (listed.setIfInBounds i true)
def chk (ops : Array Oper) (ord : List (Nat × Bool)) (late : List Nat) : Bool :=
  Region.noSelect ops && ord.length + late.length == ops.size && chk1 ops late ops.size ord (Array.replicate ops.size false)

theorem wpE_late {late : List Nat} (hS : ∀ i ∈ late, early i = false) : ∀ (l : List Nat) (listed : Array Bool) (a : Act) (w : World), (∀ i ∈ l, i ∈ late) → chk2 ops l listed = true → wpX2 P ops Q l a w → wpE P ops Q S early l.length listed a w
  | [], listed, a, w, _, hc, h => ⟨by simpa [chk2] using hc, h⟩
  | i :: l, listed, a, w, hl, hc, h => by
    simp only [chk2, Bool.and_eq_true, beq_iff_eq] at hc
    refine ⟨fun h0 => (by rw [hc.1] at h0; cases h0), fun j hj => ?_⟩
    rw [hc.1] at hj
    obtain rfl : j = i := by simpa using hj
    refine wpo_mono (fun a' w' h' => ⟨fun he => ?_, wpE_late hS l _ a' w' (fun k hk => hl k (List.mem_cons_of_mem _ hk)) hc.2 h'⟩) h
    rw [hS j (hl j List.mem_cons_self)] at he
    cases he

theorem wpE_ord {late : List Nat} {fuel : Nat} (hsel : Region.noSelect ops = true) : ∀ (l : List (Nat × Bool)) (listed : Array Bool) (a : Act) (w : World), Shut ops listed → S w → chk1 ops late fuel l listed = true →
    wpX P ops S Q late l a w → wpE P ops Q S (fun i => !late.contains i) (l.length + late.length) listed a w
  | [], listed, a, w, _, _, hc, h => by
    simp only [List.length_nil, Nat.zero_add]
    exact wpE_late (late := late) (fun i hi => by simpa using hi) late listed a w (fun _ h => h) (by simpa [chk1] using hc) h
  | (i, false) :: l, listed, a, w, hsh, hS, hc, h => by
    simp only [chk1, Bool.and_eq_true] at hc
    obtain ⟨⟨⟨hr, hf⟩, hl⟩, hc'⟩ := hc
    obtain ⟨o, v, ho, hy, hk⟩ := h
    have hr' : i ∈ Region.ready .any ops listed := by simpa using hr
    rw [show (i, false) :: l = [(i, false)] ++ l from rfl, List.length_append, List.length_singleton, show 1 + l.length + late.length = (l.length + late.length) + 1 by omega]
    refine wpE_first ho (Region.noSelect_spec hsel) (fun j hj => ?_) _ listed a w hsh (Region.free_spec ho hf) hr' hy hS (wpE_ord hsel l _ _ w (hsh.step hr') hS hc' hk)
    refine ⟨fuel, ?_⟩
    have := List.all_eq_true.1 hl j (by simpa using hj)
    simpa using this
  | (i, true) :: l, listed, a, w, hsh, hS, hc, h => by
    simp only [chk1, Bool.and_eq_true, beq_iff_eq] at hc
    obtain ⟨⟨hr, _⟩, hc'⟩ := hc
    simp only [wpX] at h
    rw [show (i, true) :: l = [(i, true)] ++ l from rfl, List.length_append, List.length_singleton, show 1 + l.length + late.length = (l.length + late.length) + 1 by omega]
    refine ⟨fun h0 => (by rw [hr] at h0; cases h0), fun j hj => ?_⟩
    have hj' := hj
    rw [hr] at hj
    obtain rfl : j = i := by simpa using hj
    exact wpo_mono (fun a' w' h' => ⟨fun _ => h'.1, wpE_ord hsel l _ a' w' (hsh.step hj') h'.1 hc' h'.2⟩) h

/-- ONE WALK, IN AN ORDER OF OURS, SERVES EVERY ORDER. -/
theorem wp_drawn {id : Nat} {l : List Oper} {a : Act} {w : World} (ord : List (Nat × Bool)) (late : List Nat) (S : World → Prop) (hm : P.follows .mixedOrders = true) (hc : chk l.toArray ord late = true)
    (hS : S w.drew) (h : wpX P l.toArray S Q late ord a w.drew) : (Code.region id l.toArray true).wpIn (fen R) 0 P Q a w := by
  simp only [chk, Bool.and_eq_true, beq_iff_eq] at hc
  obtain ⟨⟨hs, hz⟩, hc⟩ := hc
  refine wpIn_region_any hm (wpAny_of_wpE (S := S) (early := fun i => !late.contains i) _ _ _ _ ?_)
  rw [← hz]
  refine wpE_ord hs ord _ a _ (fun j o ho hl => ?_) hS (by rw [hz]; exact hc) h
  simp only [Array.getD_eq_getD_getElem?, Array.getElem?_replicate] at hl
  split at hl <;> simp at hl
end
end Go.Proofs.YtbicffldggcdhaaDoor
