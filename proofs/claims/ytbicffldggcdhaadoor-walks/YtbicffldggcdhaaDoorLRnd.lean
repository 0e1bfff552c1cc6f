/-
  Ranging over a function: the statement, its rounds, the calls of yield, and the way out of a function that has ranged.
-/
import Derived.Test.YtbicffldggcdhaaDoorLMem
import Derived.RangeFuncLeaves
namespace Go.Proofs.YtbicffldggcdhaaDoor
open Go

section
variable {P : Program} {w w' : World} {n : Nat} {ds : List Deferred} {env : Env} {ops : Array Oper} {R : Option Nat} {Q : Exit → Act → World → Prop} {rest : List Oper} {v : Value} {d : Nat} {t : Nat} {p : String} {af : Array Edge} {g : Option (Nat × Bool)} {φ : Value → World → Prop}

/-- A call of yield that returns. -/
def Yld (P : Program) (l : Nat) (args : List Value) (w : World) (φ : Value → World → Prop) : Prop :=
  ∃ fn tmps assign body, (Instr.yield l args.toArray).run P w = .ok (.round l fn tmps assign body) w ∧ RoundIn Fence.wide 0 P l fn tmps assign body w (fun e w' => ∃ v, e = .returned v ∧ φ v w')
theorem Yld.mono {l : Nat} {args : List Value} {ψ : Value → World → Prop} (h : Yld P l args w φ) (hh : ∀ v w', φ v w' → ψ v w') : Yld P l args w ψ := by
  obtain ⟨fn, tmps, asn, bo, h1, h2⟩ := h
  exact ⟨fn, tmps, asn, bo, h1, h2.mono fun e w' he => let ⟨v, a, b⟩ := he; ⟨v, a, hh v w' b⟩⟩

theorem s_yield {c : Operand} {l : Nat} {xs : List Operand} {tys : Array Nat} {args : List Value} (hc : ev n env c = .func (.yield l) #[] #[]) (ha : xs.map (ev n env) = args) (hy : Yld P l args w φ) (hw : Wnt n env ops g = true) (k : ∀ v w', φ v w' → WpS P ops Q rest (rep n ds (upd env d v)) w') : WpS P ops Q (⟨some d, .call { callee := .value c, args := xs.toArray, argTypes := tys }, t, p, af, g⟩ :: rest) (rep n ds env) w := by
  obtain ⟨fn, tmps, asn, bo, h1, h2⟩ := hy
  refine s_op hw (.inr (.inr (.inr ⟨l, fn, tmps, asn, bo, w, ?_, h2.mono ?_⟩)))
  · rw [rep_eval]
    subst ha
    simp [execOp, resolve, hc, Deferred.ofValue, invoke, h1]
  · rintro e w' ⟨v, rfl, hv⟩
    exact ⟨v, rfl, by rw [rep_put]; exact (k v w' hv).out⟩

abbrev mark (D : Nat) : Deferred := { target := .collected D, args := #[] }
def lrec (fn : Nat) (tm : Array Value) (ps : Array Nat) (asn bo : Code) (D : Nat) (st : LoopState) (pe : Option Code) : Loop := { state := st, pending := pe, fn := fn, tmps := tm, params := ps, assign := asn, body := bo, defers := D }
def inLoop (w : World) (rc : Loop) : World := (w.alloc (.deferred (some []))).alloc (.loop rc)
theorem inLoop_size (w : World) (rc : Loop) : (inLoop w rc).heap.size = w.heap.size + 2 := by simp [inLoop]
theorem inLoop_D (w : World) (rc : Loop) : At (inLoop w rc) w.heap.size (.deferred (some [])) := at_alloc _ (at_alloc_new _ _)
theorem inLoop_l (w : World) (rc : Loop) : At (inLoop w rc) (w.heap.size + 1) (.loop rc) := by
  have := at_alloc_new (w.alloc (.deferred (some []))) (.loop rc)
  rwa [World.size_alloc] at this
theorem inLoop_frm (w : World) (rc : Loop) : Frm0 w (inLoop w rc) := (Frm.of_alloc _ _).alloc _

/-- What is asked where the function that was ranged over has returned. -/
def rfQ (P : Program) (Q : Exit → Act → World → Prop) (a : Act) (l : Nat) (w3 : World) : Prop :=
  ∃ r, At w3 l (.loop r) ∧ r.state ≠ .busy ∧ (match r.pending with
    | none => Q .normal a (setB w3 l (.loop { r with state := .exhausted }))
    | some c => c.wpIn (fen none) 0 P Q a (setB w3 l (.loop { r with state := .exhausted })))

theorem rf {c : Operand} {ps : Array Nat} {asn bo : Code} {f : Nat} {caps : List Value} (hc : ev n env c = .func (.func f) #[] caps.toArray)
    (h : ∀ fn rc, rc = lrec fn (rep n ds env).tmps ps asn bo w.heap.size .ready none → Rets P f (.func (.yield (w.heap.size + 1)) #[] #[] :: caps) (inLoop w rc) (fun _ w3 => rfQ P Q (rep n (mark w.heap.size :: ds) env) (w.heap.size + 1) w3)) :
    (Code.rangeFunc c ps asn bo).wpIn (fen none) 0 P Q (rep n ds env) w := by
  refine wpIn_rangeFunc (F := fen none) fun fn _ => ?_
  obtain ⟨hcl, hh⟩ := h fn _ rfl
  obtain ⟨W1, hW1⟩ : ∃ W1, inLoop w (lrec fn (rep n ds env).tmps ps asn bo w.heap.size .ready none) = W1 := ⟨_, rfl⟩
  have he : (Instr.enterLoop fn (rep n ds env).tmps ps asn bo (fen none).round).run P w = .ok (w.heap.size + 1, [mark w.heap.size]) W1 := by
    rw [← hW1]
    exact run_enterLoop_outer fn _ ps asn bo
  have hd : (resolve (rep n ds env).eval (rangeCall c (w.heap.size + 1)) 0).run P W1 = .ok ⟨.fn (.func f) caps.toArray, #[.func (.yield (w.heap.size + 1)) #[] #[]]⟩ W1 := by
    rw [rep_eval]
    simp only [resolve, hc, Deferred.ofValue]
    simp [ev]
  have hi : (invoke (.fn (.func f) caps.toArray) #[.func (.yield (w.heap.size + 1)) #[] #[]]).run P W1 = .ok (.enter f (#[.func (.yield (w.heap.size + 1)) #[] #[]] ++ caps.toArray)) W1 := run_callFunc hcl _
  refine ⟨w.heap.size + 1, [mark w.heap.size], W1, _, W1, f, _, W1, he, hd, fun _ _ => trivial, hi, fun h => (by cases h), ?_⟩
  rw [hW1] at hh
  have h1 := (callsIn_wide (n := 0)).2 hh
  have h2 : CallsIn (fen none) 0 P f _ _ _ := h1
  rw [show #[Value.func (.yield (w.heap.size + 1)) #[] #[]] ++ caps.toArray = (Value.func (.yield (w.heap.size + 1)) #[] #[] :: caps).toArray by simp]
  refine h2.mono ?_
  rintro e w3 ⟨v, rfl, r, hr, hb, hq⟩
  refine ⟨r.pending, _, run_endLoop hr hb, ?_⟩
  cases hp : r.pending with
  | none => rw [hp] at hq; exact hq
  | some c => rw [hp] at hq; exact hq

abbrev rndQ (P : Program) (l : Nat) (φ : Value → World → Prop) : Exit → Act → World → Prop := roundPost P l (fun e w' => ∃ v, e = .returned v ∧ φ v w')
/-- A round of a loop with two variables. -/
theorem rnd2 {l fn D : Nat} {rc : Loop} {asn bo : Code} {p1 p2 : Nat} {a1 a2 : Value} (hr : At w l (.loop rc)) (hrc : rc = lrec fn (rep n ds env).tmps #[p1, p2] asn bo D .ready none)
    (h : asn.wpIn (fen (some l)) 0 P (Exit.then (fun a' w1 => At w1 l (.loop rc) ∧ bo.wpIn (fen (some l)) 0 P (rndQ P l φ) a' (setB w1 l (.loop { rc with state := .busy }))) (fun _ _ _ => False)) (rep n [] (upd (upd env p1 a1) p2 a2)) w) : Yld P l [a1, a2] w φ := by
  have hp : rc.params = #[p1, p2] := by rw [hrc]; rfl
  have htm : rc.tmps = (rep n ds env).tmps := by rw [hrc]; rfl
  have hst : rc.state = .ready := by rw [hrc]; rfl
  have hasn : rc.assign = asn := by rw [hrc]; rfl
  have hbo : rc.body = bo := by rw [hrc]; rfl
  refine ⟨rc.fn, _, rc.assign, rc.body, run_yield hr (by simp [hp]), roundIn_of_wpIn trivial ?_⟩
  have e1 : (Array.foldl (fun tmps (x : Nat × Value) => tmps.setIfInBounds x.1 x.2) rc.tmps (rc.params.zip [a1, a2].toArray)) = (rep n [] (upd (upd env p1 a1) p2 a2)).tmps := by
    have h1 := congrArg Act.tmps (rep_put n ds env (some p1) a1)
    have h2 := congrArg Act.tmps (rep_put n ds (upd env p1 a1) (some p2) a2)
    simp only [Act.put, updo] at h1 h2
    rw [hp, htm]
    simp only [List.zip_toArray, List.zip_cons_cons, List.zip_nil_right, List.foldl_toArray, List.foldl_cons, List.foldl_nil]
    rw [h1, h2]
    rfl
  rw [show ({ tmps := Array.foldl (fun tmps (x : Nat × Value) => tmps.setIfInBounds x.1 x.2) rc.tmps (rc.params.zip [a1, a2].toArray), defers := [] } : Act) = rep n [] (upd (upd env p1 a1) p2 a2) by rw [e1]; rfl, hasn, hbo]
  refine wpIn_mono h ?_
  intro e a' w1 hq
  cases e with
  | normal => exact ⟨_, run_beginRound hq.1 hst, hq.2⟩
  | _ => exact hq
theorem rnd_go {l : Nat} {rc : Loop} {a : Act} (hr : At w l (.loop { rc with state := .busy })) (h1 : rc.state = .ready) (h2 : rc.pending = none) (h : φ (.bool true) (setB w l (.loop rc))) : rndQ P l φ .normal a w := by
  refine ⟨_, _, run_endRound none hr, _, rfl, ?_⟩
  obtain ⟨st, pe, fn, tm, ps, asn, bo, D⟩ := rc
  simp only at h1 h2
  subst h1 h2
  exact h
theorem rf_on {l : Nat} {rc : Loop} {a : Act} (hr : At w l (.loop rc)) (h1 : rc.state = .ready) (h2 : rc.pending = none) (h : Q .normal a (setB w l (.loop { rc with state := .exhausted }))) : rfQ P Q a l w :=
  ⟨rc, hr, by rw [h1]; simp, by rw [h2] at h ⊢; exact h⟩
theorem rnd_on {l : Nat} {r : Loop} {a : Act} (hr : At w l (.loop r)) (h : φ (.bool true) (setB w l (.loop { r with state := .ready, pending := none }))) : rndQ P l φ .normal a w :=
  ⟨_, _, run_endRound none hr, _, rfl, h⟩
theorem rnd_ret {l : Nat} {r : Loop} {a : Act} (hr : At w l (.loop r)) (h : φ (.bool false) (setB w l (.loop { r with state := .done, pending := some .ret }))) : rndQ P l φ .ret a w :=
  ⟨_, _, run_endRound (some .ret) hr, _, rfl, h⟩
theorem rnd_exit {l id : Nat} {r : Loop} {a : Act} (hr : At w l (.loop r)) (h : φ (.bool false) (setB w l (.loop { r with state := .done, pending := some (.exit id) }))) : rndQ P l φ (.exit id) a w :=
  ⟨_, _, run_endRound (some (.exit id)) hr, _, rfl, h⟩

/-! ### The way out of a function that has ranged -/
abbrev bodyQM (P : Program) (fn : Func) (φ : Value → World → Prop) : Exit → Act → World → Prop := bodyPostM (fen none) 0 P fn (fun e w' => ∃ v, e = .returned v ∧ φ v w')
theorem args_rep {fn : Func} {args : List Value} (hn : fn.ntmps = n) (hargs : args.length ≤ n) : ({ tmps := args.toArray ++ Array.replicate (fn.ntmps - args.toArray.size) undef, defers := [] } : Act) = rep n [] (ini args) := by
  unfold rep
  congr 1
  have hini : ∀ (l : List Value) (i : Nat), ini l i = l.getD i undef := by
    intro l
    induction l with
    | nil => intro i; rfl
    | cons v r ih => intro i; cases i with
      | zero => rfl
      | succ k => show ini r k = _; simpa using ih k
  apply Array.ext
  · simp [hn]; omega
  · intro i h1 h2
    simp only [Array.getElem_ofFn, hini]
    simp only [Array.getElem_append]
    split
    · rename_i hlt
      have hlt' : i < args.length := by simpa using hlt
      simp [hlt']
    · rename_i hlt
      have hlt' : ¬ i < args.length := by simpa using hlt
      simp [hlt']
theorem rets_marks {f : Nat} {fn : Func} {c : Code} {args : List Value} (hf : P.funcs[f]? = some fn) (hcl : callable P f = true) (hb : fn.body = some c) (hn : fn.ntmps = n) (hargs : args.length ≤ n)
    (h : c.wpIn (fen none) 0 P (bodyQM P fn φ) (rep n [] (ini args)) w) : Rets P f args w φ := by
  refine ⟨hcl, (callsIn_wide (n := 0)).1 (callsIn_of_wp_marks (F := Fence.wide) hf hb trivial ?_)⟩
  rw [args_rep hn hargs]
  exact h
def shutL (w : World) : List Nat → World
  | [] => w
  | D :: r => shutL (setB w D (.deferred none)) r
theorem shutL_at {b : Nat} {o : Obj} : ∀ (Ds : List Nat) (w : World), At w b o → b ∉ Ds → At (shutL w Ds) b o
  | [], _, h, _ => h
  | D :: r, _, h, hn => by
    simp only [List.mem_cons, not_or] at hn
    exact shutL_at r _ (at_setB_ne _ (Ne.symm hn.1) h) hn.2
theorem shutL_frm {S : Nat → Prop} {w0 : World} : ∀ (Ds : List Nat) (w : World), Frm S w0 w → (∀ D ∈ Ds, S D ∨ w0.heap.size ≤ D) → Frm S w0 (shutL w Ds)
  | [], _, h, _ => h
  | D :: r, _, h, hn => shutL_frm r _ (h.setB (b := D) (hn D List.mem_cons_self) _) (fun x hx => hn x (List.mem_cons_of_mem _ hx))
theorem leave_ms {fn : Func} {tm : Array Value} : ∀ (Ds : List Nat) (w : World), Ds.Nodup → (∀ D ∈ Ds, At w D (.deferred (some []))) → (results fn tm).run P (shutL w Ds) = .ok v (shutL w Ds) → φ v (shutL w Ds) →
    LeavesInM (fen none) 0 P fn tm (fun e w' => ∃ v, e = .returned v ∧ φ v w') (Ds.map mark) .returning w
  | [], _, _, _, hr, h => ⟨v, hr, v, rfl, h⟩
  | D :: r, _, hd, hA, hr, h => by
    simp only [List.nodup_cons] at hd
    refine ⟨by simp, .inl ⟨D, _, rfl, run_takeDeferred (hA D List.mem_cons_self), leave_ms r _ hd.2 (fun x hx => at_setB_ne _ (fun e => hd.1 (e ▸ hx)) (hA x (List.mem_cons_of_mem _ hx))) hr h⟩⟩
theorem ret_ms {fn : Func} (Ds : List Nat) (hd : Ds.Nodup) (hA : ∀ D ∈ Ds, At w D (.deferred (some []))) (hr : (results fn (rep n (Ds.map mark) env).tmps).run P (shutL w Ds) = .ok v (shutL w Ds)) (h : φ v (shutL w Ds)) : bodyQM P fn φ .ret (rep n (Ds.map mark) env) w :=
  leave_ms Ds w hd hA hr h
theorem ret_ms0 {fn : Func} (hr : (results fn (rep n [] env).tmps).run P w = .ok v w) (h : φ v w) : bodyQM P fn φ .ret (rep n [] env) w := ret_ms [] (by simp) (by simp) hr h
end
end Go.Proofs.YtbicffldggcdhaaDoor
