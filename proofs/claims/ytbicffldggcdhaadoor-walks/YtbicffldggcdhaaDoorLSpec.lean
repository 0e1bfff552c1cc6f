/-
  What the law asks of the program's trees, as contracts on its calls.
-/
import Derived.Test.YtbicffldggcdhaaDoorWLaw1
namespace Go.Proofs.YtbicffldggcdhaaDoor
open Go

/-- An error: none, or a refusal with the reason of that number, and this edit. -/
def ErrIs (ea : List Addr) (w : World) (v : Value) (n : Nat) (e : Ed) : Prop :=
  (n = 0 ∧ v = .nilIface) ∨ (0 < n ∧ ∃ b a, v = .iface 54 (Ptr b) ∧ At w b (cel (e.vals ++ [errV a]) 56) ∧ ea[n - 1]? = some a)
theorem ErrIs.frm0 {ea : List Addr} {w w' : World} {v : Value} {n : Nat} {e : Ed} (h : ErrIs ea w v n e) (f : Frm0 w w') : ErrIs ea w' v n e := by
  rcases h with h | ⟨h0, b, a, h1, h2, h3⟩
  · exact .inl h
  · exact .inr ⟨h0, b, a, h1, f.at0 h2, h3⟩
/-- The same, and its block is new. -/
def ErrN (ea : List Addr) (w0 w : World) (v : Value) (n : Nat) (e : Ed) : Prop := ErrIs ea w v n e ∧ ∀ b, v = .iface 54 (Ptr b) → w0.heap.size ≤ b
def findV (l : List Nd) (id : Int) : Value := match fnd id l with | some x => .tuple [.agg x.vals.toArray, B true].toArray | none => .tuple [.agg root0.vals.toArray, B false].toArray

/-- The contracts of package tree, over a predicate that says what a tree at a pointer is, and in which blocks it lies. -/
structure TreeSpec (PT : World → Nat → List Nd → (Nat → Prop) → Prop) : Prop where
  frm : ∀ {w w' : World} {t : Nat} {l : List Nd} {S T : Nat → Prop}, PT w t l S → Frm T w w' → (∀ b, S b → ¬ T b) → PT w' t l S
  weak : ∀ {w : World} {t : Nat} {l : List Nd} {S S' : Nat → Prop}, PT w t l S → (∀ b, S b → b < w.heap.size → S' b) → PT w t l S'
  new : ∀ w : World, Rets Tryd.prog 6 [] w fun v w' => ∃ t, v = Ptr t ∧ PT w' t [root0] (fun b => w.heap.size ≤ b) ∧ Frm0 w w'
  len : ∀ {w : World} {t : Nat} {l : List Nd} {S : Nat → Prop}, PT w t l S → Rets Tryd.prog 20 [Ptr t] w fun v w' => v = I l.length ∧ Frm0 w w'
  find : ∀ {w : World} {t : Nat} {l : List Nd} {S : Nat → Prop} (id : Int), PT w t l S → Wf l → Rets Tryd.prog 21 [Ptr t, I id] w fun v w' => v = findV l id ∧ Frm0 w w'
  apply : ∀ {w : World} {t : Nat} {l : List Nd} {S : Nat → Prop} {ea : List Addr} (e : Ed), PT w t l S → Wf l → Errs w ea → (∀ g ∈ errG, ¬ S g) → (∀ a ∈ ea, ¬ S a.block) →
    Rets Tryd.prog 8 [Ptr t, EdV e] w fun v w' => ErrIs ea w' v (refused l e) e ∧ PT w' t (applyL l e) (fun b => S b ∨ w.heap.size ≤ b) ∧ Frm S w w' ∧ (∀ b, v = .iface 54 (Ptr b) → w.heap.size ≤ b)

section
variable {P : Program} {w : World} {ρ : Operand → Value} {d : Option Nat} {t : Nat} {p : String} {af : Array Edge} {g : Option (Nat × Bool)}
theorem r_ta {x : Operand} {xT aT : Nat} {c : Bool} {a v : Value} (hx : ρ x = a) (h : (Instr.typeAssert a xT aT c).run P w = .ok v w) : (execOp ρ ⟨d, .typeAssert x xT aT c, t, p, af, g⟩).run P w = .ok (.value v) w := by
  simp [execOp, hx, h]
end
section
variable {w : World} {n : Nat} {env : Env} {d : Option Nat} {t ty2 : Nat} {p : String} {af : Array Edge} {g : Option (Nat × Bool)} {x y : Operand}
theorem r_nn (hx : ev n env x = .nilIface) : (execOp (ev n env) ⟨d, .binOp .eql 25 x (.const .nilIface) ty2, t, p, af, g⟩).run Tryd.prog w = .ok (.value (.bool true)) w :=
  r_eq2 hx (show ev n env (.const .nilIface) = .nilIface from rfl) (by simp [eqGuard]) (by kernel_rfl)
theorem r_in {u : Nat} {v : Value} (hx : ev n env x = .iface u v) : (execOp (ev n env) ⟨d, .binOp .eql 25 x (.const .nilIface) ty2, t, p, af, g⟩).run Tryd.prog w = .ok (.value (.bool false)) w :=
  r_eq2 hx (show ev n env (.const .nilIface) = .nilIface from rfl) rfl (by kernel_rfl)
theorem r_nep {a : Addr} (hx : ev n env x = .pointer (some a)) : (execOp (ev n env) ⟨d, .binOp .neq 54 x (.const (.pointer none)) ty2, t, p, af, g⟩).run Tryd.prog w = .ok (.value (.bool true)) w :=
  r_eq2 hx (show ev n env (.const (.pointer none)) = .pointer none from rfl) rfl (by kernel_rfl)
theorem r_eqp {a : Addr} (hx : ev n env x = .pointer (some a)) : (execOp (ev n env) ⟨d, .binOp .eql 28 x (.const (.pointer none)) ty2, t, p, af, g⟩).run Tryd.prog w = .ok (.value (.bool false)) w :=
  r_eq2 hx (show ev n env (.const (.pointer none)) = .pointer none from rfl) rfl (by kernel_rfl)
theorem r_tar {v : Value} (hx : ev n env x = .iface 54 v) : (execOp (ev n env) ⟨d, .typeAssert x 25 54 true, t, p, af, g⟩).run Tryd.prog w = .ok (.value (.tuple [v, .bool true].toArray)) w :=
  r_ta hx (by kernel_rfl)
theorem r_ees {a : Addr} (hx : ev n env x = errV a) (hy : ev n env y = errV a) : (execOp (ev n env) ⟨d, .binOp .eql 25 x y ty2, t, p, af, g⟩).run Tryd.prog w = .ok (.value (.bool true)) w :=
  r_eq2 hx hy rfl (eq_same a)
end

end Go.Proofs.YtbicffldggcdhaaDoor
