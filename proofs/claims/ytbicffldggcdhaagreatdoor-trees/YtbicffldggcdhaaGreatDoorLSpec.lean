/-
  What the law asks of the program's trees, as contracts on its calls.
-/
import Derived.Test.YtbicffldggcdhaaGreatDoorWLaw1
namespace Go.Proofs.YtbicffldggcdhaaGreatDoor
open Go
theorem runLSpec0 {G K : Prop} (k : K) (h : Wrap K → G := by intro h; (repeat (first | (with_reducible first | refine wpIn_seq ?_ | refine w_reg ?_ | refine s_nil ?_ | refine s_nilQ ?_ | refine wpIn_block ?_ | refine q_then ?_ | refine q_blk ?_ | refine q_then_ret ?_ | refine q_blk_ret ?_ | refine q_then_exit ?_ | refine q_blk_exit ?_ | refine wpIn_skip ?_ | refine wpIn_ret ?_ | refine wpIn_exit ?_ | refine y_nil ?_ | refine y_nilQ ?_ | refine x_late ?_) | ((with_reducible refine q_blk_other ?_ ?_); exact rfl) | ((with_reducible apply c_true); exact rfl; (with_reducible exact rfl)) | ((with_reducible apply c_false); exact rfl; (with_reducible exact rfl)) | ((with_reducible apply s_no); (first | ((with_reducible apply wnt_nt); exact rfl; exact rfl; exact rfl; exact rfl; (with_reducible exact rfl)) | ((with_reducible apply wnt_nf); exact rfl; exact rfl; exact rfl; exact rfl; (with_reducible exact rfl)))) | ((with_reducible apply x_qno); exact rfl; (first | ((with_reducible apply wnt_nt); exact rfl; exact rfl; exact rfl; exact rfl; (with_reducible exact rfl)) | ((with_reducible apply wnt_nf); exact rfl; exact rfl; exact rfl; exact rfl; (with_reducible exact rfl)))) | ((first | with_reducible apply s_val | ((with_reducible apply y_val); exact rfl) | ((with_reducible apply x_q); exact rfl; intro wq hq)); (first | ((with_reducible apply r_boxA); exact rfl) | ((with_reducible apply r_box1); exact rfl; exact rfl) | ((with_reducible apply r_assign_b); exact rfl) | ((with_reducible apply r_move_if); exact rfl) | ((with_reducible apply r_move_ni); exact rfl) | ((with_reducible apply r_eql_t); exact rfl; exact rfl; omega) | ((with_reducible apply r_eql_f); exact rfl; exact rfl; omega) | ((with_reducible apply r_eql); exact rfl; exact rfl) | ((with_reducible apply r_assign_if); exact rfl) | ((with_reducible apply r_assign_ni); exact rfl) | ((with_reducible apply r_move_i); exact rfl) | ((with_reducible apply r_extract); exact rfl; exact rfl) | ((with_reducible apply r_assign_p); exact rfl) | ((with_reducible apply r_assign_s); exact rfl) | ((with_reducible apply r_move_p); exact rfl) | ((with_reducible apply r_neq_t); exact rfl; exact rfl; omega) | ((with_reducible apply r_neq_f); exact rfl; exact rfl; omega) | ((with_reducible apply r_neq); exact rfl; exact rfl) | ((with_reducible apply r_move_b); exact rfl) | ((with_reducible apply r_gtr_t); exact rfl; exact rfl; omega) | ((with_reducible apply r_gtr_f); exact rfl; exact rfl; omega) | ((with_reducible apply r_gtr); exact rfl; exact rfl) | ((with_reducible apply r_pick_t); exact rfl; (with_reducible exact rfl); exact rfl) | ((with_reducible apply r_pick_f); exact rfl; (with_reducible exact rfl); exact rfl) | ((with_reducible apply r_nilCheck); exact rfl) | ((with_reducible apply r_fld); exact fa_ok rfl; exact rfl) | ((with_reducible apply r_load); exact u_ok rfl; exact rfl; exact rfl; (first | exact Frm.at0 hq (by assumption) | exact Frm.at hq (by assumption) (by assumption) | (first | (with_reducible assumption) | assumption | exact at_alloc_new _ _ | (repeat (first | assumption | exact at_alloc_new _ _ | refine at_drew ?_ | refine at_alloc _ ?_)))); exact rfl) | ((with_reducible apply r_move_s); exact rfl) | ((with_reducible apply r_index); exact u_ok rfl; exact s_ok rfl; exact rfl; exact rfl; omega; omega) | ((with_reducible apply r_indexarr); exact u_ok rfl; exact s_ok rfl; exact rfl; exact rfl; omega; omega) | ((with_reducible apply r_loadA); exact u_ok rfl; exact rfl; exact s_ok rfl; exact rfl; (first | exact Frm.at0 hq (by assumption) | exact Frm.at hq (by assumption) (by assumption) | (first | (with_reducible assumption) | assumption | exact at_alloc_new _ _ | (repeat (first | assumption | exact at_alloc_new _ _ | refine at_drew ?_ | refine at_alloc _ ?_)))); exact Nat.le_of_ble_eq_true rfl)); (first | (with_reducible exact wnt_none) | ((with_reducible apply wnt_y); exact rfl; exact rfl; exact rfl; exact rfl; (with_reducible exact rfl)))))); exact h.out) : G := h ⟨k⟩

/-- An error: none, or a refusal with the reason of that number, and this edit. -/
def ErrIs (ea : List Addr) (w : World) (v : Value) (n : Nat) (e : Ed) : Prop :=
  (n = 0 ∧ v = .nilIface) ∨ (0 < n ∧ ∃ b a, v = .iface 95 (Ptr b) ∧ At w b (cel (e.vals ++ [errV a]) 97) ∧ ea[n - 1]? = some a)
theorem ErrIs.frm0 {ea : List Addr} {w w' : World} {v : Value} {n : Nat} {e : Ed} (h : ErrIs ea w v n e) (f : Frm0 w w') : ErrIs ea w' v n e := by
  rcases h with h | ⟨h0, b, a, h1, h2, h3⟩
  · exact .inl h
  · exact .inr ⟨h0, b, a, h1, f.at0 h2, h3⟩
/-- The same, and its block is new. -/
def ErrN (ea : List Addr) (w0 w : World) (v : Value) (n : Nat) (e : Ed) : Prop := ErrIs ea w v n e ∧ ∀ b, v = .iface 95 (Ptr b) → w0.heap.size ≤ b
def findV (l : List Nd) (id : Int) : Value := match fnd id l with | some x => .tuple [.agg x.vals.toArray, B true].toArray | none => .tuple [.agg root0.vals.toArray, B false].toArray

/-- The contracts of package tree, over a predicate that says what a tree at a pointer is, and in which blocks it lies. -/
structure TreeSpec (PT : World → Nat → List Nd → (Nat → Prop) → Prop) : Prop where
  frm : ∀ {w w' : World} {t : Nat} {l : List Nd} {S T : Nat → Prop}, PT w t l S → Frm T w w' → (∀ b, S b → ¬ T b) → PT w' t l S
  weak : ∀ {w : World} {t : Nat} {l : List Nd} {S S' : Nat → Prop}, PT w t l S → (∀ b, S b → b < w.heap.size → S' b) → PT w t l S'
  new : ∀ w : World, Rets Tryz.prog 15 [] w fun v w' => ∃ t, v = Ptr t ∧ PT w' t [root0] (fun b => w.heap.size ≤ b) ∧ Frm0 w w'
  len : ∀ {w : World} {t : Nat} {l : List Nd} {S : Nat → Prop}, PT w t l S → Rets Tryz.prog 41 [Ptr t] w fun v w' => v = I l.length ∧ Frm0 w w'
  find : ∀ {w : World} {t : Nat} {l : List Nd} {S : Nat → Prop} (id : Int), PT w t l S → Wf l → Rets Tryz.prog 45 [Ptr t, I id] w fun v w' => v = findV l id ∧ Frm0 w w'
  apply : ∀ {w : World} {t : Nat} {l : List Nd} {S : Nat → Prop} {ea : List Addr} (e : Ed), PT w t l S → Wf l → Errs w ea → (∀ g ∈ errG, ¬ S g) → (∀ a ∈ ea, ¬ S a.block) →
    Rets Tryz.prog 18 [Ptr t, EdV e] w fun v w' => ErrIs ea w' v (refused l e) e ∧ PT w' t (applyL l e) (fun b => S b ∨ w.heap.size ≤ b) ∧ Frm S w w' ∧ (∀ b, v = .iface 95 (Ptr b) → w.heap.size ≤ b)

section
variable {P : Program} {w : World} {ρ : Operand → Value} {d : Option Nat} {t : Nat} {p : String} {af : Array Edge} {g : Option (Nat × Bool)}
theorem r_ta {x : Operand} {xT aT : Nat} {c : Bool} {a v : Value} (hx : ρ x = a) (h : (Instr.typeAssert a xT aT c).run P w = .ok v w) : (execOp ρ ⟨d, .typeAssert x xT aT c, t, p, af, g⟩).run P w = .ok (.value v) w := by
  simp [execOp, hx, h]
end
section
variable {w : World} {n : Nat} {env : Env} {d : Option Nat} {t ty2 : Nat} {p : String} {af : Array Edge} {g : Option (Nat × Bool)} {x y : Operand}
theorem r_nn (hx : ev n env x = .nilIface) : (execOp (ev n env) ⟨d, .binOp .eql 34 x (.const .nilIface) ty2, t, p, af, g⟩).run Tryz.prog w = .ok (.value (.bool true)) w :=
  r_eq2 hx (show ev n env (.const .nilIface) = .nilIface from rfl) (by simp [eqGuard]) (by kernel_rfl)
theorem r_in {u : Nat} {v : Value} (hx : ev n env x = .iface u v) : (execOp (ev n env) ⟨d, .binOp .eql 34 x (.const .nilIface) ty2, t, p, af, g⟩).run Tryz.prog w = .ok (.value (.bool false)) w :=
  r_eq2 hx (show ev n env (.const .nilIface) = .nilIface from rfl) rfl (by kernel_rfl)
theorem r_nep {a : Addr} (hx : ev n env x = .pointer (some a)) : (execOp (ev n env) ⟨d, .binOp .neq 95 x (.const (.pointer none)) ty2, t, p, af, g⟩).run Tryz.prog w = .ok (.value (.bool true)) w :=
  r_eq2 hx (show ev n env (.const (.pointer none)) = .pointer none from rfl) rfl (by kernel_rfl)
theorem r_eqp {a : Addr} (hx : ev n env x = .pointer (some a)) : (execOp (ev n env) ⟨d, .binOp .eql 28 x (.const (.pointer none)) ty2, t, p, af, g⟩).run Tryz.prog w = .ok (.value (.bool false)) w :=
  r_eq2 hx (show ev n env (.const (.pointer none)) = .pointer none from rfl) rfl (by kernel_rfl)
theorem r_tar {v : Value} (hx : ev n env x = .iface 95 v) : (execOp (ev n env) ⟨d, .typeAssert x 34 95 true, t, p, af, g⟩).run Tryz.prog w = .ok (.value (.tuple [v, .bool true].toArray)) w :=
  r_ta hx (by kernel_rfl)
theorem r_ees {a : Addr} (hx : ev n env x = errV a) (hy : ev n env y = errV a) : (execOp (ev n env) ⟨d, .binOp .eql 34 x y ty2, t, p, af, g⟩).run Tryz.prog w = .ok (.value (.bool true)) w :=
  r_eq2 hx hy rfl (eq_same a)
end

set_option maxHeartbeats 1000000 in
theorem reason_ret {ea : List Addr} {w : World} {v : Value} {n : Nat} {e : Ed} (hE : Errs w ea) (h : ErrIs ea w v n e) : Rets Tryz.prog 86 [v, I n, EdV e] w fun v w' => v = B true ∧ Frm0 w w' := by
  rcases h with ⟨rfl, rfl⟩ | ⟨h0, b, a, rfl, hb, ha⟩
  · refine rets_of Tryz.func86 (by kernel_rfl) rfl Tryz.ntmps86 (Nat.le_of_ble_eq_true rfl) ?_
    refine runLSpec0 ?_
    refine s_val (r_nn rfl) wnt_none ?_
    refine runLSpec0 ?_
    exact ret_b rfl rfl ⟨rfl, Frm.of_alloc _ _⟩
  · have hn9 : n < 10 := by have := (List.getElem?_eq_some_iff.1 ha).1; rw [hE.len] at this; omega
    have hg : (errL ea)[n]? = some (errV a) := by
      obtain ⟨a', ha', hg⟩ := errL_get hE.len hn9 h0
      rw [ha] at ha'
      cases ha'
      exact hg
    have hb1 := at_alloc (cel e.vals 31) hb
    have hx1 := at_alloc_new w (cel e.vals 31)
    refine rets_of Tryz.func86 (by kernel_rfl) rfl Tryz.ntmps86 (Nat.le_of_ble_eq_true rfl) ?_
    refine runLSpec0 ?_
    refine s_val (r_in rfl) wnt_none ?_
    refine runLSpec0 ?_
    refine s_val (r_tar rfl) wnt_none ?_
    refine runLSpec0 ?_
    refine s_callf (errs_ret (hE.frm0 (Frm.of_alloc _ _))) rfl wnt_none ?_
    rintro v w1 ⟨rfl, rfl⟩
    have hb2 := at_alloc (cel (errL ea) 34) hb1
    have hx2 := at_alloc (cel (errL ea) 34) hx1
    have hl2 := at_alloc_new (w.alloc (cel e.vals 31)) (cel (errL ea) 34)
    have hF2 : Frm0 w ((w.alloc (cel e.vals 31)).alloc (cel (errL ea) 34)) := ((Frm.refl _ w).alloc _).alloc _
    generalize hz1 : (w.alloc (cel e.vals 31)).heap.size = z1 at *
    generalize (w.alloc (cel e.vals 31)).alloc (cel (errL ea) 34) = w2 at *
    refine runLSpec0 ?_
    refine w_drawn ((0, false) :: (1, false) :: (2, false) :: (3, false) :: (4, false) :: (5, false) :: (6, false) :: (7, false) :: (8, false) :: (9, false) :: (10, false) :: (11, false) :: (12, false) :: (13, false) :: (14, false) :: (15, false) :: (16, false) :: (17, false) :: (18, false) :: (19, false) :: (20, false) :: (21, false) :: (22, false) :: (23, false) :: (24, false) :: (25, false) :: []) [] (fun wq => Frm0 w2 wq) mixed (by kernel_rfl) ?_ ?_
    · exact Frm.of_drew _
    · refine runLSpec0 ?_
      refine x_q rfl (fun wq hq => r_nep rfl) wnt_none ?_
      refine runLSpec0 ?_
      refine x_q rfl (fun wq hq => r_load (u_ok rfl) rfl rfl (hq.at0 hl2) (by rw [show 0 + (n : Int).toNat * 1 = n by omega]; exact hg)) (by (first | (with_reducible exact wnt_none) | ((with_reducible apply wnt_y); exact rfl; exact rfl; exact rfl; exact rfl; (with_reducible exact rfl)))) ?_
      refine x_q rfl (fun wq hq => r_ees (a := a) rfl rfl) (by (first | (with_reducible exact wnt_none) | ((with_reducible apply wnt_y); exact rfl; exact rfl; exact rfl; exact rfl; (with_reducible exact rfl)))) ?_
      refine runLSpec0 ?_
      refine x_q rfl (fun wq hq => r_eq_edit (n := e) rfl rfl) (by (first | (with_reducible exact wnt_none) | ((with_reducible apply wnt_y); exact rfl; exact rfl; exact rfl; exact rfl; (with_reducible exact rfl)))) ?_
      refine runLSpec0 ?_
      exact ret_b rfl rfl ⟨rfl, hF2.drew⟩
end Go.Proofs.YtbicffldggcdhaaGreatDoor
