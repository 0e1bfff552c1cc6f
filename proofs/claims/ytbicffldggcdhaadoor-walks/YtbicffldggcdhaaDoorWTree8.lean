/-
  The program's tree: Apply, walked; and the contracts of package tree, whole.
-/
import Derived.Test.YtbicffldggcdhaaDoorWTree7
namespace Go.Proofs.YtbicffldggcdhaaDoor
open Go
theorem runWTree80 {G K : Prop} (k : K) (h : Wrap K → G := by intro h; (repeat (first | (with_reducible first | refine wpIn_seq ?_ | refine w_reg ?_ | refine s_nil ?_ | refine s_nilQ ?_ | refine wpIn_block ?_ | refine q_then ?_ | refine q_blk ?_ | refine q_then_ret ?_ | refine q_blk_ret ?_ | refine q_then_exit ?_ | refine q_blk_exit ?_ | refine wpIn_skip ?_ | refine wpIn_ret ?_ | refine wpIn_exit ?_) | ((with_reducible refine q_blk_other ?_ ?_); exact rfl) | ((with_reducible apply c_true); exact rfl; (with_reducible exact rfl)) | ((with_reducible apply c_false); exact rfl; (with_reducible exact rfl)) | ((with_reducible apply s_val); (first | ((with_reducible apply r_boxA); exact rfl) | ((with_reducible apply r_box1); exact rfl; exact rfl) | ((with_reducible apply r_assign_if); exact rfl) | ((with_reducible apply r_assign_ni); exact rfl) | ((with_reducible apply r_move_p); exact rfl) | ((with_reducible apply r_loadA); exact u_ok rfl; exact rfl; exact s_ok rfl; exact rfl; (first | (with_reducible assumption) | assumption | exact at_alloc_new _ _ | (repeat (first | assumption | exact at_alloc_new _ _ | refine at_drew ?_ | refine at_alloc _ ?_))); exact Nat.le_of_ble_eq_true rfl) | ((with_reducible apply r_move_if); exact rfl) | ((with_reducible apply r_move_ni); exact rfl) | ((with_reducible apply r_neq_t); exact rfl; exact rfl; omega) | ((with_reducible apply r_neq_f); exact rfl; exact rfl; omega) | ((with_reducible apply r_neq); exact rfl; exact rfl) | ((with_reducible apply r_ifaceP); exact rfl; exact u_ok rfl)); (with_reducible exact wnt_none)))); exact h.out) : G := h ⟨k⟩

section
variable {w : World} {n : Nat} {env : Env} {d : Option Nat} {t ty2 : Nat} {p : String} {af : Array Edge} {g : Option (Nat × Bool)} {x y : Operand}
theorem r_nnF (hx : ev n env x = .nilIface) : (execOp (ev n env) ⟨d, .binOp .neq 25 x (.const .nilIface) ty2, t, p, af, g⟩).run Tryd.prog w = .ok (.value (.bool false)) w :=
  r_eq2 hx (show ev n env (.const .nilIface) = .nilIface from rfl) (by simp [eqGuard]) (by kernel_rfl)
theorem r_nnT {u : Nat} {v : Value} (hx : ev n env x = .iface u v) : (execOp (ev n env) ⟨d, .binOp .neq 25 x (.const .nilIface) ty2, t, p, af, g⟩).run Tryd.prog w = .ok (.value (.bool true)) w :=
  r_eq2 hx (show ev n env (.const .nilIface) = .nilIface from rfl) rfl (by kernel_rfl)
end
theorem bld_refusal (e : Ed) (a : Addr) (w : World) : (Instr.build 56 [(0, EdV e), (1, errV a)].toArray).run Tryd.prog w = .ok (.agg (e.vals ++ [errV a]).toArray) w := by kernel_rfl

theorem Apply_ret {w : World} {t mb : Nat} {es : Array MapEntry} {cl : Nat} {m l : List Nd} {ea : List Addr} (h : TreeAt w t mb es cl m) (hp : m.Perm l) (hw : Wf l) (hE : Err6 w ea) (e : Ed) :
    Rets Tryd.prog 8 [Ptr t, EdV e] w fun v w' => ErrIs ea w' v (refused l e) e ∧ TreeTo w' t mb (applyL l e) ∧ Frm (fun b => b = mb) w w' ∧ (∀ b, v = .iface 54 (Ptr b) → w.heap.size ≤ b) := by
  have hmm := at_lt h.row
  refine rets_of Tryd.func8 (by kernel_rfl) rfl Tryd.ntmps8 (Nat.le_of_ble_eq_true rfl) ?_
  refine runWTree80 ?_
  have hF1 : Frm0 w (w.alloc (cel e.vals 34)) := Frm.of_alloc _ _
  refine s_callf (do_ret (h.frm0 hF1) hp hw (hE.frm0 hF1) e) rfl wnt_none ?_
  rintro v w2 hd
  have hbox := hd.2.2.at (show ¬ w.heap.size = mb by omega) (at_alloc_new w (cel e.vals 34))
  obtain ⟨hr, hT, hF⟩ := hd.from hF1
  rcases hr with ⟨hr0, rfl⟩ | ⟨hr0, ad, rfl, ha⟩
  · refine runWTree80 ?_
    refine s_val (r_nnF rfl) wnt_none ?_
    refine runWTree80 ?_
    exact ret_ni rfl rfl ⟨.inl ⟨hr0, rfl⟩, hT, hF, fun b hb => by cases hb⟩
  · refine runWTree80 ?_
    refine s_val (r_nnT rfl) wnt_none ?_
    refine runWTree80 ?_
    refine s_val (r_build rfl (bld_refusal e ad _)) wnt_none ?_
    refine runWTree80 ?_
    refine ret_if rfl rfl ⟨.inr ⟨hr0, _, ad, rfl, at_alloc_new _ _, ha⟩, ?_, hF.alloc _, fun b hb => ?_⟩
    · obtain ⟨es', cl', m', h', hp'⟩ := hT
      exact ⟨es', cl', m', h'.frm0 (Frm.of_alloc _ _), hp'⟩
    · cases hb
      exact hF.size

/-- A tree at a pointer, and the blocks that it lies in. -/
def PT (w : World) (t : Nat) (l : List Nd) (S : Nat → Prop) : Prop := ∃ mb es cl m, TreeAt w t mb es cl m ∧ m.Perm l ∧ S t ∧ S mb
theorem treeSpec : TreeSpec PT where
  frm := fun ⟨mb, es, cl, m, h, hp, h1, h2⟩ f hs => ⟨mb, es, cl, m, h.frm f (hs _ h1) (hs _ h2), hp, h1, h2⟩
  weak := fun ⟨mb, es, cl, m, h, hp, h1, h2⟩ hs => ⟨mb, es, cl, m, h, hp, hs _ h1 (at_lt h.head), hs _ h2 (at_lt h.row)⟩
  new := fun w => (New_ret w).mono fun v w' ⟨t, mb, es, cl, hv, h, f, h1, h2⟩ => ⟨t, hv, ⟨mb, es, cl, _, h, List.Perm.refl _, h1, h2⟩, f⟩
  len := fun ⟨mb, es, cl, m, h, hp, _, _⟩ => (Len_ret h).mono fun v w' ⟨hv, hw⟩ => ⟨by rw [hv, hp.length_eq], by subst hw; exact Frm.refl _ _⟩
  find := fun id ⟨mb, es, cl, m, h, hp, _, _⟩ hw => (Find_ret h id).mono fun v w' ⟨hv, f⟩ => ⟨by rw [hv, findV, findV, fnd_perm hp hw.nodup], f⟩
  apply := fun {w t l S ea} e ⟨mb, es, cl, m, h, hp, h1, h2⟩ hw hE _ _ => (Apply_ret h hp hw hE.six e).mono fun v w' ⟨hv, ⟨es', cl', m', h', hp'⟩, f, hb⟩ =>
    ⟨hv, ⟨mb, es', cl', m', h', hp', .inl h1, .inl h2⟩, f.mono (fun b e => .inl (e ▸ h2)), hb⟩
end Go.Proofs.YtbicffldggcdhaaDoor
