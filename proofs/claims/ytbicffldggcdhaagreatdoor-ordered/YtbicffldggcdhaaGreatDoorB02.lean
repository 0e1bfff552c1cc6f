/-
  WNames; WLaw1; LSpec; WTree1; LPerm; WTree2; WTree3; WTree4; WCmp; LKids; LMapG.
-/
import Derived.Test.YtbicffldggcdhaaGreatDoorB01
import Derived.Shelf.SlSortCmp.WholeK
namespace Go.Proofs.YtbicffldggcdhaaGreatDoor
open Go
theorem runG02 {G K : Prop} (k : K) (h : Wrap K → G := by intro h; (repeat (first | (with_reducible first | refine wpIn_seq ?_ | refine w_reg ?_ | refine s_nil ?_ | refine s_nilQ ?_ | refine wpIn_block ?_ | refine q_then ?_ | refine q_blk ?_ | refine q_then_ret ?_ | refine q_blk_ret ?_ | refine q_then_exit ?_ | refine q_blk_exit ?_ | refine wpIn_skip ?_ | refine wpIn_ret ?_ | refine wpIn_exit ?_ | refine y_nil ?_ | refine y_nilQ ?_ | refine x_late ?_) | ((with_reducible refine q_blk_other ?_ ?_); exact rfl) | ((with_reducible apply c_true); exact rfl; (with_reducible exact rfl)) | ((with_reducible apply c_false); exact rfl; (with_reducible exact rfl)) | ((with_reducible apply s_no); (first | ((with_reducible apply wnt_nt); exact rfl; exact rfl; exact rfl; exact rfl; (with_reducible exact rfl)) | ((with_reducible apply wnt_nf); exact rfl; exact rfl; exact rfl; exact rfl; (with_reducible exact rfl)))) | ((with_reducible apply x_qno); exact rfl; (first | ((with_reducible apply wnt_nt); exact rfl; exact rfl; exact rfl; exact rfl; (with_reducible exact rfl)) | ((with_reducible apply wnt_nf); exact rfl; exact rfl; exact rfl; exact rfl; (with_reducible exact rfl)))) | ((first | with_reducible apply s_val | ((with_reducible apply y_val); exact rfl) | ((with_reducible apply x_q); exact rfl; intro wq hq)); (first | ((with_reducible apply r_assign_s); exact rfl) | ((with_reducible apply r_load); exact u_ok rfl; exact rfl; exact rfl; (first | exact Frm.at0 hq (by assumption) | exact Frm.at hq (by assumption) (by assumption) | (first | (with_reducible assumption) | assumption | exact at_alloc_new _ _ | (repeat (first | assumption | exact at_alloc_new _ _ | refine at_drew ?_ | refine at_alloc _ ?_)))); exact rfl) | ((with_reducible apply r_assign_i); exact rfl) | ((with_reducible apply r_move_i); exact rfl) | ((with_reducible apply r_lss_t); exact rfl; exact rfl; omega) | ((with_reducible apply r_lss_f); exact rfl; exact rfl; omega) | ((with_reducible apply r_lss); exact rfl; exact rfl) | ((with_reducible apply r_add); exact rfl; exact rfl; omega; omega) | ((with_reducible apply r_neg); exact rfl; omega; omega) | ((with_reducible apply r_remE); exact rfl; exact rfl; omega; omega) | ((with_reducible apply r_rem); exact rfl; exact rfl; omega) | ((with_reducible apply r_assign_b); exact rfl) | ((with_reducible apply r_move_s); exact rfl) | ((with_reducible apply r_len); exact u_ok rfl; exact rfl) | ((with_reducible apply r_index); exact u_ok rfl; exact s_ok rfl; exact rfl; exact rfl; omega; omega) | ((with_reducible apply r_indexarr); exact u_ok rfl; exact s_ok rfl; exact rfl; exact rfl; omega; omega) | ((with_reducible apply r_eql_t); exact rfl; exact rfl; omega) | ((with_reducible apply r_eql_f); exact rfl; exact rfl; omega) | ((with_reducible apply r_eql); exact rfl; exact rfl) | ((with_reducible apply r_boxA); exact rfl) | ((with_reducible apply r_box1); exact rfl; exact rfl) | ((with_reducible apply r_move_if); exact rfl) | ((with_reducible apply r_move_ni); exact rfl) | ((with_reducible apply r_assign_if); exact rfl) | ((with_reducible apply r_assign_ni); exact rfl) | ((with_reducible apply r_extract); exact rfl; exact rfl) | ((with_reducible apply r_assign_p); exact rfl) | ((with_reducible apply r_move_p); exact rfl) | ((with_reducible apply r_neq_t); exact rfl; exact rfl; omega) | ((with_reducible apply r_neq_f); exact rfl; exact rfl; omega) | ((with_reducible apply r_neq); exact rfl; exact rfl) | ((with_reducible apply r_move_b); exact rfl) | ((with_reducible apply r_gtr_t); exact rfl; exact rfl; omega) | ((with_reducible apply r_gtr_f); exact rfl; exact rfl; omega) | ((with_reducible apply r_gtr); exact rfl; exact rfl) | ((with_reducible apply r_pick_t); exact rfl; (with_reducible exact rfl); exact rfl) | ((with_reducible apply r_pick_f); exact rfl; (with_reducible exact rfl); exact rfl) | ((with_reducible apply r_nilCheck); exact rfl) | ((with_reducible apply r_fld); exact fa_ok rfl; exact rfl) | ((with_reducible apply r_loadA); exact u_ok rfl; exact rfl; exact s_ok rfl; exact rfl; (first | exact Frm.at0 hq (by assumption) | exact Frm.at hq (by assumption) (by assumption) | (first | (with_reducible assumption) | assumption | exact at_alloc_new _ _ | (repeat (first | assumption | exact at_alloc_new _ _ | refine at_drew ?_ | refine at_alloc _ ?_)))); exact Nat.le_of_ble_eq_true rfl) | ((with_reducible apply r_look2); exact u_ok rfl; exact u_ok rfl; exact z_ok rfl; exact rfl; exact rfl; (first | exact Frm.at0 hq (by assumption) | exact Frm.at hq (by assumption) (by assumption) | (first | (with_reducible assumption) | assumption | exact at_alloc_new _ _ | (repeat (first | assumption | exact at_alloc_new _ _ | refine at_drew ?_ | refine at_alloc _ ?_)))); assumption) | ((with_reducible apply r_move_t); exact rfl) | ((with_reducible apply r_allocA); exact z_ok rfl) | ((with_reducible apply r_alloc1); exact z_ok rfl; exact rfl) | ((with_reducible apply r_move_m); exact rfl) | ((with_reducible apply r_look); exact u_ok rfl; exact u_ok rfl; exact z_ok rfl; exact rfl; exact rfl; (first | exact Frm.at0 hq (by assumption) | exact Frm.at hq (by assumption) (by assumption) | (first | (with_reducible assumption) | assumption | exact at_alloc_new _ _ | (repeat (first | assumption | exact at_alloc_new _ _ | refine at_drew ?_ | refine at_alloc _ ?_)))); assumption) | ((with_reducible apply r_not_t); exact rfl; (with_reducible exact rfl)) | ((with_reducible apply r_not_f); exact rfl; (with_reducible exact rfl)) | ((with_reducible apply r_not); exact rfl) | ((with_reducible apply r_geq_t); exact rfl; exact rfl; omega) | ((with_reducible apply r_geq_f); exact rfl; exact rfl; omega) | ((with_reducible apply r_geq); exact rfl; exact rfl)); (first | (with_reducible exact wnt_none) | ((with_reducible apply wnt_y); exact rfl; exact rfl; exact rfl; exact rfl; (with_reducible exact rfl)))))); exact h.out) : G := h ⟨k⟩

theorem eq_other {w : World} {a b : Addr} (hne : a ≠ b) (ha : ∃ c t, At w a.block (.cells c t (0, 0))) (hb : ∃ c t, At w b.block (.cells c t (0, 0))) :
    (binOp .eql 34 (errV a) (errV b)).run Tryz.prog w = .ok (.bool false) w := by
  obtain ⟨c1, t1, h1⟩ := ha
  obtain ⟨c2, t2, h2⟩ := hb
  have hi : ∃ i, Tryz.prog.info? 236 = some i ∧ i.comparable = true := Option.map_eq_some_iff.1 (show (Tryz.prog.info? 236).map (·.comparable) = some true by kernel_rfl)
  have hj : ∃ j, Tryz.prog.info? 287 = some j ∧ j.size = 1 := Option.map_eq_some_iff.1 (show (Tryz.prog.info? 287).map (·.size) = some 1 by kernel_rfl)
  obtain ⟨i, hi1, hi2⟩ := hi
  obtain ⟨j, hj1, hj2⟩ := hj
  exact run_eql_iface_ptr_other w Tryz.underlying34 Tryz.underlying236 hi1 hi2 hj1 (by omega) hne h1 h2
theorem eq_same {w : World} (a : Addr) : (binOp .eql 34 (errV a) (errV a)).run Tryz.prog w = .ok (.bool true) w := by
  have hi : ∃ i, Tryz.prog.info? 236 = some i ∧ i.comparable = true := Option.map_eq_some_iff.1 (show (Tryz.prog.info? 236).map (·.comparable) = some true by kernel_rfl)
  have hj : ∃ j, Tryz.prog.info? 287 = some j ∧ j.size = 1 := Option.map_eq_some_iff.1 (show (Tryz.prog.info? 287).map (·.size) = some 1 by kernel_rfl)
  obtain ⟨i, hi1, hi2⟩ := hi
  obtain ⟨j, hj1, hj2⟩ := hj
  exact run_eql_iface_ptr_same w a Tryz.underlying34 Tryz.underlying236 hi1 hi2 hj1
theorem errs_get_one {w : World} {ea : List Addr} (h : Errs w ea) {i : Nat} {a : Addr} (hi : ea[i]? = some a) : ∃ c t, At w a.block (.cells c t (0, 0)) := by
  have : i < 9 := by have := (List.getElem?_eq_some_iff.1 hi).1; rw [h.len] at this; exact this
  obtain ⟨g, hg⟩ : ∃ g, errG[i]? = some g := ⟨_, List.getElem?_eq_getElem (by simpa [errG] using this)⟩
  exact (h.one i g a hg hi).blk
end Go.Proofs.YtbicffldggcdhaaGreatDoor

namespace Go.Proofs.YtbicffldggcdhaaGreatDoor
open Go

theorem eq_int {w : World} (d : Nat) (a : Int) : (Op.equalIn (d + 1) 3 (I a) (I a)).run Tryz.prog w = .ok true w := by
  simp [Op.equalIn, run_underlying Tryz.underlying3]
theorem part_int {w : World} {cs : List Value} {off : Nat} {v : Value} (h : cs[off]? = some v) : (part 3 cs.toArray off).run Tryz.prog w = .ok v w := by
  simp [part, isAgg, run_underlying Tryz.underlying3, h]
theorem part_props (x : Nd) (w : World) : (part 44 x.vals.toArray 3).run Tryz.prog w = .ok (.agg [I x.p0, I x.p1, I x.p2, I x.p3].toArray) w := by kernel_rfl
theorem eq_edit {w : World} (d : Nat) (e : Ed) : (Op.equalIn (d + 2) 31 (EdV e) (EdV e)).run Tryz.prog w = .ok true w := by
  have p0 : ∀ w : World, (part 3 e.vals.toArray 0).run Tryz.prog w = .ok (I e.kind) w := fun w => part_int rfl
  have p1 : ∀ w : World, (part 3 e.vals.toArray 1).run Tryz.prog w = .ok (I e.node) w := fun w => part_int rfl
  have p2 : ∀ w : World, (part 3 e.vals.toArray 2).run Tryz.prog w = .ok (I e.parent) w := fun w => part_int rfl
  have p3 : ∀ w : World, (part 3 e.vals.toArray 3).run Tryz.prog w = .ok (I e.key) w := fun w => part_int rfl
  have p4 : ∀ w : World, (part 3 e.vals.toArray 4).run Tryz.prog w = .ok (I e.prop) w := fun w => part_int rfl
  have p5 : ∀ w : World, (part 3 e.vals.toArray 5).run Tryz.prog w = .ok (I e.value) w := fun w => part_int rfl
  have e3 : ∀ (a : Int) (w : World), (Op.equalIn (d + 1) 3 (I a) (I a)).run Tryz.prog w = .ok true w := fun a w => eq_int d a
  rw [Op.equalIn]
  simp [run_underlying Tryz.underlying31]
  simp only [p0, p1, p2, p3, p4, p5, e3, Result.andThen_ok]
  simp
section
variable {w : World} {ρ : Operand → Value} {d : Option Nat} {t ty2 : Nat} {p : String} {af : Array Edge} {g : Option (Nat × Bool)} {x y : Operand}
end

end Go.Proofs.YtbicffldggcdhaaGreatDoor

namespace Go.Proofs.YtbicffldggcdhaaGreatDoor
open Go

/-- An error: none, or a refusal with the reason of that number, and this edit. -/
def ErrIs (ea : List Addr) (w : World) (v : Value) (n : Nat) (e : Ed) : Prop :=
  (n = 0 ∧ v = .nilIface) ∨ (0 < n ∧ ∃ b a, v = .iface 95 (Ptr b) ∧ At w b (cel (e.vals ++ [errV a]) 97) ∧ ea[n - 1]? = some a)
/-- The same, and its block is new. -/
def ErrN (ea : List Addr) (w0 w : World) (v : Value) (n : Nat) (e : Ed) : Prop := ErrIs ea w v n e ∧ ∀ b, v = .iface 95 (Ptr b) → w0.heap.size ≤ b
def findV (l : List Nd) (id : Int) : Value := match fnd id l with | some x => .tuple [.agg x.vals.toArray, B true].toArray | none => .tuple [.agg root0.vals.toArray, B false].toArray

/-- The contracts of package tree, over a predicate that says what a tree at a pointer is, and in which blocks it lies. -/
structure TreeSpec (PT : World → Nat → List Nd → (Nat → Prop) → Prop) : Prop where
  frm : ∀ {w w' : World} {t : Nat} {l : List Nd} {S T : Nat → Prop}, PT w t l S → Frm T w w' → (∀ b, S b → ¬ T b) → PT w' t l S
  weak : ∀ {w : World} {t : Nat} {l : List Nd} {S S' : Nat → Prop}, PT w t l S → (∀ b, S b → b < w.heap.size → S' b) → PT w t l S'
  new : ∀ w : World, Rets Tryz.prog 15 [] w fun v w' => ∃ t, v = Ptr t ∧ PT w' t [root0] (fun b => w.heap.size ≤ b) ∧ Frm0 w w'
  len : ∀ {w : World} {t : Nat} {l : List Nd} {S : Nat → Prop}, PT w t l S → Rets Tryz.prog 41 [Ptr t] w fun v w' => v = I l.length ∧ Frm0 w w'
  find : ∀ {w : World} {t : Nat} {l : List Nd} {S : Nat → Prop} (id : Int), PT w t l S → Wf l → Rets Tryz.prog 45 [Ptr t, I id] w fun v w' => v = findV l id ∧ Frm0 w w'
  apply : ∀ {w : World} {t : Nat} {l : List Nd} {S : Nat → Prop} {ea : List Addr} (e : Ed), PT w t l S → Wf l → Errs w ea → (∀ g ∈ errG, ¬ S g) → (∀ a ∈ ea, ¬ S a.block) →
    Rets Tryz.prog 18 [Ptr t, EdV e] w fun v w' => ErrIs ea w' v (refused l e) e ∧ PT w' t (applyL l e) (fun b => S b ∨ w.heap.size ≤ b) ∧ Frm S w w' ∧ (∀ b, v = .iface 95 (Ptr b) → w.heap.size ≤ b)

section
variable {P : Program} {w : World} {ρ : Operand → Value} {d : Option Nat} {t : Nat} {p : String} {af : Array Edge} {g : Option (Nat × Bool)}
theorem r_ta {x : Operand} {xT aT : Nat} {c : Bool} {a v : Value} (hx : ρ x = a) (h : (Instr.typeAssert a xT aT c).run P w = .ok v w) : (execOp ρ ⟨d, .typeAssert x xT aT c, t, p, af, g⟩).run P w = .ok (.value v) w := by
  simp [execOp, hx, h]
end
section
variable {w : World} {n : Nat} {env : Env} {d : Option Nat} {t ty2 : Nat} {p : String} {af : Array Edge} {g : Option (Nat × Bool)} {x y : Operand}
theorem r_nn (hx : ev n env x = .nilIface) : (execOp (ev n env) ⟨d, .binOp .eql 34 x (.const .nilIface) ty2, t, p, af, g⟩).run Tryz.prog w = .ok (.value (.bool true)) w :=
  r_eq2 hx (show ev n env (.const .nilIface) = .nilIface from rfl) (by simp [eqGuard]) (by kernel_rfl)
theorem r_in {u : Nat} {v : Value} (hx : ev n env x = .iface u v) : (execOp (ev n env) ⟨d, .binOp .eql 34 x (.const .nilIface) ty2, t, p, af, g⟩).run Tryz.prog w = .ok (.value (.bool false)) w :=
  r_eq2 hx (show ev n env (.const .nilIface) = .nilIface from rfl) rfl (by kernel_rfl)
theorem r_eqp {a : Addr} (hx : ev n env x = .pointer (some a)) : (execOp (ev n env) ⟨d, .binOp .eql 28 x (.const (.pointer none)) ty2, t, p, af, g⟩).run Tryz.prog w = .ok (.value (.bool false)) w :=
  r_eq2 hx (show ev n env (.const (.pointer none)) = .pointer none from rfl) rfl (by kernel_rfl)
theorem r_ees {a : Addr} (hx : ev n env x = errV a) (hy : ev n env y = errV a) : (execOp (ev n env) ⟨d, .binOp .eql 34 x y ty2, t, p, af, g⟩).run Tryz.prog w = .ok (.value (.bool true)) w :=
  r_eq2 hx hy rfl (eq_same a)
end

end Go.Proofs.YtbicffldggcdhaaGreatDoor

namespace Go.Proofs.YtbicffldggcdhaaGreatDoor
open Go

structure TreeAt (w : World) (t mb : Nat) (es : Array MapEntry) (cl : Nat) (m : List Nd) : Prop where
  head : At w t (cel [.map (some mb)] 93)
  row : At w mb (.map es cl)
  ents : Ents es cl m
theorem TreeAt.apart {w : World} {t mb : Nat} {es : Array MapEntry} {cl : Nat} {m : List Nd} (h : TreeAt w t mb es cl m) : t ≠ mb := fun e => by
  have h1 := h.head
  have h2 := h.row
  subst e
  have h3 : w.heap[t]? = some (.map es cl) := h2
  have h4 : w.heap[t]? = some (cel [.map (some t)] 93) := h1
  rw [h3] at h4
  cases h4
theorem TreeAt.frm {w w' : World} {S : Nat → Prop} {t mb : Nat} {es : Array MapEntry} {cl : Nat} {m : List Nd} (h : TreeAt w t mb es cl m) (f : Frm S w w') (ht : ¬ S t) (hm : ¬ S mb) : TreeAt w' t mb es cl m :=
  ⟨f.at ht h.head, f.at hm h.row, h.ents⟩
theorem TreeAt.frm0 {w w' : World} {t mb : Nat} {es : Array MapEntry} {cl : Nat} {m : List Nd} (h : TreeAt w t mb es cl m) (f : Frm0 w w') : TreeAt w' t mb es cl m := h.frm f id id

theorem setB_alloc (w : World) (o o' : Obj) : setB (w.alloc o) w.heap.size o' = w.alloc o' := by
  unfold setB World.alloc
  congr 1
  apply Array.ext'
  simp
theorem vals_one (x : Nd) : ∀ u ∈ x.vals, one u = true := by
  intro u hu
  simp only [Nd.vals, List.mem_cons, List.not_mem_nil, or_false] at hu
  rcases hu with h | h | h | h | h | h | h <;> subst h <;> rfl
theorem put_whole (x y : Nd) : put y.vals 0 x.vals = x.vals := rfl
section
variable {P : Program} {w : World} {ρ : Operand → Value} {d : Option Nat} {t : Nat} {p : String} {af : Array Edge} {g : Option (Nat × Bool)}
/-- A node stored over another, whole. -/
theorem r_storeN {ty : Nat} {x y : Operand} {b : Nat} {nx ny : Nd} {e : Nat} (hz : szOf P ty = some 7) (hx : ρ x = .pointer (some ⟨b, 0, none⟩)) (hy : ρ y = NdV nx) (hb : At w b (cel ny.vals e)) :
    (execOp ρ ⟨d, .store ty x y, t, p, af, g⟩).run P w = .ok .skip (setB w b (cel nx.vals e)) := by
  have h := r_storeA (d := d) (t := t) (p := p) (af := af) (g := g) hz hx hy rfl (vals_one nx) hb (by simp [Nd.vals])
  rw [put_whole] at h
  exact h
end
theorem res_c2 {P : Program} {w : World} {n : Nat} {ds : List Deferred} {env : Env} {fn : Func} {a ty u b m e : Nat} {D : TypeDesc} {l : List Value} (hr : fn.results = #[.cell a ty, .tmp u]) (hu : P.underlying ty = some D) (hD : isAggD D = true) (hz : szOf P ty = some m) (ha : ev n env (.tmp a) = .pointer (some ⟨b, 0, none⟩)) (hb : At w b (cel l e)) (hl : l.length = m) :
    (results fn (rep n ds env).tmps).run P w = .ok (.tuple [.agg l.toArray, ev n env (.tmp u)].toArray) w := by
  rw [← tmp_getD n ds] at ha ⊢
  have hs : sub l 0 m = l := by rw [← hl]; exact sub_all l
  have h1 : (loadVar ty ⟨b, 0, none⟩).run P w = .ok (.agg l.toArray) w := by
    have h0 := run_loadCells_at (P := P) (off := 0) (n := m) hb (by omega)
    rw [hs] at h0
    simp [loadVar, run_isAgg hu, hD, run_size hz, h0]
  have ha' : (rep n ds env).tmps[a]?.getD undef = .pointer (some ⟨b, 0, none⟩) := by rw [← ha, Array.getD_eq_getD_getElem?]
  simp [results, hr, ha', asAddr, h1]

theorem Len_ret {w : World} {t mb : Nat} {es : Array MapEntry} {cl : Nat} {m : List Nd} (h : TreeAt w t mb es cl m) : Rets Tryz.prog 41 [Ptr t] w fun v w' => v = I m.length ∧ w = w' := by
  obtain ⟨h1, h2, h3⟩ := h
  refine rets_of Tryz.func41 (by kernel_rfl) rfl Tryz.ntmps41 (Nat.le_of_ble_eq_true rfl) ?_
  refine runG02 ?_
  refine s_val (r_lenmap (u_ok rfl) rfl h2) wnt_none ?_
  refine runG02 ?_
  refine ret_i rfl rfl ⟨?_, rfl⟩
  rw [h3.size]

theorem has_ret {w : World} {t mb : Nat} {es : Array MapEntry} {cl : Nat} {m : List Nd} (h : TreeAt w t mb es cl m) (id : Int) : Rets Tryz.prog 101 [Ptr t, I id] w fun v w' => v = B (there m id) ∧ Frm0 w w' := by
  obtain ⟨h1, h2, h3⟩ := h
  refine rets_of Tryz.func101 (by kernel_rfl) rfl Tryz.ntmps101 (Nat.le_of_ble_eq_true rfl) ?_
  refine runG02 ?_
  refine s_skip (r_storeN (ny := ⟨0, 0, 0, 0, 0, 0, 0⟩) (s_ok rfl) rfl rfl (at_alloc_new _ _)) wnt_none ?_
  rw [setB_alloc]
  refine runG02 ?_
  exact ret_b rfl rfl ⟨rfl, Frm.of_alloc _ _⟩

theorem bld_treeM (a : Option Nat) (w : World) : (Instr.build 93 [(0, .map a)].toArray).run Tryz.prog w = .ok (.agg [.map a].toArray) w := by kernel_rfl
theorem New_ret (w : World) : Rets Tryz.prog 15 [] w fun v w' => ∃ t mb es cl, v = Ptr t ∧ TreeAt w' t mb es cl [root0] ∧ Frm0 w w' ∧ w.heap.size ≤ t ∧ w.heap.size ≤ mb := by
  refine rets_of Tryz.func15 (by kernel_rfl) rfl Tryz.ntmps15 (Nat.le_of_ble_eq_true rfl) ?_
  refine runG02 ?_
  refine s_val r_mkmap wnt_none ?_
  refine s_val (r_build rfl (bld_node0 _)) wnt_none ?_
  obtain ⟨es, cl, hu, hE⟩ := upd_run (x := root0) (P := Tryz.prog) (w := w.alloc (.map #[] 0)) (ty := 91) (id := 0) (u_ok rfl) (u_ok rfl) (at_alloc_new _ _) ents_nil (by simp) rfl
  refine s_skip (r_ins rfl rfl rfl hu) wnt_none ?_
  rw [setB_alloc]
  refine runG02 ?_
  refine s_val (r_build rfl (bld_treeM _ _)) wnt_none ?_
  refine runG02 ?_
  exact ret_p rfl rfl ⟨_, _, es, cl, rfl, ⟨at_alloc_new _ _, at_alloc _ (at_alloc_new _ _), hE⟩, (Frm.of_alloc _ _).alloc _, by simp, Nat.le_refl _⟩

theorem Find_ret {w : World} {t mb : Nat} {es : Array MapEntry} {cl : Nat} {m : List Nd} (h : TreeAt w t mb es cl m) (id : Int) : Rets Tryz.prog 45 [Ptr t, I id] w fun v w' => v = findV m id ∧ Frm0 w w' := by
  obtain ⟨h1, h2, h3⟩ := h
  have k1 := at_alloc (cel (Nd.vals ⟨0, 0, 0, 0, 0, 0, 0⟩) 90) h1
  have k2 := at_alloc (cel (Nd.vals ⟨0, 0, 0, 0, 0, 0, 0⟩) 90) h2
  refine rets_of Tryz.func45 (by kernel_rfl) rfl Tryz.ntmps45 (Nat.le_of_ble_eq_true rfl) ?_
  refine runG02 ?_
  refine s_skip (r_storeN (ny := ⟨0, 0, 0, 0, 0, 0, 0⟩) (s_ok rfl) rfl rfl (at_alloc_new _ _)) wnt_none ?_
  rw [setB_alloc]
  refine runG02 ?_
  refine s_skip (r_storeN (nx := ndOr m id) (ny := ⟨0, 0, 0, 0, 0, 0, 0⟩) (s_ok rfl) rfl rfl (at_alloc _ (at_alloc_new _ _))) wnt_none ?_
  refine runG02 ?_
  refine ret_run (res_c2 rfl (u_ok rfl) rfl (s_ok rfl) rfl (at_setB _ (at_alloc _ (at_alloc_new _ _))) rfl) ⟨?_, ((Frm.of_alloc _ _).alloc _).setB (.inr (Nat.le_refl _)) _⟩
  show Value.tuple [NdV (ndOr m id), .bool (there m id)].toArray = _
  rw [findV, ndOr]
  cases hf : fnd id m with
  | some x => rw [fnd_there.2 ⟨x, hf⟩]; rfl
  | none =>
    cases ht : there m id with
    | false => rfl
    | true => obtain ⟨x, hx⟩ := fnd_there.1 ht; rw [hf] at hx; cases hx
end Go.Proofs.YtbicffldggcdhaaGreatDoor

namespace Go.Proofs.YtbicffldggcdhaaGreatDoor
open Go
variable {m l : List Nd}

theorem perm_nodup (hp : m.Perm l) (hn : (l.map (·.id)).Nodup) : (m.map (·.id)).Nodup := (hp.map _).nodup_iff.2 hn
theorem fnd_perm (hp : m.Perm l) (hn : (l.map (·.id)).Nodup) (id : Int) : fnd id m = fnd id l := by
  cases hl : fnd id l with
  | some x =>
    obtain ⟨hx, he⟩ := fnd_id hl
    have := fnd_mem (perm_nodup hp hn) (hp.mem_iff.2 hx)
    rw [he] at this
    exact this
  | none =>
    cases hm : fnd id m with
    | none => rfl
    | some y =>
      obtain ⟨hy, he⟩ := fnd_id hm
      have := fnd_mem hn (hp.mem_iff.1 hy)
      rw [he, hl] at this
      cases this
theorem there_perm (hp : m.Perm l) (hn : (l.map (·.id)).Nodup) (id : Int) : there m id = there l id := by
  rw [Bool.eq_iff_iff, fnd_there, fnd_there, fnd_perm hp hn]
theorem upAt_const {id : Int} {x : Nd} {f : Nd → Nd} (hn : (m.map (·.id)).Nodup) (hx : fnd id m = some x) : upAt id (fun _ => f x) m = upAt id f m := by
  refine List.map_congr_left (fun y hy => ?_)
  by_cases h : y.id = id
  · have := fnd_mem hn hy
    rw [h, hx] at this
    cases this
    rfl
  · rw [if_neg h, if_neg h]

/-- How many nodes lie above one. -/
def dep (l : List Nd) : Nat → Int → Nat
  | 0, _ => 0
  | n + 1, id => if id = 0 then 0 else dep l n (parOf l id) + 1
theorem dep_stable : ∀ (n : Nat) (id : Int), bel l n id 0 = true → dep l (n + 1) id = dep l n id
  | 0, _, h => by cases h
  | n + 1, id, h => by
    by_cases h0 : id = 0
    · rw [dep, if_pos h0, dep, if_pos h0]
    · rw [bel, if_neg h0, if_neg h0] at h
      rw [dep, if_neg h0, dep_stable n _ h]
      conv => rhs; rw [dep, if_neg h0]
def depth (l : List Nd) (id : Int) : Nat := dep l (l.length + 1) id
theorem Wf.depth_par (h : Wf l) {id : Int} (hi : there l id = true) (h0 : id ≠ 0) : depth l id = depth l (parOf l id) + 1 := by
  unfold depth
  rw [dep_stable l.length (parOf l id) (h.reach (h.par_there hi)), dep, if_neg h0]
def num (v : Value) : Int := match v with | .int _ k => k | _ => 0
end Go.Proofs.YtbicffldggcdhaaGreatDoor

namespace Go.Proofs.YtbicffldggcdhaaGreatDoor
open Go

set_option maxHeartbeats 1000000 in
theorem allowed_ret (e : Ed) (w : World) : Rets Tryz.prog 70 [EdV e] w fun v w' => v = B (!wrongB e) ∧ Frm0 w w' := by
  have fin : ∀ b : Bool, b = !wrongB e → B b = B (!wrongB e) ∧ Frm0 w (w.alloc (cel e.vals 31)) := fun b hb => ⟨by rw [hb], Frm.of_alloc _ _⟩
  have fin3 : ∀ a b c : Bool, (e.kind = 1 ∨ e.kind = 2) → a = decide (0 ≤ e.node ∧ e.node ≤ 1000) → b = decide (0 ≤ e.parent ∧ e.parent ≤ 1000) → c = decide (0 ≤ e.key ∧ e.key ≤ 1000) → (a && b && c) = !wrongB e := fun a b c k ha hb hc => by
    rw [wrong_12 e k, ← ha, ← hb, ← hc]; cases a <;> cases b <;> cases c <;> rfl
  have fin4 : ∀ a b c : Bool, e.kind = 4 → a = decide (0 ≤ e.node ∧ e.node ≤ 1000) → b = decide (0 ≤ e.prop ∧ e.prop ≤ 3) → c = decide (0 ≤ e.value ∧ e.value ≤ 1000000) → (a && b && c) = !wrongB e := fun a b c k ha hb hc => by
    rw [wrong_4 e k, ← ha, ← hb, ← hc]; cases a <;> cases b <;> cases c <;> rfl
  refine rets_of Tryz.func70 (by kernel_rfl) rfl Tryz.ntmps70 (Nat.le_of_ble_eq_true rfl) ?_
  refine runG02 ?_
  cases h1 : decide (e.kind = 1)
  · (try simp only [Bool.not_false]); (try simp only [Bool.not_true])
    refine runG02 ?_
    cases h2 : decide (e.kind = 2)
    · (try simp only [Bool.not_false]); (try simp only [Bool.not_true])
      refine runG02 ?_
      cases h3 : decide (e.kind = 3)
      · (try simp only [Bool.not_false]); (try simp only [Bool.not_true])
        refine runG02 ?_
        cases h4 : decide (e.kind = 4)
        · (try simp only [Bool.not_false]); (try simp only [Bool.not_true])
          refine runG02 ?_
          refine ret_b rfl rfl ?_
          exact fin _ (by rw [wrong_0 e (of_decide_eq_false h1) (of_decide_eq_false h2) (of_decide_eq_false h3) (of_decide_eq_false h4)]; rfl)
        · (try simp only [Bool.not_false]); (try simp only [Bool.not_true])
          refine runG02 ?_
          refine s_callf (upTo_ret _ _ _) rfl wnt_none ?_
          rintro v w1 ⟨rfl, rfl⟩
          refine runG02 ?_
          cases n1 : decide (0 ≤ e.node ∧ e.node ≤ 1000)
          · refine runG02 ?_
            refine ret_b rfl rfl ?_
            exact fin _ (fin4 false _ _ (of_decide_eq_true h4) n1.symm rfl rfl)
          · refine runG02 ?_
            refine s_callf (upTo_ret _ _ _) rfl (by (first | (with_reducible exact wnt_none) | ((with_reducible apply wnt_y); exact rfl; exact rfl; exact rfl; exact rfl; (with_reducible exact rfl)))) ?_
            rintro v w1 ⟨rfl, rfl⟩
            refine runG02 ?_
            cases n2 : decide (0 ≤ e.prop ∧ e.prop ≤ 3)
            · refine runG02 ?_
              refine ret_b rfl rfl ?_
              exact fin _ (fin4 true false _ (of_decide_eq_true h4) n1.symm n2.symm rfl)
            · refine runG02 ?_
              refine s_callf (upTo_ret _ _ _) rfl (by (first | (with_reducible exact wnt_none) | ((with_reducible apply wnt_y); exact rfl; exact rfl; exact rfl; exact rfl; (with_reducible exact rfl)))) ?_
              rintro v w1 ⟨rfl, rfl⟩
              refine runG02 ?_
              refine ret_b rfl rfl ?_
              exact fin _ (fin4 true true _ (of_decide_eq_true h4) n1.symm n2.symm rfl)
      · (try simp only [Bool.not_false]); (try simp only [Bool.not_true])
        refine runG02 ?_
        refine s_callf (upTo_ret _ _ _) rfl wnt_none ?_
        rintro v w1 ⟨rfl, rfl⟩
        refine runG02 ?_
        refine ret_b rfl rfl ?_
        exact fin _ (by rw [wrong_3 e (of_decide_eq_true h3), Bool.not_not])
    · (try simp only [Bool.not_false]); (try simp only [Bool.not_true])
      refine runG02 ?_
      refine s_callf (upTo_ret _ _ _) rfl wnt_none ?_
      rintro v w1 ⟨rfl, rfl⟩
      refine runG02 ?_
      cases n1 : decide (0 ≤ e.node ∧ e.node ≤ 1000)
      · refine runG02 ?_
        refine ret_b rfl rfl ?_
        exact fin _ (fin3 false _ _ (.inr (of_decide_eq_true h2)) n1.symm rfl rfl)
      · refine runG02 ?_
        refine s_callf (upTo_ret _ _ _) rfl (by (first | (with_reducible exact wnt_none) | ((with_reducible apply wnt_y); exact rfl; exact rfl; exact rfl; exact rfl; (with_reducible exact rfl)))) ?_
        rintro v w1 ⟨rfl, rfl⟩
        refine runG02 ?_
        cases n2 : decide (0 ≤ e.parent ∧ e.parent ≤ 1000)
        · refine runG02 ?_
          refine ret_b rfl rfl ?_
          exact fin _ (fin3 true false _ (.inr (of_decide_eq_true h2)) n1.symm n2.symm rfl)
        · refine runG02 ?_
          refine s_callf (upTo_ret _ _ _) rfl (by (first | (with_reducible exact wnt_none) | ((with_reducible apply wnt_y); exact rfl; exact rfl; exact rfl; exact rfl; (with_reducible exact rfl)))) ?_
          rintro v w1 ⟨rfl, rfl⟩
          refine runG02 ?_
          refine ret_b rfl rfl ?_
          exact fin _ (fin3 true true _ (.inr (of_decide_eq_true h2)) n1.symm n2.symm rfl)
  · (try simp only [Bool.not_false]); (try simp only [Bool.not_true])
    refine runG02 ?_
    refine s_callf (upTo_ret _ _ _) rfl wnt_none ?_
    rintro v w1 ⟨rfl, rfl⟩
    refine runG02 ?_
    cases n1 : decide (0 ≤ e.node ∧ e.node ≤ 1000)
    · refine runG02 ?_
      refine ret_b rfl rfl ?_
      exact fin _ (fin3 false _ _ (.inl (of_decide_eq_true h1)) n1.symm rfl rfl)
    · refine runG02 ?_
      refine s_callf (upTo_ret _ _ _) rfl (by (first | (with_reducible exact wnt_none) | ((with_reducible apply wnt_y); exact rfl; exact rfl; exact rfl; exact rfl; (with_reducible exact rfl)))) ?_
      rintro v w1 ⟨rfl, rfl⟩
      refine runG02 ?_
      cases n2 : decide (0 ≤ e.parent ∧ e.parent ≤ 1000)
      · refine runG02 ?_
        refine ret_b rfl rfl ?_
        exact fin _ (fin3 true false _ (.inl (of_decide_eq_true h1)) n1.symm n2.symm rfl)
      · refine runG02 ?_
        refine s_callf (upTo_ret _ _ _) rfl (by (first | (with_reducible exact wnt_none) | ((with_reducible apply wnt_y); exact rfl; exact rfl; exact rfl; exact rfl; (with_reducible exact rfl)))) ?_
        rintro v w1 ⟨rfl, rfl⟩
        refine runG02 ?_
        refine ret_b rfl rfl ?_
        exact fin _ (fin3 true true _ (.inl (of_decide_eq_true h1)) n1.symm n2.symm rfl)

theorem inBranch_ret {w : World} {t mb : Nat} {es : Array MapEntry} {cl : Nat} {m l : List Nd} (h : TreeAt w t mb es cl m) (hp : m.Perm l) (hw : Wf l) (top id : Int) (hid : there l id = true) :
    Rets Tryz.prog 102 [Ptr t, I top, I id] w fun v w' => v = B (below l id top) ∧ w = w' := by
  obtain ⟨h1, h2, h3⟩ := h
  refine rets_of Tryz.func102 (by kernel_rfl) rfl Tryz.ntmps102 (Nat.le_of_ble_eq_true rfl) ?_
  refine runG02 ?_
  refine lp (fun env w' => w' = w ∧ ∃ env0, ∃ cur : Int, env = setL env0 [(0, Ptr t), (1, I top), (2, I cur)] ∧ there l cur = true ∧ below l cur top = below l id top) (fun env _ => depth l (num (env 2))) ?_ ?_
  · exact ⟨rfl, _, id, fixL ⟨rfl, rfl, rfl, trivial⟩, hid, rfl⟩
  · rintro env w' ⟨rfl, env0, cur, rfl, hc, hb⟩
    by_cases he : cur = top
    · refine runG02 ?_
      refine ret_b rfl rfl ⟨?_, rfl⟩
      rw [← hb, he, below_refl]
    · by_cases h0 : cur = 0
      · refine runG02 ?_
        refine ret_b rfl rfl ⟨?_, rfl⟩
        subst h0
        rw [← hb, below_root l (fun e => he e.symm)]
      · refine runG02 ?_
        obtain ⟨x, hx⟩ := fnd_there.1 hc
        have hpar : (ndOr m cur).par = parOf l cur := by rw [ndOr, fnd_perm hp hw.nodup, hx, parOf, hx]; rfl
        refine s_val (r_fieldV (v := I (ndOr m cur).par) (u_ok rfl) rfl rfl (u_ok rfl) rfl rfl) wnt_none ?_
        refine runG02 ?_
        refine ⟨_, rfl, ⟨rfl, _, (ndOr m cur).par, fixL ⟨rfl, rfl, rfl, trivial⟩, ?_, ?_⟩, ?_⟩
        · rw [hpar]; exact hw.par_there hc
        · rw [hpar, ← hw.step hc h0 he, hb]
        · show depth l (ndOr m cur).par < depth l cur
          rw [hpar, hw.depth_par hc h0]
          exact Nat.lt_succ_self _
end Go.Proofs.YtbicffldggcdhaaGreatDoor

namespace Go.Proofs.YtbicffldggcdhaaGreatDoor
open Go

/-- A bare reason: none, or the one of that number. -/
def RsnIs (ea : List Addr) (v : Value) (n : Nat) : Prop := (n = 0 ∧ v = .nilIface) ∨ (0 < n ∧ ∃ a, v = errV a ∧ ea[n - 1]? = some a)
/-- The six reasons that a tree tells. -/
structure Err6 (w : World) (ea : List Addr) : Prop where
  one : ∀ (i g : Nat), i < 6 → errG[i]? = some g → ∃ a ty k, ea[i]? = some a ∧ At w g (.cells [errV a].toArray ty k)
theorem Err6.frm0 {w w' : World} {ea : List Addr} (h : Err6 w ea) (f : Frm0 w w') : Err6 w' ea :=
  ⟨fun i g hi hg => let ⟨a, ty, k, h1, h2⟩ := h.one i g hi hg; ⟨a, ty, k, h1, f.at0 h2⟩⟩
theorem Errs.six {w : World} {ea : List Addr} (hE : Errs w ea) : Err6 w ea := by
  refine ⟨fun i g hi hg => ?_⟩
  have hl : i < ea.length := by rw [hE.len]; omega
  obtain ⟨⟨ty, k, h⟩, _⟩ := hE.one i g ea[i] hg (List.getElem?_eq_getElem hl)
  exact ⟨ea[i], ty, k, List.getElem?_eq_getElem hl, h⟩
theorem err_at {w : World} {ea : List Addr} (hE : Err6 w ea) (i g : Nat) (hg : errG[i]? = some g) (hi : i < 6 := by decide) : ∃ a ty k, ea[i]? = some a ∧ At w g (.cells [errV a].toArray ty k) := hE.one i g hi hg
theorem rsn {ea : List Addr} {a : Addr} {n : Nat} (hn : 0 < n) (ha : ea[n - 1]? = some a) : RsnIs ea (errV a) n := .inr ⟨hn, a, rfl, ha⟩
/-- What an edit leaves: the tree in the same blocks. -/
def TreeTo (w' : World) (t mb : Nat) (l : List Nd) : Prop := ∃ es cl m, TreeAt w' t mb es cl m ∧ m.Perm l
abbrev DoneL (ea : List Addr) (w w' : World) (t mb : Nat) (l : List Nd) (e : Ed) (v : Value) : Prop := RsnIs ea v (refused l e) ∧ TreeTo w' t mb (applyL l e) ∧ Frm (fun b => b = mb) w w'
theorem frm_mb {w w1 : World} {mb : Nat} (h : Frm0 w w1) (o : Obj) : Frm (fun b => b = mb) w (setB w1.drew mb o) := ((h.mono (T := fun b => b = mb) (fun _ h => h.elim)).drew).setB (b := mb) (.inl rfl) o
theorem set_prop {x : Nd} {p v : Int} (h : 0 ≤ p ∧ p ≤ 3) : x.vals.set (0 + 3 + p.toNat * 1) (I v) = (setProp x p v).vals := by
  have : p = 0 ∨ p = 1 ∨ p = 2 ∨ p = 3 := by omega
  rcases this with h | h | h | h <;> subst h <;> rfl
theorem apply_same {l : List Nd} {e : Ed} {n : Nat} (h : refused l e = n + 1) : applyL l e = l := by rw [applyL, if_pos (by omega)]
theorem done_no {ea : List Addr} {a : Addr} {w w' : World} {t mb : Nat} {es : Array MapEntry} {cl : Nat} {m l : List Nd} {e : Ed} {n : Nat} (h : TreeAt w t mb es cl m) (hp : m.Perm l) (hf : Frm0 w w') (hr : refused l e = n + 1) (ha : ea[n]? = some a) : DoneL ea w w' t mb l e (errV a) := by
  refine ⟨?_, ⟨es, cl, m, h.frm0 hf, ?_⟩, hf.mono (fun _ h => h.elim)⟩
  · rw [hr]
    exact rsn (Nat.succ_pos _) ha
  · rw [apply_same hr]
    exact hp

set_option maxHeartbeats 1000000 in
theorem create_ret {w : World} {t mb : Nat} {es : Array MapEntry} {cl : Nat} {m l : List Nd} {ea : List Addr} (h : TreeAt w t mb es cl m) (hp : m.Perm l) (hw : Wf l) (hE : Err6 w ea) (e : Ed) (hok : wrongB e = false) (k : e.kind = 1) :
    Rets Tryz.prog 71 [Ptr t, EdV e] w fun v w' => DoneL ea w w' t mb l e v := by
  have htm := at_lt h.head
  have hmm := at_lt h.row
  refine rets_of Tryz.func71 (by kernel_rfl) rfl Tryz.ntmps71 (Nat.le_of_ble_eq_true rfl) ?_
  refine runG02 ?_
  refine s_callf (has_ret (h.frm0 (Frm.of_alloc _ _)) _) rfl wnt_none ?_
  rintro v w1 ⟨rfl, hf1⟩
  rw [there_perm hp hw.nodup]
  have hbox1 : At w1 w.heap.size (cel e.vals 31) := hf1.at0 (at_alloc_new _ _)
  have hF1 : Frm0 w w1 := (Frm.of_alloc _ _).trans0 hf1
  clear hf1
  cases a : there l e.node
  · refine runG02 ?_
    refine s_callf (has_ret (h.frm0 hF1) _) rfl wnt_none ?_
    rintro v w2 ⟨rfl, hf2⟩
    rw [there_perm hp hw.nodup]
    have hbox2 := hf2.at0 hbox1
    have hF2 : Frm0 w w2 := hF1.trans0 hf2
    clear hf2 hbox1
    cases b : there l e.parent
    · (try simp only [Bool.not_false]); (try simp only [Bool.not_true])
      obtain ⟨ad, ty, kk, ha, hA⟩ := err_at (hE.frm0 hF2) 2 2 rfl
      refine runG02 ?_
      exact ret_if rfl rfl (done_no h hp hF2 (rf1_par hok k a b) ha)
    · (try simp only [Bool.not_false]); (try simp only [Bool.not_true])
      refine runG02 ?_
      refine s_callf (Len_ret (h.frm0 hF2)) rfl wnt_none ?_
      rintro v w3 ⟨rfl, rfl⟩
      rw [hp.length_eq]
      by_cases c : 32 ≤ l.length
      · obtain ⟨ad, ty, kk, ha, hA⟩ := err_at (hE.frm0 hF2) 4 3 rfl
        refine runG02 ?_
        exact ret_if rfl rfl (done_no h hp hF2 (rf1_full hok k a b c) ha)
      · have h2 := h.frm0 hF2
        have hh := h2.head
        have hrow := h2.row
        refine runG02 ?_
        refine w_drawn ((0, false) :: (1, false) :: (2, false) :: (3, false) :: (4, false) :: (5, false) :: (6, false) :: (7, false) :: (8, false) :: (9, false) :: (10, false) :: (11, false) :: (12, false) :: []) [13] (fun wq => Frm0 w2 wq) mixed (by kernel_rfl) ?_ ?_
        · exact Frm.of_drew _
        · refine runG02 ?_
          refine x_q rfl (fun wq hq => r_build rfl (bld_node _ _ _ wq)) wnt_none ?_
          obtain ⟨es', cl', hu, hE'⟩ := upd_run (x := ⟨e.node, e.parent, e.key, 0, 0, 0, 0⟩) (P := Tryz.prog) (w := w2.drew) (ty := 91) (id := e.node) (u_ok rfl) (u_ok rfl) (at_drew hrow) h.ents (perm_nodup hp hw.nodup) rfl
          refine runG02 ?_
          refine y_skip rfl (r_upd rfl rfl rfl hu) wnt_none ?_
          refine runG02 ?_
          refine ret_ni rfl rfl ⟨.inl ⟨rf1_ok hok k a b c, rfl⟩, ⟨es', cl', _, ⟨at_setB_ne _ h.apart.symm (at_drew hh), at_setB _ (at_drew hrow), hE'⟩, ?_⟩, frm_mb hF2 _⟩
          have h9 : there m e.node = false := by rw [there_perm hp hw.nodup, a]
          rw [applyL, if_neg (by rw [rf1_ok hok k a b c]; simp), if_pos k, putM]
          simp only [h9, Bool.false_eq_true, if_false]
          exact hp.append_right _
  · obtain ⟨ad, ty, kk, ha, hA⟩ := err_at (hE.frm0 hF1) 3 1 rfl
    refine runG02 ?_
    exact ret_if rfl rfl (done_no h hp hF1 (rf1_ex hok k a) ha)

/-- A node of the map, changed and put back. -/
theorem put_up {m l : List Nd} {id : Int} {x : Nd} {f : Nd → Nd} (hp : m.Perm l) (hn : (l.map (·.id)).Nodup) (hx : fnd id l = some x) (hf : (f x).id = id) : (putM (f x) m).Perm (upAt id f l) := by
  have hm : fnd id m = some x := by rw [fnd_perm hp hn, hx]
  have ht : there m (f x).id = true := by rw [hf]; exact fnd_there.2 ⟨x, hm⟩
  rw [putM, if_pos ht, hf, upAt_const (perm_nodup hp hn) hm]
  exact hp.map _

set_option maxHeartbeats 1000000 in
theorem set_ret {w : World} {t mb : Nat} {es : Array MapEntry} {cl : Nat} {m l : List Nd} {ea : List Addr} (h : TreeAt w t mb es cl m) (hp : m.Perm l) (hw : Wf l) (hE : Err6 w ea) (e : Ed) (hok : wrongB e = false) (k : e.kind = 4) :
    Rets Tryz.prog 74 [Ptr t, EdV e] w fun v w' => DoneL ea w w' t mb l e v := by
  have htm := at_lt h.head
  have hmm := at_lt h.row
  have hpr := prop_of hok k
  refine rets_of Tryz.func74 (by kernel_rfl) rfl Tryz.ntmps74 (Nat.le_of_ble_eq_true rfl) ?_
  refine runG02 ?_
  refine s_callf (has_ret (h.frm0 (Frm.of_alloc _ _)) _) rfl wnt_none ?_
  rintro v w1 ⟨rfl, hf1⟩
  rw [there_perm hp hw.nodup]
  have hbox1 : At w1 w.heap.size (cel e.vals 31) := hf1.at0 (at_alloc_new _ _)
  have hF1 : Frm0 w w1 := (Frm.of_alloc _ _).trans0 hf1
  clear hf1
  have hs1 := hF1.size
  cases a : there l e.node
  · (try simp only [Bool.not_false]); (try simp only [Bool.not_true])
    obtain ⟨ad, ty, kk, ha, hA⟩ := err_at (hE.frm0 hF1) 2 2 rfl
    refine runG02 ?_
    exact ret_if rfl rfl (done_no h hp hF1 (rf_node hok (by omega) (.inl k) a) ha)
  · (try simp only [Bool.not_false]); (try simp only [Bool.not_true])
    obtain ⟨x, hx⟩ := fnd_there.1 a
    have hnd : ndOr m e.node = x := by rw [ndOr, fnd_perm hp hw.nodup, hx]; rfl
    have h1 := h.frm0 hF1
    have hh := h1.head
    have hrow := h1.row
    have hents := h1.ents
    refine runG02 ?_
    refine w_drawn [(0, false), (1, false), (2, false), (3, false), (4, false), (5, false), (6, false), (7, true)] [8] (fun wq => Frm0 w1 wq) mixed (by kernel_rfl) ?_ ?_
    · exact Frm.of_drew _
    · refine runG02 ?_
      refine x_val rfl (r_allocA (z_ok rfl)) wnt_none ((Frm.of_drew w1).alloc _) ?_
      refine runG02 ?_
      refine y_skip rfl (r_storeN (nx := ndOr m e.node) (ny := ⟨0, 0, 0, 0, 0, 0, 0⟩) (s_ok rfl) rfl rfl (at_alloc_new _ _)) wnt_none ?_
      rw [setB_alloc, hnd]
      have hc2 := at_alloc_new w1.drew (cel x.vals 90)
      have hF2 : Frm0 w1 (w1.drew.alloc (cel x.vals 90)) := (Frm.of_drew w1).alloc _
      generalize w1.drew.alloc (cel x.vals 90) = w2 at *
      have hbox2 := hF2.at0 hbox1
      refine runG02 ?_
      refine s_skip (r_store_i (s_ok rfl) rfl rfl hc2 (by simp [Nd.vals]; omega)) wnt_none ?_
      rw [set_prop hpr]
      have hne : ∀ c, c < w1.heap.size → w1.drew.heap.size ≠ c := fun c hc e => by have : w1.heap.size = c := e; omega
      have hc3 := at_setB (cel (setProp x e.prop e.value).vals 90) hc2
      have hF3 : Frm0 w (setB w2 w1.drew.heap.size (cel (setProp x e.prop e.value).vals 90)) := (hF1.trans0 hF2).setB (.inr hs1) _
      have hbox3 := at_setB_ne (cel (setProp x e.prop e.value).vals 90) (hne _ (at_lt hbox1)) hbox2
      generalize setB w2 w1.drew.heap.size (cel (setProp x e.prop e.value).vals 90) = w3 at *
      have h3 := h.frm0 hF3
      have hh3 := h3.head
      have hrow3 := h3.row
      refine runG02 ?_
      refine w_drawn [(0, false), (1, false), (2, false), (3, false), (4, false), (5, false), (6, false)] [7] (fun wq => Frm0 w3 wq) mixed (by kernel_rfl) ?_ ?_
      · exact Frm.of_drew _
      · refine runG02 ?_
        obtain ⟨es', cl', hu, hE'⟩ := upd_run (x := setProp x e.prop e.value) (P := Tryz.prog) (w := w3.drew) (ty := 91) (id := e.node) (u_ok rfl) (u_ok rfl) (at_drew hrow3) h.ents (perm_nodup hp hw.nodup) (by rw [(setProp_id x e.prop e.value).1]; exact (fnd_id hx).2)
        refine y_skip rfl (r_upd rfl rfl rfl hu) wnt_none ?_
        refine runG02 ?_
        have hr0 := rf34_ok hok (.inr k) (.inl k) a
        refine ret_ni rfl rfl ⟨.inl ⟨hr0, rfl⟩, ⟨es', cl', _, ⟨at_setB_ne _ h.apart.symm (at_drew hh3), at_setB _ (at_drew hrow3), hE'⟩, ?_⟩, frm_mb hF3 _⟩
        rw [applyL, if_neg (by rw [hr0]; simp), if_neg (by omega), if_neg (by omega), if_pos k]
        exact put_up (f := fun y => setProp y e.prop e.value) hp hw.nodup hx (by rw [(setProp_id x e.prop e.value).1]; exact (fnd_id hx).2)
end Go.Proofs.YtbicffldggcdhaaGreatDoor

namespace Go.Proofs.YtbicffldggcdhaaGreatDoor
open Go

theorem frm_own (w : World) (c : Nat) (o : Obj) : Frm (fun b => b = c) w (setB w.drew c o) := (Frm.of_drew (S := fun b => b = c) w).setB (b := c) (.inl rfl) o
set_option maxHeartbeats 1000000 in
theorem move_ret {w : World} {t mb : Nat} {es : Array MapEntry} {cl : Nat} {m l : List Nd} {ea : List Addr} (h : TreeAt w t mb es cl m) (hp : m.Perm l) (hw : Wf l) (hE : Err6 w ea) (e : Ed) (hok : wrongB e = false) (k : e.kind = 2) :
    Rets Tryz.prog 72 [Ptr t, EdV e] w fun v w' => DoneL ea w w' t mb l e v := by
  have htm := at_lt h.head
  have hmm := at_lt h.row
  have hF0 : Frm0 w (w.alloc (cel e.vals 31)) := Frm.of_alloc _ _
  by_cases hz : e.node = 0
  · obtain ⟨ad, ty, kk, ha, hA⟩ := err_at (hE.frm0 hF0) 1 4 rfl
    refine rets_of Tryz.func72 (by kernel_rfl) rfl Tryz.ntmps72 (Nat.le_of_ble_eq_true rfl) ?_
    refine runG02 ?_
    exact ret_if rfl rfl (done_no h hp hF0 (rf23_root hok (.inl k) hz) ha)
  · refine rets_of Tryz.func72 (by kernel_rfl) rfl Tryz.ntmps72 (Nat.le_of_ble_eq_true rfl) ?_
    refine runG02 ?_
    refine s_callf (has_ret (h.frm0 hF0) _) rfl wnt_none ?_
    rintro v w1 ⟨rfl, hf1⟩
    rw [there_perm hp hw.nodup]
    have hbox1 : At w1 w.heap.size (cel e.vals 31) := hf1.at0 (at_alloc_new _ _)
    have hF1 : Frm0 w w1 := hF0.trans0 hf1
    clear hf1
    cases a : there l e.node
    · (try simp only [Bool.not_false]); (try simp only [Bool.not_true])
      obtain ⟨ad, ty, kk, ha, hA⟩ := err_at (hE.frm0 hF1) 2 2 rfl
      refine runG02 ?_
      exact ret_if rfl rfl (done_no h hp hF1 (rf_node hok (by omega) (.inr hz) a) ha)
    · (try simp only [Bool.not_false]); (try simp only [Bool.not_true])
      refine runG02 ?_
      refine s_callf (has_ret (h.frm0 hF1) _) rfl (by (first | (with_reducible exact wnt_none) | ((with_reducible apply wnt_y); exact rfl; exact rfl; exact rfl; exact rfl; (with_reducible exact rfl)))) ?_
      rintro v w2 ⟨rfl, hf2⟩
      rw [there_perm hp hw.nodup]
      have hbox2 := hf2.at0 hbox1
      have hF2 : Frm0 w w2 := hF1.trans0 hf2
      clear hf2 hbox1
      cases b : there l e.parent
      · (try simp only [Bool.not_false]); (try simp only [Bool.not_true])
        obtain ⟨ad, ty, kk, ha, hA⟩ := err_at (hE.frm0 hF2) 2 2 rfl
        refine runG02 ?_
        exact ret_if rfl rfl (done_no h hp hF2 (rf2_par hok k hz a b) ha)
      · (try simp only [Bool.not_false]); (try simp only [Bool.not_true])
        refine runG02 ?_
        refine s_callf (inBranch_ret (h.frm0 hF2) hp hw _ _ b) rfl wnt_none ?_
        rintro v w3 ⟨rfl, rfl⟩
        cases c : below l e.parent e.node
        · obtain ⟨x, hx⟩ := fnd_there.1 a
          have hnd : ndOr m e.node = x := by rw [ndOr, fnd_perm hp hw.nodup, hx]; rfl
          have h2 := h.frm0 hF2
          have hh := h2.head
          have hrow := h2.row
          have hents := h2.ents
          have hs2 := hF2.size
          refine runG02 ?_
          refine w_drawn [(0, false), (1, false), (2, false), (3, false), (4, false), (5, false), (6, false), (7, true)] [8] (fun wq => Frm0 w2 wq) mixed (by kernel_rfl) ?_ ?_
          · exact Frm.of_drew _
          · refine runG02 ?_
            refine x_val rfl (r_allocA (z_ok rfl)) wnt_none ((Frm.of_drew w2).alloc _) ?_
            refine runG02 ?_
            refine y_skip rfl (r_storeN (nx := ndOr m e.node) (ny := ⟨0, 0, 0, 0, 0, 0, 0⟩) (s_ok rfl) rfl rfl (at_alloc_new _ _)) wnt_none ?_
            rw [setB_alloc, hnd]
            have hc3 := at_alloc_new w2.drew (cel x.vals 90)
            have hF3 : Frm0 w2 (w2.drew.alloc (cel x.vals 90)) := (Frm.of_drew w2).alloc _
            generalize w2.drew.alloc (cel x.vals 90) = w3 at *
            have hbox3 := hF3.at0 hbox2
            refine runG02 ?_
            refine w_drawn [(0, false), (1, false), (2, false), (3, false), (4, false), (5, true), (6, false)] [7] (fun wq => Frm (fun b => b = w2.drew.heap.size) w3 wq) mixed (by kernel_rfl) ?_ ?_
            · exact Frm.of_drew _
            · have hne : ∀ c, c < w2.heap.size → ¬ c = w2.drew.heap.size := fun c hc e => by have : c = w2.heap.size := e; omega
              have hnb := hne _ (at_lt hbox2)
              refine runG02 ?_
              refine x_skip rfl (r_store_i (s_ok rfl) rfl rfl (at_drew hc3) (by simp [Nd.vals])) wnt_none (frm_own w3 _ _) ?_
              refine runG02 ?_
              refine y_skip rfl (r_store_i (s_ok rfl) rfl rfl (at_setB _ (at_drew hc3)) (by simp [Nd.vals])) wnt_none ?_
              rw [setB_setB]
              have e1 : (x.vals.set (0 + 1) (I e.parent)).set (0 + 2) (I e.key) = Nd.vals { x with par := e.parent, key := e.key } := rfl
              rw [e1]
              generalize hy : ({ x with par := e.parent, key := e.key } : Nd) = y at *
              have hyi : y.id = e.node := by rw [← hy]; exact (fnd_id hx).2
              have hc4 := at_setB (cel y.vals 90) (at_drew hc3)
              have hF4 : Frm0 w (setB w3.drew w2.drew.heap.size (cel y.vals 90)) := ((hF2.trans0 hF3).drew).setB (.inr hs2) _
              have hbox4 := at_setB_ne (cel y.vals 90) (fun e => hnb e.symm) (at_drew hbox3)
              generalize setB w3.drew w2.drew.heap.size (cel y.vals 90) = w4 at *
              have h4 := h.frm0 hF4
              have hh4 := h4.head
              have hrow4 := h4.row
              refine runG02 ?_
              refine w_drawn [(0, false), (1, false), (2, false), (3, false), (4, false), (5, false), (6, false)] [7] (fun wq => Frm0 w4 wq) mixed (by kernel_rfl) ?_ ?_
              · exact Frm.of_drew _
              · refine runG02 ?_
                obtain ⟨es', cl', hu, hE'⟩ := upd_run (x := y) (P := Tryz.prog) (w := w4.drew) (ty := 91) (id := e.node) (u_ok rfl) (u_ok rfl) (at_drew hrow4) h.ents (perm_nodup hp hw.nodup) hyi
                refine y_skip rfl (r_upd rfl rfl rfl hu) wnt_none ?_
                refine runG02 ?_
                have hr0 := rf2_ok hok k hz a b c
                refine ret_ni rfl rfl ⟨.inl ⟨hr0, rfl⟩, ⟨es', cl', _, ⟨at_setB_ne _ h.apart.symm (at_drew hh4), at_setB _ (at_drew hrow4), hE'⟩, ?_⟩, frm_mb hF4 _⟩
                rw [applyL, if_neg (by rw [hr0]; simp), if_neg (by omega), if_pos k, ← hy]
                exact put_up (f := fun x => { x with par := e.parent, key := e.key }) hp hw.nodup hx (fnd_id hx).2
        · obtain ⟨ad, ty, kk, ha, hA⟩ := err_at (hE.frm0 hF2) 5 5 rfl
          refine runG02 ?_
          exact ret_if rfl rfl (done_no h hp hF2 (rf2_cyc hok k hz a b c) ha)
end Go.Proofs.YtbicffldggcdhaaGreatDoor

namespace Go.Proofs.YtbicffldggcdhaaGreatDoor
open Go

def sortNd_ren : Go.Shelf.Ren := ⟨fun | 6 => 122 | 15 => 127 | 14 => 126 | 28 => 138 | 29 => 139 | 20 => 130 | 21 => 131 | 22 => 132 | 23 => 133 | 24 => 134 | 25 => 135 | 26 => 136 | 27 => 137 | 46 => 141 | 47 => 142 | 48 => 143 | 49 => 144 | 50 => 145 | 57 => 146 | n => n, fun | 22 => 154 | 24 => 90 | 25 => 198 | 3 => 3 | 39 => 205 | 0 => 0 | 53 => 224 | 55 => 226 | 4 => 4 | 46 => 217 | 45 => 216 | 50 => 221 | 5 => 5 | 9 => 9 | 66 => 227 | 70 => 231 | 76 => 233 | 77 => 234 | n => n, fun | n => n⟩
theorem sortNd : Go.Proofs.SlLaysF0.n6 Tryz.prog sortNd_ren := {
  mixed := by kernel_rfl,
  f6 := ⟨Tryz.f122.name, by decide, Tryz.func122.trans (congrArg some (by kernel_rfl))⟩,
  f14 := ⟨Tryz.f126.name, by decide, Tryz.func126.trans (congrArg some (by kernel_rfl))⟩,
  f15 := Tryz.func127.trans (congrArg some (by kernel_rfl)),
  f20 := ⟨Tryz.f130.name, by decide, Tryz.func130.trans (congrArg some (by kernel_rfl))⟩,
  f21 := ⟨Tryz.f131.name, by decide, Tryz.func131.trans (congrArg some (by kernel_rfl))⟩,
  f22 := ⟨Tryz.f132.name, by decide, Tryz.func132.trans (congrArg some (by kernel_rfl))⟩,
  f23 := ⟨Tryz.f133.name, by decide, Tryz.func133.trans (congrArg some (by kernel_rfl))⟩,
  f24 := ⟨Tryz.f134.name, by decide, Tryz.func134.trans (congrArg some (by kernel_rfl))⟩,
  f25 := ⟨Tryz.f135.name, by decide, Tryz.func135.trans (congrArg some (by kernel_rfl))⟩,
  f26 := ⟨Tryz.f136.name, by decide, Tryz.func136.trans (congrArg some (by kernel_rfl))⟩,
  f27 := ⟨Tryz.f137.name, by decide, Tryz.func137.trans (congrArg some (by kernel_rfl))⟩,
  f28 := Tryz.func138.trans (congrArg some (by kernel_rfl)),
  f29 := Tryz.func139.trans (congrArg some (by kernel_rfl)),
  f46 := ⟨Tryz.f141.name, by decide, Tryz.func141.trans (congrArg some (by kernel_rfl))⟩,
  f47 := Tryz.func142.trans (congrArg some (by kernel_rfl)),
  f48 := Tryz.func143.trans (congrArg some (by kernel_rfl)),
  f49 := ⟨Tryz.f144.name, by decide, Tryz.func144.trans (congrArg some (by kernel_rfl))⟩,
  f50 := ⟨Tryz.f145.name, by decide, Tryz.func145.trans (congrArg some (by kernel_rfl))⟩,
  f57 := ⟨Tryz.f146.name, by decide, Tryz.func146.trans (congrArg some (by kernel_rfl))⟩,
  t0 := Tryz.underlying0,
  a0 := Tryz.isAgg0,
  z0 := Tryz.sizeOf0,
  v0 := Tryz.zeroValue0,
  t3 := Tryz.underlying3,
  a3 := Tryz.isAgg3,
  z3 := Tryz.sizeOf3,
  v3 := Tryz.zeroValue3,
  t4 := Tryz.underlying4,
  a4 := Tryz.isAgg4,
  z4 := Tryz.sizeOf4,
  v4 := Tryz.zeroValue4,
  t5 := Tryz.underlying5,
  a5 := Tryz.isAgg5,
  z5 := Tryz.sizeOf5,
  v5 := Tryz.zeroValue5,
  t9 := Tryz.underlying9,
  a9 := Tryz.isAgg9,
  z9 := Tryz.sizeOf9,
  v9 := Tryz.zeroValue9,
  t22 := Tryz.underlying154,
  a22 := Tryz.isAgg154,
  z22 := Tryz.sizeOf154,
  v22 := Tryz.zeroValue154,
  t25 := Tryz.underlying198,
  a25 := Tryz.isAgg198,
  z25 := Tryz.sizeOf198,
  v25 := Tryz.zeroValue198,
  t39 := Tryz.underlying205,
  a39 := Tryz.isAgg205,
  z39 := Tryz.sizeOf205,
  v39 := Tryz.zeroValue205,
  t45 := Tryz.underlying216,
  a45 := Tryz.isAgg216,
  z45 := Tryz.sizeOf216,
  v45 := Tryz.zeroValue216,
  t46 := Tryz.underlying217,
  a46 := Tryz.isAgg217,
  z46 := Tryz.sizeOf217,
  v46 := Tryz.zeroValue217,
  t50 := Tryz.underlying221,
  a50 := Tryz.isAgg221,
  z50 := Tryz.sizeOf221,
  v50 := Tryz.zeroValue221,
  t53 := Tryz.underlying224,
  a53 := Tryz.isAgg224,
  z53 := Tryz.sizeOf224,
  v53 := Tryz.zeroValue224,
  t55 := Tryz.underlying226,
  a55 := Tryz.isAgg226,
  z55 := Tryz.sizeOf226,
  v55 := Tryz.zeroValue226,
  t66 := Tryz.underlying227,
  a66 := Tryz.isAgg227,
  z66 := Tryz.sizeOf227,
  v66 := Tryz.zeroValue227,
  t70 := Tryz.underlying231,
  a70 := Tryz.isAgg231,
  z70 := Tryz.sizeOf231,
  v70 := Tryz.zeroValue231,
  t76 := Tryz.underlying233,
  a76 := Tryz.isAgg233,
  z76 := Tryz.sizeOf233,
  v76 := Tryz.zeroValue233,
  t77 := Tryz.underlying234,
  a77 := Tryz.isAgg234,
  z77 := Tryz.sizeOf234,
  v77 := Tryz.zeroValue234 }

/-- How two numbers stand to each other. -/
def cmpI (a b : Int) : Int := if a < b then -1 else if b < a then 1 else 0
theorem isNaN_ret (a : Int) (w : World) : Rets Tryz.prog 140 [I a] w fun v w' => v = B false ∧ w = w' := by
  refine rets_of Tryz.func140 (by kernel_rfl) rfl Tryz.ntmps140 (Nat.le_of_ble_eq_true rfl) ?_
  refine runG02 ?_
  exact ret_b rfl rfl ⟨rfl, rfl⟩
theorem Compare_ret (a b : Int) (w : World) : Rets Tryz.prog 129 [I a, I b] w fun v w' => v = I (cmpI a b) ∧ w = w' := by
  refine rets_of Tryz.func129 (by kernel_rfl) rfl Tryz.ntmps129 (Nat.le_of_ble_eq_true rfl) ?_
  refine runG02 ?_
  refine s_callf (isNaN_ret a w) rfl wnt_none ?_
  rintro v w1 ⟨rfl, rfl⟩
  refine runG02 ?_
  refine s_callf (isNaN_ret b w) rfl wnt_none ?_
  rintro v w1 ⟨rfl, rfl⟩
  by_cases h : a < b
  · refine runG02 ?_
    exact ret_i rfl rfl ⟨by rw [cmpI, if_pos h], rfl⟩
  · by_cases h2 : b < a
    · refine runG02 ?_
      exact ret_i rfl rfl ⟨by rw [cmpI, if_neg h, if_pos h2], rfl⟩
    · refine runG02 ?_
      exact ret_i rfl rfl ⟨by rw [cmpI, if_neg h, if_neg h2], rfl⟩
theorem Or_ret {a b : Int} {w : World} {s c e : Nat} (hs : At w s (cel [I a, I b] e)) : Rets Tryz.prog 128 [.slice (some ⟨s, 0, none⟩) 2 c] w fun v w' => v = I (if a ≠ 0 then a else b) ∧ w = w' := by
  refine rets_of Tryz.func128 (by kernel_rfl) rfl Tryz.ntmps128 (Nat.le_of_ble_eq_true rfl) ?_
  refine runG02 ?_
  refine lp (fun env w' => ∃ env0, ∃ (j : Nat), env = setL env0 [(3, I 0), (6, .slice (some ⟨s, 0, none⟩) 2 c), (7, I 2), (8, I j)] ∧ w = w' ∧ j ≤ 2 ∧ (1 ≤ j → a = 0) ∧ (2 ≤ j → b = 0)) (fun env _ => 2 - cnt (env 8)) ?_ ?_
  · exact ⟨_, 0, fixL ⟨rfl, rfl, rfl, rfl, trivial⟩, rfl, by omega, by omega, by omega⟩
  · rintro env w1 ⟨env0, j, rfl, rfl, hj, ha, hb⟩
    by_cases hlt : j < 2
    · obtain ⟨x, hx, hx1, hx2⟩ : ∃ x : Int, [I a, I b][0 + (j : Int).toNat * 1]? = some (I x) ∧ (x ≠ 0 → I x = I (if a ≠ 0 then a else b)) ∧ (x = 0 → (1 ≤ j + 1 → a = 0) ∧ (2 ≤ j + 1 → b = 0)) := by
        rcases (show j = 0 ∨ j = 1 by omega) with rfl | rfl
        · exact ⟨a, rfl, fun h => by rw [if_pos h], fun h => ⟨fun _ => h, by omega⟩⟩
        · have := ha (by omega)
          exact ⟨b, rfl, fun _ => by rw [if_neg (by omega)], fun h => ⟨fun _ => this, fun _ => h⟩⟩
      refine runG02 ?_
      refine s_val (r_load (u_ok rfl) rfl rfl hs hx) wnt_none ?_
      by_cases h0 : x = 0
      · refine runG02 ?_
        refine ⟨_, rfl, ⟨_, j + 1, fixL ⟨rfl, rfl, rfl, rfl, trivial⟩, rfl, by omega, (hx2 h0).1, (hx2 h0).2⟩, ?_⟩
        show 2 - ((j : Int) + 1).toNat < 2 - (j : Int).toNat
        omega
      · refine runG02 ?_
        exact ret_i rfl rfl ⟨hx1 h0, rfl⟩
    · have h1 := ha (by omega)
      have h2 := hb (by omega)
      refine runG02 ?_
      refine ret_i rfl rfl ⟨?_, rfl⟩
      rw [if_neg (by omega), h2]

/-- The order of nodes: by Key, and of the same Key by ID. -/
def cmpN (x y : Nd) : Int := if cmpI x.key y.key ≠ 0 then cmpI x.key y.key else cmpI x.id y.id
theorem bs_two (a b : Int) (w : World) : (Instr.buildSlice 24 2 [(0, I a), (1, I b)].toArray).run Tryz.prog w = .ok (.slice (some ⟨w.heap.size, 0, none⟩) 2 2) (w.alloc (cel [I a, I b] 3)) := by kernel_rfl

theorem compare_ret (x y : Nd) (w : World) : Rets Tryz.prog 123 [NdV x, NdV y] w fun v w' => v = I (cmpN x y) ∧ ∃ q os, w' = Go.Sort.grow (w.drewN q) os := by
  have hx1 := at_alloc (cel y.vals 90) (at_alloc_new w (cel x.vals 90))
  have hy1 := at_alloc_new (w.alloc (cel x.vals 90)) (cel y.vals 90)
  obtain ⟨w1, hw1⟩ : ∃ w1, (w.alloc (cel x.vals 90)).alloc (cel y.vals 90) = w1 := ⟨_, rfl⟩
  rw [hw1] at hx1 hy1
  refine rets_of Tryz.func123 (by kernel_rfl) rfl Tryz.ntmps123 (Nat.le_of_ble_eq_true rfl) ?_
  refine runG02 ?_
  rw [hw1]
  refine w_drawn [(0, false), (1, false), (2, false), (3, false), (5, false), (6, false), (7, false), (8, false), (4, true)] [9, 10, 11, 12] (fun wq => wq = w1.drew) mixed (by kernel_rfl) ?_ ?_
  · rfl
  · have gx : ∀ wq, wq = w1.drew → At wq w.heap.size (cel x.vals 90) := fun wq hq => by rw [hq]; exact hx1
    have gy : ∀ wq, wq = w1.drew → At wq (w.alloc (cel x.vals 90)).heap.size (cel y.vals 90) := fun wq hq => by rw [hq]; exact hy1
    refine x_q rfl (fun wq hq => r_fld (fa_ok rfl) rfl) wnt_none ?_
    refine x_q rfl (fun wq hq => r_load (u_ok rfl) rfl rfl (gx wq hq) rfl) wnt_none ?_
    refine x_q rfl (fun wq hq => r_fld (fa_ok rfl) rfl) wnt_none ?_
    refine x_q rfl (fun wq hq => r_load (u_ok rfl) rfl rfl (gy wq hq) rfl) wnt_none ?_
    refine x_q rfl (fun wq hq => r_fld (fa_ok rfl) rfl) wnt_none ?_
    refine x_q rfl (fun wq hq => r_load (u_ok rfl) rfl rfl (gx wq hq) rfl) wnt_none ?_
    refine x_q rfl (fun wq hq => r_fld (fa_ok rfl) rfl) wnt_none ?_
    refine x_q rfl (fun wq hq => r_load (u_ok rfl) rfl rfl (gy wq hq) rfl) wnt_none ?_
    refine x_callf rfl (Compare_ret x.key y.key w1.drew) rfl wnt_none ?_
    rintro v w2 ⟨rfl, rfl⟩
    refine ⟨rfl, x_late ?_⟩
    refine y_callf rfl (Compare_ret x.id y.id w1.drew) rfl wnt_none ?_
    rintro v w2 ⟨rfl, rfl⟩
    refine y_val rfl (r_bs rfl (bs_two _ _ _)) wnt_none ?_
    refine y_callf rfl (Or_ret (at_alloc_new _ _)) rfl wnt_none ?_
    rintro v w2 ⟨rfl, rfl⟩
    refine y_val rfl (r_assign_i rfl) wnt_none ?_
    refine y_nil ?_
    refine wpIn_ret ?_
    refine ret_i rfl rfl ⟨rfl, 1, #[cel x.vals 90, cel y.vals 90, cel [I (cmpI x.key y.key), I (cmpI x.id y.id)] 3], ?_⟩
    rw [← hw1]
    simp only [Go.Sort.alloc_eq_grow, Go.Sort.drew_grow, Go.Sort.grow_grow]
    rfl

theorem cmpI_neg {a b : Int} : cmpI a b < 0 ↔ a < b := by
  unfold cmpI
  split
  · simp_all
  · split <;> omega
theorem cmpI_zero {a b : Int} : cmpI a b = 0 ↔ a = b := by
  unfold cmpI
  split
  · omega
  · split <;> omega
def ltN (x y : Nd) : Bool := decide (x.key < y.key ∨ (x.key = y.key ∧ x.id < y.id))
theorem ltOf_cmpN (x y : Nd) : ltOf cmpN x y = ltN x y := by
  unfold ltOf cmpN ltN
  refine decide_eq_decide.2 ?_
  by_cases h : cmpI x.key y.key = 0
  · have hk := cmpI_zero.1 h
    rw [if_neg (by simp [h]), cmpI_neg]
    omega
  · have hk : x.key ≠ y.key := fun e => h (cmpI_zero.2 e)
    rw [if_pos h, cmpI_neg]
    omega
theorem swoN : Go.Sort.SWO (ltOf cmpN) where
  irrefl x := by rw [ltOf_cmpN]; simp [ltN]
  trans x y z h1 h2 := by rw [ltOf_cmpN] at *; simp [ltN] at *; omega
  ntrans x y z h1 h2 := by rw [ltOf_cmpN] at *; simp [ltN] at *; omega

theorem flatK_flat [Inhabited Nd] (l : List Nd) : Go.Sort.flatK Nd.vals 7 l.toArray = (flat l).toArray := by
  apply Array.ext'
  apply List.ext_getElem?
  intro t
  by_cases ht : t < l.length * 7
  · have hi : t / 7 < l.length := by omega
    have hx : l[t / 7]? = some l[t / 7] := List.getElem?_eq_getElem hi
    have h1 := flat_get l (t / 7) _ hx [] (t % 7) (by omega)
    rw [List.append_nil, show t / 7 * 7 + t % 7 = t by omega] at h1
    rw [h1]
    have hv : (l[t / 7].vals)[t % 7]? = some (l[t / 7].vals)[t % 7]! := by
      have h7 : t % 7 < (l[t / 7].vals).length := by show t % 7 < 7; omega
      rw [List.getElem?_eq_getElem h7]
      simp [h7]
    rw [hv]
    simp [Go.Sort.flatK, ht, hi]
  · have h1 : (flat l)[t]? = none := List.getElem?_eq_none (by rw [flat_length]; omega)
    rw [h1]
    simp [Go.Sort.flatK]
    omega
theorem holds_row [Inhabited Nd] {w : World} {b : Nat} {xs : List Nd} {rest : List Value} {e : Nat} (hb : At w b (cel (flat xs ++ rest) e)) : Go.Sort.HoldsK Nd.vals 7 w b 0 xs.toArray := by
  unfold Go.Sort.HoldsK
  rw [flatK_flat]
  intro j hj
  refine ⟨?_, frozen_at hb _⟩
  have hj' : j < (flat xs).length := by simpa using hj
  rw [cell_at hb, Nat.zero_add, List.getElem?_append_left hj', List.getElem?_eq_getElem hj']
  simp [hj']
theorem row_at [Inhabited Nd] {w : World} {b n : Nat} {xs ys : List Nd} {rest : List Value} {os : Array Obj} {e : Nat} (hb : At w b (cel (flat xs ++ rest) e)) (hl : ys.length = xs.length) :
    At (sortWorldK Nd.vals 7 w b 0 n ys.toArray os) b (cel (flat ys ++ rest) e) ∧ Frm (fun c => c = b) w (sortWorldK Nd.vals 7 w b 0 n ys.toArray os) := by
  have hb' : w.heap[b]? = some (cel (flat xs ++ rest) e) := hb
  have hlt := at_lt hb
  have hput : Go.Sort.putCells id 0 (flat ys).toArray (flat xs ++ rest).toArray = (flat ys ++ rest).toArray := by
    apply Array.ext'
    apply List.ext_getElem?
    intro t
    have h1 := flat_length xs
    have h2 := flat_length ys
    simp only [Go.Sort.putCells, Array.toList_mapIdx, List.getElem?_mapIdx, Nat.zero_le, true_and, Nat.zero_add, List.size_toArray, id]
    by_cases ht : t < (flat ys).length
    · rw [List.getElem?_append_left (by omega), List.getElem?_append_left ht, List.getElem?_eq_getElem (show t < (flat xs).length by omega), List.getElem?_eq_getElem ht]
      simp [ht]
    · rw [List.getElem?_append_right (by omega), List.getElem?_append_right (by omega), show t - (flat xs).length = t - (flat ys).length by omega]
      cases rest[t - (flat ys).length]? <;> simp [ht]
  have hheap : (Go.Sort.putRowK Nd.vals 7 (Go.Sort.ahead w n) b 0 ys.toArray).heap = w.heap.setIfInBounds b (cel (flat ys ++ rest) e) := by
    unfold Go.Sort.putRowK Go.Sort.putRow Go.Sort.mapBlock
    rw [flatK_flat]
    apply Array.ext_getElem?
    intro k
    simp only [Array.getElem?_modify, Go.Sort.ahead, Array.getElem?_setIfInBounds]
    by_cases hk : b = k
    · subst hk
      rw [if_pos rfl, if_pos rfl, if_pos hlt, hb']
      simp only [Option.map_some, Go.Sort.onCells, cel]
      rw [hput]
    · rw [if_neg hk, if_neg hk]
  have hh : (sortWorldK Nd.vals 7 w b 0 n ys.toArray os).heap = w.heap.setIfInBounds b (cel (flat ys ++ rest) e) ++ os := by
    unfold sortWorldK Go.Sort.grow
    rw [hheap]
  constructor
  · show (sortWorldK Nd.vals 7 w b 0 n ys.toArray os).heap[b]? = _
    rw [hh, Array.getElem?_append_left (by simpa using hlt), Array.getElem?_setIfInBounds_self, if_pos hlt]
  · refine ⟨by rw [hh]; simp, fun c o hc hn => ?_, rfl, rfl, rfl⟩
    have hc' : w.heap[c]? = some o := hc
    show (sortWorldK Nd.vals 7 w b 0 n ys.toArray os).heap[c]? = _
    rw [hh, Array.getElem?_append_left (by simpa using at_lt hc), Array.getElem?_setIfInBounds_ne (fun h => hn h.symm), hc']

/-- Ascending. -/
abbrev Asc (l : List Nd) : Prop := l.Pairwise fun a c => ltN c a = false
theorem sort_ret {w : World} {b cap : Nat} {xs : List Nd} {rest : List Value} (hb : At w b (cel (flat xs ++ rest) 90)) (hsz : xs.length < 1000000) :
    Rets Tryz.prog 122 [.slice (some ⟨b, 0, none⟩) xs.length cap, .func (.func 123) #[] #[]] w fun v w' => v = .tuple #[] ∧ ∃ ys, ys.Perm xs ∧ Asc ys ∧ At w' b (cel (flat ys ++ rest) 90) ∧ Frm (fun c => c = b) w w' := by
  refine ⟨by kernel_rfl, ?_⟩
  have hcf : callable Tryz.prog 123 = true := by kernel_rfl
  have : Inhabited Nd := ⟨⟨0, 0, 0, 0, 0, 0, 0⟩⟩
  have hcon := AnyQ.slices_SortFunc sortNd 7 Tryz.isAgg90 Tryz.sizeOf90 Nd.vals (fun _ => rfl) (fun x v hv => by
      have := vals_one x v hv
      cases v <;> first | rfl | cases this) cmpN swoN 123 #[] b 0 cap xs.toArray w (fun args w => run_callFunc hcf args)
    (fun m os dk _ x y => (compare_ret x y _).2.mono fun e w' he => by
      obtain ⟨v, rfl, rfl, q, os', rfl⟩ := he
      exact ⟨rfl, q, os', rfl⟩) (holds_row hb) (at_lt hb) (by simp; omega)
  refine hcon.mono ?_
  rintro e w' ⟨rfl, d', n, os, hp, hs, rfl⟩
  obtain ⟨hsize, _, hperm⟩ := hp
  have hd : d' = d'.toList.toArray := rfl
  have hlen : d'.toList.length = xs.length := by simpa using hsize
  have hperm' : d'.toList.Perm xs := by
    have h1 : d'.extract 0 xs.toArray.size = d' := by rw [← hsize]; exact Array.extract_size
    have h2 : xs.toArray.extract 0 xs.toArray.size = xs.toArray := Array.extract_size
    rw [h1, h2] at hperm
    exact hperm
  refine ⟨_, rfl, rfl, d'.toList, hperm', ?_, ?_⟩
  · unfold Asc
    rw [List.pairwise_iff_getElem]
    intro i j hi hj hij
    have := hs i j (Nat.zero_le _) hij (by simpa [hlen] using hj)
    rw [ltOf_cmpN] at this
    simp only [Array.getElem_toList]
    rw [getElem!_pos d' j (by simpa using hj), getElem!_pos d' i (by simpa using hi)] at this
    exact this
  · rw [hd]
    exact row_at hb hlen
end Go.Proofs.YtbicffldggcdhaaGreatDoor

namespace Go.Proofs.YtbicffldggcdhaaGreatDoor
open Go

def ins (x : Nd) (l : List Nd) : List Nd := l.takeWhile (fun y => ltN y x) ++ x :: l.dropWhile (fun y => ltN y x)
def kids (l : List Nd) (p : Int) : List Nd := (l.tail.filter fun x => decide (x.par = p)).foldl (fun o x => ins x o) []
theorem ltN_asymm {x y : Nd} (h : ltN x y = true) : ltN y x = false := by
  simp [ltN] at *
  omega
theorem ltN_ntrans {x y z : Nd} (h1 : ltN x y = false) (h2 : ltN y z = false) : ltN x z = false := by
  have := swoN.ntrans x y z
  rw [ltOf_cmpN, ltOf_cmpN, ltOf_cmpN] at this
  exact this h1 h2
theorem ins_perm (x : Nd) (l : List Nd) : (ins x l).Perm (x :: l) := by
  have h := List.perm_middle (a := x) (l₁ := l.takeWhile (fun y => ltN y x)) (l₂ := l.dropWhile (fun y => ltN y x))
  rw [List.takeWhile_append_dropWhile] at h
  exact h
theorem drop_ge {x : Nd} : ∀ {l : List Nd}, Asc l → ∀ y ∈ l.dropWhile (fun y => ltN y x), ltN y x = false
  | [], _, y, hy => by simp at hy
  | z :: l, h, y, hy => by
    rw [List.dropWhile_cons] at hy
    have h' := List.pairwise_cons.1 h
    cases hz : ltN z x with
    | true => rw [hz] at hy; exact drop_ge h'.2 y hy
    | false =>
      rw [hz] at hy
      simp only [Bool.false_eq_true, if_false, List.mem_cons] at hy
      rcases hy with rfl | hy
      · exact hz
      · exact ltN_ntrans (h'.1 y hy) hz
theorem take_lt {x : Nd} : ∀ {l : List Nd}, ∀ y ∈ l.takeWhile (fun y => ltN y x), ltN y x = true
  | [], y, hy => by simp at hy
  | z :: l, y, hy => by
    rw [List.takeWhile_cons] at hy
    cases hz : ltN z x with
    | true =>
      rw [hz] at hy
      simp only [if_true, List.mem_cons] at hy
      rcases hy with rfl | hy
      · exact hz
      · exact take_lt y hy
    | false => rw [hz] at hy; simp at hy
theorem asc_ins {x : Nd} {l : List Nd} (h : Asc l) : Asc (ins x l) := by
  have h0 : Asc (l.takeWhile (fun y => ltN y x) ++ l.dropWhile (fun y => ltN y x)) := by rw [List.takeWhile_append_dropWhile]; exact h
  obtain ⟨h1, h2, h3⟩ := List.pairwise_append.1 h0
  refine List.pairwise_append.2 ⟨h1, List.pairwise_cons.2 ⟨drop_ge h, h2⟩, fun a ha b hb => ?_⟩
  rcases List.mem_cons.1 hb with rfl | hb
  · exact ltN_asymm (take_lt a ha)
  · exact h3 a ha b hb
theorem fold_ins : ∀ (a o : List Nd), Asc o → Asc (a.foldl (fun o x => ins x o) o) ∧ (a.foldl (fun o x => ins x o) o).Perm (a ++ o)
  | [], o, h => ⟨h, List.Perm.refl _⟩
  | x :: a, o, h => by
    obtain ⟨h1, h2⟩ := fold_ins a (ins x o) (asc_ins h)
    refine ⟨h1, h2.trans ?_⟩
    refine (List.Perm.append_left a (ins_perm x o)).trans ?_
    exact List.perm_middle
theorem kids_asc (l : List Nd) (p : Int) : Asc (kids l p) := (fold_ins _ [] List.Pairwise.nil).1
theorem kids_perm (l : List Nd) (p : Int) : (kids l p).Perm (l.tail.filter fun x => decide (x.par = p)) := by
  have := (fold_ins (l.tail.filter fun x => decide (x.par = p)) [] List.Pairwise.nil).2
  rw [List.append_nil] at this
  exact this
theorem tail_mem {l : List Nd} (h : Wf l) {x : Nd} : x ∈ l.tail ↔ x ∈ l ∧ x.id ≠ 0 := by
  obtain ⟨y, r, rfl, h0, _⟩ := h.root
  have hn := h.nodup
  simp only [List.map_cons, List.nodup_cons] at hn
  simp only [List.tail_cons, List.mem_cons]
  constructor
  · intro hx
    exact ⟨.inr hx, fun e => hn.1 (by rw [h0, ← e]; exact List.mem_map_of_mem hx)⟩
  · rintro ⟨rfl | hx, h1⟩
    · exact absurd h0 h1
    · exact hx
theorem mem_kids {l : List Nd} (h : Wf l) {x : Nd} {p : Int} : x ∈ kids l p ↔ x ∈ l ∧ x.id ≠ 0 ∧ x.par = p := by
  rw [(kids_perm l p).mem_iff, List.mem_filter, tail_mem h, decide_eq_true_eq, and_assoc]
theorem kids_nodup {l : List Nd} (h : Wf l) (p : Int) : ((kids l p).map (·.id)).Nodup := by
  refine ((kids_perm l p).map _).nodup_iff.2 ?_
  refine ((List.filter_sublist.trans (List.tail_sublist l)).map _).nodup h.nodup
theorem asc_unique {a b : List Nd} (h1 : Asc a) (h2 : Asc b) (hp : a.Perm b) (hn : (b.map (·.id)).Nodup) : a = b := by
  refine hp.eq_of_pairwise (le := fun a c => ltN c a = false) (fun x y hx hy e1 e2 => ?_) h1 h2
  have hid : x.id = y.id := by
    simp [ltN] at e1 e2
    omega
  have hx' := hp.mem_iff.1 hx
  have h3 := fnd_mem hn hx'
  have h4 := fnd_mem hn hy
  rw [hid, h4] at h3
  cases h3
  rfl
theorem nodup_ids {a : List Nd} (h : (a.map (·.id)).Nodup) : a.Nodup := List.Pairwise.imp (fun hne e => hne (by rw [e])) (List.pairwise_map.1 h)
theorem kids_unique {l a : List Nd} {p : Int} (h : Wf l) (ha : Asc a) (hn : (a.map (·.id)).Nodup) (hm : ∀ x, x ∈ a ↔ x ∈ l ∧ x.id ≠ 0 ∧ x.par = p) : a = kids l p :=
  asc_unique ha (kids_asc l p) ((List.perm_ext_iff_of_nodup (nodup_ids hn) (nodup_ids (kids_nodup h p))).2 (fun x => by rw [hm, mem_kids h])) (kids_nodup h p)

/-- What is told of a node and of all below it, so many steps down. -/
def go (K : Int → List Nd) : Nat → Nd → Int → List (Nd × Int)
  | 0, _, _ => []
  | n + 1, x, d => (x, d) :: (K x.id).flatMap fun y => go K n y (d + 1)
def Fits (K : Int → List Nd) : Nat → Nd → Prop
  | 0, _ => False
  | n + 1, x => ∀ y ∈ K x.id, Fits K n y
theorem dep_le (l : List Nd) : ∀ (n : Nat) (id : Int), dep l n id ≤ n
  | 0, _ => Nat.le_refl _
  | n + 1, id => by
    unfold dep
    split
    · omega
    · have := dep_le l n (parOf l id)
      omega
theorem fits_of {l : List Nd} (h : Wf l) : ∀ (n : Nat) (x : Nd), x ∈ l → 34 ≤ depth l x.id + n → Fits (kids l) n x
  | 0, x, _, hd => by
    have h1 := dep_le l (l.length + 1) x.id
    have h2 := h.small
    unfold depth at hd
    omega
  | n + 1, x, hx, hd => fun y hy => by
    obtain ⟨h1, h2, h3⟩ := (mem_kids h).1 hy
    refine fits_of h n y h1 ?_
    rw [h.depth_par (there_mem.2 ⟨y, h1, rfl⟩) h2, par_mem h.nodup h1, h3]
    omega
theorem fits_all {l : List Nd} (h : Wf l) {x : Nd} (hx : x ∈ l) : Fits (kids l) 34 x := fits_of h 34 x hx (by omega)
theorem go_in {K : Int → List Nd} : ∀ {n : Nat} {x : Nd} {d : Int} {z y : Nd} {dz : Int}, Fits K n x → (z, dz) ∈ go K n x d → y ∈ K z.id → ∃ d', (y, d') ∈ go K n x d
  | 0, _, _, _, _, _, h, _, _ => h.elim
  | n + 1, x, d, z, y, dz, h, hz, hy => by
    simp only [go, List.mem_cons, Prod.mk.injEq, List.mem_flatMap] at hz ⊢
    rcases hz with ⟨rfl, _⟩ | ⟨c, hc, hz⟩
    · have hf := h y hy
      cases n with
      | zero => exact hf.elim
      | succ n => exact ⟨d + 1, .inr ⟨y, hy, by simp [go]⟩⟩
    · obtain ⟨d', hd'⟩ := go_in (h c hc) hz hy
      exact ⟨d', .inr ⟨c, hc, hd'⟩⟩
theorem go_mem {l : List Nd} (h : Wf l) : ∀ {n : Nat} {x : Nd} {d : Int} {y : Nd} {d' : Int}, x ∈ l → (y, d') ∈ go (kids l) n x d → y ∈ l
  | 0, _, _, _, _, _, hy => by cases hy
  | n + 1, x, d, y, d', hx, hy => by
    simp only [go, List.mem_cons, Prod.mk.injEq, List.mem_flatMap] at hy
    rcases hy with ⟨rfl, _⟩ | ⟨c, hc, hy⟩
    · exact hx
    · exact go_mem h ((mem_kids h).1 hc).1 hy
theorem below_up {l : List Nd} (h : Wf l) {y c : Int} (hy : there l y = true) (hc0 : c ≠ 0) (hb : below l y c = true) : below l y (parOf l c) = true := by
  obtain ⟨k, hk⟩ : ∃ k, depth l y = k := ⟨_, rfl⟩
  induction k generalizing y with
  | zero =>
    have h0 : y = 0 := Decidable.byContradiction fun h0 => by
      have := h.depth_par hy h0
      omega
    subst h0
    rw [below_root l hc0] at hb
    cases hb
  | succ k ih =>
    by_cases h0 : y = 0
    · subst h0
      rw [below_root l hc0] at hb
      cases hb
    · have hd := h.depth_par hy h0
      by_cases hyc : y = c
      · subst hyc
        by_cases hs : y = parOf l y
        · rw [← hs]; exact below_refl l y
        · rw [h.step hy h0 hs]
          exact below_refl l _
      · rw [h.step hy h0 hyc] at hb
        have := ih (h.par_there hy) hb (by omega)
        by_cases hs : y = parOf l c
        · rw [← hs]; exact below_refl l y
        · rw [h.step hy h0 hs]
          exact this
theorem go_below {l : List Nd} (h : Wf l) : ∀ {n : Nat} {x : Nd} {d : Int} {y : Nd} {d' : Int}, x ∈ l → (y, d') ∈ go (kids l) n x d → below l y.id x.id = true
  | 0, _, _, _, _, _, hy => by cases hy
  | n + 1, x, d, y, d', hx, hy => by
    simp only [go, List.mem_cons, Prod.mk.injEq, List.mem_flatMap] at hy
    rcases hy with ⟨rfl, _⟩ | ⟨c, hc, hy⟩
    · exact below_refl l _
    · obtain ⟨h1, h2, h3⟩ := (mem_kids h).1 hc
      have := below_up h (there_mem.2 ⟨y, go_mem h h1 hy, rfl⟩) h2 (go_below h h1 hy)
      rw [par_mem h.nodup h1, h3] at this
      exact this
theorem below_go {l : List Nd} (h : Wf l) {x : Nd} (hx : x ∈ l) {n : Nat} (hf : Fits (kids l) n x) (d : Int) : ∀ (k : Nat) (y : Nd), y ∈ l → depth l y.id = k → below l y.id x.id = true → ∃ d', (y, d') ∈ go (kids l) n x d := by
  intro k
  induction k with
  | zero =>
    intro y hy hk hb
    have h0 : y.id = 0 := Decidable.byContradiction fun h0 => by
      have := h.depth_par (there_mem.2 ⟨y, hy, rfl⟩) h0
      omega
    have hx0 : x.id = 0 := Decidable.byContradiction fun hx0 => by
      rw [h0, below_root l hx0] at hb
      cases hb
    have hxy : y = x := by
      have h1 := fnd_mem h.nodup hy
      have h2 := fnd_mem h.nodup hx
      rw [h0] at h1
      rw [hx0, h1] at h2
      cases h2
      rfl
    subst hxy
    cases n with
    | zero => exact hf.elim
    | succ n => exact ⟨d, by simp [go]⟩
  | succ k ih =>
    intro y hy hk hb
    by_cases hxy : y.id = x.id
    · have hxy : y = x := by
        have h1 := fnd_mem h.nodup hy
        have h2 := fnd_mem h.nodup hx
        rw [hxy, h2] at h1
        cases h1
        rfl
      subst hxy
      cases n with
      | zero => exact hf.elim
      | succ n => exact ⟨d, by simp [go]⟩
    · have hyt : there l y.id = true := there_mem.2 ⟨y, hy, rfl⟩
      have h0 : y.id ≠ 0 := fun h0 => by
        have hx0 : x.id ≠ 0 := fun e => hxy (by rw [h0, e])
        rw [h0, below_root l hx0] at hb
        cases hb
      rw [h.step hyt h0 hxy] at hb
      obtain ⟨z, hz, hze⟩ := there_mem.1 (h.par_there hyt)
      have hd := h.depth_par hyt h0
      obtain ⟨dz, hdz⟩ := ih z hz (by rw [hze]; omega) (by rw [hze]; exact hb)
      refine go_in hf hdz ((mem_kids h).2 ⟨hy, h0, ?_⟩)
      rw [hze, par_mem h.nodup hy]
theorem go_ids {l : List Nd} (h : Wf l) {x y : Nd} (hx : x ∈ l) (hy : y ∈ l) {n : Nat} (hf : Fits (kids l) n x) (d : Int) : y.id ∈ (go (kids l) n x d).map (fun p => p.1.id) ↔ below l y.id x.id = true := by
  constructor
  · intro hm
    obtain ⟨⟨z, dz⟩, hz, he⟩ := List.mem_map.1 hm
    simp only at he
    have := go_below h hx hz
    rw [he] at this
    exact this
  · intro hb
    obtain ⟨d', hd'⟩ := below_go h hx hf d _ y hy rfl hb
    exact List.mem_map.2 ⟨_, hd', rfl⟩
end Go.Proofs.YtbicffldggcdhaaGreatDoor

namespace Go.Proofs.YtbicffldggcdhaaGreatDoor
open Go

def gEnt (x : Int × Value) : Value × Value := (I x.1, x.2)
structure GEnts (es : Array MapEntry) (cl : Nat) (M : List (Int × Value)) : Prop where
  ents : es.toList.map entOf = M.map gEnt
  born : (es.toList.map (·.born)).Nodup
  low : ∀ e ∈ es.toList, e.born < cl
  keys : (M.map (·.1)).Nodup
theorem gents_nil : GEnts #[] 0 [] := ⟨rfl, by simp, by simp, by simp⟩
def gget (id : Int) : List (Int × Value) → Option Value
  | [] => none
  | x :: l => if x.1 = id then some x.2 else gget id l
def gput (id : Int) (v : Value) : List (Int × Value) → List (Int × Value)
  | [] => [(id, v)]
  | x :: l => if x.1 = id then (id, v) :: l else x :: gput id v l
def gfind (id : Int) : List (Int × Value) → Nat → Option (Nat × Value)
  | [], _ => none
  | x :: l, i => if x.1 = id then some (i, x.2) else gfind id l (i + 1)
theorem gfind_get (id : Int) : ∀ (l : List (Int × Value)) (i : Nat), (gfind id l i).map (·.2) = gget id l
  | [], _ => rfl
  | x :: l, i => by
    unfold gfind gget
    split
    · rfl
    · exact gfind_get id l (i + 1)
theorem gfind_some {id : Int} (v : Value) : ∀ {l : List (Int × Value)} {i k : Nat} {u : Value}, gfind id l i = some (k, u) → ∃ j, k = i + j ∧ l[j]? = some (id, u) ∧ gput id v l = l.set j (id, v)
  | [], _, _, _, h => by cases h
  | x :: l, i, k, u, h => by
    unfold gfind at h
    by_cases hx : x.1 = id
    · rw [if_pos hx] at h
      cases h
      refine ⟨0, rfl, ?_, by rw [gput, if_pos hx]; rfl⟩
      rw [← hx]
      rfl
    · rw [if_neg hx] at h
      obtain ⟨j, h1, h2, h3⟩ := gfind_some v h
      exact ⟨j + 1, by omega, h2, by rw [gput, if_neg hx, h3]; rfl⟩
theorem gfind_none {id : Int} (v : Value) : ∀ {l : List (Int × Value)} {i : Nat}, gfind id l i = none → gput id v l = l ++ [(id, v)] ∧ id ∉ l.map (·.1)
  | [], _, _ => ⟨rfl, by simp⟩
  | x :: l, i, h => by
    unfold gfind at h
    by_cases hx : x.1 = id
    · rw [if_pos hx] at h; cases h
    · rw [if_neg hx] at h
      obtain ⟨h1, h2⟩ := gfind_none v h
      refine ⟨by rw [gput, if_neg hx, h1]; rfl, ?_⟩
      simp only [List.map_cons, List.mem_cons, not_or]
      exact ⟨fun e => hx e.symm, h2⟩
theorem gget_put (id : Int) (v : Value) (q : Int) : ∀ l : List (Int × Value), gget q (gput id v l) = if q = id then some v else gget q l
  | [] => by
    unfold gput gget
    by_cases h : q = id
    · rw [if_pos h, if_pos h.symm]
    · rw [if_neg h, if_neg (fun e => h e.symm)]
      rfl
  | x :: l => by
    unfold gput
    by_cases hx : x.1 = id
    · rw [if_pos hx, gget, gget]
      by_cases h : q = id
      · rw [if_pos h, if_pos h.symm]
      · rw [if_neg h, if_neg (fun e => h e.symm), hx, if_neg (fun e => h e.symm)]
    · rw [if_neg hx, gget, gget, gget_put id v q l]
      by_cases h : q = id
      · subst h
        rw [if_neg hx, if_pos rfl, if_pos rfl]
      · rw [if_neg h, if_neg h]
theorem gget_mem {k : Int} {v : Value} : ∀ {l : List (Int × Value)}, (l.map (·.1)).Nodup → (k, v) ∈ l → gget k l = some v
  | [], _, h => by cases h
  | x :: l, hn, h => by
    simp only [List.map_cons, List.nodup_cons] at hn
    unfold gget
    rcases List.mem_cons.1 h with e | e
    · subst e
      rw [if_pos rfl]
    · rw [if_neg (fun q => hn.1 (by rw [q]; exact List.mem_map_of_mem (f := Prod.fst) e))]
      exact gget_mem hn.2 e
theorem gget_in {k : Int} {v : Value} : ∀ {l : List (Int × Value)}, gget k l = some v → (k, v) ∈ l
  | [], h => by cases h
  | x :: l, h => by
    unfold gget at h
    by_cases hx : x.1 = k
    · rw [if_pos hx] at h
      cases h
      rw [← hx]
      exact List.mem_cons_self
    · rw [if_neg hx] at h
      exact List.mem_cons_of_mem _ (gget_in h)
abbrev nilS : Value := .slice none 0 0
def gor (M : List (Int × Value)) (p : Int) : Value := (gget p M).getD nilS
theorem gor_put (id : Int) (v : Value) (q : Int) (M : List (Int × Value)) : gor (gput id v M) q = if q = id then v else gor M q := by
  unfold gor
  rw [gget_put]
  split <;> rfl
theorem GEnts.mem {es : Array MapEntry} {cl : Nat} {M : List (Int × Value)} (h : GEnts es cl M) {e : MapEntry} (he : e ∈ es.toList) : ∃ k v, e.key = I k ∧ e.val = v ∧ gget k M = some v := by
  have h1 : entOf e ∈ M.map gEnt := by rw [← h.ents]; exact List.mem_map_of_mem he
  obtain ⟨⟨k, v⟩, hx, hxe⟩ := List.mem_map.1 h1
  simp only [entOf, gEnt, Prod.mk.injEq] at hxe
  exact ⟨k, v, hxe.1.symm, hxe.2.symm, gget_mem h.keys hx⟩
theorem GEnts.of {es : Array MapEntry} {cl : Nat} {M : List (Int × Value)} (h : GEnts es cl M) {k : Int} {v : Value} (hk : gget k M = some v) : ∃ e ∈ es.toList, e.key = I k := by
  have h1 : gEnt (k, v) ∈ es.toList.map entOf := by rw [h.ents]; exact List.mem_map_of_mem (gget_in hk)
  obtain ⟨e, he, hee⟩ := List.mem_map.1 h1
  simp only [entOf, gEnt, Prod.mk.injEq] at hee
  exact ⟨e, he, hee.1⟩
theorem GEnts.keysN {es : Array MapEntry} {cl : Nat} {M : List (Int × Value)} (h : GEnts es cl M) : (es.toList.map (·.key)).Nodup := by
  have h1 : es.toList.map (·.key) = (M.map (·.1)).map I := by
    have := congrArg (List.map Prod.fst) h.ents
    simpa [entOf, gEnt, List.map_map, Function.comp_def] using this
  rw [h1]
  refine List.Pairwise.map _ (fun a b hab e => hab ?_) h.keys
  cases e
  rfl
theorem gfind_run (id : Int) : ∀ (M : List (Int × Value)) (es : List MapEntry) (i : Nat), es.map entOf = M.map gEnt → Instr.findNow (.int .i64) (I id) es i = some (gfind id M i)
  | [], [], i, _ => rfl
  | [], e :: es, i, h => by simp at h
  | x :: m, [], i, h => by simp at h
  | x :: m, e :: es, i, h => by
    simp only [List.map_cons, List.cons.injEq, entOf, gEnt, Prod.mk.injEq] at h
    obtain ⟨⟨hk, hv⟩, hr⟩ := h
    unfold Instr.findNow gfind
    rw [hk]
    by_cases hx : x.1 = id
    · subst hx
      simp [Instr.sameNow, hv]
    · have hx' : ¬ id = x.1 := fun e => hx e.symm
      simp only [Instr.sameNow, if_true, if_neg hx, beq_eq_false_iff_ne.2 hx']
      rw [gfind_run id m es (i + 1) hr]
section
variable {P : Program} {w : World} {ty kt et b : Nat} {id : Int} {es : Array MapEntry} {cl : Nat} {M : List (Int × Value)}
theorem gfindKey (hk : P.underlying kt = some (.int .i64)) (hE : GEnts es cl M) : (Instr.findKey kt (I id) es.toList).run P w = .ok (gfind id M 0) w :=
  MapKept.run_findKey hk (gfind_run id M es.toList 0 hE.ents)
theorem glook_run (hu : P.underlying ty = some (.map kt et)) (hk : P.underlying kt = some (.int .i64)) (hz : zrOf P et = some nilS) (hb : At w b (.map es cl)) (hE : GEnts es cl M) :
    (Instr.lookup ty (.map (some b)) (I id) false).run P w = .ok (gor M id) w := by
  have hf := gfindKey (w := w) (id := id) hk hE
  have hc : ∀ e, (Instr.checkKey e 10000 kt (I id)).run P w = .ok () w := fun e => MapKept.run_checkKey (k := I id) hk isK e 9999
  simp only [Instr.lookup, Sem.run_bind, run_underlying hu, MapKept.run_getObj_map hb, Result.andThen_ok, Sem.run_pure, hc, hf]
  unfold gor
  rw [← gfind_get id M 0]
  cases gfind id M 0 with
  | none => simp [run_zero hz]
  | some j => simp
theorem gupd_run {v : Value} (hu : P.underlying ty = some (.map kt et)) (hk : P.underlying kt = some (.int .i64)) (hb : At w b (.map es cl)) (hE : GEnts es cl M) :
    ∃ es' cl', (Instr.mapUpdate ty (.map (some b)) (I id) v).run P w = .ok () (setB w b (.map es' cl')) ∧ GEnts es' cl' (gput id v M) := by
  have hf := gfindKey (w := w) (id := id) hk hE
  have hc : ∀ e, (Instr.checkKey e 10000 kt (I id)).run P w = .ok () w := fun e => MapKept.run_checkKey (k := I id) hk isK e 9999
  cases ha : gfind id M 0 with
  | none =>
    rw [ha] at hf
    obtain ⟨hp, hnew⟩ := gfind_none v ha
    refine ⟨es.push ⟨I id, v, cl⟩, cl + 1, ?_, ?_⟩
    · simp [Instr.mapUpdate, run_underlying hu, MapKept.run_getObj_map hb, hc, hf, MapKept.run_setObj_map _ hb, setB]
    · rw [hp]
      refine ⟨?_, ?_, ?_, ?_⟩
      · simp [hE.ents, entOf, gEnt]
      · simp only [Array.toList_push, List.map_append, List.map_cons, List.map_nil]
        refine List.nodup_append.2 ⟨hE.born, by simp, ?_⟩
        intro a h1 c h2
        obtain ⟨e, he, rfl⟩ := List.mem_map.1 h1
        have := hE.low e he
        simp at h2
        omega
      · intro e he
        simp only [Array.toList_push, List.mem_append, List.mem_singleton] at he
        rcases he with he | rfl
        · have := hE.low e he; omega
        · exact Nat.lt_succ_self _
      · rw [List.map_append, List.nodup_append]
        refine ⟨hE.keys, by simp, ?_⟩
        intro a h1 c h2 e
        simp at h2
        subst h2
        exact hnew (e ▸ h1)
  | some ju =>
    obtain ⟨j', u⟩ := ju
    obtain ⟨j, hj, hy, hp⟩ := gfind_some v ha
    rw [Nat.zero_add] at hj
    subst hj
    rw [ha] at hf
    obtain ⟨e, he, hek⟩ : ∃ e, es.toList[j']? = some e ∧ e.key = I id := by
      have h1 := congrArg (fun l => l[j']?) hE.ents
      simp only [List.getElem?_map, hy, Option.map_some] at h1
      cases he : es.toList[j']? with
      | none => rw [he] at h1; cases h1
      | some e =>
        rw [he] at h1
        simp only [Option.map_some, Option.some.injEq, entOf, gEnt, Prod.mk.injEq] at h1
        exact ⟨e, rfl, h1.1⟩
    have he' : es[j']? = some e := by simpa using he
    refine ⟨es.modify j' fun e => { e with key := I id, val := v }, cl, ?_, ?_⟩
    · have hks : (Instr.keyThatStays (I id) (I id)).run P w = .ok (I id) w := MapKept.run_keyThatStays (d := .int .i64) isK
      simp [Instr.mapUpdate, run_underlying hu, MapKept.run_getObj_map hb, hc, hf, he', hek, hks, MapKept.run_setObj_map _ hb, setB]
    · rw [hp]
      have hl : (es.modify j' fun e => { e with key := I id, val := v }).toList = es.toList.set j' { e with key := I id, val := v } := by
        rw [Array.toList_modify]
        apply List.ext_getElem?
        intro k
        rw [List.getElem?_modify, List.getElem?_set]
        by_cases hjk : j' = k
        · subst hjk
          have hlt := (List.getElem?_eq_some_iff.1 he).1
          simp only [he, hlt, if_true]
          rfl
        · simp [hjk]
      refine ⟨?_, ?_, ?_, ?_⟩
      · rw [hl, List.map_set, hE.ents, List.map_set]
        rfl
      · rw [hl, List.map_set]
        have : es.toList.map (·.born) = (es.toList.map (·.born)).set j' e.born := by
          apply List.ext_getElem?
          intro k
          rw [List.getElem?_set]
          by_cases hjk : j' = k
          · subst hjk
            have hlt := (List.getElem?_eq_some_iff.1 he).1
            rw [if_pos rfl, List.length_map, if_pos hlt, List.getElem?_map, he]; rfl
          · rw [if_neg hjk]
        show ((es.toList.map (·.born)).set j' e.born).Nodup
        rw [← this]
        exact hE.born
      · intro e' he2
        rw [hl] at he2
        rcases List.mem_or_eq_of_mem_set he2 with h | h
        · exact hE.low e' h
        · subst h
          exact hE.low e (List.mem_of_getElem? he)
      · rw [List.map_set]
        have : M.map (·.1) = (M.map (·.1)).set j' id := by
          apply List.ext_getElem?
          intro k
          rw [List.getElem?_set]
          by_cases hjk : j' = k
          · subst hjk
            have hlt := (List.getElem?_eq_some_iff.1 hy).1
            rw [if_pos rfl, List.length_map, if_pos hlt, List.getElem?_map, hy]; rfl
          · rw [if_neg hjk]
        show ((M.map (·.1)).set j' id).Nodup
        rw [← this]
        exact hE.keys
end
section
variable {P : Program} {w : World} {ρ : Operand → Value} {d : Option Nat} {t : Nat} {p : String} {af : Array Edge} {g : Option (Nat × Bool)} {ty kt et b : Nat} {id : Int} {es : Array MapEntry} {cl : Nat} {M : List (Int × Value)} {x y : Operand}
theorem r_glook (hu : P.underlying ty = some (.map kt et)) (hk : P.underlying kt = some (.int .i64)) (hz : zrOf P et = some nilS) (hx : ρ x = .map (some b)) (hy : ρ y = I id) (hb : At w b (.map es cl)) (hE : GEnts es cl M) :
    (execOp ρ ⟨d, .lookup ty x y false, t, p, af, g⟩).run P w = .ok (.value (gor M id)) w := by
  simp [execOp, hx, hy, glook_run hu hk hz hb hE]
end
end Go.Proofs.YtbicffldggcdhaaGreatDoor
