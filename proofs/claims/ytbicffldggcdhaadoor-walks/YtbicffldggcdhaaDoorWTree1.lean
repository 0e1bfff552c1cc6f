/-
  The program's tree, a map of nodes behind a pointer: New, Len, Find, has, allowed, walked.
-/
import Derived.Test.YtbicffldggcdhaaDoorLMap
import Derived.Test.YtbicffldggcdhaaDoorLSpec
namespace Go.Proofs.YtbicffldggcdhaaDoor
open Go
theorem runWTree10 {G K : Prop} (k : K) (h : Wrap K → G := by intro h; (repeat (first | (with_reducible first | refine wpIn_seq ?_ | refine w_reg ?_ | refine s_nil ?_ | refine s_nilQ ?_ | refine wpIn_block ?_ | refine q_then ?_ | refine q_blk ?_ | refine q_then_ret ?_ | refine q_blk_ret ?_ | refine q_then_exit ?_ | refine q_blk_exit ?_ | refine wpIn_skip ?_ | refine wpIn_ret ?_ | refine wpIn_exit ?_) | ((with_reducible refine q_blk_other ?_ ?_); exact rfl) | ((with_reducible apply c_true); exact rfl; (with_reducible exact rfl)) | ((with_reducible apply c_false); exact rfl; (with_reducible exact rfl)) | ((with_reducible apply s_val); (first | ((with_reducible apply r_assign_i); exact rfl) | ((with_reducible apply r_move_p); exact rfl) | ((with_reducible apply r_nilCheck); exact rfl) | ((with_reducible apply r_fld); exact fa_ok rfl; exact rfl) | ((with_reducible apply r_load); exact u_ok rfl; exact rfl; exact rfl; (first | (with_reducible assumption) | assumption | exact at_alloc_new _ _ | (repeat (first | assumption | exact at_alloc_new _ _ | refine at_drew ?_ | refine at_alloc _ ?_))); exact rfl) | ((with_reducible apply r_len); exact u_ok rfl; exact rfl)); (with_reducible exact wnt_none)))); exact h.out) : G := h ⟨k⟩
theorem runWTree11 {G K : Prop} (k : K) (h : Wrap K → G := by intro h; (repeat (first | (with_reducible first | refine wpIn_seq ?_ | refine w_reg ?_ | refine s_nil ?_ | refine s_nilQ ?_ | refine wpIn_block ?_ | refine q_then ?_ | refine q_blk ?_ | refine q_then_ret ?_ | refine q_blk_ret ?_ | refine q_then_exit ?_ | refine q_blk_exit ?_ | refine wpIn_skip ?_ | refine wpIn_ret ?_ | refine wpIn_exit ?_) | ((with_reducible refine q_blk_other ?_ ?_); exact rfl) | ((with_reducible apply c_true); exact rfl; (with_reducible exact rfl)) | ((with_reducible apply c_false); exact rfl; (with_reducible exact rfl)) | ((with_reducible apply s_val); (first | ((with_reducible apply r_assign_b); exact rfl) | ((with_reducible apply r_move_p); exact rfl) | ((with_reducible apply r_nilCheck); exact rfl) | ((with_reducible apply r_fld); exact fa_ok rfl; exact rfl) | ((with_reducible apply r_load); exact u_ok rfl; exact rfl; exact rfl; (first | (with_reducible assumption) | assumption | exact at_alloc_new _ _ | (repeat (first | assumption | exact at_alloc_new _ _ | refine at_drew ?_ | refine at_alloc _ ?_))); exact rfl) | ((with_reducible apply r_move_i); exact rfl) | ((with_reducible apply r_look2); exact u_ok rfl; exact u_ok rfl; exact z_ok rfl; exact rfl; exact rfl; (first | (with_reducible assumption) | assumption | exact at_alloc_new _ _ | (repeat (first | assumption | exact at_alloc_new _ _ | refine at_drew ?_ | refine at_alloc _ ?_))); assumption) | ((with_reducible apply r_move_t); exact rfl) | ((with_reducible apply r_extract); exact rfl; exact rfl) | ((with_reducible apply r_allocA); exact z_ok rfl) | ((with_reducible apply r_alloc1); exact z_ok rfl; exact rfl) | ((with_reducible apply r_move_b); exact rfl)); (with_reducible exact wnt_none)))); exact h.out) : G := h ⟨k⟩
theorem runWTree12 {G K : Prop} (k : K) (h : Wrap K → G := by intro h; (repeat (first | (with_reducible first | refine wpIn_seq ?_ | refine w_reg ?_ | refine s_nil ?_ | refine s_nilQ ?_ | refine wpIn_block ?_ | refine q_then ?_ | refine q_blk ?_ | refine q_then_ret ?_ | refine q_blk_ret ?_ | refine q_then_exit ?_ | refine q_blk_exit ?_ | refine wpIn_skip ?_ | refine wpIn_ret ?_ | refine wpIn_exit ?_) | ((with_reducible refine q_blk_other ?_ ?_); exact rfl) | ((with_reducible apply c_true); exact rfl; (with_reducible exact rfl)) | ((with_reducible apply c_false); exact rfl; (with_reducible exact rfl)) | ((with_reducible apply s_val); (first | ((with_reducible apply r_assign_p); exact rfl) | ((with_reducible apply r_move_m); exact rfl) | ((with_reducible apply r_boxA); exact rfl) | ((with_reducible apply r_box1); exact rfl; exact rfl)); (with_reducible exact wnt_none)))); exact h.out) : G := h ⟨k⟩
theorem runWTree13 {G K : Prop} (k : K) (h : Wrap K → G := by intro h; (repeat (first | (with_reducible first | refine wpIn_seq ?_ | refine w_reg ?_ | refine s_nil ?_ | refine s_nilQ ?_ | refine wpIn_block ?_ | refine q_then ?_ | refine q_blk ?_ | refine q_then_ret ?_ | refine q_blk_ret ?_ | refine q_then_exit ?_ | refine q_blk_exit ?_ | refine wpIn_skip ?_ | refine wpIn_ret ?_ | refine wpIn_exit ?_) | ((with_reducible refine q_blk_other ?_ ?_); exact rfl) | ((with_reducible apply c_true); exact rfl; (with_reducible exact rfl)) | ((with_reducible apply c_false); exact rfl; (with_reducible exact rfl)) | ((with_reducible apply s_val); (first | ((with_reducible apply r_allocA); exact z_ok rfl) | ((with_reducible apply r_alloc1); exact z_ok rfl; exact rfl) | ((with_reducible apply r_assign_b); exact rfl) | ((with_reducible apply r_move_p); exact rfl) | ((with_reducible apply r_nilCheck); exact rfl) | ((with_reducible apply r_fld); exact fa_ok rfl; exact rfl) | ((with_reducible apply r_load); exact u_ok rfl; exact rfl; exact rfl; (first | (with_reducible assumption) | assumption | exact at_alloc_new _ _ | (repeat (first | assumption | exact at_alloc_new _ _ | refine at_drew ?_ | refine at_alloc _ ?_))); exact rfl) | ((with_reducible apply r_move_i); exact rfl) | ((with_reducible apply r_look2); exact u_ok rfl; exact u_ok rfl; exact z_ok rfl; exact rfl; exact rfl; (first | (with_reducible assumption) | assumption | exact at_alloc_new _ _ | (repeat (first | assumption | exact at_alloc_new _ _ | refine at_drew ?_ | refine at_alloc _ ?_))); assumption) | ((with_reducible apply r_move_t); exact rfl) | ((with_reducible apply r_extract); exact rfl; exact rfl) | ((with_reducible apply r_loadA); exact u_ok rfl; exact rfl; exact s_ok rfl; exact rfl; (first | (with_reducible assumption) | assumption | exact at_alloc_new _ _ | (repeat (first | assumption | exact at_alloc_new _ _ | refine at_drew ?_ | refine at_alloc _ ?_))); exact Nat.le_of_ble_eq_true rfl) | ((with_reducible apply r_move_b); exact rfl)); (with_reducible exact wnt_none)))); exact h.out) : G := h ⟨k⟩

structure TreeAt (w : World) (t mb : Nat) (es : Array MapEntry) (cl : Nat) (m : List Nd) : Prop where
  head : At w t (cel [.map (some mb)] 53)
  row : At w mb (.map es cl)
  ents : Ents es cl m
theorem TreeAt.apart {w : World} {t mb : Nat} {es : Array MapEntry} {cl : Nat} {m : List Nd} (h : TreeAt w t mb es cl m) : t ≠ mb := fun e => by
  have h1 := h.head
  have h2 := h.row
  subst e
  have h3 : w.heap[t]? = some (.map es cl) := h2
  have h4 : w.heap[t]? = some (cel [.map (some t)] 53) := h1
  rw [h3] at h4
  cases h4
theorem TreeAt.frm {w w' : World} {S : Nat → Prop} {t mb : Nat} {es : Array MapEntry} {cl : Nat} {m : List Nd} (h : TreeAt w t mb es cl m) (f : Frm S w w') (ht : ¬ S t) (hm : ¬ S mb) : TreeAt w' t mb es cl m :=
  ⟨f.at ht h.head, f.at hm h.row, h.ents⟩
theorem TreeAt.frm0 {w w' : World} {t mb : Nat} {es : Array MapEntry} {cl : Nat} {m : List Nd} (h : TreeAt w t mb es cl m) (f : Frm0 w w') : TreeAt w' t mb es cl m := h.frm f id id

theorem setB_alloc (w : World) (o o' : Obj) : setB (w.alloc o) w.heap.size o' = w.alloc o' := by
  unfold setB World.alloc
  congr 1
  apply Array.ext'
  simp
theorem vals_one (x : Nd) : ∀ u ∈ x.vals, one u = true := by
  intro u hu
  simp only [Nd.vals, List.mem_cons, List.not_mem_nil, or_false] at hu
  rcases hu with h | h | h | h | h | h | h <;> subst h <;> rfl
theorem put_whole (x y : Nd) : put y.vals 0 x.vals = x.vals := rfl
section
variable {P : Program} {w : World} {ρ : Operand → Value} {d : Option Nat} {t : Nat} {p : String} {af : Array Edge} {g : Option (Nat × Bool)}
/-- A node stored over another, whole. -/
theorem r_storeN {ty : Nat} {x y : Operand} {b : Nat} {nx ny : Nd} {e : Nat} (hz : szOf P ty = some 7) (hx : ρ x = .pointer (some ⟨b, 0, none⟩)) (hy : ρ y = NdV nx) (hb : At w b (cel ny.vals e)) :
    (execOp ρ ⟨d, .store ty x y, t, p, af, g⟩).run P w = .ok .skip (setB w b (cel nx.vals e)) := by
  have h := r_storeA (d := d) (t := t) (p := p) (af := af) (g := g) hz hx hy rfl (vals_one nx) hb (by simp [Nd.vals])
  rw [put_whole] at h
  exact h
end
theorem res_c2 {P : Program} {w : World} {n : Nat} {ds : List Deferred} {env : Env} {fn : Func} {a ty u b m e : Nat} {D : TypeDesc} {l : List Value} (hr : fn.results = #[.cell a ty, .tmp u]) (hu : P.underlying ty = some D) (hD : isAggD D = true) (hz : szOf P ty = some m) (ha : ev n env (.tmp a) = .pointer (some ⟨b, 0, none⟩)) (hb : At w b (cel l e)) (hl : l.length = m) :
    (results fn (rep n ds env).tmps).run P w = .ok (.tuple [.agg l.toArray, ev n env (.tmp u)].toArray) w := by
  rw [← tmp_getD n ds] at ha ⊢
  have hs : sub l 0 m = l := by rw [← hl]; exact sub_all l
  have h1 : (loadVar ty ⟨b, 0, none⟩).run P w = .ok (.agg l.toArray) w := by
    have h0 := run_loadCells_at (P := P) (off := 0) (n := m) hb (by omega)
    rw [hs] at h0
    simp [loadVar, run_isAgg hu, hD, run_size hz, h0]
  have ha' : (rep n ds env).tmps[a]?.getD undef = .pointer (some ⟨b, 0, none⟩) := by rw [← ha, Array.getD_eq_getD_getElem?]
  simp [results, hr, ha', asAddr, h1]

theorem Len_ret {w : World} {t mb : Nat} {es : Array MapEntry} {cl : Nat} {m : List Nd} (h : TreeAt w t mb es cl m) : Rets Tryd.prog 20 [Ptr t] w fun v w' => v = I m.length ∧ w = w' := by
  obtain ⟨h1, h2, h3⟩ := h
  refine rets_of Tryd.func20 (by kernel_rfl) rfl Tryd.ntmps20 (Nat.le_of_ble_eq_true rfl) ?_
  refine runWTree10 ?_
  refine s_val (r_lenmap (u_ok rfl) rfl h2) wnt_none ?_
  refine runWTree10 ?_
  refine ret_i rfl rfl ⟨?_, rfl⟩
  rw [h3.size]

theorem has_ret {w : World} {t mb : Nat} {es : Array MapEntry} {cl : Nat} {m : List Nd} (h : TreeAt w t mb es cl m) (id : Int) : Rets Tryd.prog 32 [Ptr t, I id] w fun v w' => v = B (there m id) ∧ Frm0 w w' := by
  obtain ⟨h1, h2, h3⟩ := h
  refine rets_of Tryd.func32 (by kernel_rfl) rfl Tryd.ntmps32 (Nat.le_of_ble_eq_true rfl) ?_
  refine runWTree11 ?_
  refine s_skip (r_storeN (ny := ⟨0, 0, 0, 0, 0, 0, 0⟩) (s_ok rfl) rfl rfl (at_alloc_new _ _)) wnt_none ?_
  rw [setB_alloc]
  refine runWTree11 ?_
  exact ret_b rfl rfl ⟨rfl, Frm.of_alloc _ _⟩

theorem bld_treeM (a : Option Nat) (w : World) : (Instr.build 53 [(0, .map a)].toArray).run Tryd.prog w = .ok (.agg [.map a].toArray) w := by kernel_rfl
theorem New_ret (w : World) : Rets Tryd.prog 6 [] w fun v w' => ∃ t mb es cl, v = Ptr t ∧ TreeAt w' t mb es cl [root0] ∧ Frm0 w w' ∧ w.heap.size ≤ t ∧ w.heap.size ≤ mb := by
  refine rets_of Tryd.func6 (by kernel_rfl) rfl Tryd.ntmps6 (Nat.le_of_ble_eq_true rfl) ?_
  refine runWTree12 ?_
  refine s_val r_mkmap wnt_none ?_
  refine s_val (r_build rfl (bld_node0 _)) wnt_none ?_
  obtain ⟨es, cl, hu, hE⟩ := upd_run (x := root0) (P := Tryd.prog) (w := w.alloc (.map #[] 0)) (ty := 51) (id := 0) (u_ok rfl) (u_ok rfl) (at_alloc_new _ _) ents_nil (by simp) rfl
  refine s_skip (r_ins rfl rfl rfl hu) wnt_none ?_
  rw [setB_alloc]
  refine runWTree12 ?_
  refine s_val (r_build rfl (bld_treeM _ _)) wnt_none ?_
  refine runWTree12 ?_
  exact ret_p rfl rfl ⟨_, _, es, cl, rfl, ⟨at_alloc_new _ _, at_alloc _ (at_alloc_new _ _), hE⟩, (Frm.of_alloc _ _).alloc _, by simp, Nat.le_refl _⟩

theorem Find_ret {w : World} {t mb : Nat} {es : Array MapEntry} {cl : Nat} {m : List Nd} (h : TreeAt w t mb es cl m) (id : Int) : Rets Tryd.prog 21 [Ptr t, I id] w fun v w' => v = findV m id ∧ Frm0 w w' := by
  obtain ⟨h1, h2, h3⟩ := h
  have k1 := at_alloc (cel (Nd.vals ⟨0, 0, 0, 0, 0, 0, 0⟩) 40) h1
  have k2 := at_alloc (cel (Nd.vals ⟨0, 0, 0, 0, 0, 0, 0⟩) 40) h2
  refine rets_of Tryd.func21 (by kernel_rfl) rfl Tryd.ntmps21 (Nat.le_of_ble_eq_true rfl) ?_
  refine runWTree13 ?_
  refine s_skip (r_storeN (ny := ⟨0, 0, 0, 0, 0, 0, 0⟩) (s_ok rfl) rfl rfl (at_alloc_new _ _)) wnt_none ?_
  rw [setB_alloc]
  refine runWTree13 ?_
  refine s_skip (r_storeN (nx := ndOr m id) (ny := ⟨0, 0, 0, 0, 0, 0, 0⟩) (s_ok rfl) rfl rfl (at_alloc _ (at_alloc_new _ _))) wnt_none ?_
  refine runWTree13 ?_
  refine ret_run (res_c2 rfl (u_ok rfl) rfl (s_ok rfl) rfl (at_setB _ (at_alloc _ (at_alloc_new _ _))) rfl) ⟨?_, ((Frm.of_alloc _ _).alloc _).setB (.inr (Nat.le_refl _)) _⟩
  show Value.tuple [NdV (ndOr m id), .bool (there m id)].toArray = _
  rw [findV, ndOr]
  cases hf : fnd id m with
  | some x => rw [fnd_there.2 ⟨x, hf⟩]; rfl
  | none =>
    cases ht : there m id with
    | false => rfl
    | true => obtain ⟨x, hx⟩ := fnd_there.1 ht; rw [hf] at hx; cases hx
end Go.Proofs.YtbicffldggcdhaaDoor
