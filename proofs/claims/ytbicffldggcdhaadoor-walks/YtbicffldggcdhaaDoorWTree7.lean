/-
  The program's tree: do (a table of the methods), Apply, walked; and so the contracts of package tree.
-/
import Derived.Test.YtbicffldggcdhaaDoorWTree6
namespace Go.Proofs.YtbicffldggcdhaaDoor
open Go
theorem runWTree70 {G K : Prop} (k : K) (h : Wrap K → G := by intro h; (repeat (first | (with_reducible first | refine wpIn_seq ?_ | refine w_reg ?_ | refine s_nil ?_ | refine s_nilQ ?_ | refine wpIn_block ?_ | refine q_then ?_ | refine q_blk ?_ | refine q_then_ret ?_ | refine q_blk_ret ?_ | refine q_then_exit ?_ | refine q_blk_exit ?_ | refine wpIn_skip ?_ | refine wpIn_ret ?_ | refine wpIn_exit ?_ | refine y_nil ?_ | refine y_nilQ ?_ | refine x_late ?_) | ((with_reducible refine q_blk_other ?_ ?_); exact rfl) | ((with_reducible apply c_true); exact rfl; (with_reducible exact rfl)) | ((with_reducible apply c_false); exact rfl; (with_reducible exact rfl)) | ((first | with_reducible apply s_val | ((with_reducible apply y_val); exact rfl) | ((with_reducible apply x_q); exact rfl; intro wq hq)); (first | ((with_reducible apply r_boxA); exact rfl) | ((with_reducible apply r_box1); exact rfl; exact rfl) | ((with_reducible apply r_assign_if); exact rfl) | ((with_reducible apply r_assign_ni); exact rfl) | ((with_reducible apply r_loadA); exact u_ok rfl; exact rfl; exact s_ok rfl; exact rfl; (first | exact Frm.at0 hq (by assumption) | exact Frm.at hq (by assumption) (by assumption) | (first | (with_reducible assumption) | assumption | exact at_alloc_new _ _ | (repeat (first | assumption | exact at_alloc_new _ _ | refine at_drew ?_ | refine at_alloc _ ?_)))); exact Nat.le_of_ble_eq_true rfl) | ((with_reducible apply r_not_t); exact rfl; (with_reducible exact rfl)) | ((with_reducible apply r_not_f); exact rfl; (with_reducible exact rfl)) | ((with_reducible apply r_not); exact rfl) | ((with_reducible apply r_load); exact u_ok rfl; exact rfl; exact rfl; (first | exact Frm.at0 hq (by assumption) | exact Frm.at hq (by assumption) (by assumption) | (first | (with_reducible assumption) | assumption | exact at_alloc_new _ _ | (repeat (first | assumption | exact at_alloc_new _ _ | refine at_drew ?_ | refine at_alloc _ ?_)))); exact rfl) | ((with_reducible apply r_allocA); exact z_ok rfl) | ((with_reducible apply r_alloc1); exact z_ok rfl; exact rfl) | ((with_reducible apply r_fld); exact fa_ok rfl; exact rfl) | ((with_reducible apply r_index); exact u_ok rfl; exact s_ok rfl; exact rfl; exact rfl; omega; omega) | ((with_reducible apply r_indexarr); exact u_ok rfl; exact s_ok rfl; exact rfl; exact rfl; omega; omega) | ((with_reducible apply r_move_p); exact rfl)); (with_reducible exact wnt_none)))); exact h.out) : G := h ⟨k⟩

section
variable {P : Program} {w : World} {n d t : Nat} {ds : List Deferred} {env : Env} {ops : Array Oper} {Q : Exit → Act → World → Prop} {p : String} {af : Array Edge} {g : Option (Nat × Bool)} {i : Nat} {l2 : List Nat}
theorem y_callv {c : Operand} {f : Nat} {xs : List Operand} {tys : Array Nat} {args : List Value} {φ : Value → World → Prop} (ho : ops.toList[i]? = some ⟨some d, .call { callee := .value c, args := xs.toArray, argTypes := tys }, t, p, af, g⟩) (hv : ev n env c = .func (.func f) #[] #[]) (hc : Rets P f args w φ) (ha : xs.map (ev n env) = args) (hw : Wnt n env ops g = true) (k : ∀ v w', φ v w' → WpX2 P ops Q l2 (rep n ds (upd env d v)) w') : WpX2 P ops Q (i :: l2) (rep n ds env) w :=
  ⟨x_op ho hw (ow_call hc (fun hf => by rw [r_callv hv hf, ha]; simp) fun v w' hv => (k v w' hv).out)⟩
end

theorem r_storeW {P : Program} {w : World} {ρ : Operand → Value} {d : Option Nat} {t : Nat} {p : String} {af : Array Edge} {g : Option (Nat × Bool)} {ty : Nat} {x y : Operand} {b m : Nat} {l vs : List Value} {e : Nat} (hz : szOf P ty = some m) (hx : ρ x = .pointer (some ⟨b, 0, none⟩)) (hy : ρ y = .agg vs.toArray) (hm : vs.length = m) (hv : ∀ v ∈ vs, one v = true) (hb : At w b (cel l e)) (hl : 0 + m ≤ l.length) (hp : put l 0 vs = vs) :
    (execOp ρ ⟨d, .store ty x y, t, p, af, g⟩).run P w = .ok .skip (setB w b (cel vs e)) := by
  have h := r_storeA (d := d) (t := t) (p := p) (af := af) (g := g) hz hx hy hm hv hb hl
  rw [hp] at h
  exact h
abbrev Fn0 (f : Nat) : Value := .func (.func f) #[] #[]
def deeds : List Value := [.nilFunc, Fn0 23, Fn0 24, Fn0 25, Fn0 26]
theorem bld_deeds (w : World) : (Instr.build 66 [(1, Fn0 23), (2, Fn0 24), (3, Fn0 25), (4, Fn0 26)].toArray).run Tryd.prog w = .ok (.agg deeds.toArray) w := by kernel_rfl
theorem deeds_one : ∀ v ∈ deeds, one v = true := by
  intro v hv
  simp only [deeds, List.mem_cons, List.not_mem_nil, or_false] at hv
  rcases hv with h | h | h | h | h <;> subst h <;> rfl
theorem DoneL.from {ea : List Addr} {w w1 w' : World} {t mb : Nat} {l : List Nd} {e : Ed} {v : Value} (hf : Frm0 w w1) (h : DoneL ea w1 w' t mb l e v) : DoneL ea w w' t mb l e v :=
  ⟨h.1, h.2.1, (hf.mono (T := fun b => b = mb) (fun _ h => h.elim)).trans h.2.2 (fun _ h => .inl h)⟩

theorem deed {w : World} {t mb : Nat} {es : Array MapEntry} {cl : Nat} {m l : List Nd} {ea : List Addr} (h : TreeAt w t mb es cl m) (hp : m.Perm l) (hw : Wf l) (hE : Err6 w ea) (e : Ed) (hok : wrongB e = false) :
    ∃ f, deeds[0 + e.kind.toNat * 1]? = some (Fn0 f) ∧ Rets Tryd.prog f [Ptr t, EdV e] w fun v w' => DoneL ea w w' t mb l e v := by
  rcases kinds_of hok with k | k | k | k
  · exact ⟨_, by rw [k]; rfl, create_ret h hp hw hE e hok k⟩
  · exact ⟨_, by rw [k]; rfl, move_ret h hp hw hE e hok k⟩
  · exact ⟨_, by rw [k]; rfl, remove_ret h hp hw hE e hok k⟩
  · exact ⟨_, by rw [k]; rfl, set_ret h hp hw hE e hok k⟩

set_option maxHeartbeats 1000000 in
theorem do_ret {w : World} {t mb : Nat} {es : Array MapEntry} {cl : Nat} {m l : List Nd} {ea : List Addr} (h : TreeAt w t mb es cl m) (hp : m.Perm l) (hw : Wf l) (hE : Err6 w ea) (e : Ed) :
    Rets Tryd.prog 14 [Ptr t, EdV e] w fun v w' => DoneL ea w w' t mb l e v := by
  refine rets_of Tryd.func14 (by kernel_rfl) rfl Tryd.ntmps14 (Nat.le_of_ble_eq_true rfl) ?_
  refine runWTree70 ?_
  refine s_callf (allowed_ret e _) rfl wnt_none ?_
  rintro v w1 ⟨rfl, hf1⟩
  have hbox1 : At w1 w.heap.size (cel e.vals 34) := hf1.at0 (at_alloc_new _ _)
  have hF1 : Frm0 w w1 := (Frm.of_alloc _ _).trans0 hf1
  clear hf1
  cases hok : wrongB e
  · (try simp only [Bool.not_false]); (try simp only [Bool.not_true])
    have hk := kinds_of hok
    refine runWTree70 ?_
    refine s_val (r_build rfl (bld_deeds _)) wnt_none ?_
    refine runWTree70 ?_
    refine s_skip (r_storeW (vs := deeds) (s_ok rfl) rfl rfl rfl deeds_one (at_alloc_new _ _) (by simp) rfl) wnt_none ?_
    rw [setB_alloc]
    have hT := at_alloc_new w1 (cel deeds 66)
    have hF2 := hF1.alloc (cel deeds 66)
    have hbox2 := at_alloc (cel deeds 66) hbox1
    generalize w1.alloc (cel deeds 66) = w2 at *
    obtain ⟨f, hf, hret⟩ := deed (h.frm0 hF2.drew) hp hw (hE.frm0 hF2.drew) e hok
    refine runWTree70 ?_
    refine w_drawn [(0, false), (1, false), (2, false), (3, false), (4, false), (5, false)] [6, 7] (fun wq => Frm0 w2 wq) mixed (by kernel_rfl) ?_ ?_
    · exact Frm.of_drew _
    · refine runWTree70 ?_
      refine x_q rfl (fun wq hq => r_load (u_ok rfl) rfl rfl (hq.at0 hT) hf) wnt_none ?_
      refine runWTree70 ?_
      refine y_callv rfl rfl hret rfl wnt_none ?_
      rintro v w3 hd
      have hd' := hd.from hF2.drew
      rcases hd.1 with ⟨_, rfl⟩ | ⟨_, ad, rfl, _⟩
      · refine runWTree70 ?_
        exact ret_ni rfl rfl hd'
      · refine runWTree70 ?_
        exact ret_if rfl rfl hd'
  · (try simp only [Bool.not_false]); (try simp only [Bool.not_true])
    obtain ⟨ad, ty, kk, ha, hA⟩ := err_at (hE.frm0 hF1) 0 0 rfl
    refine runWTree70 ?_
    exact ret_if rfl rfl (done_no h hp hF1 (rf_wrong hok) ha)
end Go.Proofs.YtbicffldggcdhaaDoor
