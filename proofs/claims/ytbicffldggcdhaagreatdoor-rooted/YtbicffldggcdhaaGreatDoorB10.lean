/-
  WQ25; WRefP5; WRefP6; WRefP7; WRefP8; WRefP9; WRefP10.
-/
import Derived.Test.YtbicffldggcdhaaGreatDoorB09
import Derived.Test.YtbicffldggcdhaaGreatDoorB06
import Derived.Test.YtbicffldggcdhaaGreatDoorB07
namespace Go.Proofs.YtbicffldggcdhaaGreatDoor
open Go
theorem runG10 {G K : Prop} (k : K) (h : Wrap K → G := by intro h; (repeat (first | (with_reducible first | refine wpIn_seq ?_ | refine w_reg ?_ | refine s_nil ?_ | refine s_nilQ ?_ | refine wpIn_block ?_ | refine q_then ?_ | refine q_blk ?_ | refine q_then_ret ?_ | refine q_blk_ret ?_ | refine q_then_exit ?_ | refine q_blk_exit ?_ | refine wpIn_skip ?_ | refine wpIn_ret ?_ | refine wpIn_exit ?_ | refine y_nil ?_ | refine y_nilQ ?_ | refine x_late ?_) | ((with_reducible refine q_blk_other ?_ ?_); exact rfl) | ((with_reducible apply c_true); exact rfl; (with_reducible exact rfl)) | ((with_reducible apply c_false); exact rfl; (with_reducible exact rfl)) | ((with_reducible apply s_no); (first | ((with_reducible apply wnt_nt); exact rfl; exact rfl; exact rfl; exact rfl; (with_reducible exact rfl)) | ((with_reducible apply wnt_nf); exact rfl; exact rfl; exact rfl; exact rfl; (with_reducible exact rfl)))) | ((with_reducible apply x_qno); exact rfl; (first | ((with_reducible apply wnt_nt); exact rfl; exact rfl; exact rfl; exact rfl; (with_reducible exact rfl)) | ((with_reducible apply wnt_nf); exact rfl; exact rfl; exact rfl; exact rfl; (with_reducible exact rfl)))) | ((first | with_reducible apply s_val | ((with_reducible apply y_val); exact rfl) | ((with_reducible apply x_q); exact rfl; intro wq hq)); (first | ((with_reducible apply r_assign_p); exact rfl) | ((with_reducible apply r_assign_if); exact rfl) | ((with_reducible apply r_assign_ni); exact rfl) | ((with_reducible apply r_move_p); exact rfl) | ((with_reducible apply r_move_i); exact rfl) | ((with_reducible apply r_move_t); exact rfl) | ((with_reducible apply r_extract); exact rfl; exact rfl) | ((with_reducible apply r_move_if); exact rfl) | ((with_reducible apply r_move_ni); exact rfl) | ((with_reducible apply r_neq_t); exact rfl; exact rfl; omega) | ((with_reducible apply r_neq_f); exact rfl; exact rfl; omega) | ((with_reducible apply r_neq); exact rfl; exact rfl) | ((with_reducible apply r_assign_i); exact rfl) | ((with_reducible apply r_nilCheck); exact rfl) | ((with_reducible apply r_fld); exact fa_ok rfl; exact rfl) | ((with_reducible apply r_load); exact u_ok rfl; exact rfl; exact rfl; (first | exact Frm.at0 hq (by assumption) | exact Frm.at hq (by assumption) (by assumption) | (first | (with_reducible assumption) | assumption | exact at_alloc_new _ _ | (repeat (first | assumption | exact at_alloc_new _ _ | refine at_drew ?_ | refine at_alloc _ ?_)))); (first | exact mid_get rfl | exact mid_get2 rfl | exact mid_get0 rfl | exact rfl)) | ((with_reducible apply r_assign_s); exact rfl) | ((with_reducible apply r_boxA); exact rfl) | ((with_reducible apply r_box1); exact rfl; exact rfl) | ((with_reducible apply r_eql_t); exact rfl; exact rfl; omega) | ((with_reducible apply r_eql_f); exact rfl; exact rfl; omega) | ((with_reducible apply r_eql); exact rfl; exact rfl) | ((with_reducible apply r_loadA); exact u_ok rfl; exact rfl; exact s_ok rfl; exact rfl; (first | exact Frm.at0 hq (by assumption) | exact Frm.at hq (by assumption) (by assumption) | (first | (with_reducible assumption) | assumption | exact at_alloc_new _ _ | (repeat (first | assumption | exact at_alloc_new _ _ | refine at_drew ?_ | refine at_alloc _ ?_)))); exact Nat.le_of_ble_eq_true rfl) | ((with_reducible apply r_assign_b); exact rfl) | ((with_reducible apply r_move_b); exact rfl) | ((with_reducible apply r_len); exact u_ok rfl; exact rfl) | ((with_reducible apply r_geq_t); exact rfl; exact rfl; omega) | ((with_reducible apply r_geq_f); exact rfl; exact rfl; omega) | ((with_reducible apply r_geq); exact rfl; exact rfl) | ((with_reducible apply r_add); exact rfl; exact rfl; omega; omega) | ((with_reducible apply r_lss_t); exact rfl; exact rfl; omega) | ((with_reducible apply r_lss_f); exact rfl; exact rfl; omega) | ((with_reducible apply r_lss); exact rfl; exact rfl) | ((with_reducible apply r_index); exact u_ok rfl; exact s_ok rfl; exact rfl; exact rfl; omega; omega) | ((with_reducible apply r_indexarr); exact u_ok rfl; exact s_ok rfl; exact rfl; exact rfl; omega; omega) | ((with_reducible apply r_pick_t); exact rfl; (with_reducible exact rfl); exact rfl) | ((with_reducible apply r_pick_f); exact rfl; (with_reducible exact rfl); exact rfl) | ((with_reducible apply r_sub); exact rfl; exact rfl; omega; omega) | ((with_reducible apply r_leq_t); exact rfl; exact rfl; omega) | ((with_reducible apply r_leq_f); exact rfl; exact rfl; omega) | ((with_reducible apply r_leq); exact rfl; exact rfl) | ((with_reducible apply r_allocA); exact z_ok rfl) | ((with_reducible apply r_alloc1); exact z_ok rfl; exact rfl)); (first | (with_reducible exact wnt_none) | ((with_reducible apply wnt_y); exact rfl; exact rfl; exact rfl; exact rfl; (with_reducible exact rfl)))))); exact h.out) : G := h ⟨k⟩

theorem res_3 {P : Program} {w : World} {n : Nat} {ds : List Deferred} {env : Env} {fn : Func} {t u s : Nat} (hr : fn.results = #[.tmp t, .tmp u, .tmp s]) : (results fn (rep n ds env).tmps).run P w = .ok (.tuple #[ev n env (.tmp t), ev n env (.tmp u), ev n env (.tmp s)]) w := by
  rw [← tmp_getD n ds, ← tmp_getD n ds, ← tmp_getD n ds]
  simp [results, hr]
theorem ret_3 {P : Program} {w : World} {n : Nat} {env : Env} {fn : Func} {t u s : Nat} {v1 v2 v3 : Value} {φ : Value → World → Prop} (hr : fn.results = #[.tmp t, .tmp u, .tmp s]) (hv1 : ev n env (.tmp t) = v1) (hv2 : ev n env (.tmp u) = v2) (hv3 : ev n env (.tmp s) = v3) (h : φ (.tuple #[v1, v2, v3]) w) : bodyPost P fn (fun e w' => ∃ v, e = .returned v ∧ φ v w') .ret (rep n [] env) w :=
  ret_run (res_3 hr) (by rw [hv1, hv2, hv3]; exact h)
theorem ErrIs.one1 {ea : List Addr} {w : World} {v : Value} {e : Ed} (h : ErrIs ea w v 1 e) : ∃ b a, v = .iface 95 (Ptr b) ∧ At w b (cel (e.vals ++ [errV a]) 97) ∧ ea[0]? = some a := by
  rcases h with ⟨h, _⟩ | ⟨_, b, a, h1, h2, h3⟩
  · cases h
  · exact ⟨b, a, h1, h2, h3⟩
section
variable {PT : PTy} (sp : TreeSpec PT) (cs : CloneSpec PT) {w : World} {col : Nat → Nat} {k p : Nat} {Q : PPar}
set_option maxHeartbeats 1000000 in
theorem PView_ret (sp : TreeSpec PT) (cs : CloneSpec PT) (hP : PP PT w col k p Q) {ea : List Addr} (hE : Errs w ea) (hb : QB Q) (i : Int) :
    Rets Tryz.prog 29 [Ptr p, I i] w fun v w' => (match Q.cl i with | none => ∃ u, v = .tuple #[.pointer none, u] ∧ ErrIs ea w' u 1 ed0 | some c => ∃ t, v = .tuple #[Ptr t, .nilIface] ∧ PT w' t (viewD c) (fun b => w.heap.size ≤ b) ∧ Wf (viewD c)) ∧ Frm0 w w' := by
  obtain ⟨t, lv, mb, cb, cap, rest, ms, h⟩ := hP
  have hcl := h.cl i
  refine rets_of Tryz.func29 (by kernel_rfl) rfl Tryz.ntmps29 (Nat.le_of_ble_eq_true rfl) ?_
  refine runG10 ?_
  refine s_callf (find_ret h hE i) rfl wnt_none ?_
  rintro v w1 ⟨hv, f1⟩
  cases hc : Q.cl i with
  | none =>
    rw [hc] at hv
    obtain ⟨a, rfl, ha⟩ := hv
    refine runG10 ?_
    refine s_val (r_nnT rfl) wnt_none ?_
    refine runG10 ?_
    refine s_val (r_build rfl (bld_ed0 _)) wnt_none ?_
    refine runG10 ?_
    refine s_callf (refusal_ret (n := 1) (.inr ⟨Nat.succ_pos _, a, rfl, ha⟩) ed0) rfl wnt_none ?_
    rintro u w2 ⟨hu, f2, _⟩
    obtain ⟨b, a2, rfl, _⟩ := hu.one1
    refine runG10 ?_
    exact ret_2 rfl rfl rfl ⟨⟨_, rfl, hu⟩, f1.trans0 f2⟩
  | some c =>
    rw [hc] at hv
    obtain ⟨m, hm, h0, rfl⟩ := hv
    have hcm : c = m.c := by
      rw [hcl, if_neg (by omega), hm] at hc
      exact (Option.some.inj hc).symm
    subst hcm
    have h1 := h.frm0 sp f1
    have hmem : m.c ∈ Q.cls := by rw [h.cls]; exact List.mem_map_of_mem (List.mem_of_getElem? hm)
    refine runG10 ?_
    refine s_val (r_nnF rfl) wnt_none ?_
    refine runG10 ?_
    refine s_callf (cview_ret sp cs (h1.at_ hm) (hE.frm0 f1) (hb.cl _ hmem).1) rfl wnt_none ?_
    rintro v w2 ⟨t', rfl, hT, f2⟩
    have s1 := f1.size
    refine runG10 ?_
    exact ret_2 rfl rfl rfl ⟨⟨t', rfl, sp.weak hT (fun b hb _ => by omega), wf_all _ (h1.at_ hm).m.wf⟩, f1.trans0 f2⟩
set_option maxHeartbeats 1000000 in
theorem PBase_ret (sp : TreeSpec PT) (cs : CloneSpec PT) (hP : PP PT w col k p Q) {ea : List Addr} (hE : Errs w ea) (i : Int) :
    Rets Tryz.prog 26 [Ptr p, I i] w fun v w' => (match Q.cl i with | none => ∃ u, v = .tuple #[.pointer none, I 0, u] ∧ ErrIs ea w' u 1 ed0 | some c => ∃ t, v = .tuple #[Ptr t, I c.n, .nilIface] ∧ PT w' t c.base (fun b => w.heap.size ≤ b) ∧ Wf c.base) ∧ Frm0 w w' := by
  obtain ⟨t, lv, mb, cb, cap, rest, ms, h⟩ := hP
  have hcl := h.cl i
  refine rets_of Tryz.func26 (by kernel_rfl) rfl Tryz.ntmps26 (Nat.le_of_ble_eq_true rfl) ?_
  refine runG10 ?_
  refine s_callf (find_ret h hE i) rfl wnt_none ?_
  rintro v w1 ⟨hv, f1⟩
  cases hc : Q.cl i with
  | none =>
    rw [hc] at hv
    obtain ⟨a, rfl, ha⟩ := hv
    refine runG10 ?_
    refine s_val (r_nnT rfl) wnt_none ?_
    refine runG10 ?_
    refine s_val (r_build rfl (bld_ed0 _)) wnt_none ?_
    refine runG10 ?_
    refine s_callf (refusal_ret (n := 1) (.inr ⟨Nat.succ_pos _, a, rfl, ha⟩) ed0) rfl wnt_none ?_
    rintro u w2 ⟨hu, f2, _⟩
    obtain ⟨b, a2, rfl, _⟩ := hu.one1
    refine runG10 ?_
    exact ret_3 rfl rfl rfl rfl ⟨⟨_, rfl, hu⟩, f1.trans0 f2⟩
  | some c =>
    rw [hc] at hv
    obtain ⟨m, hm, h0, rfl⟩ := hv
    have hcm : c = m.c := by
      rw [hcl, if_neg (by omega), hm] at hc
      exact (Option.some.inj hc).symm
    subst hcm
    have h1 := h.frm0 sp f1
    have hA := h1.at_ hm
    have hrow := hA.row
    generalize fl CM.vals (ms.take i.toNat) = pre at *
    generalize fl CM.vals (ms.drop (i.toNat + 1)) ++ rest = post at *
    refine runG10 ?_
    refine s_val (r_nnF rfl) wnt_none ?_
    refine runG10 ?_
    refine w_drawn ((0, false) :: (1, false) :: (2, false) :: (3, false) :: (4, false) :: (6, false) :: (7, false) :: (8, false) :: (9, false) :: (10, false) :: (5, true) :: (11, false) :: (12, false) :: (13, false) :: []) [] (fun wq => Frm0 w1 wq) mixed (by kernel_rfl) ?_ ?_
    · exact Frm.of_drew _
    · refine runG10 ?_
      refine x_callf rfl (cs (sp.frm hA.m.base (Frm.of_drew (S := fun _ => False) w1) (fun _ _ h => h))) rfl wnt_none ?_
      rintro v w2 ⟨t', rfl, hT, f2⟩
      have f12 : Frm0 w1 w2 := (Frm.of_drew w1).trans0 f2
      refine ⟨f12, ?_⟩
      have s1 := f1.size
      have hrow2 := f12.at0 hrow
      refine runG10 ?_
      exact ret_3 rfl rfl rfl rfl ⟨⟨t', rfl, sp.weak hT (fun b hb _ => Nat.le_trans s1 hb), hA.m.wf⟩, f1.trans0 f12⟩
end
end Go.Proofs.YtbicffldggcdhaaGreatDoor

namespace Go.Proofs.YtbicffldggcdhaaGreatDoor
open Go

end Go.Proofs.YtbicffldggcdhaaGreatDoor

namespace Go.Proofs.YtbicffldggcdhaaGreatDoor
open Go

end Go.Proofs.YtbicffldggcdhaaGreatDoor

namespace Go.Proofs.YtbicffldggcdhaaGreatDoor
open Go

end Go.Proofs.YtbicffldggcdhaaGreatDoor

namespace Go.Proofs.YtbicffldggcdhaaGreatDoor
open Go

end Go.Proofs.YtbicffldggcdhaaGreatDoor

namespace Go.Proofs.YtbicffldggcdhaaGreatDoor
open Go

section
variable {w w' : World} {col col' : Nat → Nat} {k p r b cap : Nat} {rest : List Value} {es : Value} {lb lcap : Nat} {lrest : List Value} {cs : List Nat} {P : Par}
end
end Go.Proofs.YtbicffldggcdhaaGreatDoor

namespace Go.Proofs.YtbicffldggcdhaaGreatDoor
open Go

end Go.Proofs.YtbicffldggcdhaaGreatDoor
