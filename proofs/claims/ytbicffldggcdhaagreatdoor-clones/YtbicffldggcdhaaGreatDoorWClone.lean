/-
  The program's tree: Clone, walked.
-/
import Derived.Test.YtbicffldggcdhaaGreatDoorWTree8
import Derived.Test.YtbicffldggcdhaaGreatDoorWLaw10
import Derived.Shelf.SlMaps.Clone
namespace Go.Proofs.YtbicffldggcdhaaGreatDoor
open Go
theorem runWClone0 {G K : Prop} (k : K) (h : Wrap K → G := by intro h; (repeat (first | (with_reducible first | refine wpIn_seq ?_ | refine w_reg ?_ | refine s_nil ?_ | refine s_nilQ ?_ | refine wpIn_block ?_ | refine q_then ?_ | refine q_blk ?_ | refine q_then_ret ?_ | refine q_blk_ret ?_ | refine q_then_exit ?_ | refine q_blk_exit ?_ | refine wpIn_skip ?_ | refine wpIn_ret ?_ | refine wpIn_exit ?_) | ((with_reducible refine q_blk_other ?_ ?_); exact rfl) | ((with_reducible apply c_true); exact rfl; (with_reducible exact rfl)) | ((with_reducible apply c_false); exact rfl; (with_reducible exact rfl)) | ((with_reducible apply s_val); (first | ((with_reducible apply r_assign_p); exact rfl) | ((with_reducible apply r_move_p); exact rfl) | ((with_reducible apply r_nilCheck); exact rfl) | ((with_reducible apply r_fld); exact fa_ok rfl; exact rfl) | ((with_reducible apply r_load); exact u_ok rfl; exact rfl; exact rfl; (first | (with_reducible assumption) | assumption | exact at_alloc_new _ _ | (repeat (first | assumption | exact at_alloc_new _ _ | refine at_drew ?_ | refine at_alloc _ ?_))); exact rfl) | ((with_reducible apply r_boxA); exact rfl) | ((with_reducible apply r_box1); exact rfl; exact rfl)); (with_reducible exact wnt_none)))); exact h.out) : G := h ⟨k⟩

def cloneNd_ren : Go.Shelf.Ren := ⟨fun | 5 => 43 | 7 => 69 | n => n, fun | 23 => 91 | 25 => 3 | 3 => 90 | 4 => 4 | 20 => 20 | n => n, fun | n => n⟩
theorem cloneNd : Go.Proofs.SlLaysW.n5 Tryz.prog cloneNd_ren := {
  mixed := by kernel_rfl,
  f5 := ⟨Tryz.f43.name, by decide, Tryz.func43.trans (congrArg some (by kernel_rfl))⟩,
  f7 := Tryz.func69.trans (congrArg some (by kernel_rfl)),
  t4 := Tryz.underlying4,
  a4 := Tryz.isAgg4,
  z4 := Tryz.sizeOf4,
  v4 := Tryz.zeroValue4,
  t20 := Tryz.underlying20,
  a20 := Tryz.isAgg20,
  z20 := Tryz.sizeOf20,
  v20 := Tryz.zeroValue20,
  t23 := Tryz.underlying91,
  a23 := Tryz.isAgg91,
  z23 := Tryz.sizeOf91,
  v23 := Tryz.zeroValue91 }

theorem mapsClone_ret {w : World} {mb : Nat} {es : Array MapEntry} {cl : Nat} (hb : At w mb (.map es cl)) : Rets Tryz.prog 43 [.map (some mb)] w fun v w' => v = .map (some w.heap.size) ∧ w.alloc (.map es cl) = w' :=
  ⟨by kernel_rfl, (AnyW.maps_Clone cloneNd mb es cl w hb).mono fun _ _ ⟨he, hw⟩ => ⟨_, he, rfl, hw.symm⟩⟩
theorem Clone_ret {w : World} {t mb : Nat} {es : Array MapEntry} {cl : Nat} {m : List Nd} (h : TreeAt w t mb es cl m) : Rets Tryz.prog 17 [Ptr t] w fun v w' => ∃ t' mb', v = Ptr t' ∧ TreeAt w' t' mb' es cl m ∧ w.heap.size ≤ t' ∧ w.heap.size ≤ mb' ∧ Frm0 w w' := by
  have h1 := h.head
  have h2 := h.row
  refine rets_of Tryz.func17 (by kernel_rfl) rfl Tryz.ntmps17 (Nat.le_of_ble_eq_true rfl) ?_
  refine runWClone0 ?_
  refine s_callf (mapsClone_ret h2) rfl wnt_none ?_
  rintro v w1 ⟨rfl, rfl⟩
  refine s_val (r_build rfl (bld_treeM _ _)) wnt_none ?_
  refine runWClone0 ?_
  exact ret_p rfl rfl ⟨_, _, rfl, ⟨at_alloc_new _ _, at_alloc _ (at_alloc_new _ _), h.ents⟩, by simp, Nat.le_refl _, (Frm.of_alloc _ _).alloc _⟩
theorem cloneSpec : CloneSpec PT := fun ⟨_, es, cl, m, h, hp, _, _⟩ => (Clone_ret h).mono fun _ _ ⟨t', mb', hv, h', h1, h2, f⟩ => ⟨t', hv, ⟨mb', es, cl, m, h', hp, h1, h2⟩, f⟩
end Go.Proofs.YtbicffldggcdhaaGreatDoor
