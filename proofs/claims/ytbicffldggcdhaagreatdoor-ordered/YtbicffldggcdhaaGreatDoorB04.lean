/-
  WLaw5; WLaw6; WLaw7; WLaw8; WLaw9; WLaw10; WClone; LScr; LSeg; WRef7; LKids2; WRef8; WWk1; LScr2; LRow.
-/
import Derived.Test.YtbicffldggcdhaaGreatDoorB03
import Derived.Shelf.SlMaps.Clone
import Derived.Deep.Slices
import Derived.SizedLaws
import Derived.ChangeArms
import Derived.Test.YtbicffldggcdhaaGreatDoorB02
namespace Go.Proofs.YtbicffldggcdhaaGreatDoor
open Go
theorem runG04 {G K : Prop} (k : K) (h : Wrap K → G := by intro h; (repeat (first | (with_reducible first | refine wpIn_seq ?_ | refine w_reg ?_ | refine s_nil ?_ | refine s_nilQ ?_ | refine wpIn_block ?_ | refine q_then ?_ | refine q_blk ?_ | refine q_then_ret ?_ | refine q_blk_ret ?_ | refine q_then_exit ?_ | refine q_blk_exit ?_ | refine wpIn_skip ?_ | refine wpIn_ret ?_ | refine wpIn_exit ?_ | refine y_nil ?_ | refine y_nilQ ?_ | refine x_late ?_) | ((with_reducible refine q_blk_other ?_ ?_); exact rfl) | ((with_reducible apply c_true); exact rfl; (with_reducible exact rfl)) | ((with_reducible apply c_false); exact rfl; (with_reducible exact rfl)) | ((with_reducible apply s_no); (first | ((with_reducible apply wnt_nt); exact rfl; exact rfl; exact rfl; exact rfl; (with_reducible exact rfl)) | ((with_reducible apply wnt_nf); exact rfl; exact rfl; exact rfl; exact rfl; (with_reducible exact rfl)))) | ((with_reducible apply x_qno); exact rfl; (first | ((with_reducible apply wnt_nt); exact rfl; exact rfl; exact rfl; exact rfl; (with_reducible exact rfl)) | ((with_reducible apply wnt_nf); exact rfl; exact rfl; exact rfl; exact rfl; (with_reducible exact rfl)))) | ((first | with_reducible apply s_val | ((with_reducible apply y_val); exact rfl) | ((with_reducible apply x_q); exact rfl; intro wq hq)); (first | ((with_reducible apply r_boxA); exact rfl) | ((with_reducible apply r_box1); exact rfl; exact rfl) | ((with_reducible apply r_assign_b); exact rfl) | ((with_reducible apply r_fld); exact fa_ok rfl; exact rfl) | ((with_reducible apply r_load); exact u_ok rfl; exact rfl; exact rfl; (first | exact Frm.at0 hq (by assumption) | exact Frm.at hq (by assumption) (by assumption) | (first | (with_reducible assumption) | assumption | exact at_alloc_new _ _ | (repeat (first | assumption | exact at_alloc_new _ _ | refine at_drew ?_ | refine at_alloc _ ?_)))); exact rfl) | ((with_reducible apply r_eql_t); exact rfl; exact rfl; omega) | ((with_reducible apply r_eql_f); exact rfl; exact rfl; omega) | ((with_reducible apply r_eql); exact rfl; exact rfl) | ((with_reducible apply r_loadA); exact u_ok rfl; exact rfl; exact s_ok rfl; exact rfl; (first | exact Frm.at0 hq (by assumption) | exact Frm.at hq (by assumption) (by assumption) | (first | (with_reducible assumption) | assumption | exact at_alloc_new _ _ | (repeat (first | assumption | exact at_alloc_new _ _ | refine at_drew ?_ | refine at_alloc _ ?_)))); exact Nat.le_of_ble_eq_true rfl) | ((with_reducible apply r_assign_if); exact rfl) | ((with_reducible apply r_assign_ni); exact rfl) | ((with_reducible apply r_assign_i); exact rfl) | ((with_reducible apply r_move_if); exact rfl) | ((with_reducible apply r_move_ni); exact rfl) | ((with_reducible apply r_move_i); exact rfl) | ((with_reducible apply r_move_t); exact rfl) | ((with_reducible apply r_extract); exact rfl; exact rfl) | ((with_reducible apply r_allocA); exact z_ok rfl) | ((with_reducible apply r_alloc1); exact z_ok rfl; exact rfl) | ((with_reducible apply r_lss_t); exact rfl; exact rfl; omega) | ((with_reducible apply r_lss_f); exact rfl; exact rfl; omega) | ((with_reducible apply r_lss); exact rfl; exact rfl) | ((with_reducible apply r_move_b); exact rfl) | ((with_reducible apply r_not_t); exact rfl; (with_reducible exact rfl)) | ((with_reducible apply r_not_f); exact rfl; (with_reducible exact rfl)) | ((with_reducible apply r_not); exact rfl) | ((with_reducible apply r_pick_t); exact rfl; (with_reducible exact rfl); exact rfl) | ((with_reducible apply r_pick_f); exact rfl; (with_reducible exact rfl); exact rfl) | ((with_reducible apply r_nilCheck); exact rfl) | ((with_reducible apply r_index); exact u_ok rfl; exact s_ok rfl; exact rfl; exact rfl; omega; omega) | ((with_reducible apply r_indexarr); exact u_ok rfl; exact s_ok rfl; exact rfl; exact rfl; omega; omega) | ((with_reducible apply r_len); exact u_ok rfl; exact rfl) | ((with_reducible apply r_assign_p); exact rfl) | ((with_reducible apply r_move_p); exact rfl) | ((with_reducible apply r_geq_t); exact rfl; exact rfl; omega) | ((with_reducible apply r_geq_f); exact rfl; exact rfl; omega) | ((with_reducible apply r_geq); exact rfl; exact rfl) | ((with_reducible apply r_leq_t); exact rfl; exact rfl; omega) | ((with_reducible apply r_leq_f); exact rfl; exact rfl; omega) | ((with_reducible apply r_leq); exact rfl; exact rfl) | ((with_reducible apply r_gtr_t); exact rfl; exact rfl; omega) | ((with_reducible apply r_gtr_f); exact rfl; exact rfl; omega) | ((with_reducible apply r_gtr); exact rfl; exact rfl) | ((with_reducible apply r_assign_s); exact rfl) | ((with_reducible apply r_move_s); exact rfl) | ((with_reducible apply r_add); exact rfl; exact rfl; omega; omega)); (first | (with_reducible exact wnt_none) | ((with_reducible apply wnt_y); exact rfl; exact rfl; exact rfl; exact rfl; (with_reducible exact rfl)))))); exact h.out) : G := h ⟨k⟩

structure OpR where
  kind : Int
  a : Int
  b : Int
  c : Int
  e : Ed
section
variable {PT : World → Nat → List Nd → (Nat → Prop) → Prop}
end
end Go.Proofs.YtbicffldggcdhaaGreatDoor

namespace Go.Proofs.YtbicffldggcdhaaGreatDoor
open Go
section
variable {PT : World → Nat → List Nd → (Nat → Prop) → Prop}
end
end Go.Proofs.YtbicffldggcdhaaGreatDoor

namespace Go.Proofs.YtbicffldggcdhaaGreatDoor
open Go
section
variable {PT : World → Nat → List Nd → (Nat → Prop) → Prop}
end
end Go.Proofs.YtbicffldggcdhaaGreatDoor

namespace Go.Proofs.YtbicffldggcdhaaGreatDoor
open Go

def z0 : Ed := ⟨0, 0, 0, 0, 0, 0⟩
def k0 (k : Int) : OpR := ⟨k, 0, 0, 0, z0⟩
end Go.Proofs.YtbicffldggcdhaaGreatDoor

namespace Go.Proofs.YtbicffldggcdhaaGreatDoor
open Go

theorem run_append0 {P : Program} {w : World} {sT xT ty e sz n : Nat} {v : Value} {D : TypeDesc} {pre : List Value} (hu : P.underlying sT = some (.slice e)) (hx : P.underlying xT = some D) (hD : ∀ kk, D ≠ .int kk) (hs : szOf P e = some sz)
    (hrow : Row w v e sz n pre) (a : Option Addr) (c : Nat) : (Builtin.append_ #[sT, xT] ty #[v, .slice a 0 c]).run P w = .ok v w := by
  have h0 : (Builtin.firstCells sz 0 (.slice a 0 c)).run P w = .ok #[] w := by cases a <;> simp [Builtin.firstCells, loadCells, loadCellsFrom]
  have hD' : (match D with | .int _ => true | _ => false) = false := by cases D <;> first | rfl | exact absurd rfl (hD _)
  rcases hrow with ⟨rfl, rfl, rfl⟩ | ⟨b, cap, rest, rfl, hA, hpl, hroom, hnc⟩
  · simp [Builtin.append_, run_underlying hu, run_underlying hx, run_size hs, run_lenOf, h0]
  · simp [Builtin.append_, run_underlying hu, run_underlying hx, run_size hs, run_lenOf, h0, hnc, storeCells]

section
variable {PT : World → Nat → List Nd → (Nat → Prop) → Prop}
end
end Go.Proofs.YtbicffldggcdhaaGreatDoor

namespace Go.Proofs.YtbicffldggcdhaaGreatDoor
open Go

/-- What the law asks of Clone: a new tree, the same now. -/
def CloneSpec (PT : World → Nat → List Nd → (Nat → Prop) → Prop) : Prop :=
  ∀ {w : World} {t : Nat} {l : List Nd} {S : Nat → Prop}, PT w t l S → Rets Tryz.prog 17 [Ptr t] w fun v w' => ∃ t', v = Ptr t' ∧ PT w' t' l (fun b => w.heap.size ≤ b) ∧ Frm0 w w'

section
variable {PT : World → Nat → List Nd → (Nat → Prop) → Prop}
end
end Go.Proofs.YtbicffldggcdhaaGreatDoor

namespace Go.Proofs.YtbicffldggcdhaaGreatDoor
open Go

def cloneNd_ren : Go.Shelf.Ren := ⟨fun | 5 => 43 | 7 => 69 | n => n, fun | 23 => 91 | 25 => 3 | 3 => 90 | 4 => 4 | 20 => 20 | n => n, fun | n => n⟩
theorem cloneNd : Go.Proofs.SlLaysW.n5 Tryz.prog cloneNd_ren := {
  mixed := by kernel_rfl,
  f5 := ⟨Tryz.f43.name, by decide, Tryz.func43.trans (congrArg some (by kernel_rfl))⟩,
  f7 := Tryz.func69.trans (congrArg some (by kernel_rfl)),
  t4 := Tryz.underlying4,
  a4 := Tryz.isAgg4,
  z4 := Tryz.sizeOf4,
  v4 := Tryz.zeroValue4,
  t20 := Tryz.underlying20,
  a20 := Tryz.isAgg20,
  z20 := Tryz.sizeOf20,
  v20 := Tryz.zeroValue20,
  t23 := Tryz.underlying91,
  a23 := Tryz.isAgg91,
  z23 := Tryz.sizeOf91,
  v23 := Tryz.zeroValue91 }

theorem mapsClone_ret {w : World} {mb : Nat} {es : Array MapEntry} {cl : Nat} (hb : At w mb (.map es cl)) : Rets Tryz.prog 43 [.map (some mb)] w fun v w' => v = .map (some w.heap.size) ∧ w.alloc (.map es cl) = w' :=
  ⟨by kernel_rfl, (AnyW.maps_Clone cloneNd mb es cl w hb).mono fun _ _ ⟨he, hw⟩ => ⟨_, he, rfl, hw.symm⟩⟩
theorem Clone_ret {w : World} {t mb : Nat} {es : Array MapEntry} {cl : Nat} {m : List Nd} (h : TreeAt w t mb es cl m) : Rets Tryz.prog 17 [Ptr t] w fun v w' => ∃ t' mb', v = Ptr t' ∧ TreeAt w' t' mb' es cl m ∧ w.heap.size ≤ t' ∧ w.heap.size ≤ mb' ∧ Frm0 w w' := by
  have h1 := h.head
  have h2 := h.row
  refine rets_of Tryz.func17 (by kernel_rfl) rfl Tryz.ntmps17 (Nat.le_of_ble_eq_true rfl) ?_
  refine runG04 ?_
  refine s_callf (mapsClone_ret h2) rfl wnt_none ?_
  rintro v w1 ⟨rfl, rfl⟩
  refine s_val (r_build rfl (bld_treeM _ _)) wnt_none ?_
  refine runG04 ?_
  exact ret_p rfl rfl ⟨_, _, rfl, ⟨at_alloc_new _ _, at_alloc _ (at_alloc_new _ _), h.ents⟩, by simp, Nat.le_refl _, (Frm.of_alloc _ _).alloc _⟩
theorem cloneSpec : CloneSpec PT := fun ⟨_, es, cl, m, h, hp, _, _⟩ => (Clone_ret h).mono fun _ _ ⟨t', mb', hv, h', h1, h2, f⟩ => ⟨t', hv, ⟨mb', es, cl, m, h', hp, h1, h2⟩, f⟩
end Go.Proofs.YtbicffldggcdhaaGreatDoor

namespace Go.Proofs.YtbicffldggcdhaaGreatDoor
open Go Go.ChangeShapes Go.WideShapes

theorem cellsInt : Tryz.prog.cellsOf 3 = 1 := by kernel_rfl
theorem cellsEdit : Tryz.prog.cellsOf 31 = 6 := by kernel_rfl
def Int64 (z : Int) : Prop := -9223372036854775808 ≤ z ∧ z ≤ 9223372036854775807
theorem wf64 {z : Int} (h : (Lit.int .i64 z).wf = true) : Int64 z := by
  simp only [Lit.wf, Bool.and_eq_true, decide_eq_true_eq] at h
  have e1 : IntKind.i64.min = -9223372036854775808 := by decide
  have e2 : IntKind.i64.max = 9223372036854775807 := by decide
  rw [e1, e2] at h
  exact h

theorem list6 {cs : List Value} {a0 a1 a2 a3 a4 a5 : Value} (hl : cs.length = 6) (h0 : cs[0]? = some a0) (h1 : cs[1]? = some a1) (h2 : cs[2]? = some a2) (h3 : cs[3]? = some a3) (h4 : cs[4]? = some a4) (h5 : cs[5]? = some a5) : cs = [a0, a1, a2, a3, a4, a5] := by
  match cs, hl with
  | [b0, b1, b2, b3, b4, b5], _ =>
    simp at h0 h1 h2 h3 h4 h5
    simp [h0, h1, h2, h3, h4, h5]
section
variable {H : Type} {enc : TypeId × Value → H} {W : World} {base : Nat} {sp : Nat → Bool} {held : Bool} {n : Nat}
theorem int_cell {cs : List Value} {k i : Nat} {xs : List (DataW H × List MemPlace)} (h : DataW.trod enc Tryz.prog W base sp held n 3 ((cs.drop k).take (Tryz.prog.cellsOf 3)) = xs[i]?) (hi : i < xs.length) : ∃ z, cs[k]? = some (I z) ∧ Int64 z := by
  rw [List.getElem?_eq_getElem hi, cellsInt] at h
  obtain ⟨z, hz, _, hw⟩ := DataW.trod_int (u_ok rfl) h
  refine ⟨z, ?_, wf64 hw⟩
  have := congrArg (fun l => l[0]?) hz
  simpa using this
end
end Go.Proofs.YtbicffldggcdhaaGreatDoor

namespace Go.Proofs.YtbicffldggcdhaaGreatDoor
open Go

/-- A slice's value, and what it shows: n elements of so many cells. -/
def Seg (w : World) (v : Value) (sz n : Nat) (vs : List Value) : Prop :=
  ((∃ a c, v = .slice a 0 c) ∧ n = 0 ∧ vs = []) ∨ ∃ bx ox c X tx k, v = .slice (some ⟨bx, ox, none⟩) n c ∧ At w bx (.cells X.toArray tx k) ∧ ox + n * sz ≤ X.length ∧ sub X ox (n * sz) = vs
theorem Row.seg {w : World} {v : Value} {e sz n : Nat} {pre : List Value} (h : Row w v e sz n pre) : Seg w v sz n pre := by
  rcases h with ⟨rfl, rfl, rfl⟩ | ⟨b, cap, rest, rfl, hA, hl, hr, hc⟩
  · exact .inl ⟨⟨_, _, rfl⟩, rfl, rfl⟩
  · refine .inr ⟨b, 0, cap, pre ++ rest, e, (0, 0), rfl, hA, by rw [List.length_append]; omega, ?_⟩
    rw [← hl]
    exact sub_left pre rest
theorem append_seg {P : Program} {w : World} {sT ty e sz by' n m : Nat} {z v s : Value} {D : TypeDesc} {pre vs : List Value}
    (hu : P.underlying sT = some (.slice e)) (hx : P.underlying sT = some D) (hD : ∀ kk, D ≠ .int kk) (hs : szOf P e = some sz) (hb : byOf P e = some by') (hz : zrOf P e = some z) (hzc : z.cells.size = sz)
    (hrow : Row w v e sz n pre) (hseg : Seg w s sz m vs) (hone : ∀ u ∈ vs, one u = true) (hby : 0 < by') (hcap : 2 * (n + m) * by' ≤ 2 ^ 48) :
    ∃ v' w', (Builtin.append_ #[sT, sT] ty #[v, s]).run P w = .ok v' w' ∧ Row w' v' e sz (n + m) (pre ++ vs) ∧ Frm (InV v) w w' ∧ ∀ b, InV v' b → InV v b ∨ w.heap.size ≤ b := by
  rcases hseg with ⟨⟨a, c, rfl⟩, rfl, rfl⟩ | ⟨bx, ox, c, X, tx, k, rfl, hA, h1, h2⟩
  · refine ⟨v, w, run_append0 hu hx hD hs hrow a c, ?_, Frm.refl _ _, fun b hb => .inl hb⟩
    rw [List.append_nil, Nat.add_zero]
    exact hrow
  · obtain ⟨v', w', e1, r1, f1, n1⟩ := run_append (ty := ty) (cx := c) hu hx hD hs hb hz hzc hrow hA h1 (by rw [h2]; exact hone) hby hcap
    rw [h2] at r1
    exact ⟨v', w', e1, r1, f1, n1⟩
section
variable {P : Program} {w : World} {ty e sz : Nat} {a : Option Addr} {len cap : Nat}
theorem sliceTo_run {k : Nat} (hu : P.underlying ty = some (.slice e)) (hs : szOf P e = some sz) (hk : k ≤ cap) :
    (Instr.sliceAt ty (.slice a len cap) none (some (I k)) none).run P w = .ok (.slice (if cap = 0 then a else a.map (·.add (0 * sz))) k cap) w := by
  simp [Instr.sliceAt, Instr.slice, run_underlying hu, Instr.sliceBounds, Instr.sliceBound, asIntOf, run_size hs]
  omega
theorem sliceFrom_run {k : Nat} (hu : P.underlying ty = some (.slice e)) (hs : szOf P e = some sz) (hk : k ≤ len) :
    (Instr.sliceAt ty (.slice a len cap) (some (I k)) none none).run P w = .ok (.slice (if cap = k then a else a.map (·.add (k * sz))) (len - k) (cap - k)) w := by
  simp [Instr.sliceAt, Instr.slice, run_underlying hu, Instr.sliceBounds, Instr.sliceBound, asIntOf, run_size hs]
  omega
end
section
variable {P : Program} {w : World} {ρ : Operand → Value} {d : Option Nat} {t : Nat} {p : String} {af : Array Edge} {g : Option (Nat × Bool)}
end
end Go.Proofs.YtbicffldggcdhaaGreatDoor

namespace Go.Proofs.YtbicffldggcdhaaGreatDoor
open Go

def part (l : List Nd) (p : Int) (i : Nat) : List Nd := ((l.tail.take i).filter fun x => decide (x.par = p)).foldl (fun o x => ins x o) []
theorem Row.isSl {w : World} {v : Value} {e sz n : Nat} {pre : List Value} (h : Row w v e sz n pre) : ∃ a c, v = .slice a n c := by
  rcases h with ⟨rfl, rfl, _⟩ | ⟨b, cap, rest, rfl, _⟩
  · exact ⟨_, _, rfl⟩
  · exact ⟨_, _, rfl⟩
end Go.Proofs.YtbicffldggcdhaaGreatDoor

namespace Go.Proofs.YtbicffldggcdhaaGreatDoor
open Go

end Go.Proofs.YtbicffldggcdhaaGreatDoor

namespace Go.Proofs.YtbicffldggcdhaaGreatDoor
open Go

end Go.Proofs.YtbicffldggcdhaaGreatDoor

namespace Go.Proofs.YtbicffldggcdhaaGreatDoor
open Go

def appAll (l : List Nd) (es : List Ed) : List Nd := es.foldl applyL l
theorem appAll_step {l : List Nd} {es : List Ed} {i : Nat} {e : Ed} (h : es[i]? = some e) : appAll l (es.take (i + 1)) = applyL (appAll l (es.take i)) e := by
  unfold appAll
  rw [List.take_add_one, h, List.foldl_append]
  rfl
theorem wf_all : ∀ (es : List Ed) {l : List Nd}, Wf l → Wf (appAll l es)
  | [], _, h => h
  | e :: es, _, h => wf_all es (h.apply e)

section
variable {w w' : World} {N t mb r b : Nat} {l : List Nd}
end
section
variable {w w' : World} {b5 b6 b7 b8 b9 b10 b12 : Nat} {mv : Value} {p q : Int} {t r : Nat} {gv : Value}
end
section
variable {w W W' : World} {N b5 b6 b7 b8 b9 b10 b12 nb D ca cb t mb r c : Nat} {mv gv : Value} {p q : Int} {G : List (Nd × Int)} {rc : Loop} {l : List Nd} {k : Nat}
end
end Go.Proofs.YtbicffldggcdhaaGreatDoor

namespace Go.Proofs.YtbicffldggcdhaaGreatDoor
open Go Go.ChangeShapes Go.WideShapes

section
variable {H : Type} {enc : TypeId × Value → H} {W : World} {sp : Nat → Bool} {held : Bool}
end
end Go.Proofs.YtbicffldggcdhaaGreatDoor

namespace Go.Proofs.YtbicffldggcdhaaGreatDoor
open Go

def RowO (w : World) (v : Value) (e sz n : Nat) (pre : List Value) : Prop :=
  (v = .slice none 0 0 ∧ n = 0 ∧ pre = []) ∨
  ∃ b skip cap rest, v = .slice (some ⟨b, List.length skip, none⟩) n cap ∧ At w b (cel (skip ++ (pre ++ rest)) e) ∧ pre.length = n * sz ∧ cap * sz ≤ n * sz + rest.length ∧ n ≤ cap
theorem Row.toO {w : World} {v : Value} {e sz n : Nat} {pre : List Value} (h : Row w v e sz n pre) : RowO w v e sz n pre := by
  rcases h with h | ⟨b, cap, rest, hv, hA, h1, h2, h3⟩
  · exact .inl h
  · exact .inr ⟨b, [], cap, rest, hv, hA, h1, by omega, h3⟩
theorem RowO.lt {w : World} {v : Value} {e sz n : Nat} {pre : List Value} (h : RowO w v e sz n pre) {b : Nat} (hb : InV v b) : b < w.heap.size := by
  obtain ⟨_, _, _, hb⟩ := hb
  rcases h with ⟨h, _⟩ | ⟨b', skip, cap, rest, h, hA, _⟩
  · rw [hb] at h; cases h
  · rw [hb] at h
    cases h
    exact at_lt hA
section
variable {P : Program} {w : World}
end
end Go.Proofs.YtbicffldggcdhaaGreatDoor
