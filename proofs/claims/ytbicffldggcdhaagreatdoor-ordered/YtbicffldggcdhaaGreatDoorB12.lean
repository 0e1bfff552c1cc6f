/-
  WRefP15; WQ26; WK4; WK5; LGrp; LGrp2; WK7.
-/
import Derived.Test.YtbicffldggcdhaaGreatDoorB11
import Derived.Test.YtbicffldggcdhaaGreatDoorB09
import Derived.Test.YtbicffldggcdhaaGreatDoorB07
import Derived.Test.YtbicffldggcdhaaGreatDoorB10
import Derived.Test.YtbicffldggcdhaaGreatDoorB08
import Derived.Test.YtbicffldggcdhaaGreatDoorB06
import Derived.Test.YtbicffldggcdhaaGreatDoorB05
namespace Go.Proofs.YtbicffldggcdhaaGreatDoor
open Go
theorem runG12 {G K : Prop} (k : K) (h : Wrap K → G := by intro h; (repeat (first | (with_reducible first | refine wpIn_seq ?_ | refine w_reg ?_ | refine s_nil ?_ | refine s_nilQ ?_ | refine wpIn_block ?_ | refine q_then ?_ | refine q_blk ?_ | refine q_then_ret ?_ | refine q_blk_ret ?_ | refine q_then_exit ?_ | refine q_blk_exit ?_ | refine wpIn_skip ?_ | refine wpIn_ret ?_ | refine wpIn_exit ?_ | refine y_nil ?_ | refine y_nilQ ?_ | refine x_late ?_) | ((with_reducible refine q_blk_other ?_ ?_); exact rfl) | ((with_reducible apply c_true); exact rfl; (with_reducible exact rfl)) | ((with_reducible apply c_false); exact rfl; (with_reducible exact rfl)) | ((with_reducible apply s_no); (first | ((with_reducible apply wnt_nt); exact rfl; exact rfl; exact rfl; exact rfl; (with_reducible exact rfl)) | ((with_reducible apply wnt_nf); exact rfl; exact rfl; exact rfl; exact rfl; (with_reducible exact rfl)))) | ((with_reducible apply x_qno); exact rfl; (first | ((with_reducible apply wnt_nt); exact rfl; exact rfl; exact rfl; exact rfl; (with_reducible exact rfl)) | ((with_reducible apply wnt_nf); exact rfl; exact rfl; exact rfl; exact rfl; (with_reducible exact rfl)))) | ((first | with_reducible apply s_val | ((with_reducible apply y_val); exact rfl) | ((with_reducible apply x_q); exact rfl; intro wq hq)); (first | ((with_reducible apply r_boxA); exact rfl) | ((with_reducible apply r_box1); exact rfl; exact rfl) | ((with_reducible apply r_assign_p); exact rfl) | ((with_reducible apply r_fld); exact fa_ok rfl; exact rfl) | ((with_reducible apply r_lss_t); exact rfl; exact rfl; omega) | ((with_reducible apply r_lss_f); exact rfl; exact rfl; omega) | ((with_reducible apply r_lss); exact rfl; exact rfl) | ((with_reducible apply r_move_b); exact rfl) | ((with_reducible apply r_gtr_t); exact rfl; exact rfl; omega) | ((with_reducible apply r_gtr_f); exact rfl; exact rfl; omega) | ((with_reducible apply r_gtr); exact rfl; exact rfl) | ((with_reducible apply r_pick_t); exact rfl; (with_reducible exact rfl); exact rfl) | ((with_reducible apply r_pick_f); exact rfl; (with_reducible exact rfl); exact rfl) | ((with_reducible apply r_loadA); exact u_ok rfl; exact rfl; exact s_ok rfl; exact rfl; (first | exact Frm.at0 hq (by assumption) | exact Frm.at hq (by assumption) (by assumption) | (first | (with_reducible assumption) | assumption | exact at_alloc_new _ _ | (repeat (first | assumption | exact at_alloc_new _ _ | refine at_drew ?_ | refine at_alloc _ ?_)))); exact Nat.le_of_ble_eq_true rfl) | ((with_reducible apply r_assign_i); exact rfl) | ((with_reducible apply r_move_i); exact rfl) | ((with_reducible apply r_move_p); exact rfl) | ((with_reducible apply r_nilCheck); exact rfl) | ((with_reducible apply r_add); exact rfl; exact rfl; omega; omega) | ((with_reducible apply r_allocA); exact z_ok rfl) | ((with_reducible apply r_alloc1); exact z_ok rfl; exact rfl) | ((with_reducible apply r_assign_if); exact rfl) | ((with_reducible apply r_assign_ni); exact rfl) | ((with_reducible apply r_load); exact u_ok rfl; exact rfl; exact rfl; (first | exact Frm.at0 hq (by assumption) | exact Frm.at hq (by assumption) (by assumption) | (first | (with_reducible assumption) | assumption | exact at_alloc_new _ _ | (repeat (first | assumption | exact at_alloc_new _ _ | refine at_drew ?_ | refine at_alloc _ ?_)))); (first | exact mid_get rfl | exact mid_get2 rfl | exact mid_get0 rfl | exact rfl)) | ((with_reducible apply r_assign_b); exact rfl) | ((with_reducible apply r_eql_t); exact rfl; exact rfl; omega) | ((with_reducible apply r_eql_f); exact rfl; exact rfl; omega) | ((with_reducible apply r_eql); exact rfl; exact rfl) | ((with_reducible apply r_move_t); exact rfl) | ((with_reducible apply r_extract); exact rfl; exact rfl) | ((with_reducible apply r_move_if); exact rfl) | ((with_reducible apply r_move_ni); exact rfl) | ((with_reducible apply r_neq_t); exact rfl; exact rfl; omega) | ((with_reducible apply r_neq_f); exact rfl; exact rfl; omega) | ((with_reducible apply r_neq); exact rfl; exact rfl) | ((with_reducible apply r_not_t); exact rfl; (with_reducible exact rfl)) | ((with_reducible apply r_not_f); exact rfl; (with_reducible exact rfl)) | ((with_reducible apply r_not); exact rfl) | ((with_reducible apply r_len); exact u_ok rfl; exact rfl) | ((with_reducible apply r_assign_s); exact rfl) | ((with_reducible apply r_move_s); exact rfl) | ((with_reducible apply r_sub); exact rfl; exact rfl; omega; omega) | ((with_reducible apply r_index); exact u_ok rfl; exact s_ok rfl; exact rfl; exact rfl; omega; omega) | ((with_reducible apply r_indexarr); exact u_ok rfl; exact s_ok rfl; exact rfl; exact rfl; omega; omega)); (first | (with_reducible exact wnt_none) | ((with_reducible apply wnt_y); exact rfl; exact rfl; exact rfl; exact rfl; (with_reducible exact rfl)))))); exact h.out) : G := h ⟨k⟩

def CfgV (c l : Int) : Value := .agg [I c, I l].toArray
end Go.Proofs.YtbicffldggcdhaaGreatDoor

namespace Go.Proofs.YtbicffldggcdhaaGreatDoor
open Go

theorem bld_known1 (a : Option Addr) (w : World) : (Instr.build 102 [(0, .pointer a)].toArray).run Tryz.prog w = .ok (.agg #[.pointer a, I 0]) w := by kernel_rfl
theorem bld_server (a : Option Addr) (l : Int) (m : Option Nat) (w : World) : (Instr.build 105 [(0, .agg #[.pointer a, I 0]), (1, I l), (3, .map m)].toArray).run Tryz.prog w = .ok (.agg #[.pointer a, I 0, I l, .slice none 0 0, .map m]) w := by kernel_rfl
theorem bld_Party (a : Option Addr) (l : Int) (m : Option Nat) (w : World) : (Instr.build 108 [(0, .agg #[.pointer a, I 0, I l, .slice none 0 0, .map m])].toArray).run Tryz.prog w = .ok (.agg #[.pointer a, I 0, I l, .slice none 0 0, .map m, .slice none 0 0]) w := by kernel_rfl
def cli0V (t : Nat) : List Value := cvals t 0 (.slice none 0 0) (.slice none 0 0) false false (.slice none 0 0) (.slice none 0 0)
theorem bld_client (t : Nat) (w : World) : (Instr.build 119 [(0, .agg #[Ptr t, I 0])].toArray).run Tryz.prog w = .ok (.agg (cli0V t).toArray) w := by kernel_rfl
theorem bs_client (t : Nat) (w : World) : (Instr.buildSlice 106 1 [(0, .agg (cli0V t).toArray)].toArray).run Tryz.prog w = .ok (.slice (some ⟨w.heap.size, 0, none⟩) 1 1) (w.alloc (cel (cli0V t) 119)) := by kernel_rfl
theorem cli0_one (t : Nat) : ∀ u ∈ cli0V t, one u = true := by
  intro u hu
  simp only [cli0V, cvals, List.mem_cons, List.not_mem_nil, or_false] at hu
  rcases hu with h | h | h | h | h | h | h | h <;> subst h <;> rfl
section
variable {PT : PTy} (sp : TreeSpec PT) {w w' : World}
theorem nothing_ret (sp : TreeSpec PT) (w : World) : Rets Tryz.prog 67 [] w fun v w' => ∃ t, v = .agg #[Ptr t, I 0] ∧ PT w' t [root0] (fun b => w.heap.size ≤ b) ∧ Frm0 w w' := by
  have f0 : Frm0 w (w.alloc (cel [.pointer none, I 0] 102)) := Frm.of_alloc _ _
  have hb := at_alloc_new w (cel [.pointer none, I 0] 102)
  refine rets_of Tryz.func67 (by kernel_rfl) rfl Tryz.ntmps67 (Nat.le_of_ble_eq_true rfl) ?_
  refine runG12 ?_
  have hz : (w.alloc (cel [.pointer none, I 0] 102)).heap.size = w.heap.size + 1 := World.size_alloc _ _
  generalize w.alloc (cel [.pointer none, I 0] 102) = w1 at *
  refine s_callf (sp.new _) rfl wnt_none ?_
  rintro v w2 ⟨t, rfl, hT, f2⟩
  refine s_val (r_build rfl (bld_known1 _ _)) wnt_none ?_
  have hb2 := f2.at0 hb
  refine s_skip (r_storeAll (vs := [Ptr t, I 0]) (s_ok rfl) rfl rfl (by intro u hu; simp at hu; rcases hu with rfl | rfl <;> rfl) hb2 rfl) wnt_none ?_
  refine runG12 ?_
  have f3 : Frm (fun b => b = w.heap.size) w2 (setB w2 w.heap.size (cel [Ptr t, I 0] 102)) := (Frm.refl (fun b => b = w.heap.size) w2).setB (b := w.heap.size) (.inl rfl) _
  refine ret_cA rfl (u_ok rfl) rfl (s_ok rfl) rfl (at_setB _ hb2) rfl ⟨t, rfl, ?_, (f0.trans0 f2).setB (b := w.heap.size) (.inr (Nat.le_refl _)) _⟩
  exact sp.weak (sp.frm hT f3 (fun b hb e => by omega)) (fun b hb _ => by omega)
theorem newServer_ret (sp : TreeSpec PT) (l : Int) (w : World) : Rets Tryz.prog 66 [I l] w fun v w' => ∃ t mb, v = .agg #[Ptr t, I 0, I l, .slice none 0 0, .map (some mb)] ∧ PT w' t [root0] (fun b => w.heap.size ≤ b ∧ b < mb) ∧ At w' mb (.map #[] 0) ∧ w.heap.size ≤ mb ∧ Frm0 w w' := by
  have f0 : Frm0 w (w.alloc (cel [.pointer none, I 0, I 0, .slice none 0 0, .map none] 105)) := Frm.of_alloc _ _
  have hb := at_alloc_new w (cel [.pointer none, I 0, I 0, .slice none 0 0, .map none] 105)
  refine rets_of Tryz.func66 (by kernel_rfl) rfl Tryz.ntmps66 (Nat.le_of_ble_eq_true rfl) ?_
  refine runG12 ?_
  have hz : (w.alloc (cel [.pointer none, I 0, I 0, .slice none 0 0, .map none] 105)).heap.size = w.heap.size + 1 := World.size_alloc _ _
  generalize w.alloc (cel [.pointer none, I 0, I 0, .slice none 0 0, .map none] 105) = w1 at *
  refine s_callf (nothing_ret sp _) rfl wnt_none ?_
  rintro v w2 ⟨t, rfl, hT, f2⟩
  refine runG12 ?_
  refine s_val r_mkmap wnt_none ?_
  refine s_val (r_build rfl (bld_server _ _ _ _)) wnt_none ?_
  have f3 : Frm0 w2 (w2.alloc (.map #[] 0)) := Frm.of_alloc _ _
  have hb3 := f3.at0 (f2.at0 hb)
  refine s_skip (r_storeAll (vs := [Ptr t, I 0, I l, .slice none 0 0, .map (some w2.heap.size)]) (s_ok rfl) rfl rfl (by intro u hu; simp at hu; rcases hu with rfl | rfl | rfl | rfl | rfl <;> rfl) hb3 rfl) wnt_none ?_
  refine runG12 ?_
  have s2 := f2.size
  have f4 : Frm (fun b => b = w.heap.size) (w2.alloc (.map #[] 0)) (setB (w2.alloc (.map #[] 0)) w.heap.size (cel [Ptr t, I 0, I l, .slice none 0 0, .map (some w2.heap.size)] 105)) := (Frm.refl (fun b => b = w.heap.size) _).setB (b := w.heap.size) (.inl rfl) _
  refine ret_cA rfl (u_ok rfl) rfl (s_ok rfl) rfl (at_setB _ hb3) rfl ⟨t, w2.heap.size, rfl, ?_, ?_, by omega, ((f0.trans0 f2).trans0 f3).setB (b := w.heap.size) (.inr (Nat.le_refl _)) _⟩
  · have hT2 : PT w2 t [root0] (fun b => w1.heap.size ≤ b ∧ b < w2.heap.size) := sp.weak hT (fun b h1 h2 => ⟨h1, h2⟩)
    exact sp.weak (sp.frm (sp.frm hT2 f3 (fun _ _ h => h)) f4 (fun b hb e => by omega)) (fun b hb _ => by omega)
  · exact f4.at (by omega) (at_alloc_new _ _)
end
/-- A party that is being made. -/
structure NQ (PT : PTy) (w0 w : World) (col0 col : Nat → Nat) (k p t mb : Nat) (cv : Value) (ms : List CM) (l : Int) : Prop where
  head : At w p (cel [Ptr t, I 0, I l, .slice none 0 0, .map (some mb), cv] 108)
  own : col p = k
  tree : PT w t [root0] (fun b => col b = k + 1)
  map : At w mb (.map #[] 0)
  cmap : col mb = k + 3
  row : Row w cv 119 8 ms.length (fl CM.vals ms)
  crow : ∀ b, InV cv b → col b = k + 4
  all : ∀ m ∈ ms, m.c = pcli0
  cli : ∀ (i : Nat) m, ms[i]? = some m → CliM PT w col (k + 10 + 10 * i) m.bq m.sq m.t m.pd m.an m.up m.dn m.c
  ext : Ext k w0 w col0 col
  new : Frm0 w0 w
section
variable {PT : PTy} (sp : TreeSpec PT) {w0 w w2 w3 w4 : World} {col0 col : Nat → Nat} {k p t mb : Nat} {cv v : Value} {ms : List CM} {l : Int}
theorem NQ.grow (sp : TreeSpec PT) (h : NQ PT w0 w col0 col k p t mb cv ms l) (hk : 0 < k) (hl : ms.length < 4) (hp0 : w0.heap.size ≤ p) (hcw : ∀ b, InV cv b → w0.heap.size ≤ b) {t' : Nat} (f2 : Frm0 w w2) (hT : PT w2 t' [root0] (fun b => w.heap.size ≤ b)) (f3 : Frm0 w2 w3) (f4 : Frm (InV cv) w3 w4) (r4 : Row w4 v 119 8 (ms.length + 1) (fl CM.vals ms ++ cli0V t')) (n4 : ∀ b, InV v b → InV cv b ∨ w3.heap.size ≤ b) :
    ∃ col', NQ PT w0 (setB w4 p (cel [Ptr t, I 0, I l, .slice none 0 0, .map (some mb), v] 108)) col0 col' k p t mb v (ms ++ [⟨t', .slice none 0 0, .slice none 0 0, .slice none 0 0, .slice none 0 0, k + 10 + 10 * ms.length + 1, k + 10 + 10 * ms.length + 6, pcli0⟩]) l := by
  have hh := h.ext.high
  have s2 := f2.size
  have s3 := f3.size
  have ho := h.own
  have hm := h.cmap
  have hwf0 : Wf [root0] := wf_root0
  have e2 : Ext k w w2 col (paintA col w.heap.size w2.heap.size (k + 10 + 10 * ms.length + 1)) := paintA_ext hh s2 (by omega)
  have e3 := e2.frm0 f3
  have hT2 : PT w2 t' [root0] (fun b => paintA col w.heap.size w2.heap.size (k + 10 + 10 * ms.length + 1) b = k + 10 + 10 * ms.length + 1) := paintA_tree sp (sp.weak hT (fun b h1 _ => .inr h1)) (by omega) hh
  have old2 : ∀ b, b < w.heap.size → paintA col w.heap.size w2.heap.size (k + 10 + 10 * ms.length + 1) b = col b := fun b hb => paintA_old hb
  have hc2 : ∀ b, InV cv b → paintA col w.heap.size w2.heap.size (k + 10 + 10 * ms.length + 1) b = k + 4 := fun b hb => by rw [old2 b (h.row.lt hb)]; exact h.crow b hb
  have hh2 : ∀ b, w2.heap.size ≤ b → paintA col w.heap.size w2.heap.size (k + 10 + 10 * ms.length + 1) b = 0 := e2.high
  generalize paintA col w.heap.size w2.heap.size (k + 10 + 10 * ms.length + 1) = col2 at *
  have hh3 : ∀ b, w3.heap.size ≤ b → col2 b = 0 := fun b hb => hh2 b (by omega)
  have e4 : Ext k w3 w4 col2 (paint col2 w3.heap.size v (k + 4)) := paint_ext hh3 f4.size r4.blk (by omega)
  have cv4 : ∀ b, InV v b → paint col2 w3.heap.size v (k + 4) b = k + 4 := paint_new n4 hc2
  have old4 : ∀ b, b < w3.heap.size → paint col2 w3.heap.size v (k + 4) b = col2 b := fun b hb => paint_old hb
  generalize paint col2 w3.heap.size v (k + 4) = col4 at *
  have hpl := at_lt h.head
  have hml := at_lt h.map
  have op : col4 p = k := by rw [old4 p (by omega), old2 p hpl]; exact ho
  have om : col4 mb = k + 3 := by rw [old4 mb (by omega), old2 mb hml]; exact hm
  have f5 : Frm (fun b => InV cv b ∨ b = p) w3 (setB w4 p (cel [Ptr t, I 0, I l, .slice none 0 0, .map (some mb), v] 108)) := (f4.mono (fun b hb => .inl (.inl hb))).setB (b := p) (.inl (.inr rfl)) _
  have hnp : ¬ InV cv p := fun h9 => by have := h.crow p h9; omega
  have hnm : ¬ (InV cv mb ∨ mb = p) := fun h9 => by
    rcases h9 with h9 | h9
    · have := h.crow mb h9; omega
    · subst h9; omega
  have key : ∀ {b q}, b < w3.heap.size → col2 b = q → q ≠ k → q ≠ k + 4 → ¬ (b < w3.heap.size ∧ (InV cv b ∨ b = p)) := fun {b q} h1 h2 h3 h4 h5 => by
    rcases h5.2 with h6 | h6
    · have := hc2 b h6; omega
    · subst h6
      rw [old2 b hpl] at h2
      omega
  have f5o : Frm (fun b => b < w3.heap.size ∧ (InV cv b ∨ b = p)) w3 (setB w4 p (cel [Ptr t, I 0, I l, .slice none 0 0, .map (some mb), v] 108)) := ⟨f5.size, fun b o hb hn => f5.same b o hb (fun hs => hn ⟨at_lt hb, hs⟩), f5.tape, f5.os, f5.output⟩
  have f23 : Frm0 w w3 := f2.trans0 f3
  refine ⟨col4, at_setB _ (f4.at hnp (f23.at0 h.head)), op, ?_, f5.at hnm (f23.at0 h.map), om, ?_, cv4, ?_, ?_, ?_, ?_⟩
  · have h1 : PT w3 t [root0] (fun b => col b = k + 1 ∧ b < w.heap.size) := sp.frm (sp.weak h.tree (fun b hb hl => ⟨hb, hl⟩)) f23 (fun _ _ h => h)
    exact sp.weak (sp.frm h1 f5o (fun b hb => key (q := k + 1) (by omega) (by rw [old2 b hb.2]; exact hb.1) (by omega) (by omega))) (fun b hb _ => by rw [old4 b (by omega), old2 b hb.2]; exact hb.1)
  · rw [List.length_append, fl_append]
    have h1 : Row w4 v 119 8 (ms.length + 1) (fl CM.vals ms ++ fl CM.vals [⟨t', .slice none 0 0, .slice none 0 0, .slice none 0 0, .slice none 0 0, k + 10 + 10 * ms.length + 1, k + 10 + 10 * ms.length + 6, pcli0⟩]) := by
      simpa [fl, CM.vals, cli0V, pcli0] using r4
    exact h1.frm (S := fun b => b = p) ((Frm.refl (fun b => b = p) w4).setB (b := p) (.inl rfl) _) (fun b hb e => by have := cv4 b hb; subst e; omega)
  · intro m hmm
    rcases List.mem_append.1 hmm with h9 | h9
    · exact h.all m h9
    · simp at h9
      subst h9
      rfl
  · intro i m hi
    by_cases hil : i < ms.length
    · rw [List.getElem?_append_left hil] at hi
      have h1 := ((h.cli i m hi).recol sp old2).frm sp f23 (fun _ _ _ h => h)
      have h2 := h1.recol sp old4
      refine h2.frm sp f5o (fun b h3 h4 h5 => ?_)
      rw [old4 b h5.1] at h3 h4
      exact key h5.1 rfl (by omega) (by omega) h5
    · have hie : i = ms.length := by
        have := (List.getElem?_eq_some_iff.1 hi).1
        simp at this
        omega
      subst hie
      rw [List.getElem?_append_right (Nat.le_refl _), Nat.sub_self] at hi
      simp at hi
      subst hi
      have h1 : PT w3 t' [root0] (fun b => col2 b = k + 10 + 10 * ms.length + 1 ∧ b < w3.heap.size) := sp.weak (sp.frm hT2 f3 (fun _ _ h => h)) (fun b hb hl => ⟨hb, hl⟩)
      refine ⟨sp.weak (sp.frm h1 f5o (fun b hb => key hb.2 hb.1 (by omega) (by omega))) (fun b hb _ => by rw [old4 b hb.2]; exact hb.1), hwf0, Row.nil, fun b hb => (inv_none hb).elim, Row.nil, fun b hb => (inv_none hb).elim, Row.nil, fun b hb => (inv_none hb).elim, DsAt.none, fun b hb => (inv_none hb).elim, .inl ⟨rfl, rfl⟩⟩
  · exact (((h.ext.trans e3 h.new.size).trans e4 (h.new.trans0 f23).size)).setB
  · exact ((h.new.trans0 f23).trans f4 (fun b hb => .inr (hcw b hb))).setB (b := p) (.inr hp0) _
set_option maxHeartbeats 1000000 in
set_option maxRecDepth 4000 in
theorem PNew_ret (sp : TreeSpec PT) {w : World} {col : Nat → Nat} {k : Nat} (hk : 0 < k) (hh : ∀ b, w.heap.size ≤ b → col b = 0) {ea : List Addr} (hE : Errs w ea) (c l : Int) :
    Rets Tryz.prog 40 [CfgV c l] w fun v w' => Frm0 w w' ∧ if c < 1 ∨ 4 < c ∨ l < 0 ∨ 8 < l then ∃ u, v = .tuple #[.pointer none, u] ∧ ErrIs ea w' u 1 ed0 else ∃ p col', v = .tuple #[Ptr p, .nilIface] ∧ PP PT w' col' k p (newQ c l) ∧ Ext k w w' col col' := by
  have hF1 : Frm0 w (w.alloc (cel [I c, I l] 87)) := Frm.of_alloc _ _
  have hbox := at_alloc_new w (cel [I c, I l] 87)
  have hz1 : (w.alloc (cel [I c, I l] 87)).heap.size = w.heap.size + 1 := World.size_alloc _ _
  obtain ⟨a, ty, kk, ha, hg⟩ := err9 hE 0 0 rfl
  have hg1 := hF1.at0 hg
  by_cases hbad : c < 1 ∨ 4 < c ∨ l < 0 ∨ 8 < l
  · simp only [if_pos hbad]
    refine rets_of Tryz.func40 (by kernel_rfl) rfl Tryz.ntmps40 (Nat.le_of_ble_eq_true rfl) ?_
    have fin : ∀ w1, Frm0 w w1 → Rets Tryz.prog 49 [EdV ed0, errV a] w1 fun u w' => ErrIs ea w' u 1 ed0 ∧ Frm0 w1 w' ∧ ∀ b, u = .iface 95 (Ptr b) → w1.heap.size ≤ b := fun w1 f1 => refusal_ret (n := 1) (.inr ⟨Nat.succ_pos _, a, rfl, ha⟩) ed0
    by_cases h1 : c < 1
    · refine runG12 ?_
      refine s_val (r_build rfl (bld_ed0 _)) wnt_none ?_
      refine runG12 ?_
      refine s_callf (fin _ hF1) rfl wnt_none ?_
      rintro u w2 ⟨hu, f2, _⟩
      obtain ⟨b, a2, rfl, _⟩ := hu.one1
      refine runG12 ?_
      exact ret_2 rfl rfl rfl ⟨hF1.trans0 f2, _, rfl, hu⟩
    · by_cases h2 : 4 < c
      · refine runG12 ?_
        refine s_val (r_build rfl (bld_ed0 _)) wnt_none ?_
        refine runG12 ?_
        refine s_callf (fin _ hF1) rfl wnt_none ?_
        rintro u w2 ⟨hu, f2, _⟩
        obtain ⟨b, a2, rfl, _⟩ := hu.one1
        refine runG12 ?_
        exact ret_2 rfl rfl rfl ⟨hF1.trans0 f2, _, rfl, hu⟩
      · by_cases h3 : l < 0
        · refine runG12 ?_
          refine s_val (r_build rfl (bld_ed0 _)) wnt_none ?_
          refine runG12 ?_
          refine s_callf (fin _ hF1) rfl wnt_none ?_
          rintro u w2 ⟨hu, f2, _⟩
          obtain ⟨b, a2, rfl, _⟩ := hu.one1
          refine runG12 ?_
          exact ret_2 rfl rfl rfl ⟨hF1.trans0 f2, _, rfl, hu⟩
        · have h4 : 8 < l := by omega
          refine runG12 ?_
          refine s_val (r_build rfl (bld_ed0 _)) wnt_none ?_
          refine runG12 ?_
          refine s_callf (fin _ hF1) rfl wnt_none ?_
          rintro u w2 ⟨hu, f2, _⟩
          obtain ⟨b, a2, rfl, _⟩ := hu.one1
          refine runG12 ?_
          exact ret_2 rfl rfl rfl ⟨hF1.trans0 f2, _, rfl, hu⟩
  · simp only [if_neg hbad]
    refine rets_of Tryz.func40 (by kernel_rfl) rfl Tryz.ntmps40 (Nat.le_of_ble_eq_true rfl) ?_
    have h1 : ¬ c < 1 := fun h => hbad (.inl h)
    have h2 : ¬ 4 < c := fun h => hbad (.inr (.inl h))
    have h3 : ¬ l < 0 := fun h => hbad (.inr (.inr (.inl h)))
    have h4 : ¬ 8 < l := fun h => hbad (.inr (.inr (.inr h)))
    refine runG12 ?_
    generalize w.alloc (cel [I c, I l] 87) = w1 at *
    refine s_callf (newServer_ret sp l _) rfl wnt_none ?_
    rintro v w2 ⟨t, mb, rfl, hT, hmb, hmz, f2⟩
    refine s_val (r_build rfl (bld_Party _ _ _ _)) wnt_none ?_
    have hmlt := at_lt hmb
    have s2 := f2.size
    have f3 : Frm0 w2 (w2.alloc (cel [Ptr t, I 0, I l, .slice none 0 0, .map (some mb), .slice none 0 0] 108)) := Frm.of_alloc _ _
    have hp3 := at_alloc_new w2 (cel [Ptr t, I 0, I l, .slice none 0 0, .map (some mb), .slice none 0 0] 108)
    have hbox3 := f3.at0 (f2.at0 hbox)
    refine s_val (r_boxA (l := [Ptr t, I 0, I l, .slice none 0 0, .map (some mb), .slice none 0 0]) rfl) wnt_none ?_
    have hz3 : (w2.alloc (cel [Ptr t, I 0, I l, .slice none 0 0, .map (some mb), .slice none 0 0] 108)).heap.size = w2.heap.size + 1 := World.size_alloc _ _
    have hN3 : NQ PT w (w2.alloc (cel [Ptr t, I 0, I l, .slice none 0 0, .map (some mb), .slice none 0 0] 108)) col (fun b => if b = w2.heap.size then k else if w1.heap.size ≤ b ∧ b < mb then k + 1 else if b = mb then k + 3 else col b) k w2.heap.size t mb (.slice none 0 0) [] l := by
      refine ⟨hp3, if_pos rfl, ?_, f3.at0 hmb, ?_, Row.nil, fun b hb => (inv_none hb).elim, fun m hm => (by cases hm), fun i m hi => (by simp at hi), ⟨fun b hb => ?_, fun b hb => ?_, fun b hb => ?_⟩, (hF1.trans0 f2).trans0 f3⟩
      · refine sp.weak (sp.frm hT f3 (fun _ _ h => h)) (fun b hb _ => ?_)
        show (if _ then _ else _) = _
        rw [if_neg (by omega), if_pos hb]
      · show (if _ then _ else _) = _
        rw [if_neg (by omega), if_neg (by omega), if_pos rfl]
      · show (if _ then _ else _) = _
        rw [if_neg (by omega), if_neg (by omega), if_neg (by omega)]
      · show (if _ then _ else _) = _
        rw [if_neg (by omega), if_neg (by omega), if_neg (by omega)]
        exact hh b (by omega)
      · by_cases q1 : b = w2.heap.size
        · right; simp only [if_pos q1]; omega
        · by_cases q2 : w1.heap.size ≤ b ∧ b < mb
          · right; simp only [if_neg q1, if_pos q2]; omega
          · by_cases q3 : b = mb
            · right; simp only [if_neg q1, if_neg q2, if_pos q3]; omega
            · left; simp only [if_neg q1, if_neg q2, if_neg q3]; exact hh b hb
    generalize (fun b => if b = w2.heap.size then k else if w1.heap.size ≤ b ∧ b < mb then k + 1 else if b = mb then k + 3 else col b) = col3 at *
    have hpw : w.heap.size ≤ w2.heap.size := by omega
    generalize w2.alloc (cel [Ptr t, I 0, I l, .slice none 0 0, .map (some mb), .slice none 0 0] 108) = w3 at *
    generalize w2.heap.size = pb at *
    clear hbox
    refine runG12 ?_
    refine lp (fun env w' => ∃ env0, ∃ j : Nat, ∃ ca cc col' ms, env = setL env0 [(4, Ptr pb), (32, I c), (33, I j)] ∧ (j : Int) ≤ c ∧ NQ PT w w' col col' k pb t mb (.slice ca j cc) ms l ∧ ms.length = j ∧ ∀ b, InV (.slice ca j cc) b → w.heap.size ≤ b) (fun env _ => c.toNat - cnt (env 33)) ?_ ?_
    · exact ⟨_, 0, none, 0, col3, [], fixL ⟨rfl, rfl, rfl, trivial⟩, by omega, hN3, rfl, fun b hb => (inv_none hb).elim⟩
    · rintro env w4 ⟨env0, j, ca, cc, col4, ms, rfl, hj, hN, hml, hcw⟩
      have hh4 := hN.head
      by_cases hlt : (j : Int) < c
      · have hnp : ¬ InV (.slice ca j cc) pb := fun h9 => by have := hN.crow _ h9; have := hN.own; omega
        refine runG12 ?_
        refine w_drawn [(0, false), (1, false), (2, false), (3, false), (4, false), (5, true), (6, false), (7, true), (8, true), (9, false), (10, false)] [11] (fun wq => Frm (InV (.slice ca j cc)) w4 wq) mixed (by kernel_rfl) ?_ ?_
        · exact Frm.of_drew _
        · refine runG12 ?_
          refine x_callf rfl (nothing_ret sp _) rfl wnt_none ?_
          rintro v w5 ⟨t', rfl, hT5, f5⟩
          have f45 : Frm0 w4 w5 := (Frm.of_drew w4).trans0 f5
          refine ⟨f45.mono (fun _ h => h.elim), ?_⟩
          refine x_q rfl (fun wq hq => r_build rfl (bld_client _ wq)) wnt_none ?_
          refine x_val rfl (r_bs rfl (bs_client _ _)) wnt_none ((f45.mono (fun _ h => h.elim)).alloc _) ?_
          have f6 : Frm0 w5 (w5.alloc (cel (cli0V t') 119)) := Frm.of_alloc _ _
          have hrow6 := hN.row.frm (f45.trans0 f6) (fun _ _ h => h)
          obtain ⟨v7, w7, e7, r7, f7, n7⟩ := append_seg (P := Tryz.prog) (sz := 8) (by' := 120) (ty := 106) (sT := 106) (u_ok rfl) (u_ok rfl) (fun kk h => by cases h) (s_ok rfl) (b_ok rfl) (z_ok rfl) rfl hrow6 (seg_new (w := w5) (cs := cli0V t') (t := 119) rfl) (cli0_one t') (by omega) (by omega)
          have f47 : Frm (InV (.slice ca j cc)) w4 w7 := ((f45.trans0 f6).mono (fun _ h => h.elim)).trans f7 (fun b hb => .inl hb)
          refine x_val rfl (r_app rfl rfl e7) wnt_none f47 ?_
          have hh7 := f47.at hnp hh4
          obtain ⟨col8, hN8⟩ := hN.grow sp hk (by omega) hpw hcw f45 (sp.weak hT5 (fun b hb _ => hb)) f6 f7 r7 n7
          have r7' := r7
          rw [hml] at r7'
          obtain ⟨xa, xc, rfl⟩ := r7'.isSl
          refine runG12 ?_
          refine y_skip rfl (r_store_s (s_ok rfl) rfl rfl hh7 (by simp)) wnt_none ?_
          refine runG12 ?_
          have s45 := f45.size
          have s6 := f6.size
          have s4 := hN.new.size
          obtain ⟨ms8, hN9, hl9⟩ : ∃ ms8, NQ PT w (setB w7 pb (cel [Ptr t, I 0, I l, .slice none 0 0, .map (some mb), .slice xa (j + 1) xc] 108)) col col8 k pb t mb (.slice xa (j + 1) xc) ms8 l ∧ ms8.length = j + 1 := ⟨_, hN8, by rw [List.length_append, hml]; rfl⟩
          refine ⟨_, rfl, ⟨_, j + 1, xa, xc, col8, ms8, fixL ⟨rfl, rfl, rfl, trivial⟩, by omega, hN9, hl9, fun b hb => ?_⟩, by show c.toNat - ((j : Int) + 1).toNat < c.toNat - (j : Int).toNat; omega⟩
          rcases n7 b hb with h9 | h9
          · exact hcw b h9
          · omega
      · have hjc : c.toNat = j := by omega
        refine runG12 ?_
        refine ret_2 rfl rfl rfl ⟨hN.new, pb, col4, rfl, ?_, hN.ext⟩
        rcases hN.row with ⟨_, h0, _⟩ | ⟨cb, cap, rest, e9, hA, hpl, hr, hc⟩
        · omega
        · cases e9
          refine ⟨t, .slice none 0 0, mb, cb, cc, rest, ms, ?_, hN.own, hN.tree, wf_root0, Row.nil, fun b hb => (inv_none hb).elim, ⟨#[], 0, hN.map, ⟨rfl, by simp, fun e he => by simp at he, by simp [newQ]⟩⟩, hN.cmap, hA, hN.crow _ ⟨_, _, _, rfl⟩, ?_, hN.cli, by omega, hN.ext.high, hk⟩
          · have := hN.head
            rw [hml]
            exact this
          · show List.replicate c.toNat pcli0 = ms.map (·.c)
            rw [hjc, ← hml]
            refine (List.eq_replicate_iff.2 ⟨by simp, fun b hb => ?_⟩).symm
            obtain ⟨m, hm, rfl⟩ := List.mem_map.1 hb
            exact hN.all m hm
end
end Go.Proofs.YtbicffldggcdhaaGreatDoor

namespace Go.Proofs.YtbicffldggcdhaaGreatDoor
open Go

theorem PPar.cl_memK {Q : PPar} {i : Int} {c : PCli} (h : Q.cl i = some c) : c ∈ Q.cls := by
  unfold PPar.cl at h
  split at h
  · cases h
  · exact List.mem_of_getElem? h
section
variable {P : Par} {i : Int}
theorem editP_log (e : Ed) : (editP P i e).2.log = P.log := by
  unfold editP
  repeat' split
  all_goals rfl
theorem joinP_log : (joinP P i).2.log = P.log := by
  unfold joinP
  repeat' split
  all_goals rfl
theorem dropP_log : (dropP P i).2.log = P.log := by
  unfold dropP
  repeat' split
  all_goals rfl
theorem upP_log : (upP P i).2.log = P.log := by
  unfold upP
  repeat' split
  all_goals first | rfl | (dsimp only; repeat' split) 
  all_goals rfl
theorem downP_log : (downP P i).2.log = P.log := by
  unfold downP
  repeat' split
  all_goals rfl
end
/-- A party of the program that is the document's P. -/
structure KP (PT : PTy) (w : World) (col : Nat → Nat) (k p : Nat) (P : Par) : Prop where
  ex : ∃ Q, PP PT w col k p Q ∧ Sim Q P
  sp : SP P
  ok : POk P
  log : 0 ≤ P.log ∧ P.log ≤ 8
def KStep (PT : PTy) (w w' : World) (col : Nat → Nat) (k p : Nat) (P : Par) : Prop := ∃ col', KP PT w' col' k p P ∧ Ext k w w' col col' ∧ Frm (fun b => k ≤ col b ∧ col b < k + 100) w w'
theorem PP.highK {PT : PTy} {w : World} {col : Nat → Nat} {k p : Nat} {Q : PPar} (h : PP PT w col k p Q) : ∀ b, w.heap.size ≤ b → col b = 0 := by
  obtain ⟨t, lv, mb, cb, cap, rest, ms, h⟩ := h
  exact h.high
section
variable {PT : PTy} {w w' : World} {col : Nat → Nat} {k p : Nat} {P : Par} {ea : List Addr}
theorem KP.high (h : KP PT w col k p P) : ∀ b, w.heap.size ≤ b → col b = 0 := by
  obtain ⟨⟨Q, hq, _⟩, _⟩ := h
  exact hq.highK
theorem KP.frm0 (sp : TreeSpec PT) (h : KP PT w col k p P) (f : Frm0 w w') : KP PT w' col k p P := by
  obtain ⟨⟨Q, ⟨t, lv, mb, cb, cap, rest, ms, hq⟩, hs⟩, h2, h3, h4⟩ := h
  exact ⟨⟨Q, ⟨t, lv, mb, cb, cap, rest, ms, hq.frm0 sp f⟩, hs⟩, h2, h3, h4⟩
theorem KP.qb (h : KP PT w col k p P) (hB : P.ents.length ≤ 885000000000) : ∃ Q, PP PT w col k p Q ∧ Sim Q P ∧ QB Q := by
  obtain ⟨⟨Q, hq, hs⟩, hsp, hi, hl⟩ := h
  exact ⟨Q, hq, hs, qb_of2 hs hsp hi hB hl⟩
theorem kpEdit (sp : TreeSpec PT) (h : KP PT w col k p P) (hE : Errs w ea) (hB : P.ents.length ≤ 885000000000) (i : Int) (e : Ed) :
    Rets Tryz.prog 31 [Ptr p, I i, EdV e] w fun v w' => ErrN ea w w' v (editP P i e).1 e ∧ KStep PT w w' col k p (editP P i e).2 := by
  obtain ⟨Q, hq, hs, hb⟩ := h.qb hB
  have h1 := hs.edit h.sp i e
  refine (PEdit_ret sp hq hE wf_root0 i e (fun c hc => by have := hb.cl c (PPar.cl_memK hc); exact ⟨by omega, by omega⟩)).mono ?_
  rintro v w' ⟨hv, col', hq', hx, hf⟩
  exact ⟨by rw [← h1.1]; exact hv, col', ⟨⟨_, hq', h1.2⟩, h.sp.edit i e, h.ok.edit i e, by rw [editP_log]; exact h.log⟩, hx, hf⟩
theorem kpJoin (sp : TreeSpec PT) (h : KP PT w col k p P) (hE : Errs w ea) (hB : P.ents.length ≤ 885000000000) (i : Int) :
    Rets Tryz.prog 33 [Ptr p, I i] w fun v w' => ErrN ea w w' v (joinP P i).1 ed0 ∧ KStep PT w w' col k p (joinP P i).2 := by
  obtain ⟨Q, hq, hs, hb⟩ := h.qb hB
  have h1 := hs.join h.sp i
  refine (PJoin_ret sp hq hE i (fun c hc => by have := hb.cl c (PPar.cl_memK hc); exact ⟨by omega, by omega⟩)).mono ?_
  rintro v w' ⟨hv, col', hq', hx, hf⟩
  exact ⟨by rw [← h1.1]; exact hv, col', ⟨⟨_, hq', h1.2⟩, h.sp.join i, h.ok.join i, by rw [joinP_log]; exact h.log⟩, hx, hf⟩
theorem kpDrop (sp : TreeSpec PT) (h : KP PT w col k p P) (hE : Errs w ea) (i : Int) :
    Rets Tryz.prog 34 [Ptr p, I i] w fun v w' => ErrN ea w w' v (dropP P i).1 ed0 ∧ KStep PT w w' col k p (dropP P i).2 := by
  obtain ⟨Q, hq, hs⟩ := h.ex
  have h1 := hs.drop i
  refine (PDrop_ret sp hq hE i).mono ?_
  rintro v w' ⟨hv, col', hq', hx, hf⟩
  exact ⟨by rw [← h1.1]; exact hv, col', ⟨⟨_, hq', h1.2⟩, h.sp.drop i, h.ok.drop i, by rw [dropP_log]; exact h.log⟩, hx, hf⟩
theorem kpUp (sp : TreeSpec PT) (cs : CloneSpec PT) (h : KP PT w col k p P) (hE : Errs w ea) (hlo : (∀ g ∈ errG, col g = 0) ∧ ∀ a ∈ ea, col a.block = 0) (hB : P.ents.length ≤ 885000000000) (i : Int) :
    Rets Tryz.prog 32 [Ptr p, I i] w fun v w' => ErrN ea w w' v (upP P i).1 ed0 ∧ KStep PT w w' col k p (upP P i).2 := by
  obtain ⟨Q, hq, hs, hb⟩ := h.qb hB
  refine (PUp_ret sp cs hq hE hlo hb i).mono ?_
  rintro v w' ⟨L, hL, hv, col', hq', hx, hf⟩
  have h1 := hs.up h.sp h.log.1 i hL
  exact ⟨by rw [← h1.1]; exact hv, col', ⟨⟨_, hq', h1.2⟩, h.sp.up i, h.ok.up i, by rw [upP_log]; exact h.log⟩, hx, hf⟩
theorem kpDown (sp : TreeSpec PT) (h : KP PT w col k p P) (hE : Errs w ea) (hlo : (∀ g ∈ errG, col g = 0) ∧ ∀ a ∈ ea, col a.block = 0) (hB : P.ents.length ≤ 885000000000) (i : Int) :
    Rets Tryz.prog 42 [Ptr p, I i] w fun v w' => ErrN ea w w' v (downP P i).1 ed0 ∧ KStep PT w w' col k p (downP P i).2 := by
  obtain ⟨Q, hq, hs, hb⟩ := h.qb hB
  have h1 := hs.down h.sp i
  refine (PDown_ret sp hq hE hlo hb i).mono ?_
  rintro v w' ⟨hv, col', hq', hx, hf⟩
  exact ⟨by rw [← h1.1]; exact hv, col', ⟨⟨_, hq', h1.2⟩, h.sp.down i, h.ok.down i, by rw [downP_log]; exact h.log⟩, hx, hf⟩
theorem kpBase (sp : TreeSpec PT) (cs : CloneSpec PT) (h : KP PT w col k p P) (hE : Errs w ea) {i : Int} {c : Cli} (hc : P.cl i = some c) :
    Rets Tryz.prog 26 [Ptr p, I i] w fun v w' => ∃ t, v = .tuple #[Ptr t, I c.n, .nilIface] ∧ PT w' t c.base (fun b => w.heap.size ≤ b) ∧ Wf c.base ∧ Frm0 w w' := by
  obtain ⟨Q, hq, hs⟩ := h.ex
  refine (PBase_ret sp cs hq hE i).mono ?_
  have h9 := hs.cl i
  rw [hc] at h9
  rintro v w' ⟨hv, hf⟩
  rw [h9] at hv
  obtain ⟨t, h1, h2, h3⟩ := hv
  exact ⟨t, h1, h2, h3, hf⟩
theorem kpPending (sp : TreeSpec PT) (h : KP PT w col k p P) (hE : Errs w ea) (hB : P.ents.length ≤ 885000000000) {i : Int} {c : Cli} (hc : P.cl i = some c) :
    Rets Tryz.prog 30 [Ptr p, I i] w fun v w' => ∃ l, v = .tuple #[l, .nilIface] ∧ Out w w' l 31 6 (c.pend.map (·.2)).length (fl Ed.vals (c.pend.map (·.2))) := by
  obtain ⟨Q, hq, hs, hb⟩ := h.qb hB
  refine (PPending_ret sp hq hE hb i).mono ?_
  have h9 := hs.cl i
  rw [hc] at h9
  intro v w' hv
  rw [h9] at hv
  exact hv
theorem kpServer (sp : TreeSpec PT) (cs : CloneSpec PT) (h : KP PT w col k p P) :
    Rets Tryz.prog 24 [Ptr p] w fun v w' => ∃ t, v = .tuple #[Ptr t, I P.ents.length] ∧ PT w' t P.t (fun b => w.heap.size ≤ b) ∧ Wf P.t ∧ Frm0 w w' := by
  obtain ⟨Q, hq, hs⟩ := h.ex
  refine (PServer_ret sp cs hq).mono ?_
  rw [hs.t, hs.n]
  intro v w' hv
  exact hv
theorem kpLog (h : KP PT w col k p P) (hB : P.ents.length ≤ 885000000000) :
    Rets Tryz.prog 51 [Ptr p] w fun v w' => Out w w' v 54 9 (logP P).length (fl Ent.vals (logP P)) := by
  obtain ⟨Q, hq, hs, hb⟩ := h.qb hB
  refine (PLog_ret hq hb).mono ?_
  rw [hs.log]
  intro v w' hv
  exact hv
theorem kpNew (sp : TreeSpec PT) (hk : 0 < k) (hh : ∀ b, w.heap.size ≤ b → col b = 0) (hE : Errs w ea) {c l : Int} (hc : 1 ≤ c ∧ c ≤ 4) (hl : 0 ≤ l ∧ l ≤ 8) :
    Rets Tryz.prog 40 [CfgV c l] w fun v w' => ∃ p col', v = .tuple #[Ptr p, .nilIface] ∧ KP PT w' col' k p ⟨c, l, [root0], [], List.replicate c.toNat cli0⟩ ∧ Ext k w w' col col' ∧ Frm0 w w' := by
  refine (PNew_ret sp hk hh hE c l).mono ?_
  rintro v w' ⟨hf, hv⟩
  rw [if_neg (by omega)] at hv
  obtain ⟨p, col', h1, h2, h3⟩ := hv
  have hn : newP c l = some ⟨c, l, [root0], [], List.replicate c.toNat cli0⟩ := by rw [newP, if_neg (by omega)]
  exact ⟨p, col', h1, ⟨⟨_, h2, sim_new hn⟩, sp_new hn, pok_new hn, hl⟩, h3, hf⟩
end
end Go.Proofs.YtbicffldggcdhaaGreatDoor

namespace Go.Proofs.YtbicffldggcdhaaGreatDoor
open Go

theorem errIs0 {ea : List Addr} {w : World} {v : Value} {e : Ed} (h : ErrIs ea w v 0 e) : v = .nilIface := by
  rcases h with ⟨_, h⟩ | ⟨h, _⟩
  · exact h
  · omega
theorem errIsS {ea : List Addr} {w : World} {v : Value} {n : Nat} {e : Ed} (h : ErrIs ea w v n e) (hn : n ≠ 0) : ∃ b, v = .iface 95 (Ptr b) := by
  rcases h with ⟨h, _⟩ | ⟨_, b, _, h, _⟩
  · exact absurd h hn
  · exact ⟨b, h⟩
theorem KStep.go {PT : PTy} {w0 w w' : World} {col : Nat → Nat} {k p : Nat} {P : Par} (h : KStep PT w w' col k p P) (f : Frm0 w0 w) (hl : ∀ b, b < w0.heap.size → col b = 0) (hk : 0 < k) : ∃ col', KP PT w' col' k p P ∧ Frm0 w0 w' ∧ (∀ b, b < w0.heap.size → col' b = 0) ∧ Ext k w w' col col' ∧ Frm (fun b => k ≤ col b ∧ col b < k + 100) w w' := by
  obtain ⟨col', h1, h2, h3⟩ := h
  refine ⟨col', h1, f.trans h3 (fun b hb => .inr ?_), fun b hb => ?_, h2, h3⟩
  · rcases Nat.lt_or_ge b w0.heap.size with h9 | h9
    · have := hl b h9; omega
    · exact h9
  · rw [h2.old b (Nat.lt_of_lt_of_le hb f.size)]
    exact hl b hb
def kE1 : Ed := ⟨1, 1, 0, 0, 0, 0⟩
def kE2 : Ed := ⟨1, 2, 1, 0, 0, 0⟩
def kE3 : Ed := ⟨2, 1, 2, 0, 0, 0⟩
theorem bldk1 (w : World) : (Instr.build 31 [(0, I 1), (1, I 1)].toArray).run Tryz.prog w = .ok (EdV kE1) w := by kernel_rfl
theorem bldk2 (w : World) : (Instr.build 31 [(0, I 1), (1, I 2), (2, I 1)].toArray).run Tryz.prog w = .ok (EdV kE2) w := by kernel_rfl
theorem bldk3 (w : World) : (Instr.build 31 [(0, I 2), (1, I 1), (2, I 2)].toArray).run Tryz.prog w = .ok (EdV kE3) w := by kernel_rfl
theorem bldkC (a b : Int) (w : World) : (Instr.build 87 [(0, I a), (1, I b)].toArray).run Tryz.prog w = .ok (CfgV a b) w := by kernel_rfl
def kT1 : List Nd := [root0, ⟨1, 0, 0, 0, 0, 0, 0⟩]
def kT2 : List Nd := [root0, ⟨1, 0, 0, 0, 0, 0, 0⟩, ⟨2, 1, 0, 0, 0, 0, 0⟩]
theorem kR1 : refused [root0] kE1 = 0 := by decide
theorem kA1 : applyL [root0] kE1 = kT1 := by rfl
theorem kR2 : refused kT1 kE2 = 0 := by decide
theorem kA2 : applyL kT1 kE2 = kT2 := by rfl
theorem kR3 : refused kT2 kE3 = 6 := by decide
theorem kA3 : applyL kT2 kE3 = kT2 := by rfl
def wP0 : Par := ⟨1, 1, [root0], [], List.replicate (1 : Int).toNat cli0⟩
def wP1 : Par := (editP wP0 0 kE1).2
def wP2 : Par := (joinP wP1 0).2
def wP3 : Par := (upP wP2 0).2
def wP4 : Par := (upP wP3 0).2
def wP5 : Par := (downP wP4 0).2
theorem wR1 : (editP wP0 0 kE1).1 = 0 := by rfl
theorem wR2 : (joinP wP1 0).1 = 0 := by rfl
theorem wR3 : (upP wP2 0).1 = 0 := by rfl
theorem wR4 : (upP wP3 0).1 = 0 := by rfl
theorem wR5 : (downP wP4 0).1 = 0 := by rfl
theorem wC5 : ∃ c, wP5.cl 0 = some c ∧ c.n = 1 ∧ c.base.length = 2 := ⟨_, rfl, rfl, rfl⟩
section
variable {w : World} {n : Nat} {env : Env} {d : Option Nat} {t ty2 : Nat} {p : String} {af : Array Edge} {g : Option (Nat × Bool)} {x : Operand}
theorem r_eqpP {a : Addr} (hx : ev n env x = .pointer (some a)) : (execOp (ev n env) ⟨d, .binOp .eql 45 x (.const (.pointer none)) ty2, t, p, af, g⟩).run Tryz.prog w = .ok (.value (.bool false)) w :=
  r_eq2 hx (show ev n env (.const (.pointer none)) = .pointer none from rfl) rfl (by kernel_rfl)
theorem r_nepT {a : Addr} (hx : ev n env x = .pointer (some a)) : (execOp (ev n env) ⟨d, .binOp .neq 28 x (.const (.pointer none)) ty2, t, p, af, g⟩).run Tryz.prog w = .ok (.value (.bool true)) w :=
  r_eq2 hx (show ev n env (.const (.pointer none)) = .pointer none from rfl) rfl (by kernel_rfl)
end
set_option maxRecDepth 4000 in
set_option maxHeartbeats 2000000 in
theorem works_ret {PT : PTy} (sp : TreeSpec PT) (cs : CloneSpec PT) {w : World} {ea : List Addr} (hE : Errs w ea) :
    Rets Tryz.prog 14 [] w fun v w' => v = B true ∧ Frm0 w w' := by
  have hlt := errs_lt hE
  have hg : ∀ g ∈ errG, ¬ w.heap.size ≤ g := fun g hg => by have := hlt.1 g hg; omega
  have ha : ∀ a ∈ ea, ¬ w.heap.size ≤ a.block := fun a ha => by have := hlt.2 a ha; omega
  refine rets_of Tryz.func14 (by kernel_rfl) rfl Tryz.ntmps14 (Nat.le_of_ble_eq_true rfl) ?_
  refine runG12 ?_
  refine s_callf (sp.new w) rfl wnt_none ?_
  rintro v w1 ⟨t, rfl, hT1, f1⟩
  refine runG12 ?_
  refine s_val (r_eqp rfl) wnt_none ?_
  refine runG12 ?_
  refine s_val (r_build rfl (bldk1 _)) wnt_none ?_
  refine s_callf (sp.apply kE1 hT1 wf_root0 (hE.frm0 f1) hg ha) rfl wnt_none ?_
  rintro v w2 ⟨hv, hT2, f2, _⟩
  have F2 : Frm0 w w2 := f1.trans f2 (fun b hb => .inr hb)
  have hT2 := sp.weak (S' := fun b => w.heap.size ≤ b) hT2 (fun b hb _ => by have := f1.size; omega)
  rw [kR1] at hv
  cases errIs0 hv
  rw [kA1] at hT2
  have hW1 : Wf kT1 := by rw [← kA1]; exact wf_root0.apply kE1
  have hW2 : Wf kT2 := by rw [← kA2]; exact hW1.apply kE2
  refine runG12 ?_
  refine s_val (r_build rfl (bldk2 _)) wnt_none ?_
  refine s_callf (sp.apply kE2 hT2 hW1 (hE.frm0 F2) hg ha) rfl wnt_none ?_
  rintro v w3 ⟨hv, hT3, f3, _⟩
  have F3 : Frm0 w w3 := F2.trans f3 (fun b hb => .inr hb)
  have hT3 := sp.weak (S' := fun b => w.heap.size ≤ b) hT3 (fun b hb _ => by have := F2.size; omega)
  rw [kR2] at hv
  cases errIs0 hv
  rw [kA2] at hT3
  refine runG12 ?_
  refine s_val (r_build rfl (bldk3 _)) wnt_none ?_
  refine s_callf (sp.apply kE3 hT3 hW2 (hE.frm0 F3) hg ha) rfl wnt_none ?_
  rintro v w4 ⟨hv, hT4, f4, _⟩
  have F4 : Frm0 w w4 := F3.trans f4 (fun b hb => .inr hb)
  have hT4 := sp.weak (S' := fun b => w.heap.size ≤ b) hT4 (fun b hb _ => by have := F3.size; omega)
  rw [kR3] at hv
  rw [kA3] at hT4
  obtain ⟨cb, rfl⟩ := errIsS hv (by decide)
  clear hv
  refine runG12 ?_
  refine s_val (r_build rfl (bldkC _ _ _)) wnt_none ?_
  refine s_callf (kpNew sp (k := 100) (col := fun _ => 0) (by omega) (fun _ _ => rfl) (hE.frm0 F4) (c := 1) (l := 1) (by omega) (by omega)) rfl wnt_none ?_
  rintro v w5 ⟨p, col5, rfl, hp5, x5, f5⟩
  have F5 := F4.trans0 f5
  have l5 : ∀ b, b < w.heap.size → col5 b = 0 := fun b hb => by rw [x5.old b (Nat.lt_of_lt_of_le hb F4.size)]
  have hT5 := sp.frm hT4 f5 (fun _ _ h => h)
  refine runG12 ?_
  refine s_val (r_nnF rfl) wnt_none ?_
  refine runG12 ?_
  refine s_val (r_nnF rfl) (by (first | (with_reducible exact wnt_none) | ((with_reducible apply wnt_y); exact rfl; exact rfl; exact rfl; exact rfl; (with_reducible exact rfl)))) ?_
  refine runG12 ?_
  refine s_val (r_in rfl) (by (first | (with_reducible exact wnt_none) | ((with_reducible apply wnt_y); exact rfl; exact rfl; exact rfl; exact rfl; (with_reducible exact rfl)))) ?_
  refine runG12 ?_
  refine s_callf (sp.len hT5) rfl (by (first | (with_reducible exact wnt_none) | ((with_reducible apply wnt_y); exact rfl; exact rfl; exact rfl; exact rfl; (with_reducible exact rfl)))) ?_
  rintro v w6 ⟨rfl, f6⟩
  have F6 := F5.trans0 f6
  have hp6 := hp5.frm0 sp f6
  rw [show (kT2.length : Int) = 3 from rfl]
  refine runG12 ?_
  refine s_val (r_nnF rfl) (by (first | (with_reducible exact wnt_none) | ((with_reducible apply wnt_y); exact rfl; exact rfl; exact rfl; exact rfl; (with_reducible exact rfl)))) ?_
  refine runG12 ?_
  refine s_val (r_eqpP rfl) (by (first | (with_reducible exact wnt_none) | ((with_reducible apply wnt_y); exact rfl; exact rfl; exact rfl; exact rfl; (with_reducible exact rfl)))) ?_
  refine runG12 ?_
  refine s_val (r_build rfl (bldk1 _)) wnt_none ?_
  refine s_callf (kpEdit sp (P := wP0) hp6 (hE.frm0 F6) (by decide) 0 kE1) rfl wnt_none ?_
  rintro v w7 ⟨hv, hs⟩
  obtain ⟨col7, hp7, F7, l7, _⟩ := hs.go F6 l5 (by omega)
  rw [wR1] at hv
  cases errIs0 hv.1
  clear hv hs
  refine runG12 ?_
  refine s_callf (kpJoin sp (P := wP1) hp7 (hE.frm0 F7) (by decide) 0) rfl wnt_none ?_
  rintro v w8 ⟨hv, hs⟩
  obtain ⟨col8, hp8, F8, l8, _⟩ := hs.go F7 l7 (by omega)
  rw [wR2] at hv
  cases errIs0 hv.1
  clear hv hs
  refine runG12 ?_
  refine s_callf (kpUp sp cs (P := wP2) hp8 (hE.frm0 F8) ⟨fun g hg => l8 g (hlt.1 g hg), fun a ha => l8 _ (hlt.2 a ha)⟩ (by decide) 0) rfl wnt_none ?_
  rintro v w9 ⟨hv, hs⟩
  obtain ⟨col9, hp9, F9, l9, _⟩ := hs.go F8 l8 (by omega)
  rw [wR3] at hv
  cases errIs0 hv.1
  clear hv hs
  refine runG12 ?_
  refine s_callf (kpUp sp cs (P := wP3) hp9 (hE.frm0 F9) ⟨fun g hg => l9 g (hlt.1 g hg), fun a ha => l9 _ (hlt.2 a ha)⟩ (by decide) 0) rfl wnt_none ?_
  rintro v wa ⟨hv, hs⟩
  obtain ⟨cola, hpa, Fa, la, _⟩ := hs.go F9 l9 (by omega)
  rw [wR4] at hv
  cases errIs0 hv.1
  clear hv hs
  refine runG12 ?_
  refine s_callf (kpDown sp (P := wP4) hpa (hE.frm0 Fa) ⟨fun g hg => la g (hlt.1 g hg), fun a ha => la _ (hlt.2 a ha)⟩ (by decide) 0) rfl wnt_none ?_
  rintro v wb ⟨hv, hs⟩
  obtain ⟨colb, hpb, Fb, lb, _⟩ := hs.go Fa la (by omega)
  rw [wR5] at hv
  cases errIs0 hv.1
  clear hv hs
  obtain ⟨c, hc, hcn, hcl⟩ := wC5
  refine runG12 ?_
  refine s_callf (kpBase sp cs (P := wP5) hpb (hE.frm0 Fb) hc) rfl wnt_none ?_
  rintro v wc ⟨tb, rfl, hTb, _, fc⟩
  have Fc := Fb.trans0 fc
  rw [hcn]
  refine runG12 ?_
  refine s_val (r_nn rfl) wnt_none ?_
  refine runG12 ?_
  refine s_val (r_nn rfl) (by (first | (with_reducible exact wnt_none) | ((with_reducible apply wnt_y); exact rfl; exact rfl; exact rfl; exact rfl; (with_reducible exact rfl)))) ?_
  refine runG12 ?_
  refine s_val (r_nn rfl) (by (first | (with_reducible exact wnt_none) | ((with_reducible apply wnt_y); exact rfl; exact rfl; exact rfl; exact rfl; (with_reducible exact rfl)))) ?_
  refine runG12 ?_
  refine s_val (r_nn rfl) (by (first | (with_reducible exact wnt_none) | ((with_reducible apply wnt_y); exact rfl; exact rfl; exact rfl; exact rfl; (with_reducible exact rfl)))) ?_
  refine runG12 ?_
  refine s_val (r_nn rfl) (by (first | (with_reducible exact wnt_none) | ((with_reducible apply wnt_y); exact rfl; exact rfl; exact rfl; exact rfl; (with_reducible exact rfl)))) ?_
  refine runG12 ?_
  refine s_val (r_nn rfl) (by (first | (with_reducible exact wnt_none) | ((with_reducible apply wnt_y); exact rfl; exact rfl; exact rfl; exact rfl; (with_reducible exact rfl)))) ?_
  refine runG12 ?_
  refine s_val (r_nepT rfl) (by (first | (with_reducible exact wnt_none) | ((with_reducible apply wnt_y); exact rfl; exact rfl; exact rfl; exact rfl; (with_reducible exact rfl)))) ?_
  refine runG12 ?_
  refine s_callf (sp.len hTb) rfl (by (first | (with_reducible exact wnt_none) | ((with_reducible apply wnt_y); exact rfl; exact rfl; exact rfl; exact rfl; (with_reducible exact rfl)))) ?_
  rintro v wd ⟨rfl, fd⟩
  rw [show (c.base.length : Int) = 2 by rw [hcl]; rfl]
  refine runG12 ?_
  exact ret_b rfl rfl ⟨rfl, Fc.trans0 fd⟩
end Go.Proofs.YtbicffldggcdhaaGreatDoor

namespace Go.Proofs.YtbicffldggcdhaaGreatDoor
open Go

theorem Frm.old {S : Nat → Prop} {w w' : World} (f : Frm S w w') : Frm (fun b => b < w.heap.size ∧ S b) w w' := ⟨f.size, fun b o hb hn => f.same b o hb (fun hs => hn ⟨at_lt hb, hs⟩), f.tape, f.os, f.output⟩
theorem PP.other {PT : PTy} (sp : TreeSpec PT) {w w' : World} {col col' : Nat → Nat} {k p : Nat} {Q : PPar} {S : Nat → Prop} (h : PP PT w col k p Q) (f : Frm S w w') (hs : ∀ b, k ≤ col b → col b < k + 100 → ¬ S b) (ho : ∀ b, b < w.heap.size → col' b = col b) (hh : ∀ b, w'.heap.size ≤ b → col' b = 0) : PP PT w' col' k p Q := by
  obtain ⟨t, lv, mb, cb, cap, rest, ms, h⟩ := h
  have hpos := h.pos
  have hfew := h.few
  have f' := f.old
  have key : ∀ {b q}, col b = q → k ≤ q → q < k + 100 → ¬ (b < w.heap.size ∧ S b) := fun h2 h3 h4 h5 => hs _ (by omega) (by omega) h5.2
  obtain ⟨es, cl, hm1, hm2⟩ := h.map
  refine ⟨t, lv, mb, cb, cap, rest, ms, f'.at (key h.own (by omega) (by omega)) h.head, by rw [ho p (at_lt h.head)]; exact h.own, ?_, h.wf, h.log.frm f' (fun b hb => key (h.clog b hb) (by omega) (by omega)), fun b hb => by rw [ho b (h.log.lt hb)]; exact h.clog b hb, ⟨es, cl, f'.at (key h.cmap (by omega) (by omega)) hm1, hm2⟩, by rw [ho mb (at_lt hm1)]; exact h.cmap, f'.at (key h.crow (by omega) (by omega)) h.row, by rw [ho cb (at_lt h.row)]; exact h.crow, h.cls, fun i m hi => ?_, h.few, hh, h.pos⟩
  · exact sp.weak (sp.frm (sp.weak h.tree (fun b hb hl => ⟨hb, hl⟩) : PT w t Q.t (fun b => col b = k + 1 ∧ b < w.heap.size)) f' (fun b hb => key hb.1 (by omega) (by omega))) (fun b hb _ => by rw [ho b hb.2]; exact hb.1)
  · have hl : i < ms.length := (List.getElem?_eq_some_iff.1 hi).1
    refine ((h.cli i m hi).recol sp ho).frm sp f' (fun b h2 h3 h4 => ?_)
    rw [ho b h4.1] at h2 h3
    exact hs b (by omega) (by omega) h4.2
/-! ### Lists that were kept -/
/-! ### Groups -/
structure GP where
  p : Nat
  r : Nat
  Q : PPar
  P : Par
section
variable {PT : PTy} (sp : TreeSpec PT) {w w' : World} {wp : Nat} {tsv psv e a n : Value} {ts : List TP} {gs : List GP} {es as' ns : List Value} {colT col col' : Nat → Nat} {N : Nat} {S : Nat → Prop}
end
end Go.Proofs.YtbicffldggcdhaaGreatDoor

namespace Go.Proofs.YtbicffldggcdhaaGreatDoor
open Go

/-- Group j goes on: colours grow, and only its own blocks change. -/
structure Bd (j : Nat) (w w' : World) (col col' : Nat → Nat) : Prop where
  old : ∀ b, b < w.heap.size → col' b = col b
  high : ∀ b, w'.heap.size ≤ b → col' b = 0
  new : ∀ b, w.heap.size ≤ b → col' b = 0 ∨ (200 * j + 100 ≤ col' b ∧ col' b < 200 * j + 300)
  frm : Frm (fun b => 200 * j + 100 ≤ col b ∧ col b < 200 * j + 300) w w'
theorem Bd.trans {j : Nat} {w w1 w2 : World} {col col1 col2 : Nat → Nat} (h : Bd j w w1 col col1) (g : Bd j w1 w2 col1 col2) : Bd j w w2 col col2 := by
  have hs := h.frm.size
  refine ⟨fun b hb => by rw [g.old b (by omega)]; exact h.old b hb, g.high, fun b hb => ?_, h.frm.trans g.frm (fun b hb => ?_)⟩
  · rcases Nat.lt_or_ge b w1.heap.size with h1 | h1
    · rw [g.old b h1]; exact h.new b hb
    · exact g.new b h1
  · rcases Nat.lt_or_ge b w.heap.size with h1 | h1
    · rw [h.old b h1] at hb; exact .inl hb
    · exact .inr h1
theorem Bd.frm0 {j : Nat} {w w1 : World} {col : Nat → Nat} (hh : ∀ b, w.heap.size ≤ b → col b = 0) (f : Frm0 w w1) : Bd j w w1 col col := ⟨fun _ _ => rfl, fun b hb => hh b (Nat.le_trans f.size hb), fun b hb => .inl (hh b hb), f.mono (fun _ h => h.elim)⟩
theorem Bd.ofQ {j k : Nat} {w w1 : World} {col col1 : Nat → Nat} (e : Ext k w w1 col col1) (f : Frm (fun b => k ≤ col b ∧ col b < k + 100) w w1) (hk : k = 200 * j + 100 ∨ k = 200 * j + 200) : Bd j w w1 col col1 :=
  ⟨e.old, e.high, fun b hb => (e.new b hb).imp id (fun h => by omega), f.mono (fun b hb => .inl (by omega))⟩
section
variable {PT : PTy} (sp : TreeSpec PT) {w w' : World} {wp : Nat} {tsv psv e a n : Value} {ts : List TP} {gs : List GP} {es as' ns : List Value} {colT col col' : Nat → Nat} {N j : Nat}
end
end Go.Proofs.YtbicffldggcdhaaGreatDoor

namespace Go.Proofs.YtbicffldggcdhaaGreatDoor
open Go

theorem append_edB {w : World} {v s : Value} {A : List Ed} {q : Ed} {ty : Nat} (hrow : Row w v 31 6 A.length (fl Ed.vals A)) (hseg : Seg w s 6 1 q.vals) (hcap : A.length < 890000000000) :
    ∃ v' w', (Builtin.append_ #[26, 26] ty #[v, s]).run Tryz.prog w = .ok v' w' ∧ Row w' v' 31 6 (A ++ [q]).length (fl Ed.vals (A ++ [q])) ∧ Frm (InV v) w w' ∧ ∀ b, InV v' b → InV v b ∨ w.heap.size ≤ b := by
  obtain ⟨v', w', h1, h2, h3, h4⟩ := append_seg (P := Tryz.prog) (sz := 6) (by' := 48) (ty := ty) (sT := 26) (u_ok rfl) (u_ok rfl) (fun kk h => by cases h) (s_ok rfl) (b_ok rfl) (z_ok rfl) rfl hrow hseg (edit_one q) (by omega) (by omega)
  exact ⟨v', w', h1, by rw [fl_append, List.length_append]; simpa [fl] using h2, h3, h4⟩
theorem append_entB {w : World} {v s : Value} {A : List Ent} {q : Ent} {ty : Nat} (hrow : Row w v 54 9 A.length (fl Ent.vals A)) (hseg : Seg w s 9 1 q.vals) (hcap : A.length < 890000000000) :
    ∃ v' w', (Builtin.append_ #[46, 46] ty #[v, s]).run Tryz.prog w = .ok v' w' ∧ Row w' v' 54 9 (A ++ [q]).length (fl Ent.vals (A ++ [q])) ∧ Frm (InV v) w w' ∧ ∀ b, InV v' b → InV v b ∨ w.heap.size ≤ b := by
  obtain ⟨v', w', h1, h2, h3, h4⟩ := append_seg (P := Tryz.prog) (sz := 9) (by' := 72) (ty := ty) (sT := 46) (u_ok rfl) (u_ok rfl) (fun kk h => by cases h) (s_ok rfl) (b_ok rfl) (z_ok rfl) rfl hrow hseg (ent_one q) (by omega) (by omega)
  exact ⟨v', w', h1, by rw [fl_append, List.length_append]; simpa [fl] using h2, h3, h4⟩
theorem KP.other {PT : PTy} (sp : TreeSpec PT) {w w' : World} {col col' : Nat → Nat} {k p : Nat} {P : Par} {S : Nat → Prop} (h : KP PT w col k p P) (f : Frm S w w') (hs : ∀ b, k ≤ col b → col b < k + 100 → ¬ S b) (ho : ∀ b, b < w.heap.size → col' b = col b) (hh : ∀ b, w'.heap.size ≤ b → col' b = 0) : KP PT w' col' k p P := by
  obtain ⟨⟨Q, hq, h1⟩, h2, h3, h4⟩ := h
  exact ⟨⟨Q, hq.other sp f hs ho hh, h1⟩, h2, h3, h4⟩
/-- What began at w0 has touched nothing of what was there. -/
structure Top (w0 w : World) (col : Nat → Nat) : Prop where
  frm : Frm0 w0 w
  low : ∀ b, b < w0.heap.size → col b = 0
section
variable {w0 w w' : World} {col col' : Nat → Nat} {ea : List Addr}
theorem Top.frm0 (h : Top w0 w col) (f : Frm0 w w') : Top w0 w' col := ⟨h.frm.trans0 f, h.low⟩
theorem Top.bd {j : Nat} (h : Top w0 w col) (g : Bd j w w' col col') : Top w0 w' col' := by
  refine ⟨h.frm.trans g.frm (fun b hb => ?_), fun b hb => ?_⟩
  · rcases Nat.lt_or_ge b w0.heap.size with h9 | h9
    · have := h.low b h9; omega
    · exact .inr h9
  · rw [g.old b (Nat.lt_of_lt_of_le hb h.frm.size)]
    exact h.low b hb
theorem Top.errs (h : Top w0 w col) (hE : Errs w0 ea) : Errs w ea := hE.frm0 h.frm
theorem Top.lo (h : Top w0 w col) (hE : Errs w0 ea) : (∀ g ∈ errG, col g = 0) ∧ ∀ a ∈ ea, col a.block = 0 :=
  have hlt := errs_lt hE
  ⟨fun g hg => h.low g (hlt.1 g hg), fun a ha => h.low _ (hlt.2 a ha)⟩
end
/-- A play's own memory. -/
structure PM (w : World) (col : Nat → Nat) (j pp p : Nat) (n : Int) (es : List Ent) (ins : Nat → List Ed) (bs : List Int) (ev : Value) (iv : List Value) : Prop where
  head : At w pp (cel (Ptr p :: I n :: ev :: (iv ++ bs.map I)) 49)
  own : col pp = 200 * j + 200
  ent : Row w ev 54 9 es.length (fl Ent.vals es)
  ec : ∀ b, InV ev b → col b = 200 * j + 201
  il : iv.length = 4
  bl : bs.length = 4
  row : ∀ (i : Nat) v, iv[i]? = some v → Row w v 31 6 (ins i).length (fl Ed.vals (ins i)) ∧ ∀ b, InV v b → col b = 200 * j + 202 + i
theorem pl_set {p : Nat} {n : Int} {ev v : Value} {iv bs : List Value} {k : Nat} (hk : k < iv.length) : (Ptr p :: I n :: ev :: (iv ++ bs)).set (3 + k) v = Ptr p :: I n :: ev :: (iv.set k v ++ bs) := by
  rw [show 3 + k = k + 1 + 1 + 1 by omega]
  simp only [List.set_cons_succ]
  rw [List.set_append_left _ _ hk]
theorem pl_setB {p : Nat} {n : Int} {ev v : Value} {iv bs : List Value} {k : Nat} (hi : iv.length = 4) : (Ptr p :: I n :: ev :: (iv ++ bs)).set (7 + k) v = Ptr p :: I n :: ev :: (iv ++ bs.set k v) := by
  rw [show 7 + k = (k + 4) + 1 + 1 + 1 by omega]
  simp only [List.set_cons_succ]
  rw [List.set_append_right _ _ (by omega), hi, Nat.add_sub_cancel]
theorem pl_get {p : Nat} {n : Int} {ev v : Value} {iv bs : List Value} {k : Nat} (hk : iv[k]? = some v) : (Ptr p :: I n :: ev :: (iv ++ bs))[3 + k]? = some v := by
  rw [show 3 + k = k + 1 + 1 + 1 by omega]
  simp only [List.getElem?_cons_succ]
  rw [List.getElem?_append_left (List.getElem?_eq_some_iff.1 hk).1]
  exact hk
theorem pl_getB {p : Nat} {n : Int} {ev v : Value} {iv bs : List Value} {k : Nat} (hi : iv.length = 4) (hk : bs[k]? = some v) : (Ptr p :: I n :: ev :: (iv ++ bs))[7 + k]? = some v := by
  rw [show 7 + k = (k + 4) + 1 + 1 + 1 by omega]
  simp only [List.getElem?_cons_succ]
  rw [List.getElem?_append_right (by omega), hi, Nat.add_sub_cancel]
  exact hk
section
variable {w w' w2 : World} {col col' : Nat → Nat} {j pp p : Nat} {n : Int} {es es' : List Ent} {ins ins' : Nat → List Ed} {bs : List Int} {ev v u : Value} {iv : List Value} {S : Nat → Prop}
theorem PM.other (h : PM w col j pp p n es ins bs ev iv) (f : Frm S w w') (hs : ∀ b, 200 * j + 200 ≤ col b → col b < 200 * j + 300 → ¬ S b) (ho : ∀ b, b < w.heap.size → col' b = col b) : PM w' col' j pp p n es ins bs ev iv :=
  ⟨f.at (by have := h.own; exact hs pp (by omega) (by omega)) h.head, by rw [ho pp (at_lt h.head)]; exact h.own, h.ent.frm f (fun b hb => by have := h.ec b hb; exact hs b (by omega) (by omega)), fun b hb => by rw [ho b (h.ent.lt hb)]; exact h.ec b hb, h.il, h.bl, fun i v hv => by
    obtain ⟨h1, h2⟩ := h.row i v hv
    have hi : i < 4 := by have := (List.getElem?_eq_some_iff.1 hv).1; rw [h.il] at this; exact this
    exact ⟨h1.frm f (fun b hb => by have := h2 b hb; exact hs b (by omega) (by omega)), fun b hb => by rw [ho b (h1.lt hb)]; exact h2 b hb⟩⟩
theorem PM.frm0 (h : PM w col j pp p n es ins bs ev iv) (f : Frm0 w w') : PM w' col j pp p n es ins bs ev iv := h.other f (fun _ _ _ h => h) (fun _ _ => rfl)
theorem PM.lt4 (h : PM w col j pp p n es ins bs ev iv) {i : Nat} {x : Value} (hv : iv[i]? = some x) : i < 4 := by
  have := (List.getElem?_eq_some_iff.1 hv).1
  rw [h.il] at this
  exact this
theorem PM.ents (h : PM w col j pp p n es ins bs ev iv) (hh : ∀ b, w.heap.size ≤ b → col b = 0) (f : Frm (InV ev) w w2) (r : Row w2 v 54 9 es'.length (fl Ent.vals es')) (nw : ∀ b, InV v b → InV ev b ∨ w.heap.size ≤ b) :
    PM (setB w2 pp (cel (Ptr p :: I n :: v :: (iv ++ bs.map I)) 49)) (paint col w.heap.size v (200 * j + 201)) j pp p n es' ins bs v iv ∧ Bd j w (setB w2 pp (cel (Ptr p :: I n :: v :: (iv ++ bs.map I)) 49)) col (paint col w.heap.size v (200 * j + 201)) ∧ Frm (fun b => 200 * j + 200 ≤ col b ∧ col b < 200 * j + 300) w (setB w2 pp (cel (Ptr p :: I n :: v :: (iv ++ bs.map I)) 49)) := by
  have hpp : ¬ InV ev pp := fun h9 => by have := h.ec pp h9; have := h.own; omega
  have hpv : ¬ InV v pp := fun h9 => by
    rcases nw pp h9 with h8 | h8
    · exact hpp h8
    · have := at_lt h.head; omega
  have hA := f.at hpp h.head
  have f2 : Frm (fun b => b = pp) w2 (setB w2 pp (cel (Ptr p :: I n :: v :: (iv ++ bs.map I)) 49)) := (Frm.refl (fun b => b = pp) w2).setB (b := pp) (.inl rfl) _
  have f3 : Frm (fun b => InV ev b ∨ b = pp) w (setB w2 pp (cel (Ptr p :: I n :: v :: (iv ++ bs.map I)) 49)) := (f.mono (T := fun b => InV ev b ∨ b = pp) (fun b hb => .inl (.inl hb))).setB (b := pp) (.inl (.inr rfl)) _
  have f4 : Frm (fun b => 200 * j + 200 ≤ col b ∧ col b < 200 * j + 300) w (setB w2 pp (cel (Ptr p :: I n :: v :: (iv ++ bs.map I)) 49)) := f3.mono (fun b hb => .inl (by
    rcases hb with hb | rfl
    · have := h.ec b hb; omega
    · have := h.own; omega))
  have e4 : Ext (200 * j + 200) w (setB w2 pp (cel (Ptr p :: I n :: v :: (iv ++ bs.map I)) 49)) col (paint col w.heap.size v (200 * j + 201)) := paint_ext hh f3.size (fun b hb => by rw [size_setB]; exact r.blk b hb) (by omega)
  refine ⟨⟨at_setB _ hA, by rw [paint_old (at_lt h.head)]; exact h.own, r.frm f2 (fun b hb e => hpv (e ▸ hb)), paint_new nw h.ec, h.il, h.bl, fun i x hx => ?_⟩, Bd.ofQ e4 f4 (.inr rfl), f4⟩
  obtain ⟨h1, h2⟩ := h.row i x hx
  refine ⟨h1.frm f3 (fun b hb hs => ?_), fun b hb => by rw [paint_old (h1.lt hb)]; exact h2 b hb⟩
  have := h2 b hb
  rcases hs with hs | rfl
  · have := h.ec b hs; omega
  · have := h.own; omega
theorem PM.edits {k : Nat} (h : PM w col j pp p n es ins bs ev iv) (hh : ∀ b, w.heap.size ≤ b → col b = 0) (hu : iv[k]? = some u) (hi : ∀ i, i ≠ k → ins' i = ins i) (f : Frm (InV u) w w2) (r : Row w2 v 31 6 (ins' k).length (fl Ed.vals (ins' k))) (nw : ∀ b, InV v b → InV u b ∨ w.heap.size ≤ b) :
    PM (setB w2 pp (cel (Ptr p :: I n :: ev :: (iv.set k v ++ bs.map I)) 49)) (paint col w.heap.size v (200 * j + 202 + k)) j pp p n es ins' bs ev (iv.set k v) ∧ Bd j w (setB w2 pp (cel (Ptr p :: I n :: ev :: (iv.set k v ++ bs.map I)) 49)) col (paint col w.heap.size v (200 * j + 202 + k)) ∧ Frm (fun b => 200 * j + 200 ≤ col b ∧ col b < 200 * j + 300) w (setB w2 pp (cel (Ptr p :: I n :: ev :: (iv.set k v ++ bs.map I)) 49)) := by
  have hk4 := h.lt4 hu
  obtain ⟨hu1, hu2⟩ := h.row k u hu
  have hpp : ¬ InV u pp := fun h9 => by have := hu2 pp h9; have := h.own; omega
  have hpv : ¬ InV v pp := fun h9 => by
    rcases nw pp h9 with h8 | h8
    · exact hpp h8
    · have := at_lt h.head; omega
  have hA := f.at hpp h.head
  have f2 : Frm (fun b => b = pp) w2 (setB w2 pp (cel (Ptr p :: I n :: ev :: (iv.set k v ++ bs.map I)) 49)) := (Frm.refl (fun b => b = pp) w2).setB (b := pp) (.inl rfl) _
  have f3 : Frm (fun b => InV u b ∨ b = pp) w (setB w2 pp (cel (Ptr p :: I n :: ev :: (iv.set k v ++ bs.map I)) 49)) := (f.mono (T := fun b => InV u b ∨ b = pp) (fun b hb => .inl (.inl hb))).setB (b := pp) (.inl (.inr rfl)) _
  have f4 : Frm (fun b => 200 * j + 200 ≤ col b ∧ col b < 200 * j + 300) w (setB w2 pp (cel (Ptr p :: I n :: ev :: (iv.set k v ++ bs.map I)) 49)) := f3.mono (fun b hb => .inl (by
    rcases hb with hb | rfl
    · have := hu2 b hb; omega
    · have := h.own; omega))
  have e4 : Ext (200 * j + 200) w (setB w2 pp (cel (Ptr p :: I n :: ev :: (iv.set k v ++ bs.map I)) 49)) col (paint col w.heap.size v (200 * j + 202 + k)) := paint_ext hh f3.size (fun b hb => by rw [size_setB]; exact r.blk b hb) (by omega)
  refine ⟨⟨at_setB _ hA, by rw [paint_old (at_lt h.head)]; exact h.own, h.ent.frm f3 (fun b hb hs => ?_), fun b hb => by rw [paint_old (h.ent.lt hb)]; exact h.ec b hb, by rw [List.length_set]; exact h.il, h.bl, fun i x hx => ?_⟩, Bd.ofQ e4 f4 (.inr rfl), f4⟩
  · have := h.ec b hb
    rcases hs with hs | rfl
    · have := hu2 b hs; omega
    · have := h.own; omega
  · by_cases hik : k = i
    · subst hik
      rw [List.getElem?_set_self (by rw [h.il]; exact hk4)] at hx
      cases hx
      exact ⟨r.frm f2 (fun b hb e => hpv (e ▸ hb)), paint_new nw hu2⟩
    · rw [List.getElem?_set_ne hik] at hx
      obtain ⟨h1, h2⟩ := h.row i x hx
      rw [hi i (fun e => hik e.symm)]
      refine ⟨h1.frm f3 (fun b hb hs => ?_), fun b hb => by rw [paint_old (h1.lt hb)]; exact h2 b hb⟩
      have := h2 b hb
      rcases hs with hs | rfl
      · have := hu2 b hs; omega
      · have := h.own; omega
theorem PM.base {k : Nat} {x : Int} (h : PM w col j pp p n es ins bs ev iv) (hh : ∀ b, w.heap.size ≤ b → col b = 0) :
    PM (setB w pp (cel (Ptr p :: I n :: ev :: (iv ++ (bs.set k x).map I)) 49)) col j pp p n es ins (bs.set k x) ev iv ∧ Bd j w (setB w pp (cel (Ptr p :: I n :: ev :: (iv ++ (bs.set k x).map I)) 49)) col col ∧ Frm (fun b => 200 * j + 200 ≤ col b ∧ col b < 200 * j + 300) w (setB w pp (cel (Ptr p :: I n :: ev :: (iv ++ (bs.set k x).map I)) 49)) := by
  have f2 : Frm (fun b => b = pp) w (setB w pp (cel (Ptr p :: I n :: ev :: (iv ++ (bs.set k x).map I)) 49)) := (Frm.refl (fun b => b = pp) w).setB (b := pp) (.inl rfl) _
  have hown := h.own
  have f4 : Frm (fun b => 200 * j + 200 ≤ col b ∧ col b < 200 * j + 300) w (setB w pp (cel (Ptr p :: I n :: ev :: (iv ++ (bs.set k x).map I)) 49)) := f2.mono (fun b hb => .inl (by rw [hb]; omega))
  refine ⟨⟨at_setB _ h.head, h.own, h.ent.frm f2 (fun b hb e => ?_), h.ec, h.il, by rw [List.length_set]; exact h.bl, fun i y hy => ?_⟩, ⟨fun _ _ => rfl, fun b hb => hh b (by rw [size_setB] at hb; exact hb), fun b hb => .inl (hh b hb), f4.mono (fun b hb => .inl (by omega))⟩, f4⟩
  · have := h.ec b hb
    subst e
    omega
  · obtain ⟨h1, h2⟩ := h.row i y hy
    refine ⟨h1.frm f2 (fun b hb e => ?_), h2⟩
    have := h2 b hb
    subst e
    omega
end
/-- A play: its party, what it has seen, what was let in. -/
structure PLA (PT : PTy) (w : World) (col : Nat → Nat) (j pp p : Nat) (n : Int) (P : Par) (ins : Nat → List Ed) (bs : List Int) : Prop where
  m : ∃ ev iv, PM w col j pp p n P.ents ins bs ev iv
  pty : KP PT w col (200 * j + 100) p P
  pl : PLP n P ins
section
variable {PT : PTy} {w0 w w' : World} {col col' : Nat → Nat} {i j pp p : Nat} {n : Int} {P P' : Par} {ins : Nat → List Ed} {bs : List Int} {ea : List Addr}
theorem PLA.frm0 (sp : TreeSpec PT) (h : PLA PT w col j pp p n P ins bs) (f : Frm0 w w') : PLA PT w' col j pp p n P ins bs := by
  obtain ⟨⟨ev, iv, h1⟩, h2, h3⟩ := h
  exact ⟨⟨ev, iv, h1.frm0 f⟩, h2.frm0 sp f, h3⟩
theorem PLA.high (h : PLA PT w col j pp p n P ins bs) : ∀ b, w.heap.size ≤ b → col b = 0 := h.pty.high
/-- A call of the party that is no edit and takes nothing. -/
theorem PLA.step (h : PLA PT w col j pp p n P ins bs) (hs : KStep PT w w' col (200 * j + 100) p P') (he : P'.ents = P.ents) (hp : PLP n P' ins) : ∃ col', PLA PT w' col' j pp p n P' ins bs ∧ Bd j w w' col col' := by
  obtain ⟨⟨ev, iv, h1⟩, h2, h3⟩ := h
  obtain ⟨col', h4, h5, h6⟩ := hs
  exact ⟨col', ⟨⟨ev, iv, by rw [he]; exact h1.other h6 (fun b h7 h8 h9 => by omega) h5.old⟩, h4, hp⟩, Bd.ofQ h5 h6 (.inl rfl)⟩
theorem bldPlay (p : Nat) (n : Int) (w : World) : (Instr.build 49 [(0, Ptr p), (1, I n)].toArray).run Tryz.prog w = .ok (.agg [Ptr p, I n, .slice none 0 0, .slice none 0 0, .slice none 0 0, .slice none 0 0, .slice none 0 0, I 0, I 0, I 0, I 0].toArray) w := by kernel_rfl
set_option maxHeartbeats 1000000 in
theorem kplay_ret (sp : TreeSpec PT) (cs : CloneSpec PT) (hh : ∀ b, w.heap.size ≤ b → col b = 0) (hE : Errs w ea) {c l : Int} (hc : Int64 c) (hl : Int64 l) (j : Nat) :
    Rets Tryz.prog 22 [I c, I l] w fun v w' => ∃ pp p col', v = Ptr pp ∧ PLA PT w' col' j pp p (1 + kpickF c 4) ⟨1 + kpickF c 4, 1 + kpickF l 8, [root0], [], List.replicate (1 + kpickF c 4).toNat cli0⟩ (fun _ => []) [0, 0, 0, 0] ∧ Bd j w w' col col' ∧ Frm0 w w' := by
  have hc1 := kpickF_lt (c := c) (n := 4) (by omega)
  have hl1 := kpickF_lt (c := l) (n := 8) (by omega)
  refine rets_of Tryz.func22 (by kernel_rfl) rfl Tryz.ntmps22 (Nat.le_of_ble_eq_true rfl) ?_
  refine runG12 ?_
  refine s_callf (works_ret sp cs hE) rfl wnt_none ?_
  rintro v w1 ⟨rfl, f1⟩
  refine runG12 ?_
  refine s_callf (kpick_ret hc (n := 4) (by omega) w1) rfl wnt_none ?_
  rintro v w1' ⟨rfl, rfl⟩
  refine runG12 ?_
  refine s_callf (kpick_ret hl (n := 8) (by omega) w1) rfl wnt_none ?_
  rintro v w1' ⟨rfl, rfl⟩
  refine runG12 ?_
  refine s_val (r_build rfl (bldkC _ _ _)) wnt_none ?_
  refine s_callf (kpNew sp (k := 200 * j + 100) (col := col) (by omega) (fun b hb => hh b (Nat.le_trans f1.size hb)) (hE.frm0 f1) (c := 1 + kpickF c 4) (l := 1 + kpickF l 8) (by omega) (by omega)) rfl wnt_none ?_
  rintro v w2 ⟨p, col2, rfl, hp2, x2, f2⟩
  refine runG12 ?_
  refine s_val (r_nnF rfl) (by (first | (with_reducible exact wnt_none) | ((with_reducible apply wnt_y); exact rfl; exact rfl; exact rfl; exact rfl; (with_reducible exact rfl)))) ?_
  refine runG12 ?_
  refine s_val (r_eqpP rfl) (by (first | (with_reducible exact wnt_none) | ((with_reducible apply wnt_y); exact rfl; exact rfl; exact rfl; exact rfl; (with_reducible exact rfl)))) ?_
  refine runG12 ?_
  refine s_val (r_build rfl (bldPlay _ _ _)) wnt_none ?_
  refine runG12 ?_
  have f12 : Frm0 w w2 := f1.trans0 f2
  have g3 : Frm0 w2 (w2.alloc (cel [Ptr p, I (1 + kpickF c 4), .slice none 0 0, .slice none 0 0, .slice none 0 0, .slice none 0 0, .slice none 0 0, I 0, I 0, I 0, I 0] 49)) := Frm.of_alloc _ _
  have hs3 : (w2.alloc (cel [Ptr p, I (1 + kpickF c 4), .slice none 0 0, .slice none 0 0, .slice none 0 0, .slice none 0 0, .slice none 0 0, I 0, I 0, I 0, I 0] 49)).heap.size = w2.heap.size + 1 := World.size_alloc _ _
  have hA3 := at_alloc_new w2 (cel [Ptr p, I (1 + kpickF c 4), .slice none 0 0, .slice none 0 0, .slice none 0 0, .slice none 0 0, .slice none 0 0, I 0, I 0, I 0, I 0] 49)
  have e3 : Ext (200 * j + 200) w2 _ col2 _ := paintA_ext (w' := w2.alloc (cel [Ptr p, I (1 + kpickF c 4), .slice none 0 0, .slice none 0 0, .slice none 0 0, .slice none 0 0, .slice none 0 0, I 0, I 0, I 0, I 0] 49)) (q := 200 * j + 200) x2.high g3.size (by omega)
  refine ret_p rfl rfl ⟨w2.heap.size, p, _, rfl, ⟨⟨.slice none 0 0, [.slice none 0 0, .slice none 0 0, .slice none 0 0, .slice none 0 0], ⟨hA3, ?_, Row.nil, fun b hb => ?_, rfl, rfl, fun i v hv => ?_⟩⟩, hp2.other sp g3 (fun _ _ _ h => h) e3.old e3.high, plp_new (by omega) (by omega)⟩, ?_, f12.trans0 g3⟩
  · rw [paintA, if_pos ⟨Nat.le_refl _, by rw [hs3]; omega⟩]
  · obtain ⟨_, _, _, h⟩ := hb
    cases h
  · have hv' : v = .slice none 0 0 := by
      have := List.mem_of_getElem? hv
      simp at this
      exact this
    subst hv'
    exact ⟨Row.nil, fun b hb => by
      obtain ⟨_, _, _, h⟩ := hb
      cases h⟩
  · exact (Bd.ofQ (k := 200 * j + 100) ⟨fun b hb => by rw [x2.old b (Nat.lt_of_lt_of_le hb f1.size)], x2.high, fun b hb => by
      rcases Nat.lt_or_ge b w1.heap.size with h9 | h9
      · rw [x2.old b h9]
        exact .inl (hh b hb)
      · exact x2.new b h9⟩ (f12.mono (fun _ h => h.elim)) (.inl rfl)).trans (Bd.ofQ e3 (g3.mono (fun _ h => h.elim)) (.inr rfl))
set_option maxHeartbeats 1000000 in
theorem kup_ret (sp : TreeSpec PT) (cs : CloneSpec PT) (h : PLA PT w col j pp p n P ins bs) (hT : Top w0 w col) (hE : Errs w0 ea) (hB : P.ents.length ≤ 884000000000) (k : Nat) :
    Rets Tryz.prog 47 [Ptr pp, I k] w fun v w' => v = B true ∧ ∃ col', PLA PT w' col' j pp p n (upP P k).2 ins bs ∧ Bd j w w' col col' := by
  obtain ⟨⟨ev, iv, hm⟩, hk, hpl⟩ := h
  obtain ⟨xa, xc, rfl⟩ := hm.ent.isSl
  have hh := hm.head
  refine rets_of Tryz.func47 (by kernel_rfl) rfl Tryz.ntmps47 (Nat.le_of_ble_eq_true rfl) ?_
  refine runG12 ?_
  refine s_callf (kpUp sp cs hk (hT.errs hE) (hT.lo hE) (by omega) k) rfl wnt_none ?_
  rintro v w1 ⟨_, col1, hk1, x1, f1⟩
  have hm1 := hm.other f1 (fun b h7 h8 h9 => by omega) x1.old
  have B1 := Bd.ofQ x1 f1 (.inl rfl)
  have hh1 := hm1.head
  clear hh
  refine runG12 ?_
  refine s_callf (kpServer sp cs hk1) rfl wnt_none ?_
  rintro v w2 ⟨t, rfl, _, _, f2⟩
  have hk2 := hk1.frm0 sp f2
  have hm2 := hm1.frm0 f2
  have hh2 := hm2.head
  have B2 := B1.trans (Bd.frm0 x1.high f2)
  clear hh1
  have hpl2 := hpl.up k
  rcases (upP_clients (P := P) (i := k)).2.1 with he | ⟨y, _, he⟩
  · have hl2 : ((upP P k).2.ents.length : Int) = P.ents.length := by rw [he]
    rw [hl2]
    refine runG12 ?_
    exact ret_b rfl rfl ⟨rfl, col1, ⟨⟨_, _, by rw [he]; exact hm2⟩, hk2, hpl2⟩, B2⟩
  · have hl2 : ((upP P k).2.ents.length : Int) = P.ents.length + 1 := by rw [he]; simp
    rw [hl2]
    obtain ⟨l, hlog⟩ := log_last hpl2.lg.1 he
    have hll : l.length ≤ 8 := by
      have h1 := log_len (upP P k).2 (by have := hpl2.lg.1; omega)
      rw [hlog, List.length_append, List.length_cons, List.length_nil] at h1
      have := hpl2.lg
      split at h1 <;> omega
    refine runG12 ?_
    refine s_callf (kpLog hk2 (by omega)) rfl wnt_none ?_
    rintro v w3 ⟨r3, n3, f3⟩
    rw [hlog] at r3
    rcases r3 with ⟨_, h9, _⟩ | ⟨lb, lcap, lrest, rfl, hA3, hlen, hcap, hle⟩
    · rw [List.length_append] at h9
      exact absurd h9 (by simp)
    · have hlb := n3 lb ⟨_, _, _, rfl⟩
      have hl3 : (l ++ [y]).length = l.length + 1 := by simp
      rw [hl3] at hlen hcap hle ⊢
      have hk3 := hk2.frm0 sp f3
      have hm3 := hm2.frm0 f3
      have hh3 := hm3.head
      have hne : ¬ InV (.slice xa P.ents.length xc) lb := fun h9 => by have := hm2.ent.lt h9; omega
      have hnp : ¬ InV (.slice xa P.ents.length xc) pp := fun h9 => by have := hm3.ec pp h9; have := hm3.own; omega
      clear hh2
      have hlenY : 0 + (((l.length + 1 : Nat) : Int) - 1).toNat * 9 + 9 ≤ (fl Ent.vals (l ++ [y]) ++ lrest).length := by
        rw [List.length_append, hlen]
        omega
      have hsubY : sub (fl Ent.vals (l ++ [y]) ++ lrest) (0 + (((l.length + 1 : Nat) : Int) - 1).toNat * 9) 9 = y.vals := by
        have := fl_sub (f := Ent.vals) (k := 9) (fun _ => rfl) (l ++ [y]) l.length y (by simp) [] lrest
        rw [List.nil_append, List.length_nil] at this
        rw [show 0 + (((l.length + 1 : Nat) : Int) - 1).toNat * 9 = 0 + l.length * 9 by omega]
        exact this
      refine runG12 ?_
      refine w_drawn ((0, false) :: (1, false) :: (2, false) :: (3, false) :: (4, false) :: (5, false) :: (6, false) :: (7, false) :: (8, false) :: (9, false) :: (10, false) :: (11, true) :: (12, true) :: (13, false) :: (14, false) :: []) [15] (fun wq => Frm (InV (.slice xa P.ents.length xc)) w3 wq) mixed (by kernel_rfl) ?_ ?_
      · exact Frm.of_drew _
      · refine runG12 ?_
        refine x_q rfl (fun wq hq => r_loadV (vs := y.vals) (u_ok rfl) rfl (s_ok rfl) rfl (hq.at hne hA3) hlenY hsubY) wnt_none ?_
        refine x_val rfl (r_bs rfl (bs_entry y _)) wnt_none ((Frm.of_drew w3).alloc _) ?_
        have hFa : Frm0 w3 (w3.drew.alloc (cel y.vals 54)) := (Frm.of_drew w3).alloc _
        obtain ⟨v5, w5, e5, r5, f5, n5⟩ := append_entB (ty := 46) (q := y) (hm3.ent.frm hFa (fun _ _ h => h)) (seg_new rfl) (by omega)
        have f5' : Frm (InV (.slice xa P.ents.length xc)) w3 w5 := (hFa.mono (fun _ h => h.elim)).trans f5 (fun b hb => .inl hb)
        have n5' : ∀ b, InV v5 b → InV (.slice xa P.ents.length xc) b ∨ w3.heap.size ≤ b := fun b hb => (n5 b hb).imp id (fun h => Nat.le_trans hFa.size h)
        refine x_val rfl (r_app rfl rfl e5) wnt_none f5' ?_
        have hh5 := f5'.at hnp hh3
        obtain ⟨h6, g6, f6⟩ := hm3.ents hk3.high f5' r5 n5'
        obtain ⟨ya, yc, rfl⟩ := r5.isSl
        refine runG12 ?_
        refine y_skip rfl (r_store_s (s_ok rfl) rfl rfl hh5 (by simp)) wnt_none ?_
        refine runG12 ?_
        exact ret_b rfl rfl ⟨rfl, _, ⟨⟨_, _, by rw [he]; exact h6⟩, hk3.other sp f6 (fun b h7 h8 h9 => by omega) g6.old g6.high, hpl2⟩, (B2.trans (Bd.frm0 hk2.high f3)).trans g6⟩
end
end Go.Proofs.YtbicffldggcdhaaGreatDoor
