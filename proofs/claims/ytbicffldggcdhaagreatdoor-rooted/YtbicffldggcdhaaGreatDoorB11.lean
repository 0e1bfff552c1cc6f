/-
  WRefP11; WRefP12; WRefP13; WRefP14; WRefP15; WQ26; WK4; WK5.
-/
import Derived.Test.YtbicffldggcdhaaGreatDoorB10
import Derived.Test.YtbicffldggcdhaaGreatDoorB09
import Derived.Test.YtbicffldggcdhaaGreatDoorB07
import Derived.Test.YtbicffldggcdhaaGreatDoorB08
namespace Go.Proofs.YtbicffldggcdhaaGreatDoor
open Go
theorem runG11 {G K : Prop} (k : K) (h : Wrap K → G := by intro h; (repeat (first | (with_reducible first | refine wpIn_seq ?_ | refine w_reg ?_ | refine s_nil ?_ | refine s_nilQ ?_ | refine wpIn_block ?_ | refine q_then ?_ | refine q_blk ?_ | refine q_then_ret ?_ | refine q_blk_ret ?_ | refine q_then_exit ?_ | refine q_blk_exit ?_ | refine wpIn_skip ?_ | refine wpIn_ret ?_ | refine wpIn_exit ?_ | refine y_nil ?_ | refine y_nilQ ?_ | refine x_late ?_) | ((with_reducible refine q_blk_other ?_ ?_); exact rfl) | ((with_reducible apply c_true); exact rfl; (with_reducible exact rfl)) | ((with_reducible apply c_false); exact rfl; (with_reducible exact rfl)) | ((with_reducible apply s_no); (first | ((with_reducible apply wnt_nt); exact rfl; exact rfl; exact rfl; exact rfl; (with_reducible exact rfl)) | ((with_reducible apply wnt_nf); exact rfl; exact rfl; exact rfl; exact rfl; (with_reducible exact rfl)))) | ((with_reducible apply x_qno); exact rfl; (first | ((with_reducible apply wnt_nt); exact rfl; exact rfl; exact rfl; exact rfl; (with_reducible exact rfl)) | ((with_reducible apply wnt_nf); exact rfl; exact rfl; exact rfl; exact rfl; (with_reducible exact rfl)))) | ((first | with_reducible apply s_val | ((with_reducible apply y_val); exact rfl) | ((with_reducible apply x_q); exact rfl; intro wq hq)); (first | ((with_reducible apply r_boxA); exact rfl) | ((with_reducible apply r_box1); exact rfl; exact rfl) | ((with_reducible apply r_assign_i); exact rfl) | ((with_reducible apply r_move_i); exact rfl) | ((with_reducible apply r_move_p); exact rfl) | ((with_reducible apply r_nilCheck); exact rfl) | ((with_reducible apply r_fld); exact fa_ok rfl; exact rfl) | ((with_reducible apply r_len); exact u_ok rfl; exact rfl) | ((with_reducible apply r_lss_t); exact rfl; exact rfl; omega) | ((with_reducible apply r_lss_f); exact rfl; exact rfl; omega) | ((with_reducible apply r_lss); exact rfl; exact rfl) | ((with_reducible apply r_index); exact u_ok rfl; exact s_ok rfl; exact rfl; exact rfl; omega; omega) | ((with_reducible apply r_indexarr); exact u_ok rfl; exact s_ok rfl; exact rfl; exact rfl; omega; omega) | ((with_reducible apply r_eql_t); exact rfl; exact rfl; omega) | ((with_reducible apply r_eql_f); exact rfl; exact rfl; omega) | ((with_reducible apply r_eql); exact rfl; exact rfl) | ((with_reducible apply r_assign_s); exact rfl) | ((with_reducible apply r_move_s); exact rfl) | ((with_reducible apply r_add); exact rfl; exact rfl; omega; omega) | ((with_reducible apply r_loadA); exact u_ok rfl; exact rfl; exact s_ok rfl; exact rfl; (first | exact Frm.at0 hq (by assumption) | exact Frm.at hq (by assumption) (by assumption) | (first | (with_reducible assumption) | assumption | exact at_alloc_new _ _ | (repeat (first | assumption | exact at_alloc_new _ _ | refine at_drew ?_ | refine at_alloc _ ?_)))); exact Nat.le_of_ble_eq_true rfl) | ((with_reducible apply r_assign_p); exact rfl) | ((with_reducible apply r_allocA); exact z_ok rfl) | ((with_reducible apply r_alloc1); exact z_ok rfl; exact rfl) | ((with_reducible apply r_neq_t); exact rfl; exact rfl; omega) | ((with_reducible apply r_neq_f); exact rfl; exact rfl; omega) | ((with_reducible apply r_neq); exact rfl; exact rfl) | ((with_reducible apply r_leq_t); exact rfl; exact rfl; omega) | ((with_reducible apply r_leq_f); exact rfl; exact rfl; omega) | ((with_reducible apply r_leq); exact rfl; exact rfl) | ((with_reducible apply r_sub); exact rfl; exact rfl; omega; omega) | ((with_reducible apply r_move_b); exact rfl) | ((with_reducible apply r_gtr_t); exact rfl; exact rfl; omega) | ((with_reducible apply r_gtr_f); exact rfl; exact rfl; omega) | ((with_reducible apply r_gtr); exact rfl; exact rfl) | ((with_reducible apply r_pick_t); exact rfl; (with_reducible exact rfl); exact rfl) | ((with_reducible apply r_pick_f); exact rfl; (with_reducible exact rfl); exact rfl) | ((with_reducible apply r_assign_if); exact rfl) | ((with_reducible apply r_assign_ni); exact rfl) | ((with_reducible apply r_load); exact u_ok rfl; exact rfl; exact rfl; (first | exact Frm.at0 hq (by assumption) | exact Frm.at hq (by assumption) (by assumption) | (first | (with_reducible assumption) | assumption | exact at_alloc_new _ _ | (repeat (first | assumption | exact at_alloc_new _ _ | refine at_drew ?_ | refine at_alloc _ ?_)))); (first | exact mid_get rfl | exact mid_get2 rfl | exact mid_get0 rfl | exact rfl)) | ((with_reducible apply r_assign_b); exact rfl) | ((with_reducible apply r_move_t); exact rfl) | ((with_reducible apply r_extract); exact rfl; exact rfl) | ((with_reducible apply r_move_if); exact rfl) | ((with_reducible apply r_move_ni); exact rfl)); (first | (with_reducible exact wnt_none) | ((with_reducible apply wnt_y); exact rfl; exact rfl; exact rfl; exact rfl; (with_reducible exact rfl)))))); exact h.out) : G := h ⟨k⟩

section
variable {α : Type} {f : α → List Value} {P : Program} {w : World} {v : Value} {ty e k : Nat} {l : List α} {j : Nat}
end
end Go.Proofs.YtbicffldggcdhaaGreatDoor

namespace Go.Proofs.YtbicffldggcdhaaGreatDoor
open Go

section
variable {w w2 : World} {col : Nat → Nat} {k fz c br bb cap : Nat} {rest : List Value} {ps as' us ds : Value} {x : Cli}
end
end Go.Proofs.YtbicffldggcdhaaGreatDoor

namespace Go.Proofs.YtbicffldggcdhaaGreatDoor
open Go

end Go.Proofs.YtbicffldggcdhaaGreatDoor

namespace Go.Proofs.YtbicffldggcdhaaGreatDoor
open Go

end Go.Proofs.YtbicffldggcdhaaGreatDoor

namespace Go.Proofs.YtbicffldggcdhaaGreatDoor
open Go

def CfgV (c l : Int) : Value := .agg [I c, I l].toArray
end Go.Proofs.YtbicffldggcdhaaGreatDoor

namespace Go.Proofs.YtbicffldggcdhaaGreatDoor
open Go

theorem bld_known1 (a : Option Addr) (w : World) : (Instr.build 102 [(0, .pointer a)].toArray).run Tryz.prog w = .ok (.agg #[.pointer a, I 0]) w := by kernel_rfl
theorem bld_server (a : Option Addr) (l : Int) (m : Option Nat) (w : World) : (Instr.build 105 [(0, .agg #[.pointer a, I 0]), (1, I l), (3, .map m)].toArray).run Tryz.prog w = .ok (.agg #[.pointer a, I 0, I l, .slice none 0 0, .map m]) w := by kernel_rfl
theorem bld_Party (a : Option Addr) (l : Int) (m : Option Nat) (w : World) : (Instr.build 108 [(0, .agg #[.pointer a, I 0, I l, .slice none 0 0, .map m])].toArray).run Tryz.prog w = .ok (.agg #[.pointer a, I 0, I l, .slice none 0 0, .map m, .slice none 0 0]) w := by kernel_rfl
def cli0V (t : Nat) : List Value := cvals t 0 (.slice none 0 0) (.slice none 0 0) false false (.slice none 0 0) (.slice none 0 0)
theorem bld_client (t : Nat) (w : World) : (Instr.build 119 [(0, .agg #[Ptr t, I 0])].toArray).run Tryz.prog w = .ok (.agg (cli0V t).toArray) w := by kernel_rfl
theorem bs_client (t : Nat) (w : World) : (Instr.buildSlice 106 1 [(0, .agg (cli0V t).toArray)].toArray).run Tryz.prog w = .ok (.slice (some ⟨w.heap.size, 0, none⟩) 1 1) (w.alloc (cel (cli0V t) 119)) := by kernel_rfl
theorem cli0_one (t : Nat) : ∀ u ∈ cli0V t, one u = true := by
  intro u hu
  simp only [cli0V, cvals, List.mem_cons, List.not_mem_nil, or_false] at hu
  rcases hu with h | h | h | h | h | h | h | h <;> subst h <;> rfl
section
variable {PT : PTy} (sp : TreeSpec PT) {w w' : World}
theorem nothing_ret (sp : TreeSpec PT) (w : World) : Rets Tryz.prog 67 [] w fun v w' => ∃ t, v = .agg #[Ptr t, I 0] ∧ PT w' t [root0] (fun b => w.heap.size ≤ b) ∧ Frm0 w w' := by
  have f0 : Frm0 w (w.alloc (cel [.pointer none, I 0] 102)) := Frm.of_alloc _ _
  have hb := at_alloc_new w (cel [.pointer none, I 0] 102)
  refine rets_of Tryz.func67 (by kernel_rfl) rfl Tryz.ntmps67 (Nat.le_of_ble_eq_true rfl) ?_
  refine runG11 ?_
  have hz : (w.alloc (cel [.pointer none, I 0] 102)).heap.size = w.heap.size + 1 := World.size_alloc _ _
  generalize w.alloc (cel [.pointer none, I 0] 102) = w1 at *
  refine s_callf (sp.new _) rfl wnt_none ?_
  rintro v w2 ⟨t, rfl, hT, f2⟩
  refine s_val (r_build rfl (bld_known1 _ _)) wnt_none ?_
  have hb2 := f2.at0 hb
  refine s_skip (r_storeAll (vs := [Ptr t, I 0]) (s_ok rfl) rfl rfl (by intro u hu; simp at hu; rcases hu with rfl | rfl <;> rfl) hb2 rfl) wnt_none ?_
  refine runG11 ?_
  have f3 : Frm (fun b => b = w.heap.size) w2 (setB w2 w.heap.size (cel [Ptr t, I 0] 102)) := (Frm.refl (fun b => b = w.heap.size) w2).setB (b := w.heap.size) (.inl rfl) _
  refine ret_cA rfl (u_ok rfl) rfl (s_ok rfl) rfl (at_setB _ hb2) rfl ⟨t, rfl, ?_, (f0.trans0 f2).setB (b := w.heap.size) (.inr (Nat.le_refl _)) _⟩
  exact sp.weak (sp.frm hT f3 (fun b hb e => by omega)) (fun b hb _ => by omega)
theorem newServer_ret (sp : TreeSpec PT) (l : Int) (w : World) : Rets Tryz.prog 66 [I l] w fun v w' => ∃ t mb, v = .agg #[Ptr t, I 0, I l, .slice none 0 0, .map (some mb)] ∧ PT w' t [root0] (fun b => w.heap.size ≤ b ∧ b < mb) ∧ At w' mb (.map #[] 0) ∧ w.heap.size ≤ mb ∧ Frm0 w w' := by
  have f0 : Frm0 w (w.alloc (cel [.pointer none, I 0, I 0, .slice none 0 0, .map none] 105)) := Frm.of_alloc _ _
  have hb := at_alloc_new w (cel [.pointer none, I 0, I 0, .slice none 0 0, .map none] 105)
  refine rets_of Tryz.func66 (by kernel_rfl) rfl Tryz.ntmps66 (Nat.le_of_ble_eq_true rfl) ?_
  refine runG11 ?_
  have hz : (w.alloc (cel [.pointer none, I 0, I 0, .slice none 0 0, .map none] 105)).heap.size = w.heap.size + 1 := World.size_alloc _ _
  generalize w.alloc (cel [.pointer none, I 0, I 0, .slice none 0 0, .map none] 105) = w1 at *
  refine s_callf (nothing_ret sp _) rfl wnt_none ?_
  rintro v w2 ⟨t, rfl, hT, f2⟩
  refine runG11 ?_
  refine s_val r_mkmap wnt_none ?_
  refine s_val (r_build rfl (bld_server _ _ _ _)) wnt_none ?_
  have f3 : Frm0 w2 (w2.alloc (.map #[] 0)) := Frm.of_alloc _ _
  have hb3 := f3.at0 (f2.at0 hb)
  refine s_skip (r_storeAll (vs := [Ptr t, I 0, I l, .slice none 0 0, .map (some w2.heap.size)]) (s_ok rfl) rfl rfl (by intro u hu; simp at hu; rcases hu with rfl | rfl | rfl | rfl | rfl <;> rfl) hb3 rfl) wnt_none ?_
  refine runG11 ?_
  have s2 := f2.size
  have f4 : Frm (fun b => b = w.heap.size) (w2.alloc (.map #[] 0)) (setB (w2.alloc (.map #[] 0)) w.heap.size (cel [Ptr t, I 0, I l, .slice none 0 0, .map (some w2.heap.size)] 105)) := (Frm.refl (fun b => b = w.heap.size) _).setB (b := w.heap.size) (.inl rfl) _
  refine ret_cA rfl (u_ok rfl) rfl (s_ok rfl) rfl (at_setB _ hb3) rfl ⟨t, w2.heap.size, rfl, ?_, ?_, by omega, ((f0.trans0 f2).trans0 f3).setB (b := w.heap.size) (.inr (Nat.le_refl _)) _⟩
  · have hT2 : PT w2 t [root0] (fun b => w1.heap.size ≤ b ∧ b < w2.heap.size) := sp.weak hT (fun b h1 h2 => ⟨h1, h2⟩)
    exact sp.weak (sp.frm (sp.frm hT2 f3 (fun _ _ h => h)) f4 (fun b hb e => by omega)) (fun b hb _ => by omega)
  · exact f4.at (by omega) (at_alloc_new _ _)
end
/-- A party that is being made. -/
structure NQ (PT : PTy) (w0 w : World) (col0 col : Nat → Nat) (k p t mb : Nat) (cv : Value) (ms : List CM) (l : Int) : Prop where
  head : At w p (cel [Ptr t, I 0, I l, .slice none 0 0, .map (some mb), cv] 108)
  own : col p = k
  tree : PT w t [root0] (fun b => col b = k + 1)
  map : At w mb (.map #[] 0)
  cmap : col mb = k + 3
  row : Row w cv 119 8 ms.length (fl CM.vals ms)
  crow : ∀ b, InV cv b → col b = k + 4
  all : ∀ m ∈ ms, m.c = pcli0
  cli : ∀ (i : Nat) m, ms[i]? = some m → CliM PT w col (k + 10 + 10 * i) m.bq m.sq m.t m.pd m.an m.up m.dn m.c
  ext : Ext k w0 w col0 col
  new : Frm0 w0 w
section
variable {PT : PTy} (sp : TreeSpec PT) {w0 w w2 w3 w4 : World} {col0 col : Nat → Nat} {k p t mb : Nat} {cv v : Value} {ms : List CM} {l : Int}
theorem NQ.grow (sp : TreeSpec PT) (h : NQ PT w0 w col0 col k p t mb cv ms l) (hk : 0 < k) (hl : ms.length < 4) (hp0 : w0.heap.size ≤ p) (hcw : ∀ b, InV cv b → w0.heap.size ≤ b) {t' : Nat} (f2 : Frm0 w w2) (hT : PT w2 t' [root0] (fun b => w.heap.size ≤ b)) (f3 : Frm0 w2 w3) (f4 : Frm (InV cv) w3 w4) (r4 : Row w4 v 119 8 (ms.length + 1) (fl CM.vals ms ++ cli0V t')) (n4 : ∀ b, InV v b → InV cv b ∨ w3.heap.size ≤ b) :
    ∃ col', NQ PT w0 (setB w4 p (cel [Ptr t, I 0, I l, .slice none 0 0, .map (some mb), v] 108)) col0 col' k p t mb v (ms ++ [⟨t', .slice none 0 0, .slice none 0 0, .slice none 0 0, .slice none 0 0, k + 10 + 10 * ms.length + 1, k + 10 + 10 * ms.length + 6, pcli0⟩]) l := by
  have hh := h.ext.high
  have s2 := f2.size
  have s3 := f3.size
  have ho := h.own
  have hm := h.cmap
  have hwf0 : Wf [root0] := wf_root0
  have e2 : Ext k w w2 col (paintA col w.heap.size w2.heap.size (k + 10 + 10 * ms.length + 1)) := paintA_ext hh s2 (by omega)
  have e3 := e2.frm0 f3
  have hT2 : PT w2 t' [root0] (fun b => paintA col w.heap.size w2.heap.size (k + 10 + 10 * ms.length + 1) b = k + 10 + 10 * ms.length + 1) := paintA_tree sp (sp.weak hT (fun b h1 _ => .inr h1)) (by omega) hh
  have old2 : ∀ b, b < w.heap.size → paintA col w.heap.size w2.heap.size (k + 10 + 10 * ms.length + 1) b = col b := fun b hb => paintA_old hb
  have hc2 : ∀ b, InV cv b → paintA col w.heap.size w2.heap.size (k + 10 + 10 * ms.length + 1) b = k + 4 := fun b hb => by rw [old2 b (h.row.lt hb)]; exact h.crow b hb
  have hh2 : ∀ b, w2.heap.size ≤ b → paintA col w.heap.size w2.heap.size (k + 10 + 10 * ms.length + 1) b = 0 := e2.high
  generalize paintA col w.heap.size w2.heap.size (k + 10 + 10 * ms.length + 1) = col2 at *
  have hh3 : ∀ b, w3.heap.size ≤ b → col2 b = 0 := fun b hb => hh2 b (by omega)
  have e4 : Ext k w3 w4 col2 (paint col2 w3.heap.size v (k + 4)) := paint_ext hh3 f4.size r4.blk (by omega)
  have cv4 : ∀ b, InV v b → paint col2 w3.heap.size v (k + 4) b = k + 4 := paint_new n4 hc2
  have old4 : ∀ b, b < w3.heap.size → paint col2 w3.heap.size v (k + 4) b = col2 b := fun b hb => paint_old hb
  generalize paint col2 w3.heap.size v (k + 4) = col4 at *
  have hpl := at_lt h.head
  have hml := at_lt h.map
  have op : col4 p = k := by rw [old4 p (by omega), old2 p hpl]; exact ho
  have om : col4 mb = k + 3 := by rw [old4 mb (by omega), old2 mb hml]; exact hm
  have f5 : Frm (fun b => InV cv b ∨ b = p) w3 (setB w4 p (cel [Ptr t, I 0, I l, .slice none 0 0, .map (some mb), v] 108)) := (f4.mono (fun b hb => .inl (.inl hb))).setB (b := p) (.inl (.inr rfl)) _
  have hnp : ¬ InV cv p := fun h9 => by have := h.crow p h9; omega
  have hnm : ¬ (InV cv mb ∨ mb = p) := fun h9 => by
    rcases h9 with h9 | h9
    · have := h.crow mb h9; omega
    · subst h9; omega
  have key : ∀ {b q}, b < w3.heap.size → col2 b = q → q ≠ k → q ≠ k + 4 → ¬ (b < w3.heap.size ∧ (InV cv b ∨ b = p)) := fun {b q} h1 h2 h3 h4 h5 => by
    rcases h5.2 with h6 | h6
    · have := hc2 b h6; omega
    · subst h6
      rw [old2 b hpl] at h2
      omega
  have f5o : Frm (fun b => b < w3.heap.size ∧ (InV cv b ∨ b = p)) w3 (setB w4 p (cel [Ptr t, I 0, I l, .slice none 0 0, .map (some mb), v] 108)) := ⟨f5.size, fun b o hb hn => f5.same b o hb (fun hs => hn ⟨at_lt hb, hs⟩), f5.tape, f5.os, f5.output⟩
  have f23 : Frm0 w w3 := f2.trans0 f3
  refine ⟨col4, at_setB _ (f4.at hnp (f23.at0 h.head)), op, ?_, f5.at hnm (f23.at0 h.map), om, ?_, cv4, ?_, ?_, ?_, ?_⟩
  · have h1 : PT w3 t [root0] (fun b => col b = k + 1 ∧ b < w.heap.size) := sp.frm (sp.weak h.tree (fun b hb hl => ⟨hb, hl⟩)) f23 (fun _ _ h => h)
    exact sp.weak (sp.frm h1 f5o (fun b hb => key (q := k + 1) (by omega) (by rw [old2 b hb.2]; exact hb.1) (by omega) (by omega))) (fun b hb _ => by rw [old4 b (by omega), old2 b hb.2]; exact hb.1)
  · rw [List.length_append, fl_append]
    have h1 : Row w4 v 119 8 (ms.length + 1) (fl CM.vals ms ++ fl CM.vals [⟨t', .slice none 0 0, .slice none 0 0, .slice none 0 0, .slice none 0 0, k + 10 + 10 * ms.length + 1, k + 10 + 10 * ms.length + 6, pcli0⟩]) := by
      simpa [fl, CM.vals, cli0V, pcli0] using r4
    exact h1.frm (S := fun b => b = p) ((Frm.refl (fun b => b = p) w4).setB (b := p) (.inl rfl) _) (fun b hb e => by have := cv4 b hb; subst e; omega)
  · intro m hmm
    rcases List.mem_append.1 hmm with h9 | h9
    · exact h.all m h9
    · simp at h9
      subst h9
      rfl
  · intro i m hi
    by_cases hil : i < ms.length
    · rw [List.getElem?_append_left hil] at hi
      have h1 := ((h.cli i m hi).recol sp old2).frm sp f23 (fun _ _ _ h => h)
      have h2 := h1.recol sp old4
      refine h2.frm sp f5o (fun b h3 h4 h5 => ?_)
      rw [old4 b h5.1] at h3 h4
      exact key h5.1 rfl (by omega) (by omega) h5
    · have hie : i = ms.length := by
        have := (List.getElem?_eq_some_iff.1 hi).1
        simp at this
        omega
      subst hie
      rw [List.getElem?_append_right (Nat.le_refl _), Nat.sub_self] at hi
      simp at hi
      subst hi
      have h1 : PT w3 t' [root0] (fun b => col2 b = k + 10 + 10 * ms.length + 1 ∧ b < w3.heap.size) := sp.weak (sp.frm hT2 f3 (fun _ _ h => h)) (fun b hb hl => ⟨hb, hl⟩)
      refine ⟨sp.weak (sp.frm h1 f5o (fun b hb => key hb.2 hb.1 (by omega) (by omega))) (fun b hb _ => by rw [old4 b hb.2]; exact hb.1), hwf0, Row.nil, fun b hb => (inv_none hb).elim, Row.nil, fun b hb => (inv_none hb).elim, Row.nil, fun b hb => (inv_none hb).elim, DsAt.none, fun b hb => (inv_none hb).elim, .inl ⟨rfl, rfl⟩⟩
  · exact (((h.ext.trans e3 h.new.size).trans e4 (h.new.trans0 f23).size)).setB
  · exact ((h.new.trans0 f23).trans f4 (fun b hb => .inr (hcw b hb))).setB (b := p) (.inr hp0) _
set_option maxHeartbeats 1000000 in
set_option maxRecDepth 4000 in
theorem PNew_ret (sp : TreeSpec PT) {w : World} {col : Nat → Nat} {k : Nat} (hk : 0 < k) (hh : ∀ b, w.heap.size ≤ b → col b = 0) {ea : List Addr} (hE : Errs w ea) (c l : Int) :
    Rets Tryz.prog 40 [CfgV c l] w fun v w' => Frm0 w w' ∧ if c < 1 ∨ 4 < c ∨ l < 0 ∨ 8 < l then ∃ u, v = .tuple #[.pointer none, u] ∧ ErrIs ea w' u 1 ed0 else ∃ p col', v = .tuple #[Ptr p, .nilIface] ∧ PP PT w' col' k p (newQ c l) ∧ Ext k w w' col col' := by
  have hF1 : Frm0 w (w.alloc (cel [I c, I l] 87)) := Frm.of_alloc _ _
  have hbox := at_alloc_new w (cel [I c, I l] 87)
  have hz1 : (w.alloc (cel [I c, I l] 87)).heap.size = w.heap.size + 1 := World.size_alloc _ _
  obtain ⟨a, ty, kk, ha, hg⟩ := err9 hE 0 0 rfl
  have hg1 := hF1.at0 hg
  by_cases hbad : c < 1 ∨ 4 < c ∨ l < 0 ∨ 8 < l
  · simp only [if_pos hbad]
    refine rets_of Tryz.func40 (by kernel_rfl) rfl Tryz.ntmps40 (Nat.le_of_ble_eq_true rfl) ?_
    have fin : ∀ w1, Frm0 w w1 → Rets Tryz.prog 49 [EdV ed0, errV a] w1 fun u w' => ErrIs ea w' u 1 ed0 ∧ Frm0 w1 w' ∧ ∀ b, u = .iface 95 (Ptr b) → w1.heap.size ≤ b := fun w1 f1 => refusal_ret (n := 1) (.inr ⟨Nat.succ_pos _, a, rfl, ha⟩) ed0
    by_cases h1 : c < 1
    · refine runG11 ?_
      refine s_val (r_build rfl (bld_ed0 _)) wnt_none ?_
      refine runG11 ?_
      refine s_callf (fin _ hF1) rfl wnt_none ?_
      rintro u w2 ⟨hu, f2, _⟩
      obtain ⟨b, a2, rfl, _⟩ := hu.one1
      refine runG11 ?_
      exact ret_2 rfl rfl rfl ⟨hF1.trans0 f2, _, rfl, hu⟩
    · by_cases h2 : 4 < c
      · refine runG11 ?_
        refine s_val (r_build rfl (bld_ed0 _)) wnt_none ?_
        refine runG11 ?_
        refine s_callf (fin _ hF1) rfl wnt_none ?_
        rintro u w2 ⟨hu, f2, _⟩
        obtain ⟨b, a2, rfl, _⟩ := hu.one1
        refine runG11 ?_
        exact ret_2 rfl rfl rfl ⟨hF1.trans0 f2, _, rfl, hu⟩
      · by_cases h3 : l < 0
        · refine runG11 ?_
          refine s_val (r_build rfl (bld_ed0 _)) wnt_none ?_
          refine runG11 ?_
          refine s_callf (fin _ hF1) rfl wnt_none ?_
          rintro u w2 ⟨hu, f2, _⟩
          obtain ⟨b, a2, rfl, _⟩ := hu.one1
          refine runG11 ?_
          exact ret_2 rfl rfl rfl ⟨hF1.trans0 f2, _, rfl, hu⟩
        · have h4 : 8 < l := by omega
          refine runG11 ?_
          refine s_val (r_build rfl (bld_ed0 _)) wnt_none ?_
          refine runG11 ?_
          refine s_callf (fin _ hF1) rfl wnt_none ?_
          rintro u w2 ⟨hu, f2, _⟩
          obtain ⟨b, a2, rfl, _⟩ := hu.one1
          refine runG11 ?_
          exact ret_2 rfl rfl rfl ⟨hF1.trans0 f2, _, rfl, hu⟩
  · simp only [if_neg hbad]
    refine rets_of Tryz.func40 (by kernel_rfl) rfl Tryz.ntmps40 (Nat.le_of_ble_eq_true rfl) ?_
    have h1 : ¬ c < 1 := fun h => hbad (.inl h)
    have h2 : ¬ 4 < c := fun h => hbad (.inr (.inl h))
    have h3 : ¬ l < 0 := fun h => hbad (.inr (.inr (.inl h)))
    have h4 : ¬ 8 < l := fun h => hbad (.inr (.inr (.inr h)))
    refine runG11 ?_
    generalize w.alloc (cel [I c, I l] 87) = w1 at *
    refine s_callf (newServer_ret sp l _) rfl wnt_none ?_
    rintro v w2 ⟨t, mb, rfl, hT, hmb, hmz, f2⟩
    refine s_val (r_build rfl (bld_Party _ _ _ _)) wnt_none ?_
    have hmlt := at_lt hmb
    have s2 := f2.size
    have f3 : Frm0 w2 (w2.alloc (cel [Ptr t, I 0, I l, .slice none 0 0, .map (some mb), .slice none 0 0] 108)) := Frm.of_alloc _ _
    have hp3 := at_alloc_new w2 (cel [Ptr t, I 0, I l, .slice none 0 0, .map (some mb), .slice none 0 0] 108)
    have hbox3 := f3.at0 (f2.at0 hbox)
    refine s_val (r_boxA (l := [Ptr t, I 0, I l, .slice none 0 0, .map (some mb), .slice none 0 0]) rfl) wnt_none ?_
    have hz3 : (w2.alloc (cel [Ptr t, I 0, I l, .slice none 0 0, .map (some mb), .slice none 0 0] 108)).heap.size = w2.heap.size + 1 := World.size_alloc _ _
    have hN3 : NQ PT w (w2.alloc (cel [Ptr t, I 0, I l, .slice none 0 0, .map (some mb), .slice none 0 0] 108)) col (fun b => if b = w2.heap.size then k else if w1.heap.size ≤ b ∧ b < mb then k + 1 else if b = mb then k + 3 else col b) k w2.heap.size t mb (.slice none 0 0) [] l := by
      refine ⟨hp3, if_pos rfl, ?_, f3.at0 hmb, ?_, Row.nil, fun b hb => (inv_none hb).elim, fun m hm => (by cases hm), fun i m hi => (by simp at hi), ⟨fun b hb => ?_, fun b hb => ?_, fun b hb => ?_⟩, (hF1.trans0 f2).trans0 f3⟩
      · refine sp.weak (sp.frm hT f3 (fun _ _ h => h)) (fun b hb _ => ?_)
        show (if _ then _ else _) = _
        rw [if_neg (by omega), if_pos hb]
      · show (if _ then _ else _) = _
        rw [if_neg (by omega), if_neg (by omega), if_pos rfl]
      · show (if _ then _ else _) = _
        rw [if_neg (by omega), if_neg (by omega), if_neg (by omega)]
      · show (if _ then _ else _) = _
        rw [if_neg (by omega), if_neg (by omega), if_neg (by omega)]
        exact hh b (by omega)
      · by_cases q1 : b = w2.heap.size
        · right; simp only [if_pos q1]; omega
        · by_cases q2 : w1.heap.size ≤ b ∧ b < mb
          · right; simp only [if_neg q1, if_pos q2]; omega
          · by_cases q3 : b = mb
            · right; simp only [if_neg q1, if_neg q2, if_pos q3]; omega
            · left; simp only [if_neg q1, if_neg q2, if_neg q3]; exact hh b hb
    generalize (fun b => if b = w2.heap.size then k else if w1.heap.size ≤ b ∧ b < mb then k + 1 else if b = mb then k + 3 else col b) = col3 at *
    have hpw : w.heap.size ≤ w2.heap.size := by omega
    generalize w2.alloc (cel [Ptr t, I 0, I l, .slice none 0 0, .map (some mb), .slice none 0 0] 108) = w3 at *
    generalize w2.heap.size = pb at *
    clear hbox
    refine runG11 ?_
    refine lp (fun env w' => ∃ env0, ∃ j : Nat, ∃ ca cc col' ms, env = setL env0 [(4, Ptr pb), (32, I c), (33, I j)] ∧ (j : Int) ≤ c ∧ NQ PT w w' col col' k pb t mb (.slice ca j cc) ms l ∧ ms.length = j ∧ ∀ b, InV (.slice ca j cc) b → w.heap.size ≤ b) (fun env _ => c.toNat - cnt (env 33)) ?_ ?_
    · exact ⟨_, 0, none, 0, col3, [], fixL ⟨rfl, rfl, rfl, trivial⟩, by omega, hN3, rfl, fun b hb => (inv_none hb).elim⟩
    · rintro env w4 ⟨env0, j, ca, cc, col4, ms, rfl, hj, hN, hml, hcw⟩
      have hh4 := hN.head
      by_cases hlt : (j : Int) < c
      · have hnp : ¬ InV (.slice ca j cc) pb := fun h9 => by have := hN.crow _ h9; have := hN.own; omega
        refine runG11 ?_
        refine w_drawn [(0, false), (1, false), (2, false), (3, false), (4, false), (5, true), (6, false), (7, true), (8, true), (9, false), (10, false)] [11] (fun wq => Frm (InV (.slice ca j cc)) w4 wq) mixed (by kernel_rfl) ?_ ?_
        · exact Frm.of_drew _
        · refine runG11 ?_
          refine x_callf rfl (nothing_ret sp _) rfl wnt_none ?_
          rintro v w5 ⟨t', rfl, hT5, f5⟩
          have f45 : Frm0 w4 w5 := (Frm.of_drew w4).trans0 f5
          refine ⟨f45.mono (fun _ h => h.elim), ?_⟩
          refine x_q rfl (fun wq hq => r_build rfl (bld_client _ wq)) wnt_none ?_
          refine x_val rfl (r_bs rfl (bs_client _ _)) wnt_none ((f45.mono (fun _ h => h.elim)).alloc _) ?_
          have f6 : Frm0 w5 (w5.alloc (cel (cli0V t') 119)) := Frm.of_alloc _ _
          have hrow6 := hN.row.frm (f45.trans0 f6) (fun _ _ h => h)
          obtain ⟨v7, w7, e7, r7, f7, n7⟩ := append_seg (P := Tryz.prog) (sz := 8) (by' := 120) (ty := 106) (sT := 106) (u_ok rfl) (u_ok rfl) (fun kk h => by cases h) (s_ok rfl) (b_ok rfl) (z_ok rfl) rfl hrow6 (seg_new (w := w5) (cs := cli0V t') (t := 119) rfl) (cli0_one t') (by omega) (by omega)
          have f47 : Frm (InV (.slice ca j cc)) w4 w7 := ((f45.trans0 f6).mono (fun _ h => h.elim)).trans f7 (fun b hb => .inl hb)
          refine x_val rfl (r_app rfl rfl e7) wnt_none f47 ?_
          have hh7 := f47.at hnp hh4
          obtain ⟨col8, hN8⟩ := hN.grow sp hk (by omega) hpw hcw f45 (sp.weak hT5 (fun b hb _ => hb)) f6 f7 r7 n7
          have r7' := r7
          rw [hml] at r7'
          obtain ⟨xa, xc, rfl⟩ := r7'.isSl
          refine runG11 ?_
          refine y_skip rfl (r_store_s (s_ok rfl) rfl rfl hh7 (by simp)) wnt_none ?_
          refine runG11 ?_
          have s45 := f45.size
          have s6 := f6.size
          have s4 := hN.new.size
          obtain ⟨ms8, hN9, hl9⟩ : ∃ ms8, NQ PT w (setB w7 pb (cel [Ptr t, I 0, I l, .slice none 0 0, .map (some mb), .slice xa (j + 1) xc] 108)) col col8 k pb t mb (.slice xa (j + 1) xc) ms8 l ∧ ms8.length = j + 1 := ⟨_, hN8, by rw [List.length_append, hml]; rfl⟩
          refine ⟨_, rfl, ⟨_, j + 1, xa, xc, col8, ms8, fixL ⟨rfl, rfl, rfl, trivial⟩, by omega, hN9, hl9, fun b hb => ?_⟩, by show c.toNat - ((j : Int) + 1).toNat < c.toNat - (j : Int).toNat; omega⟩
          rcases n7 b hb with h9 | h9
          · exact hcw b h9
          · omega
      · have hjc : c.toNat = j := by omega
        refine runG11 ?_
        refine ret_2 rfl rfl rfl ⟨hN.new, pb, col4, rfl, ?_, hN.ext⟩
        rcases hN.row with ⟨_, h0, _⟩ | ⟨cb, cap, rest, e9, hA, hpl, hr, hc⟩
        · omega
        · cases e9
          refine ⟨t, .slice none 0 0, mb, cb, cc, rest, ms, ?_, hN.own, hN.tree, wf_root0, Row.nil, fun b hb => (inv_none hb).elim, ⟨#[], 0, hN.map, ⟨rfl, by simp, fun e he => by simp at he, by simp [newQ]⟩⟩, hN.cmap, hA, hN.crow _ ⟨_, _, _, rfl⟩, ?_, hN.cli, by omega, hN.ext.high, hk⟩
          · have := hN.head
            rw [hml]
            exact this
          · show List.replicate c.toNat pcli0 = ms.map (·.c)
            rw [hjc, ← hml]
            refine (List.eq_replicate_iff.2 ⟨by simp, fun b hb => ?_⟩).symm
            obtain ⟨m, hm, rfl⟩ := List.mem_map.1 hb
            exact hN.all m hm
end
end Go.Proofs.YtbicffldggcdhaaGreatDoor

namespace Go.Proofs.YtbicffldggcdhaaGreatDoor
open Go

theorem PPar.cl_memK {Q : PPar} {i : Int} {c : PCli} (h : Q.cl i = some c) : c ∈ Q.cls := by
  unfold PPar.cl at h
  split at h
  · cases h
  · exact List.mem_of_getElem? h
section
variable {P : Par} {i : Int}
theorem editP_log (e : Ed) : (editP P i e).2.log = P.log := by
  unfold editP
  repeat' split
  all_goals rfl
theorem joinP_log : (joinP P i).2.log = P.log := by
  unfold joinP
  repeat' split
  all_goals rfl
theorem upP_log : (upP P i).2.log = P.log := by
  unfold upP
  repeat' split
  all_goals first | rfl | (dsimp only; repeat' split) 
  all_goals rfl
theorem downP_log : (downP P i).2.log = P.log := by
  unfold downP
  repeat' split
  all_goals rfl
end
/-- A party of the program that is the document's P, of so many steps at the most. -/
structure KP (PT : PTy) (w : World) (col : Nat → Nat) (k p N : Nat) (P : Par) : Prop where
  ex : ∃ Q, PP PT w col k p Q ∧ Sim Q P
  sp : SP P
  inv : PInv N P
  log : 0 ≤ P.log ∧ P.log ≤ 8
def KStep (PT : PTy) (w w' : World) (col : Nat → Nat) (k p N : Nat) (P : Par) : Prop := ∃ col', KP PT w' col' k p N P ∧ Ext k w w' col col' ∧ Frm (fun b => k ≤ col b ∧ col b < k + 100) w w'
section
variable {PT : PTy} {w w' : World} {col : Nat → Nat} {k p N : Nat} {P : Par} {ea : List Addr}
theorem KP.frm0 (sp : TreeSpec PT) (h : KP PT w col k p N P) (f : Frm0 w w') : KP PT w' col k p N P := by
  obtain ⟨⟨Q, ⟨t, lv, mb, cb, cap, rest, ms, hq⟩, hs⟩, h2, h3, h4⟩ := h
  exact ⟨⟨Q, ⟨t, lv, mb, cb, cap, rest, ms, hq.frm0 sp f⟩, hs⟩, h2, h3, h4⟩
theorem KP.qb (h : KP PT w col k p N P) (hN : N ≤ 1800000000000) : ∃ Q, PP PT w col k p Q ∧ Sim Q P ∧ QB Q := by
  obtain ⟨⟨Q, hq, hs⟩, hsp, hi, hl⟩ := h
  exact ⟨Q, hq, hs, qb_of hs hsp hi hN hl⟩
theorem kpEdit (sp : TreeSpec PT) (h : KP PT w col k p N P) (hE : Errs w ea) (hN : N ≤ 1800000000000) (i : Int) (e : Ed) :
    Rets Tryz.prog 31 [Ptr p, I i, EdV e] w fun v w' => ErrN ea w w' v (editP P i e).1 e ∧ KStep PT w w' col k p (N + 1) (editP P i e).2 := by
  obtain ⟨Q, hq, hs, hb⟩ := h.qb hN
  have h1 := hs.edit h.sp i e
  refine (PEdit_ret sp hq hE wf_root0 i e (fun c hc => by have := hb.cl c (PPar.cl_memK hc); exact ⟨by omega, by omega⟩)).mono ?_
  rintro v w' ⟨hv, col', hq', hx, hf⟩
  exact ⟨by rw [← h1.1]; exact hv, col', ⟨⟨_, hq', h1.2⟩, h.sp.edit i e, h.inv.edit i e, by rw [editP_log]; exact h.log⟩, hx, hf⟩
theorem kpJoin (sp : TreeSpec PT) (h : KP PT w col k p N P) (hE : Errs w ea) (hN : N ≤ 1800000000000) (i : Int) :
    Rets Tryz.prog 33 [Ptr p, I i] w fun v w' => ErrN ea w w' v (joinP P i).1 ed0 ∧ KStep PT w w' col k p (N + 1) (joinP P i).2 := by
  obtain ⟨Q, hq, hs, hb⟩ := h.qb hN
  have h1 := hs.join h.sp i
  refine (PJoin_ret sp hq hE i (fun c hc => by have := hb.cl c (PPar.cl_memK hc); exact ⟨by omega, by omega⟩)).mono ?_
  rintro v w' ⟨hv, col', hq', hx, hf⟩
  exact ⟨by rw [← h1.1]; exact hv, col', ⟨⟨_, hq', h1.2⟩, h.sp.join i, h.inv.join i, by rw [joinP_log]; exact h.log⟩, hx, hf⟩
theorem kpUp (sp : TreeSpec PT) (cs : CloneSpec PT) (h : KP PT w col k p N P) (hE : Errs w ea) (hlo : (∀ g ∈ errG, col g = 0) ∧ ∀ a ∈ ea, col a.block = 0) (hN : N ≤ 1800000000000) (i : Int) :
    Rets Tryz.prog 32 [Ptr p, I i] w fun v w' => ErrN ea w w' v (upP P i).1 ed0 ∧ KStep PT w w' col k p (N + 1) (upP P i).2 := by
  obtain ⟨Q, hq, hs, hb⟩ := h.qb hN
  refine (PUp_ret sp cs hq hE hlo hb i).mono ?_
  rintro v w' ⟨L, hL, hv, col', hq', hx, hf⟩
  have h1 := hs.up h.sp h.log.1 i hL
  exact ⟨by rw [← h1.1]; exact hv, col', ⟨⟨_, hq', h1.2⟩, h.sp.up i, h.inv.up i, by rw [upP_log]; exact h.log⟩, hx, hf⟩
theorem kpDown (sp : TreeSpec PT) (h : KP PT w col k p N P) (hE : Errs w ea) (hlo : (∀ g ∈ errG, col g = 0) ∧ ∀ a ∈ ea, col a.block = 0) (hN : N ≤ 1800000000000) (i : Int) :
    Rets Tryz.prog 42 [Ptr p, I i] w fun v w' => ErrN ea w w' v (downP P i).1 ed0 ∧ KStep PT w w' col k p (N + 1) (downP P i).2 := by
  obtain ⟨Q, hq, hs, hb⟩ := h.qb hN
  have h1 := hs.down h.sp i
  refine (PDown_ret sp hq hE hlo hb i).mono ?_
  rintro v w' ⟨hv, col', hq', hx, hf⟩
  exact ⟨by rw [← h1.1]; exact hv, col', ⟨⟨_, hq', h1.2⟩, h.sp.down i, h.inv.down i, by rw [downP_log]; exact h.log⟩, hx, hf⟩
theorem kpBase (sp : TreeSpec PT) (cs : CloneSpec PT) (h : KP PT w col k p N P) (hE : Errs w ea) {i : Int} {c : Cli} (hc : P.cl i = some c) :
    Rets Tryz.prog 26 [Ptr p, I i] w fun v w' => ∃ t, v = .tuple #[Ptr t, I c.n, .nilIface] ∧ PT w' t c.base (fun b => w.heap.size ≤ b) ∧ Wf c.base ∧ Frm0 w w' := by
  obtain ⟨Q, hq, hs⟩ := h.ex
  refine (PBase_ret sp cs hq hE i).mono ?_
  have h9 := hs.cl i
  rw [hc] at h9
  rintro v w' ⟨hv, hf⟩
  rw [h9] at hv
  obtain ⟨t, h1, h2, h3⟩ := hv
  exact ⟨t, h1, h2, h3, hf⟩
theorem kpNew (sp : TreeSpec PT) (hk : 0 < k) (hh : ∀ b, w.heap.size ≤ b → col b = 0) (hE : Errs w ea) {c l : Int} (hc : 1 ≤ c ∧ c ≤ 4) (hl : 0 ≤ l ∧ l ≤ 8) :
    Rets Tryz.prog 40 [CfgV c l] w fun v w' => ∃ p col', v = .tuple #[Ptr p, .nilIface] ∧ KP PT w' col' k p 0 ⟨c, l, [root0], [], List.replicate c.toNat cli0⟩ ∧ Ext k w w' col col' ∧ Frm0 w w' := by
  refine (PNew_ret sp hk hh hE c l).mono ?_
  rintro v w' ⟨hf, hv⟩
  rw [if_neg (by omega)] at hv
  obtain ⟨p, col', h1, h2, h3⟩ := hv
  have hn : newP c l = some ⟨c, l, [root0], [], List.replicate c.toNat cli0⟩ := by rw [newP, if_neg (by omega)]
  exact ⟨p, col', h1, ⟨⟨_, h2, sim_new hn⟩, sp_new hn, pinv_new hn, hl⟩, h3, hf⟩
end
end Go.Proofs.YtbicffldggcdhaaGreatDoor

namespace Go.Proofs.YtbicffldggcdhaaGreatDoor
open Go

theorem errIs0 {ea : List Addr} {w : World} {v : Value} {e : Ed} (h : ErrIs ea w v 0 e) : v = .nilIface := by
  rcases h with ⟨_, h⟩ | ⟨h, _⟩
  · exact h
  · omega
theorem errIsS {ea : List Addr} {w : World} {v : Value} {n : Nat} {e : Ed} (h : ErrIs ea w v n e) (hn : n ≠ 0) : ∃ b, v = .iface 95 (Ptr b) := by
  rcases h with ⟨h, _⟩ | ⟨_, b, _, h, _⟩
  · exact absurd h hn
  · exact ⟨b, h⟩
theorem KStep.go {PT : PTy} {w0 w w' : World} {col : Nat → Nat} {k p N : Nat} {P : Par} (h : KStep PT w w' col k p N P) (f : Frm0 w0 w) (hl : ∀ b, b < w0.heap.size → col b = 0) (hk : 0 < k) : ∃ col', KP PT w' col' k p N P ∧ Frm0 w0 w' ∧ (∀ b, b < w0.heap.size → col' b = 0) ∧ Ext k w w' col col' ∧ Frm (fun b => k ≤ col b ∧ col b < k + 100) w w' := by
  obtain ⟨col', h1, h2, h3⟩ := h
  refine ⟨col', h1, f.trans h3 (fun b hb => .inr ?_), fun b hb => ?_, h2, h3⟩
  · rcases Nat.lt_or_ge b w0.heap.size with h9 | h9
    · have := hl b h9; omega
    · exact h9
  · rw [h2.old b (Nat.lt_of_lt_of_le hb f.size)]
    exact hl b hb
def kE1 : Ed := ⟨1, 1, 0, 0, 0, 0⟩
def kE2 : Ed := ⟨1, 2, 1, 0, 0, 0⟩
def kE3 : Ed := ⟨2, 1, 2, 0, 0, 0⟩
theorem bldk1 (w : World) : (Instr.build 31 [(0, I 1), (1, I 1)].toArray).run Tryz.prog w = .ok (EdV kE1) w := by kernel_rfl
theorem bldk2 (w : World) : (Instr.build 31 [(0, I 1), (1, I 2), (2, I 1)].toArray).run Tryz.prog w = .ok (EdV kE2) w := by kernel_rfl
theorem bldk3 (w : World) : (Instr.build 31 [(0, I 2), (1, I 1), (2, I 2)].toArray).run Tryz.prog w = .ok (EdV kE3) w := by kernel_rfl
theorem bldkC (a b : Int) (w : World) : (Instr.build 87 [(0, I a), (1, I b)].toArray).run Tryz.prog w = .ok (CfgV a b) w := by kernel_rfl
def kT1 : List Nd := [root0, ⟨1, 0, 0, 0, 0, 0, 0⟩]
def kT2 : List Nd := [root0, ⟨1, 0, 0, 0, 0, 0, 0⟩, ⟨2, 1, 0, 0, 0, 0, 0⟩]
theorem kR1 : refused [root0] kE1 = 0 := by decide
theorem kA1 : applyL [root0] kE1 = kT1 := by rfl
theorem kR2 : refused kT1 kE2 = 0 := by decide
theorem kA2 : applyL kT1 kE2 = kT2 := by rfl
theorem kR3 : refused kT2 kE3 = 6 := by decide
theorem kA3 : applyL kT2 kE3 = kT2 := by rfl
def wP0 : Par := ⟨1, 1, [root0], [], List.replicate (1 : Int).toNat cli0⟩
def wP1 : Par := (editP wP0 0 kE1).2
def wP2 : Par := (joinP wP1 0).2
def wP3 : Par := (upP wP2 0).2
def wP4 : Par := (upP wP3 0).2
def wP5 : Par := (downP wP4 0).2
theorem wR1 : (editP wP0 0 kE1).1 = 0 := by rfl
theorem wR2 : (joinP wP1 0).1 = 0 := by rfl
theorem wR3 : (upP wP2 0).1 = 0 := by rfl
theorem wR4 : (upP wP3 0).1 = 0 := by rfl
theorem wR5 : (downP wP4 0).1 = 0 := by rfl
theorem wC5 : ∃ c, wP5.cl 0 = some c ∧ c.n = 1 ∧ c.base.length = 2 := ⟨_, rfl, rfl, rfl⟩
section
variable {w : World} {n : Nat} {env : Env} {d : Option Nat} {t ty2 : Nat} {p : String} {af : Array Edge} {g : Option (Nat × Bool)} {x : Operand}
theorem r_eqpP {a : Addr} (hx : ev n env x = .pointer (some a)) : (execOp (ev n env) ⟨d, .binOp .eql 45 x (.const (.pointer none)) ty2, t, p, af, g⟩).run Tryz.prog w = .ok (.value (.bool false)) w :=
  r_eq2 hx (show ev n env (.const (.pointer none)) = .pointer none from rfl) rfl (by kernel_rfl)
theorem r_nepT {a : Addr} (hx : ev n env x = .pointer (some a)) : (execOp (ev n env) ⟨d, .binOp .neq 28 x (.const (.pointer none)) ty2, t, p, af, g⟩).run Tryz.prog w = .ok (.value (.bool true)) w :=
  r_eq2 hx (show ev n env (.const (.pointer none)) = .pointer none from rfl) rfl (by kernel_rfl)
end
set_option maxRecDepth 4000 in
set_option maxHeartbeats 2000000 in
theorem works_ret {PT : PTy} (sp : TreeSpec PT) (cs : CloneSpec PT) {w : World} {ea : List Addr} (hE : Errs w ea) :
    Rets Tryz.prog 14 [] w fun v w' => v = B true ∧ Frm0 w w' := by
  have hlt := errs_lt hE
  have hg : ∀ g ∈ errG, ¬ w.heap.size ≤ g := fun g hg => by have := hlt.1 g hg; omega
  have ha : ∀ a ∈ ea, ¬ w.heap.size ≤ a.block := fun a ha => by have := hlt.2 a ha; omega
  refine rets_of Tryz.func14 (by kernel_rfl) rfl Tryz.ntmps14 (Nat.le_of_ble_eq_true rfl) ?_
  refine runG11 ?_
  refine s_callf (sp.new w) rfl wnt_none ?_
  rintro v w1 ⟨t, rfl, hT1, f1⟩
  refine runG11 ?_
  refine s_val (r_eqp rfl) wnt_none ?_
  refine runG11 ?_
  refine s_val (r_build rfl (bldk1 _)) wnt_none ?_
  refine s_callf (sp.apply kE1 hT1 wf_root0 (hE.frm0 f1) hg ha) rfl wnt_none ?_
  rintro v w2 ⟨hv, hT2, f2, _⟩
  have F2 : Frm0 w w2 := f1.trans f2 (fun b hb => .inr hb)
  have hT2 := sp.weak (S' := fun b => w.heap.size ≤ b) hT2 (fun b hb _ => by have := f1.size; omega)
  rw [kR1] at hv
  cases errIs0 hv
  rw [kA1] at hT2
  have hW1 : Wf kT1 := by rw [← kA1]; exact wf_root0.apply kE1
  have hW2 : Wf kT2 := by rw [← kA2]; exact hW1.apply kE2
  refine runG11 ?_
  refine s_val (r_build rfl (bldk2 _)) wnt_none ?_
  refine s_callf (sp.apply kE2 hT2 hW1 (hE.frm0 F2) hg ha) rfl wnt_none ?_
  rintro v w3 ⟨hv, hT3, f3, _⟩
  have F3 : Frm0 w w3 := F2.trans f3 (fun b hb => .inr hb)
  have hT3 := sp.weak (S' := fun b => w.heap.size ≤ b) hT3 (fun b hb _ => by have := F2.size; omega)
  rw [kR2] at hv
  cases errIs0 hv
  rw [kA2] at hT3
  refine runG11 ?_
  refine s_val (r_build rfl (bldk3 _)) wnt_none ?_
  refine s_callf (sp.apply kE3 hT3 hW2 (hE.frm0 F3) hg ha) rfl wnt_none ?_
  rintro v w4 ⟨hv, hT4, f4, _⟩
  have F4 : Frm0 w w4 := F3.trans f4 (fun b hb => .inr hb)
  have hT4 := sp.weak (S' := fun b => w.heap.size ≤ b) hT4 (fun b hb _ => by have := F3.size; omega)
  rw [kR3] at hv
  rw [kA3] at hT4
  obtain ⟨cb, rfl⟩ := errIsS hv (by decide)
  clear hv
  refine runG11 ?_
  refine s_val (r_build rfl (bldkC _ _ _)) wnt_none ?_
  refine s_callf (kpNew sp (k := 100) (col := fun _ => 0) (by omega) (fun _ _ => rfl) (hE.frm0 F4) (c := 1) (l := 1) (by omega) (by omega)) rfl wnt_none ?_
  rintro v w5 ⟨p, col5, rfl, hp5, x5, f5⟩
  have F5 := F4.trans0 f5
  have l5 : ∀ b, b < w.heap.size → col5 b = 0 := fun b hb => by rw [x5.old b (Nat.lt_of_lt_of_le hb F4.size)]
  have hT5 := sp.frm hT4 f5 (fun _ _ h => h)
  refine runG11 ?_
  refine s_val (r_nnF rfl) wnt_none ?_
  refine runG11 ?_
  refine s_val (r_nnF rfl) (by (first | (with_reducible exact wnt_none) | ((with_reducible apply wnt_y); exact rfl; exact rfl; exact rfl; exact rfl; (with_reducible exact rfl)))) ?_
  refine runG11 ?_
  refine s_val (r_in rfl) (by (first | (with_reducible exact wnt_none) | ((with_reducible apply wnt_y); exact rfl; exact rfl; exact rfl; exact rfl; (with_reducible exact rfl)))) ?_
  refine runG11 ?_
  refine s_callf (sp.len hT5) rfl (by (first | (with_reducible exact wnt_none) | ((with_reducible apply wnt_y); exact rfl; exact rfl; exact rfl; exact rfl; (with_reducible exact rfl)))) ?_
  rintro v w6 ⟨rfl, f6⟩
  have F6 := F5.trans0 f6
  have hp6 := hp5.frm0 sp f6
  rw [show (kT2.length : Int) = 3 from rfl]
  refine runG11 ?_
  refine s_val (r_nnF rfl) (by (first | (with_reducible exact wnt_none) | ((with_reducible apply wnt_y); exact rfl; exact rfl; exact rfl; exact rfl; (with_reducible exact rfl)))) ?_
  refine runG11 ?_
  refine s_val (r_eqpP rfl) (by (first | (with_reducible exact wnt_none) | ((with_reducible apply wnt_y); exact rfl; exact rfl; exact rfl; exact rfl; (with_reducible exact rfl)))) ?_
  refine runG11 ?_
  refine s_val (r_build rfl (bldk1 _)) wnt_none ?_
  refine s_callf (kpEdit sp (P := wP0) hp6 (hE.frm0 F6) (by omega) 0 kE1) rfl wnt_none ?_
  rintro v w7 ⟨hv, hs⟩
  obtain ⟨col7, hp7, F7, l7, _⟩ := hs.go F6 l5 (by omega)
  rw [wR1] at hv
  cases errIs0 hv.1
  clear hv hs
  refine runG11 ?_
  refine s_callf (kpJoin sp (P := wP1) hp7 (hE.frm0 F7) (by omega) 0) rfl wnt_none ?_
  rintro v w8 ⟨hv, hs⟩
  obtain ⟨col8, hp8, F8, l8, _⟩ := hs.go F7 l7 (by omega)
  rw [wR2] at hv
  cases errIs0 hv.1
  clear hv hs
  refine runG11 ?_
  refine s_callf (kpUp sp cs (P := wP2) hp8 (hE.frm0 F8) ⟨fun g hg => l8 g (hlt.1 g hg), fun a ha => l8 _ (hlt.2 a ha)⟩ (by omega) 0) rfl wnt_none ?_
  rintro v w9 ⟨hv, hs⟩
  obtain ⟨col9, hp9, F9, l9, _⟩ := hs.go F8 l8 (by omega)
  rw [wR3] at hv
  cases errIs0 hv.1
  clear hv hs
  refine runG11 ?_
  refine s_callf (kpUp sp cs (P := wP3) hp9 (hE.frm0 F9) ⟨fun g hg => l9 g (hlt.1 g hg), fun a ha => l9 _ (hlt.2 a ha)⟩ (by omega) 0) rfl wnt_none ?_
  rintro v wa ⟨hv, hs⟩
  obtain ⟨cola, hpa, Fa, la, _⟩ := hs.go F9 l9 (by omega)
  rw [wR4] at hv
  cases errIs0 hv.1
  clear hv hs
  refine runG11 ?_
  refine s_callf (kpDown sp (P := wP4) hpa (hE.frm0 Fa) ⟨fun g hg => la g (hlt.1 g hg), fun a ha => la _ (hlt.2 a ha)⟩ (by omega) 0) rfl wnt_none ?_
  rintro v wb ⟨hv, hs⟩
  obtain ⟨colb, hpb, Fb, lb, _⟩ := hs.go Fa la (by omega)
  rw [wR5] at hv
  cases errIs0 hv.1
  clear hv hs
  obtain ⟨c, hc, hcn, hcl⟩ := wC5
  refine runG11 ?_
  refine s_callf (kpBase sp cs (P := wP5) hpb (hE.frm0 Fb) hc) rfl wnt_none ?_
  rintro v wc ⟨tb, rfl, hTb, _, fc⟩
  have Fc := Fb.trans0 fc
  rw [hcn]
  refine runG11 ?_
  refine s_val (r_nn rfl) wnt_none ?_
  refine runG11 ?_
  refine s_val (r_nn rfl) (by (first | (with_reducible exact wnt_none) | ((with_reducible apply wnt_y); exact rfl; exact rfl; exact rfl; exact rfl; (with_reducible exact rfl)))) ?_
  refine runG11 ?_
  refine s_val (r_nn rfl) (by (first | (with_reducible exact wnt_none) | ((with_reducible apply wnt_y); exact rfl; exact rfl; exact rfl; exact rfl; (with_reducible exact rfl)))) ?_
  refine runG11 ?_
  refine s_val (r_nn rfl) (by (first | (with_reducible exact wnt_none) | ((with_reducible apply wnt_y); exact rfl; exact rfl; exact rfl; exact rfl; (with_reducible exact rfl)))) ?_
  refine runG11 ?_
  refine s_val (r_nn rfl) (by (first | (with_reducible exact wnt_none) | ((with_reducible apply wnt_y); exact rfl; exact rfl; exact rfl; exact rfl; (with_reducible exact rfl)))) ?_
  refine runG11 ?_
  refine s_val (r_nn rfl) (by (first | (with_reducible exact wnt_none) | ((with_reducible apply wnt_y); exact rfl; exact rfl; exact rfl; exact rfl; (with_reducible exact rfl)))) ?_
  refine runG11 ?_
  refine s_val (r_nepT rfl) (by (first | (with_reducible exact wnt_none) | ((with_reducible apply wnt_y); exact rfl; exact rfl; exact rfl; exact rfl; (with_reducible exact rfl)))) ?_
  refine runG11 ?_
  refine s_callf (sp.len hTb) rfl (by (first | (with_reducible exact wnt_none) | ((with_reducible apply wnt_y); exact rfl; exact rfl; exact rfl; exact rfl; (with_reducible exact rfl)))) ?_
  rintro v wd ⟨rfl, fd⟩
  rw [show (c.base.length : Int) = 2 by rw [hcl]; rfl]
  refine runG11 ?_
  exact ret_b rfl rfl ⟨rfl, Fc.trans0 fd⟩
end Go.Proofs.YtbicffldggcdhaaGreatDoor
