/-
  WB2; WB3; WB4; WL3; WL4.
-/
import Derived.Test.YtbicffldggcdhaaGreatDoorB11
import Derived.Test.YtbicffldggcdhaaGreatDoorB06
import Derived.Test.YtbicffldggcdhaaGreatDoorB10
namespace Go.Proofs.YtbicffldggcdhaaGreatDoor
open Go
theorem runG12 {G K : Prop} (k : K) (h : Wrap K → G := by intro h; (repeat (first | (with_reducible first | refine wpIn_seq ?_ | refine w_reg ?_ | refine s_nil ?_ | refine s_nilQ ?_ | refine wpIn_block ?_ | refine q_then ?_ | refine q_blk ?_ | refine q_then_ret ?_ | refine q_blk_ret ?_ | refine q_then_exit ?_ | refine q_blk_exit ?_ | refine wpIn_skip ?_ | refine wpIn_ret ?_ | refine wpIn_exit ?_ | refine y_nil ?_ | refine y_nilQ ?_ | refine x_late ?_) | ((with_reducible refine q_blk_other ?_ ?_); exact rfl) | ((with_reducible apply c_true); exact rfl; (with_reducible exact rfl)) | ((with_reducible apply c_false); exact rfl; (with_reducible exact rfl)) | ((with_reducible apply s_no); (first | ((with_reducible apply wnt_nt); exact rfl; exact rfl; exact rfl; exact rfl; (with_reducible exact rfl)) | ((with_reducible apply wnt_nf); exact rfl; exact rfl; exact rfl; exact rfl; (with_reducible exact rfl)))) | ((with_reducible apply x_qno); exact rfl; (first | ((with_reducible apply wnt_nt); exact rfl; exact rfl; exact rfl; exact rfl; (with_reducible exact rfl)) | ((with_reducible apply wnt_nf); exact rfl; exact rfl; exact rfl; exact rfl; (with_reducible exact rfl)))) | ((first | with_reducible apply s_val | ((with_reducible apply y_val); exact rfl) | ((with_reducible apply x_q); exact rfl; intro wq hq)); (first | ((with_reducible apply r_move_p); exact rfl) | ((with_reducible apply r_nilCheck); exact rfl) | ((with_reducible apply r_fld); exact fa_ok rfl; exact rfl) | ((with_reducible apply r_load); exact u_ok rfl; exact rfl; exact rfl; (first | exact Frm.at0 hq (by assumption) | exact Frm.at hq (by assumption) (by assumption) | (first | (with_reducible assumption) | assumption | exact at_alloc_new _ _ | (repeat (first | assumption | exact at_alloc_new _ _ | refine at_drew ?_ | refine at_alloc _ ?_)))); exact rfl) | ((with_reducible apply r_len); exact u_ok rfl; exact rfl) | ((with_reducible apply r_sub); exact rfl; exact rfl; omega; omega) | ((with_reducible apply r_allocA); exact z_ok rfl) | ((with_reducible apply r_alloc1); exact z_ok rfl; exact rfl) | ((with_reducible apply r_assign_i); exact rfl) | ((with_reducible apply r_move_i); exact rfl) | ((with_reducible apply r_move_s); exact rfl) | ((with_reducible apply r_lss_t); exact rfl; exact rfl; omega) | ((with_reducible apply r_lss_f); exact rfl; exact rfl; omega) | ((with_reducible apply r_lss); exact rfl; exact rfl) | ((with_reducible apply r_loadA); exact u_ok rfl; exact rfl; exact s_ok rfl; exact rfl; (first | exact Frm.at0 hq (by assumption) | exact Frm.at hq (by assumption) (by assumption) | (first | (with_reducible assumption) | assumption | exact at_alloc_new _ _ | (repeat (first | assumption | exact at_alloc_new _ _ | refine at_drew ?_ | refine at_alloc _ ?_)))); exact Nat.le_of_ble_eq_true rfl) | ((with_reducible apply r_index); exact u_ok rfl; exact s_ok rfl; exact rfl; exact rfl; omega; omega) | ((with_reducible apply r_indexarr); exact u_ok rfl; exact s_ok rfl; exact rfl; exact rfl; omega; omega) | ((with_reducible apply r_add); exact rfl; exact rfl; omega; omega) | ((with_reducible apply r_assign_s); exact rfl) | ((with_reducible apply r_assign_b); exact rfl) | ((with_reducible apply r_neq_t); exact rfl; exact rfl; omega) | ((with_reducible apply r_neq_f); exact rfl; exact rfl; omega) | ((with_reducible apply r_neq); exact rfl; exact rfl) | ((with_reducible apply r_boxA); exact rfl) | ((with_reducible apply r_box1); exact rfl; exact rfl) | ((with_reducible apply r_eql_t); exact rfl; exact rfl; omega) | ((with_reducible apply r_eql_f); exact rfl; exact rfl; omega) | ((with_reducible apply r_eql); exact rfl; exact rfl) | ((with_reducible apply r_move_t); exact rfl) | ((with_reducible apply r_extract); exact rfl; exact rfl) | ((with_reducible apply r_assign_p); exact rfl) | ((with_reducible apply r_assign_if); exact rfl) | ((with_reducible apply r_assign_ni); exact rfl) | ((with_reducible apply r_move_b); exact rfl) | ((with_reducible apply r_move_if); exact rfl) | ((with_reducible apply r_move_ni); exact rfl) | ((with_reducible apply r_pick_t); exact rfl; (with_reducible exact rfl); exact rfl) | ((with_reducible apply r_pick_f); exact rfl; (with_reducible exact rfl); exact rfl)); (first | (with_reducible exact wnt_none) | ((with_reducible apply wnt_y); exact rfl; exact rfl; exact rfl; exact rfl; (with_reducible exact rfl)))))); exact h.out) : G := h ⟨k⟩

theorem bldB2 (a : Int) (w : World) : (Instr.build 123 [(0, I a)].toArray).run Tryz.prog w = .ok (.agg (Ans.vals ⟨a, false⟩).toArray) w := by kernel_rfl
theorem bsB21 (a : Int) (w : World) : (Instr.buildSlice 114 1 [(0, .agg (Ans.vals ⟨a, false⟩).toArray)].toArray).run Tryz.prog w = .ok (.slice (some ⟨w.heap.size, 0, none⟩) 1 1) (w.alloc (cel (reps 1 (Ans.vals ⟨a, false⟩)) 123)) := by kernel_rfl
theorem bsB22 (a : Int) (w : World) : (Instr.buildSlice 114 2 [(0, .agg (Ans.vals ⟨a, false⟩).toArray), (1, .agg (Ans.vals ⟨a, false⟩).toArray)].toArray).run Tryz.prog w = .ok (.slice (some ⟨w.heap.size, 0, none⟩) 2 2) (w.alloc (cel (reps 2 (Ans.vals ⟨a, false⟩)) 123)) := by kernel_rfl
theorem bsB23 (a : Int) (w : World) : (Instr.buildSlice 114 3 [(0, .agg (Ans.vals ⟨a, false⟩).toArray), (1, .agg (Ans.vals ⟨a, false⟩).toArray), (2, .agg (Ans.vals ⟨a, false⟩).toArray)].toArray).run Tryz.prog w = .ok (.slice (some ⟨w.heap.size, 0, none⟩) 3 3) (w.alloc (cel (reps 3 (Ans.vals ⟨a, false⟩)) 123)) := by kernel_rfl
theorem bsS2 (a : Option Addr) (n c : Nat) (w : World) : (Instr.buildSlice 74 1 [(0, .slice a n c)].toArray).run Tryz.prog w = .ok (.slice (some ⟨w.heap.size, 0, none⟩) 1 1) (w.alloc (cel [.slice a n c] 114)) := by kernel_rfl
theorem xo2 (a : Int) : ∀ u ∈ Ans.vals ⟨a, false⟩, one u = true := fun u hu => by simp only [Ans.vals, List.mem_cons, List.not_mem_nil, or_false] at hu; rcases hu with rfl | rfl <;> rfl
set_option maxRecDepth 4000 in
set_option maxHeartbeats 2000000 in
theorem keepsAnswers_ret {w : World} {wp m : Nat} {c0 c1 v c3 c4 lv : Value} {us pre : List Value} {col : Nat → Nat} (hh : At w wp (cel [c0, c1, c3, v, c4] 79)) (hB : BL w col 3 v 114 123 2 mkA us) (hl : Row w lv 123 2 m pre) (hlc : ∀ b, InV lv b → col b = 0 ∧ b ≠ wp) (hm : m < 3900000000000) (hus : us.length < 7290000000000) (hhi : ∀ b, w.heap.size ≤ b → col b = 0) (hwp : col wp = 0) :
    Rets Tryz.prog 116 [.pointer (some ⟨wp, 2, none⟩), lv] w fun _ w' => ∃ v' us' col', At w' wp (cel [c0, c1, c3, v', c4] 79) ∧ BL w' col' 3 v' 114 123 2 mkA us' ∧ us'.length = us.length + 4 ∧ KG w w' col col' wp 3 lv v := by
  obtain ⟨va, vc, rfl⟩ := hB.row.isSl
  obtain ⟨la, lc, rfl⟩ := hl.isSl
  have hwpl := at_lt hh
  have hvl : ∀ b, InV (.slice va us.length vc) b → col b = 3 ∧ b < w.heap.size := fun b hb => ⟨hB.rowc b hb, hB.row.lt hb⟩
  have hll : ∀ b, InV (.slice la m lc) b → b < w.heap.size := fun b hb => hl.lt hb
  have hnv : ∀ b, InV (.slice va us.length vc) b → b ≠ wp := fun b hb e => by have := (hvl b hb).1; subst e; omega
  refine rets_of Tryz.func116 (by kernel_rfl) rfl Tryz.ntmps116 (Nat.le_of_ble_eq_true rfl) ?_
  refine runG12 ?_
  refine s_val (r_quo rfl rfl (by decide) (by show _ ≤ ((us.length / 4 : Nat) : Int); omega) (by show ((us.length / 4 : Nat) : Int) ≤ _; omega)) wnt_none ?_
  rw [show ((us.length : Nat) : Int).tdiv 4 = ((us.length / 4 : Nat) : Int) from rfl]
  refine runG12 ?_
  refine s_val (r_build rfl (bldB2 _ _)) wnt_none ?_
  refine runG12 ?_
  generalize ha : (-1000 - ((us.length / 4 : Nat) : Int)) = a
  have hmk : mkA (us.length / 4) = Ans.vals ⟨a, false⟩ := by rw [← ha]; rfl
  refine s_skip (r_storeAll (vs := Ans.vals ⟨a, false⟩) (s_ok rfl) rfl rfl (xo2 a) (at_alloc_new w _) rfl) wnt_none ?_
  have hbm := at_setB (cel (Ans.vals ⟨a, false⟩) 123) (at_alloc_new w (cel [I 0, B false] 123))
  have f1 : Frm0 w (setB (w.alloc (cel [I 0, B false] 123)) w.heap.size (cel (Ans.vals ⟨a, false⟩) 123)) := (Frm.of_alloc w _).setB (.inr (Nat.le_refl _)) _
  have hs1 : (setB (w.alloc (cel [I 0, B false] 123)) w.heap.size (cel (Ans.vals ⟨a, false⟩) 123)).heap.size = w.heap.size + 1 := by rw [size_setB, World.size_alloc]
  generalize setB (w.alloc (cel [I 0, B false] 123)) w.heap.size (cel (Ans.vals ⟨a, false⟩) 123) = w1 at *
  have hxl : (Ans.vals ⟨a, false⟩).length = 2 := rfl
  have hxo := xo2 a
  have hnb : ¬ InV (.slice la m lc) w.heap.size := fun h9 => by have := hll _ h9; omega
  have hnw : ¬ InV (.slice la m lc) wp := fun h9 => (hlc _ h9).2 rfl
  refine runG12 ?_
  refine lp (fun env w' => ∃ env0, ∃ i : Nat, env = setL env0 [(0, .pointer (some ⟨wp, 2, none⟩)), (1, .slice la m lc), (4, Ptr w.heap.size), (5, I i)] ∧ i ≤ m ∧ Wrt w' (.slice la m lc) 123 2 m i (Ans.vals ⟨a, false⟩) ∧ Frm (InV (.slice la m lc)) w1 w') (fun env _ => m - cnt (env 5)) ?_ ?_
  · exact ⟨_, 0, fixL ⟨rfl, rfl, rfl, rfl, trivial⟩, by omega, wrt0 (hl.frm f1 (fun _ _ h => h)), Frm.refl _ _⟩
  · rintro env w2 ⟨env0, i, rfl, hi, hW, f2⟩
    have hbm2 := f2.at hnb hbm
    by_cases hlt : i < m
    · rcases hW with ⟨_, h0⟩ | ⟨lb, lcap, L, e9, hL, hLl, hLc, hp⟩
      · omega
      cases e9
      have hle : m * 2 ≤ lc * 2 := Nat.mul_le_mul_right _ hLc
      refine runG12 ?_
      rw [show sub (Ans.vals ⟨a, false⟩) 0 2 = Ans.vals ⟨a, false⟩ from rfl]
      refine s_skip (r_storeA (vs := Ans.vals ⟨a, false⟩) (s_ok rfl) rfl rfl rfl hxo hL (by omega)) wnt_none ?_
      refine runG12 ?_
      refine ⟨_, rfl, ⟨_, i + 1, fixL ⟨rfl, rfl, rfl, rfl, trivial⟩, by omega, .inr ⟨lb, lc, _, rfl, at_setB _ hL, by rw [put_length]; exact hLl, hLc, ?_⟩, f2.setB (b := lb) (.inl ⟨_, _, _, rfl⟩) _⟩, by show m - ((i : Int) + 1).toNat < m - (i : Int).toNat; omega⟩
      have := hp.grow (j := 1) hxl (by decide) (by omega)
      rw [reps1] at this
      rw [show 0 + (i : Int).toNat * 2 = i * 2 by omega]
      exact this
    · have hie : i = m := by omega
      subst hie
      have hK2 := hW.kept (by omega)
      have hh2 := f2.at hnw (f1.at0 hh)
      have s2 := f2.size
      clear hW
      refine runG12 ?_
      rw [show sub (Ans.vals ⟨a, false⟩) 0 2 = Ans.vals ⟨a, false⟩ from rfl]
      refine s_val (r_bs rfl (bsB21 _ _)) wnt_none ?_
      have fa1 : Frm0 w2 (w2.alloc (cel (reps 1 (Ans.vals ⟨a, false⟩)) 123)) := Frm.of_alloc _ _
      have sa1 := fa1.size
      obtain ⟨m1, k1, w4, e1, hU1, hkeep1, g1, n1⟩ := kept_append (P := Tryz.prog) (ty := 114) (sT := 114) (T := 123) (sz := 2) (by' := 16) (n := i) (j := 1) (c := lc) (a := la) (u_ok rfl) (u_ok rfl) (fun kk h => by cases h) (s_ok rfl) (b_ok rfl) (z_ok rfl) rfl (hK2.frm fa1 (fun _ _ h => h)) hxl (by decide) hxo (seg_reps hxl) (by decide) (by decide) (by omega) (by omega)
      have sg1 := g1.size
      have hbm4 := g1.at hnb (fa1.at0 hbm2)
      have hh4 := g1.at hnw (fa1.at0 hh2)
      have hK4 := hkeep1 _ (hK2.frm fa1 (fun _ _ h => h))
      refine s_val (r_app rfl rfl e1) wnt_none ?_
      refine runG12 ?_
      rw [show sub (Ans.vals ⟨a, false⟩) 0 2 = Ans.vals ⟨a, false⟩ from rfl]
      refine s_val (r_bs rfl (bsB22 _ _)) wnt_none ?_
      have fa2 : Frm0 w4 (w4.alloc (cel (reps 2 (Ans.vals ⟨a, false⟩)) 123)) := Frm.of_alloc _ _
      have sa2 := fa2.size
      obtain ⟨m2, k2, w6, e2, hU2, hkeep2, g2, n2⟩ := kept_append (P := Tryz.prog) (ty := 114) (sT := 114) (T := 123) (sz := 2) (by' := 16) (n := i) (j := 2) (c := lc) (a := la) (u_ok rfl) (u_ok rfl) (fun kk h => by cases h) (s_ok rfl) (b_ok rfl) (z_ok rfl) rfl (hK4.frm fa2 (fun _ _ h => h)) hxl (by decide) hxo (seg_reps hxl) (by decide) (by decide) (by omega) (by omega)
      have sg2 := g2.size
      have hbm6 := g2.at hnb (fa2.at0 hbm4)
      have hh6 := g2.at hnw (fa2.at0 hh4)
      have hK6 := hkeep2 _ (hK4.frm fa2 (fun _ _ h => h))
      replace hU1 := hkeep2 _ (hU1.frm fa2 (fun _ _ h => h))
      refine s_val (r_app rfl rfl e2) wnt_none ?_
      refine runG12 ?_
      rw [show sub (Ans.vals ⟨a, false⟩) 0 2 = Ans.vals ⟨a, false⟩ from rfl]
      refine s_val (r_bs rfl (bsB23 _ _)) wnt_none ?_
      have fa3 : Frm0 w6 (w6.alloc (cel (reps 3 (Ans.vals ⟨a, false⟩)) 123)) := Frm.of_alloc _ _
      have sa3 := fa3.size
      obtain ⟨m3, k3, w8, e3, hU3, hkeep3, g3, n3⟩ := kept_append (P := Tryz.prog) (ty := 114) (sT := 114) (T := 123) (sz := 2) (by' := 16) (n := i) (j := 3) (c := lc) (a := la) (u_ok rfl) (u_ok rfl) (fun kk h => by cases h) (s_ok rfl) (b_ok rfl) (z_ok rfl) rfl (hK6.frm fa3 (fun _ _ h => h)) hxl (by decide) hxo (seg_reps hxl) (by decide) (by decide) (by omega) (by omega)
      have sg3 := g3.size
      have hbm8 := g3.at hnb (fa3.at0 hbm6)
      have hh8 := g3.at hnw (fa3.at0 hh6)
      have hK8 := hkeep3 _ (hK6.frm fa3 (fun _ _ h => h))
      replace hU1 := hkeep3 _ (hU1.frm fa3 (fun _ _ h => h))
      replace hU2 := hkeep3 _ (hU2.frm fa3 (fun _ _ h => h))
      refine s_val (r_app rfl rfl e3) wnt_none ?_
      have F8 : Frm (InV (.slice la i lc)) w1 w8 := (((((f2.trans0 fa1).trans g1 (fun b hb => .inl hb)).trans0 fa2).trans g2 (fun b hb => .inl hb)).trans0 fa3).trans g3 (fun b hb => .inl hb)
      have hr8 := (hB.row.frm f1 (fun _ _ h => h)).frm F8 (fun b hb h9 => by have := (hvl b hb).1; have := (hlc b h9).1; omega)
      have hc8 : ∀ b, InV (.slice va us.length vc) b → InV (.slice va us.length vc) b ∨ w8.heap.size ≤ b := fun b hb => .inl hb
      have hz8 : w.heap.size + 1 ≤ w8.heap.size := by omega
      have G8 : Frm (fun b => b = wp ∨ InV (.slice va us.length vc) b ∨ w8.heap.size ≤ b) w8 w8 := Frm.refl _ _
      have sw8 : w8.heap.size ≤ w8.heap.size := Nat.le_refl _
      refine runG12 ?_
      refine s_val (r_bs rfl (bsS2 _ _ _ _)) wnt_none ?_
      have fb0 : Frm0 w8 (w8.alloc (cel [.slice la i lc] 114)) := Frm.of_alloc _ _
      have sb0 := fb0.size
      obtain ⟨p0, q0, y0, ey0, hry0, gy0, ny0⟩ := row_append1 (P := Tryz.prog) (ty := 74) (ssT := 74) (sT := 114) (u := .slice la i lc) (u_ok rfl) (u_ok rfl) (fun kk h => by cases h) (s_ok rfl) (b_ok rfl) (z_ok rfl) rfl (hr8.frm fb0 (fun _ _ h => h)) seg_sl rfl (by omega)
      refine s_val (r_app rfl rfl ey0) wnt_none ?_
      have hno0 : ¬ InV (.slice va us.length vc) wp := fun h9 => by rcases hc8 wp h9 with h8 | h8; exact hnv wp h8 rfl; omega
      have hhy0 := gy0.at hno0 (fb0.at0 hh8)
      have sy0 := gy0.size
      refine runG12 ?_
      refine s_skip (r_store_s (s_ok rfl) rfl rfl hhy0 (by simp)) wnt_none ?_
      rw [show ([c0, c1, c3, .slice va us.length vc, c4] : List Value).set (2 + 1) (.slice p0 (us.length + 1) q0) = [c0, c1, c3, .slice p0 (us.length + 1) q0, c4] from rfl]
      have hh9 := at_setB (cel [c0, c1, c3, .slice p0 (us.length + 1) q0, c4] 79) hhy0
      have hc9 : ∀ b, InV (.slice p0 (us.length + 1) q0) b → InV (.slice va us.length vc) b ∨ w8.heap.size ≤ b := fun b hb => by
        rcases ny0 b hb with h9 | h9
        · exact hc8 b h9
        · exact .inr (by omega)
      have hr9 := hry0.frm (S := fun b => b = wp) ((Frm.refl (fun b => b = wp) y0).setB (b := wp) (.inl rfl) (cel [c0, c1, c3, .slice p0 (us.length + 1) q0, c4] 79)) (fun b hb e => by
        subst e
        rcases hc9 b hb with h9 | h9
        · exact hnv b h9 rfl
        · omega)
      have G9 : Frm (fun b => b = wp ∨ InV (.slice va us.length vc) b ∨ w8.heap.size ≤ b) w8 (setB y0 wp (cel [c0, c1, c3, .slice p0 (us.length + 1) q0, c4] 79)) := ((G8.trans0 fb0).trans gy0 (fun b hb => .inl (.inr (hc8 b hb)))).setB (b := wp) (.inl (.inl rfl)) _
      have sw9 : w8.heap.size ≤ (setB y0 wp (cel [c0, c1, c3, .slice p0 (us.length + 1) q0, c4] 79)).heap.size := by rw [size_setB]; omega
      generalize setB y0 wp (cel [c0, c1, c3, .slice p0 (us.length + 1) q0, c4] 79) = w9 at *
      refine runG12 ?_
      refine s_val (r_bs rfl (bsS2 _ _ _ _)) wnt_none ?_
      have fb1 : Frm0 w9 (w9.alloc (cel [.slice m1 (i + 1) k1] 114)) := Frm.of_alloc _ _
      have sb1 := fb1.size
      obtain ⟨p1, q1, y1, ey1, hry1, gy1, ny1⟩ := row_append1 (P := Tryz.prog) (ty := 74) (ssT := 74) (sT := 114) (u := .slice m1 (i + 1) k1) (u_ok rfl) (u_ok rfl) (fun kk h => by cases h) (s_ok rfl) (b_ok rfl) (z_ok rfl) rfl (hr9.frm fb1 (fun _ _ h => h)) seg_sl rfl (by omega)
      refine s_val (r_app rfl rfl ey1) wnt_none ?_
      have hno1 : ¬ InV (.slice p0 (us.length + 1) q0) wp := fun h9 => by rcases hc9 wp h9 with h8 | h8; exact hnv wp h8 rfl; omega
      have hhy1 := gy1.at hno1 (fb1.at0 hh9)
      have sy1 := gy1.size
      refine runG12 ?_
      refine s_skip (r_store_s (s_ok rfl) rfl rfl hhy1 (by simp)) wnt_none ?_
      rw [show ([c0, c1, c3, .slice p0 (us.length + 1) q0, c4] : List Value).set (2 + 1) (.slice p1 (us.length + 1 + 1) q1) = [c0, c1, c3, .slice p1 (us.length + 1 + 1) q1, c4] from rfl]
      have hh10 := at_setB (cel [c0, c1, c3, .slice p1 (us.length + 1 + 1) q1, c4] 79) hhy1
      have hc10 : ∀ b, InV (.slice p1 (us.length + 1 + 1) q1) b → InV (.slice va us.length vc) b ∨ w8.heap.size ≤ b := fun b hb => by
        rcases ny1 b hb with h9 | h9
        · exact hc9 b h9
        · exact .inr (by omega)
      have hr10 := hry1.frm (S := fun b => b = wp) ((Frm.refl (fun b => b = wp) y1).setB (b := wp) (.inl rfl) (cel [c0, c1, c3, .slice p1 (us.length + 1 + 1) q1, c4] 79)) (fun b hb e => by
        subst e
        rcases hc10 b hb with h9 | h9
        · exact hnv b h9 rfl
        · omega)
      have G10 : Frm (fun b => b = wp ∨ InV (.slice va us.length vc) b ∨ w8.heap.size ≤ b) w8 (setB y1 wp (cel [c0, c1, c3, .slice p1 (us.length + 1 + 1) q1, c4] 79)) := ((G9.trans0 fb1).trans gy1 (fun b hb => .inl (.inr (hc9 b hb)))).setB (b := wp) (.inl (.inl rfl)) _
      have sw10 : w8.heap.size ≤ (setB y1 wp (cel [c0, c1, c3, .slice p1 (us.length + 1 + 1) q1, c4] 79)).heap.size := by rw [size_setB]; omega
      generalize setB y1 wp (cel [c0, c1, c3, .slice p1 (us.length + 1 + 1) q1, c4] 79) = w10 at *
      refine runG12 ?_
      refine s_val (r_bs rfl (bsS2 _ _ _ _)) wnt_none ?_
      have fb2 : Frm0 w10 (w10.alloc (cel [.slice m2 (i + 2) k2] 114)) := Frm.of_alloc _ _
      have sb2 := fb2.size
      obtain ⟨p2, q2, y2, ey2, hry2, gy2, ny2⟩ := row_append1 (P := Tryz.prog) (ty := 74) (ssT := 74) (sT := 114) (u := .slice m2 (i + 2) k2) (u_ok rfl) (u_ok rfl) (fun kk h => by cases h) (s_ok rfl) (b_ok rfl) (z_ok rfl) rfl (hr10.frm fb2 (fun _ _ h => h)) seg_sl rfl (by omega)
      refine s_val (r_app rfl rfl ey2) wnt_none ?_
      have hno2 : ¬ InV (.slice p1 (us.length + 1 + 1) q1) wp := fun h9 => by rcases hc10 wp h9 with h8 | h8; exact hnv wp h8 rfl; omega
      have hhy2 := gy2.at hno2 (fb2.at0 hh10)
      have sy2 := gy2.size
      refine runG12 ?_
      refine s_skip (r_store_s (s_ok rfl) rfl rfl hhy2 (by simp)) wnt_none ?_
      rw [show ([c0, c1, c3, .slice p1 (us.length + 1 + 1) q1, c4] : List Value).set (2 + 1) (.slice p2 (us.length + 1 + 1 + 1) q2) = [c0, c1, c3, .slice p2 (us.length + 1 + 1 + 1) q2, c4] from rfl]
      have hh11 := at_setB (cel [c0, c1, c3, .slice p2 (us.length + 1 + 1 + 1) q2, c4] 79) hhy2
      have hc11 : ∀ b, InV (.slice p2 (us.length + 1 + 1 + 1) q2) b → InV (.slice va us.length vc) b ∨ w8.heap.size ≤ b := fun b hb => by
        rcases ny2 b hb with h9 | h9
        · exact hc10 b h9
        · exact .inr (by omega)
      have hr11 := hry2.frm (S := fun b => b = wp) ((Frm.refl (fun b => b = wp) y2).setB (b := wp) (.inl rfl) (cel [c0, c1, c3, .slice p2 (us.length + 1 + 1 + 1) q2, c4] 79)) (fun b hb e => by
        subst e
        rcases hc11 b hb with h9 | h9
        · exact hnv b h9 rfl
        · omega)
      have G11 : Frm (fun b => b = wp ∨ InV (.slice va us.length vc) b ∨ w8.heap.size ≤ b) w8 (setB y2 wp (cel [c0, c1, c3, .slice p2 (us.length + 1 + 1 + 1) q2, c4] 79)) := ((G10.trans0 fb2).trans gy2 (fun b hb => .inl (.inr (hc10 b hb)))).setB (b := wp) (.inl (.inl rfl)) _
      have sw11 : w8.heap.size ≤ (setB y2 wp (cel [c0, c1, c3, .slice p2 (us.length + 1 + 1 + 1) q2, c4] 79)).heap.size := by rw [size_setB]; omega
      generalize setB y2 wp (cel [c0, c1, c3, .slice p2 (us.length + 1 + 1 + 1) q2, c4] 79) = w11 at *
      refine runG12 ?_
      refine s_val (r_bs rfl (bsS2 _ _ _ _)) wnt_none ?_
      have fb3 : Frm0 w11 (w11.alloc (cel [.slice m3 (i + 3) k3] 114)) := Frm.of_alloc _ _
      have sb3 := fb3.size
      obtain ⟨p3, q3, y3, ey3, hry3, gy3, ny3⟩ := row_append1 (P := Tryz.prog) (ty := 74) (ssT := 74) (sT := 114) (u := .slice m3 (i + 3) k3) (u_ok rfl) (u_ok rfl) (fun kk h => by cases h) (s_ok rfl) (b_ok rfl) (z_ok rfl) rfl (hr11.frm fb3 (fun _ _ h => h)) seg_sl rfl (by omega)
      refine s_val (r_app rfl rfl ey3) wnt_none ?_
      have hno3 : ¬ InV (.slice p2 (us.length + 1 + 1 + 1) q2) wp := fun h9 => by rcases hc11 wp h9 with h8 | h8; exact hnv wp h8 rfl; omega
      have hhy3 := gy3.at hno3 (fb3.at0 hh11)
      have sy3 := gy3.size
      refine runG12 ?_
      refine s_skip (r_store_s (s_ok rfl) rfl rfl hhy3 (by simp)) wnt_none ?_
      rw [show ([c0, c1, c3, .slice p2 (us.length + 1 + 1 + 1) q2, c4] : List Value).set (2 + 1) (.slice p3 (us.length + 1 + 1 + 1 + 1) q3) = [c0, c1, c3, .slice p3 (us.length + 1 + 1 + 1 + 1) q3, c4] from rfl]
      have hh12 := at_setB (cel [c0, c1, c3, .slice p3 (us.length + 1 + 1 + 1 + 1) q3, c4] 79) hhy3
      have hc12 : ∀ b, InV (.slice p3 (us.length + 1 + 1 + 1 + 1) q3) b → InV (.slice va us.length vc) b ∨ w8.heap.size ≤ b := fun b hb => by
        rcases ny3 b hb with h9 | h9
        · exact hc11 b h9
        · exact .inr (by omega)
      have hr12 := hry3.frm (S := fun b => b = wp) ((Frm.refl (fun b => b = wp) y3).setB (b := wp) (.inl rfl) (cel [c0, c1, c3, .slice p3 (us.length + 1 + 1 + 1 + 1) q3, c4] 79)) (fun b hb e => by
        subst e
        rcases hc12 b hb with h9 | h9
        · exact hnv b h9 rfl
        · omega)
      have G12 : Frm (fun b => b = wp ∨ InV (.slice va us.length vc) b ∨ w8.heap.size ≤ b) w8 (setB y3 wp (cel [c0, c1, c3, .slice p3 (us.length + 1 + 1 + 1 + 1) q3, c4] 79)) := ((G11.trans0 fb3).trans gy3 (fun b hb => .inl (.inr (hc11 b hb)))).setB (b := wp) (.inl (.inl rfl)) _
      have sw12 : w8.heap.size ≤ (setB y3 wp (cel [c0, c1, c3, .slice p3 (us.length + 1 + 1 + 1 + 1) q3, c4] 79)).heap.size := by rw [size_setB]; omega
      generalize setB y3 wp (cel [c0, c1, c3, .slice p3 (us.length + 1 + 1 + 1 + 1) q3, c4] 79) = w12 at *
      refine runG12 ?_
      obtain ⟨cn, cA, cB, cC⟩ : ∃ cn : Nat → Nat, (∀ b, InV (.slice la i lc) b ∨ (w.heap.size ≤ b ∧ b < w8.heap.size) → cn b = 5) ∧ (∀ b, ¬ (InV (.slice la i lc) b ∨ (w.heap.size ≤ b ∧ b < w8.heap.size)) → w8.heap.size ≤ b ∧ b < w12.heap.size → cn b = 3) ∧ (∀ b, ¬ (InV (.slice la i lc) b ∨ (w.heap.size ≤ b ∧ b < w8.heap.size)) → ¬ (w8.heap.size ≤ b ∧ b < w12.heap.size) → cn b = col b) := by
        classical
        exact ⟨fun b => if InV (.slice la i lc) b ∨ (w.heap.size ≤ b ∧ b < w8.heap.size) then 5 else if w8.heap.size ≤ b ∧ b < w12.heap.size then 3 else col b, fun b h => if_pos h, fun b h h2 => by show (if _ then _ else _) = _; rw [if_neg h, if_pos h2], fun b h h2 => by show (if _ then _ else _) = _; rw [if_neg h, if_neg h2]⟩
      have hcol : ∀ b, b < w.heap.size → ¬ InV (.slice la i lc) b → cn b = col b := fun b h1 h2 => cC b (by rintro (h3 | h3); exact h2 h3; omega) (by omega)
      have hU0 := hK8
      have hlz : ∀ b, InV (.slice la i lc) b → b < w8.heap.size := fun b hb => by have := hll b hb; omega
      have hn1 : ∀ b, InV (.slice m1 (i + 1) k1) b → InV (.slice la i lc) b ∨ w.heap.size ≤ b := fun b hb => (n1 b hb).imp id (fun h => by omega)
      have hn2 : ∀ b, InV (.slice m2 (i + 2) k2) b → InV (.slice la i lc) b ∨ w.heap.size ≤ b := fun b hb => (n2 b hb).imp id (fun h => by omega)
      have hn3 : ∀ b, InV (.slice m3 (i + 3) k3) b → InV (.slice la i lc) b ∨ w.heap.size ≤ b := fun b hb => (n3 b hb).imp id (fun h => by omega)
      have fin : ∀ u, Kept w8 u 123 2 (Ans.vals ⟨a, false⟩) → (∀ b, InV u b → InV (.slice la i lc) b ∨ w.heap.size ≤ b) → Kept w12 u 123 2 (mkA (us.length / 4)) ∧ ∀ b, InV u b → cn b = 5 := fun u hu hb => by
        rw [hmk]
        refine ⟨hu.frm G12 (fun b h1 h2 => ?_), fun b h1 => ?_⟩
        · have h3 := hu.lt h1
          rcases hb b h1 with h4 | h4
          · rcases h2 with h5 | h5 | h5
            · exact (hlc b h4).2 h5
            · have := (hvl b h5).1; have := (hlc b h4).1; omega
            · omega
          · rcases h2 with h5 | h5 | h5
            · omega
            · have := (hvl b h5).2; omega
            · omega
        · have h3 := hu.lt h1
          exact cA b ((hb b h1).imp id (fun h => ⟨h, h3⟩))
      have hlen : (us ++ [(.slice la i lc : Value)] ++ [(.slice m1 (i + 1) k1 : Value)] ++ [(.slice m2 (i + 2) k2 : Value)] ++ [(.slice m3 (i + 3) k3 : Value)]).length = us.length + 1 + 1 + 1 + 1 := by simp
      refine end_0 rfl ⟨_, us ++ [.slice la i lc] ++ [.slice m1 (i + 1) k1] ++ [.slice m2 (i + 2) k2] ++ [.slice m3 (i + 3) k3], cn, hh12, ⟨?_, ?_, ?_, ?_⟩, by rw [hlen], ⟨hcol, fun b hb => cA b (.inl hb), ?_, ?_, ?_⟩⟩
      · rw [hlen]
        exact hr12
      · have := hB.four
        rw [hlen]
        omega
      · intro b hb
        have h2 := hr12.lt hb
        rcases hc12 b hb with h1 | h1
        · rw [hcol b (hvl b h1).2 (fun h3 => by have := (hlc b h3).1; have := (hvl b h1).1; omega)]
          exact (hvl b h1).1
        · exact cB b (by rintro (h3 | h3); have := hlz b h3; omega; omega) ⟨h1, h2⟩
      · intro q u hq
        by_cases hqu : q < us.length
        · have hq' : us[q]? = some u := by
            simp only [List.append_assoc] at hq
            rw [List.getElem?_append_left hqu] at hq
            exact hq
          obtain ⟨h1, h2⟩ := hB.each q u hq'
          have hk8 : Kept w12 u 123 2 (mkA (q / 4)) := ((h1.frm f1 (fun _ _ h => h)).frm F8 (fun b hb h9 => by have := h2 b hb; have := (hlc b h9).1; omega)).frm G12 (fun b hb h9 => by
            have h3 := h2 b hb
            have h4 := h1.lt hb
            rcases h9 with h5 | h5 | h5
            · subst h5; omega
            · have := (hvl b h5).1; omega
            · omega)
          refine ⟨hk8, fun b hb => ?_⟩
          rw [hcol b (h1.lt hb) (fun h3 => by have := (hlc b h3).1; have := h2 b hb; omega)]
          exact h2 b hb
        · have h4 := hB.four
          have hql : q < us.length + 4 := by
            have := (List.getElem?_eq_some_iff.1 hq).1
            rw [hlen] at this
            omega
          have hq4 : q / 4 = us.length / 4 := by omega
          rw [hq4]
          simp only [List.append_assoc] at hq
          rw [List.getElem?_append_right (by omega)] at hq
          rcases (show q - us.length = 0 ∨ q - us.length = 1 ∨ q - us.length = 2 ∨ q - us.length = 3 by omega) with h5 | h5 | h5 | h5
          · rw [h5] at hq; cases hq; exact fin _ hU0 (fun b hb => .inl hb)
          · rw [h5] at hq; cases hq; exact fin _ hU1 hn1
          · rw [h5] at hq; cases hq; exact fin _ hU2 hn2
          · rw [h5] at hq; cases hq; exact fin _ hU3 hn3
      · intro b hb
        by_cases h1 : b < w8.heap.size
        · right; right; exact cA b (.inr ⟨hb, h1⟩)
        · by_cases h2 : b < w12.heap.size
          · right; left; exact cB b (by rintro (h3 | h3); have := hlz b h3; omega; omega) ⟨by omega, h2⟩
          · left; rw [cC b (by rintro (h3 | h3); have := hlz b h3; omega; omega) (by omega)]; exact hhi b hb
      · intro b hb
        rw [cC b (by rintro (h3 | h3); have := hlz b h3; omega; omega) (by omega)]
        exact hhi b (by omega)
      · refine ((f1.mono (fun _ h => h.elim)).trans F8 (fun b hb => .inl (.inr (.inl hb)))).trans G12 (fun b hb => ?_)
        rcases hb with h1 | h1 | h1
        · exact .inl (.inl h1)
        · exact .inl (.inr (.inr h1))
        · exact .inr (by omega)
end Go.Proofs.YtbicffldggcdhaaGreatDoor

namespace Go.Proofs.YtbicffldggcdhaaGreatDoor
open Go

theorem bldB3 (a : Int) (w : World) : (Instr.build 54 [(0, I a)].toArray).run Tryz.prog w = .ok (.agg (Ent.vals ⟨a, 0, ed0, false⟩).toArray) w := by kernel_rfl
theorem bsB31 (a : Int) (w : World) : (Instr.buildSlice 46 1 [(0, .agg (Ent.vals ⟨a, 0, ed0, false⟩).toArray)].toArray).run Tryz.prog w = .ok (.slice (some ⟨w.heap.size, 0, none⟩) 1 1) (w.alloc (cel (reps 1 (Ent.vals ⟨a, 0, ed0, false⟩)) 54)) := by kernel_rfl
theorem bsB32 (a : Int) (w : World) : (Instr.buildSlice 46 2 [(0, .agg (Ent.vals ⟨a, 0, ed0, false⟩).toArray), (1, .agg (Ent.vals ⟨a, 0, ed0, false⟩).toArray)].toArray).run Tryz.prog w = .ok (.slice (some ⟨w.heap.size, 0, none⟩) 2 2) (w.alloc (cel (reps 2 (Ent.vals ⟨a, 0, ed0, false⟩)) 54)) := by kernel_rfl
theorem bsB33 (a : Int) (w : World) : (Instr.buildSlice 46 3 [(0, .agg (Ent.vals ⟨a, 0, ed0, false⟩).toArray), (1, .agg (Ent.vals ⟨a, 0, ed0, false⟩).toArray), (2, .agg (Ent.vals ⟨a, 0, ed0, false⟩).toArray)].toArray).run Tryz.prog w = .ok (.slice (some ⟨w.heap.size, 0, none⟩) 3 3) (w.alloc (cel (reps 3 (Ent.vals ⟨a, 0, ed0, false⟩)) 54)) := by kernel_rfl
theorem bsS3 (a : Option Addr) (n c : Nat) (w : World) : (Instr.buildSlice 75 1 [(0, .slice a n c)].toArray).run Tryz.prog w = .ok (.slice (some ⟨w.heap.size, 0, none⟩) 1 1) (w.alloc (cel [.slice a n c] 46)) := by kernel_rfl
theorem xo3 (a : Int) : ∀ u ∈ Ent.vals ⟨a, 0, ed0, false⟩, one u = true := ent_one _
set_option maxRecDepth 4000 in
set_option maxHeartbeats 2000000 in
theorem keepsEntries_ret {w : World} {wp m : Nat} {c0 c1 v c3 c4 lv : Value} {us pre : List Value} {col : Nat → Nat} (hh : At w wp (cel [c0, c1, c3, c4, v] 79)) (hB : BL w col 4 v 46 54 9 mkN us) (hl : Row w lv 54 9 m pre) (hlc : ∀ b, InV lv b → col b = 0 ∧ b ≠ wp) (hm : m < 1000000) (hus : us.length < 7290000000000) (hhi : ∀ b, w.heap.size ≤ b → col b = 0) (hwp : col wp = 0) :
    Rets Tryz.prog 95 [.pointer (some ⟨wp, 2, none⟩), lv] w fun _ w' => ∃ v' us' col', At w' wp (cel [c0, c1, c3, c4, v'] 79) ∧ BL w' col' 4 v' 46 54 9 mkN us' ∧ us'.length = us.length + 4 ∧ KG w w' col col' wp 4 lv v := by
  obtain ⟨va, vc, rfl⟩ := hB.row.isSl
  obtain ⟨la, lc, rfl⟩ := hl.isSl
  have hwpl := at_lt hh
  have hvl : ∀ b, InV (.slice va us.length vc) b → col b = 4 ∧ b < w.heap.size := fun b hb => ⟨hB.rowc b hb, hB.row.lt hb⟩
  have hll : ∀ b, InV (.slice la m lc) b → b < w.heap.size := fun b hb => hl.lt hb
  have hnv : ∀ b, InV (.slice va us.length vc) b → b ≠ wp := fun b hb e => by have := (hvl b hb).1; subst e; omega
  refine rets_of Tryz.func95 (by kernel_rfl) rfl Tryz.ntmps95 (Nat.le_of_ble_eq_true rfl) ?_
  refine runG12 ?_
  refine s_val (r_quo rfl rfl (by decide) (by show _ ≤ ((us.length / 4 : Nat) : Int); omega) (by show ((us.length / 4 : Nat) : Int) ≤ _; omega)) wnt_none ?_
  rw [show ((us.length : Nat) : Int).tdiv 4 = ((us.length / 4 : Nat) : Int) from rfl]
  refine runG12 ?_
  refine s_val (r_build rfl (bldB3 _ _)) wnt_none ?_
  refine runG12 ?_
  generalize ha : (-1000 - ((us.length / 4 : Nat) : Int)) = a
  have hmk : mkN (us.length / 4) = Ent.vals ⟨a, 0, ed0, false⟩ := by rw [← ha]; rfl
  refine s_skip (r_storeAll (vs := Ent.vals ⟨a, 0, ed0, false⟩) (s_ok rfl) rfl rfl (xo3 a) (at_alloc_new w _) rfl) wnt_none ?_
  have hbm := at_setB (cel (Ent.vals ⟨a, 0, ed0, false⟩) 54) (at_alloc_new w (cel [I 0, I 0, I 0, I 0, I 0, I 0, I 0, I 0, B false] 54))
  have f1 : Frm0 w (setB (w.alloc (cel [I 0, I 0, I 0, I 0, I 0, I 0, I 0, I 0, B false] 54)) w.heap.size (cel (Ent.vals ⟨a, 0, ed0, false⟩) 54)) := (Frm.of_alloc w _).setB (.inr (Nat.le_refl _)) _
  have hs1 : (setB (w.alloc (cel [I 0, I 0, I 0, I 0, I 0, I 0, I 0, I 0, B false] 54)) w.heap.size (cel (Ent.vals ⟨a, 0, ed0, false⟩) 54)).heap.size = w.heap.size + 1 := by rw [size_setB, World.size_alloc]
  generalize setB (w.alloc (cel [I 0, I 0, I 0, I 0, I 0, I 0, I 0, I 0, B false] 54)) w.heap.size (cel (Ent.vals ⟨a, 0, ed0, false⟩) 54) = w1 at *
  have hxl : (Ent.vals ⟨a, 0, ed0, false⟩).length = 9 := rfl
  have hxo := xo3 a
  have hnb : ¬ InV (.slice la m lc) w.heap.size := fun h9 => by have := hll _ h9; omega
  have hnw : ¬ InV (.slice la m lc) wp := fun h9 => (hlc _ h9).2 rfl
  refine runG12 ?_
  refine lp (fun env w' => ∃ env0, ∃ i : Nat, env = setL env0 [(0, .pointer (some ⟨wp, 2, none⟩)), (1, .slice la m lc), (4, Ptr w.heap.size), (5, I i)] ∧ i ≤ m ∧ Wrt w' (.slice la m lc) 54 9 m i (Ent.vals ⟨a, 0, ed0, false⟩) ∧ Frm (InV (.slice la m lc)) w1 w') (fun env _ => m - cnt (env 5)) ?_ ?_
  · exact ⟨_, 0, fixL ⟨rfl, rfl, rfl, rfl, trivial⟩, by omega, wrt0 (hl.frm f1 (fun _ _ h => h)), Frm.refl _ _⟩
  · rintro env w2 ⟨env0, i, rfl, hi, hW, f2⟩
    have hbm2 := f2.at hnb hbm
    by_cases hlt : i < m
    · rcases hW with ⟨_, h0⟩ | ⟨lb, lcap, L, e9, hL, hLl, hLc, hp⟩
      · omega
      cases e9
      have hle : m * 9 ≤ lc * 9 := Nat.mul_le_mul_right _ hLc
      refine runG12 ?_
      rw [show sub (Ent.vals ⟨a, 0, ed0, false⟩) 0 9 = Ent.vals ⟨a, 0, ed0, false⟩ from rfl]
      refine s_skip (r_storeA (vs := Ent.vals ⟨a, 0, ed0, false⟩) (s_ok rfl) rfl rfl rfl hxo hL (by omega)) wnt_none ?_
      refine runG12 ?_
      refine ⟨_, rfl, ⟨_, i + 1, fixL ⟨rfl, rfl, rfl, rfl, trivial⟩, by omega, .inr ⟨lb, lc, _, rfl, at_setB _ hL, by rw [put_length]; exact hLl, hLc, ?_⟩, f2.setB (b := lb) (.inl ⟨_, _, _, rfl⟩) _⟩, by show m - ((i : Int) + 1).toNat < m - (i : Int).toNat; omega⟩
      have := hp.grow (j := 1) hxl (by decide) (by omega)
      rw [reps1] at this
      rw [show 0 + (i : Int).toNat * 9 = i * 9 by omega]
      exact this
    · have hie : i = m := by omega
      subst hie
      have hK2 := hW.kept (by omega)
      have hh2 := f2.at hnw (f1.at0 hh)
      have s2 := f2.size
      clear hW
      refine runG12 ?_
      rw [show sub (Ent.vals ⟨a, 0, ed0, false⟩) 0 9 = Ent.vals ⟨a, 0, ed0, false⟩ from rfl]
      refine s_val (r_bs rfl (bsB31 _ _)) wnt_none ?_
      have fa1 : Frm0 w2 (w2.alloc (cel (reps 1 (Ent.vals ⟨a, 0, ed0, false⟩)) 54)) := Frm.of_alloc _ _
      have sa1 := fa1.size
      obtain ⟨m1, k1, w4, e1, hU1, hkeep1, g1, n1⟩ := kept_append (P := Tryz.prog) (ty := 46) (sT := 46) (T := 54) (sz := 9) (by' := 72) (n := i) (j := 1) (c := lc) (a := la) (u_ok rfl) (u_ok rfl) (fun kk h => by cases h) (s_ok rfl) (b_ok rfl) (z_ok rfl) rfl (hK2.frm fa1 (fun _ _ h => h)) hxl (by decide) hxo (seg_reps hxl) (by decide) (by decide) (by omega) (by omega)
      have sg1 := g1.size
      have hbm4 := g1.at hnb (fa1.at0 hbm2)
      have hh4 := g1.at hnw (fa1.at0 hh2)
      have hK4 := hkeep1 _ (hK2.frm fa1 (fun _ _ h => h))
      refine s_val (r_app rfl rfl e1) wnt_none ?_
      refine runG12 ?_
      rw [show sub (Ent.vals ⟨a, 0, ed0, false⟩) 0 9 = Ent.vals ⟨a, 0, ed0, false⟩ from rfl]
      refine s_val (r_bs rfl (bsB32 _ _)) wnt_none ?_
      have fa2 : Frm0 w4 (w4.alloc (cel (reps 2 (Ent.vals ⟨a, 0, ed0, false⟩)) 54)) := Frm.of_alloc _ _
      have sa2 := fa2.size
      obtain ⟨m2, k2, w6, e2, hU2, hkeep2, g2, n2⟩ := kept_append (P := Tryz.prog) (ty := 46) (sT := 46) (T := 54) (sz := 9) (by' := 72) (n := i) (j := 2) (c := lc) (a := la) (u_ok rfl) (u_ok rfl) (fun kk h => by cases h) (s_ok rfl) (b_ok rfl) (z_ok rfl) rfl (hK4.frm fa2 (fun _ _ h => h)) hxl (by decide) hxo (seg_reps hxl) (by decide) (by decide) (by omega) (by omega)
      have sg2 := g2.size
      have hbm6 := g2.at hnb (fa2.at0 hbm4)
      have hh6 := g2.at hnw (fa2.at0 hh4)
      have hK6 := hkeep2 _ (hK4.frm fa2 (fun _ _ h => h))
      replace hU1 := hkeep2 _ (hU1.frm fa2 (fun _ _ h => h))
      refine s_val (r_app rfl rfl e2) wnt_none ?_
      refine runG12 ?_
      rw [show sub (Ent.vals ⟨a, 0, ed0, false⟩) 0 9 = Ent.vals ⟨a, 0, ed0, false⟩ from rfl]
      refine s_val (r_bs rfl (bsB33 _ _)) wnt_none ?_
      have fa3 : Frm0 w6 (w6.alloc (cel (reps 3 (Ent.vals ⟨a, 0, ed0, false⟩)) 54)) := Frm.of_alloc _ _
      have sa3 := fa3.size
      obtain ⟨m3, k3, w8, e3, hU3, hkeep3, g3, n3⟩ := kept_append (P := Tryz.prog) (ty := 46) (sT := 46) (T := 54) (sz := 9) (by' := 72) (n := i) (j := 3) (c := lc) (a := la) (u_ok rfl) (u_ok rfl) (fun kk h => by cases h) (s_ok rfl) (b_ok rfl) (z_ok rfl) rfl (hK6.frm fa3 (fun _ _ h => h)) hxl (by decide) hxo (seg_reps hxl) (by decide) (by decide) (by omega) (by omega)
      have sg3 := g3.size
      have hbm8 := g3.at hnb (fa3.at0 hbm6)
      have hh8 := g3.at hnw (fa3.at0 hh6)
      have hK8 := hkeep3 _ (hK6.frm fa3 (fun _ _ h => h))
      replace hU1 := hkeep3 _ (hU1.frm fa3 (fun _ _ h => h))
      replace hU2 := hkeep3 _ (hU2.frm fa3 (fun _ _ h => h))
      refine s_val (r_app rfl rfl e3) wnt_none ?_
      have F8 : Frm (InV (.slice la i lc)) w1 w8 := (((((f2.trans0 fa1).trans g1 (fun b hb => .inl hb)).trans0 fa2).trans g2 (fun b hb => .inl hb)).trans0 fa3).trans g3 (fun b hb => .inl hb)
      have hr8 := (hB.row.frm f1 (fun _ _ h => h)).frm F8 (fun b hb h9 => by have := (hvl b hb).1; have := (hlc b h9).1; omega)
      have hc8 : ∀ b, InV (.slice va us.length vc) b → InV (.slice va us.length vc) b ∨ w8.heap.size ≤ b := fun b hb => .inl hb
      have hz8 : w.heap.size + 1 ≤ w8.heap.size := by omega
      have G8 : Frm (fun b => b = wp ∨ InV (.slice va us.length vc) b ∨ w8.heap.size ≤ b) w8 w8 := Frm.refl _ _
      have sw8 : w8.heap.size ≤ w8.heap.size := Nat.le_refl _
      refine runG12 ?_
      refine s_val (r_bs rfl (bsS3 _ _ _ _)) wnt_none ?_
      have fb0 : Frm0 w8 (w8.alloc (cel [.slice la i lc] 46)) := Frm.of_alloc _ _
      have sb0 := fb0.size
      obtain ⟨p0, q0, y0, ey0, hry0, gy0, ny0⟩ := row_append1 (P := Tryz.prog) (ty := 75) (ssT := 75) (sT := 46) (u := .slice la i lc) (u_ok rfl) (u_ok rfl) (fun kk h => by cases h) (s_ok rfl) (b_ok rfl) (z_ok rfl) rfl (hr8.frm fb0 (fun _ _ h => h)) seg_sl rfl (by omega)
      refine s_val (r_app rfl rfl ey0) wnt_none ?_
      have hno0 : ¬ InV (.slice va us.length vc) wp := fun h9 => by rcases hc8 wp h9 with h8 | h8; exact hnv wp h8 rfl; omega
      have hhy0 := gy0.at hno0 (fb0.at0 hh8)
      have sy0 := gy0.size
      refine runG12 ?_
      refine s_skip (r_store_s (s_ok rfl) rfl rfl hhy0 (by simp)) wnt_none ?_
      rw [show ([c0, c1, c3, c4, .slice va us.length vc] : List Value).set (2 + 2) (.slice p0 (us.length + 1) q0) = [c0, c1, c3, c4, .slice p0 (us.length + 1) q0] from rfl]
      have hh9 := at_setB (cel [c0, c1, c3, c4, .slice p0 (us.length + 1) q0] 79) hhy0
      have hc9 : ∀ b, InV (.slice p0 (us.length + 1) q0) b → InV (.slice va us.length vc) b ∨ w8.heap.size ≤ b := fun b hb => by
        rcases ny0 b hb with h9 | h9
        · exact hc8 b h9
        · exact .inr (by omega)
      have hr9 := hry0.frm (S := fun b => b = wp) ((Frm.refl (fun b => b = wp) y0).setB (b := wp) (.inl rfl) (cel [c0, c1, c3, c4, .slice p0 (us.length + 1) q0] 79)) (fun b hb e => by
        subst e
        rcases hc9 b hb with h9 | h9
        · exact hnv b h9 rfl
        · omega)
      have G9 : Frm (fun b => b = wp ∨ InV (.slice va us.length vc) b ∨ w8.heap.size ≤ b) w8 (setB y0 wp (cel [c0, c1, c3, c4, .slice p0 (us.length + 1) q0] 79)) := ((G8.trans0 fb0).trans gy0 (fun b hb => .inl (.inr (hc8 b hb)))).setB (b := wp) (.inl (.inl rfl)) _
      have sw9 : w8.heap.size ≤ (setB y0 wp (cel [c0, c1, c3, c4, .slice p0 (us.length + 1) q0] 79)).heap.size := by rw [size_setB]; omega
      generalize setB y0 wp (cel [c0, c1, c3, c4, .slice p0 (us.length + 1) q0] 79) = w9 at *
      refine runG12 ?_
      refine s_val (r_bs rfl (bsS3 _ _ _ _)) wnt_none ?_
      have fb1 : Frm0 w9 (w9.alloc (cel [.slice m1 (i + 1) k1] 46)) := Frm.of_alloc _ _
      have sb1 := fb1.size
      obtain ⟨p1, q1, y1, ey1, hry1, gy1, ny1⟩ := row_append1 (P := Tryz.prog) (ty := 75) (ssT := 75) (sT := 46) (u := .slice m1 (i + 1) k1) (u_ok rfl) (u_ok rfl) (fun kk h => by cases h) (s_ok rfl) (b_ok rfl) (z_ok rfl) rfl (hr9.frm fb1 (fun _ _ h => h)) seg_sl rfl (by omega)
      refine s_val (r_app rfl rfl ey1) wnt_none ?_
      have hno1 : ¬ InV (.slice p0 (us.length + 1) q0) wp := fun h9 => by rcases hc9 wp h9 with h8 | h8; exact hnv wp h8 rfl; omega
      have hhy1 := gy1.at hno1 (fb1.at0 hh9)
      have sy1 := gy1.size
      refine runG12 ?_
      refine s_skip (r_store_s (s_ok rfl) rfl rfl hhy1 (by simp)) wnt_none ?_
      rw [show ([c0, c1, c3, c4, .slice p0 (us.length + 1) q0] : List Value).set (2 + 2) (.slice p1 (us.length + 1 + 1) q1) = [c0, c1, c3, c4, .slice p1 (us.length + 1 + 1) q1] from rfl]
      have hh10 := at_setB (cel [c0, c1, c3, c4, .slice p1 (us.length + 1 + 1) q1] 79) hhy1
      have hc10 : ∀ b, InV (.slice p1 (us.length + 1 + 1) q1) b → InV (.slice va us.length vc) b ∨ w8.heap.size ≤ b := fun b hb => by
        rcases ny1 b hb with h9 | h9
        · exact hc9 b h9
        · exact .inr (by omega)
      have hr10 := hry1.frm (S := fun b => b = wp) ((Frm.refl (fun b => b = wp) y1).setB (b := wp) (.inl rfl) (cel [c0, c1, c3, c4, .slice p1 (us.length + 1 + 1) q1] 79)) (fun b hb e => by
        subst e
        rcases hc10 b hb with h9 | h9
        · exact hnv b h9 rfl
        · omega)
      have G10 : Frm (fun b => b = wp ∨ InV (.slice va us.length vc) b ∨ w8.heap.size ≤ b) w8 (setB y1 wp (cel [c0, c1, c3, c4, .slice p1 (us.length + 1 + 1) q1] 79)) := ((G9.trans0 fb1).trans gy1 (fun b hb => .inl (.inr (hc9 b hb)))).setB (b := wp) (.inl (.inl rfl)) _
      have sw10 : w8.heap.size ≤ (setB y1 wp (cel [c0, c1, c3, c4, .slice p1 (us.length + 1 + 1) q1] 79)).heap.size := by rw [size_setB]; omega
      generalize setB y1 wp (cel [c0, c1, c3, c4, .slice p1 (us.length + 1 + 1) q1] 79) = w10 at *
      refine runG12 ?_
      refine s_val (r_bs rfl (bsS3 _ _ _ _)) wnt_none ?_
      have fb2 : Frm0 w10 (w10.alloc (cel [.slice m2 (i + 2) k2] 46)) := Frm.of_alloc _ _
      have sb2 := fb2.size
      obtain ⟨p2, q2, y2, ey2, hry2, gy2, ny2⟩ := row_append1 (P := Tryz.prog) (ty := 75) (ssT := 75) (sT := 46) (u := .slice m2 (i + 2) k2) (u_ok rfl) (u_ok rfl) (fun kk h => by cases h) (s_ok rfl) (b_ok rfl) (z_ok rfl) rfl (hr10.frm fb2 (fun _ _ h => h)) seg_sl rfl (by omega)
      refine s_val (r_app rfl rfl ey2) wnt_none ?_
      have hno2 : ¬ InV (.slice p1 (us.length + 1 + 1) q1) wp := fun h9 => by rcases hc10 wp h9 with h8 | h8; exact hnv wp h8 rfl; omega
      have hhy2 := gy2.at hno2 (fb2.at0 hh10)
      have sy2 := gy2.size
      refine runG12 ?_
      refine s_skip (r_store_s (s_ok rfl) rfl rfl hhy2 (by simp)) wnt_none ?_
      rw [show ([c0, c1, c3, c4, .slice p1 (us.length + 1 + 1) q1] : List Value).set (2 + 2) (.slice p2 (us.length + 1 + 1 + 1) q2) = [c0, c1, c3, c4, .slice p2 (us.length + 1 + 1 + 1) q2] from rfl]
      have hh11 := at_setB (cel [c0, c1, c3, c4, .slice p2 (us.length + 1 + 1 + 1) q2] 79) hhy2
      have hc11 : ∀ b, InV (.slice p2 (us.length + 1 + 1 + 1) q2) b → InV (.slice va us.length vc) b ∨ w8.heap.size ≤ b := fun b hb => by
        rcases ny2 b hb with h9 | h9
        · exact hc10 b h9
        · exact .inr (by omega)
      have hr11 := hry2.frm (S := fun b => b = wp) ((Frm.refl (fun b => b = wp) y2).setB (b := wp) (.inl rfl) (cel [c0, c1, c3, c4, .slice p2 (us.length + 1 + 1 + 1) q2] 79)) (fun b hb e => by
        subst e
        rcases hc11 b hb with h9 | h9
        · exact hnv b h9 rfl
        · omega)
      have G11 : Frm (fun b => b = wp ∨ InV (.slice va us.length vc) b ∨ w8.heap.size ≤ b) w8 (setB y2 wp (cel [c0, c1, c3, c4, .slice p2 (us.length + 1 + 1 + 1) q2] 79)) := ((G10.trans0 fb2).trans gy2 (fun b hb => .inl (.inr (hc10 b hb)))).setB (b := wp) (.inl (.inl rfl)) _
      have sw11 : w8.heap.size ≤ (setB y2 wp (cel [c0, c1, c3, c4, .slice p2 (us.length + 1 + 1 + 1) q2] 79)).heap.size := by rw [size_setB]; omega
      generalize setB y2 wp (cel [c0, c1, c3, c4, .slice p2 (us.length + 1 + 1 + 1) q2] 79) = w11 at *
      refine runG12 ?_
      refine s_val (r_bs rfl (bsS3 _ _ _ _)) wnt_none ?_
      have fb3 : Frm0 w11 (w11.alloc (cel [.slice m3 (i + 3) k3] 46)) := Frm.of_alloc _ _
      have sb3 := fb3.size
      obtain ⟨p3, q3, y3, ey3, hry3, gy3, ny3⟩ := row_append1 (P := Tryz.prog) (ty := 75) (ssT := 75) (sT := 46) (u := .slice m3 (i + 3) k3) (u_ok rfl) (u_ok rfl) (fun kk h => by cases h) (s_ok rfl) (b_ok rfl) (z_ok rfl) rfl (hr11.frm fb3 (fun _ _ h => h)) seg_sl rfl (by omega)
      refine s_val (r_app rfl rfl ey3) wnt_none ?_
      have hno3 : ¬ InV (.slice p2 (us.length + 1 + 1 + 1) q2) wp := fun h9 => by rcases hc11 wp h9 with h8 | h8; exact hnv wp h8 rfl; omega
      have hhy3 := gy3.at hno3 (fb3.at0 hh11)
      have sy3 := gy3.size
      refine runG12 ?_
      refine s_skip (r_store_s (s_ok rfl) rfl rfl hhy3 (by simp)) wnt_none ?_
      rw [show ([c0, c1, c3, c4, .slice p2 (us.length + 1 + 1 + 1) q2] : List Value).set (2 + 2) (.slice p3 (us.length + 1 + 1 + 1 + 1) q3) = [c0, c1, c3, c4, .slice p3 (us.length + 1 + 1 + 1 + 1) q3] from rfl]
      have hh12 := at_setB (cel [c0, c1, c3, c4, .slice p3 (us.length + 1 + 1 + 1 + 1) q3] 79) hhy3
      have hc12 : ∀ b, InV (.slice p3 (us.length + 1 + 1 + 1 + 1) q3) b → InV (.slice va us.length vc) b ∨ w8.heap.size ≤ b := fun b hb => by
        rcases ny3 b hb with h9 | h9
        · exact hc11 b h9
        · exact .inr (by omega)
      have hr12 := hry3.frm (S := fun b => b = wp) ((Frm.refl (fun b => b = wp) y3).setB (b := wp) (.inl rfl) (cel [c0, c1, c3, c4, .slice p3 (us.length + 1 + 1 + 1 + 1) q3] 79)) (fun b hb e => by
        subst e
        rcases hc12 b hb with h9 | h9
        · exact hnv b h9 rfl
        · omega)
      have G12 : Frm (fun b => b = wp ∨ InV (.slice va us.length vc) b ∨ w8.heap.size ≤ b) w8 (setB y3 wp (cel [c0, c1, c3, c4, .slice p3 (us.length + 1 + 1 + 1 + 1) q3] 79)) := ((G11.trans0 fb3).trans gy3 (fun b hb => .inl (.inr (hc11 b hb)))).setB (b := wp) (.inl (.inl rfl)) _
      have sw12 : w8.heap.size ≤ (setB y3 wp (cel [c0, c1, c3, c4, .slice p3 (us.length + 1 + 1 + 1 + 1) q3] 79)).heap.size := by rw [size_setB]; omega
      generalize setB y3 wp (cel [c0, c1, c3, c4, .slice p3 (us.length + 1 + 1 + 1 + 1) q3] 79) = w12 at *
      refine runG12 ?_
      obtain ⟨cn, cA, cB, cC⟩ : ∃ cn : Nat → Nat, (∀ b, InV (.slice la i lc) b ∨ (w.heap.size ≤ b ∧ b < w8.heap.size) → cn b = 5) ∧ (∀ b, ¬ (InV (.slice la i lc) b ∨ (w.heap.size ≤ b ∧ b < w8.heap.size)) → w8.heap.size ≤ b ∧ b < w12.heap.size → cn b = 4) ∧ (∀ b, ¬ (InV (.slice la i lc) b ∨ (w.heap.size ≤ b ∧ b < w8.heap.size)) → ¬ (w8.heap.size ≤ b ∧ b < w12.heap.size) → cn b = col b) := by
        classical
        exact ⟨fun b => if InV (.slice la i lc) b ∨ (w.heap.size ≤ b ∧ b < w8.heap.size) then 5 else if w8.heap.size ≤ b ∧ b < w12.heap.size then 4 else col b, fun b h => if_pos h, fun b h h2 => by show (if _ then _ else _) = _; rw [if_neg h, if_pos h2], fun b h h2 => by show (if _ then _ else _) = _; rw [if_neg h, if_neg h2]⟩
      have hcol : ∀ b, b < w.heap.size → ¬ InV (.slice la i lc) b → cn b = col b := fun b h1 h2 => cC b (by rintro (h3 | h3); exact h2 h3; omega) (by omega)
      have hU0 := hK8
      have hlz : ∀ b, InV (.slice la i lc) b → b < w8.heap.size := fun b hb => by have := hll b hb; omega
      have hn1 : ∀ b, InV (.slice m1 (i + 1) k1) b → InV (.slice la i lc) b ∨ w.heap.size ≤ b := fun b hb => (n1 b hb).imp id (fun h => by omega)
      have hn2 : ∀ b, InV (.slice m2 (i + 2) k2) b → InV (.slice la i lc) b ∨ w.heap.size ≤ b := fun b hb => (n2 b hb).imp id (fun h => by omega)
      have hn3 : ∀ b, InV (.slice m3 (i + 3) k3) b → InV (.slice la i lc) b ∨ w.heap.size ≤ b := fun b hb => (n3 b hb).imp id (fun h => by omega)
      have fin : ∀ u, Kept w8 u 54 9 (Ent.vals ⟨a, 0, ed0, false⟩) → (∀ b, InV u b → InV (.slice la i lc) b ∨ w.heap.size ≤ b) → Kept w12 u 54 9 (mkN (us.length / 4)) ∧ ∀ b, InV u b → cn b = 5 := fun u hu hb => by
        rw [hmk]
        refine ⟨hu.frm G12 (fun b h1 h2 => ?_), fun b h1 => ?_⟩
        · have h3 := hu.lt h1
          rcases hb b h1 with h4 | h4
          · rcases h2 with h5 | h5 | h5
            · exact (hlc b h4).2 h5
            · have := (hvl b h5).1; have := (hlc b h4).1; omega
            · omega
          · rcases h2 with h5 | h5 | h5
            · omega
            · have := (hvl b h5).2; omega
            · omega
        · have h3 := hu.lt h1
          exact cA b ((hb b h1).imp id (fun h => ⟨h, h3⟩))
      have hlen : (us ++ [(.slice la i lc : Value)] ++ [(.slice m1 (i + 1) k1 : Value)] ++ [(.slice m2 (i + 2) k2 : Value)] ++ [(.slice m3 (i + 3) k3 : Value)]).length = us.length + 1 + 1 + 1 + 1 := by simp
      refine end_0 rfl ⟨_, us ++ [.slice la i lc] ++ [.slice m1 (i + 1) k1] ++ [.slice m2 (i + 2) k2] ++ [.slice m3 (i + 3) k3], cn, hh12, ⟨?_, ?_, ?_, ?_⟩, by rw [hlen], ⟨hcol, fun b hb => cA b (.inl hb), ?_, ?_, ?_⟩⟩
      · rw [hlen]
        exact hr12
      · have := hB.four
        rw [hlen]
        omega
      · intro b hb
        have h2 := hr12.lt hb
        rcases hc12 b hb with h1 | h1
        · rw [hcol b (hvl b h1).2 (fun h3 => by have := (hlc b h3).1; have := (hvl b h1).1; omega)]
          exact (hvl b h1).1
        · exact cB b (by rintro (h3 | h3); have := hlz b h3; omega; omega) ⟨h1, h2⟩
      · intro q u hq
        by_cases hqu : q < us.length
        · have hq' : us[q]? = some u := by
            simp only [List.append_assoc] at hq
            rw [List.getElem?_append_left hqu] at hq
            exact hq
          obtain ⟨h1, h2⟩ := hB.each q u hq'
          have hk8 : Kept w12 u 54 9 (mkN (q / 4)) := ((h1.frm f1 (fun _ _ h => h)).frm F8 (fun b hb h9 => by have := h2 b hb; have := (hlc b h9).1; omega)).frm G12 (fun b hb h9 => by
            have h3 := h2 b hb
            have h4 := h1.lt hb
            rcases h9 with h5 | h5 | h5
            · subst h5; omega
            · have := (hvl b h5).1; omega
            · omega)
          refine ⟨hk8, fun b hb => ?_⟩
          rw [hcol b (h1.lt hb) (fun h3 => by have := (hlc b h3).1; have := h2 b hb; omega)]
          exact h2 b hb
        · have h4 := hB.four
          have hql : q < us.length + 4 := by
            have := (List.getElem?_eq_some_iff.1 hq).1
            rw [hlen] at this
            omega
          have hq4 : q / 4 = us.length / 4 := by omega
          rw [hq4]
          simp only [List.append_assoc] at hq
          rw [List.getElem?_append_right (by omega)] at hq
          rcases (show q - us.length = 0 ∨ q - us.length = 1 ∨ q - us.length = 2 ∨ q - us.length = 3 by omega) with h5 | h5 | h5 | h5
          · rw [h5] at hq; cases hq; exact fin _ hU0 (fun b hb => .inl hb)
          · rw [h5] at hq; cases hq; exact fin _ hU1 hn1
          · rw [h5] at hq; cases hq; exact fin _ hU2 hn2
          · rw [h5] at hq; cases hq; exact fin _ hU3 hn3
      · intro b hb
        by_cases h1 : b < w8.heap.size
        · right; right; exact cA b (.inr ⟨hb, h1⟩)
        · by_cases h2 : b < w12.heap.size
          · right; left; exact cB b (by rintro (h3 | h3); have := hlz b h3; omega; omega) ⟨by omega, h2⟩
          · left; rw [cC b (by rintro (h3 | h3); have := hlz b h3; omega; omega) (by omega)]; exact hhi b hb
      · intro b hb
        rw [cC b (by rintro (h3 | h3); have := hlz b h3; omega; omega) (by omega)]
        exact hhi b (by omega)
      · refine ((f1.mono (fun _ h => h.elim)).trans F8 (fun b hb => .inl (.inr (.inl hb)))).trans G12 (fun b hb => ?_)
        rcases hb with h1 | h1 | h1
        · exact .inl (.inl h1)
        · exact .inl (.inr (.inr h1))
        · exact .inr (by omega)
end Go.Proofs.YtbicffldggcdhaaGreatDoor

namespace Go.Proofs.YtbicffldggcdhaaGreatDoor
open Go

theorem part_bool {w : World} {cs : List Value} {off : Nat} {v : Value} (h : cs[off]? = some v) : (Go.part 4 cs.toArray off).run Tryz.prog w = .ok v w := by
  simp [Go.part, isAgg, run_underlying Tryz.underlying4, h]
theorem eq_bool {w : World} (d : Nat) (a : Bool) : (Op.equalIn (d + 1) 4 (B a) (B a)).run Tryz.prog w = .ok true w := by
  simp [Op.equalIn, run_underlying Tryz.underlying4]
theorem part_edit (x : Ent) (w : World) : (Go.part 31 x.vals.toArray 2).run Tryz.prog w = .ok (EdV x.e) w := by kernel_rfl
theorem eq_ans {w : World} (d : Nat) (x : Ans) : (Op.equalIn (d + 2) 123 (.agg x.vals.toArray) (.agg x.vals.toArray)).run Tryz.prog w = .ok true w := by
  have p0 : ∀ w : World, (Go.part 3 x.vals.toArray 0).run Tryz.prog w = .ok (I x.seq) w := fun w => part_int rfl
  have p1 : ∀ w : World, (Go.part 4 x.vals.toArray 1).run Tryz.prog w = .ok (B x.done) w := fun w => part_bool rfl
  have e3 : ∀ (a : Int) (w : World), (Op.equalIn (d + 1) 3 (I a) (I a)).run Tryz.prog w = .ok true w := fun a w => eq_int d a
  have e4 : ∀ (a : Bool) (w : World), (Op.equalIn (d + 1) 4 (B a) (B a)).run Tryz.prog w = .ok true w := fun a w => eq_bool d a
  rw [Op.equalIn]
  simp [run_underlying Tryz.underlying123]
  simp only [p0, p1, e3, e4, Result.andThen_ok]
  simp
theorem eq_ent {w : World} (d : Nat) (x : Ent) : (Op.equalIn (d + 3) 54 (.agg x.vals.toArray) (.agg x.vals.toArray)).run Tryz.prog w = .ok true w := by
  have p0 : ∀ w : World, (Go.part 3 x.vals.toArray 0).run Tryz.prog w = .ok (I x.client) w := fun w => part_int rfl
  have p1 : ∀ w : World, (Go.part 3 x.vals.toArray 1).run Tryz.prog w = .ok (I x.seq) w := fun w => part_int rfl
  have p3 : ∀ w : World, (Go.part 4 x.vals.toArray 8).run Tryz.prog w = .ok (B x.done) w := fun w => part_bool rfl
  have e3 : ∀ (a : Int) (w : World), (Op.equalIn (d + 2) 3 (I a) (I a)).run Tryz.prog w = .ok true w := fun a w => eq_int (d + 1) a
  have e4 : ∀ (a : Bool) (w : World), (Op.equalIn (d + 2) 4 (B a) (B a)).run Tryz.prog w = .ok true w := fun a w => eq_bool (d + 1) a
  have e5 : ∀ (e : Ed) (w : World), (Op.equalIn (d + 2) 31 (EdV e) (EdV e)).run Tryz.prog w = .ok true w := fun e w => eq_edit d e
  rw [Op.equalIn]
  simp [run_underlying Tryz.underlying54]
  simp only [p0, p1, p3, part_edit, e3, e4, e5, Result.andThen_ok]
  simp
section
variable {w : World} {ρ : Operand → Value} {d : Option Nat} {t ty2 : Nat} {p : String} {af : Array Edge} {g : Option (Nat × Bool)} {x y : Operand}
theorem r_ne_edit {n : Ed} (hx : ρ x = EdV n) (hy : ρ y = EdV n) : (execOp ρ ⟨d, .binOp .neq 31 x y ty2, t, p, af, g⟩).run Tryz.prog w = .ok (.value (.bool false)) w := by
  refine r_eq2 hx hy (by simp [eqGuard]) ?_
  simp [binOp, Op.equal, Op.maxDepth, eq_edit 9998 n]
theorem r_ne_ans {n : Ans} (hx : ρ x = .agg n.vals.toArray) (hy : ρ y = .agg n.vals.toArray) : (execOp ρ ⟨d, .binOp .neq 123 x y ty2, t, p, af, g⟩).run Tryz.prog w = .ok (.value (.bool false)) w := by
  refine r_eq2 hx hy (by simp [eqGuard]) ?_
  simp [binOp, Op.equal, Op.maxDepth, eq_ans 9998 n]
theorem r_eq_ans {n : Ans} (hx : ρ x = .agg n.vals.toArray) (hy : ρ y = .agg n.vals.toArray) : (execOp ρ ⟨d, .binOp .eql 123 x y ty2, t, p, af, g⟩).run Tryz.prog w = .ok (.value (.bool true)) w := by
  refine r_eq2 hx hy (by simp [eqGuard]) ?_
  simp [binOp, Op.equal, Op.maxDepth, eq_ans 9998 n]
theorem r_ne_ent {n : Ent} (hx : ρ x = .agg n.vals.toArray) (hy : ρ y = .agg n.vals.toArray) : (execOp ρ ⟨d, .binOp .neq 54 x y ty2, t, p, af, g⟩).run Tryz.prog w = .ok (.value (.bool false)) w := by
  refine r_eq2 hx hy (by simp [eqGuard]) ?_
  simp [binOp, Op.equal, Op.maxDepth, eq_ent 9997 n]
theorem r_eq_ent {n : Ent} (hx : ρ x = .agg n.vals.toArray) (hy : ρ y = .agg n.vals.toArray) : (execOp ρ ⟨d, .binOp .eql 54 x y ty2, t, p, af, g⟩).run Tryz.prog w = .ok (.value (.bool true)) w := by
  refine r_eq2 hx hy (by simp [eqGuard]) ?_
  simp [binOp, Op.equal, Op.maxDepth, eq_ent 9997 n]
end
set_option maxRecDepth 4000 in
set_option maxHeartbeats 2000000 in
theorem looks_ret {w : World} {wp : Nat} {c0 c1 e av nv : Value} {es as1 ns : List Value} {col : Nat → Nat} (hh : At w wp (cel [c0, c1, e, av, nv] 79)) (be : BL w col 2 e 26 31 6 mkE es) (ba : BL w col 3 av 114 123 2 mkA as1) (bn : BL w col 4 nv 46 54 9 mkN ns) (l1 : es.length < 7300000000000) (l2 : as1.length < 7300000000000) (l3 : ns.length < 7300000000000) :
    Rets Tryz.prog 38 [.pointer (some ⟨wp, 2, none⟩)] w fun v w' => v = B true ∧ Frm0 w w' := by
  obtain ⟨ea, ec, rfl⟩ := be.row.isSl
  obtain ⟨aa, ac, rfl⟩ := ba.row.isSl
  obtain ⟨na, nc, rfl⟩ := bn.row.isSl
  refine rets_of Tryz.func38 (by kernel_rfl) rfl Tryz.ntmps38 (Nat.le_of_ble_eq_true rfl) ?_
  refine runG12 ?_
  refine lp (fun env w' => Frm0 w w' ∧ ∃ env0, ∃ i : Nat, env = setL env0 [(0, .pointer (some ⟨wp, 2, none⟩)), (3, I i)] ∧ i ≤ es.length) (fun env _ => es.length - cnt (env 3)) ?_ ?_
  · exact ⟨Frm.refl _ _, _, 0, fixL ⟨rfl, rfl, trivial⟩, by omega⟩
  · rintro env w1 ⟨f1, env1, i, rfl, hi⟩
    have hh1 := f1.at0 hh
    by_cases hlt : i < es.length
    · obtain ⟨u, hu⟩ : ∃ u, es[i]? = some u := ⟨_, List.getElem?_eq_getElem hlt⟩
      obtain ⟨hK, hKc⟩ := be.each i u hu
      rcases be.row with ⟨_, h0, _⟩ | ⟨rb, rcap, rrest, e9, hR, hpl, hr, hc⟩
      · omega
      cases e9
      have hget : (es ++ rrest)[0 + (i : Int).toNat * 1]? = some u := by
        rw [show 0 + (i : Int).toNat * 1 = i by omega, List.getElem?_append_left hlt]
        exact hu
      obtain ⟨ua, un, uc, rfl⟩ := hK.isSl
      have hun : un < 4000000000000 := by
        rcases hK with h | ⟨b, n, cap, L, h, _, _, _, h5, _⟩
        · cases h; decide
        · cases h; exact h5
      refine runG12 ?_
      refine s_val (r_quo rfl rfl (by decide) (by show _ ≤ ((i / 4 : Nat) : Int); omega) (by show ((i / 4 : Nat) : Int) ≤ _; omega)) wnt_none ?_
      rw [show ((i : Nat) : Int).tdiv 4 = ((i / 4 : Nat) : Int) from rfl]
      refine runG12 ?_
      refine s_val (r_build rfl (bldB1 _ _)) wnt_none ?_
      refine runG12 ?_
      generalize ha : (-1000 - ((i / 4 : Nat) : Int)) = a
      have hmk : mkE (i / 4) = Ed.vals ⟨a, 0, 0, 0, 0, 0⟩ := by rw [← ha]; rfl
      rw [hmk] at hK
      refine s_skip (r_storeAll (vs := Ed.vals ⟨a, 0, 0, 0, 0, 0⟩) (s_ok rfl) rfl rfl (xo1 a) (at_alloc_new w1 _) rfl) wnt_none ?_
      have hbm := at_setB (cel (Ed.vals ⟨a, 0, 0, 0, 0, 0⟩) 31) (at_alloc_new w1 (cel [I 0, I 0, I 0, I 0, I 0, I 0] 31))
      have fb : Frm0 w1 (setB (w1.alloc (cel [I 0, I 0, I 0, I 0, I 0, I 0] 31)) w1.heap.size (cel (Ed.vals ⟨a, 0, 0, 0, 0, 0⟩) 31)) := (Frm.of_alloc w1 _).setB (.inr (Nat.le_refl _)) _
      generalize setB (w1.alloc (cel [I 0, I 0, I 0, I 0, I 0, I 0] 31)) w1.heap.size (cel (Ed.vals ⟨a, 0, 0, 0, 0, 0⟩) 31) = wb at *
      generalize w1.heap.size = bm at *
      refine runG12 ?_
      refine lp (fun env w' => Frm0 wb w' ∧ ∃ env0, ∃ j : Nat, env = setL env0 [(0, .pointer (some ⟨wp, 2, none⟩)), (3, I i), (4, Ptr bm), (5, I j)] ∧ j ≤ un) (fun env _ => un - cnt (env 5)) ?_ ?_
      · exact ⟨Frm.refl _ _, _, 0, fixL ⟨rfl, rfl, rfl, rfl, trivial⟩, by omega⟩
      · rintro env wc ⟨fc, envc, j, rfl, hj⟩
        have hhc := fc.at0 (fb.at0 hh1)
        have hRc := (f1.trans0 (fb.trans0 fc)).at0 hR
        have hbmc := fc.at0 hbm
        by_cases hlj : j < un
        · rcases hK with h | ⟨lb, n, cap, L, h, hA, hL, hnc, _, hpat⟩
          · cases h; omega
          cases h
          have hAc := (f1.trans0 (fb.trans0 fc)).at0 hA
          have hle : un * 6 ≤ uc * 6 := Nat.mul_le_mul_right _ hnc
          have hsub : sub L (0 + (j : Int).toNat * 6) 6 = Ed.vals ⟨a, 0, 0, 0, 0, 0⟩ := by
            rw [show 0 + (j : Int).toNat * 6 = j * 6 by omega]
            exact Pat.elem (x := Ed.vals ⟨a, 0, 0, 0, 0, 0⟩) (n := un) hpat rfl (by omega) hlj
          refine runG12 ?_
          refine s_val (r_load (u_ok rfl) rfl rfl hRc hget) wnt_none ?_
          refine runG12 ?_
          refine w_drawn [(0, false), (1, false), (2, false), (3, false), (4, false), (5, false), (6, false), (7, false), (8, false), (9, false), (10, false), (11, false)] [] (fun wq => Frm0 wc wq) mixed (by kernel_rfl) ?_ ?_
          · exact Frm.of_drew _
          · refine runG12 ?_
            refine x_q rfl (fun wq hq => r_load (u_ok rfl) rfl rfl (hq.at0 hRc) hget) wnt_none ?_
            refine runG12 ?_
            refine x_q rfl (fun wq hq => r_loadV (vs := Ed.vals ⟨a, 0, 0, 0, 0, 0⟩) (u_ok rfl) rfl (s_ok rfl) rfl (hq.at0 hAc) (by omega) hsub) wnt_none ?_
            refine runG12 ?_
            refine x_q rfl (fun wq hq => r_ne_edit (n := ⟨a, 0, 0, 0, 0, 0⟩) rfl rfl) wnt_none ?_
            refine runG12 ?_
            exact ⟨_, rfl, ⟨fc.drew, _, j + 1, fixL ⟨rfl, rfl, rfl, rfl, trivial⟩, by omega⟩, by show un - ((j : Int) + 1).toNat < un - (j : Int).toNat; omega⟩
        · refine runG12 ?_
          refine s_val (r_load (u_ok rfl) rfl rfl hRc hget) wnt_none ?_
          refine runG12 ?_
          exact ⟨_, rfl, ⟨f1.trans0 (fb.trans0 fc), _, i + 1, fixL ⟨rfl, rfl, trivial⟩, by omega⟩, by show es.length - ((i : Int) + 1).toNat < es.length - (i : Int).toNat; omega⟩
    · refine runG12 ?_
      refine lp (fun env w' => Frm0 w w' ∧ ∃ env0, ∃ i : Nat, env = setL env0 [(0, .pointer (some ⟨wp, 2, none⟩)), (6, I i)] ∧ i ≤ as1.length) (fun env _ => as1.length - cnt (env 6)) ?_ ?_
      · exact ⟨f1, _, 0, fixL ⟨rfl, rfl, trivial⟩, by omega⟩
      · rintro env w2 ⟨f2, env2, i, rfl, hi⟩
        have hh2 := f2.at0 hh
        by_cases hlt : i < as1.length
        · obtain ⟨u, hu⟩ : ∃ u, as1[i]? = some u := ⟨_, List.getElem?_eq_getElem hlt⟩
          obtain ⟨hK, hKc⟩ := ba.each i u hu
          rcases ba.row with ⟨_, h0, _⟩ | ⟨rb, rcap, rrest, e9, hR, hpl, hr, hc⟩
          · omega
          cases e9
          have hget : (as1 ++ rrest)[0 + (i : Int).toNat * 1]? = some u := by
            rw [show 0 + (i : Int).toNat * 1 = i by omega, List.getElem?_append_left hlt]
            exact hu
          obtain ⟨ua, un, uc, rfl⟩ := hK.isSl
          have hun : un < 4000000000000 := by
            rcases hK with h | ⟨b, n, cap, L, h, _, _, _, h5, _⟩
            · cases h; decide
            · cases h; exact h5
          refine runG12 ?_
          refine s_val (r_quo rfl rfl (by decide) (by show _ ≤ ((i / 4 : Nat) : Int); omega) (by show ((i / 4 : Nat) : Int) ≤ _; omega)) wnt_none ?_
          rw [show ((i : Nat) : Int).tdiv 4 = ((i / 4 : Nat) : Int) from rfl]
          refine runG12 ?_
          refine s_val (r_build rfl (bldB2 _ _)) wnt_none ?_
          refine runG12 ?_
          generalize ha : (-1000 - ((i / 4 : Nat) : Int)) = a
          have hmk : mkA (i / 4) = Ans.vals ⟨a, false⟩ := by rw [← ha]; rfl
          rw [hmk] at hK
          refine s_skip (r_storeAll (vs := Ans.vals ⟨a, false⟩) (s_ok rfl) rfl rfl (xo2 a) (at_alloc_new w2 _) rfl) wnt_none ?_
          have hbm := at_setB (cel (Ans.vals ⟨a, false⟩) 123) (at_alloc_new w2 (cel [I 0, B false] 123))
          have fb : Frm0 w2 (setB (w2.alloc (cel [I 0, B false] 123)) w2.heap.size (cel (Ans.vals ⟨a, false⟩) 123)) := (Frm.of_alloc w2 _).setB (.inr (Nat.le_refl _)) _
          generalize setB (w2.alloc (cel [I 0, B false] 123)) w2.heap.size (cel (Ans.vals ⟨a, false⟩) 123) = wb at *
          generalize w2.heap.size = bm at *
          refine runG12 ?_
          refine lp (fun env w' => Frm0 wb w' ∧ ∃ env0, ∃ j : Nat, env = setL env0 [(0, .pointer (some ⟨wp, 2, none⟩)), (6, I i), (7, Ptr bm), (8, I j)] ∧ j ≤ un) (fun env _ => un - cnt (env 8)) ?_ ?_
          · exact ⟨Frm.refl _ _, _, 0, fixL ⟨rfl, rfl, rfl, rfl, trivial⟩, by omega⟩
          · rintro env wc ⟨fc, envc, j, rfl, hj⟩
            have hhc := fc.at0 (fb.at0 hh2)
            have hRc := (f2.trans0 (fb.trans0 fc)).at0 hR
            have hbmc := fc.at0 hbm
            by_cases hlj : j < un
            · rcases hK with h | ⟨lb, n, cap, L, h, hA, hL, hnc, _, hpat⟩
              · cases h; omega
              cases h
              have hAc := (f2.trans0 (fb.trans0 fc)).at0 hA
              have hle : un * 2 ≤ uc * 2 := Nat.mul_le_mul_right _ hnc
              have hsub : sub L (0 + (j : Int).toNat * 2) 2 = Ans.vals ⟨a, false⟩ := by
                rw [show 0 + (j : Int).toNat * 2 = j * 2 by omega]
                exact Pat.elem (x := Ans.vals ⟨a, false⟩) (n := un) hpat rfl (by omega) hlj
              refine runG12 ?_
              refine s_val (r_load (u_ok rfl) rfl rfl hRc hget) wnt_none ?_
              refine runG12 ?_
              refine w_drawn [(0, false), (1, false), (2, false), (3, false), (4, false), (5, false), (6, false), (7, false), (8, false), (9, false), (10, false), (11, false)] [] (fun wq => Frm0 wc wq) mixed (by kernel_rfl) ?_ ?_
              · exact Frm.of_drew _
              · refine runG12 ?_
                refine x_q rfl (fun wq hq => r_load (u_ok rfl) rfl rfl (hq.at0 hRc) hget) wnt_none ?_
                refine runG12 ?_
                refine x_q rfl (fun wq hq => r_loadV (vs := Ans.vals ⟨a, false⟩) (u_ok rfl) rfl (s_ok rfl) rfl (hq.at0 hAc) (by omega) hsub) wnt_none ?_
                refine runG12 ?_
                refine x_q rfl (fun wq hq => r_ne_ans (n := ⟨a, false⟩) rfl rfl) wnt_none ?_
                refine runG12 ?_
                exact ⟨_, rfl, ⟨fc.drew, _, j + 1, fixL ⟨rfl, rfl, rfl, rfl, trivial⟩, by omega⟩, by show un - ((j : Int) + 1).toNat < un - (j : Int).toNat; omega⟩
            · refine runG12 ?_
              refine s_val (r_load (u_ok rfl) rfl rfl hRc hget) wnt_none ?_
              refine runG12 ?_
              exact ⟨_, rfl, ⟨f2.trans0 (fb.trans0 fc), _, i + 1, fixL ⟨rfl, rfl, trivial⟩, by omega⟩, by show as1.length - ((i : Int) + 1).toNat < as1.length - (i : Int).toNat; omega⟩
        · refine runG12 ?_
          refine lp (fun env w' => Frm0 w w' ∧ ∃ env0, ∃ i : Nat, env = setL env0 [(0, .pointer (some ⟨wp, 2, none⟩)), (9, I i)] ∧ i ≤ ns.length) (fun env _ => ns.length - cnt (env 9)) ?_ ?_
          · exact ⟨f2, _, 0, fixL ⟨rfl, rfl, trivial⟩, by omega⟩
          · rintro env w3 ⟨f3, env3, i, rfl, hi⟩
            have hh3 := f3.at0 hh
            by_cases hlt : i < ns.length
            · obtain ⟨u, hu⟩ : ∃ u, ns[i]? = some u := ⟨_, List.getElem?_eq_getElem hlt⟩
              obtain ⟨hK, hKc⟩ := bn.each i u hu
              rcases bn.row with ⟨_, h0, _⟩ | ⟨rb, rcap, rrest, e9, hR, hpl, hr, hc⟩
              · omega
              cases e9
              have hget : (ns ++ rrest)[0 + (i : Int).toNat * 1]? = some u := by
                rw [show 0 + (i : Int).toNat * 1 = i by omega, List.getElem?_append_left hlt]
                exact hu
              obtain ⟨ua, un, uc, rfl⟩ := hK.isSl
              have hun : un < 4000000000000 := by
                rcases hK with h | ⟨b, n, cap, L, h, _, _, _, h5, _⟩
                · cases h; decide
                · cases h; exact h5
              refine runG12 ?_
              refine s_val (r_quo rfl rfl (by decide) (by show _ ≤ ((i / 4 : Nat) : Int); omega) (by show ((i / 4 : Nat) : Int) ≤ _; omega)) wnt_none ?_
              rw [show ((i : Nat) : Int).tdiv 4 = ((i / 4 : Nat) : Int) from rfl]
              refine runG12 ?_
              refine s_val (r_build rfl (bldB3 _ _)) wnt_none ?_
              refine runG12 ?_
              generalize ha : (-1000 - ((i / 4 : Nat) : Int)) = a
              have hmk : mkN (i / 4) = Ent.vals ⟨a, 0, ed0, false⟩ := by rw [← ha]; rfl
              rw [hmk] at hK
              refine s_skip (r_storeAll (vs := Ent.vals ⟨a, 0, ed0, false⟩) (s_ok rfl) rfl rfl (xo3 a) (at_alloc_new w3 _) rfl) wnt_none ?_
              have hbm := at_setB (cel (Ent.vals ⟨a, 0, ed0, false⟩) 54) (at_alloc_new w3 (cel [I 0, I 0, I 0, I 0, I 0, I 0, I 0, I 0, B false] 54))
              have fb : Frm0 w3 (setB (w3.alloc (cel [I 0, I 0, I 0, I 0, I 0, I 0, I 0, I 0, B false] 54)) w3.heap.size (cel (Ent.vals ⟨a, 0, ed0, false⟩) 54)) := (Frm.of_alloc w3 _).setB (.inr (Nat.le_refl _)) _
              generalize setB (w3.alloc (cel [I 0, I 0, I 0, I 0, I 0, I 0, I 0, I 0, B false] 54)) w3.heap.size (cel (Ent.vals ⟨a, 0, ed0, false⟩) 54) = wb at *
              generalize w3.heap.size = bm at *
              refine runG12 ?_
              refine lp (fun env w' => Frm0 wb w' ∧ ∃ env0, ∃ j : Nat, env = setL env0 [(0, .pointer (some ⟨wp, 2, none⟩)), (9, I i), (10, Ptr bm), (11, I j)] ∧ j ≤ un) (fun env _ => un - cnt (env 11)) ?_ ?_
              · exact ⟨Frm.refl _ _, _, 0, fixL ⟨rfl, rfl, rfl, rfl, trivial⟩, by omega⟩
              · rintro env wc ⟨fc, envc, j, rfl, hj⟩
                have hhc := fc.at0 (fb.at0 hh3)
                have hRc := (f3.trans0 (fb.trans0 fc)).at0 hR
                have hbmc := fc.at0 hbm
                by_cases hlj : j < un
                · rcases hK with h | ⟨lb, n, cap, L, h, hA, hL, hnc, _, hpat⟩
                  · cases h; omega
                  cases h
                  have hAc := (f3.trans0 (fb.trans0 fc)).at0 hA
                  have hle : un * 9 ≤ uc * 9 := Nat.mul_le_mul_right _ hnc
                  have hsub : sub L (0 + (j : Int).toNat * 9) 9 = Ent.vals ⟨a, 0, ed0, false⟩ := by
                    rw [show 0 + (j : Int).toNat * 9 = j * 9 by omega]
                    exact Pat.elem (x := Ent.vals ⟨a, 0, ed0, false⟩) (n := un) hpat rfl (by omega) hlj
                  refine runG12 ?_
                  refine s_val (r_load (u_ok rfl) rfl rfl hRc hget) wnt_none ?_
                  refine runG12 ?_
                  refine w_drawn [(0, false), (1, false), (2, false), (3, false), (4, false), (5, false), (6, false), (7, false), (8, false), (9, false), (10, false), (11, false)] [] (fun wq => Frm0 wc wq) mixed (by kernel_rfl) ?_ ?_
                  · exact Frm.of_drew _
                  · refine runG12 ?_
                    refine x_q rfl (fun wq hq => r_load (u_ok rfl) rfl rfl (hq.at0 hRc) hget) wnt_none ?_
                    refine runG12 ?_
                    refine x_q rfl (fun wq hq => r_loadV (vs := Ent.vals ⟨a, 0, ed0, false⟩) (u_ok rfl) rfl (s_ok rfl) rfl (hq.at0 hAc) (by omega) hsub) wnt_none ?_
                    refine runG12 ?_
                    refine x_q rfl (fun wq hq => r_ne_ent (n := ⟨a, 0, ed0, false⟩) rfl rfl) wnt_none ?_
                    refine runG12 ?_
                    exact ⟨_, rfl, ⟨fc.drew, _, j + 1, fixL ⟨rfl, rfl, rfl, rfl, trivial⟩, by omega⟩, by show un - ((j : Int) + 1).toNat < un - (j : Int).toNat; omega⟩
                · refine runG12 ?_
                  refine s_val (r_load (u_ok rfl) rfl rfl hRc hget) wnt_none ?_
                  refine runG12 ?_
                  exact ⟨_, rfl, ⟨f3.trans0 (fb.trans0 fc), _, i + 1, fixL ⟨rfl, rfl, trivial⟩, by omega⟩, by show ns.length - ((i : Int) + 1).toNat < ns.length - (i : Int).toNat; omega⟩
            · refine runG12 ?_
              exact ret_b rfl rfl ⟨rfl, f3⟩
end Go.Proofs.YtbicffldggcdhaaGreatDoor

namespace Go.Proofs.YtbicffldggcdhaaGreatDoor
open Go

section
variable {w : World} {n : Nat} {env : Env} {d : Option Nat} {t ty2 : Nat} {p : String} {af : Array Edge} {g : Option (Nat × Bool)} {x : Operand}
theorem r_tpN (hx : ev n env x = .pointer none) : (execOp (ev n env) ⟨d, .binOp .eql 28 x (.const (.pointer none)) ty2, t, p, af, g⟩).run Tryz.prog w = .ok (.value (.bool true)) w := r_eq2 hx (show ev n env (.const (.pointer none)) = .pointer none from rfl) (by simp [eqGuard]) (by kernel_rfl)
theorem r_slEd0 (hx : ev n env x = .slice none 0 0) : (execOp (ev n env) ⟨d, .binOp .eql 26 x (.const (.slice none 0 0)) ty2, t, p, af, g⟩).run Tryz.prog w = .ok (.value (.bool true)) w :=
  r_eq2 hx (show ev n env (.const (.slice none 0 0)) = .slice none 0 0 from rfl) rfl (by kernel_rfl)
end
section
variable {PT : PTy} (sp : TreeSpec PT) (cs : CloneSpec PT) {w : World} {col : Nat → Nat} {k p r : Nat} {Q : PPar} {ea : List Addr} {o : OpR} {wp : Nat}
set_option maxRecDepth 4000 in
set_option maxHeartbeats 1000000 in
theorem nobody_view (sp : TreeSpec PT) (cs : CloneSpec PT) (hq : PP PT w col k p Q) (hE : Errs w ea) (hb : QB Q) (hc : Q.cl o.b = none) (hk : o.kind = 16) :
    Rets Tryz.prog 97 [Ptr wp, .agg [Ptr p, Ptr r].toArray, OpV o] w fun v w' => v = B true ∧ Frm0 w w' := by
  have f1 : Frm0 w ((w.alloc (cel [Ptr p, Ptr r] 135)).alloc (cel o.vals 81)) := ((Frm.refl _ w).alloc _).alloc _
  have hg1 : At ((w.alloc (cel [Ptr p, Ptr r] 135)).alloc (cel o.vals 81)) w.heap.size (cel [Ptr p, Ptr r] 135) := at_alloc _ (at_alloc_new _ _)
  have ho1 : At ((w.alloc (cel [Ptr p, Ptr r] 135)).alloc (cel o.vals 81)) (w.heap.size + 1) (cel o.vals 81) := by
    have := at_alloc_new (w.alloc (cel [Ptr p, Ptr r] 135)) (cel o.vals 81)
    rw [World.size_alloc] at this
    exact this
  have hhi := hq.high
  refine rets_of Tryz.func97 (by kernel_rfl) rfl Tryz.ntmps97 (Nat.le_of_ble_eq_true rfl) ?_
  refine runG12 ?_
  rw [show (w.alloc (cel [Ptr p, Ptr r] 135)).heap.size = w.heap.size + 1 from World.size_alloc _ _]
  generalize (w.alloc (cel [Ptr p, Ptr r] 135)).alloc (cel o.vals 81) = w1 at *
  have hq1 := hq.other sp f1 (fun _ _ _ h => h) (fun _ _ => rfl) (fun b hb => hhi b (Nat.le_trans f1.size hb))
  have hE1 := hE.frm0 f1
  refine s_callf (PView_ret sp cs hq1 hE1 hb o.b) rfl wnt_none ?_
  rintro v w2 hv
  rw [hc] at hv
  obtain ⟨⟨u, rfl, hu⟩, f2⟩ := hv
  obtain ⟨b, a2, rfl, _⟩ := hu.one1
  refine runG12 ?_
  refine s_val (r_tpN rfl) wnt_none ?_
  refine runG12 ?_
  refine s_val (r_build rfl (bld_ed0 _)) (by (first | (with_reducible exact wnt_none) | ((with_reducible apply wnt_y); exact rfl; exact rfl; exact rfl; exact rfl; (with_reducible exact rfl)))) ?_
  refine s_callf (reason_ret (n := 1) (hE1.frm0 f2) hu) rfl (by (first | (with_reducible exact wnt_none) | ((with_reducible apply wnt_y); exact rfl; exact rfl; exact rfl; exact rfl; (with_reducible exact rfl)))) ?_
  rintro v w4 ⟨rfl, f4⟩
  refine runG12 ?_
  exact ret_b rfl rfl ⟨rfl, (f1.trans0 f2).trans0 f4⟩
set_option maxRecDepth 4000 in
set_option maxHeartbeats 1000000 in
theorem nobody_base (sp : TreeSpec PT) (cs : CloneSpec PT) (hq : PP PT w col k p Q) (hE : Errs w ea) (_hb : QB Q) (hc : Q.cl o.b = none) (hk : o.kind = 17) :
    Rets Tryz.prog 97 [Ptr wp, .agg [Ptr p, Ptr r].toArray, OpV o] w fun v w' => v = B true ∧ Frm0 w w' := by
  have f1 : Frm0 w ((w.alloc (cel [Ptr p, Ptr r] 135)).alloc (cel o.vals 81)) := ((Frm.refl _ w).alloc _).alloc _
  have hg1 : At ((w.alloc (cel [Ptr p, Ptr r] 135)).alloc (cel o.vals 81)) w.heap.size (cel [Ptr p, Ptr r] 135) := at_alloc _ (at_alloc_new _ _)
  have ho1 : At ((w.alloc (cel [Ptr p, Ptr r] 135)).alloc (cel o.vals 81)) (w.heap.size + 1) (cel o.vals 81) := by
    have := at_alloc_new (w.alloc (cel [Ptr p, Ptr r] 135)) (cel o.vals 81)
    rw [World.size_alloc] at this
    exact this
  have hhi := hq.high
  refine rets_of Tryz.func97 (by kernel_rfl) rfl Tryz.ntmps97 (Nat.le_of_ble_eq_true rfl) ?_
  refine runG12 ?_
  rw [show (w.alloc (cel [Ptr p, Ptr r] 135)).heap.size = w.heap.size + 1 from World.size_alloc _ _]
  generalize (w.alloc (cel [Ptr p, Ptr r] 135)).alloc (cel o.vals 81) = w1 at *
  have hq1 := hq.other sp f1 (fun _ _ _ h => h) (fun _ _ => rfl) (fun b hb => hhi b (Nat.le_trans f1.size hb))
  have hE1 := hE.frm0 f1
  refine s_callf (PBase_ret sp cs hq1 hE1 o.b) rfl wnt_none ?_
  rintro v w2 hv
  rw [hc] at hv
  obtain ⟨⟨u, rfl, hu⟩, f2⟩ := hv
  obtain ⟨b, a2, rfl, _⟩ := hu.one1
  refine runG12 ?_
  refine s_val (r_tpN rfl) wnt_none ?_
  refine runG12 ?_
  refine s_val (r_build rfl (bld_ed0 _)) (by (first | (with_reducible exact wnt_none) | ((with_reducible apply wnt_y); exact rfl; exact rfl; exact rfl; exact rfl; (with_reducible exact rfl)))) ?_
  refine s_callf (reason_ret (n := 1) (hE1.frm0 f2) hu) rfl (by (first | (with_reducible exact wnt_none) | ((with_reducible apply wnt_y); exact rfl; exact rfl; exact rfl; exact rfl; (with_reducible exact rfl)))) ?_
  rintro v w4 ⟨rfl, f4⟩
  refine runG12 ?_
  exact ret_b rfl rfl ⟨rfl, (f1.trans0 f2).trans0 f4⟩
set_option maxRecDepth 4000 in
set_option maxHeartbeats 1000000 in
theorem nobody_pending (sp : TreeSpec PT) (_cs : CloneSpec PT) (hq : PP PT w col k p Q) (hE : Errs w ea) (hb : QB Q) (hc : Q.cl o.b = none) (hk : o.kind = 18) :
    Rets Tryz.prog 97 [Ptr wp, .agg [Ptr p, Ptr r].toArray, OpV o] w fun v w' => v = B true ∧ Frm0 w w' := by
  have f1 : Frm0 w ((w.alloc (cel [Ptr p, Ptr r] 135)).alloc (cel o.vals 81)) := ((Frm.refl _ w).alloc _).alloc _
  have hg1 : At ((w.alloc (cel [Ptr p, Ptr r] 135)).alloc (cel o.vals 81)) w.heap.size (cel [Ptr p, Ptr r] 135) := at_alloc _ (at_alloc_new _ _)
  have ho1 : At ((w.alloc (cel [Ptr p, Ptr r] 135)).alloc (cel o.vals 81)) (w.heap.size + 1) (cel o.vals 81) := by
    have := at_alloc_new (w.alloc (cel [Ptr p, Ptr r] 135)) (cel o.vals 81)
    rw [World.size_alloc] at this
    exact this
  have hhi := hq.high
  refine rets_of Tryz.func97 (by kernel_rfl) rfl Tryz.ntmps97 (Nat.le_of_ble_eq_true rfl) ?_
  refine runG12 ?_
  rw [show (w.alloc (cel [Ptr p, Ptr r] 135)).heap.size = w.heap.size + 1 from World.size_alloc _ _]
  generalize (w.alloc (cel [Ptr p, Ptr r] 135)).alloc (cel o.vals 81) = w1 at *
  have hq1 := hq.other sp f1 (fun _ _ _ h => h) (fun _ _ => rfl) (fun b hb => hhi b (Nat.le_trans f1.size hb))
  have hE1 := hE.frm0 f1
  refine s_callf (PPending_ret sp hq1 hE1 hb o.b) rfl wnt_none ?_
  rintro v w2 hv
  rw [hc] at hv
  obtain ⟨⟨u, rfl, hu⟩, f2⟩ := hv
  obtain ⟨b, a2, rfl, _⟩ := hu.one1
  refine runG12 ?_
  refine s_val (r_slEd0 rfl) wnt_none ?_
  refine runG12 ?_
  refine s_val (r_build rfl (bld_ed0 _)) (by (first | (with_reducible exact wnt_none) | ((with_reducible apply wnt_y); exact rfl; exact rfl; exact rfl; exact rfl; (with_reducible exact rfl)))) ?_
  refine s_callf (reason_ret (n := 1) (hE1.frm0 f2) hu) rfl (by (first | (with_reducible exact wnt_none) | ((with_reducible apply wnt_y); exact rfl; exact rfl; exact rfl; exact rfl; (with_reducible exact rfl)))) ?_
  rintro v w4 ⟨rfl, f4⟩
  refine runG12 ?_
  exact ret_b rfl rfl ⟨rfl, (f1.trans0 f2).trans0 f4⟩
set_option maxRecDepth 4000 in
set_option maxHeartbeats 1000000 in
theorem nobody_answers (sp : TreeSpec PT) (_cs : CloneSpec PT) (hq : PP PT w col k p Q) (hE : Errs w ea) (hb : QB Q) (hc : Q.cl o.b = none) (hk : o.kind = 19) :
    Rets Tryz.prog 97 [Ptr wp, .agg [Ptr p, Ptr r].toArray, OpV o] w fun v w' => v = B true ∧ Frm0 w w' := by
  have f1 : Frm0 w ((w.alloc (cel [Ptr p, Ptr r] 135)).alloc (cel o.vals 81)) := ((Frm.refl _ w).alloc _).alloc _
  have hg1 : At ((w.alloc (cel [Ptr p, Ptr r] 135)).alloc (cel o.vals 81)) w.heap.size (cel [Ptr p, Ptr r] 135) := at_alloc _ (at_alloc_new _ _)
  have ho1 : At ((w.alloc (cel [Ptr p, Ptr r] 135)).alloc (cel o.vals 81)) (w.heap.size + 1) (cel o.vals 81) := by
    have := at_alloc_new (w.alloc (cel [Ptr p, Ptr r] 135)) (cel o.vals 81)
    rw [World.size_alloc] at this
    exact this
  have hhi := hq.high
  refine rets_of Tryz.func97 (by kernel_rfl) rfl Tryz.ntmps97 (Nat.le_of_ble_eq_true rfl) ?_
  refine runG12 ?_
  rw [show (w.alloc (cel [Ptr p, Ptr r] 135)).heap.size = w.heap.size + 1 from World.size_alloc _ _]
  generalize (w.alloc (cel [Ptr p, Ptr r] 135)).alloc (cel o.vals 81) = w1 at *
  have hq1 := hq.other sp f1 (fun _ _ _ h => h) (fun _ _ => rfl) (fun b hb => hhi b (Nat.le_trans f1.size hb))
  have hE1 := hE.frm0 f1
  refine s_callf (PAnswers_ret sp hq1 hE1 hb o.b) rfl wnt_none ?_
  rintro v w2 hv
  rw [hc] at hv
  obtain ⟨⟨u, rfl, hu⟩, f2⟩ := hv
  obtain ⟨b, a2, rfl, _⟩ := hu.one1
  refine runG12 ?_
  refine s_val (r_slA0 rfl) wnt_none ?_
  refine runG12 ?_
  refine s_val (r_build rfl (bld_ed0 _)) (by (first | (with_reducible exact wnt_none) | ((with_reducible apply wnt_y); exact rfl; exact rfl; exact rfl; exact rfl; (with_reducible exact rfl)))) ?_
  refine s_callf (reason_ret (n := 1) (hE1.frm0 f2) hu) rfl (by (first | (with_reducible exact wnt_none) | ((with_reducible apply wnt_y); exact rfl; exact rfl; exact rfl; exact rfl; (with_reducible exact rfl)))) ?_
  rintro v w4 ⟨rfl, f4⟩
  refine runG12 ?_
  exact ret_b rfl rfl ⟨rfl, (f1.trans0 f2).trans0 f4⟩
theorem nobody_ret (sp : TreeSpec PT) (cs : CloneSpec PT) (hq : PP PT w col k p Q) (hE : Errs w ea) (hb : QB Q) (hc : Q.cl o.b = none) (hk : 16 ≤ o.kind ∧ o.kind ≤ 19) :
    Rets Tryz.prog 97 [Ptr wp, .agg [Ptr p, Ptr r].toArray, OpV o] w fun v w' => v = B true ∧ Frm0 w w' := by
  rcases (show o.kind = 16 ∨ o.kind = 17 ∨ o.kind = 18 ∨ o.kind = 19 by omega) with h | h | h | h
  · exact nobody_view sp cs hq hE hb hc h
  · exact nobody_base sp cs hq hE hb hc h
  · exact nobody_pending sp cs hq hE hb hc h
  · exact nobody_answers sp cs hq hE hb hc h
end
section
variable {PT : PTy} (sp : TreeSpec PT) {w0 w w' : World} {wp : Nat} {tsv psv e a n lv v' : Value} {ts : List TP} {gs : List GP} {es as' ns us' : List Value} {colT col col' : Nat → Nat} {N : Nat}
theorem WH.keep1 (sp : TreeSpec PT) (h : WH PT w0 wp tsv psv e a n ts gs es as' ns colT col) (hg : WG PT w0 gs col N) (f : Frm0 w0 w) (hA : At w' wp (cel [tsv, psv, v', a, n] 79)) (hB : BL w' col' 2 v' 26 31 6 mkE us') (g : KG w w' col col' wp 2 lv e) (hl : ∀ b, InV lv b → w0.heap.size ≤ b) :
    WH PT w' wp tsv psv v' a n ts gs us' as' ns colT col' ∧ WG PT w' gs col' N ∧ Frm (fun b => wp ≤ b) w0 w' := by
  have hwp := at_lt h.t.head
  have hw0 := h.col0 wp (Nat.le_refl _)
  have hs := f.size
  have F : Frm (fun b => b = wp ∨ InV lv b ∨ InV e b) w0 w' := (f.mono (fun _ h => h.elim)).trans g.frm (fun b hb => .inl hb)
  have ho : ∀ b, b < w0.heap.size → col' b = col b := fun b hb => g.old b (by omega) (fun h9 => by have := hl b h9; omega)
  have hS : ∀ b, b = wp ∨ InV lv b ∨ InV e b → col b = 0 ∨ col b = 2 := fun b hb => by
    rcases hb with rfl | hb | hb
    · exact .inl hw0
    · exact .inl (h.high b (hl b hb))
    · exact .inr (h.be.rowc b hb)
  refine ⟨⟨⟨hA, ?_, h.t.rowc, fun i z hz => ?_, h.t.col0, fun b hb => h.t.high b (Nat.le_trans F.size hb), rfl⟩, h.row.frm F (fun b hb h9 => by have := hS b h9; have := h.rowc b hb; omega), fun b hb => by rw [ho b (h.row.lt hb)]; exact h.rowc b hb, hB, h.ba.go F (fun b hb => by have := hS b hb; omega) ho, h.bn.go F (fun b hb => by have := hS b hb; omega) ho, fun b hb => by rw [ho b (by omega)]; exact h.col0 b hb, g.high, fun b hb => ?_⟩, ?_, ?_⟩
  · refine h.t.row.frm F (fun b hb h9 => ?_)
    rcases h9 with rfl | h9 | h9
    · have := (h.t.rowc _ hb).1; omega
    · have := h.t.lt hb; have := hl b h9; omega
    · exact (h.apart b (by have := h.be.rowc b h9; omega)).2 hb
  · refine (h.t.each i z hz).frm sp F (fun b hb h9 => ?_)
    rcases h9 with rfl | h9 | h9
    · have := h.t.col0 _ (Nat.le_refl _); omega
    · have := h.t.high b (hl b h9); omega
    · have := (h.apart b (by have := h.be.rowc b h9; omega)).1; omega
  · rcases Nat.lt_or_ge b w0.heap.size with h1 | h1
    · rw [ho b h1] at hb
      exact h.apart b hb
    · exact ⟨h.t.high b h1, fun h2 => by have := h.t.lt h2; omega⟩
  · intro j x hx
    exact (hg j x hx).other sp F (fun b h1 h2 h9 => by have := hS b h9; omega) ho g.high
  · refine F.mono (fun b hb => ?_)
    rcases hb with rfl | hb | hb
    · exact .inl (Nat.le_refl _)
    · exact .inl (by have := hl b hb; omega)
    · refine .inl ?_
      have h1 := h.be.rowc b hb
      rcases Nat.lt_or_ge wp b with h2 | h2
      · omega
      · have := h.col0 b h2; omega
theorem WH.keep2 (sp : TreeSpec PT) (h : WH PT w0 wp tsv psv e a n ts gs es as' ns colT col) (hg : WG PT w0 gs col N) (f : Frm0 w0 w) (hA : At w' wp (cel [tsv, psv, e, v', n] 79)) (hB : BL w' col' 3 v' 114 123 2 mkA us') (g : KG w w' col col' wp 3 lv a) (hl : ∀ b, InV lv b → w0.heap.size ≤ b) :
    WH PT w' wp tsv psv e v' n ts gs es us' ns colT col' ∧ WG PT w' gs col' N ∧ Frm (fun b => wp ≤ b) w0 w' := by
  have hwp := at_lt h.t.head
  have hw0 := h.col0 wp (Nat.le_refl _)
  have hs := f.size
  have F : Frm (fun b => b = wp ∨ InV lv b ∨ InV a b) w0 w' := (f.mono (fun _ h => h.elim)).trans g.frm (fun b hb => .inl hb)
  have ho : ∀ b, b < w0.heap.size → col' b = col b := fun b hb => g.old b (by omega) (fun h9 => by have := hl b h9; omega)
  have hS : ∀ b, b = wp ∨ InV lv b ∨ InV a b → col b = 0 ∨ col b = 3 := fun b hb => by
    rcases hb with rfl | hb | hb
    · exact .inl hw0
    · exact .inl (h.high b (hl b hb))
    · exact .inr (h.ba.rowc b hb)
  refine ⟨⟨⟨hA, ?_, h.t.rowc, fun i z hz => ?_, h.t.col0, fun b hb => h.t.high b (Nat.le_trans F.size hb), rfl⟩, h.row.frm F (fun b hb h9 => by have := hS b h9; have := h.rowc b hb; omega), fun b hb => by rw [ho b (h.row.lt hb)]; exact h.rowc b hb, h.be.go F (fun b hb => by have := hS b hb; omega) ho, hB, h.bn.go F (fun b hb => by have := hS b hb; omega) ho, fun b hb => by rw [ho b (by omega)]; exact h.col0 b hb, g.high, fun b hb => ?_⟩, ?_, ?_⟩
  · refine h.t.row.frm F (fun b hb h9 => ?_)
    rcases h9 with rfl | h9 | h9
    · have := (h.t.rowc _ hb).1; omega
    · have := h.t.lt hb; have := hl b h9; omega
    · exact (h.apart b (by have := h.ba.rowc b h9; omega)).2 hb
  · refine (h.t.each i z hz).frm sp F (fun b hb h9 => ?_)
    rcases h9 with rfl | h9 | h9
    · have := h.t.col0 _ (Nat.le_refl _); omega
    · have := h.t.high b (hl b h9); omega
    · have := (h.apart b (by have := h.ba.rowc b h9; omega)).1; omega
  · rcases Nat.lt_or_ge b w0.heap.size with h1 | h1
    · rw [ho b h1] at hb
      exact h.apart b hb
    · exact ⟨h.t.high b h1, fun h2 => by have := h.t.lt h2; omega⟩
  · intro j x hx
    exact (hg j x hx).other sp F (fun b h1 h2 h9 => by have := hS b h9; omega) ho g.high
  · refine F.mono (fun b hb => ?_)
    rcases hb with rfl | hb | hb
    · exact .inl (Nat.le_refl _)
    · exact .inl (by have := hl b hb; omega)
    · refine .inl ?_
      have h1 := h.ba.rowc b hb
      rcases Nat.lt_or_ge wp b with h2 | h2
      · omega
      · have := h.col0 b h2; omega
theorem WH.keep3 (sp : TreeSpec PT) (h : WH PT w0 wp tsv psv e a n ts gs es as' ns colT col) (hg : WG PT w0 gs col N) (f : Frm0 w0 w) (hA : At w' wp (cel [tsv, psv, e, a, v'] 79)) (hB : BL w' col' 4 v' 46 54 9 mkN us') (g : KG w w' col col' wp 4 lv n) (hl : ∀ b, InV lv b → w0.heap.size ≤ b) :
    WH PT w' wp tsv psv e a v' ts gs es as' us' colT col' ∧ WG PT w' gs col' N ∧ Frm (fun b => wp ≤ b) w0 w' := by
  have hwp := at_lt h.t.head
  have hw0 := h.col0 wp (Nat.le_refl _)
  have hs := f.size
  have F : Frm (fun b => b = wp ∨ InV lv b ∨ InV n b) w0 w' := (f.mono (fun _ h => h.elim)).trans g.frm (fun b hb => .inl hb)
  have ho : ∀ b, b < w0.heap.size → col' b = col b := fun b hb => g.old b (by omega) (fun h9 => by have := hl b h9; omega)
  have hS : ∀ b, b = wp ∨ InV lv b ∨ InV n b → col b = 0 ∨ col b = 4 := fun b hb => by
    rcases hb with rfl | hb | hb
    · exact .inl hw0
    · exact .inl (h.high b (hl b hb))
    · exact .inr (h.bn.rowc b hb)
  refine ⟨⟨⟨hA, ?_, h.t.rowc, fun i z hz => ?_, h.t.col0, fun b hb => h.t.high b (Nat.le_trans F.size hb), rfl⟩, h.row.frm F (fun b hb h9 => by have := hS b h9; have := h.rowc b hb; omega), fun b hb => by rw [ho b (h.row.lt hb)]; exact h.rowc b hb, h.be.go F (fun b hb => by have := hS b hb; omega) ho, h.ba.go F (fun b hb => by have := hS b hb; omega) ho, hB, fun b hb => by rw [ho b (by omega)]; exact h.col0 b hb, g.high, fun b hb => ?_⟩, ?_, ?_⟩
  · refine h.t.row.frm F (fun b hb h9 => ?_)
    rcases h9 with rfl | h9 | h9
    · have := (h.t.rowc _ hb).1; omega
    · have := h.t.lt hb; have := hl b h9; omega
    · exact (h.apart b (by have := h.bn.rowc b h9; omega)).2 hb
  · refine (h.t.each i z hz).frm sp F (fun b hb h9 => ?_)
    rcases h9 with rfl | h9 | h9
    · have := h.t.col0 _ (Nat.le_refl _); omega
    · have := h.t.high b (hl b h9); omega
    · have := (h.apart b (by have := h.bn.rowc b h9; omega)).1; omega
  · rcases Nat.lt_or_ge b w0.heap.size with h1 | h1
    · rw [ho b h1] at hb
      exact h.apart b hb
    · exact ⟨h.t.high b h1, fun h2 => by have := h.t.lt h2; omega⟩
  · intro j x hx
    exact (hg j x hx).other sp F (fun b h1 h2 h9 => by have := hS b h9; omega) ho g.high
  · refine F.mono (fun b hb => ?_)
    rcases hb with rfl | hb | hb
    · exact .inl (Nat.le_refl _)
    · exact .inl (by have := hl b hb; omega)
    · refine .inl ?_
      have h1 := h.bn.rowc b hb
      rcases Nat.lt_or_ge wp b with h2 | h2
      · omega
      · have := h.col0 b h2; omega
end
end Go.Proofs.YtbicffldggcdhaaGreatDoor

namespace Go.Proofs.YtbicffldggcdhaaGreatDoor
open Go

section
variable {PT : PTy} (sp : TreeSpec PT) (cs : CloneSpec PT) {w : World} {wp : Nat} {tsv psv e a n : Value} {ts : List TP} {gs : List GP} {es as' ns : List Value} {colT col : Nat → Nat} {N j : Nat} {x : GP} {ea : List Addr} {o : OpR} {i c br bb cap : Nat} {rest : List Value} {ps as1 us ds : Value} {y : Cli}
set_option maxRecDepth 4000 in
set_option maxHeartbeats 1000000 in
theorem client_view (sp : TreeSpec PT) (cs : CloneSpec PT) (h : WH PT w wp tsv psv e a n ts gs es as' ns colT col) (hg : WG PT w gs col N) (hE : EI w wp ea) (hl : ts.length ≤ N ∧ gs.length ≤ N ∧ es.length ≤ 4 * N ∧ as'.length ≤ 4 * N ∧ ns.length ≤ 4 * N) (hN : N ≤ 1800000000000) (hx : gs[j]? = some x) (hB : CliB w col (200 * j + 200 + 10 + 10 * i) (200 * j + 200 + 4) c br bb cap rest ps as1 us ds y) (hy : x.P.cl o.b = some y) (hk : o.kind = 16) :
    Rets Tryz.prog 98 [Ptr wp, .agg x.vals.toArray, Ptr c, OpV o] w fun v w' => v = B true ∧ WAll PT w' wp (N + 1) ∧ Frm (fun b => wp ≤ b) w w' := by
  obtain ⟨p, r, Q, P⟩ := x
  have hG := hg j _ hx
  have hlog := hG.r.log
  have hb := qb_of hG.sim hG.sp hG.inv hN hlog
  have hhi := h.high
  have hwp := at_lt h.t.head
  have f1 : Frm0 w ((w.alloc (cel [Ptr p, Ptr r] 135)).alloc (cel o.vals 81)) := ((Frm.refl _ w).alloc _).alloc _
  have hg1 : At ((w.alloc (cel [Ptr p, Ptr r] 135)).alloc (cel o.vals 81)) w.heap.size (cel [Ptr p, Ptr r] 135) := at_alloc _ (at_alloc_new _ _)
  have ho1 : At ((w.alloc (cel [Ptr p, Ptr r] 135)).alloc (cel o.vals 81)) (w.heap.size + 1) (cel o.vals 81) := by
    have := at_alloc_new (w.alloc (cel [Ptr p, Ptr r] 135)) (cel o.vals 81)
    rw [World.size_alloc] at this
    exact this
  have hs1 : ((w.alloc (cel [Ptr p, Ptr r] 135)).alloc (cel o.vals 81)).heap.size = w.heap.size + 2 := by rw [World.size_alloc, World.size_alloc]
  show Rets Tryz.prog 98 [Ptr wp, .agg [Ptr p, Ptr r].toArray, Ptr c, OpV o] w _
  refine rets_of Tryz.func98 (by kernel_rfl) rfl Tryz.ntmps98 (Nat.le_of_ble_eq_true rfl) ?_
  refine runG12 ?_
  rw [show (w.alloc (cel [Ptr p, Ptr r] 135)).heap.size = w.heap.size + 1 from World.size_alloc _ _]
  generalize (w.alloc (cel [Ptr p, Ptr r] 135)).alloc (cel o.vals 81) = w1 at *
  have hG1 := hG.other sp f1 (fun _ _ _ h => h) (fun _ _ => rfl) (fun b hb => hhi b (Nat.le_trans f1.size hb))
  have hE1 := hE.errs.frm0 f1
  have hcl : Q.cl o.b = some (reprC y) := by rw [hG.sim.cl, hy]; rfl
  refine s_callf (PView_ret sp cs hG1.q hE1 hb o.b) rfl wnt_none ?_
  rintro v w2 hv
  rw [hcl] at hv
  obtain ⟨⟨t, rfl, hT2, hW2⟩, f2⟩ := hv
  have hg2 := f2.at0 hg1
  have ho2 := f2.at0 ho1
  have F2 := f1.trans0 f2
  refine runG12 ?_
  refine s_callf (RView_ret (hB.frm F2 (fun _ _ h => h)) (by have := (hG.inv.fitJoin y hy); omega)) rfl wnt_none ?_
  rintro v w3 ⟨⟨rr, rb, rcap, rrest, rfl, hR3, _, _⟩, f3⟩
  have F3 := F2.trans0 f3
  refine runG12 ?_
  refine s_val (r_nn rfl) wnt_none ?_
  refine runG12 ?_
  have hT3 : PT w3 t (viewC y) (fun b => w.heap.size ≤ b) := sp.weak (sp.frm hT2 f3 (fun _ _ h => h)) (fun b hb _ => by omega)
  refine s_callf (tree_ret sp h.t F3 hE.errs hT3 hR3 hW2 (by omega)) rfl (by (first | (with_reducible exact wnt_none) | ((with_reducible apply wnt_y); exact rfl; exact rfl; exact rfl; exact rfl; (with_reducible exact rfl)))) ?_
  rintro v w9 ⟨rfl, ⟨tsv', colT', o', hT, ht1, ht2⟩, f9⟩
  refine runG12 ?_
  exact ret_b rfl rfl ⟨rfl, ⟨_, _, _, _, _, _, _, _, _, _, _, _, h.trees sp f9 hT ht1 ht2, fun j x hx => ((WG.trees sp hg h f9) j x hx).mono (by omega), by simp; omega, by omega, by omega, by omega, by omega⟩, f9.mono (fun b hb => .inl (h.t.ts hb))⟩
set_option maxRecDepth 4000 in
set_option maxHeartbeats 1000000 in
theorem client_base (sp : TreeSpec PT) (cs : CloneSpec PT) (h : WH PT w wp tsv psv e a n ts gs es as' ns colT col) (hg : WG PT w gs col N) (hE : EI w wp ea) (hl : ts.length ≤ N ∧ gs.length ≤ N ∧ es.length ≤ 4 * N ∧ as'.length ≤ 4 * N ∧ ns.length ≤ 4 * N) (hN : N ≤ 1800000000000) (hx : gs[j]? = some x) (hB : CliB w col (200 * j + 200 + 10 + 10 * i) (200 * j + 200 + 4) c br bb cap rest ps as1 us ds y) (hy : x.P.cl o.b = some y) (hk : o.kind = 17) :
    Rets Tryz.prog 98 [Ptr wp, .agg x.vals.toArray, Ptr c, OpV o] w fun v w' => v = B true ∧ WAll PT w' wp (N + 1) ∧ Frm (fun b => wp ≤ b) w w' := by
  obtain ⟨p, r, Q, P⟩ := x
  have hG := hg j _ hx
  have hlog := hG.r.log
  have hb := qb_of hG.sim hG.sp hG.inv hN hlog
  have hhi := h.high
  have hwp := at_lt h.t.head
  have f1 : Frm0 w ((w.alloc (cel [Ptr p, Ptr r] 135)).alloc (cel o.vals 81)) := ((Frm.refl _ w).alloc _).alloc _
  have hg1 : At ((w.alloc (cel [Ptr p, Ptr r] 135)).alloc (cel o.vals 81)) w.heap.size (cel [Ptr p, Ptr r] 135) := at_alloc _ (at_alloc_new _ _)
  have ho1 : At ((w.alloc (cel [Ptr p, Ptr r] 135)).alloc (cel o.vals 81)) (w.heap.size + 1) (cel o.vals 81) := by
    have := at_alloc_new (w.alloc (cel [Ptr p, Ptr r] 135)) (cel o.vals 81)
    rw [World.size_alloc] at this
    exact this
  have hs1 : ((w.alloc (cel [Ptr p, Ptr r] 135)).alloc (cel o.vals 81)).heap.size = w.heap.size + 2 := by rw [World.size_alloc, World.size_alloc]
  show Rets Tryz.prog 98 [Ptr wp, .agg [Ptr p, Ptr r].toArray, Ptr c, OpV o] w _
  refine rets_of Tryz.func98 (by kernel_rfl) rfl Tryz.ntmps98 (Nat.le_of_ble_eq_true rfl) ?_
  refine runG12 ?_
  rw [show (w.alloc (cel [Ptr p, Ptr r] 135)).heap.size = w.heap.size + 1 from World.size_alloc _ _]
  generalize (w.alloc (cel [Ptr p, Ptr r] 135)).alloc (cel o.vals 81) = w1 at *
  have hG1 := hG.other sp f1 (fun _ _ _ h => h) (fun _ _ => rfl) (fun b hb => hhi b (Nat.le_trans f1.size hb))
  have hE1 := hE.errs.frm0 f1
  have hcl : Q.cl o.b = some (reprC y) := by rw [hG.sim.cl, hy]; rfl
  refine s_callf (PBase_ret sp cs hG1.q hE1 o.b) rfl wnt_none ?_
  rintro v w2 hv
  rw [hcl] at hv
  obtain ⟨⟨t, rfl, hT2, hW2⟩, f2⟩ := hv
  have F2 := f1.trans0 f2
  have hB2 := hB.frm F2 (fun _ _ h => h)
  have hh2 := hB2.head
  have hn : (reprC y).n = y.n := rfl
  rw [hn]
  refine runG12 ?_
  refine s_val (r_nn rfl) wnt_none ?_
  refine runG12 ?_
  have hT3 : PT w2 t y.base (fun b => w.heap.size ≤ b) := sp.weak hT2 (fun b hb _ => by omega)
  refine s_callf (tree_ret sp h.t F2 hE.errs hT3 hB2.base hB.wf (by omega)) rfl (by (first | (with_reducible exact wnt_none) | ((with_reducible apply wnt_y); exact rfl; exact rfl; exact rfl; exact rfl; (with_reducible exact rfl)))) ?_
  rintro v w9 ⟨rfl, ⟨tsv', colT', o', hT, ht1, ht2⟩, f9⟩
  refine runG12 ?_
  exact ret_b rfl rfl ⟨rfl, ⟨_, _, _, _, _, _, _, _, _, _, _, _, h.trees sp f9 hT ht1 ht2, fun j x hx => ((WG.trees sp hg h f9) j x hx).mono (by omega), by simp; omega, by omega, by omega, by omega, by omega⟩, f9.mono (fun b hb => .inl (h.t.ts hb))⟩
set_option maxRecDepth 4000 in
set_option maxHeartbeats 1000000 in
theorem looked_server (sp : TreeSpec PT) (cs : CloneSpec PT) (h : WH PT w wp tsv psv e a n ts gs es as' ns colT col) (hg : WG PT w gs col N) (hE : EI w wp ea) (hl : ts.length ≤ N ∧ gs.length ≤ N ∧ es.length ≤ 4 * N ∧ as'.length ≤ 4 * N ∧ ns.length ≤ 4 * N) (hN : N ≤ 1800000000000) (hx : gs[j]? = some x) (hk : o.kind = 20) :
    Rets Tryz.prog 64 [Ptr wp, .agg x.vals.toArray, OpV o] w fun v w' => v = B true ∧ WAll PT w' wp (N + 1) ∧ Frm (fun b => wp ≤ b) w w' := by
  obtain ⟨p, r, Q, P⟩ := x
  have hG := hg j _ hx
  have hlog := hG.r.log
  have hb := qb_of hG.sim hG.sp hG.inv hN hlog
  have hhi := h.high
  have hwp := at_lt h.t.head
  have f1 : Frm0 w ((w.alloc (cel [Ptr p, Ptr r] 135)).alloc (cel o.vals 81)) := ((Frm.refl _ w).alloc _).alloc _
  have hg1 : At ((w.alloc (cel [Ptr p, Ptr r] 135)).alloc (cel o.vals 81)) w.heap.size (cel [Ptr p, Ptr r] 135) := at_alloc _ (at_alloc_new _ _)
  have ho1 : At ((w.alloc (cel [Ptr p, Ptr r] 135)).alloc (cel o.vals 81)) (w.heap.size + 1) (cel o.vals 81) := by
    have := at_alloc_new (w.alloc (cel [Ptr p, Ptr r] 135)) (cel o.vals 81)
    rw [World.size_alloc] at this
    exact this
  have hs1 : ((w.alloc (cel [Ptr p, Ptr r] 135)).alloc (cel o.vals 81)).heap.size = w.heap.size + 2 := by rw [World.size_alloc, World.size_alloc]
  show Rets Tryz.prog 64 [Ptr wp, .agg [Ptr p, Ptr r].toArray, OpV o] w _
  refine rets_of Tryz.func64 (by kernel_rfl) rfl Tryz.ntmps64 (Nat.le_of_ble_eq_true rfl) ?_
  refine runG12 ?_
  rw [show (w.alloc (cel [Ptr p, Ptr r] 135)).heap.size = w.heap.size + 1 from World.size_alloc _ _]
  generalize (w.alloc (cel [Ptr p, Ptr r] 135)).alloc (cel o.vals 81) = w1 at *
  have hG1 := hG.other sp f1 (fun _ _ _ h => h) (fun _ _ => rfl) (fun b hb => hhi b (Nat.le_trans f1.size hb))
  have hE1 := hE.errs.frm0 f1
  refine s_callf (PServer_ret sp cs hG1.q) rfl wnt_none ?_
  rintro v w2 ⟨t, rfl, hT2, hW2, f2⟩
  have F2 := f1.trans0 f2
  have hg2 := f2.at0 hg1
  have ho2 := f2.at0 ho1
  have hR0 : RefP w2 col (200 * j + 200) r P := (hG.other sp F2 (fun _ _ _ h => h) (fun _ _ => rfl) (fun b hb => hhi b (Nat.le_trans F2.size hb))).r
  obtain ⟨rr, rb, rcap, rrest, ess, lb, lcap, lrest, css, hR⟩ := hR0
  obtain ⟨ea1, ec1, rfl⟩ := hR.ents.isSl
  have hh2 := hR.head
  have hn : Q.n = P.ents.length := hG.sim.n
  have ht : Q.t = P.t := hG.sim.t
  have hel := (hG.inv.ents hN).1
  rw [hn]
  refine runG12 ?_
  have hT3 : PT w2 t P.t (fun b => w.heap.size ≤ b) := by rw [← ht]; exact sp.weak hT2 (fun b hb _ => by omega)
  refine s_callf (tree_ret sp h.t F2 hE.errs hT3 hR.tree hR.wf (by omega)) rfl (by (first | (with_reducible exact wnt_none) | ((with_reducible apply wnt_y); exact rfl; exact rfl; exact rfl; exact rfl; (with_reducible exact rfl)))) ?_
  rintro v w9 ⟨rfl, ⟨tsv', colT', o', hT, ht1, ht2⟩, f9⟩
  refine runG12 ?_
  exact ret_b rfl rfl ⟨rfl, ⟨_, _, _, _, _, _, _, _, _, _, _, _, h.trees sp f9 hT ht1 ht2, fun j x hx => ((WG.trees sp hg h f9) j x hx).mono (by omega), by simp; omega, by omega, by omega, by omega, by omega⟩, f9.mono (fun b hb => .inl (h.t.ts hb))⟩
end
end Go.Proofs.YtbicffldggcdhaaGreatDoor
