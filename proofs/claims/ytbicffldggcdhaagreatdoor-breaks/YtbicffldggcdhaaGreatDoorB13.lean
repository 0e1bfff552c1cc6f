/-
  WL5; WL6; WL7; WL8Breaks; LScr.
-/
import Derived.Test.YtbicffldggcdhaaGreatDoorB12
import Derived.Test.YtbicffldggcdhaaGreatDoorB04
import Derived.Deep.Slices
import Derived.SizedLaws
import Derived.ChangeArms
namespace Go.Proofs.YtbicffldggcdhaaGreatDoor
open Go
theorem runG13 {G K : Prop} (k : K) (h : Wrap K → G := by intro h; (repeat (first | (with_reducible first | refine wpIn_seq ?_ | refine w_reg ?_ | refine s_nil ?_ | refine s_nilQ ?_ | refine wpIn_block ?_ | refine q_then ?_ | refine q_blk ?_ | refine q_then_ret ?_ | refine q_blk_ret ?_ | refine q_then_exit ?_ | refine q_blk_exit ?_ | refine wpIn_skip ?_ | refine wpIn_ret ?_ | refine wpIn_exit ?_ | refine y_nil ?_ | refine y_nilQ ?_ | refine x_late ?_) | ((with_reducible refine q_blk_other ?_ ?_); exact rfl) | ((with_reducible apply c_true); exact rfl; (with_reducible exact rfl)) | ((with_reducible apply c_false); exact rfl; (with_reducible exact rfl)) | ((with_reducible apply s_no); (first | ((with_reducible apply wnt_nt); exact rfl; exact rfl; exact rfl; exact rfl; (with_reducible exact rfl)) | ((with_reducible apply wnt_nf); exact rfl; exact rfl; exact rfl; exact rfl; (with_reducible exact rfl)))) | ((with_reducible apply x_qno); exact rfl; (first | ((with_reducible apply wnt_nt); exact rfl; exact rfl; exact rfl; exact rfl; (with_reducible exact rfl)) | ((with_reducible apply wnt_nf); exact rfl; exact rfl; exact rfl; exact rfl; (with_reducible exact rfl)))) | ((first | with_reducible apply s_val | ((with_reducible apply y_val); exact rfl) | ((with_reducible apply x_q); exact rfl; intro wq hq)); (first | ((with_reducible apply r_boxA); exact rfl) | ((with_reducible apply r_box1); exact rfl; exact rfl) | ((with_reducible apply r_assign_b); exact rfl) | ((with_reducible apply r_fld); exact fa_ok rfl; exact rfl) | ((with_reducible apply r_load); exact u_ok rfl; exact rfl; exact rfl; (first | exact Frm.at0 hq (by assumption) | exact Frm.at hq (by assumption) (by assumption) | (first | (with_reducible assumption) | assumption | exact at_alloc_new _ _ | (repeat (first | assumption | exact at_alloc_new _ _ | refine at_drew ?_ | refine at_alloc _ ?_)))); exact rfl) | ((with_reducible apply r_eql_t); exact rfl; exact rfl; omega) | ((with_reducible apply r_eql_f); exact rfl; exact rfl; omega) | ((with_reducible apply r_eql); exact rfl; exact rfl) | ((with_reducible apply r_move_t); exact rfl) | ((with_reducible apply r_extract); exact rfl; exact rfl) | ((with_reducible apply r_assign_p); exact rfl) | ((with_reducible apply r_assign_if); exact rfl) | ((with_reducible apply r_assign_ni); exact rfl) | ((with_reducible apply r_move_p); exact rfl) | ((with_reducible apply r_move_if); exact rfl) | ((with_reducible apply r_move_ni); exact rfl) | ((with_reducible apply r_move_b); exact rfl) | ((with_reducible apply r_pick_t); exact rfl; (with_reducible exact rfl); exact rfl) | ((with_reducible apply r_pick_f); exact rfl; (with_reducible exact rfl); exact rfl) | ((with_reducible apply r_assign_i); exact rfl) | ((with_reducible apply r_move_i); exact rfl) | ((with_reducible apply r_nilCheck); exact rfl) | ((with_reducible apply r_assign_s); exact rfl) | ((with_reducible apply r_move_s); exact rfl) | ((with_reducible apply r_len); exact u_ok rfl; exact rfl) | ((with_reducible apply r_lss_t); exact rfl; exact rfl; omega) | ((with_reducible apply r_lss_f); exact rfl; exact rfl; omega) | ((with_reducible apply r_lss); exact rfl; exact rfl) | ((with_reducible apply r_index); exact u_ok rfl; exact s_ok rfl; exact rfl; exact rfl; omega; omega) | ((with_reducible apply r_indexarr); exact u_ok rfl; exact s_ok rfl; exact rfl; exact rfl; omega; omega) | ((with_reducible apply r_loadA); exact u_ok rfl; exact rfl; exact s_ok rfl; exact rfl; (first | exact Frm.at0 hq (by assumption) | exact Frm.at hq (by assumption) (by assumption) | (first | (with_reducible assumption) | assumption | exact at_alloc_new _ _ | (repeat (first | assumption | exact at_alloc_new _ _ | refine at_drew ?_ | refine at_alloc _ ?_)))); exact Nat.le_of_ble_eq_true rfl) | ((with_reducible apply r_add); exact rfl; exact rfl; omega; omega) | ((with_reducible apply r_geq_t); exact rfl; exact rfl; omega) | ((with_reducible apply r_geq_f); exact rfl; exact rfl; omega) | ((with_reducible apply r_geq); exact rfl; exact rfl) | ((with_reducible apply r_leq_t); exact rfl; exact rfl; omega) | ((with_reducible apply r_leq_f); exact rfl; exact rfl; omega) | ((with_reducible apply r_leq); exact rfl; exact rfl) | ((with_reducible apply r_gtr_t); exact rfl; exact rfl; omega) | ((with_reducible apply r_gtr_f); exact rfl; exact rfl; omega) | ((with_reducible apply r_gtr); exact rfl; exact rfl) | ((with_reducible apply r_allocA); exact z_ok rfl) | ((with_reducible apply r_alloc1); exact z_ok rfl; exact rfl) | ((with_reducible apply r_not_t); exact rfl; (with_reducible exact rfl)) | ((with_reducible apply r_not_f); exact rfl; (with_reducible exact rfl)) | ((with_reducible apply r_not); exact rfl)); (first | (with_reducible exact wnt_none) | ((with_reducible apply wnt_y); exact rfl; exact rfl; exact rfl; exact rfl; (with_reducible exact rfl)))))); exact h.out) : G := h ⟨k⟩

theorem rowO_at {w : World} {v : Value} {e sz m : Nat} {pre : List Value} (h : RowO w v e sz m pre) (hm : 0 < m) : ∃ b skip cap rest, v = .slice (some ⟨b, List.length skip, none⟩) m cap ∧ At w b (cel (skip ++ (pre ++ rest)) e) ∧ pre.length = m * sz := by
  rcases h with ⟨_, h0, _⟩ | ⟨b, skip, cap, rest, h1, h2, h3, _⟩
  · omega
  · exact ⟨b, skip, cap, rest, h1, h2, h3⟩
section
variable {PT : PTy} (sp : TreeSpec PT) (cs : CloneSpec PT) {w : World} {wp : Nat} {tsv psv e a n : Value} {ts : List TP} {gs : List GP} {es as' ns : List Value} {colT col : Nat → Nat} {N j : Nat} {x : GP} {ea : List Addr} {o : OpR} {i c br bb cap : Nat} {rest : List Value} {ps as1 us ds : Value} {y : Cli}
set_option maxRecDepth 4000 in
set_option maxHeartbeats 1000000 in
theorem client_pending (sp : TreeSpec PT) (_cs : CloneSpec PT) (h : WH PT w wp tsv psv e a n ts gs es as' ns colT col) (hg : WG PT w gs col N) (hE : EI w wp ea) (hl : ts.length ≤ N ∧ gs.length ≤ N ∧ es.length ≤ 4 * N ∧ as'.length ≤ 4 * N ∧ ns.length ≤ 4 * N) (hN : N ≤ 1800000000000) (hx : gs[j]? = some x) (hB : CliB w col (200 * j + 200 + 10 + 10 * i) (200 * j + 200 + 4) c br bb cap rest ps as1 us ds y) (hy : x.P.cl o.b = some y) (hk : o.kind = 18) :
    Rets Tryz.prog 98 [Ptr wp, .agg x.vals.toArray, Ptr c, OpV o] w fun v w' => v = B true ∧ WAll PT w' wp (N + 1) ∧ Frm (fun b => wp ≤ b) w w' := by
  obtain ⟨p, r, Q, P⟩ := x
  have hG := hg j _ hx
  have hlog := hG.r.log
  have hb := qb_of hG.sim hG.sp hG.inv hN hlog
  have hhi := h.high
  have hwp := at_lt h.t.head
  have f1 : Frm0 w ((w.alloc (cel [Ptr p, Ptr r] 135)).alloc (cel o.vals 81)) := ((Frm.refl _ w).alloc _).alloc _
  have hg1 : At ((w.alloc (cel [Ptr p, Ptr r] 135)).alloc (cel o.vals 81)) w.heap.size (cel [Ptr p, Ptr r] 135) := at_alloc _ (at_alloc_new _ _)
  have ho1 : At ((w.alloc (cel [Ptr p, Ptr r] 135)).alloc (cel o.vals 81)) (w.heap.size + 1) (cel o.vals 81) := by
    have := at_alloc_new (w.alloc (cel [Ptr p, Ptr r] 135)) (cel o.vals 81)
    rw [World.size_alloc] at this
    exact this
  have hs1 : ((w.alloc (cel [Ptr p, Ptr r] 135)).alloc (cel o.vals 81)).heap.size = w.heap.size + 2 := by rw [World.size_alloc, World.size_alloc]
  show Rets Tryz.prog 98 [Ptr wp, .agg [Ptr p, Ptr r].toArray, Ptr c, OpV o] w _
  refine rets_of Tryz.func98 (by kernel_rfl) rfl Tryz.ntmps98 (Nat.le_of_ble_eq_true rfl) ?_
  refine runG13 ?_
  rw [show (w.alloc (cel [Ptr p, Ptr r] 135)).heap.size = w.heap.size + 1 from World.size_alloc _ _]
  generalize (w.alloc (cel [Ptr p, Ptr r] 135)).alloc (cel o.vals 81) = w1 at *
  have hG1 := hG.other sp f1 (fun _ _ _ h => h) (fun _ _ => rfl) (fun b hb => hhi b (Nat.le_trans f1.size hb))
  have hE1 := hE.errs.frm0 f1
  have hcl : Q.cl o.b = some (reprC y) := by rw [hG.sim.cl, hy]; rfl
  refine s_callf (PPending_ret sp hG1.q hE1 hb o.b) rfl wnt_none ?_
  rintro v w2 hv
  rw [hcl] at hv
  obtain ⟨lv, rfl, hR, hnew, f2⟩ := hv
  have F2 := f1.trans0 f2
  have hp6 := hG.inv.fitJoin y hy
  have hR : Row w2 lv 31 6 (y.pend.map (·.2)).length (fl Ed.vals (y.pend.map (·.2))) := hR
  obtain ⟨m0, hm0⟩ : ∃ m0, (y.pend.map (·.2)).length = m0 := ⟨_, rfl⟩
  have hm1 : y.pend.length = m0 := by rw [← hm0, List.length_map]
  rw [hm0] at hR
  obtain ⟨xa, xc, rfl⟩ := hR.isSl
  have hB2 := hB.frm F2 (fun _ _ h => h)
  obtain ⟨pa, pc, hpe⟩ := hB2.pend.isSl
  rw [hm1] at hpe
  subst hpe
  have hh2 := hB2.head
  refine runG13 ?_
  refine s_val (r_nn rfl) wnt_none ?_
  refine runG13 ?_
  refine lp (fun env w' => Frm0 w2 w' ∧ ∃ env0, ∃ q : Nat, env = setL env0 [(0, Ptr wp), (2, Ptr c), (15, .slice xa m0 xc), (17, B true), (18, I q)] ∧ q ≤ m0) (fun env _ => m0 - cnt (env 18)) ?_ ?_
  · exact ⟨Frm.refl _ _, _, 0, fixL ⟨rfl, rfl, rfl, rfl, rfl, trivial⟩, by omega⟩
  · rintro env w4 ⟨f4, env0, q, rfl, hq⟩
    have hh4 := f4.at0 hh2
    by_cases hlt : q < m0
    · obtain ⟨z, hz⟩ : ∃ z, (y.pend.map (·.2))[q]? = some z := ⟨_, List.getElem?_eq_getElem (by rw [hm0]; exact hlt)⟩
      rcases hR with ⟨_, h0, _⟩ | ⟨lb, lcap, lrest, e9, hLA, hpl, hr, hc⟩
      · omega
      cases e9
      have hL4 := f4.at0 hLA
      have hsub : sub (fl Ed.vals (y.pend.map (·.2)) ++ lrest) (0 + (q : Int).toNat * 6) 6 = Ed.vals z := by
        have := fl_sub (f := Ed.vals) (k := 6) (fun _ => rfl) (y.pend.map (·.2)) q z hz [] lrest
        rw [List.nil_append, List.length_nil] at this
        rw [show 0 + (q : Int).toNat * 6 = 0 + q * 6 by omega]
        exact this
      have hlen : 0 + (q : Int).toNat * 6 + 6 ≤ (fl Ed.vals (y.pend.map (·.2)) ++ lrest).length := by
        rw [List.length_append, fl_len (f := Ed.vals) (k := 6) (fun _ => rfl), hm0]
        omega
      obtain ⟨qp, hqp, hqz⟩ : ∃ qp, y.pend[q]? = some qp ∧ qp.2 = z := by
        rw [List.getElem?_map] at hz
        cases hq9 : y.pend[q]? with
        | none => rw [hq9] at hz; cases hz
        | some qp => rw [hq9] at hz; exact ⟨qp, rfl, Option.some.inj hz⟩
      obtain ⟨pb, skip, pcap, prest, e8, hpA, hppl⟩ := rowO_at (m := m0) (by have := hB2.pend; rw [hm1] at this; exact this) (by omega)
      cases e8
      have hS4 := f4.at0 hpA
      have hlen2 : skip.length + (q : Int).toNat * 7 + 1 + 6 ≤ (skip ++ (fl pdV y.pend ++ prest)).length := by
        rw [List.length_append, List.length_append, fl_len (f := pdV) (k := 7) (fun _ => rfl), hm1]
        omega
      have hsub2 : sub (skip ++ (fl pdV y.pend ++ prest)) (skip.length + (q : Int).toNat * 7 + 1) 6 = Ed.vals z := by
        rw [show (q : Int).toNat = q by omega, ← hqz]
        exact fl_subAt pd_len hqp (by omega) skip prest
      refine runG13 ?_
      refine w_drawn ((0, false) :: (1, false) :: (2, false) :: (3, false) :: (4, false) :: (5, false) :: (6, false) :: (7, false) :: (8, false) :: (9, false) :: (10, false) :: (11, false) :: (12, false) :: (13, false) :: []) [] (fun wq => Frm0 w4 wq) mixed (by kernel_rfl) ?_ ?_
      · exact Frm.of_drew _
      · refine runG13 ?_
        refine x_q rfl (fun wq hq => r_loadV (vs := Ed.vals z) (u_ok rfl) rfl (s_ok rfl) rfl (hq.at0 hL4) hlen hsub) wnt_none ?_
        refine runG13 ?_
        refine x_q rfl (fun wq hq => r_loadV (vs := Ed.vals z) (u_ok rfl) rfl (s_ok rfl) rfl (hq.at0 hS4) hlen2 hsub2) wnt_none ?_
        refine runG13 ?_
        refine x_q rfl (fun wq hq => r_eq_edit (n := z) rfl rfl) wnt_none ?_
        refine runG13 ?_
        exact ⟨_, rfl, ⟨f4.drew, _, q + 1, fixL ⟨rfl, rfl, rfl, rfl, rfl, trivial⟩, by omega⟩, by show m0 - ((q : Int) + 1).toNat < m0 - (q : Int).toNat; omega⟩
    · have hqe : m0 = q := by omega
      subst hqe
      have hA9 : At w4 wp (cel [tsv, psv, e, a, n] 79) := (F2.trans0 f4).at0 h.t.head
      have hB9 := h.be.go (S := fun _ => False) (F2.trans0 f4) (fun _ h => h.elim) (fun _ _ => rfl)
      have hlw : ∀ b, InV (.slice xa m0 xc) b → w.heap.size ≤ b := fun b hb => by have := hnew b hb; omega
      refine runG13 ?_
      refine s_callf (keepsEdits_ret hA9 hB9 (hR.frm f4 (fun _ _ h => h)) (fun b hb => ⟨h.high b (hlw b hb), fun e9 => by have := hlw b hb; omega⟩) (by omega) (by omega) (fun b hb => h.high b (by have := (F2.trans0 f4).size; omega)) (h.col0 wp (Nat.le_refl _))) rfl wnt_none ?_
      rintro v w9 ⟨v9, us9, col9, hA10, hB10, hlen9, hK⟩
      obtain ⟨hW9, hG9, f9⟩ := h.keep1 sp hg (F2.trans0 f4) hA10 hB10 hK hlw
      refine runG13 ?_
      exact ret_b rfl rfl ⟨rfl, ⟨_, _, _, _, _, _, _, _, _, _, _, _, hW9, fun j x hx => (hG9 j x hx).mono (by omega), by omega, by omega, by omega, by omega, by omega⟩, f9⟩
set_option maxRecDepth 4000 in
set_option maxHeartbeats 1000000 in
theorem client_answers (sp : TreeSpec PT) (_cs : CloneSpec PT) (h : WH PT w wp tsv psv e a n ts gs es as' ns colT col) (hg : WG PT w gs col N) (hE : EI w wp ea) (hl : ts.length ≤ N ∧ gs.length ≤ N ∧ es.length ≤ 4 * N ∧ as'.length ≤ 4 * N ∧ ns.length ≤ 4 * N) (hN : N ≤ 1800000000000) (hx : gs[j]? = some x) (hB : CliB w col (200 * j + 200 + 10 + 10 * i) (200 * j + 200 + 4) c br bb cap rest ps as1 us ds y) (hy : x.P.cl o.b = some y) (hk : o.kind = 19) :
    Rets Tryz.prog 98 [Ptr wp, .agg x.vals.toArray, Ptr c, OpV o] w fun v w' => v = B true ∧ WAll PT w' wp (N + 1) ∧ Frm (fun b => wp ≤ b) w w' := by
  obtain ⟨p, r, Q, P⟩ := x
  have hG := hg j _ hx
  have hlog := hG.r.log
  have hb := qb_of hG.sim hG.sp hG.inv hN hlog
  have hhi := h.high
  have hwp := at_lt h.t.head
  have f1 : Frm0 w ((w.alloc (cel [Ptr p, Ptr r] 135)).alloc (cel o.vals 81)) := ((Frm.refl _ w).alloc _).alloc _
  have hg1 : At ((w.alloc (cel [Ptr p, Ptr r] 135)).alloc (cel o.vals 81)) w.heap.size (cel [Ptr p, Ptr r] 135) := at_alloc _ (at_alloc_new _ _)
  have ho1 : At ((w.alloc (cel [Ptr p, Ptr r] 135)).alloc (cel o.vals 81)) (w.heap.size + 1) (cel o.vals 81) := by
    have := at_alloc_new (w.alloc (cel [Ptr p, Ptr r] 135)) (cel o.vals 81)
    rw [World.size_alloc] at this
    exact this
  have hs1 : ((w.alloc (cel [Ptr p, Ptr r] 135)).alloc (cel o.vals 81)).heap.size = w.heap.size + 2 := by rw [World.size_alloc, World.size_alloc]
  show Rets Tryz.prog 98 [Ptr wp, .agg [Ptr p, Ptr r].toArray, Ptr c, OpV o] w _
  refine rets_of Tryz.func98 (by kernel_rfl) rfl Tryz.ntmps98 (Nat.le_of_ble_eq_true rfl) ?_
  refine runG13 ?_
  rw [show (w.alloc (cel [Ptr p, Ptr r] 135)).heap.size = w.heap.size + 1 from World.size_alloc _ _]
  generalize (w.alloc (cel [Ptr p, Ptr r] 135)).alloc (cel o.vals 81) = w1 at *
  have hG1 := hG.other sp f1 (fun _ _ _ h => h) (fun _ _ => rfl) (fun b hb => hhi b (Nat.le_trans f1.size hb))
  have hE1 := hE.errs.frm0 f1
  have hcl : Q.cl o.b = some (reprC y) := by rw [hG.sim.cl, hy]; rfl
  refine s_callf (PAnswers_ret sp hG1.q hE1 hb o.b) rfl wnt_none ?_
  rintro v w2 hv
  rw [hcl] at hv
  obtain ⟨lv, rfl, hR, hnew, f2⟩ := hv
  have F2 := f1.trans0 f2
  have hp6 := hG.inv.fitDown hN y hy
  have hR : Row w2 lv 123 2 y.ans.length (fl Ans.vals y.ans) := hR
  obtain ⟨m0, hm0⟩ : ∃ m0, y.ans.length = m0 := ⟨_, rfl⟩
  rw [hm0] at hR
  obtain ⟨xa, xc, rfl⟩ := hR.isSl
  have hB2 := hB.frm F2 (fun _ _ h => h)
  obtain ⟨pa, pc, hpe⟩ := hB2.ans.isSl
  rw [hm0] at hpe
  subst hpe
  have hh2 := hB2.head
  have hm9 : m0 < 1900000000000 := by omega
  refine runG13 ?_
  refine s_val (r_nn rfl) wnt_none ?_
  refine runG13 ?_
  refine lp (fun env w' => Frm0 w2 w' ∧ ∃ env0, ∃ q : Nat, env = setL env0 [(0, Ptr wp), (2, Ptr c), (19, .slice xa m0 xc), (21, B true), (22, I q)] ∧ q ≤ m0) (fun env _ => m0 - cnt (env 22)) ?_ ?_
  · exact ⟨Frm.refl _ _, _, 0, fixL ⟨rfl, rfl, rfl, rfl, rfl, trivial⟩, by omega⟩
  · rintro env w4 ⟨f4, env0, q, rfl, hq⟩
    have hh4 := f4.at0 hh2
    by_cases hlt : q < m0
    · obtain ⟨z, hz⟩ : ∃ z, (y.ans)[q]? = some z := ⟨_, List.getElem?_eq_getElem (by rw [hm0]; exact hlt)⟩
      rcases hR with ⟨_, h0, _⟩ | ⟨lb, lcap, lrest, e9, hLA, hpl, hr, hc⟩
      · omega
      cases e9
      have hL4 := f4.at0 hLA
      have hsub : sub (fl Ans.vals (y.ans) ++ lrest) (0 + (q : Int).toNat * 2) 2 = Ans.vals z := by
        have := fl_sub (f := Ans.vals) (k := 2) (fun _ => rfl) (y.ans) q z hz [] lrest
        rw [List.nil_append, List.length_nil] at this
        rw [show 0 + (q : Int).toNat * 2 = 0 + q * 2 by omega]
        exact this
      have hlen : 0 + (q : Int).toNat * 2 + 2 ≤ (fl Ans.vals (y.ans) ++ lrest).length := by
        rw [List.length_append, fl_len (f := Ans.vals) (k := 2) (fun _ => rfl), hm0]
        omega
      obtain ⟨pb, skip, pcap, prest, e8, hpA, hppl⟩ := rowO_at (m := m0) (by have := hB2.ans; rw [hm0] at this; exact this) (by omega)
      cases e8
      have hS4 := f4.at0 hpA
      have hlen2 : skip.length + (q : Int).toNat * 2 + 2 ≤ (skip ++ (fl Ans.vals y.ans ++ prest)).length := by
        rw [List.length_append, List.length_append, fl_len (f := Ans.vals) (k := 2) (fun _ => rfl), hm0]
        omega
      have hsub2 : sub (skip ++ (fl Ans.vals y.ans ++ prest)) (skip.length + (q : Int).toNat * 2) 2 = Ans.vals z := by
        rw [show (q : Int).toNat = q by omega]
        exact fl_sub (f := Ans.vals) (k := 2) (fun _ => rfl) y.ans q z hz skip prest
      refine runG13 ?_
      refine w_drawn ((0, false) :: (1, false) :: (2, false) :: (3, false) :: (4, false) :: (5, false) :: (6, false) :: (7, false) :: (8, false) :: (9, false) :: (10, false) :: (11, false) :: (12, false) :: []) [] (fun wq => Frm0 w4 wq) mixed (by kernel_rfl) ?_ ?_
      · exact Frm.of_drew _
      · refine runG13 ?_
        refine x_q rfl (fun wq hq => r_loadV (vs := Ans.vals z) (u_ok rfl) rfl (s_ok rfl) rfl (hq.at0 hL4) hlen hsub) wnt_none ?_
        refine runG13 ?_
        refine x_q rfl (fun wq hq => r_loadV (vs := Ans.vals z) (u_ok rfl) rfl (s_ok rfl) rfl (hq.at0 hS4) hlen2 hsub2) wnt_none ?_
        refine runG13 ?_
        refine x_q rfl (fun wq hq => r_eq_ans (n := z) rfl rfl) wnt_none ?_
        refine runG13 ?_
        exact ⟨_, rfl, ⟨f4.drew, _, q + 1, fixL ⟨rfl, rfl, rfl, rfl, rfl, trivial⟩, by omega⟩, by show m0 - ((q : Int) + 1).toNat < m0 - (q : Int).toNat; omega⟩
    · have hqe : m0 = q := by omega
      subst hqe
      have hA9 : At w4 wp (cel [tsv, psv, e, a, n] 79) := (F2.trans0 f4).at0 h.t.head
      have hB9 := h.ba.go (S := fun _ => False) (F2.trans0 f4) (fun _ h => h.elim) (fun _ _ => rfl)
      have hlw : ∀ b, InV (.slice xa m0 xc) b → w.heap.size ≤ b := fun b hb => by have := hnew b hb; omega
      refine runG13 ?_
      refine s_callf (keepsAnswers_ret hA9 hB9 (hR.frm f4 (fun _ _ h => h)) (fun b hb => ⟨h.high b (hlw b hb), fun e9 => by have := hlw b hb; omega⟩) (by omega) (by omega) (fun b hb => h.high b (by have := (F2.trans0 f4).size; omega)) (h.col0 wp (Nat.le_refl _))) rfl wnt_none ?_
      rintro v w9 ⟨v9, us9, col9, hA10, hB10, hlen9, hK⟩
      obtain ⟨hW9, hG9, f9⟩ := h.keep2 sp hg (F2.trans0 f4) hA10 hB10 hK hlw
      refine runG13 ?_
      exact ret_b rfl rfl ⟨rfl, ⟨_, _, _, _, _, _, _, _, _, _, _, _, hW9, fun j x hx => (hG9 j x hx).mono (by omega), by omega, by omega, by omega, by omega, by omega⟩, f9⟩
set_option maxRecDepth 4000 in
set_option maxHeartbeats 1000000 in
theorem looked_log (sp : TreeSpec PT) (_cs : CloneSpec PT) (h : WH PT w wp tsv psv e a n ts gs es as' ns colT col) (hg : WG PT w gs col N) (hE : EI w wp ea) (hl : ts.length ≤ N ∧ gs.length ≤ N ∧ es.length ≤ 4 * N ∧ as'.length ≤ 4 * N ∧ ns.length ≤ 4 * N) (hN : N ≤ 1800000000000) (hx : gs[j]? = some x) (hk : o.kind = 21) :
    Rets Tryz.prog 64 [Ptr wp, .agg x.vals.toArray, OpV o] w fun v w' => v = B true ∧ WAll PT w' wp (N + 1) ∧ Frm (fun b => wp ≤ b) w w' := by
  obtain ⟨p, r, Q, P⟩ := x
  have hG := hg j _ hx
  have hlog := hG.r.log
  have hb := qb_of hG.sim hG.sp hG.inv hN hlog
  have hhi := h.high
  have hwp := at_lt h.t.head
  have f1 : Frm0 w ((w.alloc (cel [Ptr p, Ptr r] 135)).alloc (cel o.vals 81)) := ((Frm.refl _ w).alloc _).alloc _
  have hg1 : At ((w.alloc (cel [Ptr p, Ptr r] 135)).alloc (cel o.vals 81)) w.heap.size (cel [Ptr p, Ptr r] 135) := at_alloc _ (at_alloc_new _ _)
  have ho1 : At ((w.alloc (cel [Ptr p, Ptr r] 135)).alloc (cel o.vals 81)) (w.heap.size + 1) (cel o.vals 81) := by
    have := at_alloc_new (w.alloc (cel [Ptr p, Ptr r] 135)) (cel o.vals 81)
    rw [World.size_alloc] at this
    exact this
  have hs1 : ((w.alloc (cel [Ptr p, Ptr r] 135)).alloc (cel o.vals 81)).heap.size = w.heap.size + 2 := by rw [World.size_alloc, World.size_alloc]
  show Rets Tryz.prog 64 [Ptr wp, .agg [Ptr p, Ptr r].toArray, OpV o] w _
  refine rets_of Tryz.func64 (by kernel_rfl) rfl Tryz.ntmps64 (Nat.le_of_ble_eq_true rfl) ?_
  refine runG13 ?_
  rw [show (w.alloc (cel [Ptr p, Ptr r] 135)).heap.size = w.heap.size + 1 from World.size_alloc _ _]
  generalize (w.alloc (cel [Ptr p, Ptr r] 135)).alloc (cel o.vals 81) = w1 at *
  have hG1 := hG.other sp f1 (fun _ _ _ h => h) (fun _ _ => rfl) (fun b hb => hhi b (Nat.le_trans f1.size hb))
  have hE1 := hE.errs.frm0 f1
  refine s_callf (PLog_ret hG1.q hb) rfl wnt_none ?_
  rintro lv w3 ⟨hR, hnew, f3⟩
  have hbl := hb.log
  have F3 := f1.trans0 f3
  have hg2 := f3.at0 hg1
  have ho2 := f3.at0 ho1
  have hlg : Q.log = logP P := hG.sim.log
  have hR : Row w3 lv 54 9 Q.log.length (fl Ent.vals Q.log) := hR
  have hbl : Q.log.length < 1000 := hbl
  rw [hlg] at hR hbl
  obtain ⟨m0, hm0⟩ : ∃ m0, (logP P).length = m0 := ⟨_, rfl⟩
  rw [hm0] at hR hbl
  obtain ⟨xa, xc, rfl⟩ := hR.isSl
  have hR0 : RefP w3 col (200 * j + 200) r P := (hG.other sp F3 (fun _ _ _ h => h) (fun _ _ => rfl) (fun b hb => hhi b (Nat.le_trans F3.size hb))).r
  obtain ⟨rr, rb, rcap, rrest, ess, lb9, lcap9, lrest9, css, hRB⟩ := hR0
  refine runG13 ?_
  refine s_callf (RLog_ret hRB (hG.inv.ents hN).1) rfl wnt_none ?_
  rintro mv w2 ⟨hM, _, f2b⟩
  rw [hm0] at hM
  obtain ⟨ya, yc, rfl⟩ := hM.isSl
  have F2 := F3.trans0 f2b
  replace hR := hR.frm f2b (fun _ _ h => h)
  refine runG13 ?_
  refine lp (fun env w' => Frm0 w2 w' ∧ ∃ env0, ∃ q : Nat, env = setL env0 [(0, Ptr wp), (10, .slice ya m0 yc), (9, .slice xa m0 xc), (11, B true), (12, I q)] ∧ q ≤ m0) (fun env _ => m0 - cnt (env 12)) ?_ ?_
  · exact ⟨Frm.refl _ _, _, 0, fixL ⟨rfl, rfl, rfl, rfl, rfl, trivial⟩, by omega⟩
  · rintro env w4 ⟨f4, env0, q, rfl, hq⟩

    by_cases hlt : q < m0
    · obtain ⟨z, hz⟩ : ∃ z, (logP P)[q]? = some z := ⟨_, List.getElem?_eq_getElem (by rw [hm0]; exact hlt)⟩
      rcases hR with ⟨_, h0, _⟩ | ⟨lb, lcap, lrest, e9, hLA, hpl, hr, hc⟩
      · omega
      cases e9
      have hL4 := f4.at0 hLA
      have hsub : sub (fl Ent.vals (logP P) ++ lrest) (0 + (q : Int).toNat * 9) 9 = Ent.vals z := by
        have := fl_sub (f := Ent.vals) (k := 9) (fun _ => rfl) (logP P) q z hz [] lrest
        rw [List.nil_append, List.length_nil] at this
        rw [show 0 + (q : Int).toNat * 9 = 0 + q * 9 by omega]
        exact this
      have hlen : 0 + (q : Int).toNat * 9 + 9 ≤ (fl Ent.vals (logP P) ++ lrest).length := by
        rw [List.length_append, fl_len (f := Ent.vals) (k := 9) (fun _ => rfl), hm0]
        omega
      obtain ⟨pb, skip, pcap, prest, e8, hpA, hppl⟩ := rowO_at hM (by omega)
      cases e8
      have hS4 := f4.at0 hpA
      have hlen2 : skip.length + (q : Int).toNat * 9 + 9 ≤ (skip ++ (fl Ent.vals (logP P) ++ prest)).length := by
        rw [List.length_append, List.length_append, fl_len (f := Ent.vals) (k := 9) (fun _ => rfl), hm0]
        omega
      have hsub2 : sub (skip ++ (fl Ent.vals (logP P) ++ prest)) (skip.length + (q : Int).toNat * 9) 9 = Ent.vals z := by
        rw [show (q : Int).toNat = q by omega]
        exact fl_sub (f := Ent.vals) (k := 9) (fun _ => rfl) (logP P) q z hz skip prest
      refine runG13 ?_
      refine w_drawn [(0, false), (1, false), (2, false), (3, false), (4, false), (5, false), (6, false), (7, false), (8, false), (9, false)] [] (fun wq => Frm0 w4 wq) mixed (by kernel_rfl) ?_ ?_
      · exact Frm.of_drew _
      · refine runG13 ?_
        refine x_q rfl (fun wq hq => r_loadV (vs := Ent.vals z) (u_ok rfl) rfl (s_ok rfl) rfl (hq.at0 hL4) hlen hsub) wnt_none ?_
        refine runG13 ?_
        refine x_q rfl (fun wq hq => r_loadV (vs := Ent.vals z) (u_ok rfl) rfl (s_ok rfl) rfl (hq.at0 hS4) hlen2 hsub2) wnt_none ?_
        refine runG13 ?_
        refine x_q rfl (fun wq hq => r_eq_ent (n := z) rfl rfl) wnt_none ?_
        refine runG13 ?_
        exact ⟨_, rfl, ⟨f4.drew, _, q + 1, fixL ⟨rfl, rfl, rfl, rfl, rfl, trivial⟩, by omega⟩, by show m0 - ((q : Int) + 1).toNat < m0 - (q : Int).toNat; omega⟩
    · have hqe : m0 = q := by omega
      subst hqe
      have hA9 : At w4 wp (cel [tsv, psv, e, a, n] 79) := (F2.trans0 f4).at0 h.t.head
      have hB9 := h.bn.go (S := fun _ => False) (F2.trans0 f4) (fun _ h => h.elim) (fun _ _ => rfl)
      have hlw : ∀ b, InV (.slice xa m0 xc) b → w.heap.size ≤ b := fun b hb => by have := hnew b hb; omega
      refine runG13 ?_
      refine s_callf (keepsEntries_ret hA9 hB9 (hR.frm f4 (fun _ _ h => h)) (fun b hb => ⟨h.high b (hlw b hb), fun e9 => by have := hlw b hb; omega⟩) (by omega) (by omega) (fun b hb => h.high b (by have := (F2.trans0 f4).size; omega)) (h.col0 wp (Nat.le_refl _))) rfl wnt_none ?_
      rintro v w9 ⟨v9, us9, col9, hA10, hB10, hlen9, hK⟩
      obtain ⟨hW9, hG9, f9⟩ := h.keep3 sp hg (F2.trans0 f4) hA10 hB10 hK hlw
      refine runG13 ?_
      exact ret_b rfl rfl ⟨rfl, ⟨_, _, _, _, _, _, _, _, _, _, _, _, hW9, fun j x hx => (hG9 j x hx).mono (by omega), by omega, by omega, by omega, by omega, by omega⟩, f9⟩
end
end Go.Proofs.YtbicffldggcdhaaGreatDoor

namespace Go.Proofs.YtbicffldggcdhaaGreatDoor
open Go

section
variable {w : World} {n : Nat} {env : Env} {d : Option Nat} {t ty2 : Nat} {p : String} {af : Array Edge} {g : Option (Nat × Bool)} {x : Operand}
theorem r_rcN (hx : ev n env x = .pointer none) : (execOp (ev n env) ⟨d, .binOp .eql 165 x (.const (.pointer none)) ty2, t, p, af, g⟩).run Tryz.prog w = .ok (.value (.bool true)) w := r_eq2 hx (show ev n env (.const (.pointer none)) = .pointer none from rfl) (by simp [eqGuard]) (by kernel_rfl)
theorem r_rcS {a : Addr} (hx : ev n env x = .pointer (some a)) : (execOp (ev n env) ⟨d, .binOp .eql 165 x (.const (.pointer none)) ty2, t, p, af, g⟩).run Tryz.prog w = .ok (.value (.bool false)) w := r_eq2 hx (show ev n env (.const (.pointer none)) = .pointer none from rfl) rfl (by kernel_rfl)
end
theorem bld_cfg (a b : Int) (w : World) : (Instr.build 87 [(0, I a), (1, I b)].toArray).run Tryz.prog w = .ok (CfgV a b) w := by kernel_rfl
section
variable {PT : PTy} (sp : TreeSpec PT) (cs : CloneSpec PT) {w : World} {wp : Nat} {tsv psv e a n : Value} {ts : List TP} {gs : List GP} {es as' ns : List Value} {colT col : Nat → Nat} {N j : Nat} {x : GP} {ea : List Addr} {o : OpR}
theorem client_ret (sp : TreeSpec PT) (cs : CloneSpec PT) {i c br bb cap : Nat} {rest : List Value} {ps as1 us ds : Value} {y : Cli} (h : WH PT w wp tsv psv e a n ts gs es as' ns colT col) (hg : WG PT w gs col N) (hE : EI w wp ea) (hl : ts.length ≤ N ∧ gs.length ≤ N ∧ es.length ≤ 4 * N ∧ as'.length ≤ 4 * N ∧ ns.length ≤ 4 * N) (hN : N ≤ 1800000000000) (hx : gs[j]? = some x) (hB : CliB w col (200 * j + 200 + 10 + 10 * i) (200 * j + 200 + 4) c br bb cap rest ps as1 us ds y) (hy : x.P.cl o.b = some y) (hk : 16 ≤ o.kind ∧ o.kind ≤ 19) :
    Rets Tryz.prog 98 [Ptr wp, .agg x.vals.toArray, Ptr c, OpV o] w fun v w' => v = B true ∧ WAll PT w' wp (N + 1) ∧ Frm (fun b => wp ≤ b) w w' := by
  rcases (show o.kind = 16 ∨ o.kind = 17 ∨ o.kind = 18 ∨ o.kind = 19 by omega) with k | k | k | k
  · exact client_view sp cs h hg hE hl hN hx hB hy k
  · exact client_base sp cs h hg hE hl hN hx hB hy k
  · exact client_pending sp cs h hg hE hl hN hx hB hy k
  · exact client_answers sp cs h hg hE hl hN hx hB hy k
theorem wall_frm0 (sp : TreeSpec PT) {w' : World} (h : WH PT w wp tsv psv e a n ts gs es as' ns colT col) (hg : WG PT w gs col N) (hl : ts.length ≤ N ∧ gs.length ≤ N ∧ es.length ≤ 4 * N ∧ as'.length ≤ 4 * N ∧ ns.length ≤ 4 * N) (f : Frm0 w w') : WAll PT w' wp (N + 1) :=
  ⟨_, _, _, _, _, _, _, _, _, _, _, _, h.frm0 sp f, fun j x hx => ((WG.frm0 sp hg h.high f) j x hx).mono (by omega), by omega, by omega, by omega, by omega, by omega⟩
set_option maxRecDepth 4000 in
set_option maxHeartbeats 1000000 in
theorem looked_client (sp : TreeSpec PT) (cs : CloneSpec PT) (h : WH PT w wp tsv psv e a n ts gs es as' ns colT col) (hg : WG PT w gs col N) (hE : EI w wp ea) (hl : ts.length ≤ N ∧ gs.length ≤ N ∧ es.length ≤ 4 * N ∧ as'.length ≤ 4 * N ∧ ns.length ≤ 4 * N) (hN : N ≤ 1800000000000) (hx : gs[j]? = some x) (hk : 16 ≤ o.kind ∧ o.kind ≤ 19) :
    Rets Tryz.prog 64 [Ptr wp, .agg x.vals.toArray, OpV o] w fun v w' => v = B true ∧ WAll PT w' wp (N + 1) ∧ Frm (fun b => wp ≤ b) w w' := by
  obtain ⟨p, r, Q, P⟩ := x
  have hG := hg j _ hx
  have hlog := hG.r.log
  have hb := qb_of hG.sim hG.sp hG.inv hN hlog
  have hhi := h.high
  have f1 : Frm0 w ((w.alloc (cel [Ptr p, Ptr r] 135)).alloc (cel o.vals 81)) := ((Frm.refl _ w).alloc _).alloc _
  have hg1 : At ((w.alloc (cel [Ptr p, Ptr r] 135)).alloc (cel o.vals 81)) w.heap.size (cel [Ptr p, Ptr r] 135) := at_alloc _ (at_alloc_new _ _)
  have ho1 : At ((w.alloc (cel [Ptr p, Ptr r] 135)).alloc (cel o.vals 81)) (w.heap.size + 1) (cel o.vals 81) := by
    have := at_alloc_new (w.alloc (cel [Ptr p, Ptr r] 135)) (cel o.vals 81)
    rw [World.size_alloc] at this
    exact this
  have hn20 : ¬ o.kind = 20 := by omega
  have hn21 : ¬ o.kind = 21 := by omega
  show Rets Tryz.prog 64 [Ptr wp, .agg [Ptr p, Ptr r].toArray, OpV o] w _
  refine rets_of Tryz.func64 (by kernel_rfl) rfl Tryz.ntmps64 (Nat.le_of_ble_eq_true rfl) ?_
  refine runG13 ?_
  rw [show (w.alloc (cel [Ptr p, Ptr r] 135)).heap.size = w.heap.size + 1 from World.size_alloc _ _]
  generalize (w.alloc (cel [Ptr p, Ptr r] 135)).alloc (cel o.vals 81) = w1 at *
  have hG1 := hG.other sp f1 (fun _ _ _ h => h) (fun _ _ => rfl) (fun b hb => hhi b (Nat.le_trans f1.size hb))
  have h1 := h.frm0 sp f1
  have hg1' := WG.frm0 sp hg h.high f1
  have hE1 := hE.frm0 f1
  have hR1 : RefP w1 col (200 * j + 200) r P := hG1.r
  obtain ⟨rr, rb, rcap, rrest, ess, lb, lcap, lrest, css, hRB⟩ := hR1
  refine s_callf (RClient_ret hRB o.b) rfl wnt_none ?_
  rintro v w2 ⟨hv, rfl⟩
  cases hy : P.cl o.b with
  | none =>
    rw [hy] at hv
    have hv : v = .pointer none := hv
    subst hv
    have hcl : Q.cl o.b = none := by rw [hG.sim.cl, hy]; rfl
    refine runG13 ?_
    refine s_val (r_rcN rfl) wnt_none ?_
    refine runG13 ?_
    rw [show sub [Ptr p, Ptr r] 0 2 = [Ptr p, Ptr r] from rfl, show sub o.vals 0 10 = o.vals from rfl]
    refine s_callf (nobody_ret sp cs (r := r) hG1.q hE1.errs hb hcl hk) rfl wnt_none ?_
    rintro v w3 ⟨rfl, f3⟩
    refine runG13 ?_
    exact ret_b rfl rfl ⟨rfl, wall_frm0 sp h hg hl (f1.trans0 f3), (f1.trans0 f3).mono (fun _ h => h.elim)⟩
  | some y =>
    rw [hy] at hv
    obtain ⟨c, hcs, rfl⟩ := hv
    obtain ⟨_, c', hc', _, hyc⟩ := hRB.ptr hy
    rw [hcs] at hc'
    cases hc'
    obtain ⟨br, bb, cap', rest', ps, as1, us, ds, hB⟩ := hRB.cli _ c y hcs hyc
    refine runG13 ?_
    refine s_val (r_rcS rfl) wnt_none ?_
    refine runG13 ?_
    rw [show sub [Ptr p, Ptr r] 0 2 = [Ptr p, Ptr r] from rfl, show sub o.vals 0 10 = o.vals from rfl]
    refine s_callf (client_ret sp cs h1 hg1' hE1 hl hN hx hB hy hk) rfl wnt_none ?_
    rintro v w3 ⟨rfl, hW, f3⟩
    refine runG13 ?_
    exact ret_b rfl rfl ⟨rfl, hW, (f1.mono (fun _ h => h.elim)).trans f3 (fun b hb => .inl hb)⟩
theorem looked_ret (sp : TreeSpec PT) (cs : CloneSpec PT) (h : WH PT w wp tsv psv e a n ts gs es as' ns colT col) (hg : WG PT w gs col N) (hE : EI w wp ea) (hl : ts.length ≤ N ∧ gs.length ≤ N ∧ es.length ≤ 4 * N ∧ as'.length ≤ 4 * N ∧ ns.length ≤ 4 * N) (hN : N ≤ 1800000000000) (hx : gs[j]? = some x) (hk : 16 ≤ o.kind ∧ o.kind ≤ 21) :
    Rets Tryz.prog 64 [Ptr wp, .agg x.vals.toArray, OpV o] w fun v w' => v = B true ∧ WAll PT w' wp (N + 1) ∧ Frm (fun b => wp ≤ b) w w' := by
  by_cases h1 : o.kind ≤ 19
  · exact looked_client sp cs h hg hE hl hN hx ⟨hk.1, h1⟩
  · by_cases h2 : o.kind = 20
    · exact looked_server sp cs h hg hE hl hN hx h2
    · exact looked_log sp cs h hg hE hl hN hx (by omega)
set_option maxRecDepth 4000 in
set_option maxHeartbeats 1000000 in
theorem step_begun (sp : TreeSpec PT) (cs : CloneSpec PT) (h : WH PT w wp tsv psv e a n ts gs es as' ns colT col) (hg : WG PT w gs col N) (hE : EI w wp ea) (hl : ts.length ≤ N ∧ gs.length ≤ N ∧ es.length ≤ 4 * N ∧ as'.length ≤ 4 * N ∧ ns.length ≤ 4 * N) (hN : N ≤ 1800000000000) (hk : o.kind = 10) :
    Rets Tryz.prog 37 [Ptr wp, OpV o] w fun v w' => v = B true ∧ WAll PT w' wp (N + 1) ∧ Frm (fun b => wp ≤ b) w w' := by
  have f1 : Frm0 w (w.alloc (cel o.vals 81)) := Frm.of_alloc _ _
  have ho1 := at_alloc_new w (cel o.vals 81)
  have h1 := h.frm0 sp f1
  have hg1 := WG.frm0 sp hg h.high f1
  have hE1 := hE.frm0 f1
  have hh1 := h1.t.head
  refine rets_of Tryz.func37 (by kernel_rfl) rfl Tryz.ntmps37 (Nat.le_of_ble_eq_true rfl) ?_
  refine runG13 ?_
  generalize w.alloc (cel o.vals 81) = w1 at *
  refine s_val (r_build rfl (bld_cfg _ _ _)) wnt_none ?_
  refine s_callf (begun_ret sp cs h1 hg1 hE1 hl hN o.a o.b) rfl wnt_none ?_
  rintro v w3 ⟨rfl, hW, f3⟩
  refine runG13 ?_
  exact ret_b rfl rfl ⟨rfl, hW, (f1.mono (fun _ h => h.elim)).trans f3 (fun b hb => .inl hb)⟩
set_option maxRecDepth 4000 in
set_option maxHeartbeats 1000000 in
theorem step_party (sp : TreeSpec PT) (cs : CloneSpec PT) (h : WH PT w wp tsv psv e a n ts gs es as' ns colT col) (hg : WG PT w gs col N) (hE : EI w wp ea) (hl : ts.length ≤ N ∧ gs.length ≤ N ∧ es.length ≤ 4 * N ∧ as'.length ≤ 4 * N ∧ ns.length ≤ 4 * N) (hN : N ≤ 1800000000000) (hk : 11 ≤ o.kind ∧ o.kind ≤ 21) (hok : OpOk o) :
    Rets Tryz.prog 37 [Ptr wp, OpV o] w fun v w' => v = B true ∧ WAll PT w' wp (N + 1) ∧ Frm (fun b => wp ≤ b) w w' := by
  have f1 : Frm0 w (w.alloc (cel o.vals 81)) := Frm.of_alloc _ _
  have ho1 := at_alloc_new w (cel o.vals 81)
  have h1 := h.frm0 sp f1
  have hg1 := WG.frm0 sp hg h.high f1
  have hE1 := hE.frm0 f1
  have hh1 := h1.t.head
  obtain ⟨pa, pc, rfl⟩ := h.row.isSl
  have hn1 : ¬ o.kind = 1 := by omega
  have hn5 : ¬ o.kind ≤ 5 := by omega
  have hn10 : ¬ o.kind = 10 := by omega
  have hn11 : ¬ o.kind < 11 := by omega
  have hn21 : ¬ 21 < o.kind := by omega
  by_cases h0 : 0 < gs.length
  · refine rets_of Tryz.func37 (by kernel_rfl) rfl Tryz.ntmps37 (Nat.le_of_ble_eq_true rfl) ?_
    refine runG13 ?_
    generalize w.alloc (cel o.vals 81) = w1 at *
    rcases h1.row with ⟨_, e2, _⟩ | ⟨gb, gcap, grest, e1, hA, hpl, hroom, _⟩
    · omega
    cases e1
    have hgl := at_lt hA
    have hpk := pick_ret o.a gs.length hok.1 hok.2 (by omega)
    have hgsub : ∀ (i : Nat) x, gs[i]? = some x → sub (fl GP.vals gs ++ grest) (0 + (i : Int).toNat * 2) 2 = x.vals := fun i x hx => by
      have := fl_sub (f := GP.vals) (k := 2) (fun _ => rfl) gs i x hx [] grest
      rw [List.nil_append, List.length_nil] at this
      rw [show 0 + (i : Int).toNat * 2 = 0 + i * 2 by omega]
      exact this
    have hglen : ∀ i : Nat, i < gs.length → 0 + (i : Int).toNat * 2 + 2 ≤ (fl GP.vals gs ++ grest).length := fun i hi => by
      rw [List.length_append, fl_len (f := GP.vals) (k := 2) (fun _ => rfl)]
      omega
    have gp_one : ∀ x : GP, ∀ u ∈ x.vals, one u = true := fun x u hu => by
      simp only [GP.vals, List.mem_cons, List.not_mem_nil, or_false] at hu
      rcases hu with rfl | rfl <;> rfl
    refine wpIn_mono (Q := fun e' act w' => e' = .normal ∧ ∃ (env' : Env) (i bx : Nat) (x : GP), act = rep 102 [] env' ∧ AllL env' [(0, Ptr wp), (3, Ptr w.heap.size), (6, Ptr bx)] ∧ gs[i]? = some x ∧ At w' bx (cel x.vals 135) ∧ Frm0 w1 w') ?_ ?_
    · refine w_two [0, 1, 2, 3, 4, 5, 6, 7, 8, 9, 10] 11 14 [(12, false), (13, false), (14, true), (15, true)] [(11, true), (12, false), (13, false), (15, true)] (fun wq => Frm0 w1 wq) mixed (by kernel_rfl) ?_ ?_
      · exact Frm.of_drew _
      · show WpX _ _ _ _ _ [(0, false), (1, false), (2, false), (3, false), (4, false), (5, false), (6, false), (7, false), (8, false), (9, false), (10, false)] _ _
        refine runG13 ?_
        refine ⟨rfl, ?_, ?_⟩
        · refine x_callf rfl (hpk _) rfl wnt_none ?_
          rintro v w2 ⟨⟨i, rfl, hi⟩, rfl⟩
          refine ⟨Frm.of_drew _, ?_⟩
          obtain ⟨x, hx⟩ : ∃ x, gs[i]? = some x := ⟨gs[i], List.getElem?_eq_getElem (by omega)⟩
          refine runG13 ?_
          refine x_q rfl (fun wq hq => r_loadV (vs := x.vals) (u_ok rfl) rfl (s_ok rfl) rfl (hq.at0 hA) (hglen i (by omega)) (hgsub i x hx)) wnt_none ?_
          refine x_val rfl (r_allocA (z_ok rfl)) wnt_none ((Frm.of_drew w1).alloc _) ?_
          refine x_skip rfl (r_storeAll (vs := x.vals) (s_ok rfl) rfl rfl (gp_one x) (at_alloc_new w1.drew _) rfl) wnt_none (((Frm.of_drew w1).alloc _).setB (.inr (Nat.le_refl _)) _) ?_
          exact x_late (y_nilQ ⟨rfl, _, i, _, x, rfl, ⟨rfl, rfl, rfl, trivial⟩, hx, at_setB _ (at_alloc_new w1.drew _), ((Frm.of_drew w1).alloc _).setB (.inr (Nat.le_refl _)) _⟩)
        · refine x_val rfl (r_allocA (z_ok rfl)) wnt_none ((Frm.of_drew w1).alloc _) ?_
          refine x_callf rfl (hpk _) rfl wnt_none ?_
          rintro v w2 ⟨⟨i, rfl, hi⟩, rfl⟩
          refine ⟨(Frm.of_drew w1).alloc _, ?_⟩
          obtain ⟨x, hx⟩ : ∃ x, gs[i]? = some x := ⟨gs[i], List.getElem?_eq_getElem (by omega)⟩
          refine runG13 ?_
          refine x_q rfl (fun wq hq => r_loadV (vs := x.vals) (u_ok rfl) rfl (s_ok rfl) rfl (hq.at0 hA) (hglen i (by omega)) (hgsub i x hx)) wnt_none ?_
          refine x_skip rfl (r_storeAll (vs := x.vals) (s_ok rfl) rfl rfl (gp_one x) (at_alloc_new w1.drew _) rfl) wnt_none (((Frm.of_drew w1).alloc _).setB (.inr (Nat.le_refl _)) _) ?_
          exact x_late (y_nilQ ⟨rfl, _, i, _, x, rfl, ⟨rfl, rfl, rfl, trivial⟩, hx, at_setB _ (at_alloc_new w1.drew _), ((Frm.of_drew w1).alloc _).setB (.inr (Nat.le_refl _)) _⟩)
    · rintro e' act w3 ⟨rfl, env', i, bx, x, rfl, hall, hx, hbx, f3⟩
      rw [fixL hall]
      refine q_then ?_
      clear hall
      have ho3 := f3.at0 ho1
      have h3 := h1.frm0 sp f3
      have hg3 := WG.frm0 sp hg1 h1.high f3
      have hE3 := hE1.frm0 f3
      have F3 : Frm (fun b => wp ≤ b) w w3 := (f1.trans0 f3).mono (fun _ h => h.elim)
      by_cases h15 : o.kind ≤ 15
      · refine runG13 ?_
        rw [show sub x.vals 0 2 = x.vals from rfl, show sub o.vals 0 10 = o.vals from rfl]
        refine s_callf (acted_ret sp cs (hg3 i x hx) hE3.errs ⟨fun g hg => h3.col0 g (by have := hE3.g g hg; omega), fun a ha => h3.col0 _ (by have := hE3.a a ha; omega)⟩ hN ⟨hk.1, h15⟩) rfl wnt_none ?_
        rintro v w4 ⟨rfl, y, col4, hy, hyp, hyr, hbd⟩
        have hil := (List.getElem?_eq_some_iff.1 hx).1
        have h4 := h3.bd sp hbd
        have hset : fl GP.vals (gs.set i y) = fl GP.vals gs := by
          have e1 := fl_set GP.vals (l := gs) (x := y) hil []
          have e2 := fl_take_drop GP.vals hx []
          rw [List.append_nil] at e1 e2
          rw [e1, e2, show y.vals = x.vals by unfold GP.vals; rw [hyp, hyr]]
        have h5 : WH PT w4 wp tsv (.slice (some ⟨gb, 0, none⟩) gs.length pc) e a n ts (gs.set i y) es as' ns colT col4 := ⟨h4.t, by rw [hset, List.length_set]; exact h4.row, h4.rowc, h4.be, h4.ba, h4.bn, h4.col0, h4.high, h4.apart⟩
        have hg4 : WG PT w3 gs col (N + 1) := fun j z hz => (hg3 j z hz).mono (by omega)
        refine runG13 ?_
        refine ret_b rfl rfl ⟨rfl, ⟨_, _, _, _, _, _, _, _, _, _, _, _, h5, hg4.bd sp hbd hy hil, by omega, by rw [List.length_set]; omega, by omega, by omega, by omega⟩, F3.trans hbd.frm (fun b hb => .inl ?_)⟩
        rcases Nat.lt_or_ge wp b with h9 | h9
        · omega
        · have := h3.col0 b h9; omega
      · refine runG13 ?_
        rw [show sub x.vals 0 2 = x.vals from rfl, show sub o.vals 0 10 = o.vals from rfl]
        refine s_callf (looked_ret sp cs h3 hg3 hE3 hl hN hx ⟨by omega, hk.2⟩) rfl wnt_none ?_
        rintro v w4 ⟨rfl, hW, f4⟩
        refine runG13 ?_
        exact ret_b rfl rfl ⟨rfl, hW, F3.trans f4 (fun b hb => .inl hb)⟩
  · have hgl : gs.length = 0 := by omega
    refine rets_of Tryz.func37 (by kernel_rfl) rfl Tryz.ntmps37 (Nat.le_of_ble_eq_true rfl) ?_
    refine runG13 ?_
    exact ret_b rfl rfl ⟨rfl, wall_frm0 sp h hg hl f1, f1.mono (fun _ h => h.elim)⟩
end
end Go.Proofs.YtbicffldggcdhaaGreatDoor

namespace Go.Proofs.YtbicffldggcdhaaGreatDoor
open Go

/-- What is asked of step, for the kinds that are played. -/
def StepW (PT : PTy) (ks : List Int) : Prop :=
  ∀ {w : World} {wp N : Nat} {ea : List Addr} {o : OpR}, WAll PT w wp N → EI w wp ea → N ≤ 1800000000000 → o.kind ∈ ks → OpOk o →
    Rets Tryz.prog 37 [Ptr wp, OpV o] w fun v w' => v = B true ∧ WAll PT w' wp (N + 1) ∧ Frm (fun b => wp ≤ b) w w'
section
variable {PT : PTy} (sp : TreeSpec PT) (cs : CloneSpec PT)
theorem wall_step (sp : TreeSpec PT) (cs : CloneSpec PT) {ks : List Int} (hks : ∀ k ∈ ks, (1 ≤ k ∧ k ≤ 5) ∨ (10 ≤ k ∧ k ≤ 21)) : StepW PT ks := by
  intro w wp N ea o hW hE hN hk hok
  obtain ⟨tsv, psv, e, a, n, ts, gs, es, as', ns, colT, col, h, hg, hl⟩ := hW
  have key := hks _ hk
  by_cases h5 : o.kind ≤ 5
  · have ht : Rets Tryz.prog 37 [Ptr wp, OpV o] w fun v w' => v = B true ∧ TStep PT w w' wp tsv colT [psv, e, a, n] (ts.length + 1) := step_clones sp cs h.t hE (by omega) (by simp; omega) hok
    refine ht.mono ?_
    rintro v w' ⟨rfl, ⟨tsv', ts', colT', hT, hlen, h1, h2⟩, f⟩
    exact ⟨rfl, ⟨_, _, _, _, _, _, _, _, _, _, _, _, h.trees sp f hT h1 h2, fun j x hx => ((WG.trees sp hg h f) j x hx).mono (by omega), by omega, by omega, by omega, by omega, by omega⟩, f.mono (fun b hb => .inl (h.t.ts hb))⟩
  · by_cases h10 : o.kind = 10
    · exact step_begun sp cs h hg hE hl hN h10
    · exact step_party sp cs h hg hE hl hN (by omega) hok
set_option maxRecDepth 4000 in
set_option maxHeartbeats 2000000 in
theorem playsW_ret (sp : TreeSpec PT) (_cs : CloneSpec PT) {ks : List Int} (hst : StepW PT ks) {w : World} {sv : Value} {script : List OpR} {pb pc pty : Nat} {pk : Nat × Nat} {ea : List Addr} (hS : Scr w sv script) (hok : ∀ o ∈ script, OpOk o) (hB : (16 + script.length) * 160 ≤ 2 ^ 48)
    (hpl : At w pb (.cells (ks.map I ++ []).toArray pty pk)) (hks : ks.length < 1000) (hE : Errs w ea) :
    Rets Tryz.prog 13 [sv, .slice (some ⟨pb, 0, none⟩) ks.length pc] w fun v w' => v = B true ∧ Frm0 w w' := by
  obtain ⟨sa, sl, sc, rfl, hsl⟩ : ∃ sa sl sc, sv = .slice sa sl sc ∧ sl = script.length := by
    rcases hS with ⟨⟨a, c, e⟩, e2⟩ | ⟨sb, so, sc, X, tx, kk, e, _⟩
    · exact ⟨a, 0, c, e, by rw [e2]; rfl⟩
    · exact ⟨_, _, _, e, rfl⟩
  refine rets_of Tryz.func13 (by kernel_rfl) rfl Tryz.ntmps13 (Nat.le_of_ble_eq_true rfl) ?_
  refine runG13 ?_
  refine s_callf (first_ret _) rfl wnt_none ?_
  rintro v w1 ⟨fb, rfl, hF, hfb, f1⟩
  refine runG13 ?_
  have happ : ∃ v2 w2, (Builtin.append_ #[22, 22] 22 #[.slice (some ⟨fb, 0, none⟩) 16 16, .slice sa sl sc]).run Tryz.prog w1 = .ok v2 w2 ∧ Row w2 v2 81 10 (16 + script.length) (flatOp (firstOps ++ script)) ∧ Frm (fun x => x = fb) w1 w2 := by
    have hrow1 : Row w1 (.slice (some ⟨fb, 0, none⟩) 16 16) 81 10 16 (flatOp firstOps) := .inr ⟨fb, 16, [], rfl, by rw [List.append_nil]; exact hF, rfl, rfl, by omega⟩
    rcases hS with ⟨⟨a, c, e⟩, e2⟩ | ⟨sb, so, sc', X, tx, kk, e, hA, hlen, hsub⟩
    · cases e
      subst e2
      refine ⟨_, w1, run_append0 (u_ok rfl) (u_ok rfl) (fun kk h => by cases h) (s_ok rfl) hrow1 _ _, ?_, Frm.refl _ _⟩
      rw [List.append_nil]
      exact hrow1
    · cases e
      obtain ⟨v2, w2, e2, r2, f2, _⟩ := append_op (ty := 22) (cx := sc) hrow1 (f1.at0 hA) hlen (by rw [hsub]; exact flatOp_one _) (by omega)
      refine ⟨v2, w2, e2, ?_, f2.mono (fun x hx => .inl (by obtain ⟨_, _, _, hv⟩ := hx; cases hv; rfl))⟩
      rw [hsub, ← flatOp_append] at r2
      exact r2
  obtain ⟨v2, w2, e2, r2, f2⟩ := happ
  refine s_val (r_app rfl rfl e2) wnt_none ?_
  rcases r2 with ⟨_, hz, _⟩ | ⟨ab, acap, arest, rfl, hA2, hl2, hr2, hc2⟩
  · omega
  · refine runG13 ?_
    refine s_val (r_build rfl (bld_world _)) wnt_none ?_
    refine runG13 ?_
    have s1 := f1.size
    have s2 := f2.size
    have F2 : Frm0 w w2 := by
      refine (f1.trans (T := fun x => x = fb) f2 (fun x hx => .inr (by omega)))
    have F3 : Frm0 w (w2.alloc (cel [.slice none 0 0, .slice none 0 0, .slice none 0 0, .slice none 0 0, .slice none 0 0] 79)) := F2.alloc _
    have hT3 : TI PT (w2.alloc (cel [.slice none 0 0, .slice none 0 0, .slice none 0 0, .slice none 0 0, .slice none 0 0] 79)) w2.heap.size (.slice none 0 0) [.slice none 0 0, .slice none 0 0, .slice none 0 0, .slice none 0 0] [] (fun _ => 0) :=
      ⟨at_alloc_new _ _, .inl ⟨rfl, rfl, rfl⟩, (fun b hb => by obtain ⟨_, _, _, hv⟩ := hb; cases hv), (fun i x hx => by simp at hx), fun _ _ => rfl, fun _ _ => rfl, rfl⟩
    have hW3 : WAll PT (w2.alloc (cel [.slice none 0 0, .slice none 0 0, .slice none 0 0, .slice none 0 0, .slice none 0 0] 79)) w2.heap.size 0 :=
      ⟨_, _, _, _, _, [], [], [], [], [], _, fun _ => 0, ⟨hT3, Row.nil, fun b hb => (inv_none hb).elim, ⟨Row.nil, rfl, fun b hb => (inv_none hb).elim, fun i u hu => by simp at hu⟩, ⟨Row.nil, rfl, fun b hb => (inv_none hb).elim, fun i u hu => by simp at hu⟩, ⟨Row.nil, rfl, fun b hb => (inv_none hb).elim, fun i u hu => by simp at hu⟩, fun _ _ => rfl, fun _ _ => rfl, fun b hb => absurd rfl hb⟩, fun j x hx => (by simp at hx), by simp, by simp, by simp, by simp, by simp⟩
    have hA3 := at_alloc (cel [.slice none 0 0, .slice none 0 0, .slice none 0 0, .slice none 0 0, .slice none 0 0] 79) hA2
    have hp3 := F3.at0 hpl
    have hE3 : EI (w2.alloc (cel [.slice none 0 0, .slice none 0 0, .slice none 0 0, .slice none 0 0, .slice none 0 0] 79)) w2.heap.size ea := by
      have := errs_lt hE
      exact ⟨hE.frm0 F3, fun g hg => by have := this.1 g hg; omega, fun a ha => by have := this.2 a ha; omega⟩
    have hab := at_lt hA2
    have hpb := at_lt hpl
    clear hT3
    generalize w2.alloc (cel [.slice none 0 0, .slice none 0 0, .slice none 0 0, .slice none 0 0, .slice none 0 0] 79) = w3 at *
    generalize hwp : w2.heap.size = wp at *
    have hLl : (firstOps ++ script).length = 16 + script.length := by rw [List.length_append]; rfl
    have hop : ∀ o ∈ firstOps ++ script, OpOk o := fun o ho => (List.mem_append.1 ho).elim (first_ok o) (hok o)
    generalize firstOps ++ script = L at *
    refine lp (fun env w' => Frm (fun b => wp ≤ b) w3 w' ∧ ∃ env0, ∃ i : Nat, env = setL env0 [(1, .slice (some ⟨pb, 0, none⟩) ks.length pc), (5, .slice (some ⟨ab, 0, none⟩) (16 + script.length) acap), (6, Ptr wp), (7, I i)] ∧ i ≤ L.length ∧ WAll PT w' wp i) (fun env _ => L.length - cnt (env 7)) ?_ ?_
    · exact ⟨Frm.refl _ _, _, 0, fixL ⟨rfl, rfl, rfl, rfl, trivial⟩, by omega, hW3⟩
    · rintro env w' ⟨hf, env0, i, rfl, hi, hW⟩
      have hA' := hf.at (b := ab) (by omega) hA3
      have hp' := hf.at (b := pb) (by omega) hp3
      have hE' := hE3.frm hf (fun _ h => h)
      by_cases hlt : i < L.length
      · obtain ⟨o, ho⟩ : ∃ o, L[i]? = some o := ⟨L[i], List.getElem?_eq_getElem hlt⟩
        have hoo := hop o (List.mem_of_getElem? ho)
        refine runG13 ?_
        refine s_val (r_loadV (vs := o.vals) (u_ok rfl) rfl (s_ok rfl) rfl hA' (by rw [List.length_append, flatOp_length]; omega) (by rw [show 0 + (i : Int).toNat * 10 = i * 10 by omega]; exact flatOp_sub L i o ho arest)) wnt_none ?_
        refine runG13 ?_
        refine s_skip (r_storeAll (vs := o.vals) (s_ok rfl) rfl rfl (op_one _) (at_alloc_new w' _) rfl) wnt_none ?_
        have ho4 := at_setB (cel o.vals 81) (at_alloc_new w' (cel [I 0, I 0, I 0, I 0, I 0, I 0, I 0, I 0, I 0, I 0] 81))
        have f4 : Frm0 w' (setB (w'.alloc (cel [I 0, I 0, I 0, I 0, I 0, I 0, I 0, I 0, I 0, I 0] 81)) w'.heap.size (cel o.vals 81)) := (Frm.of_alloc w' _).setB (.inr (Nat.le_refl _)) _
        generalize setB (w'.alloc (cel [I 0, I 0, I 0, I 0, I 0, I 0, I 0, I 0, I 0, I 0] 81)) w'.heap.size (cel o.vals 81) = w4 at *
        have hW4 : WAll PT w4 wp i := by
          obtain ⟨tsv, psv, e, a, n, ts, gs, es, as', ns, colT, col, h, hg, hl⟩ := hW
          exact ⟨_, _, _, _, _, _, _, _, _, _, _, _, h.frm0 sp f4, WG.frm0 sp hg h.high f4, hl⟩
        have hE4 := hE'.frm0 f4
        have hf4 : Frm (fun b => wp ≤ b) w3 w4 := hf.trans0 f4
        refine runG13 ?_
        refine s_callf (among_ret (f4.at0 hp') rfl (by omega) o.kind) rfl wnt_none ?_
        rintro v w5 ⟨rfl, rfl⟩
        by_cases hk : o.kind ∈ ks
        · rw [decide_eq_true hk]
          refine runG13 ?_
          rw [show sub o.vals 0 10 = o.vals from rfl]
          refine s_callf (hst hW4 hE4 (by omega) hk hoo) rfl wnt_none ?_
          rintro v w6 ⟨rfl, hW6, f6⟩
          obtain ⟨tsv, psv, e, a, n, ts, gs, es, as', ns, colT, col, h, hg, hl⟩ := hW6
          have hh6 := h.t.head
          refine runG13 ?_
          refine s_callf (looks_ret hh6 h.be h.ba h.bn (by omega) (by omega) (by omega)) rfl wnt_none ?_
          rintro v w7 ⟨rfl, f7⟩
          refine runG13 ?_
          refine s_callf (trees_ret sp (h.t.frm0 sp f7) (by omega)) rfl wnt_none ?_
          rintro v w8 ⟨rfl, f8⟩
          have f78 := f7.trans0 f8
          have hf8 : Frm (fun b => wp ≤ b) w3 w8 := (hf4.trans f6 (fun _ h => .inl h)).trans0 f78
          refine runG13 ?_
          exact ⟨_, rfl, ⟨hf8, _, i + 1, fixL ⟨rfl, rfl, rfl, rfl, trivial⟩, by omega, ⟨_, _, _, _, _, _, _, _, _, _, _, _, h.frm0 sp f78, WG.frm0 sp hg h.high f78, hl⟩⟩, by show L.length - ((i : Int) + 1).toNat < L.length - (i : Int).toNat; omega⟩
        · rw [decide_eq_false hk]
          refine runG13 ?_
          refine ⟨_, rfl, ⟨hf4, _, i + 1, fixL ⟨rfl, rfl, rfl, rfl, trivial⟩, by omega, ?_⟩, by show L.length - ((i : Int) + 1).toNat < L.length - (i : Int).toNat; omega⟩
          obtain ⟨tsv, psv, e, a, n, ts, gs, es, as', ns, colT, col, h, hg, hl⟩ := hW4
          exact ⟨_, _, _, _, _, _, _, _, _, _, _, _, h, fun j x hx => (hg j x hx).mono (by omega), by omega, by omega, by omega, by omega, by omega⟩
      · refine runG13 ?_
        refine ret_b rfl rfl ⟨rfl, F3.trans hf (fun b hb => .inr ?_)⟩
        omega
end
end Go.Proofs.YtbicffldggcdhaaGreatDoor

namespace Go.Proofs.YtbicffldggcdhaaGreatDoor
open Go

theorem bs_kBreaks (w : World) : (Instr.buildSlice 24 12 [(0, I 10), (1, I 11), (2, I 12), (3, I 13), (4, I 14), (5, I 15), (6, I 16), (7, I 17), (8, I 18), (9, I 19), (10, I 20), (11, I 21)].toArray).run Tryz.prog w = .ok (.slice (some ⟨w.heap.size, 0, none⟩) 12 12) (w.alloc (cel (([10, 11, 12, 13, 14, 15, 16, 17, 18, 19, 20, 21] : List Int).map I ++ []) 3)) := by kernel_rfl
theorem Breaks_ret {PT : PTy} (sp : TreeSpec PT) (cs : CloneSpec PT) {w : World} {sv : Value} {script : List OpR} {ea : List Addr} (hS : Scr w sv script) (hok : ∀ o ∈ script, OpOk o) (hB : (16 + script.length) * 160 ≤ 2 ^ 48) (hE : Errs w ea) :
    Rets Tryz.prog 7 [sv] w fun v w' => v = B true ∧ Frm0 w w' := by
  obtain ⟨sa, sl, sc, rfl⟩ : ∃ sa sl sc, sv = .slice sa sl sc := by
    rcases hS with ⟨⟨a, c, e⟩, _⟩ | ⟨sb, so, sc, X, tx, kk, e, _⟩
    · exact ⟨_, _, _, e⟩
    · exact ⟨_, _, _, e⟩
  have hst : StepW PT [10, 11, 12, 13, 14, 15, 16, 17, 18, 19, 20, 21] := wall_step sp cs (fun k hk => by
    simp only [List.mem_cons, List.not_mem_nil, or_false] at hk
    omega)
  refine rets_of Tryz.func7 (by kernel_rfl) rfl Tryz.ntmps7 (Nat.le_of_ble_eq_true rfl) ?_
  refine runG13 ?_
  refine s_val (r_bs rfl (bs_kBreaks _)) wnt_none ?_
  refine s_callf (playsW_ret sp cs hst (ks := [10, 11, 12, 13, 14, 15, 16, 17, 18, 19, 20, 21]) (hS.frm0 (Frm.of_alloc _ _)) hok hB (at_alloc_new w _) (by decide) (hE.frm0 (Frm.of_alloc _ _))) rfl wnt_none ?_
  rintro v w2 ⟨rfl, f2⟩
  refine runG13 ?_
  exact ret_b rfl rfl ⟨rfl, (Frm.of_alloc w _).trans0 f2⟩
end Go.Proofs.YtbicffldggcdhaaGreatDoor

namespace Go.Proofs.YtbicffldggcdhaaGreatDoor
open Go Go.ChangeShapes Go.WideShapes

theorem cellsInt : Tryz.prog.cellsOf 3 = 1 := by kernel_rfl
theorem cellsEdit : Tryz.prog.cellsOf 31 = 6 := by kernel_rfl
theorem cellsOp : Tryz.prog.cellsOf 81 = 10 := by kernel_rfl
theorem bytesOp : Tryz.prog.bytesOf 81 = 80 := by kernel_rfl
def Int64 (z : Int) : Prop := -9223372036854775808 ≤ z ∧ z ≤ 9223372036854775807
theorem wf64 {z : Int} (h : (Lit.int .i64 z).wf = true) : Int64 z := by
  simp only [Lit.wf, Bool.and_eq_true, decide_eq_true_eq] at h
  have e1 : IntKind.i64.min = -9223372036854775808 := by decide
  have e2 : IntKind.i64.max = 9223372036854775807 := by decide
  rw [e1, e2] at h
  exact h

theorem list6 {cs : List Value} {a0 a1 a2 a3 a4 a5 : Value} (hl : cs.length = 6) (h0 : cs[0]? = some a0) (h1 : cs[1]? = some a1) (h2 : cs[2]? = some a2) (h3 : cs[3]? = some a3) (h4 : cs[4]? = some a4) (h5 : cs[5]? = some a5) : cs = [a0, a1, a2, a3, a4, a5] := by
  match cs, hl with
  | [b0, b1, b2, b3, b4, b5], _ =>
    simp at h0 h1 h2 h3 h4 h5
    simp [h0, h1, h2, h3, h4, h5]
theorem list10 {cs : List Value} {a0 a1 a2 a3 : Value} {e : Ed} (hl : cs.length = 10) (h0 : cs[0]? = some a0) (h1 : cs[1]? = some a1) (h2 : cs[2]? = some a2) (h3 : cs[3]? = some a3) (he : (cs.drop 4).take 6 = e.vals) : cs = [a0, a1, a2, a3, I e.kind, I e.node, I e.parent, I e.key, I e.prop, I e.value] := by
  match cs, hl with
  | [b0, b1, b2, b3, b4, b5, b6, b7, b8, b9], _ =>
    simp at h0 h1 h2 h3
    simp [Ed.vals] at he
    simp [h0, h1, h2, h3, he]
section
variable {H : Type} {enc : TypeId × Value → H} {W : World} {base : Nat} {sp : Nat → Bool} {held : Bool} {n : Nat}
theorem int_cell {cs : List Value} {k i : Nat} {xs : List (DataW H × List MemPlace)} (h : DataW.trod enc Tryz.prog W base sp held n 3 ((cs.drop k).take (Tryz.prog.cellsOf 3)) = xs[i]?) (hi : i < xs.length) : ∃ z, cs[k]? = some (I z) ∧ Int64 z := by
  rw [List.getElem?_eq_getElem hi, cellsInt] at h
  obtain ⟨z, hz, _, hw⟩ := DataW.trod_int (u_ok rfl) h
  refine ⟨z, ?_, wf64 hw⟩
  have := congrArg (fun l => l[0]?) hz
  simpa using this
theorem open_edit {cs : List Value} {x : DataW H × List MemPlace} (h : DataW.trod enc Tryz.prog W base sp held n 31 cs = some x) : ∃ e : Ed, cs = e.vals := by
  obtain ⟨xs, m, _, _, hl, hn, hf⟩ := DataW.trod_struct (u_ok rfl) h
  rw [cellsEdit] at hl
  have hn' : xs.length = 6 := hn
  obtain ⟨z0, h0, _⟩ := int_cell (hf 0 _ rfl) (by omega)
  obtain ⟨z1, h1, _⟩ := int_cell (hf 1 _ rfl) (by omega)
  obtain ⟨z2, h2, _⟩ := int_cell (hf 2 _ rfl) (by omega)
  obtain ⟨z3, h3, _⟩ := int_cell (hf 3 _ rfl) (by omega)
  obtain ⟨z4, h4, _⟩ := int_cell (hf 4 _ rfl) (by omega)
  obtain ⟨z5, h5, _⟩ := int_cell (hf 5 _ rfl) (by omega)
  exact ⟨⟨z0, z1, z2, z3, z4, z5⟩, list6 hl h0 h1 h2 h3 h4 h5⟩
theorem open_op {cs : List Value} {x : DataW H × List MemPlace} (h : DataW.trod enc Tryz.prog W base sp held n 81 cs = some x) : ∃ o : OpR, cs = o.vals ∧ OpOk o := by
  obtain ⟨xs, m, _, _, hl, hn, hf⟩ := DataW.trod_struct (u_ok rfl) h
  rw [cellsOp] at hl
  have hn' : xs.length = 5 := hn
  obtain ⟨z0, h0, _⟩ := int_cell (hf 0 _ rfl) (by omega)
  obtain ⟨z1, h1, hA⟩ := int_cell (hf 1 _ rfl) (by omega)
  obtain ⟨z2, h2, _⟩ := int_cell (hf 2 _ rfl) (by omega)
  obtain ⟨z3, h3, _⟩ := int_cell (hf 3 _ rfl) (by omega)
  obtain ⟨e, he⟩ := open_edit ((hf 4 _ rfl).trans (List.getElem?_eq_getElem (show 4 < xs.length by omega)))
  have he' : (cs.drop 4).take 6 = e.vals := by rw [← cellsEdit]; exact he
  exact ⟨⟨z0, z1, z2, z3, e⟩, list10 hl h0 h1 h2 h3 he', hA⟩

theorem sub_ops {X : List Value} : ∀ (l : List OpR) (so : Nat), (∀ (i : Nat) (o : OpR), l[i]? = some o → ∀ j, j < 10 → X[so + (i * 10 + j)]? = o.vals[j]?) → sub X so (l.length * 10) = flatOp l
  | [], so, _ => by simp [sub_zero, flatOp]
  | o :: l, so, h => by
    have h0 := h 0 o rfl
    have g : ∀ k j v, k = so + j → j < 10 → o.vals[j]? = some v → X[k]? = some v := fun k j v hk hj hv => by
      have := h0 j hj
      rw [show so + (0 * 10 + j) = k by omega] at this
      rw [this, hv]
    have ih := sub_ops l (so + 10) (fun i x hx j hj => by
      have := h (i + 1) x (by simpa using hx) j hj
      rw [← this]
      congr 1
      omega)
    rw [show (o :: l).length * 10 = l.length * 10 + 1 + 1 + 1 + 1 + 1 + 1 + 1 + 1 + 1 + 1 by simp; omega]
    rw [sub_succ X (so) _ _ (g _ 0 _ (by omega) (by decide) rfl), sub_succ X (so + 1) _ _ (g _ 1 _ (by omega) (by decide) rfl), sub_succ X (so + 1 + 1) _ _ (g _ 2 _ (by omega) (by decide) rfl), sub_succ X (so + 1 + 1 + 1) _ _ (g _ 3 _ (by omega) (by decide) rfl), sub_succ X (so + 1 + 1 + 1 + 1) _ _ (g _ 4 _ (by omega) (by decide) rfl), sub_succ X (so + 1 + 1 + 1 + 1 + 1) _ _ (g _ 5 _ (by omega) (by decide) rfl), sub_succ X (so + 1 + 1 + 1 + 1 + 1 + 1) _ _ (g _ 6 _ (by omega) (by decide) rfl), sub_succ X (so + 1 + 1 + 1 + 1 + 1 + 1 + 1) _ _ (g _ 7 _ (by omega) (by decide) rfl), sub_succ X (so + 1 + 1 + 1 + 1 + 1 + 1 + 1 + 1) _ _ (g _ 8 _ (by omega) (by decide) rfl), sub_succ X (so + 1 + 1 + 1 + 1 + 1 + 1 + 1 + 1 + 1) _ _ (g _ 9 _ (by omega) (by decide) rfl)]
    rw [show so + 1 + 1 + 1 + 1 + 1 + 1 + 1 + 1 + 1 + 1 = so + 10 by omega, ih]
    rfl

/-- A SCRIPT THAT IS HANDED IN. -/
theorem open_script {v : Value} {d : DataW H} {p : List MemPlace} (h : DataW.Trod enc Tryz.prog W 0 sp held 22 v d p) (hv : ∃ a len cap, v = .slice a len cap)
    (hw : ∀ elems spare, d = .slice elems spare → (elems.length + spare.length) * Tryz.prog.bytesOf 81 ≤ reachBytes) :
    ∃ script : List OpR, Scr W v script ∧ (∀ o ∈ script, OpOk o) ∧ (16 + script.length) * 160 ≤ 2 ^ 48 := by
  obtain ⟨a0, len0, cap0, rfl⟩ := hv
  obtain ⟨fuel, hf⟩ := h
  rcases Deep.open_slice (u_ok rfl) hf with ⟨hcs, _⟩ | ⟨a, len, cap, m, k, D, Pl, hcs, _, hlc, _, hm, hx, hel⟩
  · simp [Value.cells] at hcs
    obtain ⟨rfl, rfl, rfl⟩ := hcs
    exact ⟨[], .inl ⟨⟨_, _, rfl⟩, rfl⟩, fun o ho => (by cases ho), (by decide)⟩
  · simp [Value.cells] at hcs
    obtain ⟨rfl, rfl, rfl⟩ := hcs
    have hd := congrArg Prod.fst hx
    clear hx
    have hlm : len0 ≤ m := by rw [hm]; split <;> omega
    have hb := hw _ _ hd
    rw [bytesOp] at hb
    have hr : reachBytes = 140737488351232 := by decide
    rw [hr] at hb
    simp only [List.length_map, List.length_range] at hb
    have hsz : (16 + len0) * 160 ≤ 2 ^ 48 := by omega
    have : Inhabited OpR := ⟨⟨0, 0, 0, 0, ⟨0, 0, 0, 0, 0, 0⟩⟩⟩
    obtain ⟨S, hS⟩ := Deep.choose_lt (α := OpR) (p := fun i o => OpOk o ∧ ∀ j, j < 10 → W.cell? ((a.add (i * 10)).add j) = o.vals[j]?) (fun i (hi : i < m) => by
      obtain ⟨cs', h1, h2⟩ := hel i hi
      rw [cellsOp] at h1
      obtain ⟨_, hlen, hc⟩ := World.cells?_some h1
      obtain ⟨o, ho, hok⟩ := open_op h2
      exact ⟨o, hok, fun j hj => by rw [hc j hj, ho]⟩)
    by_cases h0 : len0 = 0
    · subst h0
      exact ⟨[], .inl ⟨⟨_, _, rfl⟩, rfl⟩, fun o ho => (by cases ho), (by decide)⟩
    · have hc0 : W.cell? a = some (I (S 0).kind) := by
        have := (hS 0 (by omega)).2 0 (by omega)
        simpa [Addr.add, OpR.vals] using this
      obtain ⟨sb, so, spot⟩ := a
      unfold World.cell? at hc0
      simp only at hc0
      split at hc0
      · rename_i C tx kk hB
        cases spot with
        | some q => simp at hc0
        | none =>
          have hA : At W sb (.cells C.toList.toArray tx kk) := by simpa using hB
          have hcell : ∀ i, i < m → ∀ j, j < 10 → C.toList[so + (i * 10 + j)]? = (S i).vals[j]? := fun i hi j hj => by
            have := (hS i hi).2 j hj
            rw [add_none, add_none, cell_at hA, Nat.add_assoc] at this
            exact this
          refine ⟨(List.range len0).map S, .inr ⟨sb, so, cap0, C.toList, tx, kk, by simp, hA, ?_, ?_⟩, ?_, by simpa using hsz⟩
          · have h9 := hcell (len0 - 1) (by omega) 9 (by omega)
            have hlt := (List.getElem?_eq_some_iff.1 (h9.trans (show (S (len0 - 1)).vals[9]? = some (I (S (len0 - 1)).e.value) from rfl))).1
            simp only [List.length_map, List.length_range]
            omega
          · refine sub_ops _ _ (fun i o ho j hj => ?_)
            simp only [List.getElem?_map] at ho
            have hi : i < len0 := by
              rcases Nat.lt_or_ge i len0 with h | h
              · exact h
              · rw [List.getElem?_eq_none (by simpa using h)] at ho; cases ho
            rw [List.getElem?_range hi] at ho
            simp at ho
            subst ho
            exact hcell i (by omega) j hj
          · intro o ho
            obtain ⟨i, hi, rfl⟩ := List.mem_map.1 ho
            exact (hS i (by have := List.mem_range.1 hi; omega)).1
      · cases hc0
end
end Go.Proofs.YtbicffldggcdhaaGreatDoor
