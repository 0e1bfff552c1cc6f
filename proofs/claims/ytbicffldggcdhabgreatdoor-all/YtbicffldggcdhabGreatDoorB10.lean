/-
  WRefP11; WRefP12; WRefP13; WL1; WRefP14; WRefP15; WQ24.
-/
import Derived.Test.YtbicffldggcdhabGreatDoorB09
import Derived.Test.YtbicffldggcdhabGreatDoorB06
import Derived.Test.YtbicffldggcdhabGreatDoorB07
namespace Go.Proofs.YtbicffldggcdhabGreatDoor
open Go
theorem runG10 {G K : Prop} (k : K) (h : Wrap K → G := by intro h; (repeat (first | (with_reducible first | refine wpIn_seq ?_ | refine w_reg ?_ | refine s_nil ?_ | refine s_nilQ ?_ | refine wpIn_block ?_ | refine q_then ?_ | refine q_blk ?_ | refine q_then_ret ?_ | refine q_blk_ret ?_ | refine q_then_exit ?_ | refine q_blk_exit ?_ | refine wpIn_skip ?_ | refine wpIn_ret ?_ | refine wpIn_exit ?_ | refine y_nil ?_ | refine y_nilQ ?_ | refine x_late ?_) | ((with_reducible refine q_blk_other ?_ ?_); exact rfl) | ((with_reducible apply c_true); exact rfl; (with_reducible exact rfl)) | ((with_reducible apply c_false); exact rfl; (with_reducible exact rfl)) | ((with_reducible apply s_no); (first | ((with_reducible apply wnt_nt); exact rfl; exact rfl; exact rfl; exact rfl; (with_reducible exact rfl)) | ((with_reducible apply wnt_nf); exact rfl; exact rfl; exact rfl; exact rfl; (with_reducible exact rfl)))) | ((with_reducible apply x_qno); exact rfl; (first | ((with_reducible apply wnt_nt); exact rfl; exact rfl; exact rfl; exact rfl; (with_reducible exact rfl)) | ((with_reducible apply wnt_nf); exact rfl; exact rfl; exact rfl; exact rfl; (with_reducible exact rfl)))) | ((first | with_reducible apply s_val | ((with_reducible apply y_val); exact rfl) | ((with_reducible apply x_q); exact rfl; intro wq hq)); (first | ((with_reducible apply r_boxA); exact rfl) | ((with_reducible apply r_box1); exact rfl; exact rfl) | ((with_reducible apply r_assign_i); exact rfl) | ((with_reducible apply r_move_i); exact rfl) | ((with_reducible apply r_move_p); exact rfl) | ((with_reducible apply r_nilCheck); exact rfl) | ((with_reducible apply r_fld); exact fa_ok rfl; exact rfl) | ((with_reducible apply r_len); exact u_ok rfl; exact rfl) | ((with_reducible apply r_lss_t); exact rfl; exact rfl; omega) | ((with_reducible apply r_lss_f); exact rfl; exact rfl; omega) | ((with_reducible apply r_lss); exact rfl; exact rfl) | ((with_reducible apply r_index); exact u_ok rfl; exact s_ok rfl; exact rfl; exact rfl; omega; omega) | ((with_reducible apply r_indexarr); exact u_ok rfl; exact s_ok rfl; exact rfl; exact rfl; omega; omega) | ((with_reducible apply r_eql_t); exact rfl; exact rfl; omega) | ((with_reducible apply r_eql_f); exact rfl; exact rfl; omega) | ((with_reducible apply r_eql); exact rfl; exact rfl) | ((with_reducible apply r_assign_s); exact rfl) | ((with_reducible apply r_move_s); exact rfl) | ((with_reducible apply r_add); exact rfl; exact rfl; omega; omega) | ((with_reducible apply r_loadA); exact u_ok rfl; exact rfl; exact s_ok rfl; exact rfl; (first | exact Frm.at0 hq (by assumption) | exact Frm.at hq (by assumption) (by assumption) | (first | (with_reducible assumption) | assumption | exact at_alloc_new _ _ | (repeat (first | assumption | exact at_alloc_new _ _ | refine at_drew ?_ | refine at_alloc _ ?_)))); exact Nat.le_of_ble_eq_true rfl) | ((with_reducible apply r_assign_p); exact rfl) | ((with_reducible apply r_allocA); exact z_ok rfl) | ((with_reducible apply r_alloc1); exact z_ok rfl; exact rfl) | ((with_reducible apply r_neq_t); exact rfl; exact rfl; omega) | ((with_reducible apply r_neq_f); exact rfl; exact rfl; omega) | ((with_reducible apply r_neq); exact rfl; exact rfl) | ((with_reducible apply r_assign_b); exact rfl) | ((with_reducible apply r_assign_if); exact rfl) | ((with_reducible apply r_assign_ni); exact rfl) | ((with_reducible apply r_move_if); exact rfl) | ((with_reducible apply r_move_ni); exact rfl) | ((with_reducible apply r_leq_t); exact rfl; exact rfl; omega) | ((with_reducible apply r_leq_f); exact rfl; exact rfl; omega) | ((with_reducible apply r_leq); exact rfl; exact rfl) | ((with_reducible apply r_sub); exact rfl; exact rfl; omega; omega) | ((with_reducible apply r_move_b); exact rfl) | ((with_reducible apply r_gtr_t); exact rfl; exact rfl; omega) | ((with_reducible apply r_gtr_f); exact rfl; exact rfl; omega) | ((with_reducible apply r_gtr); exact rfl; exact rfl) | ((with_reducible apply r_pick_t); exact rfl; (with_reducible exact rfl); exact rfl) | ((with_reducible apply r_pick_f); exact rfl; (with_reducible exact rfl); exact rfl) | ((with_reducible apply r_load); exact u_ok rfl; exact rfl; exact rfl; (first | exact Frm.at0 hq (by assumption) | exact Frm.at hq (by assumption) (by assumption) | (first | (with_reducible assumption) | assumption | exact at_alloc_new _ _ | (repeat (first | assumption | exact at_alloc_new _ _ | refine at_drew ?_ | refine at_alloc _ ?_)))); (first | exact mid_get rfl | exact mid_get2 rfl | exact mid_get0 rfl | exact rfl))); (first | (with_reducible exact wnt_none) | ((with_reducible apply wnt_y); exact rfl; exact rfl; exact rfl; exact rfl; (with_reducible exact rfl)))))); exact h.out) : G := h ⟨k⟩

theorem fl_take {α : Type} {f : α → List Value} (l : List α) (j : Nat) : fl f l = fl f (l.take j) ++ fl f (l.drop j) := by
  rw [← fl_append, List.take_append_drop]
section
variable {α : Type} {f : α → List Value} {P : Program} {w : World} {v : Value} {ty e k : Nat} {l : List α} {j : Nat}
theorem segO_to (hf : ∀ x, (f x).length = k) (hu : P.underlying ty = some (.slice e)) (hs : szOf P e = some k) (h : RowO w v e k l.length (fl f l)) (hj : j ≤ l.length) :
    ∃ s, (∀ w0, (Instr.sliceAt ty v none (some (I j)) none).run P w0 = .ok s w0) ∧ Seg w s k (l.take j).length (fl f (l.take j)) ∧ ∀ b, InV s b → InV v b := by
  have hlt : (l.take j).length = j := by rw [List.length_take]; omega
  rcases h with ⟨rfl, h0, _⟩ | ⟨b, skip, cap, rest, rfl, hA, hl, hr, hc⟩
  · have hz : j = 0 := by omega
    subst hz
    refine ⟨_, fun w0 => sliceTo_run hu hs (Nat.le_refl _), .inl ⟨⟨_, _, rfl⟩, by simp, by simp [fl]⟩, ?_⟩
    rintro b ⟨_, _, _, hv⟩
    simp at hv
  · refine ⟨_, fun w0 => sliceTo_run hu hs (by omega), ?_, ?_⟩
    · by_cases hz : cap = 0
      · have : j = 0 := by omega
        subst this
        exact .inl ⟨⟨_, _, rfl⟩, by simp, by simp [fl]⟩
      · rw [if_neg hz]
        refine .inr ⟨b, skip.length, cap, _, _, _, by rw [hlt]; simp [Addr.add], hA, ?_, ?_⟩
        · rw [hlt, List.length_append, List.length_append, hl]
          have := Nat.mul_le_mul_right k hj
          omega
        · have e1 : (fl f (l.take j)).length = j * k := by rw [fl_len hf, hlt]
          rw [hlt, ← Nat.add_zero skip.length, sub_drop, fl_take l j, List.append_assoc, ← e1]
          exact sub_left _ _
    · rintro b' ⟨off, l, c, hv⟩
      split at hv
      · injection hv with h1 _ _
        exact ⟨_, _, _, by rw [h1]⟩
      · simp [Addr.add] at hv
        exact ⟨_, _, _, by rw [hv.1.1]⟩
theorem segO_from (hf : ∀ x, (f x).length = k) (hu : P.underlying ty = some (.slice e)) (hs : szOf P e = some k) (h : RowO w v e k l.length (fl f l)) (hj : j ≤ l.length) :
    ∃ s, (∀ w0, (Instr.sliceAt ty v (some (I j)) none none).run P w0 = .ok s w0) ∧ RowO w s e k (l.drop j).length (fl f (l.drop j)) ∧ ∀ b, InV s b → InV v b := by
  have hlt : (l.drop j).length = l.length - j := List.length_drop
  rcases h with ⟨rfl, h0, _⟩ | ⟨b, skip, cap, rest, rfl, hA, hl, hr, hc⟩
  · have hz : j = 0 := by omega
    subst hz
    have hl0 := List.length_eq_zero_iff.1 h0
    subst hl0
    refine ⟨_, fun w0 => sliceFrom_run hu hs (Nat.le_refl _), .inl ⟨by simp, rfl, rfl⟩, ?_⟩
    rintro b ⟨_, _, _, hv⟩
    simp at hv
  · have e1 : (fl f (l.take j)).length = j * k := by rw [fl_len hf, List.length_take]; congr 1; omega
    have e2 : (fl f (l.drop j)).length = (l.drop j).length * k := fl_len hf _
    have e3 : skip ++ (fl f l ++ rest) = (skip ++ fl f (l.take j)) ++ (fl f (l.drop j) ++ rest) := by rw [fl_take l j]; simp
    rw [e3] at hA
    refine ⟨_, fun w0 => sliceFrom_run hu hs hj, ?_, ?_⟩
    · by_cases hz : cap = j
      · have h3 : l.drop j = [] := List.length_eq_zero_iff.1 (by omega)
        rw [if_pos hz]
        rw [h3] at hA ⊢
        refine .inr ⟨b, skip, cap - j, fl f (l.take j) ++ rest, by rw [show l.length - j = 0 by omega]; rfl, by simpa [fl] using hA, by simp [fl], ?_, by simp⟩
        rw [show cap - j = 0 by omega]
        simp
      · rw [if_neg hz]
        refine .inr ⟨b, skip ++ fl f (l.take j), cap - j, rest, ?_, hA, e2, ?_, by omega⟩
        · rw [hlt, Option.map_some, add_none, List.length_append, e1]
        · rw [hlt]
          obtain ⟨d, rfl⟩ : ∃ d, cap = d + j := ⟨cap - j, by omega⟩
          obtain ⟨n, hn⟩ : ∃ n, l.length = n + j := ⟨l.length - j, by omega⟩
          rw [hn] at hr ⊢
          rw [Nat.add_mul, Nat.add_mul] at hr
          simp only [Nat.add_sub_cancel]
          omega
    · rintro b' ⟨off, l, c, hv⟩
      split at hv
      · injection hv with h1 _ _
        exact ⟨_, _, _, by rw [h1]⟩
      · rw [Option.map_some, add_none] at hv
        injection hv with h1 _ _
        injection h1 with h1
        injection h1 with h1 _ _
        exact ⟨_, _, _, by rw [h1]⟩
end
theorem eraseP_at {α : Type} {p : α → Bool} : ∀ {l : List α} {j : Nat} {q : α}, l.take j = (l.take j).filter (fun y => !p y) → l[j]? = some q → p q = true → l.eraseP p = l.take j ++ l.drop (j + 1)
  | [], j, q, _, h, _ => by simp at h
  | x :: l, 0, q, _, h, hp => by
    simp at h
    subst h
    simp [hp]
  | x :: l, j + 1, q, hn, h, hp => by
    rw [List.take_succ_cons] at hn
    have hx : p x = false := by
      cases hpx : p x with
      | false => rfl
      | true =>
        rw [List.filter_cons_of_neg (by simp [hpx])] at hn
        have h1 := congrArg List.length hn
        have h2 := List.length_filter_le (fun y => !p y) (l.take j)
        simp only [List.length_cons] at h1
        omega
    rw [List.filter_cons_of_pos (by simp [hx])] at hn
    have := eraseP_at (l := l) (j := j) (by injection hn) (by simpa using h) hp
    simp [hx, this]
def AnsV (a : Ans) : Value := .agg a.vals.toArray
theorem none_take {l : List (Int × Ed)} {s : Int} {j : Nat} {q : Int × Ed} (hq : l[j]? = some q) (h : l.take j = (l.take j).filter (fun y => !decide (y.1 = s))) (hn : q.1 ≠ s) : l.take (j + 1) = (l.take (j + 1)).filter (fun y => !decide (y.1 = s)) := by
  rw [List.take_add_one, hq, List.filter_append, ← h]
  simp [hn]
theorem none_any {l : List (Int × Ed)} {s : Int} (h : l = l.filter (fun y => !decide (y.1 = s))) : l.any (fun q => decide (q.1 = s)) = false := by
  rw [h, List.any_filter]
  simp

set_option maxRecDepth 4000 in
set_option maxHeartbeats 2000000 in
theorem answered_ret {w : World} {col : Nat → Nat} {k fz c br bb cap : Nat} {rest : List Value} {ps as' us ds : Value} {x : Cli} (k0 : Nat) (hB : CliB w col k fz c br bb cap rest ps as' us ds x) (hh : ∀ b, w.heap.size ≤ b → col b = 0) (hk : fz < k ∧ k0 ≤ k ∧ k + 10 ≤ k0 + 100) (a : Ans) (hbp : x.pend.length < 1000) (hba : x.ans.length < 4000000000000) :
    Rets Tryz.prog 62 [Ptr c, AnsV a] w fun v w' => v = .tuple #[] ∧ ∃ col' ps' as2, CliB w' col' k fz c br bb cap rest ps' as2 us ds (answered x a) ∧ CGo k0 k w w' col col' := by
  have hF0 : Frm0 w (w.alloc (cel a.vals 64)) := Frm.of_alloc _ _
  have hbox := at_alloc_new w (cel a.vals 64)
  have hB0 := hB.frm hF0 (fun _ _ h => h)
  have g0 : CGo k0 k w (w.alloc (cel a.vals 64)) col col := CGo.frm0 hh hF0
  obtain ⟨pa, pc, rfl⟩ := hB.pend.isSl
  obtain ⟨aa, ac, rfl⟩ := hB.ans.isSl
  have hcbx : col w.heap.size = 0 := hh _ (Nat.le_refl _)
  have hcw := at_lt hB.head
  refine rets_of Tryz.func62 (by kernel_rfl) rfl Tryz.ntmps62 (Nat.le_of_ble_eq_true rfl) ?_
  refine runG10 ?_
  obtain ⟨w1, e1⟩ : ∃ w1, w1 = w.alloc (cel a.vals 64) := ⟨_, rfl⟩
  rw [← e1] at hB0 g0 hF0 hbox ⊢
  have hlbx := at_lt hbox
  have hi0 := g0.ext.high
  have hd1 := hB0.head
  clear e1
  refine lp (fun env w' => Frm0 w1 w' ∧ ∃ env0, ∃ j : Nat, env = setL env0 [(0, Ptr c), (3, Ptr w.heap.size), (4, I j)] ∧ j ≤ x.pend.length ∧ x.pend.take j = (x.pend.take j).filter (fun y => !decide (y.1 = a.seq))) (fun env _ => x.pend.length - cnt (env 4)) ?_ ?_
  · exact ⟨Frm.refl _ _, _, 0, fixL ⟨rfl, rfl, rfl, trivial⟩, by omega, by simp⟩
  · rintro env w2 ⟨f2, env0, j, rfl, hj, hno⟩
    have hd2 := f2.at0 hd1
    have hbx2 := f2.at0 hbox
    have hB2 := hB0.frm f2 (fun _ _ h => h)
    have g2 : CGo k0 k w w2 col col := g0.trans (CGo.frm0 hi0 f2)
    have hi2 := g2.ext.high
    by_cases hlt : j < x.pend.length
    · obtain ⟨q, hq⟩ : ∃ q, x.pend[j]? = some q := ⟨_, List.getElem?_eq_getElem hlt⟩
      rcases hB2.pend with ⟨_, h0, _⟩ | ⟨pb, skip, pcap, prest, hpv, hA, hpl2, hpr, hpc⟩
      · omega
      · cases hpv
        have hg : (skip ++ (fl pdV x.pend ++ prest))[skip.length + (j : Int).toNat * 7]? = some (I q.1) := by
          have := fl_get pd_len hq (show (pdV q)[0]? = some (I q.1) from rfl) skip prest
          rw [Nat.add_zero] at this
          exact this
        by_cases hqs : q.1 = a.seq
        · have her := eraseP_at hno hq (by simpa using hqs)
          have hany : x.pend.any (fun q => decide (q.1 = a.seq)) = true := List.any_eq_true.2 ⟨q, List.mem_of_getElem? hq, by simpa using hqs⟩
          have hans : answered x a = { x with pend := x.pend.take j ++ x.pend.drop (j + 1), ans := x.ans ++ [a] } := by rw [answered, if_pos hany, her]
          rw [hans]
          refine runG10 ?_
          refine w_drawn [(0, false), (1, false), (2, false), (3, false), (4, false), (5, false), (6, false), (7, false), (8, false), (9, false), (10, false)] [] (fun wq => Frm0 w2 wq) mixed (by kernel_rfl) ?_ ?_
          · exact Frm.of_drew _
          · refine runG10 ?_
            refine x_q rfl (fun wq hwq => r_load (u_ok rfl) rfl rfl (hwq.at0 hA) hg) wnt_none ?_
            refine runG10 ?_
            have fd : Frm0 w2 w2.drew := Frm.of_drew _
            have hBd := hB2.frm fd (fun _ _ h => h)
            obtain ⟨s1, hs1, hseg1, hin1⟩ := segO_to (P := Tryz.prog) (ty := 127) (j := j) pd_len (u_ok rfl) (s_ok rfl) hBd.pend hj
            refine s_val (r_slTo rfl rfl (hs1 _)) wnt_none ?_
            obtain ⟨v3, w3, e3, r3, f3, n3⟩ := append_pd (ty := 127) (A := []) (C := x.pend.take j) (.inl ⟨rfl, rfl, rfl⟩ : RowO w2.drew (.slice none 0 0) _ 7 0 []) hseg1 (by rw [List.length_take]; simp; omega)
            rw [List.nil_append] at r3
            have f3' : Frm0 w2 w3 := fd.trans f3 (fun b hb => (inv_none hb).elim)
            have n3' : ∀ b, InV v3 b → w2.heap.size ≤ b := fun b hb => by
              rcases n3 b hb with h | h
              · exact (inv_none h).elim
              · exact h
            refine s_val (r_app rfl rfl e3) wnt_none ?_
            obtain ⟨a3, c3, rfl⟩ := r3.isSl
            have hd3 := f3'.at0 hd2
            have hB3 := hB2.frm f3' (fun _ _ h => h)
            refine runG10 ?_
            obtain ⟨s2, hs2, hrow2, hin2⟩ := segO_from (P := Tryz.prog) (ty := 127) (j := j + 1) pd_len (u_ok rfl) (s_ok rfl) hB3.pend hlt
            have hs2' : ∀ w0, (Instr.sliceAt 127 (.slice (some ⟨pb, skip.length, none⟩) x.pend.length pc) (some (.int .i64 ((j : Int) + 1))) none none).run Tryz.prog w0 = .ok s2 w0 := fun w0 => hs2 w0
            refine s_val (r_slFrom rfl rfl (hs2' _)) wnt_none ?_
            obtain ⟨v4, w4, e4, r4, f4, n4⟩ := append_pd (ty := 127) r3 hrow2.seg (by rw [List.length_take, List.length_drop]; omega)
            refine s_val (r_app rfl rfl e4) wnt_none ?_
            have f4' : Frm0 w2 w4 := f3'.trans f4 (fun b hb => .inr (n3' b hb))
            have n4' : ∀ b, InV v4 b → w2.heap.size ≤ b := fun b hb => by
              rcases n4 b hb with h | h
              · exact n3' b h
              · exact Nat.le_trans f3'.size h
            have hd4 := f4'.at0 hd2
            have hB5 := hB2.repend hk.1 (f4'.mono (fun _ h => h.elim)) r4 (fun b hb => .inr (n4' b hb))
            have g5 := CGo.paint (k0 := k0) (u := .slice (some ⟨pb, skip.length, none⟩) x.pend.length pc) (o := cel [Ptr br, I x.n, v4, I x.seq, .slice aa x.ans.length ac, B x.joined, B x.told, us, ds] 130) hi2 hB2.own (f4'.mono (fun _ h => h.elim)) hB2.cpend r4.blk (by omega) (by omega)
            have hbx4 := f4'.at0 hbx2
            have hlx : w.heap.size < w2.heap.size := at_lt hbx2
            obtain ⟨a4, c4, rfl⟩ := r4.isSl
            refine runG10 ?_
            refine s_skip (r_store_s (s_ok rfl) rfl rfl hd4 (by simp)) wnt_none ?_
            obtain ⟨w5, e5⟩ : ∃ w5, w5 = setB w4 c (cel ([Ptr br, I x.n, .slice (some ⟨pb, skip.length, none⟩) x.pend.length pc, I x.seq, .slice aa x.ans.length ac, B x.joined, B x.told, us, ds].set (0 + 2) (.slice a4 (x.pend.take j ++ x.pend.drop (j + 1)).length c4)) 130) := ⟨_, rfl⟩
            rw [← e5]
            have hB6 : ∃ col5, CliB w5 col5 k fz c br bb cap rest (.slice a4 (x.pend.take j ++ x.pend.drop (j + 1)).length c4) (.slice aa x.ans.length ac) us ds { x with pend := x.pend.take j ++ x.pend.drop (j + 1) } ∧ CGo k0 k w2 w5 col col5 := by
              rw [e5]
              exact ⟨_, hB5, g5⟩
            obtain ⟨col5, hB6, g6⟩ := hB6
            have hbx5 : At w5 w.heap.size (cel a.vals 64) := by
              rw [e5]
              exact at_setB_ne _ (by omega) hbx4
            clear e5 hB5 g5
            have hi5 := g6.ext.high
            have hd5 : At w5 c (cel [Ptr br, I x.n, .slice a4 (x.pend.take j ++ x.pend.drop (j + 1)).length c4, I x.seq, .slice aa x.ans.length ac, B x.joined, B x.told, us, ds] 130) := hB6.head
            have hcx5 : col5 w.heap.size = 0 := by rw [g6.ext.old _ hlx]; exact hcbx
            have hca := hB6.cans
            have hnc : ¬ InV (.slice aa x.ans.length ac) c := fun h => by have := hca _ h; have := hB6.own; omega
            have hnx : ¬ InV (.slice aa x.ans.length ac) w.heap.size := fun h => by have := hca _ h; omega
            refine runG10 ?_
            refine w_drawn [(0, false), (1, false), (2, false), (3, false), (4, false), (5, false), (6, true), (7, true), (8, false), (9, false)] [10] (fun wq => Frm (InV (.slice aa x.ans.length ac)) w5 wq) mixed (by kernel_rfl) ?_ ?_
            · exact Frm.of_drew _
            · refine runG10 ?_
              rw [show sub a.vals 0 2 = a.vals from rfl]
              refine x_val rfl (r_bs rfl (bs_ans _ _)) wnt_none ((Frm.of_drew w5).alloc _) ?_
              have hFb : Frm0 w5 (w5.drew.alloc (cel a.vals 64)) := (Frm.of_drew w5).alloc _
              obtain ⟨v6, w6, e6, r6, f6, n6⟩ := append_ans (ty := 65) (A := x.ans) (C := [a]) (hB6.ans.frm hFb (fun _ _ h => h)) (seg_new rfl) (by show x.ans.length + 1 < 8000000000000; omega)
              have f6' : Frm (InV (.slice aa x.ans.length ac)) w5 w6 := (hFb.mono (fun _ h => h.elim)).trans f6 (fun b hb => .inl hb)
              have n6' : ∀ b, InV v6 b → InV (.slice aa x.ans.length ac) b ∨ w5.heap.size ≤ b := fun b hb => (n6 b hb).imp id (fun h => Nat.le_trans hFb.size h)
              refine x_val rfl (r_app rfl rfl e6) wnt_none f6' ?_
              have hd6 := f6'.at hnc hd5
              have hB7 := hB6.reans hk.1 f6' r6 n6'
              have g7 := CGo.paint (k0 := k0) (o := cel [Ptr br, I x.n, .slice a4 (x.pend.take j ++ x.pend.drop (j + 1)).length c4, I x.seq, v6, B x.joined, B x.told, us, ds] 130) hi5 hB6.own f6' hca r6.blk (by omega) (by omega)
              obtain ⟨a6, c6, rfl⟩ := r6.isSl
              refine runG10 ?_
              refine y_skip rfl (r_store_s (s_ok rfl) rfl rfl hd6 (by simp)) wnt_none ?_
              refine runG10 ?_
              exact ret_0 rfl ⟨rfl, _, _, _, hB7, (g2.trans g6).trans g7⟩
        · refine runG10 ?_
          refine w_drawn [(0, false), (1, false), (2, false), (3, false), (4, false), (5, false), (6, false), (7, false), (8, false), (9, false), (10, false)] [] (fun wq => Frm0 w2 wq) mixed (by kernel_rfl) ?_ ?_
          · exact Frm.of_drew _
          · refine runG10 ?_
            refine x_q rfl (fun wq hwq => r_load (u_ok rfl) rfl rfl (hwq.at0 hA) hg) wnt_none ?_
            refine runG10 ?_
            exact ⟨_, rfl, ⟨f2.drew, _, j + 1, fixL ⟨rfl, rfl, rfl, trivial⟩, by omega, none_take hq hno hqs⟩, by show x.pend.length - ((j : Int) + 1).toNat < x.pend.length - (j : Int).toNat; omega⟩
    · have hjl : j = x.pend.length := by omega
      subst hjl
      rw [List.take_length] at hno
      have hans : answered x a = x := by rw [answered, none_any hno]; rfl
      rw [hans]
      refine runG10 ?_
      exact end_0 rfl ⟨rfl, _, _, _, hB2, g2⟩
end Go.Proofs.YtbicffldggcdhabGreatDoor

namespace Go.Proofs.YtbicffldggcdhabGreatDoor
open Go

theorem r_netl {w : World} {n : Nat} {env : Env} {d : Option Nat} {t ty2 : Nat} {p : String} {af : Array Edge} {g : Option (Nat × Bool)} {x : Operand} {a : Addr} (hx : ev n env x = .pointer (some a)) : (execOp (ev n env) ⟨d, .binOp .neq 47 x (.const (.pointer none)) ty2, t, p, af, g⟩).run Tryz.prog w = .ok (.value (.bool true)) w :=
  r_eq2 hx (show ev n env (.const (.pointer none)) = .pointer none from rfl) rfl (by kernel_rfl)
theorem r_netn {w : World} {n : Nat} {env : Env} {d : Option Nat} {t ty2 : Nat} {p : String} {af : Array Edge} {g : Option (Nat × Bool)} {x : Operand} (hx : ev n env x = .pointer none) : (execOp (ev n env) ⟨d, .binOp .neq 47 x (.const (.pointer none)) ty2, t, p, af, g⟩).run Tryz.prog w = .ok (.value (.bool false)) w :=
  r_eq2 hx (show ev n env (.const (.pointer none)) = .pointer none from rfl) rfl (by kernel_rfl)
section
variable {w w2 : World} {col : Nat → Nat} {k fz c br bb cap : Nat} {rest : List Value} {ps as' us ds : Value} {x : Cli}
theorem CliB.rebase {r b cap2 : Nat} {rest2 : List Value} {l : List Nd} (k0 : Nat) (h : CliB w col k fz c br bb cap rest ps as' us ds x) (hk : fz < k ∧ k0 ≤ k ∧ k + 10 ≤ k0 + 100) (hh : ∀ b, w.heap.size ≤ b → col b = 0) (f : Frm0 w w2) (hT : RefT w2 r b cap2 rest2 l) (hr : w.heap.size ≤ r) (hb : w.heap.size ≤ b) (wf : Wf l) :
    ∃ col', CliB (setB w2 c (cel [Ptr r, I x.n, ps, I x.seq, as', B x.joined, B x.told, us, ds] 130)) col' k fz c r b cap2 rest2 ps as' us ds { x with base := l } ∧ CGo k0 k w (setB w2 c (cel [Ptr r, I x.n, ps, I x.seq, as', B x.joined, B x.told, us, ds] 130)) col col' := by
  have hs := f.size
  have lr := at_lt hT.head
  have lb := at_lt hT.row
  have hc := h.own
  have lc := at_lt h.head
  obtain ⟨col', e, cr, cb⟩ : ∃ col', Ext k0 w w2 col col' ∧ col' r = k + 1 ∧ col' b = k + 1 := by
    refine ⟨fun y => if w.heap.size ≤ y ∧ (y = r ∨ y = b) then k + 1 else col y, ⟨fun y hy => if_neg (by omega), fun y hy => ?_, fun y hy => ?_⟩, if_pos ⟨hr, .inl rfl⟩, if_pos ⟨hb, .inr rfl⟩⟩
    · show (if _ then _ else _) = 0
      rw [if_neg (by omega)]
      exact hh y (by omega)
    · show (if _ then _ else _) = 0 ∨ _
      split
      · exact .inr ⟨by omega, by omega⟩
      · exact .inl (hh y hy)
  have h' := (h.recol e.old).frm f (fun _ _ h => h)
  have hF : ∀ o, Frm (fun b => b = c) w2 (setB w2 c o) := fun o => (Frm.refl (fun b => b = c) w2).setB (b := c) (.inl rfl) o
  have hc' := h'.own
  refine ⟨_, ⟨at_setB _ h'.head, h'.own, hT.frm (hF _) (by omega) (by omega), cr, cb, wf, ?_, h'.cpend, ?_, h'.cans, ?_, h'.cup, ?_, h'.cdown⟩, e.setB, (f.mono (fun _ h => h.elim)).setB (b := c) (.inl ⟨by omega, by omega⟩) _⟩
  · exact h'.pend.frm (hF _) (fun b hb e => by have := h'.cpend b hb; rw [e] at this; omega)
  · exact h'.ans.frm (hF _) (fun b hb e => by have := h'.cans b hb; rw [e] at this; omega)
  · exact h'.up.frm (hF _) (fun b hb e => by rw [e] at hb; omega) (fun b hb e => by have := h'.cup b hb; rw [e] at this; omega)
  · exact h'.down.frm (hF _) (fun b hb e => by rw [e] at hb; omega) (fun b hb e => by have := h'.cdown b hb; rw [e] at this; omega)
theorem CliB.applied {l : List Nd} (k0 : Nat) (h : CliB w col k fz c br bb cap rest ps as' us ds x) (hk : fz < k ∧ k0 ≤ k ∧ k + 10 ≤ k0 + 100) (hh : ∀ b, w.heap.size ≤ b → col b = 0) (hT : RefTo w w2 br bb l) (f : RFrm br bb w w2) (wf : Wf l) :
    ∃ col' b' cap' rest', CliB w2 col' k fz c br b' cap' rest' ps as' us ds { x with base := l } ∧ CGo k0 k w w2 col col' := by
  obtain ⟨b', cap', rest', hT, hb'⟩ := hT
  have hs := f.size
  have lb := at_lt hT.row
  have lr := at_lt h.base.head
  have hc1 := h.cbr
  have hc2 := h.cbb
  obtain ⟨col', e, cb⟩ : ∃ col', Ext k0 w w2 col col' ∧ col' b' = k + 1 := by
    refine ⟨fun y => if w.heap.size ≤ y ∧ y = b' then k + 1 else col y, ⟨fun y hy => if_neg (by omega), fun y hy => ?_, fun y hy => ?_⟩, ?_⟩
    · show (if _ then _ else _) = 0
      rw [if_neg (by omega)]
      exact hh y (by omega)
    · show (if _ then _ else _) = 0 ∨ _
      split
      · exact .inr ⟨by omega, by omega⟩
      · exact .inl (hh y hy)
    · show (if _ then _ else _) = _
      rcases hb' with rfl | h1
      · split
        · rfl
        · exact hc2
      · exact if_pos ⟨h1, rfl⟩
  have h' := h.recol e.old
  have hk1 := h'.cbr
  have hk2 := h'.cbb
  have hS : ∀ y, (y = br ∨ y = bb) → col' y = k + 1 := by
    rintro y (rfl | rfl)
    · exact hk1
    · exact hk2
  refine ⟨_, b', cap', rest', ⟨f.at (fun hs => by have := hS _ hs; have := h'.own; omega) h'.head, h'.own, hT, h'.cbr, cb, wf, h'.pend.frm f (fun y hy hs => by have := hS _ hs; have := h'.cpend y hy; omega), h'.cpend, h'.ans.frm f (fun y hy hs => by have := hS _ hs; have := h'.cans y hy; omega), h'.cans, h'.up.frm f (fun y hy hs => by have := hS _ hs; omega) (fun y hy hs => by have := hS _ hs; have := h'.cup y hy; omega), h'.cup, h'.down.frm f (fun y hy hs => by have := hS _ hs; omega) (fun y hy hs => by have := hS _ hs; have := h'.cdown y hy; omega), h'.cdown⟩, e, f.mono (fun y hy => .inl (by rcases hy with rfl | rfl <;> omega))⟩
end
theorem answered_pend (c : Cli) (a : Ans) : (answered c a).pend.length ≤ c.pend.length := by
  unfold answered
  split
  · exact List.length_eraseP_le
  · exact Nat.le_refl _
theorem answered_ans (c : Cli) (a : Ans) : (answered c a).ans.length ≤ c.ans.length + 1 := by
  unfold answered
  split <;> simp
theorem fold_pend : ∀ (l : List Ans) (c : Cli), (l.foldl answered c).pend.length ≤ c.pend.length
  | [], _ => Nat.le_refl _
  | a :: l, c => Nat.le_trans (fold_pend l _) (answered_pend c a)
theorem fold_ans : ∀ (l : List Ans) (c : Cli), (l.foldl answered c).ans.length ≤ c.ans.length + l.length
  | [], _ => Nat.le_refl _
  | a :: l, c => by
    have := fold_ans l (answered c a)
    have := answered_ans c a
    simp only [List.foldl_cons, List.length_cons]
    omega
end Go.Proofs.YtbicffldggcdhabGreatDoor

namespace Go.Proofs.YtbicffldggcdhabGreatDoor
open Go

theorem take_fold {l : List Ans} {j : Nat} {a : Ans} (h : l[j]? = some a) (c : Cli) : (l.take (j + 1)).foldl answered c = answered ((l.take j).foldl answered c) a := by
  rw [List.take_add_one, h, List.foldl_append]
  rfl
set_option maxRecDepth 4000 in
set_option maxHeartbeats 2000000 in
theorem RDown_ret {w : World} {col : Nat → Nat} {k p : Nat} {P : Par} (hP : RefP w col k p P) (i : Int) (hb : ∀ x, P.cl i = some x → 0 ≤ x.n ∧ x.n < 1000000000000000 ∧ x.pend.length < 1000 ∧ x.ans.length < 1900000000000 ∧ ∀ m ∈ x.down, m.ans.length < 1900000000000) :
    Rets Tryz.prog 38 [Ptr p, I i] w fun v w' => v = I (downP P i).1 ∧ PStep w w' col k p (downP P i).2 := by
  have hP' := hP
  obtain ⟨r, b, cap, rest, es, lb, lcap, lrest, cs, h⟩ := hP
  have hhi := h.high
  have hcl := RClient_ret h i
  refine rets_of Tryz.func38 (by kernel_rfl) rfl Tryz.ntmps38 (Nat.le_of_ble_eq_true rfl) ?_
  refine runG10 ?_
  refine s_callf hcl rfl wnt_none ?_
  rintro v w' ⟨hv, rfl⟩
  cases hx : P.cl i with
  | none =>
    rw [hx] at hv
    subst hv
    have hd : downP P i = (1, P) := by rw [downP, hx]
    rw [hd]
    refine runG10 ?_
    refine s_val (r_eqcn rfl) wnt_none ?_
    refine runG10 ?_
    exact ret_i rfl rfl ⟨rfl, PStep.same hP' (Frm.refl _ _)⟩
  | some x =>
    rw [hx] at hv
    obtain ⟨c, hc, rfl⟩ := hv
    obtain ⟨hi0, c2, hc2, hlt, hxc⟩ := h.ptr hx
    rw [hc] at hc2
    cases hc2
    have hpos := h.pos
    have hlen := h.len
    have hfew := h.few
    obtain ⟨hbn0, hbn1, hbp, hba, hbm⟩ := hb x hx
    obtain ⟨br, bb, cap', rest', ps, as', us, ds, hB⟩ := h.cli _ c x hc hxc
    have hh := hB.head
    have hc0 := hB.own
    cases hu : x.down with
    | nil =>
      have hd : downP P i = (9, P) := by rw [downP, hx]; simp [hu]
      rw [hd]
      obtain ⟨ua, uc, rfl⟩ := hB.down.isSl
      have hul : x.down.length = 0 := by rw [hu]; rfl
      refine runG10 ?_
      refine s_val (r_eqcl rfl) wnt_none ?_
      refine runG10 ?_
      exact ret_i rfl rfl ⟨rfl, PStep.same hP' (Frm.refl _ _)⟩
    | cons m ml =>
      have hd : downP P i = (0, P.set i (downC i { x with down := ml } m)) := by rw [downP, hx]; simp [hu]
      rw [hd]
      have hbmm := hbm m (by rw [hu]; exact List.mem_cons_self)
      have hdn := hB.down
      rw [hu] at hdn
      obtain ⟨c0, ub, skip, ucap, X, rfl, hA, hl0, hm, s, hsl, hMs, hIn⟩ := msgs_uncons hdn
      have hm' := hm
      obtain ⟨tp, av, rfl, htp, hav, hcav⟩ := hm'
      obtain ⟨sa, sc, rfl⟩ := hav.isSl
      obtain ⟨ta, rfl⟩ : ∃ ta, tp = .pointer ta := by
        obtain ⟨ta, _, _, _, he⟩ := hm.forms
        have h18 := congrArg (fun l => l[17]?) he
        exact ⟨ta, by simpa [msgV, Ed.vals, Ent.vals] using h18⟩
      have hlA : skip.length + (0 : Int).toNat * 20 + 20 ≤ (skip ++ (msgV m (.pointer ta) (.slice sa m.ans.length sc) ++ X)).length := by
        rw [List.length_append, List.length_append, hl0]
        show skip.length + 0 * 20 + 20 ≤ _
        omega
      have hsA : sub (skip ++ (msgV m (.pointer ta) (.slice sa m.ans.length sc) ++ X)) (skip.length + (0 : Int).toNat * 20) 20 = msgV m (.pointer ta) (.slice sa m.ans.length sc) := by
        show sub _ (skip.length + 0) 20 = _
        rw [sub_drop]
        exact sub_left (msgV m (.pointer ta) (.slice sa m.ans.length sc)) X
      refine runG10 ?_
      refine s_val (r_eqcl rfl) wnt_none ?_
      refine runG10 ?_
      refine s_val (r_loadV (vs := msgV m (.pointer ta) (.slice sa m.ans.length sc)) (u_ok rfl) rfl (s_ok rfl) rfl hA hlA hsA) wnt_none ?_
      refine s_val (r_allocA (z_ok rfl)) wnt_none ?_
      refine s_skip (r_storeAll (vs := msgV m (.pointer ta) (.slice sa m.ans.length sc)) (s_ok rfl) rfl rfl (msg_one rfl rfl) (at_alloc_new w _) rfl) wnt_none ?_
      rw [setB_alloc]
      have hF1 : Frm0 w (w.alloc (cel (msgV m (.pointer ta) (.slice sa m.ans.length sc)) 135)) := Frm.of_alloc _ _
      have hbox := at_alloc_new w (cel (msgV m (.pointer ta) (.slice sa m.ans.length sc)) 135)
      have hB1 := hB.frm hF1 (fun _ _ h => h)
      have hMs1 := hMs.frm hF1 (fun _ _ h => h) (fun _ _ h => h)
      generalize hw1 : w.alloc (cel (msgV m (.pointer ta) (.slice sa m.ans.length sc)) 135) = w1 at *
      have hh1 := hB1.head
      refine runG10 ?_
      refine s_val (r_slFrom rfl rfl (hsl w1)) wnt_none ?_
      obtain ⟨sa2, sc2, rfl⟩ := hMs1.isSl
      refine runG10 ?_
      refine s_skip (r_store_s (s_ok rfl) rfl rfl hh1 (by simp)) wnt_none ?_
      obtain ⟨w2, e2⟩ : ∃ w2, w2 = setB w1 c (cel ([Ptr br, I x.n, ps, I x.seq, as', B x.joined, B x.told, us, .slice (some ⟨ub, skip.length, none⟩) (ml.length + 1) ucap].set (0 + 8) (.slice sa2 ml.length sc2)) 130) := ⟨_, rfl⟩
      rw [← e2]
      have hcw := at_lt hB.head
      obtain ⟨x2, ex2⟩ : ∃ x2 : Cli, x2 = { x with down := ml } := ⟨_, rfl⟩
      rw [← ex2]
      have hB2 : CliB w2 col (k + 10 + 10 * i.toNat) (k + 4) c br bb cap' rest' ps as' us (.slice sa2 ml.length sc2) x2 := by
        rw [e2, ex2]
        exact hB1.put (y := { x with down := ml }) rfl hB1.pend hB1.cpend hB1.ans hB1.cans hB1.up hB1.cup hMs1 (fun b hb => hB1.cdown b (hIn b hb)) (by omega)
      have g1 : CGo k (k + 10 + 10 * i.toNat) w w1 col col := CGo.frm0 hhi hF1
      have g2 : CGo k (k + 10 + 10 * i.toNat) w w2 col col := g1.trans (by
        rw [e2]
        exact CGo.put g1.ext.high hc0)
      have hbox2 : At w2 w.heap.size (cel (msgV m (.pointer ta) (.slice sa m.ans.length sc)) 135) := by
        rw [e2]
        exact at_setB_ne _ (by omega) hbox
      have hcbx : col w.heap.size = 0 := hhi _ (Nat.le_refl _)
      have hlbx := at_lt hbox2
      have q1 : x2.n = x.n := by rw [ex2]
      have q2 : x2.pend = x.pend := by rw [ex2]
      have q3 : x2.ans = x.ans := by rw [ex2]
      clear e2 hbox hw1 hh1 hMs1 hB1 hsl hMs hIn
      have hd2 := hB2.head
      have hi2 := g2.ext.high
      cases hmt : m.tree with
      | some l =>
        rw [hmt] at htp
        obtain ⟨tr, tb, tcap, trest, e1, hT, hFr, hFb, hWl⟩ := htp
        cases e1
        have hT2 : RefT w2 tr tb tcap trest l := hT.frm g2.frm (by omega) (by omega)
        have hsm := hWl.small
        refine runG10 ?_
        refine s_val (r_netl rfl) wnt_none ?_
        refine runG10 ?_
        refine s_callf (RClone_ret hT2 (by omega) hWl.ne) rfl wnt_none ?_
        rintro v w3 ⟨⟨nr, nb, ncap, nrest, rfl, hTn, hnr, hnb⟩, f3⟩
        have hd3 := f3.at0 hd2
        have hbx3 := f3.at0 hbox2
        obtain ⟨col4, hB4, g4⟩ := hB2.rebase k (by omega) hi2 f3 hTn hnr hnb hWl
        refine runG10 ?_
        refine s_skip (r_store_p (s_ok rfl) rfl rfl hd3 (by simp)) wnt_none ?_
        obtain ⟨w4, e4⟩ : ∃ w4, w4 = setB w3 c (cel ([Ptr br, I x2.n, ps, I x2.seq, as', B x2.joined, B x2.told, us, .slice sa2 ml.length sc2].set (0 + 0) (Ptr nr)) 130) := ⟨_, rfl⟩
        rw [← e4]
        have hB5 : CliB w4 col4 (k + 10 + 10 * i.toNat) (k + 4) c nr nb ncap nrest ps as' us (.slice sa2 ml.length sc2) { x2 with base := l } := by
          rw [e4]
          exact hB4
        have g5 : CGo k (k + 10 + 10 * i.toNat) w2 w4 col col4 := by
          rw [e4]
          exact g4
        have hbx4 : At w4 w.heap.size (cel (msgV m (Ptr tr) (.slice sa m.ans.length sc)) 135) := by
          rw [e4]
          exact at_setB_ne _ (by omega) hbx3
        have hd5 : At w4 c (cel [Ptr nr, I x2.n, ps, I x2.seq, as', B x2.joined, B x2.told, us, .slice sa2 ml.length sc2] 130) := hB5.head
        have hi4 := g5.ext.high
        clear e4 hB4 g4
        refine runG10 ?_
        refine s_skip (r_store_i (s_ok rfl) rfl rfl hd5 (by simp)) wnt_none ?_
        obtain ⟨w5, e5⟩ : ∃ w5, w5 = setB w4 c (cel ([Ptr nr, I x2.n, ps, I x2.seq, as', B x2.joined, B x2.told, us, .slice sa2 ml.length sc2].set (0 + 1) (I m.n)) 130) := ⟨_, rfl⟩
        rw [← e5]
        obtain ⟨x5, ex5⟩ : ∃ x5 : Cli, x5 = { x2 with base := l, n := m.n } := ⟨_, rfl⟩
        have hB6 : CliB w5 col4 (k + 10 + 10 * i.toNat) (k + 4) c nr nb ncap nrest ps as' us (.slice sa2 ml.length sc2) x5 := by
          rw [e5, ex5]
          exact hB5.put (y := { x2 with base := l, n := m.n }) rfl hB5.pend hB5.cpend hB5.ans hB5.cans hB5.up hB5.cup hB5.down hB5.cdown (by omega)
        have g6 : CGo k (k + 10 + 10 * i.toNat) w4 w5 col4 col4 := by
          rw [e5]
          exact CGo.put hi4 hB5.own
        have hbx5 : At w5 w.heap.size (cel (msgV m (Ptr tr) (.slice sa m.ans.length sc)) 135) := by
          rw [e5]
          exact at_setB_ne _ (by omega) hbx4
        clear e5
        have g7 := (g2.trans g5).trans g6
        have hcx4 : col4 w.heap.size = 0 := by rw [g5.ext.old _ hlbx]; exact hcbx
        have hdc : downC i x2 m = m.ans.foldl answered x5 := by rw [downC, hmt, ex5]
        have p5 : x5.pend.length < 1000 := by rw [ex5]; show x2.pend.length < 1000; rw [q2]; exact hbp
        have a5 : x5.ans.length < 1900000000000 := by rw [ex5]; show x2.ans.length < 1900000000000; rw [q3]; exact hba
        refine runG10 ?_
        refine lp (fun env w' => ∃ env0 col' ps' as2, ∃ j : Nat, env = setL env0 [(5, Ptr c), (6, Ptr w.heap.size), (7, I j)] ∧ j ≤ m.ans.length ∧ CliB w' col' (k + 10 + 10 * i.toNat) (k + 4) c nr nb ncap nrest ps' as2 us (.slice sa2 ml.length sc2) ((m.ans.take j).foldl answered x5) ∧ CGo k (k + 10 + 10 * i.toNat) w w' col col' ∧ At w' w.heap.size (cel (msgV m (Ptr tr) (.slice sa m.ans.length sc)) 135) ∧ col' w.heap.size = 0) (fun env _ => m.ans.length - cnt (env 7)) ?_ ?_
        · exact ⟨_, col4, ps, as', 0, fixL ⟨rfl, rfl, rfl, trivial⟩, by omega, hB6, g7, hbx5, hcx4⟩
        · clear hB6 g7 hbx5 hcx4
          rintro env w7 ⟨env0, col7, ps7, as7, j, rfl, hj, hB7, g7, hbx7, hcx7⟩
          have hl7 := at_lt hbx7
          by_cases hltj : j < m.ans.length
          · obtain ⟨a, ha⟩ : ∃ a, m.ans[j]? = some a := ⟨_, List.getElem?_eq_getElem hltj⟩
            rcases hav with ⟨_, h0, _⟩ | ⟨ab, skip2, acap, arest, hpv, hA2, hpl2, hpr, hpc⟩
            · omega
            · cases hpv
              have hcab := hcav ab ⟨_, _, _, rfl⟩
              have hA7 := g7.frm.at (by omega) hA2
              have hlA2 : skip2.length + (j : Int).toNat * 2 + 2 ≤ (skip2 ++ (fl Ans.vals m.ans ++ arest)).length := by
                rw [List.length_append, List.length_append, fl_len ans_len]
                omega
              have hsA2 : sub (skip2 ++ (fl Ans.vals m.ans ++ arest)) (skip2.length + (j : Int).toNat * 2) 2 = a.vals := fl_sub ans_len _ j a ha skip2 arest
              have hp7 := fold_pend (m.ans.take j) x5
              have ha7 := fold_ans (m.ans.take j) x5
              rw [List.length_take] at ha7
              refine runG10 ?_
              refine s_val (r_loadV (vs := a.vals) (u_ok rfl) rfl (s_ok rfl) rfl hA7 hlA2 hsA2) wnt_none ?_
              refine s_callf (answered_ret k hB7 g7.ext.high (by omega) a (by omega) (by omega)) rfl wnt_none ?_
              rintro v w8 ⟨rfl, col8, ps8, as8, hB8, g8⟩
              refine runG10 ?_
              exact ⟨_, rfl, ⟨_, col8, ps8, as8, j + 1, fixL ⟨rfl, rfl, rfl, trivial⟩, by omega, by rw [take_fold ha]; exact hB8, g7.trans g8, g8.frm.at (by omega) hbx7, by rw [g8.ext.old _ hl7]; exact hcx7⟩, by show m.ans.length - ((j : Int) + 1).toNat < m.ans.length - (j : Int).toNat; omega⟩
          · have hjl : j = m.ans.length := by omega
            subst hjl
            rw [List.take_length] at hB7
            refine runG10 ?_
            rw [hdc]
            exact ret_i rfl rfl ⟨rfl, h.go hc g7 ⟨_, _, _, _, _, _, _, _, hB7⟩⟩
      | none =>
        rw [hmt] at htp
        cases htp
        have hWb := hB2.wf
        have hsm := hWb.small
        refine runG10 ?_
        refine s_val (r_netn rfl) wnt_none ?_
        refine runG10 ?_
        cases hdn2 : m.ent.done with
        | true =>
          refine runG10 ?_
          refine w_drawn [(0, false), (1, false), (2, false), (3, false), (4, false), (5, false), (6, false)] [7] (fun wq => Frm0 w2 wq) mixed (by kernel_rfl) ?_ ?_
          · exact Frm.of_drew _
          · refine runG10 ?_
            rw [show sub (msgV m (.pointer none) (.slice sa m.ans.length sc)) (0 + 8 + 2) 6 = m.ent.e.vals from rfl]
            have fd : Frm0 w2 w2.drew := Frm.of_drew _
            have hBd := hB2.frm fd (fun _ _ h => h)
            refine y_callf rfl (RApply_ret hBd.base (by omega) hWb.clo hWb.nodup hWb.rootId m.ent.e) rfl wnt_none ?_
            rintro v w3 ⟨rfl, hTo, hFr⟩
            have gd : CGo k (k + 10 + 10 * i.toNat) w w2.drew col col := g2.trans (CGo.frm0 hi2 fd)
            obtain ⟨col3, b3, cap3, rest3, hB3, g3⟩ := hBd.applied k (by omega) gd.ext.high hTo hFr (hWb.apply m.ent.e)
            have hrx : w.heap.size ≠ br := fun e => by have := hB2.cbr; rw [← e] at this; omega
            have hrb : w.heap.size ≠ bb := fun e => by have := hB2.cbb; rw [← e] at this; omega
            have hbx3 : At w3 w.heap.size (cel (msgV m (.pointer none) (.slice sa m.ans.length sc)) 135) := hFr.at (by rintro (h | h); exact hrx h; exact hrb h) hbox2
            replace g3 := gd.trans g3
            obtain ⟨x3, ex3⟩ : ∃ x3 : Cli, x3 = { x2 with base := applyL x2.base m.ent.e } := ⟨_, rfl⟩
            rw [← ex3] at hB3
            have hn3 : x3.n = x.n := by rw [ex3]; exact q1
            have hd4 := hB3.head
            have hi3 := g3.ext.high
            refine runG10 ?_
            refine s_skip (r_store_i (s_ok rfl) rfl rfl hd4 (by simp)) wnt_none ?_
            obtain ⟨w5, e5⟩ : ∃ w5, w5 = setB w3 c (cel ([Ptr br, I x3.n, ps, I x3.seq, as', B x3.joined, B x3.told, us, .slice sa2 ml.length sc2].set (0 + 1) (I (x3.n + 1))) 130) := ⟨_, rfl⟩
            rw [← e5]
            obtain ⟨x5, ex5⟩ : ∃ x5 : Cli, x5 = { x3 with n := x3.n + 1 } := ⟨_, rfl⟩
            have hB6 : CliB w5 col3 (k + 10 + 10 * i.toNat) (k + 4) c br b3 cap3 rest3 ps as' us (.slice sa2 ml.length sc2) x5 := by
              rw [e5, ex5]
              exact hB3.put (y := { x3 with n := x3.n + 1 }) rfl hB3.pend hB3.cpend hB3.ans hB3.cans hB3.up hB3.cup hB3.down hB3.cdown (by omega)
            have g6 : CGo k (k + 10 + 10 * i.toNat) w w5 col col3 := g3.trans (by
              rw [e5]
              exact CGo.put hi3 hB3.own)
            have hbx5 : At w5 w.heap.size (cel (msgV m (.pointer none) (.slice sa m.ans.length sc)) 135) := by
              rw [e5]
              exact at_setB_ne _ (by omega) hbx3
            clear e5
            have hi5 := g6.ext.high
            by_cases hci : m.ent.client = i
            · have hdc : downC i x2 m = answered x5 ⟨m.ent.seq, m.ent.done⟩ := by rw [downC, hmt, ex5, ex3]; simp [hci, hdn2]
              rw [hdc]
              have p5 : x5.pend.length < 1000 := by rw [ex5, ex3]; show x2.pend.length < 1000; rw [q2]; exact hbp
              have a5 : x5.ans.length < 1900000000000 := by rw [ex5, ex3]; show x2.ans.length < 1900000000000; rw [q3]; exact hba
              refine runG10 ?_
              refine s_val (r_build rfl (bld_ans _ _ _)) wnt_none ?_
              refine s_callf (answered_ret k hB6 hi5 (by omega) ⟨m.ent.seq, m.ent.done⟩ (by omega) (by omega)) rfl wnt_none ?_
              rintro v w8 ⟨rfl, col8, ps8, as8, hB8, g8⟩
              refine runG10 ?_
              exact ret_i rfl rfl ⟨rfl, h.go hc (g6.trans g8) ⟨_, _, _, _, _, _, _, _, hB8⟩⟩
            · have hdc : downC i x2 m = x5 := by rw [downC, hmt, ex5, ex3]; simp [hci, hdn2]
              rw [hdc]
              refine runG10 ?_
              exact ret_i rfl rfl ⟨rfl, h.go hc g6 ⟨_, _, _, _, _, _, _, _, hB6⟩⟩
        | false =>
          obtain ⟨x3, ex3⟩ : ∃ x3, x3 = x2 := ⟨_, rfl⟩
          have hn3 : x3.n = x.n := by rw [ex3]; exact q1
          obtain ⟨w3, col3, b3, cap3, rest3, hB3, g3, hbx3, ew⟩ : ∃ w3 col3 b3 cap3 rest3, CliB w3 col3 (k + 10 + 10 * i.toNat) (k + 4) c br b3 cap3 rest3 ps as' us (.slice sa2 ml.length sc2) x3 ∧ CGo k (k + 10 + 10 * i.toNat) w w3 col col3 ∧ At w3 w.heap.size (cel (msgV m (.pointer none) (.slice sa m.ans.length sc)) 135) ∧ w2 = w3 := ⟨w2, col, bb, cap', rest', by rw [ex3]; exact hB2, g2, hbox2, rfl⟩
          rw [ew]
          have hd4 := hB3.head
          have hi3 := g3.ext.high
          refine runG10 ?_
          refine s_skip (r_store_i (s_ok rfl) rfl rfl hd4 (by simp)) wnt_none ?_
          obtain ⟨w5, e5⟩ : ∃ w5, w5 = setB w3 c (cel ([Ptr br, I x3.n, ps, I x3.seq, as', B x3.joined, B x3.told, us, .slice sa2 ml.length sc2].set (0 + 1) (I (x3.n + 1))) 130) := ⟨_, rfl⟩
          rw [← e5]
          obtain ⟨x5, ex5⟩ : ∃ x5 : Cli, x5 = { x3 with n := x3.n + 1 } := ⟨_, rfl⟩
          have hB6 : CliB w5 col3 (k + 10 + 10 * i.toNat) (k + 4) c br b3 cap3 rest3 ps as' us (.slice sa2 ml.length sc2) x5 := by
            rw [e5, ex5]
            exact hB3.put (y := { x3 with n := x3.n + 1 }) rfl hB3.pend hB3.cpend hB3.ans hB3.cans hB3.up hB3.cup hB3.down hB3.cdown (by omega)
          have g6 : CGo k (k + 10 + 10 * i.toNat) w w5 col col3 := g3.trans (by
            rw [e5]
            exact CGo.put hi3 hB3.own)
          have hbx5 : At w5 w.heap.size (cel (msgV m (.pointer none) (.slice sa m.ans.length sc)) 135) := by
            rw [e5]
            exact at_setB_ne _ (by omega) hbx3
          clear e5
          have hi5 := g6.ext.high
          by_cases hci : m.ent.client = i
          · have hdc : downC i x2 m = answered x5 ⟨m.ent.seq, m.ent.done⟩ := by rw [downC, hmt, ex5, ex3]; simp [hci, hdn2]
            rw [hdc]
            have p5 : x5.pend.length < 1000 := by rw [ex5, ex3]; show x2.pend.length < 1000; rw [q2]; exact hbp
            have a5 : x5.ans.length < 1900000000000 := by rw [ex5, ex3]; show x2.ans.length < 1900000000000; rw [q3]; exact hba
            refine runG10 ?_
            refine s_val (r_build rfl (bld_ans _ _ _)) wnt_none ?_
            refine s_callf (answered_ret k hB6 hi5 (by omega) ⟨m.ent.seq, m.ent.done⟩ (by omega) (by omega)) rfl wnt_none ?_
            rintro v w8 ⟨rfl, col8, ps8, as8, hB8, g8⟩
            refine runG10 ?_
            exact ret_i rfl rfl ⟨rfl, h.go hc (g6.trans g8) ⟨_, _, _, _, _, _, _, _, hB8⟩⟩
          · have hdc : downC i x2 m = x5 := by rw [downC, hmt, ex5, ex3]; simp [hci, hdn2]
            rw [hdc]
            refine runG10 ?_
            exact ret_i rfl rfl ⟨rfl, h.go hc g6 ⟨_, _, _, _, _, _, _, _, hB6⟩⟩
end Go.Proofs.YtbicffldggcdhabGreatDoor

namespace Go.Proofs.YtbicffldggcdhabGreatDoor
open Go

/-- What a step on a group leaves. -/
def AStep (PT : PTy) (w w' : World) (col : Nat → Nat) (N j : Nat) (x : GP) : Prop := ∃ y col', GOk PT w' col' (N + 1) j y ∧ y.p = x.p ∧ y.r = x.r ∧ Bd j w w' col col'
theorem AStep.frm0 {PT : PTy} (sp : TreeSpec PT) {w w1 w2 : World} {col : Nat → Nat} {N j : Nat} {x : GP} (h : AStep PT w w1 col N j x) (f : Frm0 w1 w2) : AStep PT w w2 col N j x := by
  obtain ⟨y, col', h1, h2, h3, h4⟩ := h
  have hh := h1.q.high
  exact ⟨y, col', h1.other sp f (fun _ _ _ h => h) (fun _ _ => rfl) (fun b hb => hh b (Nat.le_trans f.size hb)), h2, h3, h4.trans (Bd.frm0 hh f)⟩
theorem PPar.cl_mem {Q : PPar} {i : Int} {c : PCli} (h : Q.cl i = some c) : c ∈ Q.cls := by
  unfold PPar.cl at h
  split at h
  · cases h
  · exact List.mem_of_getElem? h
theorem ErrIs.form {ea : List Addr} {w : World} {v : Value} {n : Nat} {e : Ed} (h : ErrIs ea w v n e) : v = .nilIface ∨ ∃ b, v = .iface 103 (Ptr b) := by
  rcases h with ⟨_, h⟩ | ⟨_, b, _, h, _⟩
  · exact .inl h
  · exact .inr ⟨b, h⟩
/-- Behind the program's call, the document's; then the reasons are held against each other. -/
theorem acted_fin {PT : PTy} (sp : TreeSpec PT) {w w1 w2 : World} {col : Nat → Nat} {N j p r zg zo : Nat} {Q Q' : PPar} {P : Par} {ea : List Addr} {o : OpR} {m : Nat} {e : Ed} {v : Value} (h : GOk PT w col N j ⟨p, r, Q, P⟩) (hE : Errs w ea) (hlo : (∀ g ∈ errG, col g = 0) ∧ ∀ a ∈ ea, col a.block = 0) (f1 : Frm0 w w1) (hg1 : At w1 zg (cel [Ptr p, Ptr r] 59)) (ho1 : At w1 zo (cel o.vals 40)) (zg0 : col zg = 0) (zo0 : col zo = 0) (hs : QStep PT w1 w2 col (200 * j + 100) p Q') (hv : ErrN ea w1 w2 v m e) :
    At w2 zg (cel [Ptr p, Ptr r] 59) ∧ At w2 zo (cel o.vals 40) ∧ ∃ col2, PP PT w2 col2 (200 * j + 100) p Q' ∧ RefP w2 col2 (200 * j + 200) r P ∧
      ∀ w3 P', PStep w2 w3 col2 (200 * j + 200) r P' → Sim Q' P' → SP P' → PInv (N + 1) P' → At w3 zo (cel o.vals 40) ∧ Rets Tryz.prog 22 [v, I m, EdV e] w3 (fun u w' => u = B true ∧ AStep PT w w' col N j ⟨p, r, Q, P⟩) := by
  have hhi := h.q.high
  have h1 := h.other sp f1 (fun _ _ _ h => h) (fun _ _ => rfl) (fun b hb => hhi b (Nat.le_trans f1.size hb))
  have hE1 := hE.frm0 f1
  obtain ⟨col2, hq2, hr2, b2, n2⟩ := acts1 sp h1 hs
  have hl1 := at_lt ho1
  refine ⟨b2.frm.at (by omega) hg1, b2.frm.at (by omega) ho1, col2, hq2, hr2, fun w3 P' hs3 hsim hsp hinv => ?_⟩
  obtain ⟨col3, hq3, hr3, b3, f3⟩ := acts2 sp hq2 hs3
  have hE2 : Errs w2 ea := hE1.frm b2.frm (fun g hg h9 => by have := hlo.1 g hg; omega) (fun a ha h9 => by have := hlo.2 a ha; omega)
  have hE3 : Errs w3 ea := hE2.frm b3.frm (fun g hg h9 => by have := hlo.1 g hg; rw [b2.old g ((errs_lt hE1).1 g hg)] at h9; omega) (fun a ha h9 => by have := hlo.2 a ha; rw [b2.old _ ((errs_lt hE1).2 a ha)] at h9; omega)
  have hz2 : col2 zo = 0 := by rw [b2.old _ hl1]; exact zo0
  refine ⟨b3.frm.at (by omega) (b2.frm.at (by omega) ho1), ?_⟩
  refine (reason_ret hE3 (hv.keep n2 f3)).mono ?_
  rintro u w4 ⟨rfl, f4⟩
  exact ⟨rfl, AStep.frm0 sp ⟨⟨p, r, Q', P'⟩, col3, ⟨hq3, hr3, hsim, hsp, hinv⟩, rfl, rfl, ((Bd.frm0 hhi f1).trans b2).trans b3⟩ f4⟩
section
variable {PT : PTy} (sp : TreeSpec PT) (cs : CloneSpec PT) {w : World} {col : Nat → Nat} {N j : Nat} {x : GP} {ea : List Addr} {o : OpR}
set_option maxRecDepth 4000 in
set_option maxHeartbeats 1000000 in
theorem acted_edit (sp : TreeSpec PT) (_cs : CloneSpec PT) (h : GOk PT w col N j x) (hE : Errs w ea) (hlo : (∀ g ∈ errG, col g = 0) ∧ ∀ a ∈ ea, col a.block = 0) (hN : N ≤ 1800000000000) (hk : o.kind = 11) :
    Rets Tryz.prog 16 [.agg x.vals.toArray, OpV o] w fun v w' => v = B true ∧ AStep PT w w' col N j x := by
  obtain ⟨p, r, Q, P⟩ := x
  have hlog := h.r.log
  have hb := qb_of h.sim h.sp h.inv hN hlog
  have hhi := h.q.high
  have f1 : Frm0 w ((w.alloc (cel [Ptr p, Ptr r] 59)).alloc (cel o.vals 40)) := ((Frm.refl _ w).alloc _).alloc _
  have hg1 : At ((w.alloc (cel [Ptr p, Ptr r] 59)).alloc (cel o.vals 40)) w.heap.size (cel [Ptr p, Ptr r] 59) := at_alloc _ (at_alloc_new _ _)
  have ho1 : At ((w.alloc (cel [Ptr p, Ptr r] 59)).alloc (cel o.vals 40)) (w.heap.size + 1) (cel o.vals 40) := by
    have := at_alloc_new (w.alloc (cel [Ptr p, Ptr r] 59)) (cel o.vals 40)
    rw [World.size_alloc] at this
    exact this
  have z0 : col w.heap.size = 0 := hhi _ (Nat.le_refl _)
  have z1 : col (w.heap.size + 1) = 0 := hhi _ (by omega)
  show Rets Tryz.prog 16 [.agg [Ptr p, Ptr r].toArray, OpV o] w _
  refine rets_of Tryz.func16 (by kernel_rfl) rfl Tryz.ntmps16 (Nat.le_of_ble_eq_true rfl) ?_
  refine runG10 ?_
  rw [show (w.alloc (cel [Ptr p, Ptr r] 59)).heap.size = w.heap.size + 1 from World.size_alloc _ _]
  generalize (w.alloc (cel [Ptr p, Ptr r] 59)).alloc (cel o.vals 40) = w1 at *
  have h1 := h.other sp f1 (fun _ _ _ h => h) (fun _ _ => rfl) (fun b hb => hhi b (Nat.le_trans f1.size hb))
  have hE1 := hE.frm0 f1
  rw [show sub o.vals (0 + 4) 6 = o.e.vals from rfl]
  refine s_callf (PEdit_ret sp h1.q hE1 wf_root0 o.b o.e (fun c hc => by have := hb.cl c (PPar.cl_mem hc); exact ⟨by omega, by omega⟩)) rfl wnt_none ?_
  rintro v w2 ⟨hv, hs⟩
  obtain ⟨hg2, ho2, col2, hq2, hr2, hfin⟩ := acted_fin sp h hE hlo f1 hg1 ho1 z0 z1 hs hv
  have hv' := hv.1.form
  rcases hv' with rfl | ⟨bb, rfl⟩
  · refine runG10 ?_
    rw [show sub o.vals (0 + 4) 6 = o.e.vals from rfl]
    refine s_callf (REdit_ret hr2 o.b o.e (h.inv.fitEdit hN)) rfl wnt_none ?_
    rintro u w3 ⟨rfl, hs3⟩
    have hsim := h.sim.edit h.sp o.b o.e
    obtain ⟨ho3, hrs⟩ := hfin w3 _ hs3 hsim.2 (h.sp.edit o.b o.e) (h.inv.edit o.b o.e)
    refine runG10 ?_
    rw [show sub o.vals (0 + 4) 6 = o.e.vals from rfl, ← hsim.1]
    refine s_callf hrs rfl wnt_none ?_
    rintro u w4 ⟨rfl, hA⟩
    refine runG10 ?_
    exact ret_b rfl rfl ⟨rfl, hA⟩
  · refine runG10 ?_
    rw [show sub o.vals (0 + 4) 6 = o.e.vals from rfl]
    refine s_callf (REdit_ret hr2 o.b o.e (h.inv.fitEdit hN)) rfl wnt_none ?_
    rintro u w3 ⟨rfl, hs3⟩
    have hsim := h.sim.edit h.sp o.b o.e
    obtain ⟨ho3, hrs⟩ := hfin w3 _ hs3 hsim.2 (h.sp.edit o.b o.e) (h.inv.edit o.b o.e)
    refine runG10 ?_
    rw [show sub o.vals (0 + 4) 6 = o.e.vals from rfl, ← hsim.1]
    refine s_callf hrs rfl wnt_none ?_
    rintro u w4 ⟨rfl, hA⟩
    refine runG10 ?_
    exact ret_b rfl rfl ⟨rfl, hA⟩
set_option maxRecDepth 4000 in
set_option maxHeartbeats 1000000 in
theorem acted_join (sp : TreeSpec PT) (_cs : CloneSpec PT) (h : GOk PT w col N j x) (hE : Errs w ea) (hlo : (∀ g ∈ errG, col g = 0) ∧ ∀ a ∈ ea, col a.block = 0) (hN : N ≤ 1800000000000) (hk : o.kind = 12) :
    Rets Tryz.prog 16 [.agg x.vals.toArray, OpV o] w fun v w' => v = B true ∧ AStep PT w w' col N j x := by
  obtain ⟨p, r, Q, P⟩ := x
  have hlog := h.r.log
  have hb := qb_of h.sim h.sp h.inv hN hlog
  have hhi := h.q.high
  have f1 : Frm0 w ((w.alloc (cel [Ptr p, Ptr r] 59)).alloc (cel o.vals 40)) := ((Frm.refl _ w).alloc _).alloc _
  have hg1 : At ((w.alloc (cel [Ptr p, Ptr r] 59)).alloc (cel o.vals 40)) w.heap.size (cel [Ptr p, Ptr r] 59) := at_alloc _ (at_alloc_new _ _)
  have ho1 : At ((w.alloc (cel [Ptr p, Ptr r] 59)).alloc (cel o.vals 40)) (w.heap.size + 1) (cel o.vals 40) := by
    have := at_alloc_new (w.alloc (cel [Ptr p, Ptr r] 59)) (cel o.vals 40)
    rw [World.size_alloc] at this
    exact this
  have z0 : col w.heap.size = 0 := hhi _ (Nat.le_refl _)
  have z1 : col (w.heap.size + 1) = 0 := hhi _ (by omega)
  show Rets Tryz.prog 16 [.agg [Ptr p, Ptr r].toArray, OpV o] w _
  refine rets_of Tryz.func16 (by kernel_rfl) rfl Tryz.ntmps16 (Nat.le_of_ble_eq_true rfl) ?_
  refine runG10 ?_
  rw [show (w.alloc (cel [Ptr p, Ptr r] 59)).heap.size = w.heap.size + 1 from World.size_alloc _ _]
  generalize (w.alloc (cel [Ptr p, Ptr r] 59)).alloc (cel o.vals 40) = w1 at *
  have h1 := h.other sp f1 (fun _ _ _ h => h) (fun _ _ => rfl) (fun b hb => hhi b (Nat.le_trans f1.size hb))
  have hE1 := hE.frm0 f1
  refine s_callf (PJoin_ret sp h1.q hE1 o.b (fun c hc => by have := hb.cl c (PPar.cl_mem hc); exact ⟨by omega, by omega⟩)) rfl wnt_none ?_
  rintro v w2 ⟨hv, hs⟩
  obtain ⟨hg2, ho2, col2, hq2, hr2, hfin⟩ := acted_fin sp h hE hlo f1 hg1 ho1 z0 z1 hs hv
  have hv' := hv.1.form
  rcases hv' with rfl | ⟨bb, rfl⟩
  · refine runG10 ?_
    refine s_callf (RJoin_ret hr2 o.b h.inv.fitJoin) rfl wnt_none ?_
    rintro u w3 ⟨rfl, hs3⟩
    have hsim := h.sim.join h.sp o.b
    obtain ⟨ho3, hrs⟩ := hfin w3 _ hs3 hsim.2 (h.sp.join o.b) (h.inv.join o.b)
    refine runG10 ?_
    refine s_val (r_build rfl (bld_ed0 _)) wnt_none ?_
    rw [← hsim.1]
    refine s_callf hrs rfl wnt_none ?_
    rintro u w4 ⟨rfl, hA⟩
    refine runG10 ?_
    exact ret_b rfl rfl ⟨rfl, hA⟩
  · refine runG10 ?_
    refine s_callf (RJoin_ret hr2 o.b h.inv.fitJoin) rfl wnt_none ?_
    rintro u w3 ⟨rfl, hs3⟩
    have hsim := h.sim.join h.sp o.b
    obtain ⟨ho3, hrs⟩ := hfin w3 _ hs3 hsim.2 (h.sp.join o.b) (h.inv.join o.b)
    refine runG10 ?_
    refine s_val (r_build rfl (bld_ed0 _)) wnt_none ?_
    rw [← hsim.1]
    refine s_callf hrs rfl wnt_none ?_
    rintro u w4 ⟨rfl, hA⟩
    refine runG10 ?_
    exact ret_b rfl rfl ⟨rfl, hA⟩
set_option maxRecDepth 4000 in
set_option maxHeartbeats 1000000 in
theorem acted_drop (sp : TreeSpec PT) (_cs : CloneSpec PT) (h : GOk PT w col N j x) (hE : Errs w ea) (hlo : (∀ g ∈ errG, col g = 0) ∧ ∀ a ∈ ea, col a.block = 0) (hN : N ≤ 1800000000000) (hk : o.kind = 13) :
    Rets Tryz.prog 16 [.agg x.vals.toArray, OpV o] w fun v w' => v = B true ∧ AStep PT w w' col N j x := by
  obtain ⟨p, r, Q, P⟩ := x
  have hlog := h.r.log
  have hb := qb_of h.sim h.sp h.inv hN hlog
  have hhi := h.q.high
  have f1 : Frm0 w ((w.alloc (cel [Ptr p, Ptr r] 59)).alloc (cel o.vals 40)) := ((Frm.refl _ w).alloc _).alloc _
  have hg1 : At ((w.alloc (cel [Ptr p, Ptr r] 59)).alloc (cel o.vals 40)) w.heap.size (cel [Ptr p, Ptr r] 59) := at_alloc _ (at_alloc_new _ _)
  have ho1 : At ((w.alloc (cel [Ptr p, Ptr r] 59)).alloc (cel o.vals 40)) (w.heap.size + 1) (cel o.vals 40) := by
    have := at_alloc_new (w.alloc (cel [Ptr p, Ptr r] 59)) (cel o.vals 40)
    rw [World.size_alloc] at this
    exact this
  have z0 : col w.heap.size = 0 := hhi _ (Nat.le_refl _)
  have z1 : col (w.heap.size + 1) = 0 := hhi _ (by omega)
  show Rets Tryz.prog 16 [.agg [Ptr p, Ptr r].toArray, OpV o] w _
  refine rets_of Tryz.func16 (by kernel_rfl) rfl Tryz.ntmps16 (Nat.le_of_ble_eq_true rfl) ?_
  refine runG10 ?_
  rw [show (w.alloc (cel [Ptr p, Ptr r] 59)).heap.size = w.heap.size + 1 from World.size_alloc _ _]
  generalize (w.alloc (cel [Ptr p, Ptr r] 59)).alloc (cel o.vals 40) = w1 at *
  have h1 := h.other sp f1 (fun _ _ _ h => h) (fun _ _ => rfl) (fun b hb => hhi b (Nat.le_trans f1.size hb))
  have hE1 := hE.frm0 f1
  refine s_callf (PDrop_ret sp h1.q hE1 o.b) rfl wnt_none ?_
  rintro v w2 ⟨hv, hs⟩
  obtain ⟨hg2, ho2, col2, hq2, hr2, hfin⟩ := acted_fin sp h hE hlo f1 hg1 ho1 z0 z1 hs hv
  have hv' := hv.1.form
  rcases hv' with rfl | ⟨bb, rfl⟩
  · refine runG10 ?_
    refine s_callf (RDrop_ret hr2 o.b) rfl wnt_none ?_
    rintro u w3 ⟨rfl, hs3⟩
    have hsim := h.sim.drop o.b
    obtain ⟨ho3, hrs⟩ := hfin w3 _ hs3 hsim.2 (h.sp.drop o.b) (h.inv.drop o.b)
    refine runG10 ?_
    refine s_val (r_build rfl (bld_ed0 _)) wnt_none ?_
    rw [← hsim.1]
    refine s_callf hrs rfl wnt_none ?_
    rintro u w4 ⟨rfl, hA⟩
    refine runG10 ?_
    exact ret_b rfl rfl ⟨rfl, hA⟩
  · refine runG10 ?_
    refine s_callf (RDrop_ret hr2 o.b) rfl wnt_none ?_
    rintro u w3 ⟨rfl, hs3⟩
    have hsim := h.sim.drop o.b
    obtain ⟨ho3, hrs⟩ := hfin w3 _ hs3 hsim.2 (h.sp.drop o.b) (h.inv.drop o.b)
    refine runG10 ?_
    refine s_val (r_build rfl (bld_ed0 _)) wnt_none ?_
    rw [← hsim.1]
    refine s_callf hrs rfl wnt_none ?_
    rintro u w4 ⟨rfl, hA⟩
    refine runG10 ?_
    exact ret_b rfl rfl ⟨rfl, hA⟩
set_option maxRecDepth 4000 in
set_option maxHeartbeats 1000000 in
theorem acted_up (sp : TreeSpec PT) (cs : CloneSpec PT) (h : GOk PT w col N j x) (hE : Errs w ea) (hlo : (∀ g ∈ errG, col g = 0) ∧ ∀ a ∈ ea, col a.block = 0) (hN : N ≤ 1800000000000) (hk : o.kind = 14) :
    Rets Tryz.prog 16 [.agg x.vals.toArray, OpV o] w fun v w' => v = B true ∧ AStep PT w w' col N j x := by
  obtain ⟨p, r, Q, P⟩ := x
  have hlog := h.r.log
  have hb := qb_of h.sim h.sp h.inv hN hlog
  have hhi := h.q.high
  have f1 : Frm0 w ((w.alloc (cel [Ptr p, Ptr r] 59)).alloc (cel o.vals 40)) := ((Frm.refl _ w).alloc _).alloc _
  have hg1 : At ((w.alloc (cel [Ptr p, Ptr r] 59)).alloc (cel o.vals 40)) w.heap.size (cel [Ptr p, Ptr r] 59) := at_alloc _ (at_alloc_new _ _)
  have ho1 : At ((w.alloc (cel [Ptr p, Ptr r] 59)).alloc (cel o.vals 40)) (w.heap.size + 1) (cel o.vals 40) := by
    have := at_alloc_new (w.alloc (cel [Ptr p, Ptr r] 59)) (cel o.vals 40)
    rw [World.size_alloc] at this
    exact this
  have z0 : col w.heap.size = 0 := hhi _ (Nat.le_refl _)
  have z1 : col (w.heap.size + 1) = 0 := hhi _ (by omega)
  show Rets Tryz.prog 16 [.agg [Ptr p, Ptr r].toArray, OpV o] w _
  refine rets_of Tryz.func16 (by kernel_rfl) rfl Tryz.ntmps16 (Nat.le_of_ble_eq_true rfl) ?_
  refine runG10 ?_
  rw [show (w.alloc (cel [Ptr p, Ptr r] 59)).heap.size = w.heap.size + 1 from World.size_alloc _ _]
  generalize (w.alloc (cel [Ptr p, Ptr r] 59)).alloc (cel o.vals 40) = w1 at *
  have h1 := h.other sp f1 (fun _ _ _ h => h) (fun _ _ => rfl) (fun b hb => hhi b (Nat.le_trans f1.size hb))
  have hE1 := hE.frm0 f1
  refine s_callf (PUp_ret sp cs h1.q hE1 hlo hb o.b) rfl wnt_none ?_
  rintro v w2 ⟨L, hL, hv, hs⟩
  obtain ⟨hg2, ho2, col2, hq2, hr2, hfin⟩ := acted_fin sp h hE hlo f1 hg1 ho1 z0 z1 hs hv
  have hv' := hv.1.form
  rcases hv' with rfl | ⟨bb, rfl⟩
  · refine runG10 ?_
    refine s_callf (RUp_ret hr2 o.b (h.inv.ents hN).1 (h.inv.downs hN) h.inv.fitHello) rfl wnt_none ?_
    rintro u w3 ⟨rfl, hs3⟩
    have hsim := h.sim.up h.sp hlog.1 o.b hL
    obtain ⟨ho3, hrs⟩ := hfin w3 _ hs3 hsim.2 (h.sp.up o.b) (h.inv.up o.b)
    refine runG10 ?_
    refine s_val (r_build rfl (bld_ed0 _)) wnt_none ?_
    rw [← hsim.1]
    refine s_callf hrs rfl wnt_none ?_
    rintro u w4 ⟨rfl, hA⟩
    refine runG10 ?_
    exact ret_b rfl rfl ⟨rfl, hA⟩
  · refine runG10 ?_
    refine s_callf (RUp_ret hr2 o.b (h.inv.ents hN).1 (h.inv.downs hN) h.inv.fitHello) rfl wnt_none ?_
    rintro u w3 ⟨rfl, hs3⟩
    have hsim := h.sim.up h.sp hlog.1 o.b hL
    obtain ⟨ho3, hrs⟩ := hfin w3 _ hs3 hsim.2 (h.sp.up o.b) (h.inv.up o.b)
    refine runG10 ?_
    refine s_val (r_build rfl (bld_ed0 _)) wnt_none ?_
    rw [← hsim.1]
    refine s_callf hrs rfl wnt_none ?_
    rintro u w4 ⟨rfl, hA⟩
    refine runG10 ?_
    exact ret_b rfl rfl ⟨rfl, hA⟩
set_option maxRecDepth 4000 in
set_option maxHeartbeats 1000000 in
theorem acted_down (sp : TreeSpec PT) (_cs : CloneSpec PT) (h : GOk PT w col N j x) (hE : Errs w ea) (hlo : (∀ g ∈ errG, col g = 0) ∧ ∀ a ∈ ea, col a.block = 0) (hN : N ≤ 1800000000000) (hk : o.kind = 15) :
    Rets Tryz.prog 16 [.agg x.vals.toArray, OpV o] w fun v w' => v = B true ∧ AStep PT w w' col N j x := by
  obtain ⟨p, r, Q, P⟩ := x
  have hlog := h.r.log
  have hb := qb_of h.sim h.sp h.inv hN hlog
  have hhi := h.q.high
  have f1 : Frm0 w ((w.alloc (cel [Ptr p, Ptr r] 59)).alloc (cel o.vals 40)) := ((Frm.refl _ w).alloc _).alloc _
  have hg1 : At ((w.alloc (cel [Ptr p, Ptr r] 59)).alloc (cel o.vals 40)) w.heap.size (cel [Ptr p, Ptr r] 59) := at_alloc _ (at_alloc_new _ _)
  have ho1 : At ((w.alloc (cel [Ptr p, Ptr r] 59)).alloc (cel o.vals 40)) (w.heap.size + 1) (cel o.vals 40) := by
    have := at_alloc_new (w.alloc (cel [Ptr p, Ptr r] 59)) (cel o.vals 40)
    rw [World.size_alloc] at this
    exact this
  have z0 : col w.heap.size = 0 := hhi _ (Nat.le_refl _)
  have z1 : col (w.heap.size + 1) = 0 := hhi _ (by omega)
  show Rets Tryz.prog 16 [.agg [Ptr p, Ptr r].toArray, OpV o] w _
  refine rets_of Tryz.func16 (by kernel_rfl) rfl Tryz.ntmps16 (Nat.le_of_ble_eq_true rfl) ?_
  refine runG10 ?_
  rw [show (w.alloc (cel [Ptr p, Ptr r] 59)).heap.size = w.heap.size + 1 from World.size_alloc _ _]
  generalize (w.alloc (cel [Ptr p, Ptr r] 59)).alloc (cel o.vals 40) = w1 at *
  have h1 := h.other sp f1 (fun _ _ _ h => h) (fun _ _ => rfl) (fun b hb => hhi b (Nat.le_trans f1.size hb))
  have hE1 := hE.frm0 f1
  refine s_callf (PDown_ret sp h1.q hE1 hlo hb o.b) rfl wnt_none ?_
  rintro v w2 ⟨hv, hs⟩
  obtain ⟨hg2, ho2, col2, hq2, hr2, hfin⟩ := acted_fin sp h hE hlo f1 hg1 ho1 z0 z1 hs hv
  have hv' := hv.1.form
  rcases hv' with rfl | ⟨bb, rfl⟩
  · refine runG10 ?_
    refine s_callf (RDown_ret hr2 o.b (h.inv.fitDown hN)) rfl wnt_none ?_
    rintro u w3 ⟨rfl, hs3⟩
    have hsim := h.sim.down h.sp o.b
    obtain ⟨ho3, hrs⟩ := hfin w3 _ hs3 hsim.2 (h.sp.down o.b) (h.inv.down o.b)
    refine runG10 ?_
    refine s_val (r_build rfl (bld_ed0 _)) wnt_none ?_
    rw [← hsim.1]
    refine s_callf hrs rfl wnt_none ?_
    rintro u w4 ⟨rfl, hA⟩
    refine runG10 ?_
    exact ret_b rfl rfl ⟨rfl, hA⟩
  · refine runG10 ?_
    refine s_callf (RDown_ret hr2 o.b (h.inv.fitDown hN)) rfl wnt_none ?_
    rintro u w3 ⟨rfl, hs3⟩
    have hsim := h.sim.down h.sp o.b
    obtain ⟨ho3, hrs⟩ := hfin w3 _ hs3 hsim.2 (h.sp.down o.b) (h.inv.down o.b)
    refine runG10 ?_
    refine s_val (r_build rfl (bld_ed0 _)) wnt_none ?_
    rw [← hsim.1]
    refine s_callf hrs rfl wnt_none ?_
    rintro u w4 ⟨rfl, hA⟩
    refine runG10 ?_
    exact ret_b rfl rfl ⟨rfl, hA⟩
theorem acted_ret (sp : TreeSpec PT) (cs : CloneSpec PT) (h : GOk PT w col N j x) (hE : Errs w ea) (hlo : (∀ g ∈ errG, col g = 0) ∧ ∀ a ∈ ea, col a.block = 0) (hN : N ≤ 1800000000000) (hk : 11 ≤ o.kind ∧ o.kind ≤ 15) :
    Rets Tryz.prog 16 [.agg x.vals.toArray, OpV o] w fun v w' => v = B true ∧ AStep PT w w' col N j x := by
  rcases (show o.kind = 11 ∨ o.kind = 12 ∨ o.kind = 13 ∨ o.kind = 14 ∨ o.kind = 15 by omega) with k | k | k | k | k
  · exact acted_edit sp cs h hE hlo hN k
  · exact acted_join sp cs h hE hlo hN k
  · exact acted_drop sp cs h hE hlo hN k
  · exact acted_up sp cs h hE hlo hN k
  · exact acted_down sp cs h hE hlo hN k
end
end Go.Proofs.YtbicffldggcdhabGreatDoor

namespace Go.Proofs.YtbicffldggcdhabGreatDoor
open Go

set_option maxHeartbeats 1000000 in
theorem RView_ret {w : World} {col : Nat → Nat} {k fz c br bb cap : Nat} {rest : List Value} {ps as' us ds : Value} {x : Cli} (hB : CliB w col k fz c br bb cap rest ps as' us ds x) (hbp : x.pend.length < 1000000) :
    Rets Tryz.prog 68 [Ptr c] w fun v w' => NewRef w w' v (viewC x) ∧ Frm0 w w' := by
  have hh := hB.head
  have hW := hB.wf
  have hsm := hW.small
  obtain ⟨pa, pc, rfl⟩ := hB.pend.isSl
  refine rets_of Tryz.func68 (by kernel_rfl) rfl Tryz.ntmps68 (Nat.le_of_ble_eq_true rfl) ?_
  refine runG10 ?_
  refine s_callf (RClone_ret hB.base (by omega) hW.ne) rfl wnt_none ?_
  rintro v w1 ⟨⟨tr, tb, tcap, trest, rfl, hT, hnr, hnb⟩, f1⟩
  refine runG10 ?_
  refine lp (fun env w' => Frm0 w w' ∧ ∃ env0 b' cap' rest', ∃ j : Nat, env = setL env0 [(0, Ptr c), (3, Ptr tr), (4, I j)] ∧ j ≤ x.pend.length ∧ RefT w' tr b' cap' rest' (appAll x.base ((x.pend.map (·.2)).take j)) ∧ w.heap.size ≤ b') (fun env _ => x.pend.length - cnt (env 4)) ?_ ?_
  · exact ⟨f1, _, tb, tcap, trest, 0, fixL ⟨rfl, rfl, rfl, trivial⟩, by omega, hT, hnb⟩
  · rintro env w2 ⟨f2, env0, b2, cap2, rest2, j, rfl, hj, hT2, hb2⟩
    have hh2 := f2.at0 hh
    have hW2 : Wf (appAll x.base ((x.pend.map (·.2)).take j)) := wf_all _ hW
    have hsm2 := hW2.small
    by_cases hlt : j < x.pend.length
    · obtain ⟨q, hq⟩ : ∃ q, x.pend[j]? = some q := ⟨_, List.getElem?_eq_getElem hlt⟩
      rcases hB.pend with ⟨_, h0, _⟩ | ⟨pb, skip, pcap, prest, hpv, hA, hpl2, hpr, hpc⟩
      · omega
      · cases hpv
        have hA2 := f2.at0 hA
        have hlA : skip.length + (j : Int).toNat * 7 + 1 + 6 ≤ (skip ++ (fl pdV x.pend ++ prest)).length := by
          rw [List.length_append, List.length_append, fl_len pd_len]
          omega
        have hsA : sub (skip ++ (fl pdV x.pend ++ prest)) (skip.length + (j : Int).toNat * 7 + 1) 6 = q.2.vals := by
          rw [show (j : Int).toNat = j by omega]
          exact fl_subAt pd_len hq (by omega) skip prest
        refine runG10 ?_
        refine s_val (r_loadV (vs := q.2.vals) (u_ok rfl) rfl (s_ok rfl) rfl hA2 hlA hsA) wnt_none ?_
        refine s_callf (RApply_ret hT2 (by omega) hW2.clo hW2.nodup hW2.rootId q.2) rfl wnt_none ?_
        rintro v w3 ⟨rfl, ⟨b3, cap3, rest3, hT3, hb3⟩, f3⟩
        have f3' : Frm0 w w3 := f2.trans f3 (fun y hy => .inr (by rcases hy with rfl | rfl <;> omega))
        have he : (x.pend.map (·.2))[j]? = some q.2 := by rw [List.getElem?_map, hq]; rfl
        have hs2 := f2.size
        refine runG10 ?_
        refine ⟨_, rfl, ⟨f3', _, b3, cap3, rest3, j + 1, fixL ⟨rfl, rfl, rfl, trivial⟩, by omega, ?_, by omega⟩, by show x.pend.length - ((j : Int) + 1).toNat < x.pend.length - (j : Int).toNat; omega⟩
        rw [appAll_step he]
        exact hT3
    · have hjl : j = x.pend.length := by omega
      have hall : appAll x.base ((x.pend.map (·.2)).take j) = viewC x := by
        rw [List.take_of_length_le (by rw [List.length_map]; omega)]
        rfl
      rw [hall] at hT2
      refine runG10 ?_
      exact ret_p rfl rfl ⟨⟨tr, b2, cap2, rest2, rfl, hT2, hnr, hb2⟩, f2⟩

theorem RLog_ret {w : World} {col : Nat → Nat} {k p r b cap : Nat} {rest : List Value} {es : Value} {lb lcap : Nat} {lrest : List Value} {cs : List Nat} {P : Par} (h : RefB w col k p r b cap rest es lb lcap lrest cs P) (hbe : P.ents.length < 1900000000000) :
    Rets Tryz.prog 41 [Ptr p] w fun v w' => RowO w' v 67 9 (logP P).length (fl Ent.vals (logP P)) ∧ (∀ b, InV v b → InV es b) ∧ Frm0 w w' := by
  have hh := h.head
  have hlog := h.log
  obtain ⟨ea, ec, rfl⟩ := h.ents.isSl
  refine rets_of Tryz.func41 (by kernel_rfl) rfl Tryz.ntmps41 (Nat.le_of_ble_eq_true rfl) ?_
  by_cases hle : (P.ents.length : Int) ≤ P.log
  · have hl : logP P = P.ents := by rw [logP, if_pos hle]
    rw [hl]
    refine runG10 ?_
    exact ret_s rfl rfl ⟨h.ents, fun b hb => hb, Frm.refl _ _⟩
  · have hl : logP P = P.ents.drop (P.ents.length - P.log.toNat) := by rw [logP, if_neg hle]
    rw [hl]
    obtain ⟨s, hs, hrow, hin⟩ := segO_from (P := Tryz.prog) (ty := 68) (j := P.ents.length - P.log.toNat) ent_len (u_ok rfl) (s_ok rfl) h.ents (by omega)
    have hs' : ∀ w0, (Instr.sliceAt 68 (.slice ea P.ents.length ec) (some (.int .i64 ((P.ents.length : Int) - P.log))) none none).run Tryz.prog w0 = .ok s w0 := fun w0 => by
      have := hs w0
      rw [show ((P.ents.length - P.log.toNat : Nat) : Int) = (P.ents.length : Int) - P.log by omega] at this
      exact this
    refine runG10 ?_
    refine w_drawn ((0, false) :: (1, false) :: (2, false) :: (3, false) :: (4, false) :: (5, false) :: (6, false) :: (7, false) :: (8, false) :: (9, false) :: (10, false) :: (11, false) :: (12, false) :: []) [] (fun wq => Frm0 w wq) mixed (by kernel_rfl) ?_ ?_
    · exact Frm.of_drew _
    · refine runG10 ?_
      refine x_q rfl (fun wq _ => r_slFrom rfl rfl (hs' wq)) wnt_none ?_
      obtain ⟨sa, sc, rfl⟩ := hrow.isSl
      refine runG10 ?_
      exact ret_s rfl rfl ⟨hrow.frm (Frm.of_drew (S := fun _ => False) w) (fun _ _ h => h), hin, Frm.of_drew _⟩
end Go.Proofs.YtbicffldggcdhabGreatDoor

namespace Go.Proofs.YtbicffldggcdhabGreatDoor
open Go

def CfgV (c l : Int) : Value := .agg [I c, I l].toArray
def cliV (br : Nat) : List Value := [Ptr br, I 0, .slice none 0 0, I 0, .slice none 0 0, B false, B false, .slice none 0 0, .slice none 0 0]
theorem bld_party (c l : Int) (a : Option Addr) (w : World) : (Instr.build 97 [(0, CfgV c l), (1, .pointer a)].toArray).run Tryz.prog w = .ok (.agg [I c, I l, .pointer a, .slice none 0 0, .slice none 0 0].toArray) w := by kernel_rfl
theorem bld_cli (br : Nat) (w : World) : (Instr.build 130 [(0, Ptr br)].toArray).run Tryz.prog w = .ok (.agg (cliV br).toArray) w := by kernel_rfl
theorem bs_cli (c : Nat) (w : World) : (Instr.buildSlice 95 1 [(0, Ptr c)].toArray).run Tryz.prog w = .ok (.slice (some ⟨w.heap.size, 0, none⟩) 1 1) (w.alloc (cel [Ptr c] 100)) := by kernel_rfl
theorem append_cli {w : World} {v s : Value} {n : Nat} {pre : List Value} {c : Nat} {ty : Nat} (hrow : Row w v 100 1 n pre) (hseg : Seg w s 1 1 [Ptr c]) (hcap : n < 1000) :
    ∃ v' w', (Builtin.append_ #[95, 95] ty #[v, s]).run Tryz.prog w = .ok v' w' ∧ Row w' v' 100 1 (n + 1) (pre ++ [Ptr c]) ∧ Frm (InV v) w w' ∧ ∀ b, InV v' b → InV v b ∨ w.heap.size ≤ b :=
  append_seg (P := Tryz.prog) (sz := 1) (by' := 8) (u_ok rfl) (u_ok rfl) (fun kk h => by cases h) (s_ok rfl) (b_ok rfl) (z_ok rfl) rfl hrow hseg (by intro u hu; simp at hu; subst hu; rfl) (by omega) (by omega)

/-- A party under construction: so many clients. -/
structure NB (w : World) (col : Nat → Nat) (k p r b cap : Nat) (rest : List Value) (lv : Value) (cs : List Nat) (C L : Int) : Prop where
  head : At w p (cel [I C, I L, Ptr r, .slice none 0 0, lv] 97)
  own : col p = k
  tree : RefT w r b cap rest [root0]
  ctr : col r = k + 1
  ctb : col b = k + 1
  row : Row w lv 100 1 cs.length (cs.map Ptr)
  crow : ∀ b, InV lv b → col b = k + 3
  cli : ∀ (i : Nat) c, cs[i]? = some c → CliAt w col (k + 10 + 10 * i) (k + 4) c cli0
  high : ∀ b, w.heap.size ≤ b → col b = 0
theorem row_lt {w : World} {v : Value} {e sz n : Nat} {pre : List Value} (h : Row w v e sz n pre) {b : Nat} (hb : InV v b) : b < w.heap.size := h.toO.lt hb
theorem row_frm {w w' : World} {v : Value} {e sz n : Nat} {pre : List Value} {S : Nat → Prop} (h : Row w v e sz n pre) (f : Frm S w w') (hn : ∀ b, InV v b → ¬ S b) : Row w' v e sz n pre := by
  rcases h with h | ⟨b, cap, rest, rfl, hA, q⟩
  · exact .inl h
  · exact .inr ⟨b, cap, rest, rfl, f.at (hn b ⟨_, _, _, rfl⟩) hA, q⟩
/-- One more client. -/
theorem NB.more {w w8 w9 w11 : World} {col : Nat → Nat} {k p r b cap : Nat} {rest : List Value} {lv v : Value} {cs : List Nat} {C L : Int} {br bb cap2 : Nat} {rest2 : List Value} (h : NB w col k p r b cap rest lv cs C L) (hcs : cs.length < 4)
    (f8 : Frm0 w w8) (hT : RefT w8 br bb cap2 rest2 [root0]) (hr : w.heap.size ≤ br) (hb : w.heap.size ≤ bb)
    (f9 : Frm0 w8 w9) (hc : At w9 w8.heap.size (cel (cliV br) 130)) (f11 : Frm (InV lv) w9 w11) (hrow : Row w11 v 100 1 (cs.length + 1) (cs.map Ptr ++ [Ptr w8.heap.size])) (nv : ∀ b, InV v b → InV lv b ∨ w9.heap.size ≤ b) :
    ∃ col', NB (setB w11 p (cel [I C, I L, Ptr r, .slice none 0 0, v] 97)) col' k p r b cap rest v (cs ++ [w8.heap.size]) C L ∧ Ext k w (setB w11 p (cel [I C, I L, Ptr r, .slice none 0 0, v] 97)) col col' := by
  have s8 := f8.size
  have s9 := f9.size
  have s11 := f11.size
  have lp := at_lt h.head
  have lr := at_lt h.tree.head
  have lb := at_lt h.tree.row
  have lbr := at_lt hT.head
  have lbb := at_lt hT.row
  have lc := at_lt hc
  have hpo := h.own
  have hcr := h.ctr
  have hcb := h.ctb
  obtain ⟨col', e, cbr, cbb, cc, cv⟩ : ∃ col', Ext k w w11 col col' ∧ col' br = k + 10 + 10 * cs.length + 1 ∧ col' bb = k + 10 + 10 * cs.length + 1 ∧ col' w8.heap.size = k + 10 + 10 * cs.length ∧ ∀ b, InV v b → col' b = k + 3 := by
    refine ⟨fun y => if y < w.heap.size then col y else if y = br ∨ y = bb then k + 10 + 10 * cs.length + 1 else if y = w8.heap.size then k + 10 + 10 * cs.length else if blkOf v = some y then k + 3 else 0, ⟨fun y hy => if_pos hy, fun y hy => ?_, fun y hy => ?_⟩, ?_, ?_, ?_, fun y hy => ?_⟩
    · show (if _ then _ else _) = 0
      rw [if_neg (by omega), if_neg (by omega), if_neg (by omega), if_neg]
      intro hv
      have := hrow.toO.blk y hv
      omega
    · show (if _ then _ else _) = 0 ∨ (k ≤ (if _ then _ else _) ∧ (if _ then _ else _) < _)
      rw [if_neg (by omega)]
      split
      · exact .inr ⟨by omega, by omega⟩
      · split
        · exact .inr ⟨by omega, by omega⟩
        · split
          · exact .inr ⟨by omega, by omega⟩
          · exact .inl rfl
    · show (if _ then _ else _) = _
      rw [if_neg (by omega), if_pos (.inl rfl)]
    · show (if _ then _ else _) = _
      rw [if_neg (by omega), if_pos (.inr rfl)]
    · show (if _ then _ else _) = _
      rw [if_neg (by omega), if_neg (by omega), if_pos rfl]
    · show (if _ then _ else _) = _
      rcases nv y hy with h1 | h1
      · rw [if_pos (row_lt h.row h1)]
        exact h.crow y h1
      · rw [if_neg (by omega), if_neg (by omega), if_neg (by omega), if_pos (inV_blk hy)]
  have hF : ∀ o, Frm (fun b => b = p) w11 (setB w11 p o) := fun o => (Frm.refl (fun b => b = p) w11).setB (b := p) (.inl rfl) o
  have f9' : Frm0 w w9 := f8.trans0 f9
  have nlv : ∀ y, w.heap.size ≤ y → ¬ InV lv y := fun y hy hv => by have := row_lt h.row hv; omega
  have hp11 := f11.at (fun hv => by have := h.crow _ hv; omega) (f9'.at0 h.head)
  refine ⟨col', ⟨at_setB _ hp11, by rw [e.old _ lp]; exact hpo, ((h.tree.frm0 f9').frm f11 (fun hv => by have := h.crow _ hv; omega) (fun hv => by have := h.crow _ hv; omega)).frm (hF _) (fun e => by rw [e] at hcr; omega) (fun e => by rw [e] at hcb; omega), by rw [e.old _ lr]; exact hcr, by rw [e.old _ lb]; exact hcb, ?_, cv, fun i c hci => ?_, e.setB.high⟩, e.setB⟩
  · have hrow' := row_frm hrow (hF (cel [I C, I L, Ptr r, .slice none 0 0, v] 97)) (fun y hy ey => by have := cv y hy; rw [ey, e.old _ lp] at this; omega)
    simpa using hrow'
  · by_cases hi : i < cs.length
    · rw [List.getElem?_append_left hi] at hci
      obtain ⟨br', bb', cap', rest', ps, as', us, ds, hB⟩ := h.cli i c hci
      have fw : Frm (fun y => y < w.heap.size ∧ (InV lv y ∨ y = p)) w (setB w11 p (cel [I C, I L, Ptr r, .slice none 0 0, v] 97)) := ((f9'.mono (fun _ h => h.elim)).trans f11 (fun y hy => .inl ⟨row_lt h.row hy, .inl hy⟩)).setB (b := p) (.inl ⟨lp, .inr rfl⟩) _
      exact ⟨br', bb', cap', rest', ps, as', us, ds, (hB.recol e.old).frm fw (fun y hy hs => by
        rw [e.old y hs.1] at hy
        rcases hs.2 with h1 | rfl
        · have := h.crow y h1; omega
        · omega)⟩
    · have hi2 : i = cs.length := by
        have := (List.getElem?_eq_some_iff.1 hci).1
        simp at this
        omega
      subst hi2
      simp at hci
      subst hci
      have hT11 : RefT (setB w11 p (cel [I C, I L, Ptr r, .slice none 0 0, v] 97)) br bb cap2 rest2 [root0] := ((hT.frm0 f9).frm f11 (nlv _ hr) (nlv _ hb)).frm (hF _) (by omega) (by omega)
      exact ⟨br, bb, cap2, rest2, .slice none 0 0, .slice none 0 0, .slice none 0 0, .slice none 0 0, ⟨at_setB_ne _ (by omega) (f11.at (nlv _ (by omega)) hc), cc, hT11, cbr, cbb, wf_root0, .inl ⟨rfl, rfl, rfl⟩, fun b hb => (inv_none hb).elim, .inl ⟨rfl, rfl, rfl⟩, fun b hb => (inv_none hb).elim, MsgsAt.none, fun b hb => (inv_none hb).elim, MsgsAt.none, fun b hb => (inv_none hb).elim⟩⟩
theorem NB.done {w : World} {col : Nat → Nat} {k p r b cap : Nat} {rest : List Value} {lv : Value} {cs : List Nat} {C L : Int} (h : NB w col k p r b cap rest lv cs C L) (hk : 0 < k) (hn : (cs.length : Int) = C) (hC : 1 ≤ C ∧ C ≤ 4) (hL : 0 ≤ L ∧ L ≤ 8) : RefP w col k p ⟨C, L, [root0], [], List.replicate C.toNat cli0⟩ := by
  rcases h.row with ⟨_, h0, _⟩ | ⟨lb, lcap, lrest, rfl, hA, _⟩
  · omega
  · refine ⟨r, b, cap, rest, .slice none 0 0, lb, lcap, lrest, cs, ⟨h.head, h.own, h.tree, h.ctr, h.ctb, wf_root0, .inl ⟨rfl, rfl, rfl⟩, fun b hb => (inv_none hb).elim, hA, h.crow lb ⟨_, _, _, rfl⟩, by simp; omega, fun i c x hc hx => ?_, by simp; omega, hL, h.high, hk⟩⟩
    have : x = cli0 := List.eq_of_mem_replicate (List.mem_of_getElem? hx)
    subst this
    exact h.cli i c hc
set_option maxRecDepth 4000 in
set_option maxHeartbeats 2000000 in
theorem RNewP_ret {w : World} {col : Nat → Nat} {k : Nat} (hk : 0 < k) (c l : Int) :
    Rets Tryz.prog 28 [CfgV c l] w fun v w' => Frm0 w w' ∧ match newP c l with | none => v = .pointer none | some P => ∃ p col', v = Ptr p ∧ RefP w' col' k p P ∧ Ext k w w' col col' := by
  have hF1 : Frm0 w (w.alloc (cel [I c, I l] 55)) := Frm.of_alloc _ _
  have hbox := at_alloc_new w (cel [I c, I l] 55)
  refine rets_of Tryz.func28 (by kernel_rfl) rfl Tryz.ntmps28 (Nat.le_of_ble_eq_true rfl) ?_
  by_cases h1 : c < 1
  · have hn : newP c l = none := by rw [newP, if_pos (.inl h1)]
    rw [hn]
    refine runG10 ?_
    exact ret_p rfl rfl ⟨hF1, rfl⟩
  · by_cases h2 : 4 < c
    · have hn : newP c l = none := by rw [newP, if_pos (.inr (.inl h2))]
      rw [hn]
      refine runG10 ?_
      exact ret_p rfl rfl ⟨hF1, rfl⟩
    · by_cases h3 : l < 0
      · have hn : newP c l = none := by rw [newP, if_pos (.inr (.inr (.inl h3)))]
        rw [hn]
        refine runG10 ?_
        exact ret_p rfl rfl ⟨hF1, rfl⟩
      · by_cases h4 : 8 < l
        · have hn : newP c l = none := by rw [newP, if_pos (.inr (.inr (.inr h4)))]
          rw [hn]
          refine runG10 ?_
          exact ret_p rfl rfl ⟨hF1, rfl⟩
        · have hn : newP c l = some ⟨c, l, [root0], [], List.replicate c.toNat cli0⟩ := by rw [newP, if_neg (by omega)]
          rw [hn]
          refine runG10 ?_
          generalize w.alloc (cel [I c, I l] 55) = w1 at *
          refine w_drawn [(0, false), (1, true), (2, false)] [3, 4] (fun wq => Frm0 w1 wq) mixed (by kernel_rfl) ?_ ?_
          · exact Frm.of_drew _
          · refine runG10 ?_
            rw [show sub [I c, I l] 0 2 = [I c, I l] from rfl]
            refine x_callf rfl (RNew_ret _) rfl wnt_none ?_
            rintro v w2 ⟨⟨r, b, cap, rest, rfl, hT, hnr, hnb⟩, f2⟩
            have F2 : Frm0 w1 w2 := (Frm.of_drew _).trans0 f2
            refine ⟨F2, ?_⟩
            refine x_q rfl (fun wq _ => r_build rfl (bld_party c l _ wq)) wnt_none ?_
            have F2w : Frm0 w w2 := hF1.trans0 F2
            have hbx2 := F2.at0 hbox
            have s1 := at_lt hbox
            have s2 := F2.size
            have hnr' : w1.heap.size ≤ r := hnr
            have hnb' : w1.heap.size ≤ b := hnb
            have l1 := at_lt hT.head
            have l2 := at_lt hT.row
            have hF3 : Frm0 w2 (w2.alloc (cel [I c, I l, Ptr r, .slice none 0 0, .slice none 0 0] 97)) := Frm.of_alloc _ _
            have hp3 := at_alloc_new w2 (cel [I c, I l, Ptr r, .slice none 0 0, .slice none 0 0] 97)
            have hlp := at_lt hp3
            obtain ⟨col3, e3, c3p, c3r, c3b, c3x⟩ : ∃ col3, Ext k w (w2.alloc (cel [I c, I l, Ptr r, .slice none 0 0, .slice none 0 0] 97)) col col3 ∧ col3 w2.heap.size = k ∧ col3 r = k + 1 ∧ col3 b = k + 1 ∧ col3 w.heap.size = 0 := by
              refine ⟨fun y => if y < w.heap.size then col y else if y = r ∨ y = b then k + 1 else if y = w2.heap.size then k else 0, ⟨fun y hy => if_pos hy, fun y hy => ?_, fun y hy => ?_⟩, ?_, ?_, ?_, ?_⟩
              · rw [World.size_alloc] at hy
                show (if _ then _ else _) = 0
                rw [if_neg (by omega), if_neg (by omega), if_neg (by omega)]
              · show (if _ then _ else _) = 0 ∨ (k ≤ (if _ then _ else _) ∧ (if _ then _ else _) < _)
                rw [if_neg (by omega)]
                split
                · exact .inr ⟨by omega, by omega⟩
                · split
                  · exact .inr ⟨by omega, by omega⟩
                  · exact .inl rfl
              · show (if _ then _ else _) = _
                rw [if_neg (by omega), if_neg (by omega), if_pos rfl]
              · show (if _ then _ else _) = _
                rw [if_neg (by omega), if_pos (.inl rfl)]
              · show (if _ then _ else _) = _
                rw [if_neg (by omega), if_pos (.inr rfl)]
              · show (if _ then _ else _) = _
                rw [if_neg (by omega), if_neg (by omega), if_neg (by omega)]
            have hN3 : NB (w2.alloc (cel [I c, I l, Ptr r, .slice none 0 0, .slice none 0 0] 97)) col3 k w2.heap.size r b cap rest (.slice none 0 0) [] c l := ⟨hp3, c3p, hT.frm0 hF3, c3r, c3b, .inl ⟨rfl, rfl, rfl⟩, fun b hb => (inv_none hb).elim, fun i c h => by simp at h, e3.high⟩
            have F3 := F2w.trans0 hF3
            have hbx3 := hF3.at0 hbx2
            refine runG10 ?_
            refine lp (fun env w' => ∃ env0 col' la ln lc cs, ∃ j : Nat, env = setL env0 [(1, Ptr w.heap.size), (3, Ptr w2.heap.size), (4, I j)] ∧ (j : Int) ≤ c ∧ cs.length = j ∧ NB w' col' k w2.heap.size r b cap rest (.slice la ln lc) cs c l ∧ Ext k w w' col col' ∧ Frm0 w w' ∧ At w' w.heap.size (cel [I c, I l] 55) ∧ col' w.heap.size = 0 ∧ ∀ y, InV (.slice la ln lc) y → w.heap.size ≤ y) (fun env _ => c.toNat - cnt (env 4)) ?_ ?_
            · exact ⟨_, col3, none, 0, 0, [], 0, fixL ⟨rfl, rfl, rfl, trivial⟩, by omega, rfl, hN3, e3, F3, hbx3, c3x, fun y hy => (inv_none hy).elim⟩
            · clear hN3 e3 c3p c3r c3b c3x F3 hbx3 hF3 hp3 hlp
              rintro env w4 ⟨env0, col4, la, ln, lc, cs, j, rfl, hj, hcs, hN, e4, F4, hbx4, hx4, hlv⟩
              have hp4 := hN.head
              by_cases hltj : (j : Int) < c
              · have hnp : ¬ InV (.slice la ln lc) w2.heap.size := fun h => by have := hN.crow _ h; have := hN.own; omega
                have hnx : ¬ InV (.slice la ln lc) w.heap.size := fun h => by have := hN.crow _ h; omega
                refine runG10 ?_
                refine w_drawn [(0, false), (1, false), (2, false), (3, false), (4, false), (5, true), (6, false), (7, true), (8, true), (9, true), (10, false), (11, false)] [12] (fun wq => Frm (InV (.slice la ln lc)) w4 wq) mixed (by kernel_rfl) ?_ ?_
                · exact Frm.of_drew _
                · refine runG10 ?_
                  refine x_callf rfl (RNew_ret _) rfl wnt_none ?_
                  rintro v w5 ⟨⟨br, bb, cap5, rest5, rfl, hT5, hn5r, hn5b⟩, f5⟩
                  have F5 : Frm0 w4 w5 := (Frm.of_drew _).trans0 f5
                  refine ⟨F5.mono (fun _ h => h.elim), ?_⟩
                  refine x_q rfl (fun wq _ => r_build rfl (bld_cli br wq)) wnt_none ?_
                  have F6 : Frm0 w5 (w5.alloc (cel (cliV br) 130)) := Frm.of_alloc _ _
                  have hc6 := at_alloc_new w5 (cel (cliV br) 130)
                  refine x_val rfl (r_boxA (l := cliV br) rfl) wnt_none ((F5.trans0 F6).mono (fun _ h => h.elim)) ?_
                  generalize hw6 : w5.alloc (cel (cliV br) 130) = w6 at *
                  have F7 : Frm0 w6 (w6.alloc (cel [Ptr w5.heap.size] 100)) := Frm.of_alloc _ _
                  refine x_val rfl (r_bs rfl (bs_cli _ _)) wnt_none (((F5.trans0 F6).trans0 F7).mono (fun _ h => h.elim)) ?_
                  have F67 := F6.trans0 F7
                  have F47 := F5.trans0 F67
                  obtain ⟨v8, w8, e8, r8, f8, n8⟩ := append_cli (ty := 95) (row_frm hN.row F47 (fun _ _ h => h)) (seg_new rfl) (by omega)
                  have f8' : Frm (InV (.slice la ln lc)) w4 w8 := (F47.mono (fun _ h => h.elim)).trans f8 (fun b hb => .inl hb)
                  refine x_val rfl (r_app rfl rfl e8) wnt_none f8' ?_
                  obtain ⟨col9, hN9, e9⟩ := hN.more (by omega) F5 hT5 hn5r hn5b F67 (F7.at0 hc6) f8 r8 n8
                  have hp8 := f8'.at hnp hp4
                  have hbx8 := f8'.at hnx hbx4
                  have hlx := at_lt hbx4
                  have hpx : w2.heap.size ≠ w.heap.size := fun e => by have := hN.own; rw [e] at this; omega
                  have hs4 := F4.size
                  have hs47 := F47.size
                  have hpw := F2w.size
                  have F9 : Frm0 w (setB w8 w2.heap.size (cel [I c, I l, Ptr r, .slice none 0 0, v8] 97)) := (F4.trans f8' (fun y hy => .inr (hlv y hy))).setB (.inr hpw) _
                  obtain ⟨va, vn, vc, rfl⟩ : ∃ va vn vc, v8 = .slice va vn vc := by
                    obtain ⟨va, vc, h⟩ := r8.toO.isSl
                    exact ⟨va, _, vc, h⟩
                  refine runG10 ?_
                  refine y_skip rfl (r_store_s (s_ok rfl) rfl rfl hp8 (by simp)) wnt_none ?_
                  refine runG10 ?_
                  refine ⟨_, rfl, ⟨_, col9, va, vn, vc, cs ++ [w5.heap.size], j + 1, fixL ⟨rfl, rfl, rfl, trivial⟩, by omega, by simp [hcs], hN9, e4.trans e9 F4.size, F9, at_setB_ne _ hpx hbx8, by rw [e9.old _ hlx]; exact hx4, fun y hy => ?_⟩, by show c.toNat - ((j : Int) + 1).toNat < c.toNat - (j : Int).toNat; omega⟩
                  rcases n8 y hy with h | h
                  · exact hlv y h
                  · omega
              · have hjc : (cs.length : Int) = c := by omega
                refine runG10 ?_
                exact ret_p rfl rfl ⟨F4, _, col4, rfl, hN.done hk hjc (by omega) (by omega), e4⟩
end Go.Proofs.YtbicffldggcdhabGreatDoor

namespace Go.Proofs.YtbicffldggcdhabGreatDoor
open Go

theorem bs0_ans (w : World) : (Instr.buildSlice 65 0 #[]).run Tryz.prog w = .ok (.slice (some ⟨w.heap.size, 0, none⟩) 0 0) (w.alloc (cel [] 64)) := by kernel_rfl
theorem bs0_ent (w : World) : (Instr.buildSlice 68 0 #[]).run Tryz.prog w = .ok (.slice (some ⟨w.heap.size, 0, none⟩) 0 0) (w.alloc (cel [] 67)) := by kernel_rfl
theorem bs_ed (e : Ed) (w : World) : (Instr.buildSlice 62 1 [(0, EdV e)].toArray).run Tryz.prog w = .ok (.slice (some ⟨w.heap.size, 0, none⟩) 1 1) (w.alloc (cel e.vals 38)) := by kernel_rfl
theorem append_edQ {w : World} {v s : Value} {A : List Ed} {q : Ed} {ty : Nat} (hrow : Row w v 38 6 A.length (fl Ed.vals A)) (hseg : Seg w s 6 1 q.vals) (hcap : A.length < 1000000) :
    ∃ v' w', (Builtin.append_ #[62, 62] ty #[v, s]).run Tryz.prog w = .ok v' w' ∧ Row w' v' 38 6 (A ++ [q]).length (fl Ed.vals (A ++ [q])) ∧ Frm (InV v) w w' ∧ ∀ b, InV v' b → InV v b ∨ w.heap.size ≤ b := by
  obtain ⟨v', w', h1, h2, h3, h4⟩ := append_seg (P := Tryz.prog) (sz := 6) (by' := 48) (ty := ty) (sT := 62) (u_ok rfl) (u_ok rfl) (fun kk h => by cases h) (s_ok rfl) (b_ok rfl) (z_ok rfl) rfl hrow hseg (edit_one q) (by omega) (by omega)
  exact ⟨v', w', h1, by rw [fl_append, List.length_append]; simpa [fl] using h2, h3, h4⟩
/-- A list that came out: its row is new. -/
def Out (w w' : World) (v : Value) (T sz n : Nat) (pre : List Value) : Prop := Row w' v T sz n pre ∧ (∀ b, InV v b → w.heap.size ≤ b) ∧ Frm0 w w'
section
variable {w : World} {n : Nat} {env : Env} {d : Option Nat} {t ty2 : Nat} {p : String} {af : Array Edge} {g : Option (Nat × Bool)} {x : Operand}
theorem r_slA {b m c : Nat} (hx : ev n env x = .slice (some ⟨b, 0, none⟩) m c) : (execOp (ev n env) ⟨d, .binOp .eql 65 x (.const (.slice none 0 0)) ty2, t, p, af, g⟩).run Tryz.prog w = .ok (.value (.bool false)) w :=
  r_eq2 hx (show ev n env (.const (.slice none 0 0)) = .slice none 0 0 from rfl) rfl (by kernel_rfl)
theorem r_slA0 (hx : ev n env x = .slice none 0 0) : (execOp (ev n env) ⟨d, .binOp .eql 65 x (.const (.slice none 0 0)) ty2, t, p, af, g⟩).run Tryz.prog w = .ok (.value (.bool true)) w :=
  r_eq2 hx (show ev n env (.const (.slice none 0 0)) = .slice none 0 0 from rfl) rfl (by kernel_rfl)
theorem r_slE {b m c : Nat} (hx : ev n env x = .slice (some ⟨b, 0, none⟩) m c) : (execOp (ev n env) ⟨d, .binOp .eql 68 x (.const (.slice none 0 0)) ty2, t, p, af, g⟩).run Tryz.prog w = .ok (.value (.bool false)) w :=
  r_eq2 hx (show ev n env (.const (.slice none 0 0)) = .slice none 0 0 from rfl) rfl (by kernel_rfl)
theorem r_slE0 (hx : ev n env x = .slice none 0 0) : (execOp (ev n env) ⟨d, .binOp .eql 68 x (.const (.slice none 0 0)) ty2, t, p, af, g⟩).run Tryz.prog w = .ok (.value (.bool true)) w :=
  r_eq2 hx (show ev n env (.const (.slice none 0 0)) = .slice none 0 0 from rfl) rfl (by kernel_rfl)
end
theorem row_none {w : World} {T sz : Nat} : Row (w.alloc (cel [] T)) (.slice (some ⟨w.heap.size, 0, none⟩) 0 0) T sz 0 [] := .inr ⟨w.heap.size, 0, [], rfl, at_alloc_new _ _, by simp, by simp, Nat.le_refl _⟩
theorem inv_new {b c n m : Nat} (h : InV (.slice (some ⟨c, 0, none⟩) n m) b) : b = c := by
  obtain ⟨_, _, _, h⟩ := h
  cases h
  rfl
set_option maxHeartbeats 1000000 in
theorem CloneAns_ret {w : World} {v : Value} {l : List Ans} (h : Row w v 64 2 l.length (fl Ans.vals l)) (hl : l.length < 4000000000000) : Rets Tryz.prog 89 [v] w fun u w' => Out w w' u 64 2 l.length (fl Ans.vals l) := by
  rcases h with ⟨rfl, h0, hp⟩ | ⟨b, cap, rest, rfl, hA, hpl, hr, hc⟩
  · refine rets_of Tryz.func89 (by kernel_rfl) rfl Tryz.ntmps89 (Nat.le_of_ble_eq_true rfl) ?_
    refine runG10 ?_
    refine s_val (r_slA0 rfl) wnt_none ?_
    refine runG10 ?_
    exact ret_s rfl rfl ⟨.inl ⟨rfl, h0, hp⟩, fun b hb => (inv_none hb).elim, Frm.refl _ _⟩
  · have hseg : Seg (w.alloc (cel [] 64)) (.slice (some ⟨b, 0, none⟩) l.length cap) 2 l.length (fl Ans.vals l) := (Row.frm (.inr ⟨b, cap, rest, rfl, hA, hpl, hr, hc⟩) (Frm.of_alloc (S := fun _ => False) w (cel [] 64)) (fun _ _ h => h)).seg
    obtain ⟨v', w', e1, r1, f1, n1⟩ := append_seg (P := Tryz.prog) (sz := 2) (by' := 16) (ty := 65) (sT := 65) (u_ok rfl) (u_ok rfl) (fun kk h => by cases h) (s_ok rfl) (b_ok rfl) (z_ok rfl) rfl (row_none (w := w)) hseg (fl_one ans_oneQ l) (by omega) (by omega)
    rw [Nat.zero_add, List.nil_append] at r1
    obtain ⟨xa, xc, rfl⟩ := r1.isSl
    refine rets_of Tryz.func89 (by kernel_rfl) rfl Tryz.ntmps89 (Nat.le_of_ble_eq_true rfl) ?_
    refine runG10 ?_
    refine s_val (r_slA rfl) wnt_none ?_
    refine runG10 ?_
    refine s_val (r_bs rfl (bs0_ans _)) wnt_none ?_
    refine runG10 ?_
    refine s_val (r_app rfl rfl e1) wnt_none ?_
    refine runG10 ?_
    refine ret_s rfl rfl ⟨r1, fun c hc => ?_, (Frm.of_alloc w _).trans f1 (fun c hc => .inr (by rw [inv_new hc]; exact Nat.le_refl _))⟩
    rcases n1 c hc with h9 | h9
    · rw [inv_new h9]; exact Nat.le_refl _
    · rw [World.size_alloc] at h9; omega
set_option maxHeartbeats 1000000 in
theorem CloneEnt_ret {w : World} {v : Value} {l : List Ent} (h : Row w v 67 9 l.length (fl Ent.vals l)) (hl : l.length < 1000) : Rets Tryz.prog 63 [v] w fun u w' => Out w w' u 67 9 l.length (fl Ent.vals l) := by
  rcases h with ⟨rfl, h0, hp⟩ | ⟨b, cap, rest, rfl, hA, hpl, hr, hc⟩
  · refine rets_of Tryz.func63 (by kernel_rfl) rfl Tryz.ntmps63 (Nat.le_of_ble_eq_true rfl) ?_
    refine runG10 ?_
    refine s_val (r_slE0 rfl) wnt_none ?_
    refine runG10 ?_
    exact ret_s rfl rfl ⟨.inl ⟨rfl, h0, hp⟩, fun b hb => (inv_none hb).elim, Frm.refl _ _⟩
  · have hseg : Seg (w.alloc (cel [] 67)) (.slice (some ⟨b, 0, none⟩) l.length cap) 9 l.length (fl Ent.vals l) := (Row.frm (.inr ⟨b, cap, rest, rfl, hA, hpl, hr, hc⟩) (Frm.of_alloc (S := fun _ => False) w (cel [] 67)) (fun _ _ h => h)).seg
    obtain ⟨v', w', e1, r1, f1, n1⟩ := append_seg (P := Tryz.prog) (sz := 9) (by' := 72) (ty := 68) (sT := 68) (u_ok rfl) (u_ok rfl) (fun kk h => by cases h) (s_ok rfl) (b_ok rfl) (z_ok rfl) rfl (row_none (w := w)) hseg (fl_one ent_one l) (by omega) (by omega)
    rw [Nat.zero_add, List.nil_append] at r1
    obtain ⟨xa, xc, rfl⟩ := r1.isSl
    refine rets_of Tryz.func63 (by kernel_rfl) rfl Tryz.ntmps63 (Nat.le_of_ble_eq_true rfl) ?_
    refine runG10 ?_
    refine s_val (r_slE rfl) wnt_none ?_
    refine runG10 ?_
    refine s_val (r_bs rfl (bs0_ent _)) wnt_none ?_
    refine runG10 ?_
    refine s_val (r_app rfl rfl e1) wnt_none ?_
    refine runG10 ?_
    refine ret_s rfl rfl ⟨r1, fun c hc => ?_, (Frm.of_alloc w _).trans f1 (fun c hc => .inr (by rw [inv_new hc]; exact Nat.le_refl _))⟩
    rcases n1 c hc with h9 | h9
    · rw [inv_new h9]; exact Nat.le_refl _
    · rw [World.size_alloc] at h9; omega
section
variable {PT : PTy} (sp : TreeSpec PT) (cs : CloneSpec PT) {w : World} {col : Nat → Nat} {k0 k cb : Nat} {pre post : List Value} {bq sq t : Nat} {pd an up dn : Value} {c : PCli}
set_option maxHeartbeats 1000000 in
theorem cview_ret (sp : TreeSpec PT) (cs : CloneSpec PT) (h : CAt PT w col k0 k cb pre post bq sq t pd an up dn c) {ea : List Addr} (hE : Errs w ea) (hp : c.pend.length < 1000) :
    Rets Tryz.prog 87 [.pointer (some ⟨cb, pre.length, none⟩)] w fun v w' => ∃ t', v = Ptr t' ∧ PT w' t' (viewD c) (fun b => w.heap.size ≤ b) ∧ Frm0 w w' := by
  have hrow := h.row
  have hElt := errs_lt hE
  obtain ⟨pa, pc, rfl⟩ := h.m.pend.isSl
  refine rets_of Tryz.func87 (by kernel_rfl) rfl Tryz.ntmps87 (Nat.le_of_ble_eq_true rfl) ?_
  refine runG10 ?_
  refine s_callf (cs h.m.base) rfl wnt_none ?_
  rintro v w1 ⟨t', rfl, hT1, f1⟩
  have hrow1 := f1.at0 hrow
  refine runG10 ?_
  refine lp (fun env w' => Frm0 w w' ∧ ∃ env0, ∃ j : Nat, env = setL env0 [(3, Ptr t'), (15, .slice pa c.pend.length pc), (16, I c.pend.length), (17, I j)] ∧ j ≤ c.pend.length ∧ PT w' t' (appAll c.base ((c.pend.map (·.2)).take j)) (fun b => w.heap.size ≤ b)) (fun env _ => c.pend.length - cnt (env 17)) ?_ ?_
  · exact ⟨f1, _, 0, fixL ⟨rfl, rfl, rfl, rfl, trivial⟩, by omega, hT1⟩
  · rintro env w2 ⟨f2, env0, j, rfl, hj, hT2⟩
    by_cases hlt : j < c.pend.length
    · obtain ⟨q, hq⟩ : ∃ q, c.pend[j]? = some q := ⟨_, List.getElem?_eq_getElem hlt⟩
      rcases h.m.pend with ⟨_, h0, _⟩ | ⟨pb, pcap, prest, e9, hA, hpl, hpr, hpc⟩
      · omega
      cases e9
      have hA2 := f2.at0 hA
      have hW2 : Wf (appAll c.base ((c.pend.map (·.2)).take j)) := wf_all _ h.m.wf
      refine runG10 ?_
      refine s_val (r_loadV (vs := pdV q) (u_ok rfl) rfl (s_ok rfl) rfl hA2 (by rw [List.length_append, fl_len (f := pdV) (k := 7) (fun _ => rfl)]; omega) (by
        have := fl_sub (f := pdV) (k := 7) (fun _ => rfl) c.pend j q hq [] prest
        rw [List.nil_append, List.length_nil] at this
        rw [show 0 + (j : Int).toNat * 7 = 0 + j * 7 by omega]
        exact this)) wnt_none ?_
      refine runG10 ?_
      refine s_skip (r_storeAll (vs := pdV q) (s_ok rfl) rfl rfl (pd_one q) (at_alloc_new w2 _) rfl) wnt_none ?_
      have hv3 := at_setB (cel (pdV q) 166) (at_alloc_new w2 (cel [I 0, I 0, I 0, I 0, I 0, I 0, I 0] 166))
      have f3 : Frm0 w2 (setB (w2.alloc (cel [I 0, I 0, I 0, I 0, I 0, I 0, I 0] 166)) w2.heap.size (cel (pdV q) 166)) := (Frm.of_alloc w2 _).setB (.inr (Nat.le_refl _)) _
      generalize setB (w2.alloc (cel [I 0, I 0, I 0, I 0, I 0, I 0, I 0] 166)) w2.heap.size (cel (pdV q) 166) = w3 at *
      refine runG10 ?_
      rw [show sub (pdV q) (0 + 1) 6 = q.2.vals from rfl]
      refine s_callf (sp.apply (ea := ea) q.2 (sp.frm hT2 f3 (fun _ _ h => h)) hW2 (hE.frm0 (f2.trans0 f3)) (fun g hg hs => by have := hElt.1 g hg; omega) (fun a ha hs => by have := hElt.2 a ha; omega)) rfl wnt_none ?_
      rintro v w4 ⟨_, hT4, f4, _⟩
      have he : (c.pend.map (·.2))[j]? = some q.2 := by rw [List.getElem?_map, hq]; rfl
      have s2 := f2.size
      have s3 := f3.size
      refine runG10 ?_
      refine ⟨_, rfl, ⟨(f2.trans0 f3).trans f4 (fun b hb => .inr hb), _, j + 1, fixL ⟨rfl, rfl, rfl, rfl, trivial⟩, by omega, ?_⟩, by show c.pend.length - ((j : Int) + 1).toNat < c.pend.length - (j : Int).toNat; omega⟩
      rw [appAll_step he]
      exact sp.weak hT4 (fun b hb _ => by omega)
    · have hjl : j = c.pend.length := by omega
      have hall : appAll c.base ((c.pend.map (·.2)).take j) = viewD c := by
        rw [List.take_of_length_le (by rw [List.length_map]; omega)]
        rfl
      rw [hall] at hT2
      refine runG10 ?_
      exact ret_p rfl rfl ⟨t', rfl, hT2, f2⟩
set_option maxHeartbeats 1000000 in
theorem waiting_ret (_sp : TreeSpec PT) (h : CAt PT w col k0 k cb pre post bq sq t pd an up dn c) (hp : c.pend.length < 1000) :
    Rets Tryz.prog 88 [.pointer (some ⟨cb, pre.length, none⟩)] w fun v w' => Out w w' v 38 6 (c.pend.map (·.2)).length (fl Ed.vals (c.pend.map (·.2))) := by
  have hrow := h.row
  obtain ⟨pa, pc, rfl⟩ := h.m.pend.isSl
  refine rets_of Tryz.func88 (by kernel_rfl) rfl Tryz.ntmps88 (Nat.le_of_ble_eq_true rfl) ?_
  refine runG10 ?_
  refine lp (fun env w' => Frm0 w w' ∧ ∃ env0, ∃ j : Nat, ∃ va vc, env = setL env0 [(3, .slice va j vc), (9, .slice pa c.pend.length pc), (10, I c.pend.length), (11, I j)] ∧ j ≤ c.pend.length ∧ Row w' (.slice va j vc) 38 6 ((c.pend.map (·.2)).take j).length (fl Ed.vals ((c.pend.map (·.2)).take j)) ∧ ∀ b, InV (.slice va j vc) b → w.heap.size ≤ b) (fun env _ => c.pend.length - cnt (env 11)) ?_ ?_
  · exact ⟨Frm.refl _ _, _, 0, none, 0, fixL ⟨rfl, rfl, rfl, rfl, trivial⟩, by omega, Row.nil, fun b hb => (inv_none hb).elim⟩
  · rintro env w2 ⟨f2, env0, j, va, vc, rfl, hj, hR, hnew⟩
    have hjl : ((c.pend.map (·.2)).take j).length = j := by rw [List.length_take, List.length_map]; omega
    by_cases hlt : j < c.pend.length
    · obtain ⟨q, hq⟩ : ∃ q, c.pend[j]? = some q := ⟨_, List.getElem?_eq_getElem hlt⟩
      rcases h.m.pend with ⟨_, h0, _⟩ | ⟨pb, pcap, prest, e9, hA, hpl, hpr, hpc⟩
      · omega
      cases e9
      have hA2 := f2.at0 hA
      refine runG10 ?_
      refine s_val (r_loadV (vs := pdV q) (u_ok rfl) rfl (s_ok rfl) rfl hA2 (by rw [List.length_append, fl_len (f := pdV) (k := 7) (fun _ => rfl)]; omega) (by
        have := fl_sub (f := pdV) (k := 7) (fun _ => rfl) c.pend j q hq [] prest
        rw [List.nil_append, List.length_nil] at this
        rw [show 0 + (j : Int).toNat * 7 = 0 + j * 7 by omega]
        exact this)) wnt_none ?_
      refine runG10 ?_
      refine s_skip (r_storeAll (vs := pdV q) (s_ok rfl) rfl rfl (pd_one q) (at_alloc_new w2 _) rfl) wnt_none ?_
      have hv3 := at_setB (cel (pdV q) 166) (at_alloc_new w2 (cel [I 0, I 0, I 0, I 0, I 0, I 0, I 0] 166))
      have f3 : Frm0 w2 (setB (w2.alloc (cel [I 0, I 0, I 0, I 0, I 0, I 0, I 0] 166)) w2.heap.size (cel (pdV q) 166)) := (Frm.of_alloc w2 _).setB (.inr (Nat.le_refl _)) _
      generalize setB (w2.alloc (cel [I 0, I 0, I 0, I 0, I 0, I 0, I 0] 166)) w2.heap.size (cel (pdV q) 166) = w3 at *
      refine runG10 ?_
      rw [show sub (pdV q) (0 + 1) 6 = q.2.vals from rfl]
      refine s_val (r_bs rfl (bs_ed q.2 _)) wnt_none ?_
      have f4 : Frm0 w3 (w3.alloc (cel q.2.vals 38)) := Frm.of_alloc _ _
      obtain ⟨v5, w5, e5, r5, f5, n5⟩ := append_edQ (ty := 62) (A := (c.pend.map (·.2)).take j) (q := q.2) (hR.frm (f3.trans0 f4) (fun _ _ h => h)) (seg_new rfl) (by omega)
      have he : (c.pend.map (·.2))[j]? = some q.2 := by rw [List.getElem?_map, hq]; rfl
      rw [← take_snoc he] at r5
      obtain ⟨va5, vc5, e6⟩ := r5.isSl
      have hj5 : ((c.pend.map (·.2)).take (j + 1)).length = j + 1 := by rw [List.length_take, List.length_map]; omega
      rw [hj5] at e6
      subst e6
      refine s_val (r_app rfl rfl e5) wnt_none ?_
      have s2 := f2.size
      have s3 := (f3.trans0 f4).size
      refine runG10 ?_
      refine ⟨_, rfl, ⟨((f2.trans0 f3).trans0 f4).trans f5 (fun b hb => .inr (hnew b hb)), _, j + 1, va5, vc5, fixL ⟨rfl, rfl, rfl, rfl, trivial⟩, by omega, r5, fun b hb => ?_⟩, by show c.pend.length - ((j : Int) + 1).toNat < c.pend.length - (j : Int).toNat; omega⟩
      rcases n5 b hb with h9 | h9
      · exact hnew b h9
      · omega
    · have hje : j = c.pend.length := by omega
      rw [List.take_of_length_le (by rw [List.length_map]; omega)] at hR
      refine runG10 ?_
      exact ret_s rfl rfl ⟨hR, hnew, f2⟩
end
end Go.Proofs.YtbicffldggcdhabGreatDoor
