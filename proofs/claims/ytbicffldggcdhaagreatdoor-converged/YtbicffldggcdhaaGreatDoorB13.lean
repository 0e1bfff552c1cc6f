/-
  WK8; WK9; LKeep4; WK12; WK10; WK11; WK13.
-/
import Derived.Test.YtbicffldggcdhaaGreatDoorB12
import Derived.Test.YtbicffldggcdhaaGreatDoorB08
namespace Go.Proofs.YtbicffldggcdhaaGreatDoor
open Go
theorem runG13 {G K : Prop} (k : K) (h : Wrap K → G := by intro h; (repeat (first | (with_reducible first | refine wpIn_seq ?_ | refine w_reg ?_ | refine s_nil ?_ | refine s_nilQ ?_ | refine wpIn_block ?_ | refine q_then ?_ | refine q_blk ?_ | refine q_then_ret ?_ | refine q_blk_ret ?_ | refine q_then_exit ?_ | refine q_blk_exit ?_ | refine wpIn_skip ?_ | refine wpIn_ret ?_ | refine wpIn_exit ?_ | refine y_nil ?_ | refine y_nilQ ?_ | refine x_late ?_) | ((with_reducible refine q_blk_other ?_ ?_); exact rfl) | ((with_reducible apply c_true); exact rfl; (with_reducible exact rfl)) | ((with_reducible apply c_false); exact rfl; (with_reducible exact rfl)) | ((with_reducible apply s_no); (first | ((with_reducible apply wnt_nt); exact rfl; exact rfl; exact rfl; exact rfl; (with_reducible exact rfl)) | ((with_reducible apply wnt_nf); exact rfl; exact rfl; exact rfl; exact rfl; (with_reducible exact rfl)))) | ((with_reducible apply x_qno); exact rfl; (first | ((with_reducible apply wnt_nt); exact rfl; exact rfl; exact rfl; exact rfl; (with_reducible exact rfl)) | ((with_reducible apply wnt_nf); exact rfl; exact rfl; exact rfl; exact rfl; (with_reducible exact rfl)))) | ((first | with_reducible apply s_val | ((with_reducible apply y_val); exact rfl) | ((with_reducible apply x_q); exact rfl; intro wq hq)); (first | ((with_reducible apply r_boxA); exact rfl) | ((with_reducible apply r_box1); exact rfl; exact rfl) | ((with_reducible apply r_assign_b); exact rfl) | ((with_reducible apply r_fld); exact fa_ok rfl; exact rfl) | ((with_reducible apply r_load); exact u_ok rfl; exact rfl; exact rfl; (first | exact Frm.at0 hq (by assumption) | exact Frm.at hq (by assumption) (by assumption) | (first | (with_reducible assumption) | assumption | exact at_alloc_new _ _ | (repeat (first | assumption | exact at_alloc_new _ _ | refine at_drew ?_ | refine at_alloc _ ?_)))); exact rfl) | ((with_reducible apply r_move_p); exact rfl) | ((with_reducible apply r_nilCheck); exact rfl) | ((with_reducible apply r_assign_i); exact rfl) | ((with_reducible apply r_lss_t); exact rfl; exact rfl; omega) | ((with_reducible apply r_lss_f); exact rfl; exact rfl; omega) | ((with_reducible apply r_lss); exact rfl; exact rfl) | ((with_reducible apply r_loadA); exact u_ok rfl; exact rfl; exact s_ok rfl; exact rfl; (first | exact Frm.at0 hq (by assumption) | exact Frm.at hq (by assumption) (by assumption) | (first | (with_reducible assumption) | assumption | exact at_alloc_new _ _ | (repeat (first | assumption | exact at_alloc_new _ _ | refine at_drew ?_ | refine at_alloc _ ?_)))); exact Nat.le_of_ble_eq_true rfl) | ((with_reducible apply r_allocA); exact z_ok rfl) | ((with_reducible apply r_alloc1); exact z_ok rfl; exact rfl) | ((with_reducible apply r_move_i); exact rfl) | ((with_reducible apply r_move_t); exact rfl) | ((with_reducible apply r_extract); exact rfl; exact rfl) | ((with_reducible apply r_assign_s); exact rfl) | ((with_reducible apply r_assign_if); exact rfl) | ((with_reducible apply r_assign_ni); exact rfl) | ((with_reducible apply r_move_if); exact rfl) | ((with_reducible apply r_move_ni); exact rfl) | ((with_reducible apply r_neq_t); exact rfl; exact rfl; omega) | ((with_reducible apply r_neq_f); exact rfl; exact rfl; omega) | ((with_reducible apply r_neq); exact rfl; exact rfl) | ((with_reducible apply r_move_b); exact rfl) | ((with_reducible apply r_eql_t); exact rfl; exact rfl; omega) | ((with_reducible apply r_eql_f); exact rfl; exact rfl; omega) | ((with_reducible apply r_eql); exact rfl; exact rfl) | ((with_reducible apply r_move_s); exact rfl) | ((with_reducible apply r_len); exact u_ok rfl; exact rfl) | ((with_reducible apply r_pick_t); exact rfl; (with_reducible exact rfl); exact rfl) | ((with_reducible apply r_pick_f); exact rfl; (with_reducible exact rfl); exact rfl) | ((with_reducible apply r_index); exact u_ok rfl; exact s_ok rfl; exact rfl; exact rfl; omega; omega) | ((with_reducible apply r_indexarr); exact u_ok rfl; exact s_ok rfl; exact rfl; exact rfl; omega; omega) | ((with_reducible apply r_add); exact rfl; exact rfl; omega; omega) | ((with_reducible apply r_not_t); exact rfl; (with_reducible exact rfl)) | ((with_reducible apply r_not_f); exact rfl; (with_reducible exact rfl)) | ((with_reducible apply r_not); exact rfl) | ((with_reducible apply r_assign_p); exact rfl) | ((with_reducible apply r_gtr_t); exact rfl; exact rfl; omega) | ((with_reducible apply r_gtr_f); exact rfl; exact rfl; omega) | ((with_reducible apply r_gtr); exact rfl; exact rfl) | ((with_reducible apply r_sub); exact rfl; exact rfl; omega; omega)); (first | (with_reducible exact wnt_none) | ((with_reducible apply wnt_y); exact rfl; exact rfl; exact rfl; exact rfl; (with_reducible exact rfl)))))); exact h.out) : G := h ⟨k⟩

theorem keditF_right {e : Ed} : wrongB (keditF e) = false := by
  have h1 := kpickF_lt (c := e.kind) (n := 4) (by omega)
  have h2 := kpickF_lt (c := e.node) (n := 40) (by omega)
  have h3 := kpickF_lt (c := e.parent) (n := 40) (by omega)
  have h4 := kpickF_lt (c := e.key) (n := 1001) (by omega)
  have h5 := kpickF_lt (c := e.prop) (n := 4) (by omega)
  have h6 := kpickF_lt (c := e.value) (n := 1000001) (by omega)
  have a : inB (kpickF e.node 40) 1000 = true := decide_eq_true (by omega)
  have b : inB (kpickF e.parent 40) 1000 = true := decide_eq_true (by omega)
  have c : inB (kpickF e.key 1001) 1000 = true := decide_eq_true (by omega)
  have d : inB (kpickF e.prop 4) 3 = true := decide_eq_true (by omega)
  have f : inB (kpickF e.value 1000001) 1000000 = true := decide_eq_true (by omega)
  unfold wrongB
  simp only [keditF, a, b, c, d, f]
  repeat' split
  all_goals first | rfl | (exfalso; omega)
theorem editP_is {P : Par} {k : Int} {c : Cli} {e : Ed} (hc : P.cl k = some c) (he : wrongB e = false) : ((editP P k e).1 = 0 ↔ c.pend.length < 6) := by
  unfold editP
  rw [hc]
  simp only [he]
  rw [if_neg (by simp)]
  split
  · exact ⟨fun h => (by cases h), fun h => (by omega)⟩
  · exact ⟨fun _ => (by omega), fun _ => rfl⟩
theorem insE_no {ins : Nat → List Ed} {k z : Nat} {e : Ed} (h : z ≠ 0) : insE ins k z e = ins := by
  funext j
  rw [insE, if_neg (fun q => h q.2)]
theorem insE_at {ins : Nat → List Ed} {k z : Nat} {e : Ed} (h : z = 0) : insE ins k z e k = ins k ++ [e] := by rw [insE, if_pos ⟨rfl, h⟩]
theorem insE_ne {ins : Nat → List Ed} {k z i : Nat} {e : Ed} (h : i ≠ k) : insE ins k z e i = ins i := by rw [insE, if_neg (fun q => h q.1)]
abbrev EvV (x : Evt) : Value := .agg x.vals.toArray
section
variable {PT : PTy} {w0 w w' : World} {col col' : Nat → Nat} {i j pp p : Nat} {n : Int} {P P' : Par} {ins : Nat → List Ed} {bs : List Int} {ea : List Addr}
set_option maxRecDepth 4000 in
set_option maxHeartbeats 2000000 in
theorem khap_ret (sp : TreeSpec PT) (cs : CloneSpec PT) (h : PLA PT w col j pp p n P ins bs) (hT : Top w0 w col) (hE : Errs w0 ea) (hB : P.ents.length ≤ 884000000000) {x : Evt} (hx : EvRaw x) :
    Rets Tryz.prog 23 [Ptr pp, EvV x] w fun v w' => v = B true ∧ ∃ col', PLA PT w' col' j pp p n (hapP P n x) (hapI P ins n x) bs ∧ Bd j w w' col col' := by
  have f1 : Frm0 w (w.alloc (cel x.vals 52)) := Frm.of_alloc _ _
  have hx1 := at_alloc_new w (cel x.vals 52)
  have hn := h.pl.nn
  have hkl := kpickF_lt (c := x.client) (n := n) (by omega)
  obtain ⟨k, hk, hkn⟩ := hapK_nat hn.1 x
  have hkk : kpickF x.client n = k := hk
  obtain ⟨c, hc⟩ := h.pl.get (k := k) (by omega) hkn
  obtain ⟨hxk, hxc, hxe⟩ := hx
  refine rets_of Tryz.func23 (by kernel_rfl) rfl Tryz.ntmps23 (Nat.le_of_ble_eq_true rfl) ?_
  refine runG13 ?_
  generalize w.heap.size = xb at hx1 ⊢
  have h1 := h.frm0 sp f1
  have T1 := hT.frm0 f1
  have B1 : Bd j w _ col col := Bd.frm0 h.high f1
  generalize w.alloc (cel x.vals 52) = w1 at *
  clear f1
  obtain ⟨⟨ev1, iv1, hm1⟩, hk1, hpl⟩ := h1
  have hh1 := hm1.head
  refine w_drawn [(0, false), (1, false), (2, false), (3, false), (4, false), (5, false)] [6, 7] (fun wq => Frm0 w1 wq) mixed (by kernel_rfl) ?_ ?_
  · exact Frm.of_drew _
  · refine runG13 ?_
    refine y_callf rfl (kpick_ret hxc (n := n) (by omega) _) rfl wnt_none ?_
    rintro v w2' ⟨rfl, rfl⟩
    rw [hkk]
    refine runG13 ?_
    have f2 : Frm0 w1 w1.drew := Frm.of_drew _
    have hx2 := f2.at0 hx1
    have hk2 := hk1.frm0 sp f2
    have hm2 := hm1.frm0 f2
    have T2 := T1.frm0 f2
    have B2 := B1.trans (Bd.frm0 hk1.high f2)
    generalize w1.drew = w2 at *
    clear hh1 hm1 hk1 T1 f2 hx1 B1
    have hh2 := hm2.head
    refine s_callf (kpick_ret hxk (n := 10) (by omega) w2) rfl wnt_none ?_
    rintro v w2' ⟨rfl, rfl⟩
    by_cases c2 : kpickF x.kind 10 < 2
    · have hP : hapP P n x = (editP P k (keditF x.e)).2 := by rw [hapP, if_pos (show hapM x < 2 from c2), hk]
      have hI : hapI P ins n x = insE ins k (editP P k (keditF x.e)).1 (keditF x.e) := by rw [hapI, if_pos (show hapM x < 2 from c2), hk, Int.toNat_natCast]
      rw [hP, hI]
      have hpl' := hpl.edit k (e := keditF x.e) keditF_sml
      have hwr := keditF_right (e := x.e)
      have hei := editP_is hc hwr
      refine runG13 ?_
      refine s_callf (kedit_ret hxe w2) rfl wnt_none ?_
      rintro v w3 ⟨rfl, f3⟩
      refine runG13 ?_
      refine s_skip (r_storeAll (vs := (keditF x.e).vals) (s_ok rfl) rfl rfl (edit_one _) (at_alloc_new w3 _) rfl) wnt_none ?_
      have he4 := at_setB (cel (keditF x.e).vals 31) (at_alloc_new w3 (cel [I 0, I 0, I 0, I 0, I 0, I 0] 31))
      have f4 : Frm0 w2 (setB (w3.alloc (cel [I 0, I 0, I 0, I 0, I 0, I 0] 31)) w3.heap.size (cel (keditF x.e).vals 31)) := (f3.alloc _).setB (.inr f3.size) _
      have heb : col w3.heap.size = 0 := hk2.high _ f3.size
      clear f3
      generalize setB (w3.alloc (cel [I 0, I 0, I 0, I 0, I 0, I 0] 31)) w3.heap.size (cel (keditF x.e).vals 31) = w4 at *
      generalize w3.heap.size = eb at *
      clear hP hI
      generalize keditF x.e = e at *
      have hk4 := hk2.frm0 sp f4
      have hm4 := hm2.frm0 f4
      have hh4 := hm4.head
      have T4 := T2.frm0 f4
      have B4 := B2.trans (Bd.frm0 hk2.high f4)
      clear hh2 hm2 hk2 T2 B2 f4 hx2
      refine runG13 ?_
      refine s_callf (kpPending sp hk4 (T4.errs hE) (by omega) hc) rfl wnt_none ?_
      rintro v w5 ⟨l, rfl, r5, n5, f5⟩
      have hml : (c.pend.map (·.2)).length = c.pend.length := List.length_map ..
      obtain ⟨la, lc, rfl⟩ := r5.isSl
      rw [hml]
      have he5 := f5.at0 he4
      have hk5 := hk4.frm0 sp f5
      have hm5 := hm4.frm0 f5
      have hh5 := hm5.head
      have T5 := T4.frm0 f5
      have B5 := B4.trans (Bd.frm0 hk4.high f5)
      clear hh4 hm4 hk4 T4 B4 f5 he4 r5 n5
      refine runG13 ?_
      refine w_drawn [(0, false), (1, false), (2, false), (3, false), (4, false), (5, false)] [6, 7] (fun wq => Frm0 w5 wq) mixed (by kernel_rfl) ?_ ?_
      · exact Frm.of_drew _
      · have fd : Frm0 w5 w5.drew := Frm.of_drew _
        refine runG13 ?_
        rw [sub_all' (show e.vals.length = 6 from rfl)]
        refine y_callf rfl (kpEdit sp (hk5.frm0 sp fd) ((T5.frm0 fd).errs hE) (by omega) k e) rfl wnt_none ?_
        rintro v w6 ⟨hv, col6, hk6, x6, f6⟩
        have hm6 := (hm5.frm0 fd).other f6 (fun b h7 h8 h9 => by omega) x6.old
        have hh6 := hm6.head
        have he6 := f6.at (fun h9 => by have := h9.1; omega) (fd.at0 he5)
        have B6 := (B5.trans (Bd.frm0 hk5.high fd)).trans (Bd.ofQ x6 f6 (.inl rfl))
        have heb6 : col6 eb = 0 := by rw [x6.old eb (at_lt (fd.at0 he5))]; exact heb
        clear hh5 hm5 hk5 T5 B5 he5 fd x6 f6
        by_cases h6 : c.pend.length < 6
        · have hz := hei.2 h6
          have hv' := hv.1
          rw [hz] at hv'
          cases errIs0 hv'
          clear hv hv'
          have hk4 : k < iv1.length := by rw [hm6.il]; omega
          obtain ⟨u, hu⟩ : ∃ u, iv1[k]? = some u := ⟨iv1[k], List.getElem?_eq_getElem hk4⟩
          obtain ⟨hru, hcu⟩ := hm6.row k u hu
          obtain ⟨ua, uc, rfl⟩ := hru.isSl
          have hnpp : ¬ InV (.slice ua (ins k).length uc) pp := fun h9 => by have := hcu pp h9; have := hm6.own; omega
          have hneb : ¬ InV (.slice ua (ins k).length uc) eb := fun h9 => by have := hcu eb h9; omega
          have hil := hpl.ins_le hkn
          have hgu : (Ptr p :: I n :: ev1 :: (iv1 ++ bs.map I))[0 + 3 + (k : Int).toNat * 1]? = some (.slice ua (ins k).length uc) := by rw [show 0 + 3 + (k : Int).toNat * 1 = 3 + k by omega]; exact pl_get hu
          refine runG13 ?_
          refine s_val (r_nnF rfl) wnt_none ?_
          refine runG13 ?_
          refine s_val (r_nn rfl) (by (first | (with_reducible exact wnt_none) | ((with_reducible apply wnt_y); exact rfl; exact rfl; exact rfl; exact rfl; (with_reducible exact rfl)))) ?_
          refine runG13 ?_
          refine s_val (r_ne_bool (a := true) (b := true) (c := false) rfl rfl rfl) (by (first | (with_reducible exact wnt_none) | ((with_reducible apply wnt_y); exact rfl; exact rfl; exact rfl; exact rfl; (with_reducible exact rfl)))) ?_
          refine runG13 ?_
          refine s_val (r_nn rfl) wnt_none ?_
          refine runG13 ?_
          refine w_drawn ((0, false) :: (1, false) :: (2, false) :: (3, false) :: (4, false) :: (5, false) :: (6, false) :: (7, false) :: (8, false) :: (11, false) :: (12, false) :: (9, true) :: (10, true) :: (13, false) :: []) [14] (fun wq => Frm (InV (.slice ua (ins k).length uc)) w6 wq) mixed (by kernel_rfl) ?_ ?_
          · exact Frm.of_drew _
          · refine runG13 ?_
            refine x_q rfl (fun wq hq => r_load (u_ok rfl) rfl rfl (hq.at hnpp hh6) hgu) wnt_none ?_
            refine runG13 ?_
            rw [sub_all' (show e.vals.length = 6 from rfl)]
            refine x_val rfl (r_bs rfl (bs_ed e _)) wnt_none ((Frm.of_drew w6).alloc _) ?_
            have hFa : Frm0 w6 (w6.drew.alloc (cel e.vals 31)) := (Frm.of_drew w6).alloc _
            obtain ⟨v7, w7, e7, r7, f7, n7⟩ := append_edB (ty := 26) (q := e) (hru.frm hFa (fun _ _ h => h)) (seg_new rfl) (by omega)
            have f7' : Frm (InV (.slice ua (ins k).length uc)) w6 w7 := (hFa.mono (fun _ h => h.elim)).trans f7 (fun b hb => .inl hb)
            have n7' : ∀ b, InV v7 b → InV (.slice ua (ins k).length uc) b ∨ w6.heap.size ≤ b := fun b hb => (n7 b hb).imp id (fun h => Nat.le_trans hFa.size h)
            refine x_val rfl (r_app rfl rfl e7) wnt_none f7' ?_
            have hh7 := f7'.at hnpp hh6
            obtain ⟨h8, g8, f8⟩ := hm6.edits (ins' := insE ins k (editP P k e).1 e) hk6.high hu (fun i hi => insE_ne hi) f7' (by rw [insE_at hz]; exact r7) n7'
            obtain ⟨ya, yc, rfl⟩ := r7.isSl
            refine runG13 ?_
            refine y_skip rfl (r_store_s (s_ok rfl) rfl rfl hh7 (by rw [show 0 + 3 + (k : Int).toNat * 1 = 3 + k by omega]; simp; omega)) wnt_none ?_
            rw [show 0 + 3 + (k : Int).toNat * 1 = 3 + k by omega, pl_set hk4]
            refine runG13 ?_
            exact ret_b rfl rfl ⟨rfl, _, ⟨⟨_, _, by rw [(editP_clients e).2.1]; exact h8⟩, hk6.other sp f8 (fun b h7 h8 h9 => by omega) g8.old g8.high, hpl'⟩, B6.trans g8⟩
        · have hz : (editP P k e).1 ≠ 0 := fun h9 => h6 (hei.1 h9)
          obtain ⟨vb, rfl⟩ := errIsS hv.1 hz
          clear hv
          refine runG13 ?_
          refine s_val (r_nnF rfl) wnt_none ?_
          refine runG13 ?_
          refine s_val (r_in rfl) (by (first | (with_reducible exact wnt_none) | ((with_reducible apply wnt_y); exact rfl; exact rfl; exact rfl; exact rfl; (with_reducible exact rfl)))) ?_
          refine runG13 ?_
          refine s_val (r_ne_bool (a := false) (b := false) (c := false) rfl rfl rfl) (by (first | (with_reducible exact wnt_none) | ((with_reducible apply wnt_y); exact rfl; exact rfl; exact rfl; exact rfl; (with_reducible exact rfl)))) ?_
          refine runG13 ?_
          refine s_val (r_in rfl) wnt_none ?_
          refine runG13 ?_
          rw [insE_no hz] at hpl' ⊢
          exact ret_b rfl rfl ⟨rfl, col6, ⟨⟨_, _, by rw [(editP_clients e).2.1]; exact hm6⟩, hk6, hpl'⟩, B6⟩
    · by_cases c5 : kpickF x.kind 10 < 5
      · have hP : hapP P n x = (upP P k).2 := by rw [hapP, if_neg (show ¬ hapM x < 2 from c2), if_pos (show hapM x < 5 from c5), hk]
        have hI : hapI P ins n x = ins := by rw [hapI, if_neg (show ¬ hapM x < 2 from c2)]
        rw [hP, hI]
        refine runG13 ?_
        refine s_callf (kpick_ret hxk (n := 10) (by omega) w2) rfl wnt_none ?_
        rintro v w2' ⟨rfl, rfl⟩
        refine runG13 ?_
        refine s_callf (kup_ret sp cs ⟨⟨_, _, hm2⟩, hk2, hpl⟩ T2 hE hB k) rfl wnt_none ?_
        rintro v w3 ⟨rfl, col3, h3, B3⟩
        refine runG13 ?_
        exact ret_b rfl rfl ⟨rfl, col3, h3, B2.trans B3⟩
      · have hI : hapI P ins n x = ins := by rw [hapI, if_neg (show ¬ hapM x < 2 from c2)]
        rw [hI]
        have hA2 : PLA PT w2 col j pp p n P ins bs := ⟨⟨_, _, hm2⟩, hk2, hpl⟩
        by_cases c8 : kpickF x.kind 10 < 8
        · have hP : hapP P n x = (downP P k).2 := by rw [hapP, if_neg (show ¬ hapM x < 2 from c2), if_neg (show ¬ hapM x < 5 from c5), if_pos (show hapM x < 8 from c8), hk]
          rw [hP]
          refine runG13 ?_
          refine s_callf (kpick_ret hxk (n := 10) (by omega) w2) rfl wnt_none ?_
          rintro v w2' ⟨rfl, rfl⟩
          refine runG13 ?_
          refine s_callf (kpick_ret hxk (n := 10) (by omega) w2) rfl wnt_none ?_
          rintro v w2' ⟨rfl, rfl⟩
          refine runG13 ?_
          refine s_callf (kpDown sp hk2 (T2.errs hE) (T2.lo hE) (by omega) k) rfl wnt_none ?_
          rintro v w3 ⟨_, hs⟩
          obtain ⟨col3, h3, B3⟩ := hA2.step hs downP_clients.2.1 (hpl.down k)
          refine runG13 ?_
          exact ret_b rfl rfl ⟨rfl, col3, h3, B2.trans B3⟩
        · by_cases c9 : kpickF x.kind 10 < 9
          · have hP : hapP P n x = (joinP P k).2 := by rw [hapP, if_neg (show ¬ hapM x < 2 from c2), if_neg (show ¬ hapM x < 5 from c5), if_neg (show ¬ hapM x < 8 from c8), if_pos (show hapM x < 9 from c9), hk]
            rw [hP]
            refine runG13 ?_
            refine s_callf (kpick_ret hxk (n := 10) (by omega) w2) rfl wnt_none ?_
            rintro v w2' ⟨rfl, rfl⟩
            refine runG13 ?_
            refine s_callf (kpick_ret hxk (n := 10) (by omega) w2) rfl wnt_none ?_
            rintro v w2' ⟨rfl, rfl⟩
            refine runG13 ?_
            refine s_callf (kpick_ret hxk (n := 10) (by omega) w2) rfl wnt_none ?_
            rintro v w2' ⟨rfl, rfl⟩
            refine runG13 ?_
            refine s_callf (kpJoin sp hk2 (T2.errs hE) (by omega) k) rfl wnt_none ?_
            rintro v w3 ⟨_, hs⟩
            obtain ⟨col3, h3, B3⟩ := hA2.step hs joinP_clients.2.1 (hpl.join k)
            refine runG13 ?_
            exact ret_b rfl rfl ⟨rfl, col3, h3, B2.trans B3⟩
          · have hP : hapP P n x = (dropP P k).2 := by rw [hapP, if_neg (show ¬ hapM x < 2 from c2), if_neg (show ¬ hapM x < 5 from c5), if_neg (show ¬ hapM x < 8 from c8), if_neg (show ¬ hapM x < 9 from c9), hk]
            rw [hP]
            refine runG13 ?_
            refine s_callf (kpick_ret hxk (n := 10) (by omega) w2) rfl wnt_none ?_
            rintro v w2' ⟨rfl, rfl⟩
            refine runG13 ?_
            refine s_callf (kpick_ret hxk (n := 10) (by omega) w2) rfl wnt_none ?_
            rintro v w2' ⟨rfl, rfl⟩
            refine runG13 ?_
            refine s_callf (kpick_ret hxk (n := 10) (by omega) w2) rfl wnt_none ?_
            rintro v w2' ⟨rfl, rfl⟩
            refine runG13 ?_
            refine s_callf (kpDrop sp hk2 (T2.errs hE) k) rfl wnt_none ?_
            rintro v w3 ⟨_, hs⟩
            obtain ⟨col3, h3, B3⟩ := hA2.step hs dropP_clients.2.1 (hpl.drop k)
            refine runG13 ?_
            exact ret_b rfl rfl ⟨rfl, col3, h3, B2.trans B3⟩
end
end Go.Proofs.YtbicffldggcdhaaGreatDoor

namespace Go.Proofs.YtbicffldggcdhaaGreatDoor
open Go

section
variable {w : World} {ρ : Operand → Value} {d : Option Nat} {t ty2 : Nat} {p : String} {af : Array Edge} {g : Option (Nat × Bool)} {x y : Operand}
theorem r_ne_edK {n : Ed} (hx : ρ x = EdV n) (hy : ρ y = EdV n) : (execOp ρ ⟨d, .binOp .neq 31 x y ty2, t, p, af, g⟩).run Tryz.prog w = .ok (.value (.bool false)) w := by
  refine r_eq2 hx hy (by simp [eqGuard]) ?_
  simp [binOp, Op.equal, Op.maxDepth, eq_edit 9998 n]
end
theorem rowk_at {w : World} {v : Value} {T sz n : Nat} {pre : List Value} (h : Row w v T sz n pre) (hn : 0 < n) : ∃ b cap rest, v = .slice (some ⟨b, 0, none⟩) n cap ∧ At w b (cel (pre ++ rest) T) := by
  rcases h with ⟨_, h, _⟩ | ⟨b, cap, rest, h1, h2, _⟩
  · omega
  · exact ⟨b, cap, rest, h1, h2⟩
/-- Is there such an entry? -/
def isIt (k : Int) (s : Int) (d : Bool) (x : Ent) : Bool := decide (x.client = k) && (decide (x.seq = s) && (x.done == d))
theorem fl_subK {α : Type} {f : α → List Value} {k : Nat} (hf : ∀ x, (f x).length = k) {l : List α} {i : Nat} {x : α} (h : l[i]? = some x) (rest : List Value) {o : Nat} (ho : o = i * k) : sub (fl f l ++ rest) (0 + o) k = f x := by
  have := fl_sub hf l i x h [] rest
  rw [List.nil_append, List.length_nil] at this
  rw [ho]
  exact this
theorem fl_lenK {α : Type} {f : α → List Value} {k : Nat} (hf : ∀ x, (f x).length = k) {l : List α} {i : Nat} {x : α} (h : l[i]? = some x) (rest : List Value) {o : Nat} (ho : o = i * k) : 0 + o + k ≤ (fl f l ++ rest).length := by
  have h1 := (List.getElem?_eq_some_iff.1 h).1
  rw [List.length_append, fl_len hf, ho]
  have : (i + 1) * k ≤ l.length * k := Nat.mul_le_mul_right k h1
  rw [Nat.add_mul] at this
  omega
theorem fl_getK {α : Type} {f : α → List Value} {k : Nat} (hf : ∀ x, (f x).length = k) {l : List α} {i j : Nat} {x : α} {v : Value} (h : l[i]? = some x) (hv : (f x)[j]? = some v) (rest : List Value) {o : Nat} (ho : o = i * k) : (fl f l ++ rest)[0 + o + j]? = some v := by
  have := fl_get hf h hv [] rest
  rw [List.nil_append, List.length_nil] at this
  rw [ho]
  exact this
section
variable {PT : PTy} {w0 w w' : World} {col col' : Nat → Nat} {i j pp p : Nat} {n : Int} {P P' : Par} {ins : Nat → List Ed} {bs : List Int} {ea : List Addr}
set_option maxRecDepth 4000 in
set_option maxHeartbeats 2000000 in
theorem kanswered_ret (sp : TreeSpec PT) (h : PLA PT w col j pp p n P ins bs) (hT : Top w0 w col) (hE : Errs w0 ea) (hB : P.ents.length ≤ 884000000000) {k : Nat} (hkn : (k : Int) < n) :
    Rets Tryz.prog 27 [Ptr pp, I k] w fun v w' => v = B true ∧ Frm0 w w' := by
  obtain ⟨c, hc⟩ := h.pl.get (k := k) (by omega) hkn
  obtain ⟨⟨ev, iv, hm⟩, hk, hpl⟩ := h
  have hn4 := hpl.nn
  have hk4 : k < iv.length := by rw [hm.il]; omega
  obtain ⟨u, hu⟩ : ∃ u, iv[k]? = some u := ⟨iv[k], List.getElem?_eq_getElem hk4⟩
  obtain ⟨xa, xc, rfl⟩ := hm.ent.isSl
  have hru := (hm.row k u hu).1
  obtain ⟨ua, uc, rfl⟩ := hru.isSl
  have hil := hpl.in_len hc
  have hal := ans_few (hpl.sp.get hc)
  have hp6 := (hpl.sp.get hc).p6
  have hh := hm.head
  refine rets_of Tryz.func27 (by kernel_rfl) rfl Tryz.ntmps27 (Nat.le_of_ble_eq_true rfl) ?_
  refine runG13 ?_
  refine s_callf (kpAnswers sp hk (hT.errs hE) (by omega) hc) rfl wnt_none ?_
  rintro v w1 ⟨l, rfl, r1, n1, f1⟩
  obtain ⟨la, lc, rfl⟩ := r1.isSl
  have hk1 := hk.frm0 sp f1
  have hm1 := hm.frm0 f1
  have hh1 := hm1.head
  have T1 := hT.frm0 f1
  refine runG13 ?_
  refine s_callf (kpPending sp hk1 (T1.errs hE) (by omega) hc) rfl wnt_none ?_
  rintro v w2 ⟨m, rfl, r2, n2, f2⟩
  have hml : (c.pend.map (·.2)).length = c.pend.length := List.length_map ..
  obtain ⟨ma, mc, rfl⟩ := r2.isSl
  rw [hml] at r2 ⊢
  have F2 := f1.trans0 f2
  have hm2 := hm1.frm0 f2
  have hh2 := hm2.head
  have r12 := r1.frm f2 (fun _ _ h => h)
  refine runG13 ?_
  refine s_val (r_nnF rfl) wnt_none ?_
  refine runG13 ?_
  refine s_val (r_nnF rfl) (by (first | (with_reducible exact wnt_none) | ((with_reducible apply wnt_y); exact rfl; exact rfl; exact rfl; exact rfl; (with_reducible exact rfl)))) ?_
  have hgu : (Ptr p :: I n :: .slice xa P.ents.length xc :: (iv ++ bs.map I))[0 + 3 + (k : Int).toNat * 1]? = some (.slice ua (ins k).length uc) := by rw [show 0 + 3 + (k : Int).toNat * 1 = 3 + k by omega]; exact pl_get hu
  refine runG13 ?_
  refine s_val (r_load (u_ok rfl) rfl rfl hh2 hgu) (by (first | (with_reducible exact wnt_none) | ((with_reducible apply wnt_y); exact rfl; exact rfl; exact rfl; exact rfl; (with_reducible exact rfl)))) ?_
  refine runG13 ?_
  refine lp (fun env w' => ∃ env0, ∃ i : Nat, env = setL env0 [(0, Ptr pp), (1, I k), (5, .slice la c.ans.length lc), (7, .slice ma c.pend.length mc), (9, I i)] ∧ i ≤ c.ans.length ∧ Frm0 w2 w') (fun env _ => c.ans.length - cnt (env 9)) ?_ ?_
  · exact ⟨_, 0, fixL ⟨rfl, rfl, rfl, rfl, rfl, trivial⟩, Nat.zero_le _, Frm.refl _ _⟩
  · rintro env w3 ⟨env0, i, rfl, hi, f3⟩
    by_cases hia : i < c.ans.length
    · obtain ⟨a, ha⟩ : ∃ a, c.ans[i]? = some a := ⟨c.ans[i], List.getElem?_eq_getElem hia⟩
      obtain ⟨hseq, x0, hx0m, hx0c, hx0s, hx0d⟩ := hpl.ans_at hc ha
      obtain ⟨lb, lcap, lrest, e9, hlA⟩ := rowk_at r12 (by omega)
      cases e9
      refine runG13 ?_
      refine lp (fun env w' => ∃ env0, ∃ j : Nat, ∃ fd, env = setL env0 [(0, Ptr pp), (1, I k), (5, .slice (some ⟨lb, 0, none⟩) c.ans.length lc), (7, .slice ma c.pend.length mc), (9, I i), (10, B fd), (11, I j)] ∧ j ≤ P.ents.length ∧ fd = (P.ents.take j).any (isIt k (i + 1) a.done) ∧ Frm0 w2 w') (fun env _ => P.ents.length - cnt (env 11)) ?_ ?_
      · exact ⟨_, 0, false, fixL ⟨rfl, rfl, rfl, rfl, rfl, rfl, rfl, trivial⟩, Nat.zero_le _, by simp, f3⟩
      · rintro env w4 ⟨env1, j, fd, rfl, hj, hfd, f4⟩
        have hh4 := f4.at0 hh2
        have hlA4 := f4.at0 hlA
        by_cases hjl : j < P.ents.length
        · obtain ⟨x, hx⟩ : ∃ x, P.ents[j]? = some x := ⟨P.ents[j], List.getElem?_eq_getElem hjl⟩
          obtain ⟨eb, ecap, erest, e9, heA⟩ := rowk_at hm2.ent (by omega)
          cases e9
          have heA4 := f4.at0 heA
          have hfd' : ∀ b, b = (fd || isIt k (i + 1) a.done x) → b = (P.ents.take (j + 1)).any (isIt k (i + 1) a.done) := fun b hb => by
            rw [take_snoc hx, List.any_append, ← hfd, hb]
            simp
          refine runG13 ?_
          refine s_val (r_loadV (vs := x.vals) (u_ok rfl) rfl (s_ok rfl) rfl heA4 (fl_lenK (f := Ent.vals) (k := 9) (fun _ => rfl) hx erest (o := (j : Int).toNat * 9) (by omega)) (fl_subK (f := Ent.vals) (k := 9) (fun _ => rfl) hx erest (o := (j : Int).toNat * 9) (by omega))) wnt_none ?_
          refine runG13 ?_
          refine s_skip (r_storeAll (vs := x.vals) (s_ok rfl) rfl rfl (ent_one _) (at_alloc_new w4 _) rfl) wnt_none ?_
          have he5 := at_setB (cel x.vals 54) (at_alloc_new w4 (cel [I 0, I 0, I 0, I 0, I 0, I 0, I 0, I 0, B false] 54))
          have f5 : Frm0 w2 (setB (w4.alloc (cel [I 0, I 0, I 0, I 0, I 0, I 0, I 0, I 0, B false] 54)) w4.heap.size (cel x.vals 54)) := (f4.alloc _).setB (.inr f4.size) _
          generalize setB (w4.alloc (cel [I 0, I 0, I 0, I 0, I 0, I 0, I 0, I 0, B false] 54)) w4.heap.size (cel x.vals 54) = w5 at *
          generalize w4.heap.size = xb at *
          have hlA5 := f5.at0 hlA
          have hdn := fl_getK (f := Ans.vals) (k := 2) (j := 1) (fun _ => rfl) ha rfl lrest (o := (i : Int).toNat * 2) (by omega)
          have hme : P.ents.length - ((j : Int) + 1).toNat < P.ents.length - (j : Int).toNat := by omega
          clear hh4 hlA4 heA4 f4
          refine runG13 ?_
          refine w_drawn ((0, false) :: (1, false) :: (2, false) :: (3, false) :: (4, false) :: (5, false) :: (6, false) :: (7, false) :: (8, false) :: (9, false) :: (10, false) :: (11, false) :: (12, false) :: (13, false) :: (14, false) :: (15, false) :: (16, false) :: (17, false) :: (18, false) :: (19, false) :: (20, false) :: (21, false) :: (22, false) :: (23, false) :: (24, false) :: []) [] (fun wq => Frm0 w5 wq) mixed (by kernel_rfl) ?_ ?_
          · exact Frm.of_drew _
          · cases fd with
            | true =>
              refine runG13 ?_
              repeat (refine x_qno rfl (wnt_nu rfl rfl rfl rfl) ?_)
              refine runG13 ?_
              repeat (refine x_qno rfl (wnt_nu rfl rfl rfl rfl) ?_)
              refine runG13 ?_
              exact ⟨_, rfl, ⟨_, j + 1, true, fixL ⟨rfl, rfl, rfl, rfl, rfl, rfl, rfl, trivial⟩, by omega, hfd' _ (by simp), f5.drew⟩, hme⟩
            | false =>
              by_cases hx1 : x.client = k
              · by_cases hx2 : x.seq = i + 1
                · refine runG13 ?_
                  refine x_q rfl (fun wq hq => r_load (u_ok rfl) rfl rfl (hq.at0 hlA5) hdn) (by (first | (with_reducible exact wnt_none) | ((with_reducible apply wnt_y); exact rfl; exact rfl; exact rfl; exact rfl; (with_reducible exact rfl)))) ?_
                  refine runG13 ?_
                  refine x_q rfl (fun wq hq => r_eq_bool (a := x.done) (b := a.done) (c := (x.done == a.done)) rfl rfl rfl) (by (first | (with_reducible exact wnt_none) | ((with_reducible apply wnt_y); exact rfl; exact rfl; exact rfl; exact rfl; (with_reducible exact rfl)))) ?_
                  refine runG13 ?_
                  exact ⟨_, rfl, ⟨_, j + 1, (x.done == a.done), fixL ⟨rfl, rfl, rfl, rfl, rfl, rfl, rfl, trivial⟩, by omega, hfd' _ (by simp [isIt, hx1, hx2]), f5.drew⟩, hme⟩
                · refine runG13 ?_
                  exact ⟨_, rfl, ⟨_, j + 1, false, fixL ⟨rfl, rfl, rfl, rfl, rfl, rfl, rfl, trivial⟩, by omega, hfd' _ (by simp [isIt, hx2]), f5.drew⟩, hme⟩
              · refine runG13 ?_
                exact ⟨_, rfl, ⟨_, j + 1, false, fixL ⟨rfl, rfl, rfl, rfl, rfl, rfl, rfl, trivial⟩, by omega, hfd' _ (by simp [isIt, hx1]), f5.drew⟩, hme⟩
        · have hft : fd = true := by
            rw [hfd, List.take_of_length_le (by omega), List.any_eq_true]
            exact ⟨x0, hx0m, by simp [isIt, hx0c, hx0s, hx0d]⟩
          subst hft
          have hsq := fl_getK (f := Ans.vals) (k := 2) (j := 0) (fun _ => rfl) ha rfl lrest (o := (i : Int).toNat * 2) (by omega)
          refine runG13 ?_
          refine s_val (r_load (u_ok rfl) rfl rfl hlA4 hsq) wnt_none ?_
          refine runG13 ?_
          exact ⟨_, rfl, ⟨_, i + 1, fixL ⟨rfl, rfl, rfl, rfl, rfl, trivial⟩, by omega, f4⟩, by show c.ans.length - ((i : Int) + 1).toNat < c.ans.length - (i : Int).toNat; omega⟩
    · refine runG13 ?_
      refine lp (fun env w' => ∃ env0, ∃ i : Nat, env = setL env0 [(0, Ptr pp), (1, I k), (5, .slice la c.ans.length lc), (7, .slice ma c.pend.length mc), (13, I i)] ∧ i ≤ c.pend.length ∧ Frm0 w2 w') (fun env _ => c.pend.length - cnt (env 13)) ?_ ?_
      · exact ⟨_, 0, fixL ⟨rfl, rfl, rfl, rfl, rfl, trivial⟩, Nat.zero_le _, f3⟩
      · rintro env w4 ⟨env1, i, rfl, hi, f4⟩
        by_cases hip : i < c.pend.length
        · obtain ⟨q, hq⟩ : ∃ q, c.pend[i]? = some q := ⟨c.pend[i], List.getElem?_eq_getElem hip⟩
          have hq2 : (c.pend.map (·.2))[i]? = some q.2 := by rw [List.getElem?_map, hq]; rfl
          have hin := hpl.pend_at hc hq
          obtain ⟨mb, mcap, mrest, e9, hmA⟩ := rowk_at r2 (by omega)
          cases e9
          obtain ⟨ub, ucap, urest, e8, huA⟩ := rowk_at ((hm2.row k _ hu).1) (by omega)
          cases e8
          have hh4 := f4.at0 hh2
          have hmA4 := f4.at0 hmA
          have huA4 := f4.at0 huA
          have e1 := fl_lenK (f := Ed.vals) (k := 6) (fun _ => rfl) hq2 mrest (o := (i : Int).toNat * 6) (by omega)
          have e2 := fl_subK (f := Ed.vals) (k := 6) (fun _ => rfl) hq2 mrest (o := (i : Int).toNat * 6) (by omega)
          have e3 := fl_lenK (f := Ed.vals) (k := 6) (fun _ => rfl) hin urest (o := ((c.ans.length : Int) + (i : Int)).toNat * 6) (by omega)
          have e4 := fl_subK (f := Ed.vals) (k := 6) (fun _ => rfl) hin urest (o := ((c.ans.length : Int) + (i : Int)).toNat * 6) (by omega)
          refine runG13 ?_
          refine w_drawn ((0, false) :: (1, false) :: (2, false) :: (3, false) :: (4, false) :: (5, false) :: (6, false) :: (7, false) :: (8, false) :: (9, false) :: (10, false) :: (11, false) :: (12, false) :: (13, false) :: (14, false) :: (15, false) :: (16, false) :: []) [] (fun wq => Frm0 w4 wq) mixed (by kernel_rfl) ?_ ?_
          · exact Frm.of_drew _
          · refine runG13 ?_
            refine x_q rfl (fun wq hq => r_loadV (vs := q.2.vals) (u_ok rfl) rfl (s_ok rfl) rfl (hq.at0 hmA4) e1 e2) wnt_none ?_
            refine runG13 ?_
            refine x_q rfl (fun wq hq => r_load (u_ok rfl) rfl rfl (hq.at0 hh4) hgu) wnt_none ?_
            refine runG13 ?_
            refine x_q rfl (fun wq hq => r_loadV (vs := q.2.vals) (u_ok rfl) rfl (s_ok rfl) rfl (hq.at0 huA4) e3 e4) wnt_none ?_
            refine runG13 ?_
            refine x_q rfl (fun wq hq => r_ne_edK (n := q.2) rfl rfl) wnt_none ?_
            refine runG13 ?_
            exact ⟨_, rfl, ⟨_, i + 1, fixL ⟨rfl, rfl, rfl, rfl, rfl, trivial⟩, by omega, f4.drew⟩, by show c.pend.length - ((i : Int) + 1).toNat < c.pend.length - (i : Int).toNat; omega⟩
        · refine runG13 ?_
          exact ret_b rfl rfl ⟨rfl, F2.trans0 f4⟩
end
end Go.Proofs.YtbicffldggcdhaaGreatDoor

namespace Go.Proofs.YtbicffldggcdhaaGreatDoor
open Go

theorem filter_disj {α : Type} {p q r : α → Bool} : ∀ {l : List α}, (∀ x ∈ l, p x = true → r x = true ∧ q x = false) → (∀ x ∈ l, q x = true → r x = true) → (l.filter p).length + (l.filter q).length ≤ (l.filter r).length
  | [], _, _ => by simp
  | x :: l, h1, h2 => by
    have ih := filter_disj (l := l) (fun y hy => h1 y (List.mem_cons_of_mem _ hy)) (fun y hy => h2 y (List.mem_cons_of_mem _ hy))
    have a := h1 x (List.mem_cons_self ..)
    have b := h2 x (List.mem_cons_self ..)
    cases hp : p x
    · cases hq : q x
      · cases hr : r x
        · simp only [List.filter_cons, hp, hq, hr, Bool.false_eq_true, if_false]
          exact ih
        · simp only [List.filter_cons, hp, hq, hr, Bool.false_eq_true, if_false, if_true, List.length_cons]
          omega
      · have hr := b hq
        simp only [List.filter_cons, hp, hq, hr, Bool.false_eq_true, if_false, if_true, List.length_cons]
        omega
    · obtain ⟨hr, hq⟩ := a hp
      simp only [List.filter_cons, hp, hq, hr, Bool.false_eq_true, if_false, if_true, List.length_cons]
      omega
theorem sum_count {ents : List Ent} {f : Cli → Nat} : ∀ {l : List Cli} {k : Int}, (∀ (i : Nat) c, l[i]? = some c → f c ≤ (mine ents (k + i)).length) → sumN f l ≤ (ents.filter fun x => decide (k ≤ x.client)).length
  | [], k, _ => by simp [sumN]
  | c :: l, k, h => by
    have ih := sum_count (ents := ents) (f := f) (l := l) (k := k + 1) (fun i d hd => by
      have := h (i + 1) d (by simpa using hd)
      rw [show k + ((i + 1 : Nat) : Int) = k + 1 + i by omega] at this
      exact this)
    have h0 := h 0 c rfl
    rw [show k + ((0 : Nat) : Int) = k by omega] at h0
    have h3 := filter_disj (l := ents) (p := fun x => decide (x.client = k)) (q := fun x => decide (k + 1 ≤ x.client)) (r := fun x => decide (k ≤ x.client)) (fun x _ hx => by
      have := of_decide_eq_true hx
      exact ⟨decide_eq_true (by omega), decide_eq_false (by omega)⟩) (fun x _ hx => by
      have := of_decide_eq_true hx
      exact decide_eq_true (by omega))
    show f c + sumN f l ≤ _
    have : (mine ents k).length = (ents.filter fun x => decide (x.client = k)).length := rfl
    omega
theorem ans_mine {ents : List Ent} {i : Int} {c : Cli} (h : SC ents i c) : c.ans.length ≤ (mine ents i).length := by
  obtain ⟨r, hr⟩ := mine_pre ents i c.n.toNat
  rw [h.aq, ansOf_len, hr, List.length_append]
  omega
section
variable {n : Int} {P : Par} {ins : Nat → List Ed}
theorem PLP.eSum (h : PLP n P ins) : sumN eC P.cls ≤ P.ents.length + 24 := by
  have h1 : sumN dC P.cls ≤ (P.ents.filter fun x => decide ((0 : Int) ≤ x.client)).length := sum_count (fun i c hc => by
    rw [show (0 : Int) + i = i by omega]
    exact ans_mine (h.sp.cl i c hc))
  have h2 := List.length_filter_le (fun x : Ent => decide ((0 : Int) ≤ x.client)) P.ents
  have h3 : sumN eC P.cls ≤ sumN dC P.cls + 6 * P.cls.length := sum_le (fun c hc => by
    obtain ⟨i, hi⟩ := List.mem_iff_getElem?.1 hc
    have := (h.sp.cl i c hi).p6
    show c.pend.length + c.ans.length ≤ c.ans.length + 6
    omega)
  have := h.ok.few
  omega
end
section
variable {P : Par} {k : Nat} {c : Cli}
theorem cls_of (hc : P.cl k = some c) : P.cls[k]? = some c := by
  obtain ⟨m, h1, h2⟩ := Par.cl_nat hc
  have : m = k := by omega
  rw [← this]
  exact h2
theorem set_cls {y : Cli} (hc : P.cl k = some c) {j : Nat} {d' : Cli} (h : (P.set k y).cls[j]? = some d') : (j = k ∧ d' = y ∧ P.cls[j]? = some c) ∨ (j ≠ k ∧ P.cls[j]? = some d') := by
  have hk := cls_of hc
  simp only [Par.set, Int.toNat_natCast] at h
  by_cases hj : k = j
  · subst hj
    rw [List.getElem?_set_self (List.getElem?_eq_some_iff.1 hk).1] at h
    cases h
    exact .inl ⟨rfl, rfl, hk⟩
  · rw [List.getElem?_set_ne hj] at h
    exact .inr ⟨fun e => hj e.symm, h⟩
theorem eSum_set {y : Cli} (hc : P.cl k = some c) (hy : eC y = eC c) : sumN eC (P.set k y).cls = sumN eC P.cls := by
  have := sum_set eC (y := y) (cls_of hc)
  simp only [Par.set, Int.toNat_natCast]
  omega
theorem up_none (hc : P.cl k = some c) (hu : c.up = []) : upP P k = (9, P) := by
  unfold upP
  rw [hc]
  simp only
  rw [hu]
theorem tell_joined (x : Ent) (c : Cli) : (tell x c).joined = c.joined := by
  unfold tell
  split <;> rfl
theorem up_some {m : Msg} {us : List Msg} (hc : P.cl k = some c) (hu : c.up = m :: us) : (upP P k).1 = 0 ∧ sumN eC (upP P k).2.cls = sumN eC P.cls ∧ ∀ (j : Nat) d', (upP P k).2.cls[j]? = some d' → ∃ d, P.cls[j]? = some d ∧ d'.joined = d.joined ∧ d'.up = if j = k then us else d.up := by
  have one : ∀ {y : Cli}, y.joined = c.joined → y.up = us → ∀ (j : Nat) d', (P.set k y).cls[j]? = some d' → ∃ d, P.cls[j]? = some d ∧ d'.joined = d.joined ∧ d'.up = if j = k then us else d.up := fun {y} h1 h2 j d' hd => by
    rcases set_cls hc hd with ⟨rfl, rfl, h3⟩ | ⟨h3, h4⟩
    · exact ⟨c, h3, h1, by rw [if_pos rfl]; exact h2⟩
    · exact ⟨d', h4, rfl, by rw [if_neg h3]⟩
  unfold upP
  rw [hc]
  simp only
  rw [hu]
  simp only
  split
  · exact ⟨rfl, eSum_set hc rfl, one rfl rfl⟩
  · split
    · exact ⟨rfl, eSum_set hc rfl, one rfl rfl⟩
    · refine ⟨rfl, ?_, fun j d' hd => ?_⟩
      · show sumN eC (List.map _ (P.set k { c with up := us }).cls) = _
        rw [sum_map eC _ (fun d => (tell_sum _ d).1)]
        exact eSum_set hc rfl
      · simp only [takeP, List.getElem?_map, Option.map_eq_some_iff] at hd
        obtain ⟨z, hz, rfl⟩ := hd
        obtain ⟨d, h1, h2, h3⟩ := one (y := { c with up := us }) rfl rfl j z hz
        exact ⟨d, h1, by rw [tell_joined]; exact h2, by rw [(tell_up _ z).1]; exact h3⟩
theorem answered_rest (c : Cli) (a : Ans) : (answered c a).joined = c.joined ∧ (answered c a).up = c.up ∧ (answered c a).down = c.down := by
  unfold answered
  split <;> exact ⟨rfl, rfl, rfl⟩
theorem fold_rest : ∀ (l : List Ans) (c : Cli), (l.foldl answered c).joined = c.joined ∧ (l.foldl answered c).up = c.up ∧ (l.foldl answered c).down = c.down
  | [], _ => ⟨rfl, rfl, rfl⟩
  | a :: l, c => by
    have h1 := fold_rest l (answered c a)
    have h2 := answered_rest c a
    exact ⟨h1.1.trans h2.1, h1.2.1.trans h2.2.1, h1.2.2.trans h2.2.2⟩
theorem downC_rest (i : Int) (c : Cli) (m : Msg) : (downC i c m).joined = c.joined ∧ (downC i c m).up = c.up ∧ (downC i c m).down = c.down ∧ eC (downC i c m) = eC c := by
  unfold downC
  split
  · have := fold_rest m.ans { c with base := ‹List Nd›, n := m.n }
    exact ⟨this.1, this.2.1, this.2.2, (fold_sum m.ans _).1⟩
  · simp only
    split
    · have h1 := answered_rest { c with base := if m.ent.done then applyL c.base m.ent.e else c.base, n := c.n + 1 } ⟨m.ent.seq, m.ent.done⟩
      exact ⟨h1.1, h1.2.1, h1.2.2, (answered_sum _ _).1⟩
    · exact ⟨rfl, rfl, rfl, rfl⟩
theorem down_none (hc : P.cl k = some c) (hu : c.down = []) : downP P k = (9, P) := by
  unfold downP
  rw [hc]
  simp only
  rw [hu]
theorem down_some {m : Msg} {ds : List Msg} (hc : P.cl k = some c) (hu : c.down = m :: ds) : (downP P k).1 = 0 ∧ sumN eC (downP P k).2.cls = sumN eC P.cls ∧ ∀ (j : Nat) d', (downP P k).2.cls[j]? = some d' → ∃ d, P.cls[j]? = some d ∧ d'.joined = d.joined ∧ d'.up = d.up ∧ d'.down = if j = k then ds else d.down := by
  have e1 : downP P k = (0, P.set k (downC k { c with down := ds } m)) := by
    unfold downP
    rw [hc]
    simp only
    rw [hu]
  have hr := downC_rest k { c with down := ds } m
  rw [e1]
  refine ⟨rfl, eSum_set hc hr.2.2.2, fun j d' hd => ?_⟩
  rcases set_cls hc hd with ⟨rfl, rfl, h3⟩ | ⟨h3, h4⟩
  · exact ⟨c, h3, hr.1, hr.2.1, by rw [if_pos rfl]; exact hr.2.2.1⟩
  · exact ⟨d', h4, rfl, rfl, by rw [if_neg h3]⟩
theorem join_all (hc : P.cl k = some c) : sumN eC (joinP P k).2.cls = sumN eC P.cls ∧ ∀ (j : Nat) d', (joinP P k).2.cls[j]? = some d' → ∃ d, P.cls[j]? = some d ∧ ((d.joined = true ∨ j = k) → d'.joined = true) := by
  unfold joinP
  rw [hc]
  simp only
  split
  · rename_i hj
    refine ⟨rfl, fun j d' hd => ⟨d', hd, fun h => ?_⟩⟩
    rcases h with h | h
    · exact h
    · subst h
      rw [cls_of hc] at hd
      cases hd
      exact hj
  · refine ⟨eSum_set hc rfl, fun j d' hd => ?_⟩
    rcases set_cls hc hd with ⟨rfl, rfl, h3⟩ | ⟨h3, h4⟩
    · exact ⟨c, h3, fun _ => rfl⟩
    · exact ⟨d', h4, fun h => h.elim id (fun e => absurd e h3)⟩
end
/-- How much may still be on its way to or from a client, after t rounds. -/
def UB (E t : Nat) (c : Cli) : Prop := c.up.length ≤ 13 - t ∧ (13 ≤ t → c.down.length ≤ E + 14 - t)
/-- In round t, behind the clients before k. -/
def RB (E t k : Nat) (P : Par) : Prop := ∀ (j : Nat) c, P.cls[j]? = some c → UB E (if j < k then t + 1 else t) c
section
variable {n : Int} {P : Par} {ins : Nat → List Ed} {E t k : Nat} {c : Cli}
theorem PLP.rb0 (h : PLP n P ins) : RB E 0 0 P := fun j c hc => by
  rw [if_neg (by omega)]
  exact ⟨(h.ok.cl j c hc).up13, fun h => by omega⟩
theorem PLP.down_few (h : PLP n P ins) (hE : sumN eC P.cls = E) {j : Nat} {d : Cli} (hd : P.cls[j]? = some d) : d.down.length ≤ E + 1 := by
  have h1 := (h.ok.cl j d hd).down_le
  have h2 := h.ok.taken_le
  omega
theorem RB.next (h : RB E t k P) (hk : ∀ (j : Nat) c, P.cls[j]? = some c → j < k) : RB E (t + 1) 0 P := fun j c hc => by
  have := h j c hc
  rw [if_pos (hk j c hc)] at this
  rw [if_neg (by omega)]
  exact this
/-- One client's turn. -/
theorem PLP.turn (h : PLP n P ins) (hE : sumN eC P.cls = E) (hr : RB E t k P) (hc : P.cl k = some c) : RB E t (k + 1) (downP (upP P k).2 k).2 ∧ sumN eC (downP (upP P k).2 k).2.cls = E := by
  have hk := cls_of hc
  have hpu := h.up k
  have hpd := hpu.down k
  -- the message up
  have hU : sumN eC (upP P k).2.cls = E ∧ ∀ (j : Nat) d', (upP P k).2.cls[j]? = some d' → d'.up.length ≤ (if j < k + 1 then 13 - (t + 1) else 13 - t) ∧ (13 ≤ t → d'.down.length ≤ if j < k then E + 14 - (t + 1) else E + 14 - t) := by
    cases hu : c.up with
    | nil =>
      rw [up_none hc hu]
      refine ⟨hE, fun j d' hd => ?_⟩
      have h1 := hr j d' hd
      by_cases hj : j < k
      · rw [if_pos hj] at h1
        rw [if_pos (by omega), if_pos hj]
        exact ⟨h1.1, fun ht => h1.2 (by omega)⟩
      · rw [if_neg hj] at h1
        rw [if_neg hj]
        refine ⟨?_, h1.2⟩
        by_cases hjk : j = k
        · subst hjk
          rw [hk] at hd
          cases hd
          rw [hu]
          simp
        · rw [if_neg (by omega)]
          exact h1.1
    | cons m us =>
      obtain ⟨_, h2, h3⟩ := up_some hc hu
      have hck := hr k c hk
      rw [if_neg (by omega)] at hck
      have htk : t < 13 := by
        have := hck.1
        rw [hu] at this
        simp at this
        omega
      refine ⟨h2.trans hE, fun j d' hd => ⟨?_, fun ht => by omega⟩⟩
      obtain ⟨d, h4, _, h6⟩ := h3 j d' hd
      rw [h6]
      have h1 := hr j d h4
      by_cases hjk : j = k
      · subst hjk
        rw [if_pos rfl, if_pos (by omega)]
        have := hck.1
        rw [hu] at this
        simp at this
        omega
      · rw [if_neg hjk]
        by_cases hj : j < k
        · rw [if_pos hj] at h1
          rw [if_pos (by omega)]
          exact h1.1
        · rw [if_neg hj] at h1
          rw [if_neg (by omega)]
          exact h1.1
  obtain ⟨hE1, hU⟩ := hU
  obtain ⟨c1, hc1⟩ := hpu.get (k := k) (by omega) (by
    have := h.len
    have := (List.getElem?_eq_some_iff.1 hk).1
    omega)
  have hk1 := cls_of hc1
  have fin : ∀ {Q : Par}, PLP n Q ins → sumN eC Q.cls = E → (∀ (j : Nat) d', Q.cls[j]? = some d' → d'.up.length ≤ (if j < k + 1 then 13 - (t + 1) else 13 - t) ∧ (13 ≤ t → d'.down.length ≤ if j < k + 1 then E + 14 - (t + 1) else E + 14 - t)) → RB E t (k + 1) Q := fun {Q} hq heq hb j d' hd => by
    obtain ⟨h1, h2⟩ := hb j d' hd
    have h3 := hq.down_few heq hd
    by_cases hj : j < k + 1
    · rw [if_pos hj] at h1 h2 ⊢
      refine ⟨h1, fun ht => ?_⟩
      by_cases h13 : 13 ≤ t
      · exact h2 h13
      · omega
    · rw [if_neg hj] at h1 h2 ⊢
      exact ⟨h1, h2⟩
  cases hd : c1.down with
  | nil =>
    rw [down_none hc1 hd]
    refine ⟨fin hpu hE1 (fun j d' hd' => ?_), hE1⟩
    obtain ⟨h1, h2⟩ := hU j d' hd'
    refine ⟨h1, fun ht => ?_⟩
    have h2 := h2 ht
    by_cases hj : j < k
    · rw [if_pos hj] at h2
      rw [if_pos (by omega)]
      exact h2
    · rw [if_neg hj] at h2
      by_cases hjk : j = k
      · subst hjk
        rw [hk1] at hd'
        cases hd'
        rw [hd]
        simp
      · rw [if_neg (by omega)]
        exact h2
  | cons m ds =>
    obtain ⟨_, h2, h3⟩ := down_some hc1 hd
    refine ⟨fin hpd (h2.trans hE1) (fun j d' hd' => ?_), h2.trans hE1⟩
    obtain ⟨d, h4, _, h6, h7⟩ := h3 j d' hd'
    obtain ⟨h8, h9⟩ := hU j d h4
    rw [h6, h7]
    refine ⟨h8, fun ht => ?_⟩
    have h9 := h9 ht
    by_cases hjk : j = k
    · subst hjk
      rw [if_pos rfl, if_pos (by omega)]
      rw [hk1] at h4
      cases h4
      rw [if_neg (by omega), hd] at h9
      simp at h9
      omega
    · rw [if_neg hjk]
      by_cases hj : j < k
      · rw [if_pos hj] at h9
        rw [if_pos (by omega)]
        exact h9
      · rw [if_neg hj] at h9
        rw [if_neg (by omega)]
        exact h9
/-- All have joined. -/
def AJ (k : Nat) (P : Par) : Prop := ∀ (j : Nat) c, P.cls[j]? = some c → j < k → c.joined = true
theorem AJ.join (h : AJ k P) (hc : P.cl k = some c) : AJ (k + 1) (joinP P k).2 := fun j d' hd hj => by
  obtain ⟨d, h1, h2⟩ := (join_all hc).2 j d' hd
  refine h2 ?_
  by_cases hjk : j = k
  · exact .inr hjk
  · exact .inl (h j d h1 (by omega))
theorem AJ.turn {m : Nat} (h : AJ m P) (hc : P.cl k = some c) (hc1 : ∃ c1, (upP P k).2.cl k = some c1) : AJ m (downP (upP P k).2 k).2 := by
  have h1 : AJ m (upP P k).2 := by
    cases hu : c.up with
    | nil => rw [up_none hc hu]; exact h
    | cons x us =>
      intro j d' hd hj
      obtain ⟨d, h4, h5, _⟩ := (up_some hc hu).2.2 j d' hd
      rw [h5]
      exact h j d h4 hj
  obtain ⟨c1, hc1⟩ := hc1
  cases hd : c1.down with
  | nil => rw [down_none hc1 hd]; exact h1
  | cons x ds =>
    intro j d' hd' hj
    obtain ⟨d, h4, h5, _⟩ := (down_some hc1 hd).2.2 j d' hd'
    rw [h5]
    exact h1 j d h4 hj
/-- A client that has joined, and to and from which nothing is on its way: it has all. -/
theorem PLP.rest (h : PLP n P ins) {k : Nat} {c : Cli} (hc : P.cl k = some c) (hj : c.joined = true) (hu : c.up = []) (hd : c.down = []) : c.n = P.ents.length ∧ c.pend = [] ∧ c.base = P.t := by
  have hs := h.sp.get hc
  obtain ⟨us, s, h1, h2, h3, h4, h5⟩ := hs.up hj
  rw [hu] at h1
  have ht : c.told = true := by
    cases h9 : c.told
    · rw [h9] at h1
      simp at h1
    · rfl
  have hus : us = [] := by
    rw [ht] at h1
    simpa using h1.symm
  have hn : c.n = P.ents.length := by
    have hn0 := hs.n0
    rcases hs.dn ht with h6 | ⟨m, _, _, h6⟩
    · rw [hd] at h6
      have h7 := congrArg List.length h6
      simp at h7
      omega
    · rw [hd] at h6
      cases h6
  have htake : P.ents.take c.n.toNat = P.ents := List.take_of_length_le (by omega)
  have ha : c.ans.length = (mine P.ents k).length := by rw [hs.aq, htake, ansOf_len]
  have hp : c.pend.length = 0 := by
    have h6 := hs.sq
    rw [hus] at h4
    simp at h4
    omega
  refine ⟨hn, List.eq_nil_of_length_eq_zero hp, ?_⟩
  rw [hs.bs, htake, h.sp.t]
end
end Go.Proofs.YtbicffldggcdhaaGreatDoor

namespace Go.Proofs.YtbicffldggcdhaaGreatDoor
open Go

section
variable {P : Program} {w : World} {ρ : Operand → Value} {d : Option Nat} {t : Nat} {p : String} {af : Array Edge} {g : Option (Nat × Bool)}
theorem r_mulK {ty ty2 : Nat} {x y : Operand} {a b : Int} (hx : ρ x = .int .i64 a) (hy : ρ y = .int .i64 b) (h1 : -9223372036854775808 ≤ a * b) (h2 : a * b ≤ 9223372036854775807) :
    (execOp ρ ⟨d, .binOp .mul ty x y ty2, t, p, af, g⟩).run P w = .ok (.value (.int .i64 (a * b))) w := by
  simp [execOp, hx, hy, eqGuard, binOp, Op.intArith, wrap_id h1 h2]
end
section
variable {PT : PTy} {w0 w w' : World} {col col' : Nat → Nat} {i j pp p : Nat} {n : Int} {P P' : Par} {ins : Nat → List Ed} {bs : List Int} {ea : List Addr}
set_option maxRecDepth 4000 in
set_option maxHeartbeats 4000000 in
theorem ksettle_ret (sp : TreeSpec PT) (cs : CloneSpec PT) (h : PLA PT w col j pp p n P ins bs) (hT : Top w0 w col) (hE : Errs w0 ea) {N : Nat} (hN : N ≤ 2199023255488) (hI : PInv N P) :
    Rets Tryz.prog 28 [Ptr pp, I N] w fun v w' => v = B true ∧ ∃ col' P', PLA PT w' col' j pp p n P' ins bs ∧ Top w0 w' col' ∧ Bd j w w' col col' ∧ P'.ents.length ≤ 884000000000 ∧ ∀ (m : Nat) c, P'.cls[m]? = some c → c.joined = true ∧ c.up = [] ∧ c.down = [] := by
  obtain ⟨E, hEq⟩ : ∃ E, sumN eC P.cls = E := ⟨_, rfl⟩
  have hE1 : E ≤ 880000000029 := by have := h.pl.eSum; have := hI.few2 (by omega); omega
  have hE2 : E ≤ N := by
    obtain ⟨De, S, _, h2⟩ := hI.paid
    omega
  have hn := h.pl.nn
  refine rets_of Tryz.func28 (by kernel_rfl) rfl Tryz.ntmps28 (Nat.le_of_ble_eq_true rfl) ?_
  refine runG13 ?_
  refine lp (fun env w' => ∃ env0, ∃ k : Nat, ∃ P' col', env = setL env0 [(0, Ptr pp), (1, I N), (5, I k)] ∧ (k : Int) ≤ n ∧ PLA PT w' col' j pp p n P' ins bs ∧ Top w0 w' col' ∧ Bd j w w' col col' ∧ AJ k P' ∧ sumN eC P'.cls = E) (fun env _ => n.toNat - cnt (env 5)) ?_ ?_
  · exact ⟨_, 0, P, col, fixL ⟨rfl, rfl, rfl, trivial⟩, by omega, h, hT, Bd.frm0 h.high (Frm.refl _ _), fun j c _ h => by omega, hEq⟩
  · rintro env w1 ⟨env0, k, P1, col1, rfl, hk, h1, T1, G1, ha1, he1⟩
    obtain ⟨ev1, iv1, hm1⟩ := h1.m
    have hh1 := hm1.head
    by_cases hkn : (k : Int) < n
    · obtain ⟨c, hc⟩ := h1.pl.get (k := k) (by omega) hkn
      have hB1 : P1.ents.length ≤ 885000000000 := by have := h1.pl.ok.taken_le; omega
      refine runG13 ?_
      refine s_callf (kpJoin sp h1.pty (T1.errs hE) hB1 k) rfl wnt_none ?_
      rintro v w2 ⟨_, hs⟩
      obtain ⟨col2, h2, B2⟩ := h1.step hs joinP_clients.2.1 (h1.pl.join k)
      refine runG13 ?_
      exact ⟨_, rfl, ⟨_, k + 1, _, col2, fixL ⟨rfl, rfl, rfl, trivial⟩, by omega, h2, T1.bd B2, G1.trans B2, ha1.join hc, (join_all hc).1.trans he1⟩, by show n.toNat - ((k : Int) + 1).toNat < n.toNat - (k : Int).toNat; omega⟩
    · have hkn' : k = n.toNat := by omega
      rw [hkn'] at ha1
      refine runG13 ?_
      refine lp (fun env w' => ∃ env0, ∃ t : Nat, ∃ P' col', env = setL env0 [(0, Ptr pp), (1, I N), (6, I t)] ∧ t ≤ E + 14 ∧ PLA PT w' col' j pp p n P' ins bs ∧ Top w0 w' col' ∧ Bd j w w' col col' ∧ AJ n.toNat P' ∧ sumN eC P'.cls = E ∧ RB E t 0 P') (fun env _ => E + 15 - cnt (env 6)) ?_ ?_
      · exact ⟨_, 0, P1, col1, fixL ⟨rfl, rfl, rfl, trivial⟩, by omega, h1, T1, G1, ha1, he1, h1.pl.rb0⟩
      · clear h1 T1 G1 ha1 he1 hm1 hh1
        rintro env w2 ⟨env2, t, P2, col2, rfl, ht, h2, T2, G2, ha2, he2, hr2⟩
        have hlt : (t : Int) < 200 + 10 * (N : Int) := by omega
        refine runG13 ?_
        refine s_val (r_mulK (a := 10) (b := N) rfl rfl (by omega) (by omega)) wnt_none ?_
        refine runG13 ?_
        refine lp (fun env w' => ∃ env0, ∃ k : Nat, ∃ qt P' col', env = setL env0 [(0, Ptr pp), (1, I N), (6, I t), (7, B qt), (8, I k)] ∧ (k : Int) ≤ n ∧ PLA PT w' col' j pp p n P' ins bs ∧ Top w0 w' col' ∧ Bd j w w' col col' ∧ AJ n.toNat P' ∧ sumN eC P'.cls = E ∧ RB E t k P' ∧ (qt = true → P' = P2 ∧ ∀ (m : Nat) c, P2.cls[m]? = some c → m < k → c.up = [] ∧ c.down = []) ∧ (t = E + 14 → qt = true)) (fun env _ => n.toNat - cnt (env 8)) ?_ ?_
        · exact ⟨_, 0, true, P2, col2, fixL ⟨rfl, rfl, rfl, rfl, rfl, trivial⟩, by omega, h2, T2, G2, ha2, he2, hr2, fun _ => ⟨rfl, fun m c _ h => by omega⟩, fun _ => rfl⟩
        · rintro env w3 ⟨env3, k, qt, P3, col3, rfl, hk3, h3, T3, G3, ha3, he3, hr3, hq1, hq2⟩
          obtain ⟨ev3, iv3, hm3⟩ := h3.m
          have hh3 := hm3.head
          by_cases hkn : (k : Int) < n
          · obtain ⟨c, hc⟩ := h3.pl.get (k := k) (by omega) hkn
            have hB3 : P3.ents.length ≤ 885000000000 := by have := h3.pl.ok.taken_le; omega
            have hP5 := h3.pl.up k
            have hB4 : (upP P3 k).2.ents.length ≤ 880000000030 := by
              have h9 := hP5.ok.taken_le
              have h8 : sumN eC (upP P3 k).2.cls = E := by
                cases hu : c.up with
                | nil => rw [up_none hc hu]; exact he3
                | cons m us => exact (up_some hc hu).2.1.trans he3
              omega
            refine runG13 ?_
            refine s_callf (kpServer sp cs h3.pty) rfl wnt_none ?_
            rintro v w4 ⟨ta, rfl, _, _, f4⟩
            have hk4 := h3.pty.frm0 sp f4
            have hm4 := hm3.frm0 f4
            have hh4 := hm4.head
            have T4 := T3.frm0 f4
            have G4 := G3.trans (Bd.frm0 h3.high f4)
            clear hh3
            refine runG13 ?_
            refine s_callf (kpUp sp cs hk4 (T4.errs hE) (T4.lo hE) hB3 k) rfl wnt_none ?_
            rintro v1 w4b ⟨hv, col4, hk4b, x4, f4b⟩
            have hv1 : (c.up = [] ∧ ∃ b, v1 = .iface 95 (Ptr b)) ∨ (c.up ≠ [] ∧ v1 = .nilIface) := by
              cases hu : c.up with
              | nil =>
                rw [up_none hc hu] at hv
                exact .inl ⟨rfl, errIsS hv.1 (by show (9 : Nat) ≠ 0; decide)⟩
              | cons m us =>
                rw [(up_some hc hu).1] at hv
                exact .inr ⟨by simp, errIs0 hv.1⟩
            clear hv
            have hm4b := hm4.other f4b (fun b h7 h8 h9 => by omega) x4.old
            have B4 := Bd.ofQ x4 f4b (.inl rfl)
            have hh4b := hm4b.head
            have T4b := T4.bd B4
            have G4b := G4.trans B4
            clear hh4
            refine s_val (r_assign (v := v1) rfl) wnt_none ?_
            refine runG13 ?_
            refine s_callf (kpServer sp cs hk4b) rfl wnt_none ?_
            rintro v w5 ⟨tb, rfl, _, _, f5⟩
            have hk5 := hk4b.frm0 sp f5
            have hm5 := hm4b.frm0 f5
            have hh5 := hm5.head
            have T5' := T4b.frm0 f5
            have G5' := G4b.trans (Bd.frm0 x4.high f5)
            clear hh4b
            rcases (upP_clients (P := P3) (i := k)).2.1 with he | ⟨y, _, he⟩
            · have hl2 : ((upP P3 k).2.ents.length : Int) = P3.ents.length := by rw [he]
              rw [hl2]
              have h5 : PLA PT w5 col4 j pp p n (upP P3 k).2 ins bs := ⟨⟨_, _, by rw [he]; exact hm5⟩, hk5, hP5⟩
              have T5 := T5'
              have G5 := G5'
              clear T5' G5'
              refine runG13 ?_
              refine s_val (r_eqp rfl) wnt_none ?_
              refine runG13 ?_
              refine s_val (r_eqp rfl) (by (first | (with_reducible exact wnt_none) | ((with_reducible apply wnt_y); exact rfl; exact rfl; exact rfl; exact rfl; (with_reducible exact rfl)))) ?_
              obtain ⟨c1, hc1⟩ := h5.pl.get (k := k) (by omega) hkn
              have hB5 : (upP P3 k).2.ents.length ≤ 885000000000 := by have := h5.pl.ok.taken_le; omega
              refine runG13 ?_
              refine s_callf (kpDown sp h5.pty (T5.errs hE) (T5.lo hE) hB5 k) rfl wnt_none ?_
              rintro v2 w6 ⟨hv2, hs6⟩
              obtain ⟨col6, h6, B6⟩ := h5.step hs6 downP_clients.2.1 (h5.pl.down k)
              have T6 := T5.bd B6
              have G6 := G5.trans B6
              have hv2' : (c1.down = [] ∧ ∃ b, v2 = .iface 95 (Ptr b)) ∨ (c1.down ≠ [] ∧ v2 = .nilIface) := by
                cases hd : c1.down with
                | nil =>
                  rw [down_none hc1 hd] at hv2
                  exact .inl ⟨rfl, errIsS hv2.1 (by show (9 : Nat) ≠ 0; decide)⟩
                | cons m ds =>
                  rw [(down_some hc1 hd).1] at hv2
                  exact .inr ⟨by simp, errIs0 hv2.1⟩
              obtain ⟨hr6, he6⟩ := h3.pl.turn he3 hr3 hc
              have ha6 := ha3.turn hc ⟨c1, hc1⟩
              refine s_val (r_assign (v := v2) rfl) wnt_none ?_
              have hmeas : n.toNat - ((k : Int) + 1).toNat < n.toNat - (k : Int).toNat := by omega
              cases qt with
              | false =>
                refine runG13 ?_
                exact ⟨_, rfl, ⟨_, k + 1, false, _, col6, fixL ⟨rfl, rfl, rfl, rfl, rfl, trivial⟩, by omega, h6, T6, G6, ha6, he6, hr6, fun h => (by cases h), hq2⟩, hmeas⟩
              | true =>
                rcases hv1 with ⟨hu, b1, rfl⟩ | ⟨hu, rfl⟩
                · rcases hv2' with ⟨hd, b2, rfl⟩ | ⟨hd, rfl⟩
                  · refine runG13 ?_
                    refine s_val (r_nnT rfl) (by (first | (with_reducible exact wnt_none) | ((with_reducible apply wnt_y); exact rfl; exact rfl; exact rfl; exact rfl; (with_reducible exact rfl)))) ?_
                    refine runG13 ?_
                    refine s_val (r_nnT rfl) (by (first | (with_reducible exact wnt_none) | ((with_reducible apply wnt_y); exact rfl; exact rfl; exact rfl; exact rfl; (with_reducible exact rfl)))) ?_
                    refine runG13 ?_
                    refine ⟨_, rfl, ⟨_, k + 1, true, _, col6, fixL ⟨rfl, rfl, rfl, rfl, rfl, trivial⟩, by omega, h6, T6, G6, ha6, he6, hr6, fun _ => ?_, fun _ => rfl⟩, hmeas⟩
                    have hu0 := up_none hc hu
                    rw [hu0] at hc1
                    have hcc : c1 = c := Option.some.inj (hc1.symm.trans hc)
                    obtain ⟨e1, e2⟩ := hq1 rfl
                    have hd0 := down_none hc (hcc ▸ hd)
                    rw [hu0, hd0]
                    refine ⟨e1, fun m d hm hmk => ?_⟩
                    by_cases hmm : m = k
                    · subst hmm
                      rw [← e1, cls_of hc] at hm
                      cases hm
                      exact ⟨hu, hcc ▸ hd⟩
                    · exact e2 m d hm (by omega)
                  · refine runG13 ?_
                    refine s_val (r_nnT rfl) (by (first | (with_reducible exact wnt_none) | ((with_reducible apply wnt_y); exact rfl; exact rfl; exact rfl; exact rfl; (with_reducible exact rfl)))) ?_
                    refine runG13 ?_
                    refine s_val (r_nnF rfl) (by (first | (with_reducible exact wnt_none) | ((with_reducible apply wnt_y); exact rfl; exact rfl; exact rfl; exact rfl; (with_reducible exact rfl)))) ?_
                    refine runG13 ?_
                    refine ⟨_, rfl, ⟨_, k + 1, false, _, col6, fixL ⟨rfl, rfl, rfl, rfl, rfl, trivial⟩, by omega, h6, T6, G6, ha6, he6, hr6, fun h => (by cases h), fun ht => ?_⟩, hmeas⟩
                    exfalso
                    have hu0 := up_none hc hu
                    rw [hu0] at hc1
                    have hcc : c1 = c := Option.some.inj (hc1.symm.trans hc)
                    have := (hr3 k c (cls_of hc))
                    rw [if_neg (by omega)] at this
                    have h9 := this.2 (by omega)
                    exact hd (List.eq_nil_of_length_eq_zero (by rw [hcc]; omega))
                · refine runG13 ?_
                  refine s_val (r_nnF rfl) (by (first | (with_reducible exact wnt_none) | ((with_reducible apply wnt_y); exact rfl; exact rfl; exact rfl; exact rfl; (with_reducible exact rfl)))) ?_
                  refine runG13 ?_
                  refine ⟨_, rfl, ⟨_, k + 1, false, _, col6, fixL ⟨rfl, rfl, rfl, rfl, rfl, trivial⟩, by omega, h6, T6, G6, ha6, he6, hr6, fun h => (by cases h), fun ht => ?_⟩, hmeas⟩
                  exfalso
                  have := (hr3 k c (cls_of hc))
                  rw [if_neg (by omega)] at this
                  exact hu (List.eq_nil_of_length_eq_zero (by have := this.1; omega))
            · have hl2 : ((upP P3 k).2.ents.length : Int) = P3.ents.length + 1 := by rw [he]; simp
              rw [hl2]
              obtain ⟨l, hlog⟩ := log_last hP5.lg.1 he
              have hll : l.length ≤ 8 := by
                have h1 := log_len (upP P3 k).2 (by have := hP5.lg.1; omega)
                rw [hlog, List.length_append, List.length_cons, List.length_nil] at h1
                have := hP5.lg
                split at h1 <;> omega
              obtain ⟨xa, xc, rfl⟩ := hm5.ent.isSl
              refine runG13 ?_
              refine s_val (r_eqp rfl) wnt_none ?_
              refine runG13 ?_
              refine s_val (r_eqp rfl) (by (first | (with_reducible exact wnt_none) | ((with_reducible apply wnt_y); exact rfl; exact rfl; exact rfl; exact rfl; (with_reducible exact rfl)))) ?_
              refine runG13 ?_
              refine s_callf (kpLog hk5 (by omega)) rfl wnt_none ?_
              rintro v w6 ⟨r6, n6, f6⟩
              rw [hlog] at r6
              rcases r6 with ⟨_, h9, _⟩ | ⟨lb, lcap, lrest, rfl, hA6, hlen, hcap, hle⟩
              · rw [List.length_append] at h9
                exact absurd h9 (by simp)
              · have hlb := n6 lb ⟨_, _, _, rfl⟩
                have hl3 : (l ++ [y]).length = l.length + 1 := by simp
                rw [hl3] at hlen hcap hle ⊢
                have hk6 := hk5.frm0 sp f6
                have hm6 := hm5.frm0 f6
                have hh6 := hm6.head
                have hne : ¬ InV (.slice xa P3.ents.length xc) lb := fun h9 => by have := hm5.ent.lt h9; omega
                have hnp : ¬ InV (.slice xa P3.ents.length xc) pp := fun h9 => by have := hm6.ec pp h9; have := hm6.own; omega
                clear hh5
                have hlenY : 0 + (((l.length + 1 : Nat) : Int) - 1).toNat * 9 + 9 ≤ (fl Ent.vals (l ++ [y]) ++ lrest).length := by
                  rw [List.length_append, hlen]
                  omega
                have hsubY : sub (fl Ent.vals (l ++ [y]) ++ lrest) (0 + (((l.length + 1 : Nat) : Int) - 1).toNat * 9) 9 = y.vals := fl_subK (f := Ent.vals) (k := 9) (fun _ => rfl) (show (l ++ [y])[l.length]? = some y by simp) lrest (by omega)
                have hcl : P3.ents.length < 890000000000 := by omega
                refine runG13 ?_
                refine w_drawn ((0, false) :: (1, false) :: (2, false) :: (3, false) :: (4, false) :: (5, false) :: (6, false) :: (7, false) :: (8, false) :: (9, false) :: (10, false) :: (11, true) :: (12, true) :: (13, false) :: (14, false) :: []) [15] (fun wq => Frm (InV (.slice xa P3.ents.length xc)) w6 wq) mixed (by kernel_rfl) ?_ ?_
                · exact Frm.of_drew _
                · refine runG13 ?_
                  refine x_q rfl (fun wq hq => r_loadV (vs := y.vals) (u_ok rfl) rfl (s_ok rfl) rfl (hq.at hne hA6) hlenY hsubY) wnt_none ?_
                  refine x_val rfl (r_bs rfl (bs_entry y _)) wnt_none ((Frm.of_drew w6).alloc _) ?_
                  have hFa : Frm0 w6 (w6.drew.alloc (cel y.vals 54)) := (Frm.of_drew w6).alloc _
                  obtain ⟨v7, w7, e7, r7, f7, n7⟩ := append_entB (ty := 46) (q := y) (hm6.ent.frm hFa (fun _ _ h => h)) (seg_new rfl) hcl
                  have f7' : Frm (InV (.slice xa P3.ents.length xc)) w6 w7 := (hFa.mono (fun _ h => h.elim)).trans f7 (fun b hb => .inl hb)
                  have n7' : ∀ b, InV v7 b → InV (.slice xa P3.ents.length xc) b ∨ w6.heap.size ≤ b := fun b hb => (n7 b hb).imp id (fun h => Nat.le_trans hFa.size h)
                  refine x_val rfl (r_app rfl rfl e7) wnt_none f7' ?_
                  have hh7 := f7'.at hnp hh6
                  obtain ⟨h8, g8, f8⟩ := hm6.ents hk6.high f7' r7 n7'
                  obtain ⟨ya, yc, rfl⟩ := r7.isSl
                  refine runG13 ?_
                  refine y_skip rfl (r_store_s (s_ok rfl) rfl rfl hh7 (by simp)) wnt_none ?_
                  have h5 : PLA PT _ _ j pp p n (upP P3 k).2 ins bs := ⟨⟨_, _, by rw [he]; exact h8⟩, hk6.other sp f8 (fun b h7 h8 h9 => by omega) g8.old g8.high, hP5⟩
                  have hh8 := h8.head
                  have T5 := (T5'.frm0 f6).bd g8
                  have G5 := (G5'.trans (Bd.frm0 hk5.high f6)).trans g8
                  clear hh7 h8 f8 g8 T5' G5'
                  rw [show (Ptr p :: I n :: Value.slice xa P3.ents.length xc :: (iv3 ++ bs.map I)).set (0 + 2) (.slice ya (P3.ents ++ [y]).length yc) = Ptr p :: I n :: .slice ya (P3.ents ++ [y]).length yc :: (iv3 ++ bs.map I) from rfl]
                  obtain ⟨c1, hc1⟩ := h5.pl.get (k := k) (by omega) hkn
                  have hB5 : (upP P3 k).2.ents.length ≤ 885000000000 := by have := h5.pl.ok.taken_le; omega
                  refine runG13 ?_
                  refine s_callf (kpDown sp h5.pty (T5.errs hE) (T5.lo hE) hB5 k) rfl wnt_none ?_
                  rintro v2 w6 ⟨hv2, hs6⟩
                  obtain ⟨col6, h6, B6⟩ := h5.step hs6 downP_clients.2.1 (h5.pl.down k)
                  have T6 := T5.bd B6
                  have G6 := G5.trans B6
                  have hv2' : (c1.down = [] ∧ ∃ b, v2 = .iface 95 (Ptr b)) ∨ (c1.down ≠ [] ∧ v2 = .nilIface) := by
                    cases hd : c1.down with
                    | nil =>
                      rw [down_none hc1 hd] at hv2
                      exact .inl ⟨rfl, errIsS hv2.1 (by show (9 : Nat) ≠ 0; decide)⟩
                    | cons m ds =>
                      rw [(down_some hc1 hd).1] at hv2
                      exact .inr ⟨by simp, errIs0 hv2.1⟩
                  obtain ⟨hr6, he6⟩ := h3.pl.turn he3 hr3 hc
                  have ha6 := ha3.turn hc ⟨c1, hc1⟩
                  refine s_val (r_assign (v := v2) rfl) wnt_none ?_
                  have hmeas : n.toNat - ((k : Int) + 1).toNat < n.toNat - (k : Int).toNat := by omega
                  cases qt with
                  | false =>
                    refine runG13 ?_
                    exact ⟨_, rfl, ⟨_, k + 1, false, _, col6, fixL ⟨rfl, rfl, rfl, rfl, rfl, trivial⟩, by omega, h6, T6, G6, ha6, he6, hr6, fun h => (by cases h), hq2⟩, hmeas⟩
                  | true =>
                    rcases hv1 with ⟨hu, b1, rfl⟩ | ⟨hu, rfl⟩
                    · rcases hv2' with ⟨hd, b2, rfl⟩ | ⟨hd, rfl⟩
                      · refine runG13 ?_
                        refine s_val (r_nnT rfl) (by (first | (with_reducible exact wnt_none) | ((with_reducible apply wnt_y); exact rfl; exact rfl; exact rfl; exact rfl; (with_reducible exact rfl)))) ?_
                        refine runG13 ?_
                        refine s_val (r_nnT rfl) (by (first | (with_reducible exact wnt_none) | ((with_reducible apply wnt_y); exact rfl; exact rfl; exact rfl; exact rfl; (with_reducible exact rfl)))) ?_
                        refine runG13 ?_
                        refine ⟨_, rfl, ⟨_, k + 1, true, _, col6, fixL ⟨rfl, rfl, rfl, rfl, rfl, trivial⟩, by omega, h6, T6, G6, ha6, he6, hr6, fun _ => ?_, fun _ => rfl⟩, hmeas⟩
                        have hu0 := up_none hc hu
                        rw [hu0] at hc1
                        have hcc : c1 = c := Option.some.inj (hc1.symm.trans hc)
                        obtain ⟨e1, e2⟩ := hq1 rfl
                        have hd0 := down_none hc (hcc ▸ hd)
                        rw [hu0, hd0]
                        refine ⟨e1, fun m d hm hmk => ?_⟩
                        by_cases hmm : m = k
                        · subst hmm
                          rw [← e1, cls_of hc] at hm
                          cases hm
                          exact ⟨hu, hcc ▸ hd⟩
                        · exact e2 m d hm (by omega)
                      · refine runG13 ?_
                        refine s_val (r_nnT rfl) (by (first | (with_reducible exact wnt_none) | ((with_reducible apply wnt_y); exact rfl; exact rfl; exact rfl; exact rfl; (with_reducible exact rfl)))) ?_
                        refine runG13 ?_
                        refine s_val (r_nnF rfl) (by (first | (with_reducible exact wnt_none) | ((with_reducible apply wnt_y); exact rfl; exact rfl; exact rfl; exact rfl; (with_reducible exact rfl)))) ?_
                        refine runG13 ?_
                        refine ⟨_, rfl, ⟨_, k + 1, false, _, col6, fixL ⟨rfl, rfl, rfl, rfl, rfl, trivial⟩, by omega, h6, T6, G6, ha6, he6, hr6, fun h => (by cases h), fun ht => ?_⟩, hmeas⟩
                        exfalso
                        have hu0 := up_none hc hu
                        rw [hu0] at hc1
                        have hcc : c1 = c := Option.some.inj (hc1.symm.trans hc)
                        have := (hr3 k c (cls_of hc))
                        rw [if_neg (by omega)] at this
                        have h9 := this.2 (by omega)
                        exact hd (List.eq_nil_of_length_eq_zero (by rw [hcc]; omega))
                    · refine runG13 ?_
                      refine s_val (r_nnF rfl) (by (first | (with_reducible exact wnt_none) | ((with_reducible apply wnt_y); exact rfl; exact rfl; exact rfl; exact rfl; (with_reducible exact rfl)))) ?_
                      refine runG13 ?_
                      refine ⟨_, rfl, ⟨_, k + 1, false, _, col6, fixL ⟨rfl, rfl, rfl, rfl, rfl, trivial⟩, by omega, h6, T6, G6, ha6, he6, hr6, fun h => (by cases h), fun ht => ?_⟩, hmeas⟩
                      exfalso
                      have := (hr3 k c (cls_of hc))
                      rw [if_neg (by omega)] at this
                      exact hu (List.eq_nil_of_length_eq_zero (by have := this.1; omega))
          · have hkn' : k = n.toNat := by omega
            have hall : ∀ (m : Nat) c, P3.cls[m]? = some c → m < k := fun m c hm => by
              have h9 := (List.getElem?_eq_some_iff.1 hm).1
              have h8 := h3.pl.len
              omega
            cases qt with
            | true =>
              obtain ⟨e1, e2⟩ := hq1 rfl
              refine runG13 ?_
              refine ret_b rfl rfl ⟨rfl, col3, P3, h3, T3, G3, ?_, fun m c hm => ⟨ha3 m c hm (by rw [← hkn']; exact hall m c hm), e2 m c (by rw [← e1]; exact hm) (hall m c hm)⟩⟩
              have := h3.pl.ok.taken_le
              omega
            | false =>
              have hne : t ≠ E + 14 := fun h9 => by have := hq2 h9; cases this
              refine runG13 ?_
              exact ⟨_, rfl, ⟨_, t + 1, P3, col3, fixL ⟨rfl, rfl, rfl, trivial⟩, by omega, h3, T3, G3, ha3, he3, hr3.next hall⟩, by show E + 15 - ((t : Int) + 1).toNat < E + 15 - (t : Int).toNat; omega⟩
end
end Go.Proofs.YtbicffldggcdhaaGreatDoor

namespace Go.Proofs.YtbicffldggcdhaaGreatDoor
open Go

section
variable {w : World} {n : Nat} {env : Env} {d : Option Nat} {t ty2 : Nat} {p : String} {af : Array Edge} {g : Option (Nat × Bool)} {x : Operand}
theorem r_eqpL {a : Addr} (hx : ev n env x = .pointer (some a)) : (execOp (ev n env) ⟨d, .binOp .eql 41 x (.const (.pointer none)) ty2, t, p, af, g⟩).run Tryz.prog w = .ok (.value (.bool false)) w :=
  r_eq2 hx (show ev n env (.const (.pointer none)) = .pointer none from rfl) rfl (by kernel_rfl)
end
theorem pinv_play {n l : Int} (hn : 1 ≤ n ∧ n ≤ 4) (hl : 1 ≤ l ∧ l ≤ 8) : PInv 0 ⟨n, l, [root0], [], List.replicate n.toNat cli0⟩ :=
  pinv_new (c := n) (l := l) (by rw [newP, if_neg (by omega)])
end Go.Proofs.YtbicffldggcdhaaGreatDoor

namespace Go.Proofs.YtbicffldggcdhaaGreatDoor
open Go

theorem ksame_self {PT : PTy} (sp : TreeSpec PT) {w : World} {a c : Nat} {l : List Nd} {S T : Nat → Prop} (hA : PT w a l S) (hC : PT w c l T) (hl : Wf l) :
    Rets Tryz.prog 20 [Ptr a, Ptr c] w fun v w' => v = B true ∧ Frm0 w w' :=
  (ksame_ret sp hA hC hl hl).mono (fun v w' ⟨⟨b, h1, h2⟩, h3⟩ => ⟨by rw [h1, h2 ⟨rfl, fun _ _ => rfl⟩], h3⟩)
end Go.Proofs.YtbicffldggcdhaaGreatDoor

namespace Go.Proofs.YtbicffldggcdhaaGreatDoor
open Go

set_option maxRecDepth 4000 in
set_option maxHeartbeats 2000000 in
theorem Converged_ret {PT : PTy} (sp : TreeSpec PT) (cs : CloneSpec PT) {w : World} {v0 : Value} {evs : List Evt} {ea : List Addr} {c l : Int} (hc : Int64 c) (hl : Int64 l) (hU : VScr w v0 evs) (hR : ∀ e ∈ evs, EvRaw e) (hul : evs.length ≤ 2199023255488) (hE : Errs w ea) :
    Rets Tryz.prog 10 [I c, I l, v0] w fun v w' => v = B true ∧ Frm0 w w' := by
  obtain ⟨ua, uc, rfl⟩ := hU.isSl
  have hn4 := kpickF_lt (c := c) (n := 4) (by omega)
  have hl8 := kpickF_lt (c := l) (n := 8) (by omega)
  refine rets_of Tryz.func10 (by kernel_rfl) rfl Tryz.ntmps10 (Nat.le_of_ble_eq_true rfl) ?_
  refine runG13 ?_
  refine s_callf (kplay_ret sp cs (col := fun _ => 0) (fun _ _ => rfl) hE hc hl 0) rfl wnt_none ?_
  rintro v w1 ⟨pp, p, col1, rfl, h1, B1, f1⟩
  have T1 : Top w w1 col1 := ⟨f1, fun b hb => B1.old b hb⟩
  have I1 := pinv_play (n := 1 + kpickF c 4) (l := 1 + kpickF l 8) (by omega) (by omega)
  clear B1
  generalize (Par.mk (1 + kpickF c 4) (1 + kpickF l 8) [root0] [] (List.replicate (1 + kpickF c 4).toNat cli0)) = P1 at *
  generalize 1 + kpickF c 4 = n at *
  refine runG13 ?_
  refine s_val (r_eqpL rfl) wnt_none ?_
  refine runG13 ?_
  refine lp (fun env w' => ∃ env0, ∃ i : Nat, ∃ P ins col, env = setL env0 [(2, .slice ua evs.length uc), (7, Ptr pp), (8, I i)] ∧ i ≤ evs.length ∧ PInv i P ∧ PLA PT w' col 0 pp p n P ins [0, 0, 0, 0] ∧ Top w w' col) (fun env _ => evs.length - cnt (env 8)) ?_ ?_
  · exact ⟨_, 0, _, _, col1, fixL ⟨rfl, rfl, rfl, trivial⟩, Nat.zero_le _, I1, h1, T1⟩
  · rintro env w2 ⟨env0, i, P, ins, col2, rfl, hi, hI, h2, T2⟩
    have hB : P.ents.length ≤ 884000000000 := by have := hI.few2 (by omega); omega
    by_cases hil : i < evs.length
    · rcases hU with ⟨⟨_, _, hv⟩, h0⟩ | ⟨sb, so, sc, X, tx, kk, hv, hA0, hX⟩
      · rw [h0] at hil
        exact absurd hil (by simp)
      · obtain ⟨x, hx⟩ : ∃ x, evs[i]? = some x := ⟨evs[i], List.getElem?_eq_getElem hil⟩
        obtain ⟨hx1, hx2, hx3⟩ := hX i x hx
        have hraw := hR x (List.mem_of_getElem? hx)
        have hA := T2.frm.at0 hA0
        cases hv
        have hx1' : so + (i : Int).toNat * 8 + 8 ≤ X.length := by rw [show (i : Int).toNat = i by omega]; exact hx1
        have hx2' : sub X (so + (i : Int).toNat * 8) 8 = x.vals := by rw [show (i : Int).toNat = i by omega]; exact hx2
        refine runG13 ?_
        refine s_val (r_loadV (u_ok rfl) rfl (s_ok rfl) rfl hA hx1' hx2') wnt_none ?_
        refine s_callf (khap_ret sp cs h2 T2 hE hB hraw) rfl wnt_none ?_
        rintro v w3 ⟨rfl, col3, h3, B3⟩
        refine runG13 ?_
        exact ⟨_, rfl, ⟨_, i + 1, _, _, col3, fixL ⟨rfl, rfl, rfl, trivial⟩, by omega, hI.hap x, h3, T2.bd B3⟩, by show evs.length - ((i : Int) + 1).toNat < evs.length - (i : Int).toNat; omega⟩
    · have hie : i = evs.length := by omega
      subst hie
      refine runG13 ?_
      refine s_callf (ksettle_ret sp cs h2 T2 hE hul hI) rfl wnt_none ?_
      rintro v w3 ⟨rfl, col3, P3, h3, T3, _, hB3, hall⟩
      obtain ⟨ev3, iv3, hm3⟩ := h3.m
      have hh3 := hm3.head
      refine runG13 ?_
      refine s_callf (kpServer sp cs h3.pty) rfl wnt_none ?_
      rintro v w4 ⟨t, rfl, hT4, hWf, f4⟩
      have h4 := h3.frm0 sp f4
      have T4 := T3.frm0 f4
      clear hm3 hh3
      refine runG13 ?_
      refine lp (fun env w' => ∃ env0, ∃ k : Nat, env = setL env0 [(7, Ptr pp), (11, Ptr t), (12, I P3.ents.length), (13, I k)] ∧ (k : Int) ≤ n ∧ Frm0 w4 w') (fun env _ => n.toNat - cnt (env 13)) ?_ ?_
      · exact ⟨_, 0, fixL ⟨rfl, rfl, rfl, rfl, trivial⟩, by have := h4.pl.nn; omega, Frm.refl _ _⟩
      · rintro env w5 ⟨env1, k, rfl, hk, f5⟩
        have h5 := h4.frm0 sp f5
        have T5 := T4.frm0 f5
        obtain ⟨ev5, iv5, hm5⟩ := h5.m
        have hh5 := hm5.head
        have hn := h5.pl.nn
        by_cases hkn : (k : Int) < n
        · obtain ⟨d, hd⟩ := h5.pl.get (k := k) (by omega) hkn
          obtain ⟨hj, hu, hdn⟩ := hall k d (cls_of hd)
          obtain ⟨e1, e2, e3⟩ := h5.pl.rest hd hj hu hdn
          have e4 : viewC d = P3.t := by rw [viewC, e2, e3]; rfl
          refine runG13 ?_
          refine s_callf (kpBase sp cs h5.pty (T5.errs hE) hd) rfl wnt_none ?_
          rintro v w6 ⟨tb, rfl, hT6, hW6, f6⟩
          have h6 := h5.frm0 sp f6
          have T6 := T5.frm0 f6
          have hh6 := f6.at0 hh5
          rw [e3] at hT6 hW6
          rw [e1]
          refine runG13 ?_
          refine s_callf (kpView sp cs h6.pty (T6.errs hE) (by omega) hd) rfl wnt_none ?_
          rintro v w7 ⟨tv, rfl, hT7, hW7, f7⟩
          have h7 := h6.frm0 sp f7
          have T7 := T6.frm0 f7
          have hh7 := f7.at0 hh6
          rw [e4] at hT7 hW7
          refine runG13 ?_
          refine s_callf (kpPending sp h7.pty (T7.errs hE) (by omega) hd) rfl wnt_none ?_
          rintro v w8 ⟨ll, rfl, r8, n8, f8⟩
          have hml : (d.pend.map (·.2)).length = 0 := by rw [e2]; rfl
          obtain ⟨la, lc, rfl⟩ := r8.isSl
          rw [hml]
          have F8 : Frm0 w4 w8 := ((f5.trans0 f6).trans0 f7).trans0 f8
          have hT8 := sp.frm hT4 F8 (fun _ _ h => h)
          have hTb8 := sp.frm hT6 (f7.trans0 f8) (fun _ _ h => h)
          have hTv8 := sp.frm hT7 f8 (fun _ _ h => h)
          have h8 := h7.frm0 sp f8
          have T8 := T7.frm0 f8
          refine runG13 ?_
          refine s_callf (ksame_self sp hTb8 hT8 hWf) rfl wnt_none ?_
          rintro v w9 ⟨rfl, f9⟩
          refine runG13 ?_
          refine s_callf (ksame_self sp (sp.frm hTv8 f9 (fun _ _ h => h)) (sp.frm hT8 f9 (fun _ _ h => h)) hWf) rfl wnt_none ?_
          rintro v wa ⟨rfl, fa⟩
          have f8a := f9.trans0 fa
          refine runG13 ?_
          refine s_callf (kanswered_ret sp (h8.frm0 sp f8a) (T8.frm0 f8a) hE hB3 hkn) rfl wnt_none ?_
          rintro v wb ⟨rfl, fb⟩
          refine runG13 ?_
          refine s_val (r_nnF rfl) wnt_none ?_
          refine runG13 ?_
          refine s_val (r_nnF rfl) (by (first | (with_reducible exact wnt_none) | ((with_reducible apply wnt_y); exact rfl; exact rfl; exact rfl; exact rfl; (with_reducible exact rfl)))) ?_
          refine runG13 ?_
          refine s_val (r_nnF rfl) (by (first | (with_reducible exact wnt_none) | ((with_reducible apply wnt_y); exact rfl; exact rfl; exact rfl; exact rfl; (with_reducible exact rfl)))) ?_
          refine runG13 ?_
          exact ⟨_, rfl, ⟨_, k + 1, fixL ⟨rfl, rfl, rfl, rfl, trivial⟩, by omega, (F8.trans0 f8a).trans0 fb⟩, by show n.toNat - ((k : Int) + 1).toNat < n.toNat - (k : Int).toNat; omega⟩
        · refine runG13 ?_
          exact ret_b rfl rfl ⟨rfl, T5.frm⟩
end Go.Proofs.YtbicffldggcdhaaGreatDoor
