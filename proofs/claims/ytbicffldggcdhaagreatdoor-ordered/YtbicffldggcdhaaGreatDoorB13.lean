/-
  WK8; WK9; WK10; WK11; WK15a; LKeep4; WK15.
-/
import Derived.Test.YtbicffldggcdhaaGreatDoorB12
import Derived.Test.YtbicffldggcdhaaGreatDoorB08
namespace Go.Proofs.YtbicffldggcdhaaGreatDoor
open Go
theorem runG13 {G K : Prop} (k : K) (h : Wrap K → G := by intro h; (repeat (first | (with_reducible first | refine wpIn_seq ?_ | refine w_reg ?_ | refine s_nil ?_ | refine s_nilQ ?_ | refine wpIn_block ?_ | refine q_then ?_ | refine q_blk ?_ | refine q_then_ret ?_ | refine q_blk_ret ?_ | refine q_then_exit ?_ | refine q_blk_exit ?_ | refine wpIn_skip ?_ | refine wpIn_ret ?_ | refine wpIn_exit ?_ | refine y_nil ?_ | refine y_nilQ ?_ | refine x_late ?_) | ((with_reducible refine q_blk_other ?_ ?_); exact rfl) | ((with_reducible apply c_true); exact rfl; (with_reducible exact rfl)) | ((with_reducible apply c_false); exact rfl; (with_reducible exact rfl)) | ((with_reducible apply s_no); (first | ((with_reducible apply wnt_nt); exact rfl; exact rfl; exact rfl; exact rfl; (with_reducible exact rfl)) | ((with_reducible apply wnt_nf); exact rfl; exact rfl; exact rfl; exact rfl; (with_reducible exact rfl)))) | ((with_reducible apply x_qno); exact rfl; (first | ((with_reducible apply wnt_nt); exact rfl; exact rfl; exact rfl; exact rfl; (with_reducible exact rfl)) | ((with_reducible apply wnt_nf); exact rfl; exact rfl; exact rfl; exact rfl; (with_reducible exact rfl)))) | ((first | with_reducible apply s_val | ((with_reducible apply y_val); exact rfl) | ((with_reducible apply x_q); exact rfl; intro wq hq)); (first | ((with_reducible apply r_boxA); exact rfl) | ((with_reducible apply r_box1); exact rfl; exact rfl) | ((with_reducible apply r_assign_b); exact rfl) | ((with_reducible apply r_fld); exact fa_ok rfl; exact rfl) | ((with_reducible apply r_load); exact u_ok rfl; exact rfl; exact rfl; (first | exact Frm.at0 hq (by assumption) | exact Frm.at hq (by assumption) (by assumption) | (first | (with_reducible assumption) | assumption | exact at_alloc_new _ _ | (repeat (first | assumption | exact at_alloc_new _ _ | refine at_drew ?_ | refine at_alloc _ ?_)))); exact rfl) | ((with_reducible apply r_move_p); exact rfl) | ((with_reducible apply r_nilCheck); exact rfl) | ((with_reducible apply r_assign_i); exact rfl) | ((with_reducible apply r_lss_t); exact rfl; exact rfl; omega) | ((with_reducible apply r_lss_f); exact rfl; exact rfl; omega) | ((with_reducible apply r_lss); exact rfl; exact rfl) | ((with_reducible apply r_loadA); exact u_ok rfl; exact rfl; exact s_ok rfl; exact rfl; (first | exact Frm.at0 hq (by assumption) | exact Frm.at hq (by assumption) (by assumption) | (first | (with_reducible assumption) | assumption | exact at_alloc_new _ _ | (repeat (first | assumption | exact at_alloc_new _ _ | refine at_drew ?_ | refine at_alloc _ ?_)))); exact Nat.le_of_ble_eq_true rfl) | ((with_reducible apply r_allocA); exact z_ok rfl) | ((with_reducible apply r_alloc1); exact z_ok rfl; exact rfl) | ((with_reducible apply r_move_i); exact rfl) | ((with_reducible apply r_move_t); exact rfl) | ((with_reducible apply r_extract); exact rfl; exact rfl) | ((with_reducible apply r_assign_s); exact rfl) | ((with_reducible apply r_assign_if); exact rfl) | ((with_reducible apply r_assign_ni); exact rfl) | ((with_reducible apply r_move_if); exact rfl) | ((with_reducible apply r_move_ni); exact rfl) | ((with_reducible apply r_neq_t); exact rfl; exact rfl; omega) | ((with_reducible apply r_neq_f); exact rfl; exact rfl; omega) | ((with_reducible apply r_neq); exact rfl; exact rfl) | ((with_reducible apply r_move_b); exact rfl) | ((with_reducible apply r_eql_t); exact rfl; exact rfl; omega) | ((with_reducible apply r_eql_f); exact rfl; exact rfl; omega) | ((with_reducible apply r_eql); exact rfl; exact rfl) | ((with_reducible apply r_move_s); exact rfl) | ((with_reducible apply r_len); exact u_ok rfl; exact rfl) | ((with_reducible apply r_pick_t); exact rfl; (with_reducible exact rfl); exact rfl) | ((with_reducible apply r_pick_f); exact rfl; (with_reducible exact rfl); exact rfl) | ((with_reducible apply r_index); exact u_ok rfl; exact s_ok rfl; exact rfl; exact rfl; omega; omega) | ((with_reducible apply r_indexarr); exact u_ok rfl; exact s_ok rfl; exact rfl; exact rfl; omega; omega) | ((with_reducible apply r_add); exact rfl; exact rfl; omega; omega) | ((with_reducible apply r_not_t); exact rfl; (with_reducible exact rfl)) | ((with_reducible apply r_not_f); exact rfl; (with_reducible exact rfl)) | ((with_reducible apply r_not); exact rfl) | ((with_reducible apply r_assign_p); exact rfl) | ((with_reducible apply r_gtr_t); exact rfl; exact rfl; omega) | ((with_reducible apply r_gtr_f); exact rfl; exact rfl; omega) | ((with_reducible apply r_gtr); exact rfl; exact rfl) | ((with_reducible apply r_geq_t); exact rfl; exact rfl; omega) | ((with_reducible apply r_geq_f); exact rfl; exact rfl; omega) | ((with_reducible apply r_geq); exact rfl; exact rfl) | ((with_reducible apply r_sub); exact rfl; exact rfl; omega; omega)); (first | (with_reducible exact wnt_none) | ((with_reducible apply wnt_y); exact rfl; exact rfl; exact rfl; exact rfl; (with_reducible exact rfl)))))); exact h.out) : G := h ⟨k⟩

theorem keditF_right {e : Ed} : wrongB (keditF e) = false := by
  have h1 := kpickF_lt (c := e.kind) (n := 4) (by omega)
  have h2 := kpickF_lt (c := e.node) (n := 40) (by omega)
  have h3 := kpickF_lt (c := e.parent) (n := 40) (by omega)
  have h4 := kpickF_lt (c := e.key) (n := 1001) (by omega)
  have h5 := kpickF_lt (c := e.prop) (n := 4) (by omega)
  have h6 := kpickF_lt (c := e.value) (n := 1000001) (by omega)
  have a : inB (kpickF e.node 40) 1000 = true := decide_eq_true (by omega)
  have b : inB (kpickF e.parent 40) 1000 = true := decide_eq_true (by omega)
  have c : inB (kpickF e.key 1001) 1000 = true := decide_eq_true (by omega)
  have d : inB (kpickF e.prop 4) 3 = true := decide_eq_true (by omega)
  have f : inB (kpickF e.value 1000001) 1000000 = true := decide_eq_true (by omega)
  unfold wrongB
  simp only [keditF, a, b, c, d, f]
  repeat' split
  all_goals first | rfl | (exfalso; omega)
theorem editP_is {P : Par} {k : Int} {c : Cli} {e : Ed} (hc : P.cl k = some c) (he : wrongB e = false) : ((editP P k e).1 = 0 ↔ c.pend.length < 6) := by
  unfold editP
  rw [hc]
  simp only [he]
  rw [if_neg (by simp)]
  split
  · exact ⟨fun h => (by cases h), fun h => (by omega)⟩
  · exact ⟨fun _ => (by omega), fun _ => rfl⟩
theorem insE_no {ins : Nat → List Ed} {k z : Nat} {e : Ed} (h : z ≠ 0) : insE ins k z e = ins := by
  funext j
  rw [insE, if_neg (fun q => h q.2)]
theorem insE_at {ins : Nat → List Ed} {k z : Nat} {e : Ed} (h : z = 0) : insE ins k z e k = ins k ++ [e] := by rw [insE, if_pos ⟨rfl, h⟩]
theorem insE_ne {ins : Nat → List Ed} {k z i : Nat} {e : Ed} (h : i ≠ k) : insE ins k z e i = ins i := by rw [insE, if_neg (fun q => h q.1)]
abbrev EvV (x : Evt) : Value := .agg x.vals.toArray
section
variable {PT : PTy} {w0 w w' : World} {col col' : Nat → Nat} {i j pp p : Nat} {n : Int} {P P' : Par} {ins : Nat → List Ed} {bs : List Int} {ea : List Addr}
set_option maxRecDepth 4000 in
set_option maxHeartbeats 2000000 in
theorem khap_ret (sp : TreeSpec PT) (cs : CloneSpec PT) (h : PLA PT w col j pp p n P ins bs) (hT : Top w0 w col) (hE : Errs w0 ea) (hB : P.ents.length ≤ 884000000000) {x : Evt} (hx : EvRaw x) :
    Rets Tryz.prog 23 [Ptr pp, EvV x] w fun v w' => v = B true ∧ ∃ col', PLA PT w' col' j pp p n (hapP P n x) (hapI P ins n x) bs ∧ Bd j w w' col col' := by
  have f1 : Frm0 w (w.alloc (cel x.vals 52)) := Frm.of_alloc _ _
  have hx1 := at_alloc_new w (cel x.vals 52)
  have hn := h.pl.nn
  have hkl := kpickF_lt (c := x.client) (n := n) (by omega)
  obtain ⟨k, hk, hkn⟩ := hapK_nat hn.1 x
  have hkk : kpickF x.client n = k := hk
  obtain ⟨c, hc⟩ := h.pl.get (k := k) (by omega) hkn
  obtain ⟨hxk, hxc, hxe⟩ := hx
  refine rets_of Tryz.func23 (by kernel_rfl) rfl Tryz.ntmps23 (Nat.le_of_ble_eq_true rfl) ?_
  refine runG13 ?_
  generalize w.heap.size = xb at hx1 ⊢
  have h1 := h.frm0 sp f1
  have T1 := hT.frm0 f1
  have B1 : Bd j w _ col col := Bd.frm0 h.high f1
  generalize w.alloc (cel x.vals 52) = w1 at *
  clear f1
  obtain ⟨⟨ev1, iv1, hm1⟩, hk1, hpl⟩ := h1
  have hh1 := hm1.head
  refine w_drawn [(0, false), (1, false), (2, false), (3, false), (4, false), (5, false)] [6, 7] (fun wq => Frm0 w1 wq) mixed (by kernel_rfl) ?_ ?_
  · exact Frm.of_drew _
  · refine runG13 ?_
    refine y_callf rfl (kpick_ret hxc (n := n) (by omega) _) rfl wnt_none ?_
    rintro v w2' ⟨rfl, rfl⟩
    rw [hkk]
    refine runG13 ?_
    have f2 : Frm0 w1 w1.drew := Frm.of_drew _
    have hx2 := f2.at0 hx1
    have hk2 := hk1.frm0 sp f2
    have hm2 := hm1.frm0 f2
    have T2 := T1.frm0 f2
    have B2 := B1.trans (Bd.frm0 hk1.high f2)
    generalize w1.drew = w2 at *
    clear hh1 hm1 hk1 T1 f2 hx1 B1
    have hh2 := hm2.head
    refine s_callf (kpick_ret hxk (n := 10) (by omega) w2) rfl wnt_none ?_
    rintro v w2' ⟨rfl, rfl⟩
    by_cases c2 : kpickF x.kind 10 < 2
    · have hP : hapP P n x = (editP P k (keditF x.e)).2 := by rw [hapP, if_pos (show hapM x < 2 from c2), hk]
      have hI : hapI P ins n x = insE ins k (editP P k (keditF x.e)).1 (keditF x.e) := by rw [hapI, if_pos (show hapM x < 2 from c2), hk, Int.toNat_natCast]
      rw [hP, hI]
      have hpl' := hpl.edit k (e := keditF x.e) keditF_sml
      have hwr := keditF_right (e := x.e)
      have hei := editP_is hc hwr
      refine runG13 ?_
      refine s_callf (kedit_ret hxe w2) rfl wnt_none ?_
      rintro v w3 ⟨rfl, f3⟩
      refine runG13 ?_
      refine s_skip (r_storeAll (vs := (keditF x.e).vals) (s_ok rfl) rfl rfl (edit_one _) (at_alloc_new w3 _) rfl) wnt_none ?_
      have he4 := at_setB (cel (keditF x.e).vals 31) (at_alloc_new w3 (cel [I 0, I 0, I 0, I 0, I 0, I 0] 31))
      have f4 : Frm0 w2 (setB (w3.alloc (cel [I 0, I 0, I 0, I 0, I 0, I 0] 31)) w3.heap.size (cel (keditF x.e).vals 31)) := (f3.alloc _).setB (.inr f3.size) _
      have heb : col w3.heap.size = 0 := hk2.high _ f3.size
      clear f3
      generalize setB (w3.alloc (cel [I 0, I 0, I 0, I 0, I 0, I 0] 31)) w3.heap.size (cel (keditF x.e).vals 31) = w4 at *
      generalize w3.heap.size = eb at *
      clear hP hI
      generalize keditF x.e = e at *
      have hk4 := hk2.frm0 sp f4
      have hm4 := hm2.frm0 f4
      have hh4 := hm4.head
      have T4 := T2.frm0 f4
      have B4 := B2.trans (Bd.frm0 hk2.high f4)
      clear hh2 hm2 hk2 T2 B2 f4 hx2
      refine runG13 ?_
      refine s_callf (kpPending sp hk4 (T4.errs hE) (by omega) hc) rfl wnt_none ?_
      rintro v w5 ⟨l, rfl, r5, n5, f5⟩
      have hml : (c.pend.map (·.2)).length = c.pend.length := List.length_map ..
      obtain ⟨la, lc, rfl⟩ := r5.isSl
      rw [hml]
      have he5 := f5.at0 he4
      have hk5 := hk4.frm0 sp f5
      have hm5 := hm4.frm0 f5
      have hh5 := hm5.head
      have T5 := T4.frm0 f5
      have B5 := B4.trans (Bd.frm0 hk4.high f5)
      clear hh4 hm4 hk4 T4 B4 f5 he4 r5 n5
      refine runG13 ?_
      refine w_drawn [(0, false), (1, false), (2, false), (3, false), (4, false), (5, false)] [6, 7] (fun wq => Frm0 w5 wq) mixed (by kernel_rfl) ?_ ?_
      · exact Frm.of_drew _
      · have fd : Frm0 w5 w5.drew := Frm.of_drew _
        refine runG13 ?_
        rw [sub_all' (show e.vals.length = 6 from rfl)]
        refine y_callf rfl (kpEdit sp (hk5.frm0 sp fd) ((T5.frm0 fd).errs hE) (by omega) k e) rfl wnt_none ?_
        rintro v w6 ⟨hv, col6, hk6, x6, f6⟩
        have hm6 := (hm5.frm0 fd).other f6 (fun b h7 h8 h9 => by omega) x6.old
        have hh6 := hm6.head
        have he6 := f6.at (fun h9 => by have := h9.1; omega) (fd.at0 he5)
        have B6 := (B5.trans (Bd.frm0 hk5.high fd)).trans (Bd.ofQ x6 f6 (.inl rfl))
        have heb6 : col6 eb = 0 := by rw [x6.old eb (at_lt (fd.at0 he5))]; exact heb
        clear hh5 hm5 hk5 T5 B5 he5 fd x6 f6
        by_cases h6 : c.pend.length < 6
        · have hz := hei.2 h6
          have hv' := hv.1
          rw [hz] at hv'
          cases errIs0 hv'
          clear hv hv'
          have hk4 : k < iv1.length := by rw [hm6.il]; omega
          obtain ⟨u, hu⟩ : ∃ u, iv1[k]? = some u := ⟨iv1[k], List.getElem?_eq_getElem hk4⟩
          obtain ⟨hru, hcu⟩ := hm6.row k u hu
          obtain ⟨ua, uc, rfl⟩ := hru.isSl
          have hnpp : ¬ InV (.slice ua (ins k).length uc) pp := fun h9 => by have := hcu pp h9; have := hm6.own; omega
          have hneb : ¬ InV (.slice ua (ins k).length uc) eb := fun h9 => by have := hcu eb h9; omega
          have hil := hpl.ins_le hkn
          have hgu : (Ptr p :: I n :: ev1 :: (iv1 ++ bs.map I))[0 + 3 + (k : Int).toNat * 1]? = some (.slice ua (ins k).length uc) := by rw [show 0 + 3 + (k : Int).toNat * 1 = 3 + k by omega]; exact pl_get hu
          refine runG13 ?_
          refine s_val (r_nnF rfl) wnt_none ?_
          refine runG13 ?_
          refine s_val (r_nn rfl) (by (first | (with_reducible exact wnt_none) | ((with_reducible apply wnt_y); exact rfl; exact rfl; exact rfl; exact rfl; (with_reducible exact rfl)))) ?_
          refine runG13 ?_
          refine s_val (r_ne_bool (a := true) (b := true) (c := false) rfl rfl rfl) (by (first | (with_reducible exact wnt_none) | ((with_reducible apply wnt_y); exact rfl; exact rfl; exact rfl; exact rfl; (with_reducible exact rfl)))) ?_
          refine runG13 ?_
          refine s_val (r_nn rfl) wnt_none ?_
          refine runG13 ?_
          refine w_drawn ((0, false) :: (1, false) :: (2, false) :: (3, false) :: (4, false) :: (5, false) :: (6, false) :: (7, false) :: (8, false) :: (11, false) :: (12, false) :: (9, true) :: (10, true) :: (13, false) :: []) [14] (fun wq => Frm (InV (.slice ua (ins k).length uc)) w6 wq) mixed (by kernel_rfl) ?_ ?_
          · exact Frm.of_drew _
          · refine runG13 ?_
            refine x_q rfl (fun wq hq => r_load (u_ok rfl) rfl rfl (hq.at hnpp hh6) hgu) wnt_none ?_
            refine runG13 ?_
            rw [sub_all' (show e.vals.length = 6 from rfl)]
            refine x_val rfl (r_bs rfl (bs_ed e _)) wnt_none ((Frm.of_drew w6).alloc _) ?_
            have hFa : Frm0 w6 (w6.drew.alloc (cel e.vals 31)) := (Frm.of_drew w6).alloc _
            obtain ⟨v7, w7, e7, r7, f7, n7⟩ := append_edB (ty := 26) (q := e) (hru.frm hFa (fun _ _ h => h)) (seg_new rfl) (by omega)
            have f7' : Frm (InV (.slice ua (ins k).length uc)) w6 w7 := (hFa.mono (fun _ h => h.elim)).trans f7 (fun b hb => .inl hb)
            have n7' : ∀ b, InV v7 b → InV (.slice ua (ins k).length uc) b ∨ w6.heap.size ≤ b := fun b hb => (n7 b hb).imp id (fun h => Nat.le_trans hFa.size h)
            refine x_val rfl (r_app rfl rfl e7) wnt_none f7' ?_
            have hh7 := f7'.at hnpp hh6
            obtain ⟨h8, g8, f8⟩ := hm6.edits (ins' := insE ins k (editP P k e).1 e) hk6.high hu (fun i hi => insE_ne hi) f7' (by rw [insE_at hz]; exact r7) n7'
            obtain ⟨ya, yc, rfl⟩ := r7.isSl
            refine runG13 ?_
            refine y_skip rfl (r_store_s (s_ok rfl) rfl rfl hh7 (by rw [show 0 + 3 + (k : Int).toNat * 1 = 3 + k by omega]; simp; omega)) wnt_none ?_
            rw [show 0 + 3 + (k : Int).toNat * 1 = 3 + k by omega, pl_set hk4]
            refine runG13 ?_
            exact ret_b rfl rfl ⟨rfl, _, ⟨⟨_, _, by rw [(editP_clients e).2.1]; exact h8⟩, hk6.other sp f8 (fun b h7 h8 h9 => by omega) g8.old g8.high, hpl'⟩, B6.trans g8⟩
        · have hz : (editP P k e).1 ≠ 0 := fun h9 => h6 (hei.1 h9)
          obtain ⟨vb, rfl⟩ := errIsS hv.1 hz
          clear hv
          refine runG13 ?_
          refine s_val (r_nnF rfl) wnt_none ?_
          refine runG13 ?_
          refine s_val (r_in rfl) (by (first | (with_reducible exact wnt_none) | ((with_reducible apply wnt_y); exact rfl; exact rfl; exact rfl; exact rfl; (with_reducible exact rfl)))) ?_
          refine runG13 ?_
          refine s_val (r_ne_bool (a := false) (b := false) (c := false) rfl rfl rfl) (by (first | (with_reducible exact wnt_none) | ((with_reducible apply wnt_y); exact rfl; exact rfl; exact rfl; exact rfl; (with_reducible exact rfl)))) ?_
          refine runG13 ?_
          refine s_val (r_in rfl) wnt_none ?_
          refine runG13 ?_
          rw [insE_no hz] at hpl' ⊢
          exact ret_b rfl rfl ⟨rfl, col6, ⟨⟨_, _, by rw [(editP_clients e).2.1]; exact hm6⟩, hk6, hpl'⟩, B6⟩
    · by_cases c5 : kpickF x.kind 10 < 5
      · have hP : hapP P n x = (upP P k).2 := by rw [hapP, if_neg (show ¬ hapM x < 2 from c2), if_pos (show hapM x < 5 from c5), hk]
        have hI : hapI P ins n x = ins := by rw [hapI, if_neg (show ¬ hapM x < 2 from c2)]
        rw [hP, hI]
        refine runG13 ?_
        refine s_callf (kpick_ret hxk (n := 10) (by omega) w2) rfl wnt_none ?_
        rintro v w2' ⟨rfl, rfl⟩
        refine runG13 ?_
        refine s_callf (kup_ret sp cs ⟨⟨_, _, hm2⟩, hk2, hpl⟩ T2 hE hB k) rfl wnt_none ?_
        rintro v w3 ⟨rfl, col3, h3, B3⟩
        refine runG13 ?_
        exact ret_b rfl rfl ⟨rfl, col3, h3, B2.trans B3⟩
      · have hI : hapI P ins n x = ins := by rw [hapI, if_neg (show ¬ hapM x < 2 from c2)]
        rw [hI]
        have hA2 : PLA PT w2 col j pp p n P ins bs := ⟨⟨_, _, hm2⟩, hk2, hpl⟩
        by_cases c8 : kpickF x.kind 10 < 8
        · have hP : hapP P n x = (downP P k).2 := by rw [hapP, if_neg (show ¬ hapM x < 2 from c2), if_neg (show ¬ hapM x < 5 from c5), if_pos (show hapM x < 8 from c8), hk]
          rw [hP]
          refine runG13 ?_
          refine s_callf (kpick_ret hxk (n := 10) (by omega) w2) rfl wnt_none ?_
          rintro v w2' ⟨rfl, rfl⟩
          refine runG13 ?_
          refine s_callf (kpick_ret hxk (n := 10) (by omega) w2) rfl wnt_none ?_
          rintro v w2' ⟨rfl, rfl⟩
          refine runG13 ?_
          refine s_callf (kpDown sp hk2 (T2.errs hE) (T2.lo hE) (by omega) k) rfl wnt_none ?_
          rintro v w3 ⟨_, hs⟩
          obtain ⟨col3, h3, B3⟩ := hA2.step hs downP_clients.2.1 (hpl.down k)
          refine runG13 ?_
          exact ret_b rfl rfl ⟨rfl, col3, h3, B2.trans B3⟩
        · by_cases c9 : kpickF x.kind 10 < 9
          · have hP : hapP P n x = (joinP P k).2 := by rw [hapP, if_neg (show ¬ hapM x < 2 from c2), if_neg (show ¬ hapM x < 5 from c5), if_neg (show ¬ hapM x < 8 from c8), if_pos (show hapM x < 9 from c9), hk]
            rw [hP]
            refine runG13 ?_
            refine s_callf (kpick_ret hxk (n := 10) (by omega) w2) rfl wnt_none ?_
            rintro v w2' ⟨rfl, rfl⟩
            refine runG13 ?_
            refine s_callf (kpick_ret hxk (n := 10) (by omega) w2) rfl wnt_none ?_
            rintro v w2' ⟨rfl, rfl⟩
            refine runG13 ?_
            refine s_callf (kpick_ret hxk (n := 10) (by omega) w2) rfl wnt_none ?_
            rintro v w2' ⟨rfl, rfl⟩
            refine runG13 ?_
            refine s_callf (kpJoin sp hk2 (T2.errs hE) (by omega) k) rfl wnt_none ?_
            rintro v w3 ⟨_, hs⟩
            obtain ⟨col3, h3, B3⟩ := hA2.step hs joinP_clients.2.1 (hpl.join k)
            refine runG13 ?_
            exact ret_b rfl rfl ⟨rfl, col3, h3, B2.trans B3⟩
          · have hP : hapP P n x = (dropP P k).2 := by rw [hapP, if_neg (show ¬ hapM x < 2 from c2), if_neg (show ¬ hapM x < 5 from c5), if_neg (show ¬ hapM x < 8 from c8), if_neg (show ¬ hapM x < 9 from c9), hk]
            rw [hP]
            refine runG13 ?_
            refine s_callf (kpick_ret hxk (n := 10) (by omega) w2) rfl wnt_none ?_
            rintro v w2' ⟨rfl, rfl⟩
            refine runG13 ?_
            refine s_callf (kpick_ret hxk (n := 10) (by omega) w2) rfl wnt_none ?_
            rintro v w2' ⟨rfl, rfl⟩
            refine runG13 ?_
            refine s_callf (kpick_ret hxk (n := 10) (by omega) w2) rfl wnt_none ?_
            rintro v w2' ⟨rfl, rfl⟩
            refine runG13 ?_
            refine s_callf (kpDrop sp hk2 (T2.errs hE) k) rfl wnt_none ?_
            rintro v w3 ⟨_, hs⟩
            obtain ⟨col3, h3, B3⟩ := hA2.step hs dropP_clients.2.1 (hpl.drop k)
            refine runG13 ?_
            exact ret_b rfl rfl ⟨rfl, col3, h3, B2.trans B3⟩
end
end Go.Proofs.YtbicffldggcdhaaGreatDoor

namespace Go.Proofs.YtbicffldggcdhaaGreatDoor
open Go

section
variable {w : World} {ρ : Operand → Value} {d : Option Nat} {t ty2 : Nat} {p : String} {af : Array Edge} {g : Option (Nat × Bool)} {x y : Operand}
theorem r_ne_edK {n : Ed} (hx : ρ x = EdV n) (hy : ρ y = EdV n) : (execOp ρ ⟨d, .binOp .neq 31 x y ty2, t, p, af, g⟩).run Tryz.prog w = .ok (.value (.bool false)) w := by
  refine r_eq2 hx hy (by simp [eqGuard]) ?_
  simp [binOp, Op.equal, Op.maxDepth, eq_edit 9998 n]
end
theorem rowk_at {w : World} {v : Value} {T sz n : Nat} {pre : List Value} (h : Row w v T sz n pre) (hn : 0 < n) : ∃ b cap rest, v = .slice (some ⟨b, 0, none⟩) n cap ∧ At w b (cel (pre ++ rest) T) := by
  rcases h with ⟨_, h, _⟩ | ⟨b, cap, rest, h1, h2, _⟩
  · omega
  · exact ⟨b, cap, rest, h1, h2⟩
theorem fl_subK {α : Type} {f : α → List Value} {k : Nat} (hf : ∀ x, (f x).length = k) {l : List α} {i : Nat} {x : α} (h : l[i]? = some x) (rest : List Value) {o : Nat} (ho : o = i * k) : sub (fl f l ++ rest) (0 + o) k = f x := by
  have := fl_sub hf l i x h [] rest
  rw [List.nil_append, List.length_nil] at this
  rw [ho]
  exact this
theorem fl_lenK {α : Type} {f : α → List Value} {k : Nat} (hf : ∀ x, (f x).length = k) {l : List α} {i : Nat} {x : α} (h : l[i]? = some x) (rest : List Value) {o : Nat} (ho : o = i * k) : 0 + o + k ≤ (fl f l ++ rest).length := by
  have h1 := (List.getElem?_eq_some_iff.1 h).1
  rw [List.length_append, fl_len hf, ho]
  have : (i + 1) * k ≤ l.length * k := Nat.mul_le_mul_right k h1
  rw [Nat.add_mul] at this
  omega
section
variable {PT : PTy} {w0 w w' : World} {col col' : Nat → Nat} {i j pp p : Nat} {n : Int} {P P' : Par} {ins : Nat → List Ed} {bs : List Int} {ea : List Addr}
end
end Go.Proofs.YtbicffldggcdhaaGreatDoor

namespace Go.Proofs.YtbicffldggcdhaaGreatDoor
open Go

section
variable {w : World} {n : Nat} {env : Env} {d : Option Nat} {t ty2 : Nat} {p : String} {af : Array Edge} {g : Option (Nat × Bool)} {x : Operand}
theorem r_eqpL {a : Addr} (hx : ev n env x = .pointer (some a)) : (execOp (ev n env) ⟨d, .binOp .eql 41 x (.const (.pointer none)) ty2, t, p, af, g⟩).run Tryz.prog w = .ok (.value (.bool false)) w :=
  r_eq2 hx (show ev n env (.const (.pointer none)) = .pointer none from rfl) rfl (by kernel_rfl)
end
theorem pinv_play {n l : Int} (hn : 1 ≤ n ∧ n ≤ 4) (hl : 1 ≤ l ∧ l ≤ 8) : PInv 0 ⟨n, l, [root0], [], List.replicate n.toNat cli0⟩ :=
  pinv_new (c := n) (l := l) (by rw [newP, if_neg (by omega)])
end Go.Proofs.YtbicffldggcdhaaGreatDoor

namespace Go.Proofs.YtbicffldggcdhaaGreatDoor
open Go

theorem ksame_self {PT : PTy} (sp : TreeSpec PT) {w : World} {a c : Nat} {l : List Nd} {S T : Nat → Prop} (hA : PT w a l S) (hC : PT w c l T) (hl : Wf l) :
    Rets Tryz.prog 20 [Ptr a, Ptr c] w fun v w' => v = B true ∧ Frm0 w w' :=
  (ksame_ret sp hA hC hl hl).mono (fun v w' ⟨⟨b, h1, h2⟩, h3⟩ => ⟨by rw [h1, h2 ⟨rfl, fun _ _ => rfl⟩], h3⟩)
end Go.Proofs.YtbicffldggcdhaaGreatDoor

namespace Go.Proofs.YtbicffldggcdhaaGreatDoor
open Go

theorem foldE_wf : ∀ (l : List Ent) (t : List Nd), Wf t → Wf (l.foldl stepE t)
  | [], _, h => h
  | x :: l, t, h => by
    refine foldE_wf l _ ?_
    unfold stepE
    split
    · exact h.apply x.e
    · exact h
theorem wf_foldE (l : List Ent) : Wf (foldE l) := foldE_wf l _ wf_root0
def nxL (es : List Ent) : List Value := [I (mine es 0).length, I (mine es 1).length, I (mine es 2).length, I (mine es 3).length]
theorem nxL_get {es : List Ent} {k o : Nat} (hk : k < 4) (ho : o = k) : (nxL es)[0 + o * 1]? = some (I (mine es k).length) := by
  subst ho
  rw [Nat.zero_add, Nat.mul_one]
  match o, hk with
  | 0, _ => rfl
  | 1, _ => rfl
  | 2, _ => rfl
  | 3, _ => rfl
theorem nxL_set {es : List Ent} {y : Ent} {k o : Nat} (hk : k < 4) (ho : o = k) (hy : y.client = k) : (nxL es).set (0 + o * 1) (I ((mine es k).length + 1)) = nxL (es ++ [y]) := by
  subst ho
  rw [Nat.zero_add, Nat.mul_one]
  have h1 : ∀ j : Nat, j ≠ o → mine (es ++ [y]) j = mine es j := fun j hj => by
    rw [mine_snoc, if_neg (by omega), List.append_nil]
  have h2 : ((mine (es ++ [y]) o).length : Int) = (mine es o).length + 1 := by
    rw [mine_snoc, if_pos hy]
    simp
  match o, hk with
  | 0, _ =>
    have a : mine (es ++ [y]) (1 : Int) = mine es (1 : Int) := h1 1 (by omega)
    have b : mine (es ++ [y]) (2 : Int) = mine es (2 : Int) := h1 2 (by omega)
    have c : mine (es ++ [y]) (3 : Int) = mine es (3 : Int) := h1 3 (by omega)
    have e : ((mine (es ++ [y]) (0 : Int)).length : Int) = (mine es (0 : Int)).length + 1 := h2
    show [I ((mine es (0 : Int)).length + 1), I (mine es (1 : Int)).length, I (mine es (2 : Int)).length, I (mine es (3 : Int)).length] = [I (mine (es ++ [y]) (0 : Int)).length, I (mine (es ++ [y]) (1 : Int)).length, I (mine (es ++ [y]) (2 : Int)).length, I (mine (es ++ [y]) (3 : Int)).length]
    rw [a, b, c, e]
  | 1, _ =>
    have a : mine (es ++ [y]) (0 : Int) = mine es (0 : Int) := h1 0 (by omega)
    have b : mine (es ++ [y]) (2 : Int) = mine es (2 : Int) := h1 2 (by omega)
    have c : mine (es ++ [y]) (3 : Int) = mine es (3 : Int) := h1 3 (by omega)
    have e : ((mine (es ++ [y]) (1 : Int)).length : Int) = (mine es (1 : Int)).length + 1 := h2
    show [I (mine es (0 : Int)).length, I ((mine es (1 : Int)).length + 1), I (mine es (2 : Int)).length, I (mine es (3 : Int)).length] = [I (mine (es ++ [y]) (0 : Int)).length, I (mine (es ++ [y]) (1 : Int)).length, I (mine (es ++ [y]) (2 : Int)).length, I (mine (es ++ [y]) (3 : Int)).length]
    rw [a, b, c, e]
  | 2, _ =>
    have a : mine (es ++ [y]) (0 : Int) = mine es (0 : Int) := h1 0 (by omega)
    have b : mine (es ++ [y]) (1 : Int) = mine es (1 : Int) := h1 1 (by omega)
    have c : mine (es ++ [y]) (3 : Int) = mine es (3 : Int) := h1 3 (by omega)
    have e : ((mine (es ++ [y]) (2 : Int)).length : Int) = (mine es (2 : Int)).length + 1 := h2
    show [I (mine es (0 : Int)).length, I (mine es (1 : Int)).length, I ((mine es (2 : Int)).length + 1), I (mine es (3 : Int)).length] = [I (mine (es ++ [y]) (0 : Int)).length, I (mine (es ++ [y]) (1 : Int)).length, I (mine (es ++ [y]) (2 : Int)).length, I (mine (es ++ [y]) (3 : Int)).length]
    rw [a, b, c, e]
  | 3, _ =>
    have a : mine (es ++ [y]) (0 : Int) = mine es (0 : Int) := h1 0 (by omega)
    have b : mine (es ++ [y]) (1 : Int) = mine es (1 : Int) := h1 1 (by omega)
    have c : mine (es ++ [y]) (2 : Int) = mine es (2 : Int) := h1 2 (by omega)
    have e : ((mine (es ++ [y]) (3 : Int)).length : Int) = (mine es (3 : Int)).length + 1 := h2
    show [I (mine es (0 : Int)).length, I (mine es (1 : Int)).length, I (mine es (2 : Int)).length, I ((mine es (3 : Int)).length + 1)] = [I (mine (es ++ [y]) (0 : Int)).length, I (mine (es ++ [y]) (1 : Int)).length, I (mine (es ++ [y]) (2 : Int)).length, I (mine (es ++ [y]) (3 : Int)).length]
    rw [a, b, c, e]
section
variable {PT : PTy} {w w' : World} {col col' : Nat → Nat} {t q : Nat} {l : List Nd} {S : Nat → Prop}
theorem pt_other (sp : TreeSpec PT) (h : PT w t l (fun b => col b = q)) (f : Frm S w w') (hs : ∀ b, col b = q → ¬ S b) (ho : ∀ b, b < w.heap.size → col' b = col b) : PT w' t l (fun b => col' b = q) :=
  sp.weak (sp.frm (sp.weak h (fun b hb hl => ⟨hb, hl⟩) : PT w t l (fun b => col b = q ∧ b < w.heap.size)) f (fun b hb => hs b hb.1)) (fun b hb _ => by rw [ho b hb.2]; exact hb.1)
theorem pt_new (sp : TreeSpec PT) (h : PT w' t l (fun b => w.heap.size ≤ b)) (q : Nat) : PT w' t l (fun b => paintA col w.heap.size w'.heap.size q b = q) :=
  sp.weak h (fun b h1 h2 => by rw [paintA, if_pos ⟨h1, h2⟩])
theorem paintA_hh {n m q : Nat} (hh : ∀ b, n ≤ b → col b = 0) (hnm : n ≤ m) : ∀ b, m ≤ b → paintA col n m q b = 0 := fun b hb => by
  rw [paintA, if_neg (by omega)]
  exact hh b (by omega)
end
/-- The tree of the entries (colour 1), those of the first so many (2), and their row (3). -/
structure OM (PT : PTy) (w : World) (col : Nat → Nat) (t : Nat) (fv : Value) (ts : List Nat) (es : List Ent) : Prop where
  fold : PT w t (foldE es) (fun b => col b = 1)
  row : Row w fv 28 1 ts.length (ts.map fun u => Ptr u)
  rc : ∀ b, InV fv b → col b = 3
  len : ts.length = es.length + 1
  tr : ∀ (m : Nat) u, ts[m]? = some u → PT w u (foldE (es.take m)) (fun b => col b = 2)
section
variable {PT : PTy} {w0 w w' w6 w7 w8 w9 : World} {col col' : Nat → Nat} {t c : Nat} {fv fv' : Value} {ts : List Nat} {es : List Ent} {y : Ent} {S : Nat → Prop} {j pp p : Nat} {n : Int} {P : Par} {ins : Nat → List Ed} {bs : List Int}
theorem OM.other (sp : TreeSpec PT) (h : OM PT w col t fv ts es) (f : Frm S w w') (hs : ∀ b, S b → col b = 0 ∨ 4 ≤ col b) (ho : ∀ b, b < w.heap.size → col' b = col b) : OM PT w' col' t fv ts es :=
  ⟨pt_other sp h.fold f (fun b hb hS => by have := hs b hS; omega) ho, h.row.frm f (fun b hb hS => by have := hs b hS; have := h.rc b hb; omega), fun b hb => by rw [ho b (h.row.lt hb)]; exact h.rc b hb, h.len, fun m u hu => pt_other sp (h.tr m u hu) f (fun b hb hS => by have := hs b hS; omega) ho⟩
theorem OM.frm0 (sp : TreeSpec PT) (h : OM PT w col t fv ts es) (f : Frm0 w w') : OM PT w' col t fv ts es := h.other sp f (fun _ h => h.elim) (fun _ _ => rfl)
theorem PLA.mine (sp : TreeSpec PT) (h : PLA PT w col j pp p n P ins bs) (f : Frm S w w') (hs : ∀ b, S b → col b < 100) (ho : ∀ b, b < w.heap.size → col' b = col b) (hh : ∀ b, w'.heap.size ≤ b → col' b = 0) : PLA PT w' col' j pp p n P ins bs := by
  obtain ⟨⟨ev, iv, h1⟩, h2, h3⟩ := h
  exact ⟨⟨ev, iv, h1.other f (fun b h4 h5 h6 => by have := hs b h6; omega) ho⟩, h2.other sp f (fun b h4 h5 h6 => by have := hs b h6; omega) ho hh, h3⟩
theorem Top.mine (h : Top w0 w col) (f : Frm S w w') (hs : ∀ b, S b → col b ≠ 0) (ho : ∀ b, b < w.heap.size → col' b = col b) : Top w0 w' col' := by
  refine ⟨h.frm.trans f (fun b hb => ?_), fun b hb => ?_⟩
  · rcases Nat.lt_or_ge b w0.heap.size with h9 | h9
    · exact absurd (h.low b h9) (hs b hb)
    · exact .inr h9
  · rw [ho b (Nat.lt_of_lt_of_le hb h.frm.size)]
    exact h.low b hb
theorem OM.snoc (sp : TreeSpec PT) (h : OM PT w col t fv ts es) (hh : ∀ b, w.heap.size ≤ b → col b = 0) (f6 : Frm (fun b => col b = 1) w w6) (hT6 : PT w6 t (foldE (es ++ [y])) (fun b => col b = 1 ∨ w.heap.size ≤ b)) (f7 : Frm0 w6 w7) (hC : PT w7 c (foldE (es ++ [y])) (fun b => w6.heap.size ≤ b)) (f8 : Frm0 w7 w8)
    (f9 : Frm (InV fv) w8 w9) (r9 : Row w9 fv' 28 1 (ts ++ [c]).length ((ts ++ [c]).map fun u => Ptr u)) (n9 : ∀ b, InV fv' b → InV fv b ∨ w8.heap.size ≤ b) :
    ∃ col', OM PT w9 col' t fv' (ts ++ [c]) (es ++ [y]) ∧ (∀ b, b < w.heap.size → col' b = col b) ∧ (∀ b, w9.heap.size ≤ b → col' b = 0) ∧ Frm (fun b => col b = 1 ∨ col b = 3) w w9 := by
  have s6 := f6.size
  have s7 := f7.size
  have s8 := f8.size
  have s9 := f9.size
  obtain ⟨col1, hc1⟩ : ∃ col1, col1 = paintA col w.heap.size w6.heap.size 1 := ⟨_, rfl⟩
  obtain ⟨col2, hc2⟩ : ∃ col2, col2 = paintA col1 w6.heap.size w7.heap.size 2 := ⟨_, rfl⟩
  obtain ⟨col3, hc3⟩ : ∃ col3, col3 = paint col2 w8.heap.size fv' 3 := ⟨_, rfl⟩
  have o1 : ∀ b, b < w.heap.size → col1 b = col b := fun b hb => by rw [hc1]; exact paintA_old hb
  have o2 : ∀ b, b < w6.heap.size → col2 b = col1 b := fun b hb => by rw [hc2]; exact paintA_old hb
  have o3 : ∀ b, b < w8.heap.size → col3 b = col2 b := fun b hb => by rw [hc3]; exact paint_old hb
  have hh1 : ∀ b, w6.heap.size ≤ b → col1 b = 0 := by rw [hc1]; exact paintA_hh hh s6
  have hh2 : ∀ b, w7.heap.size ≤ b → col2 b = 0 := by rw [hc2]; exact paintA_hh hh1 s7
  have hrc : ∀ b, InV fv b → col2 b = 3 := fun b hb => by
    have := h.row.lt hb
    rw [o2 b (by omega), o1 b this]
    exact h.rc b hb
  have f69 : Frm (InV fv) w6 w9 := ((f7.trans0 f8).mono (T := InV fv) (fun _ h => h.elim)).trans f9 (fun b hb => .inl hb)
  have f79 : Frm (InV fv) w7 w9 := (f8.mono (T := InV fv) (fun _ h => h.elim)).trans f9 (fun b hb => .inl hb)
  have hrc1 : ∀ b, InV fv b → col1 b = 3 := fun b hb => by
    have := h.row.lt hb
    rw [o1 b this]
    exact h.rc b hb
  have F : Frm (fun b => col b = 1 ∨ col b = 3) w w9 := (f6.mono (T := fun b => col b = 1 ∨ col b = 3) (fun b hb => .inl (.inl hb))).trans f69 (fun b hb => .inl (.inr (h.rc b hb)))
  refine ⟨col3, ⟨?_, r9, ?_, by rw [List.length_append, List.length_append, h.len]; rfl, fun m u hu => ?_⟩, fun b hb => by rw [o3 b (by omega), o2 b (by omega), o1 b hb], fun b hb => ?_, F⟩
  · have h1 : PT w6 t (foldE (es ++ [y])) (fun b => col1 b = 1) := sp.weak hT6 (fun b hb hl => by
      rcases hb with hb | hb
      · rw [hc1, paintA]
        split
        · rfl
        · exact hb
      · rw [hc1, paintA, if_pos ⟨hb, hl⟩])
    exact pt_other sp h1 f69 (fun b hb hS => by have := hrc1 b hS; omega) (fun b hb => by rw [o3 b (by omega), o2 b hb])
  · rw [hc3]
    exact paint_new n9 hrc
  · by_cases hm : m < ts.length
    · rw [List.getElem?_append_left hm] at hu
      have h1 := pt_other sp (h.tr m u hu) F (fun b hb hS => by omega) (col' := col3) (fun b hb => by rw [o3 b (by omega), o2 b (by omega), o1 b hb])
      rw [List.take_append_of_le_length (by have := h.len; omega)]
      exact h1
    · have hm2 : m = ts.length := by
        have := (List.getElem?_eq_some_iff.1 hu).1
        rw [List.length_append, List.length_cons, List.length_nil] at this
        omega
      subst hm2
      rw [List.getElem?_append_right (Nat.le_refl _), Nat.sub_self] at hu
      cases hu
      rw [List.take_of_length_le (by rw [List.length_append, h.len]; exact Nat.le_refl _)]
      have h1 : PT w7 c (foldE (es ++ [y])) (fun b => col2 b = 2) := by rw [hc2]; exact pt_new sp hC 2
      exact pt_other sp h1 f79 (fun b hb hS => by have := hrc b hS; omega) (fun b hb => by rw [o3 b (by omega)])
  · rw [hc3, paint, if_neg (fun h9 => by have := r9.blk b h9.2; omega)]
    exact hh2 b (by omega)
end
section
variable {w : World} {n : Nat} {env : Env} {d : Option Nat} {t ty2 : Nat} {p : String} {af : Array Edge} {g : Option (Nat × Bool)} {x : Operand}
/-- Is there no error? -/
theorem r_nnD {ea : List Addr} {w0 : World} {v : Value} {m : Nat} {e : Ed} (h : ErrIs ea w0 v m e) (hx : ev n env x = v) : (execOp (ev n env) ⟨d, .binOp .eql 34 x (.const .nilIface) ty2, t, p, af, g⟩).run Tryz.prog w = .ok (.value (.bool (decide (m = 0)))) w := by
  rcases h with ⟨h1, h2⟩ | ⟨h1, b, a, h2, _⟩
  · rw [h2] at hx
    rw [decide_eq_true h1]
    exact r_nn hx
  · rw [h2] at hx
    rw [decide_eq_false (by omega)]
    exact r_in hx
end
theorem bs_tp (c : Nat) (w : World) : (Instr.buildSlice 43 1 [(0, Ptr c)].toArray).run Tryz.prog w = .ok (.slice (some ⟨w.heap.size, 0, none⟩) 1 1) (w.alloc (cel [Ptr c] 28)) := by kernel_rfl
theorem append_tp {w : World} {v s : Value} {A : List Nat} {c : Nat} {ty : Nat} (hrow : Row w v 28 1 A.length (A.map fun u => Ptr u)) (hseg : Seg w s 1 1 [Ptr c]) (hcap : A.length < 890000000000) :
    ∃ v' w', (Builtin.append_ #[43, 43] ty #[v, s]).run Tryz.prog w = .ok v' w' ∧ Row w' v' 28 1 (A ++ [c]).length ((A ++ [c]).map fun u => Ptr u) ∧ Frm (InV v) w w' ∧ ∀ b, InV v' b → InV v b ∨ w.heap.size ≤ b := by
  obtain ⟨v', w', h1, h2, h3, h4⟩ := append_seg (P := Tryz.prog) (sz := 1) (by' := 8) (ty := ty) (sT := 43) (u_ok rfl) (u_ok rfl) (fun kk h => by cases h) (s_ok rfl) (b_ok rfl) (z_ok rfl) rfl hrow hseg (fun u hu => by simp at hu; subst hu; rfl) (by omega) (by omega)
  exact ⟨v', w', h1, by rw [List.map_append, List.length_append]; exact h2, h3, h4⟩
end Go.Proofs.YtbicffldggcdhaaGreatDoor

namespace Go.Proofs.YtbicffldggcdhaaGreatDoor
open Go

section
variable {n : Int} {P : Par} {ins : Nat → List Ed}
end
section
variable {P : Par} {k : Nat} {c : Cli}
theorem cls_of (hc : P.cl k = some c) : P.cls[k]? = some c := by
  obtain ⟨m, h1, h2⟩ := Par.cl_nat hc
  have : m = k := by omega
  rw [← this]
  exact h2
end
section
variable {n : Int} {P : Par} {ins : Nat → List Ed} {E t k : Nat} {c : Cli}
end
end Go.Proofs.YtbicffldggcdhaaGreatDoor

namespace Go.Proofs.YtbicffldggcdhaaGreatDoor
open Go

set_option maxRecDepth 4000 in
set_option maxHeartbeats 4000000 in
theorem Ordered_ret {PT : PTy} (sp : TreeSpec PT) (cs : CloneSpec PT) {w : World} {v0 : Value} {evs : List Evt} {ea : List Addr} {c l : Int} (hc : Int64 c) (hl : Int64 l) (hU : VScr w v0 evs) (hR : ∀ e ∈ evs, EvRaw e) (hul : evs.length ≤ 2199023255488) (hE : Errs w ea) :
    Rets Tryz.prog 8 [I c, I l, v0] w fun v w' => v = B true ∧ Frm0 w w' := by
  obtain ⟨ua, uc, rfl⟩ := hU.isSl
  have hlt := errs_lt hE
  have hn4 := kpickF_lt (c := c) (n := 4) (by omega)
  have hl8 := kpickF_lt (c := l) (n := 8) (by omega)
  refine rets_of Tryz.func8 (by kernel_rfl) rfl Tryz.ntmps8 (Nat.le_of_ble_eq_true rfl) ?_
  refine runG13 ?_
  refine s_callf (kplay_ret sp cs (col := fun _ => 0) (fun _ _ => rfl) hE hc hl 0) rfl wnt_none ?_
  rintro v w1 ⟨pp, p, col1, rfl, h1, B1, f1⟩
  have T1 : Top w w1 col1 := ⟨f1, fun b hb => B1.old b hb⟩
  have I1 := pinv_play (n := 1 + kpickF c 4) (l := 1 + kpickF l 8) (by omega) (by omega)
  have hes : (Par.mk (1 + kpickF c 4) (1 + kpickF l 8) [root0] [] (List.replicate (1 + kpickF c 4).toNat cli0)).ents = [] := rfl
  have hcl0 : ∀ (m : Nat) d, (Par.mk (1 + kpickF c 4) (1 + kpickF l 8) [root0] [] (List.replicate (1 + kpickF c 4).toNat cli0)).cls[m]? = some d → d.n = 0 := fun m d hm => by
    have : d = cli0 := List.eq_of_mem_replicate (List.mem_of_getElem? hm)
    rw [this]
    rfl
  clear B1
  generalize (Par.mk (1 + kpickF c 4) (1 + kpickF l 8) [root0] [] (List.replicate (1 + kpickF c 4).toNat cli0)) = P1 at *
  generalize 1 + kpickF c 4 = n at *
  refine runG13 ?_
  refine s_val (r_eqpL rfl) wnt_none ?_
  refine runG13 ?_
  refine s_callf (sp.new w1) rfl wnt_none ?_
  rintro v w2 ⟨t, rfl, hT2, f2⟩
  obtain ⟨col2, hc2⟩ : ∃ col2, col2 = paintA col1 w1.heap.size w2.heap.size 1 := ⟨_, rfl⟩
  have o2 : ∀ b, b < w1.heap.size → col2 b = col1 b := fun b hb => by rw [hc2]; exact paintA_old hb
  have hh2 : ∀ b, w2.heap.size ≤ b → col2 b = 0 := by rw [hc2]; exact paintA_hh h1.high f2.size
  have h2 := h1.mine sp f2 (fun _ h => h.elim) o2 hh2
  have T2 := T1.mine f2 (fun _ h => h.elim) o2
  have hF2 : PT w2 t [root0] (fun b => col2 b = 1) := by rw [hc2]; exact pt_new sp hT2 1
  refine runG13 ?_
  refine s_callf (cs hF2) rfl wnt_none ?_
  rintro v w3 ⟨c0, rfl, hT3, f3⟩
  obtain ⟨col3, hc3⟩ : ∃ col3, col3 = paintA col2 w2.heap.size w3.heap.size 2 := ⟨_, rfl⟩
  have o3 : ∀ b, b < w2.heap.size → col3 b = col2 b := fun b hb => by rw [hc3]; exact paintA_old hb
  have hh3 : ∀ b, w3.heap.size ≤ b → col3 b = 0 := by rw [hc3]; exact paintA_hh hh2 f3.size
  have h3 := h2.mine sp f3 (fun _ h => h.elim) o3 hh3
  have T3 := T2.mine f3 (fun _ h => h.elim) o3
  have hF3 := pt_other sp hF2 f3 (fun _ _ h => h) o3
  have hC3 : PT w3 c0 [root0] (fun b => col3 b = 2) := by rw [hc3]; exact pt_new sp hT3 2
  refine s_val (r_bs rfl (bs_tp c0 _)) wnt_none ?_
  have f4 : Frm0 w3 (w3.alloc (cel [Ptr c0] 28)) := Frm.of_alloc _ _
  have hA4 := at_alloc_new w3 (cel [Ptr c0] 28)
  have s4 : (w3.alloc (cel [Ptr c0] 28)).heap.size = w3.heap.size + 1 := World.size_alloc _ _
  generalize w3.alloc (cel [Ptr c0] 28) = w4 at *
  obtain ⟨col4, hc4⟩ : ∃ col4, col4 = paintA col3 w3.heap.size w4.heap.size 3 := ⟨_, rfl⟩
  have o4 : ∀ b, b < w3.heap.size → col4 b = col3 b := fun b hb => by rw [hc4]; exact paintA_old hb
  have hh4 : ∀ b, w4.heap.size ≤ b → col4 b = 0 := by rw [hc4]; exact paintA_hh hh3 f4.size
  have h4 := h3.mine sp f4 (fun _ h => h.elim) o4 hh4
  have T4 := T3.mine f4 (fun _ h => h.elim) o4
  have O4 : OM PT w4 col4 t (.slice (some ⟨w3.heap.size, 0, none⟩) 1 1) [c0] P1.ents := by
    rw [hes]
    refine ⟨pt_other sp hF3 f4 (fun _ _ h => h) o4, .inr ⟨w3.heap.size, 1, [], rfl, hA4, rfl, rfl, Nat.le_refl _⟩, fun b hb => ?_, rfl, fun m u hu => ?_⟩
    · have := inv_new hb
      rw [this, hc4, paintA, if_pos ⟨Nat.le_refl _, by omega⟩]
    · have hm : m = 0 := by have := (List.getElem?_eq_some_iff.1 hu).1; simp at this; exact this
      subst hm
      cases hu
      exact pt_other sp hC3 f4 (fun _ _ h => h) o4
  clear hF2 hF3 hC3 hT2 hT3 h1 h2 h3 T1 T2 T3
  refine runG13 ?_
  have f5 : Frm0 w4 (w4.alloc (cel [I 0, I 0, I 0, I 0] 44)) := Frm.of_alloc _ _
  have hA5 := at_alloc_new w4 (cel [I 0, I 0, I 0, I 0] 44)
  have s5 : (w4.alloc (cel [I 0, I 0, I 0, I 0] 44)).heap.size = w4.heap.size + 1 := World.size_alloc _ _
  generalize w4.alloc (cel [I 0, I 0, I 0, I 0] 44) = w5 at *
  obtain ⟨col5, hc5⟩ : ∃ col5, col5 = paintA col4 w4.heap.size w5.heap.size 4 := ⟨_, rfl⟩
  have o5 : ∀ b, b < w4.heap.size → col5 b = col4 b := fun b hb => by rw [hc5]; exact paintA_old hb
  have hh5 : ∀ b, w5.heap.size ≤ b → col5 b = 0 := by rw [hc5]; exact paintA_hh hh4 f5.size
  have h5 := h4.mine sp f5 (fun _ h => h.elim) o5 hh5
  have T5 := T4.mine f5 (fun _ h => h.elim) o5
  have O5 := O4.other sp f5 (fun _ h => h.elim) o5
  have hnc5 : col5 w4.heap.size = 4 := by rw [hc5, paintA, if_pos ⟨Nat.le_refl _, by omega⟩]
  have hN5 : At w5 w4.heap.size (cel (nxL P1.ents) 44) := by rw [hes]; exact hA5
  generalize w4.heap.size = nb at *
  generalize w3.heap.size = fb0 at *
  clear h4 T4 O4 hc5 o5 hh5 hc4 o4 hh4 hc3 o3 hh3 hc2 o2 hh2 s4 s5 hA4 hA5 f4 f5
  refine lp (fun env w' => ∃ env0, ∃ i : Nat, ∃ P ins col bs fv ts, env = setL env0 [(2, .slice ua evs.length uc), (7, Ptr pp), (8, Ptr t), (9, fv), (10, Ptr nb), (11, I i)] ∧ i ≤ evs.length ∧ PInv i P ∧ PLA PT w' col 0 pp p n P ins bs ∧ Top w w' col ∧ OM PT w' col t fv ts P.ents ∧ At w' nb (cel (nxL P.ents) 44) ∧ col nb = 4 ∧ ∀ (m : Nat) c b, P.cls[m]? = some c → bs[m]? = some b → b ≤ c.n) (fun env _ => evs.length - cnt (env 11)) ?_ ?_
  · refine ⟨_, 0, _, _, col5, _, _, _, fixL ⟨rfl, rfl, rfl, rfl, rfl, rfl, trivial⟩, Nat.zero_le _, I1, h5, T5, O5, hN5, hnc5, fun m d b hm hb => ?_⟩
    rw [hcl0 m d hm]
    have := List.mem_of_getElem? hb
    simp at this
    omega
  · clear h5 T5 O5 hN5 hnc5 I1 hcl0 hes
    rintro env w2 ⟨env0, i, P, ins, col2, bs, fv, ts, rfl, hi, hI, h2, T2, O2, hN2, hnc2, hb2⟩
    obtain ⟨fa, fc, rfl⟩ := O2.row.isSl
    by_cases hil : i < evs.length
    · rcases hU with ⟨⟨_, _, hv⟩, h0⟩ | ⟨sb, so, sc, X, tx, kk, hv, hA0, hX⟩
      · rw [h0] at hil
        exact absurd hil (by simp)
      · obtain ⟨x, hx⟩ : ∃ x, evs[i]? = some x := ⟨evs[i], List.getElem?_eq_getElem hil⟩
        obtain ⟨hx1, hx2, hx3⟩ := hX i x hx
        have hraw := hR x (List.mem_of_getElem? hx)
        have hA := T2.frm.at0 hA0
        cases hv
        have hx1' : so + (i : Int).toNat * 8 + 8 ≤ X.length := by rw [show (i : Int).toNat = i by omega]; exact hx1
        have hx2' : sub X (so + (i : Int).toNat * 8) 8 = x.vals := by rw [show (i : Int).toNat = i by omega]; exact hx2
        have hx3' : X[so + (i : Int).toNat * 8 + 1]? = some (I x.client) := by rw [show (i : Int).toNat = i by omega]; exact hx3 1 (by omega)
        have hB : P.ents.length ≤ 884000000000 := by have := hI.few2 (by omega); omega
        obtain ⟨ev2, iv2, hm2⟩ := h2.m
        obtain ⟨xa, xc, rfl⟩ := hm2.ent.isSl
        have hh2 := hm2.head
        refine runG13 ?_
        refine s_val (r_loadV (u_ok rfl) rfl (s_ok rfl) rfl hA hx1' hx2') wnt_none ?_
        refine s_callf (khap_ret sp cs h2 T2 hE hB hraw) rfl wnt_none ?_
        rintro v w3 ⟨rfl, col3, h3, B3⟩
        have T3 := T2.bd B3
        have O3 := O2.other sp B3.frm (fun b hb => .inr (by omega)) B3.old
        have hN3 := B3.frm.at (fun h9 => by omega) hN2
        have hnc : col3 nb = 4 := by rw [B3.old nb (at_lt hN2)]; exact hnc2
        have hI3 : PInv (i + 1) (hapP P n x) := hI.hap x
        have hB3 : (hapP P n x).ents.length ≤ 884000000000 := by have := hI3.few2 (by omega); omega
        have hle := nle_hap h2.pl.sp n x
        have hbt : ∀ (m : Nat) c b, (hapP P n x).cls[m]? = some c → bs[m]? = some b → b ≤ c.n := fun m c b hm hb => by
          have h8 := h2.pl.len
          have h9 := h3.pl.len
          have hml := (List.getElem?_eq_some_iff.1 hm).1
          have hm0 : m < P.cls.length := by omega
          have := hb2 m _ b (List.getElem?_eq_getElem hm0) hb
          have := hle m _ c (List.getElem?_eq_getElem hm0) hm
          omega
        have hn := h3.pl.nn
        obtain ⟨k, hk, hkn⟩ := hapK_nat hn.1 x
        have hk' : kpickF x.client n = k := hk
        clear h2 T2 O2 hN2 hnc2 hb2 hm2 hh2 hA B3 hle
        obtain ⟨ev3, iv3, hm3⟩ := h3.m
        obtain ⟨za, zc, rfl⟩ := hm3.ent.isSl
        have hh3 := hm3.head
        rcases hap_ents (P := P) (n := n) x with he | ⟨y, _, he⟩
        · have hl3 : (hapP P n x).ents.length = P.ents.length := by rw [he]
          rw [← he] at O3 hN3
          have ht := h3
          have Tt := T3
          have Ot := O3
          have hNt := hN3
          refine runG13 ?_
          obtain ⟨evt, ivt, hmt⟩ := ht.m
          obtain ⟨ya, yc, rfl⟩ := hmt.ent.isSl
          have hht := hmt.head
          refine runG13 ?_
          refine s_callf (kpServer sp cs ht.pty) rfl wnt_none ?_
          rintro v wa ⟨tsv, rfl, hTs, hWs, fa⟩
          have Oa := Ot.frm0 sp fa
          have hha := fa.at0 hht
          rw [ht.pl.sp.t] at hTs hWs
          refine runG13 ?_
          refine s_callf (ksame_self sp hTs Oa.fold hWs) rfl wnt_none ?_
          rintro v wb ⟨rfl, fb⟩
          have Fb := fa.trans0 fb
          have hhb := fb.at0 hha
          have Ab := (Tt.frm0 Fb).frm.at0 hA0
          have fd : Frm0 wb wb.drew := Frm.of_drew _
          have Fd := Fb.trans0 fd
          refine runG13 ?_
          refine w_drawn [(0, false), (1, false), (2, false), (3, false), (4, false), (5, false), (6, false), (7, false), (8, false)] [9, 10] (fun wq => Frm0 wb wq) mixed (by kernel_rfl) ?_ ?_
          · exact fd
          · refine runG13 ?_
            refine x_q rfl (fun wq hq => r_load (u_ok rfl) rfl rfl (hq.at0 Ab) hx3') wnt_none ?_
            refine runG13 ?_
            refine y_callf rfl (kpick_ret hraw.2.1 (n := n) (by omega) _) rfl wnt_none ?_
            rintro v wb' ⟨rfl, rfl⟩
            rw [hk']
            have hd1 := ht.frm0 sp Fd
            have Td := Tt.frm0 Fd
            have hhd := Fd.at0 hht
            obtain ⟨d, hd⟩ := ht.pl.get (k := k) (by omega) hkn
            have hsc := ht.pl.sp.get hd
            have hdn := hsc.n0
            have hol := Ot.len
            have hk4 : k < bs.length := by rw [hmt.bl]; omega
            obtain ⟨bk, hbk⟩ : ∃ bk, bs[k]? = some bk := ⟨bs[k], List.getElem?_eq_getElem hk4⟩
            have hbd := hbt k d bk (cls_of hd) hbk
            have hge : (Ptr p :: I n :: .slice ya (hapP P n x).ents.length yc :: (ivt ++ bs.map I))[0 + 7 + (k : Int).toNat * 1]? = some (I bk) := by
              rw [show 0 + 7 + (k : Int).toNat * 1 = 7 + k by omega]
              exact pl_getB hmt.il (by rw [List.getElem?_map, hbk]; rfl)
            refine runG13 ?_
            refine s_callf (kpBase sp cs hd1.pty (Td.errs hE) hd) rfl wnt_none ?_
            rintro v we ⟨tb, rfl, hTb, hWb, fe⟩
            have Fe := Fd.trans0 fe
            have hhe := fe.at0 hhd
            have he1 := ht.frm0 sp Fe
            have Te := Tt.frm0 Fe
            have Oe := Ot.frm0 sp Fe
            have hme := hmt.frm0 Fe
            rw [hsc.bs] at hTb hWb
            clear hhd
            refine runG13 ?_
            refine s_val (r_nnF rfl) wnt_none ?_
            refine runG13 ?_
            refine s_val (r_load (u_ok rfl) rfl rfl hhe hge) (by (first | (with_reducible exact wnt_none) | ((with_reducible apply wnt_y); exact rfl; exact rfl; exact rfl; exact rfl; (with_reducible exact rfl)))) ?_
            refine runG13 ?_
            refine s_skip (r_store_i (s_ok rfl) rfl rfl hhe (by rw [show 0 + 7 + (k : Int).toNat * 1 = 7 + k by omega]; simp [hmt.il]; omega)) wnt_none ?_
            rw [show 0 + 7 + (k : Int).toNat * 1 = 7 + k by omega, pl_setB hmt.il, ← List.map_set]
            obtain ⟨hmf, gf, ff⟩ := hme.base (k := k) (x := d.n) he1.high
            have hf1 : PLA PT _ _ 0 pp p n (hapP P n x) (hapI P ins n x) (bs.set k d.n) := ⟨⟨_, _, hmf⟩, he1.pty.other sp ff (fun b h7 h8 h9 => by omega) gf.old gf.high, he1.pl⟩
            have Tf := Te.bd gf
            have Of := Oe.other sp ff (fun b hb => .inr (by omega)) (fun _ _ => rfl)
            have hNf := ff.at (fun h9 => by have := hnc; omega) ((Fe.at0 hNt))
            have hTf := sp.frm (sp.weak (S' := fun b => wb.drew.heap.size ≤ b ∧ b < we.heap.size) hTb (fun b h1 h2 => ⟨h1, h2⟩)) ff (fun b h1 h2 => by have := hd1.high b h1.1; omega)
            clear he1 Te Oe hme hhe hTb gf ff
            generalize setB we pp (cel (Ptr p :: I n :: .slice ya (hapP P n x).ents.length yc :: (ivt ++ (bs.set k d.n).map I)) 49) = wf at *
            obtain ⟨u, hu⟩ : ∃ u, ts[d.n.toNat]? = some u := ⟨ts[d.n.toNat]'(by omega), List.getElem?_eq_getElem _⟩
            obtain ⟨fb1, fcap, frest, e9, hfA⟩ := rowk_at Of.row (by omega)
            cases e9
            have hgf : ((ts.map fun u => Ptr u) ++ frest)[0 + d.n.toNat * 1]? = some (Ptr u) := by
              rw [Nat.zero_add, Nat.mul_one, List.getElem?_append_left (by rw [List.length_map]; omega), List.getElem?_map, hu]
              rfl
            refine runG13 ?_
            refine s_val (r_load (u_ok rfl) rfl rfl hfA hgf) wnt_none ?_
            refine s_callf (ksame_self sp hTf (Of.tr _ u hu) hWb) rfl wnt_none ?_
            rintro v wg ⟨rfl, fg⟩
            refine runG13 ?_
            refine ⟨_, rfl, ⟨_, i + 1, _, _, _, _, _, _, fixL ⟨rfl, rfl, rfl, rfl, rfl, rfl, trivial⟩, by omega, hI3, hf1.frm0 sp fg, Tf.frm0 fg, Of.frm0 sp fg, fg.at0 hNf, hnc, fun m c b hm hb => ?_⟩, by show evs.length - ((i : Int) + 1).toNat < evs.length - (i : Int).toNat; omega⟩
            by_cases hmk : k = m
            · subst hmk
              rw [List.getElem?_set_self hk4] at hb
              cases hb
              rw [cls_of hd] at hm
              cases hm
              exact Int.le_refl _
            · rw [List.getElem?_set_ne hmk] at hb
              exact hbt m c b hm hb
        · have hl3 : (hapP P n x).ents.length = P.ents.length + 1 := by rw [he]; simp
          obtain ⟨k1, hk1, hk1n, hys, hin, hyd⟩ := h3.pl.newest he
          obtain ⟨yc, ys, ye, yd⟩ := y
          have hk1 : yc = k1 := hk1
          have hys : ys = (mine P.ents k1).length + 1 := hys
          have hin : (hapI P ins n x k1)[(mine P.ents k1).length]? = some ye := hin
          have hyd : yd = decide (refused (foldE P.ents) ye = 0) := hyd
          subst hk1 hys
          have hyi : (hapP P n x).ents[P.ents.length]? = some ⟨k1, (mine P.ents k1).length + 1, ye, yd⟩ := by rw [he]; simp
          obtain ⟨zb, zcap, zrest, e9, hzA⟩ := rowk_at hm3.ent (by omega)
          cases e9
          have hlenY := fl_lenK (f := Ent.vals) (k := 9) (fun _ => rfl) hyi zrest (o := (P.ents.length : Int).toNat * 9) (by omega)
          have hsubY := fl_subK (f := Ent.vals) (k := 9) (fun _ => rfl) hyi zrest (o := (P.ents.length : Int).toNat * 9) (by omega)
          have hml : (mine P.ents k1).length ≤ P.ents.length := List.length_filter_le _ _
          refine runG13 ?_
          refine s_val (r_loadV (vs := Ent.vals ⟨k1, (mine P.ents k1).length + 1, ye, yd⟩) (u_ok rfl) rfl (s_ok rfl) rfl hzA hlenY hsubY) wnt_none ?_
          refine runG13 ?_
          refine s_skip (r_storeAll (vs := Ent.vals ⟨k1, (mine P.ents k1).length + 1, ye, yd⟩) (s_ok rfl) rfl rfl (ent_one _) (at_alloc_new w3 _) rfl) wnt_none ?_
          have he4 := at_setB (cel (Ent.vals ⟨k1, (mine P.ents k1).length + 1, ye, yd⟩) 54) (at_alloc_new w3 (cel [I 0, I 0, I 0, I 0, I 0, I 0, I 0, I 0, B false] 54))
          have f4 : Frm0 w3 (setB (w3.alloc (cel [I 0, I 0, I 0, I 0, I 0, I 0, I 0, I 0, B false] 54)) w3.heap.size (cel (Ent.vals ⟨k1, (mine P.ents k1).length + 1, ye, yd⟩) 54)) := (Frm.of_alloc w3 _).setB (.inr (Nat.le_refl _)) _
          have hxc : col3 w3.heap.size = 0 := h3.high _ (Nat.le_refl _)
          generalize setB (w3.alloc (cel [I 0, I 0, I 0, I 0, I 0, I 0, I 0, I 0, B false] 54)) w3.heap.size (cel (Ent.vals ⟨k1, (mine P.ents k1).length + 1, ye, yd⟩) 54) = w4 at *
          generalize w3.heap.size = xb at *
          have he4 : At w4 xb (cel [I k1, I ((mine P.ents k1).length + 1), I ye.kind, I ye.node, I ye.parent, I ye.key, I ye.prop, I ye.value, B yd] 54) := he4
          have h4 := h3.frm0 sp f4
          have T4 := T3.frm0 f4
          have O4 := O3.frm0 sp f4
          have hN4 := f4.at0 hN3
          have hh4 := f4.at0 hh3
          have hm4 := hm3.frm0 f4
          clear h3 T3 O3 hN3 hh3 hm3 f4 hzA
          have hk4 : k1 < iv3.length := by rw [hm4.il]; omega
          obtain ⟨u, hu⟩ : ∃ u, iv3[k1]? = some u := ⟨iv3[k1], List.getElem?_eq_getElem hk4⟩
          have hru := (hm4.row k1 u hu).1
          have hinl := (List.getElem?_eq_some_iff.1 hin).1
          obtain ⟨ub, ucap, urest, rfl, huA⟩ := rowk_at hru (by omega)
          have hgu : (Ptr p :: I n :: .slice (some ⟨zb, 0, none⟩) (hapP P n x).ents.length zc :: (iv3 ++ bs.map I))[0 + 3 + (k1 : Int).toNat * 1]? = some (.slice (some ⟨ub, 0, none⟩) (hapI P ins n x k1).length ucap) := by rw [show 0 + 3 + (k1 : Int).toNat * 1 = 3 + k1 by omega]; exact pl_get hu
          have hgn := nxL_get (es := P.ents) (k := k1) (o := (k1 : Int).toNat) (by omega) (by omega)
          have e3 := fl_lenK (f := Ed.vals) (k := 6) (fun _ => rfl) hin urest (o := (((mine P.ents k1).length : Int) + 1 - 1).toNat * 6) (by omega)
          have e4 := fl_subK (f := Ed.vals) (k := 6) (fun _ => rfl) hin urest (o := (((mine P.ents k1).length : Int) + 1 - 1).toNat * 6) (by omega)
          have fd4 : Frm0 w4 w4.drew := Frm.of_drew _
          refine runG13 ?_
          refine w_drawn ((0, false) :: (1, false) :: (2, false) :: (3, false) :: (4, false) :: (5, false) :: (6, false) :: (7, false) :: (8, false) :: (9, false) :: (10, false) :: (11, false) :: (12, false) :: (13, false) :: (14, false) :: (15, false) :: (16, false) :: (17, false) :: (18, false) :: (19, false) :: (20, false) :: (21, false) :: (22, false) :: (23, false) :: (24, false) :: (25, false) :: (26, false) :: (27, false) :: (28, false) :: (29, false) :: (30, false) :: (31, false) :: (32, false) :: (33, false) :: (34, false) :: (35, false) :: (36, false) :: (37, false) :: (38, false) :: (39, false) :: (40, false) :: (41, false) :: (42, false) :: (43, false) :: (44, false) :: (45, false) :: (46, false) :: (47, false) :: (48, false) :: (49, false) :: (50, false) :: (51, false) :: []) [] (fun wq => Frm0 w4 wq) mixed (by kernel_rfl) ?_ ?_
          · exact fd4
          · refine runG13 ?_
            refine x_q rfl (fun wq hq => r_load (u_ok rfl) rfl rfl (hq.at0 hN4) hgn) (by (first | (with_reducible exact wnt_none) | ((with_reducible apply wnt_y); exact rfl; exact rfl; exact rfl; exact rfl; (with_reducible exact rfl)))) ?_
            refine runG13 ?_
            refine x_q rfl (fun wq hq => r_load (u_ok rfl) rfl rfl (hq.at0 hh4) hgu) (by (first | (with_reducible exact wnt_none) | ((with_reducible apply wnt_y); exact rfl; exact rfl; exact rfl; exact rfl; (with_reducible exact rfl)))) ?_
            refine runG13 ?_
            refine x_q rfl (fun wq hq => r_load (u_ok rfl) rfl rfl (hq.at0 hh4) hgu) (by (first | (with_reducible exact wnt_none) | ((with_reducible apply wnt_y); exact rfl; exact rfl; exact rfl; exact rfl; (with_reducible exact rfl)))) ?_
            refine runG13 ?_
            refine x_q rfl (fun wq hq => r_loadV (vs := ye.vals) (u_ok rfl) rfl (s_ok rfl) rfl (hq.at0 huA) e3 e4) (by (first | (with_reducible exact wnt_none) | ((with_reducible apply wnt_y); exact rfl; exact rfl; exact rfl; exact rfl; (with_reducible exact rfl)))) ?_
            refine x_q rfl (fun wq hq => r_ne_edK (n := ye) rfl rfl) (by (first | (with_reducible exact wnt_none) | ((with_reducible apply wnt_y); exact rfl; exact rfl; exact rfl; exact rfl; (with_reducible exact rfl)))) ?_
            refine runG13 ?_
            have h5 := h4.frm0 sp fd4
            have T5 := T4.frm0 fd4
            have O5 := O4.frm0 sp fd4
            have hN5 := fd4.at0 hN4
            have he5 := fd4.at0 he4
            have hhi5 := h5.high
            clear h4 T4 O4 hN4 hh4 hm4 he4 huA hru fd4
            generalize w4.drew = w5 at *
            refine runG13 ?_
            refine s_val (r_load (u_ok rfl) rfl rfl hN5 hgn) wnt_none ?_
            refine runG13 ?_
            refine s_skip (r_store_i (s_ok rfl) rfl rfl hN5 (by rw [show 0 + (k1 : Int).toNat * 1 = k1 by omega]; show k1 < 4; omega)) wnt_none ?_
            rw [nxL_set (es := P.ents) (y := ⟨k1, (mine P.ents k1).length + 1, ye, yd⟩) (k := k1) (by omega) (by omega) rfl]
            have f6 : Frm (fun b => b = nb) w5 (setB w5 nb (cel (nxL (P.ents ++ [⟨k1, (mine P.ents k1).length + 1, ye, yd⟩])) 44)) := (Frm.refl (fun b => b = nb) w5).setB (b := nb) (.inl rfl) _
            have hN6 := at_setB (cel (nxL (P.ents ++ [⟨k1, (mine P.ents k1).length + 1, ye, yd⟩])) 44) hN5
            have s6 : (setB w5 nb (cel (nxL (P.ents ++ [⟨k1, (mine P.ents k1).length + 1, ye, yd⟩])) 44)).heap.size = w5.heap.size := size_setB ..
            have hhi6 : ∀ b, (setB w5 nb (cel (nxL (P.ents ++ [⟨k1, (mine P.ents k1).length + 1, ye, yd⟩])) 44)).heap.size ≤ b → col3 b = 0 := fun b hb => hhi5 b (by omega)
            have h6 := h5.mine sp f6 (fun b hb => by rw [hb, hnc]; decide) (fun _ _ => rfl) hhi6
            have T6 := T5.mine f6 (fun b hb => by rw [hb, hnc]; decide) (fun _ _ => rfl)
            have O6 := O5.other sp f6 (fun b hb => .inr (by rw [hb, hnc]; decide)) (fun _ _ => rfl)
            have he6 := f6.at (fun h9 => by rw [h9] at hxc; omega) he5
            generalize setB w5 nb (cel (nxL (P.ents ++ [⟨k1, (mine P.ents k1).length + 1, ye, yd⟩])) 44) = w6 at *
            clear h5 T5 O5 hN5 he5 hhi5 f6 s6
            refine runG13 ?_
            refine s_callf (sp.apply ye O6.fold (wf_foldE P.ents) (T6.errs hE) (fun g hg h9 => by have := T6.low g (hlt.1 g hg); omega) (fun a ha h9 => by have := T6.low _ (hlt.2 a ha); omega)) rfl wnt_none ?_
            rintro v w7 ⟨hv, hT7, f7, _⟩
            refine s_val (r_assign (v := v) rfl) wnt_none ?_
            rw [show applyL (foldE P.ents) ye = foldE (P.ents ++ [⟨k1, (mine P.ents k1).length + 1, ye, yd⟩]) from foldE_apply (es := P.ents) (y := ⟨k1, (mine P.ents k1).length + 1, ye, yd⟩) hyd] at hT7
            have he7 := f7.at (fun h9 => by omega) he6
            have fd7 : Frm0 w7 w7.drew := Frm.of_drew _
            have hT7d := sp.frm hT7 fd7 (fun _ _ h => h)
            refine runG13 ?_
            refine w_drawn [(0, false), (1, false), (2, false), (3, false), (4, false)] [] (fun wq => Frm0 w7 wq) mixed (by kernel_rfl) ?_ ?_
            · exact fd7
            · refine runG13 ?_
              refine x_q rfl (fun wq hq => r_move (v := v) rfl) wnt_none ?_
              refine x_q rfl (fun wq hq => r_nnD hv rfl) wnt_none ?_
              refine x_q rfl (fun wq hq => r_ne_bool (a := yd) (b := decide (refused (foldE P.ents) ye = 0)) (c := false) rfl rfl (by rw [← hyd]; simp)) wnt_none ?_
              refine runG13 ?_
              refine s_callf (cs hT7d) rfl wnt_none ?_
              rintro v2 w8 ⟨c9, rfl, hC8, f8⟩
              refine s_val (r_bs rfl (bs_tp c9 _)) wnt_none ?_
              have f9 : Frm0 w8 (w8.alloc (cel [Ptr c9] 28)) := Frm.of_alloc _ _
              have hrow := (O6.row.frm f7 (fun b hb h9 => by have := O6.rc b hb; omega)).frm ((fd7.trans0 f8).trans0 f9) (fun _ _ h => h)
              obtain ⟨v9, wt, e9, r9, f10, n10⟩ := append_tp (ty := 43) (c := c9) hrow (seg_new rfl) (by have := O6.len; omega)
              refine s_val (r_app rfl rfl e9) wnt_none ?_
              obtain ⟨colt, Ot, ot, hhit, Ft⟩ := O6.snoc sp h6.high f7 hT7 (fd7.trans0 f8) hC8 f9 f10 r9 n10
              obtain ⟨fa9, fc9, rfl⟩ := r9.isSl
              have hNt : At wt nb (cel (nxL (hapP P n x).ents) 44) := by rw [he]; exact Ft.at (fun h9 => by omega) hN6
              rw [← he] at Ot
              have ht := h6.mine sp Ft (fun b hb => by omega) ot hhit
              have Tt := T6.mine Ft (fun b hb => by omega) ot
              have hnc : colt nb = 4 := by rw [ot nb (at_lt hN6)]; exact hnc
              clear h6 T6 O6 hN6 he6 he7 hT7 hT7d f7 f8 f9 f10 fd7 hC8 hrow e9 r9 n10 Ft hv hhi6
              obtain ⟨evt, ivt, hmt⟩ := ht.m
              obtain ⟨ya, yc, rfl⟩ := hmt.ent.isSl
              have hht := hmt.head
              refine runG13 ?_
              refine s_callf (kpServer sp cs ht.pty) rfl wnt_none ?_
              rintro v wa ⟨tsv, rfl, hTs, hWs, fa⟩
              have Oa := Ot.frm0 sp fa
              have hha := fa.at0 hht
              rw [ht.pl.sp.t] at hTs hWs
              refine runG13 ?_
              refine s_callf (ksame_self sp hTs Oa.fold hWs) rfl wnt_none ?_
              rintro v wb ⟨rfl, fb⟩
              have Fb := fa.trans0 fb
              have hhb := fb.at0 hha
              have Ab := (Tt.frm0 Fb).frm.at0 hA0
              have fd : Frm0 wb wb.drew := Frm.of_drew _
              have Fd := Fb.trans0 fd
              refine runG13 ?_
              refine w_drawn [(0, false), (1, false), (2, false), (3, false), (4, false), (5, false), (6, false), (7, false), (8, false)] [9, 10] (fun wq => Frm0 wb wq) mixed (by kernel_rfl) ?_ ?_
              · exact fd
              · refine runG13 ?_
                refine x_q rfl (fun wq hq => r_load (u_ok rfl) rfl rfl (hq.at0 Ab) hx3') wnt_none ?_
                refine runG13 ?_
                refine y_callf rfl (kpick_ret hraw.2.1 (n := n) (by omega) _) rfl wnt_none ?_
                rintro v wb' ⟨rfl, rfl⟩
                rw [hk']
                have hd1 := ht.frm0 sp Fd
                have Td := Tt.frm0 Fd
                have hhd := Fd.at0 hht
                obtain ⟨d, hd⟩ := ht.pl.get (k := k) (by omega) hkn
                have hsc := ht.pl.sp.get hd
                have hdn := hsc.n0
                have hol := Ot.len
                have hk4 : k < bs.length := by rw [hmt.bl]; omega
                obtain ⟨bk, hbk⟩ : ∃ bk, bs[k]? = some bk := ⟨bs[k], List.getElem?_eq_getElem hk4⟩
                have hbd := hbt k d bk (cls_of hd) hbk
                have hge : (Ptr p :: I n :: .slice ya (hapP P n x).ents.length yc :: (ivt ++ bs.map I))[0 + 7 + (k : Int).toNat * 1]? = some (I bk) := by
                  rw [show 0 + 7 + (k : Int).toNat * 1 = 7 + k by omega]
                  exact pl_getB hmt.il (by rw [List.getElem?_map, hbk]; rfl)
                refine runG13 ?_
                refine s_callf (kpBase sp cs hd1.pty (Td.errs hE) hd) rfl wnt_none ?_
                rintro v we ⟨tb, rfl, hTb, hWb, fe⟩
                have Fe := Fd.trans0 fe
                have hhe := fe.at0 hhd
                have he1 := ht.frm0 sp Fe
                have Te := Tt.frm0 Fe
                have Oe := Ot.frm0 sp Fe
                have hme := hmt.frm0 Fe
                rw [hsc.bs] at hTb hWb
                clear hhd
                refine runG13 ?_
                refine s_val (r_nnF rfl) wnt_none ?_
                refine runG13 ?_
                refine s_val (r_load (u_ok rfl) rfl rfl hhe hge) (by (first | (with_reducible exact wnt_none) | ((with_reducible apply wnt_y); exact rfl; exact rfl; exact rfl; exact rfl; (with_reducible exact rfl)))) ?_
                refine runG13 ?_
                refine s_skip (r_store_i (s_ok rfl) rfl rfl hhe (by rw [show 0 + 7 + (k : Int).toNat * 1 = 7 + k by omega]; simp [hmt.il]; omega)) wnt_none ?_
                rw [show 0 + 7 + (k : Int).toNat * 1 = 7 + k by omega, pl_setB hmt.il, ← List.map_set]
                obtain ⟨hmf, gf, ff⟩ := hme.base (k := k) (x := d.n) he1.high
                have hf1 : PLA PT _ _ 0 pp p n (hapP P n x) (hapI P ins n x) (bs.set k d.n) := ⟨⟨_, _, hmf⟩, he1.pty.other sp ff (fun b h7 h8 h9 => by omega) gf.old gf.high, he1.pl⟩
                have Tf := Te.bd gf
                have Of := Oe.other sp ff (fun b hb => .inr (by omega)) (fun _ _ => rfl)
                have hNf := ff.at (fun h9 => by have := hnc; omega) ((Fe.at0 hNt))
                have hTf := sp.frm (sp.weak (S' := fun b => wb.drew.heap.size ≤ b ∧ b < we.heap.size) hTb (fun b h1 h2 => ⟨h1, h2⟩)) ff (fun b h1 h2 => by have := hd1.high b h1.1; omega)
                clear he1 Te Oe hme hhe hTb gf ff
                generalize setB we pp (cel (Ptr p :: I n :: .slice ya (hapP P n x).ents.length yc :: (ivt ++ (bs.set k d.n).map I)) 49) = wf at *
                obtain ⟨u, hu⟩ : ∃ u, (ts ++ [c9])[d.n.toNat]? = some u := ⟨(ts ++ [c9])[d.n.toNat]'(by omega), List.getElem?_eq_getElem _⟩
                obtain ⟨fb1, fcap, frest, e9, hfA⟩ := rowk_at Of.row (by omega)
                cases e9
                have hgf : (((ts ++ [c9]).map fun u => Ptr u) ++ frest)[0 + d.n.toNat * 1]? = some (Ptr u) := by
                  rw [Nat.zero_add, Nat.mul_one, List.getElem?_append_left (by rw [List.length_map]; omega), List.getElem?_map, hu]
                  rfl
                refine runG13 ?_
                refine s_val (r_load (u_ok rfl) rfl rfl hfA hgf) wnt_none ?_
                refine s_callf (ksame_self sp hTf (Of.tr _ u hu) hWb) rfl wnt_none ?_
                rintro v wg ⟨rfl, fg⟩
                refine runG13 ?_
                refine ⟨_, rfl, ⟨_, i + 1, _, _, _, _, _, _, fixL ⟨rfl, rfl, rfl, rfl, rfl, rfl, trivial⟩, by omega, hI3, hf1.frm0 sp fg, Tf.frm0 fg, Of.frm0 sp fg, fg.at0 hNf, hnc, fun m c b hm hb => ?_⟩, by show evs.length - ((i : Int) + 1).toNat < evs.length - (i : Int).toNat; omega⟩
                by_cases hmk : k = m
                · subst hmk
                  rw [List.getElem?_set_self hk4] at hb
                  cases hb
                  rw [cls_of hd] at hm
                  cases hm
                  exact Int.le_refl _
                · rw [List.getElem?_set_ne hmk] at hb
                  exact hbt m c b hm hb
    · refine runG13 ?_
      exact ret_b rfl rfl ⟨rfl, T2.frm⟩
end Go.Proofs.YtbicffldggcdhaaGreatDoor
