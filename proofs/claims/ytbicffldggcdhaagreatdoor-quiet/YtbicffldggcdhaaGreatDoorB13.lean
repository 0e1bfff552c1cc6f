/-
  WK8; WK9; WK10; WK11; WK14.
-/
import Derived.Test.YtbicffldggcdhaaGreatDoorB12
import Derived.Test.YtbicffldggcdhaaGreatDoorB08
namespace Go.Proofs.YtbicffldggcdhaaGreatDoor
open Go
theorem runG13 {G K : Prop} (k : K) (h : Wrap K → G := by intro h; (repeat (first | (with_reducible first | refine wpIn_seq ?_ | refine w_reg ?_ | refine s_nil ?_ | refine s_nilQ ?_ | refine wpIn_block ?_ | refine q_then ?_ | refine q_blk ?_ | refine q_then_ret ?_ | refine q_blk_ret ?_ | refine q_then_exit ?_ | refine q_blk_exit ?_ | refine wpIn_skip ?_ | refine wpIn_ret ?_ | refine wpIn_exit ?_ | refine y_nil ?_ | refine y_nilQ ?_ | refine x_late ?_) | ((with_reducible refine q_blk_other ?_ ?_); exact rfl) | ((with_reducible apply c_true); exact rfl; (with_reducible exact rfl)) | ((with_reducible apply c_false); exact rfl; (with_reducible exact rfl)) | ((with_reducible apply s_no); (first | ((with_reducible apply wnt_nt); exact rfl; exact rfl; exact rfl; exact rfl; (with_reducible exact rfl)) | ((with_reducible apply wnt_nf); exact rfl; exact rfl; exact rfl; exact rfl; (with_reducible exact rfl)))) | ((with_reducible apply x_qno); exact rfl; (first | ((with_reducible apply wnt_nt); exact rfl; exact rfl; exact rfl; exact rfl; (with_reducible exact rfl)) | ((with_reducible apply wnt_nf); exact rfl; exact rfl; exact rfl; exact rfl; (with_reducible exact rfl)))) | ((first | with_reducible apply s_val | ((with_reducible apply y_val); exact rfl) | ((with_reducible apply x_q); exact rfl; intro wq hq)); (first | ((with_reducible apply r_boxA); exact rfl) | ((with_reducible apply r_box1); exact rfl; exact rfl) | ((with_reducible apply r_assign_b); exact rfl) | ((with_reducible apply r_fld); exact fa_ok rfl; exact rfl) | ((with_reducible apply r_load); exact u_ok rfl; exact rfl; exact rfl; (first | exact Frm.at0 hq (by assumption) | exact Frm.at hq (by assumption) (by assumption) | (first | (with_reducible assumption) | assumption | exact at_alloc_new _ _ | (repeat (first | assumption | exact at_alloc_new _ _ | refine at_drew ?_ | refine at_alloc _ ?_)))); exact rfl) | ((with_reducible apply r_move_p); exact rfl) | ((with_reducible apply r_nilCheck); exact rfl) | ((with_reducible apply r_assign_i); exact rfl) | ((with_reducible apply r_lss_t); exact rfl; exact rfl; omega) | ((with_reducible apply r_lss_f); exact rfl; exact rfl; omega) | ((with_reducible apply r_lss); exact rfl; exact rfl) | ((with_reducible apply r_loadA); exact u_ok rfl; exact rfl; exact s_ok rfl; exact rfl; (first | exact Frm.at0 hq (by assumption) | exact Frm.at hq (by assumption) (by assumption) | (first | (with_reducible assumption) | assumption | exact at_alloc_new _ _ | (repeat (first | assumption | exact at_alloc_new _ _ | refine at_drew ?_ | refine at_alloc _ ?_)))); exact Nat.le_of_ble_eq_true rfl) | ((with_reducible apply r_allocA); exact z_ok rfl) | ((with_reducible apply r_alloc1); exact z_ok rfl; exact rfl) | ((with_reducible apply r_move_i); exact rfl) | ((with_reducible apply r_move_t); exact rfl) | ((with_reducible apply r_extract); exact rfl; exact rfl) | ((with_reducible apply r_assign_s); exact rfl) | ((with_reducible apply r_assign_if); exact rfl) | ((with_reducible apply r_assign_ni); exact rfl) | ((with_reducible apply r_move_if); exact rfl) | ((with_reducible apply r_move_ni); exact rfl) | ((with_reducible apply r_neq_t); exact rfl; exact rfl; omega) | ((with_reducible apply r_neq_f); exact rfl; exact rfl; omega) | ((with_reducible apply r_neq); exact rfl; exact rfl) | ((with_reducible apply r_move_b); exact rfl) | ((with_reducible apply r_eql_t); exact rfl; exact rfl; omega) | ((with_reducible apply r_eql_f); exact rfl; exact rfl; omega) | ((with_reducible apply r_eql); exact rfl; exact rfl) | ((with_reducible apply r_move_s); exact rfl) | ((with_reducible apply r_len); exact u_ok rfl; exact rfl) | ((with_reducible apply r_pick_t); exact rfl; (with_reducible exact rfl); exact rfl) | ((with_reducible apply r_pick_f); exact rfl; (with_reducible exact rfl); exact rfl) | ((with_reducible apply r_index); exact u_ok rfl; exact s_ok rfl; exact rfl; exact rfl; omega; omega) | ((with_reducible apply r_indexarr); exact u_ok rfl; exact s_ok rfl; exact rfl; exact rfl; omega; omega) | ((with_reducible apply r_add); exact rfl; exact rfl; omega; omega) | ((with_reducible apply r_not_t); exact rfl; (with_reducible exact rfl)) | ((with_reducible apply r_not_f); exact rfl; (with_reducible exact rfl)) | ((with_reducible apply r_not); exact rfl) | ((with_reducible apply r_assign_p); exact rfl)); (first | (with_reducible exact wnt_none) | ((with_reducible apply wnt_y); exact rfl; exact rfl; exact rfl; exact rfl; (with_reducible exact rfl)))))); exact h.out) : G := h ⟨k⟩

theorem keditF_right {e : Ed} : wrongB (keditF e) = false := by
  have h1 := kpickF_lt (c := e.kind) (n := 4) (by omega)
  have h2 := kpickF_lt (c := e.node) (n := 40) (by omega)
  have h3 := kpickF_lt (c := e.parent) (n := 40) (by omega)
  have h4 := kpickF_lt (c := e.key) (n := 1001) (by omega)
  have h5 := kpickF_lt (c := e.prop) (n := 4) (by omega)
  have h6 := kpickF_lt (c := e.value) (n := 1000001) (by omega)
  have a : inB (kpickF e.node 40) 1000 = true := decide_eq_true (by omega)
  have b : inB (kpickF e.parent 40) 1000 = true := decide_eq_true (by omega)
  have c : inB (kpickF e.key 1001) 1000 = true := decide_eq_true (by omega)
  have d : inB (kpickF e.prop 4) 3 = true := decide_eq_true (by omega)
  have f : inB (kpickF e.value 1000001) 1000000 = true := decide_eq_true (by omega)
  unfold wrongB
  simp only [keditF, a, b, c, d, f]
  repeat' split
  all_goals first | rfl | (exfalso; omega)
theorem editP_is {P : Par} {k : Int} {c : Cli} {e : Ed} (hc : P.cl k = some c) (he : wrongB e = false) : ((editP P k e).1 = 0 ↔ c.pend.length < 6) := by
  unfold editP
  rw [hc]
  simp only [he]
  rw [if_neg (by simp)]
  split
  · exact ⟨fun h => (by cases h), fun h => (by omega)⟩
  · exact ⟨fun _ => (by omega), fun _ => rfl⟩
theorem insE_no {ins : Nat → List Ed} {k z : Nat} {e : Ed} (h : z ≠ 0) : insE ins k z e = ins := by
  funext j
  rw [insE, if_neg (fun q => h q.2)]
theorem insE_at {ins : Nat → List Ed} {k z : Nat} {e : Ed} (h : z = 0) : insE ins k z e k = ins k ++ [e] := by rw [insE, if_pos ⟨rfl, h⟩]
theorem insE_ne {ins : Nat → List Ed} {k z i : Nat} {e : Ed} (h : i ≠ k) : insE ins k z e i = ins i := by rw [insE, if_neg (fun q => h q.1)]
abbrev EvV (x : Evt) : Value := .agg x.vals.toArray
section
variable {PT : PTy} {w0 w w' : World} {col col' : Nat → Nat} {i j pp p : Nat} {n : Int} {P P' : Par} {ins : Nat → List Ed} {bs : List Int} {ea : List Addr}
set_option maxRecDepth 4000 in
set_option maxHeartbeats 2000000 in
theorem khap_ret (sp : TreeSpec PT) (cs : CloneSpec PT) (h : PLA PT w col j pp p n P ins bs) (hT : Top w0 w col) (hE : Errs w0 ea) (hB : P.ents.length ≤ 884000000000) {x : Evt} (hx : EvRaw x) :
    Rets Tryz.prog 23 [Ptr pp, EvV x] w fun v w' => v = B true ∧ ∃ col', PLA PT w' col' j pp p n (hapP P n x) (hapI P ins n x) bs ∧ Bd j w w' col col' := by
  have f1 : Frm0 w (w.alloc (cel x.vals 52)) := Frm.of_alloc _ _
  have hx1 := at_alloc_new w (cel x.vals 52)
  have hn := h.pl.nn
  have hkl := kpickF_lt (c := x.client) (n := n) (by omega)
  obtain ⟨k, hk, hkn⟩ := hapK_nat hn.1 x
  have hkk : kpickF x.client n = k := hk
  obtain ⟨c, hc⟩ := h.pl.get (k := k) (by omega) hkn
  obtain ⟨hxk, hxc, hxe⟩ := hx
  refine rets_of Tryz.func23 (by kernel_rfl) rfl Tryz.ntmps23 (Nat.le_of_ble_eq_true rfl) ?_
  refine runG13 ?_
  generalize w.heap.size = xb at hx1 ⊢
  have h1 := h.frm0 sp f1
  have T1 := hT.frm0 f1
  have B1 : Bd j w _ col col := Bd.frm0 h.high f1
  generalize w.alloc (cel x.vals 52) = w1 at *
  clear f1
  obtain ⟨⟨ev1, iv1, hm1⟩, hk1, hpl⟩ := h1
  have hh1 := hm1.head
  refine w_drawn [(0, false), (1, false), (2, false), (3, false), (4, false), (5, false)] [6, 7] (fun wq => Frm0 w1 wq) mixed (by kernel_rfl) ?_ ?_
  · exact Frm.of_drew _
  · refine runG13 ?_
    refine y_callf rfl (kpick_ret hxc (n := n) (by omega) _) rfl wnt_none ?_
    rintro v w2' ⟨rfl, rfl⟩
    rw [hkk]
    refine runG13 ?_
    have f2 : Frm0 w1 w1.drew := Frm.of_drew _
    have hx2 := f2.at0 hx1
    have hk2 := hk1.frm0 sp f2
    have hm2 := hm1.frm0 f2
    have T2 := T1.frm0 f2
    have B2 := B1.trans (Bd.frm0 hk1.high f2)
    generalize w1.drew = w2 at *
    clear hh1 hm1 hk1 T1 f2 hx1 B1
    have hh2 := hm2.head
    refine s_callf (kpick_ret hxk (n := 10) (by omega) w2) rfl wnt_none ?_
    rintro v w2' ⟨rfl, rfl⟩
    by_cases c2 : kpickF x.kind 10 < 2
    · have hP : hapP P n x = (editP P k (keditF x.e)).2 := by rw [hapP, if_pos (show hapM x < 2 from c2), hk]
      have hI : hapI P ins n x = insE ins k (editP P k (keditF x.e)).1 (keditF x.e) := by rw [hapI, if_pos (show hapM x < 2 from c2), hk, Int.toNat_natCast]
      rw [hP, hI]
      have hpl' := hpl.edit k (e := keditF x.e) keditF_sml
      have hwr := keditF_right (e := x.e)
      have hei := editP_is hc hwr
      refine runG13 ?_
      refine s_callf (kedit_ret hxe w2) rfl wnt_none ?_
      rintro v w3 ⟨rfl, f3⟩
      refine runG13 ?_
      refine s_skip (r_storeAll (vs := (keditF x.e).vals) (s_ok rfl) rfl rfl (edit_one _) (at_alloc_new w3 _) rfl) wnt_none ?_
      have he4 := at_setB (cel (keditF x.e).vals 31) (at_alloc_new w3 (cel [I 0, I 0, I 0, I 0, I 0, I 0] 31))
      have f4 : Frm0 w2 (setB (w3.alloc (cel [I 0, I 0, I 0, I 0, I 0, I 0] 31)) w3.heap.size (cel (keditF x.e).vals 31)) := (f3.alloc _).setB (.inr f3.size) _
      have heb : col w3.heap.size = 0 := hk2.high _ f3.size
      clear f3
      generalize setB (w3.alloc (cel [I 0, I 0, I 0, I 0, I 0, I 0] 31)) w3.heap.size (cel (keditF x.e).vals 31) = w4 at *
      generalize w3.heap.size = eb at *
      clear hP hI
      generalize keditF x.e = e at *
      have hk4 := hk2.frm0 sp f4
      have hm4 := hm2.frm0 f4
      have hh4 := hm4.head
      have T4 := T2.frm0 f4
      have B4 := B2.trans (Bd.frm0 hk2.high f4)
      clear hh2 hm2 hk2 T2 B2 f4 hx2
      refine runG13 ?_
      refine s_callf (kpPending sp hk4 (T4.errs hE) (by omega) hc) rfl wnt_none ?_
      rintro v w5 ⟨l, rfl, r5, n5, f5⟩
      have hml : (c.pend.map (·.2)).length = c.pend.length := List.length_map ..
      obtain ⟨la, lc, rfl⟩ := r5.isSl
      rw [hml]
      have he5 := f5.at0 he4
      have hk5 := hk4.frm0 sp f5
      have hm5 := hm4.frm0 f5
      have hh5 := hm5.head
      have T5 := T4.frm0 f5
      have B5 := B4.trans (Bd.frm0 hk4.high f5)
      clear hh4 hm4 hk4 T4 B4 f5 he4 r5 n5
      refine runG13 ?_
      refine w_drawn [(0, false), (1, false), (2, false), (3, false), (4, false), (5, false)] [6, 7] (fun wq => Frm0 w5 wq) mixed (by kernel_rfl) ?_ ?_
      · exact Frm.of_drew _
      · have fd : Frm0 w5 w5.drew := Frm.of_drew _
        refine runG13 ?_
        rw [sub_all' (show e.vals.length = 6 from rfl)]
        refine y_callf rfl (kpEdit sp (hk5.frm0 sp fd) ((T5.frm0 fd).errs hE) (by omega) k e) rfl wnt_none ?_
        rintro v w6 ⟨hv, col6, hk6, x6, f6⟩
        have hm6 := (hm5.frm0 fd).other f6 (fun b h7 h8 h9 => by omega) x6.old
        have hh6 := hm6.head
        have he6 := f6.at (fun h9 => by have := h9.1; omega) (fd.at0 he5)
        have B6 := (B5.trans (Bd.frm0 hk5.high fd)).trans (Bd.ofQ x6 f6 (.inl rfl))
        have heb6 : col6 eb = 0 := by rw [x6.old eb (at_lt (fd.at0 he5))]; exact heb
        clear hh5 hm5 hk5 T5 B5 he5 fd x6 f6
        by_cases h6 : c.pend.length < 6
        · have hz := hei.2 h6
          have hv' := hv.1
          rw [hz] at hv'
          cases errIs0 hv'
          clear hv hv'
          have hk4 : k < iv1.length := by rw [hm6.il]; omega
          obtain ⟨u, hu⟩ : ∃ u, iv1[k]? = some u := ⟨iv1[k], List.getElem?_eq_getElem hk4⟩
          obtain ⟨hru, hcu⟩ := hm6.row k u hu
          obtain ⟨ua, uc, rfl⟩ := hru.isSl
          have hnpp : ¬ InV (.slice ua (ins k).length uc) pp := fun h9 => by have := hcu pp h9; have := hm6.own; omega
          have hneb : ¬ InV (.slice ua (ins k).length uc) eb := fun h9 => by have := hcu eb h9; omega
          have hil := hpl.ins_le hkn
          have hgu : (Ptr p :: I n :: ev1 :: (iv1 ++ bs.map I))[0 + 3 + (k : Int).toNat * 1]? = some (.slice ua (ins k).length uc) := by rw [show 0 + 3 + (k : Int).toNat * 1 = 3 + k by omega]; exact pl_get hu
          refine runG13 ?_
          refine s_val (r_nnF rfl) wnt_none ?_
          refine runG13 ?_
          refine s_val (r_nn rfl) (by (first | (with_reducible exact wnt_none) | ((with_reducible apply wnt_y); exact rfl; exact rfl; exact rfl; exact rfl; (with_reducible exact rfl)))) ?_
          refine runG13 ?_
          refine s_val (r_ne_bool (a := true) (b := true) (c := false) rfl rfl rfl) (by (first | (with_reducible exact wnt_none) | ((with_reducible apply wnt_y); exact rfl; exact rfl; exact rfl; exact rfl; (with_reducible exact rfl)))) ?_
          refine runG13 ?_
          refine s_val (r_nn rfl) wnt_none ?_
          refine runG13 ?_
          refine w_drawn ((0, false) :: (1, false) :: (2, false) :: (3, false) :: (4, false) :: (5, false) :: (6, false) :: (7, false) :: (8, false) :: (11, false) :: (12, false) :: (9, true) :: (10, true) :: (13, false) :: []) [14] (fun wq => Frm (InV (.slice ua (ins k).length uc)) w6 wq) mixed (by kernel_rfl) ?_ ?_
          · exact Frm.of_drew _
          · refine runG13 ?_
            refine x_q rfl (fun wq hq => r_load (u_ok rfl) rfl rfl (hq.at hnpp hh6) hgu) wnt_none ?_
            refine runG13 ?_
            rw [sub_all' (show e.vals.length = 6 from rfl)]
            refine x_val rfl (r_bs rfl (bs_ed e _)) wnt_none ((Frm.of_drew w6).alloc _) ?_
            have hFa : Frm0 w6 (w6.drew.alloc (cel e.vals 31)) := (Frm.of_drew w6).alloc _
            obtain ⟨v7, w7, e7, r7, f7, n7⟩ := append_edB (ty := 26) (q := e) (hru.frm hFa (fun _ _ h => h)) (seg_new rfl) (by omega)
            have f7' : Frm (InV (.slice ua (ins k).length uc)) w6 w7 := (hFa.mono (fun _ h => h.elim)).trans f7 (fun b hb => .inl hb)
            have n7' : ∀ b, InV v7 b → InV (.slice ua (ins k).length uc) b ∨ w6.heap.size ≤ b := fun b hb => (n7 b hb).imp id (fun h => Nat.le_trans hFa.size h)
            refine x_val rfl (r_app rfl rfl e7) wnt_none f7' ?_
            have hh7 := f7'.at hnpp hh6
            obtain ⟨h8, g8, f8⟩ := hm6.edits (ins' := insE ins k (editP P k e).1 e) hk6.high hu (fun i hi => insE_ne hi) f7' (by rw [insE_at hz]; exact r7) n7'
            obtain ⟨ya, yc, rfl⟩ := r7.isSl
            refine runG13 ?_
            refine y_skip rfl (r_store_s (s_ok rfl) rfl rfl hh7 (by rw [show 0 + 3 + (k : Int).toNat * 1 = 3 + k by omega]; simp; omega)) wnt_none ?_
            rw [show 0 + 3 + (k : Int).toNat * 1 = 3 + k by omega, pl_set hk4]
            refine runG13 ?_
            exact ret_b rfl rfl ⟨rfl, _, ⟨⟨_, _, by rw [(editP_clients e).2.1]; exact h8⟩, hk6.other sp f8 (fun b h7 h8 h9 => by omega) g8.old g8.high, hpl'⟩, B6.trans g8⟩
        · have hz : (editP P k e).1 ≠ 0 := fun h9 => h6 (hei.1 h9)
          obtain ⟨vb, rfl⟩ := errIsS hv.1 hz
          clear hv
          refine runG13 ?_
          refine s_val (r_nnF rfl) wnt_none ?_
          refine runG13 ?_
          refine s_val (r_in rfl) (by (first | (with_reducible exact wnt_none) | ((with_reducible apply wnt_y); exact rfl; exact rfl; exact rfl; exact rfl; (with_reducible exact rfl)))) ?_
          refine runG13 ?_
          refine s_val (r_ne_bool (a := false) (b := false) (c := false) rfl rfl rfl) (by (first | (with_reducible exact wnt_none) | ((with_reducible apply wnt_y); exact rfl; exact rfl; exact rfl; exact rfl; (with_reducible exact rfl)))) ?_
          refine runG13 ?_
          refine s_val (r_in rfl) wnt_none ?_
          refine runG13 ?_
          rw [insE_no hz] at hpl' ⊢
          exact ret_b rfl rfl ⟨rfl, col6, ⟨⟨_, _, by rw [(editP_clients e).2.1]; exact hm6⟩, hk6, hpl'⟩, B6⟩
    · by_cases c5 : kpickF x.kind 10 < 5
      · have hP : hapP P n x = (upP P k).2 := by rw [hapP, if_neg (show ¬ hapM x < 2 from c2), if_pos (show hapM x < 5 from c5), hk]
        have hI : hapI P ins n x = ins := by rw [hapI, if_neg (show ¬ hapM x < 2 from c2)]
        rw [hP, hI]
        refine runG13 ?_
        refine s_callf (kpick_ret hxk (n := 10) (by omega) w2) rfl wnt_none ?_
        rintro v w2' ⟨rfl, rfl⟩
        refine runG13 ?_
        refine s_callf (kup_ret sp cs ⟨⟨_, _, hm2⟩, hk2, hpl⟩ T2 hE hB k) rfl wnt_none ?_
        rintro v w3 ⟨rfl, col3, h3, B3⟩
        refine runG13 ?_
        exact ret_b rfl rfl ⟨rfl, col3, h3, B2.trans B3⟩
      · have hI : hapI P ins n x = ins := by rw [hapI, if_neg (show ¬ hapM x < 2 from c2)]
        rw [hI]
        have hA2 : PLA PT w2 col j pp p n P ins bs := ⟨⟨_, _, hm2⟩, hk2, hpl⟩
        by_cases c8 : kpickF x.kind 10 < 8
        · have hP : hapP P n x = (downP P k).2 := by rw [hapP, if_neg (show ¬ hapM x < 2 from c2), if_neg (show ¬ hapM x < 5 from c5), if_pos (show hapM x < 8 from c8), hk]
          rw [hP]
          refine runG13 ?_
          refine s_callf (kpick_ret hxk (n := 10) (by omega) w2) rfl wnt_none ?_
          rintro v w2' ⟨rfl, rfl⟩
          refine runG13 ?_
          refine s_callf (kpick_ret hxk (n := 10) (by omega) w2) rfl wnt_none ?_
          rintro v w2' ⟨rfl, rfl⟩
          refine runG13 ?_
          refine s_callf (kpDown sp hk2 (T2.errs hE) (T2.lo hE) (by omega) k) rfl wnt_none ?_
          rintro v w3 ⟨_, hs⟩
          obtain ⟨col3, h3, B3⟩ := hA2.step hs downP_clients.2.1 (hpl.down k)
          refine runG13 ?_
          exact ret_b rfl rfl ⟨rfl, col3, h3, B2.trans B3⟩
        · by_cases c9 : kpickF x.kind 10 < 9
          · have hP : hapP P n x = (joinP P k).2 := by rw [hapP, if_neg (show ¬ hapM x < 2 from c2), if_neg (show ¬ hapM x < 5 from c5), if_neg (show ¬ hapM x < 8 from c8), if_pos (show hapM x < 9 from c9), hk]
            rw [hP]
            refine runG13 ?_
            refine s_callf (kpick_ret hxk (n := 10) (by omega) w2) rfl wnt_none ?_
            rintro v w2' ⟨rfl, rfl⟩
            refine runG13 ?_
            refine s_callf (kpick_ret hxk (n := 10) (by omega) w2) rfl wnt_none ?_
            rintro v w2' ⟨rfl, rfl⟩
            refine runG13 ?_
            refine s_callf (kpick_ret hxk (n := 10) (by omega) w2) rfl wnt_none ?_
            rintro v w2' ⟨rfl, rfl⟩
            refine runG13 ?_
            refine s_callf (kpJoin sp hk2 (T2.errs hE) (by omega) k) rfl wnt_none ?_
            rintro v w3 ⟨_, hs⟩
            obtain ⟨col3, h3, B3⟩ := hA2.step hs joinP_clients.2.1 (hpl.join k)
            refine runG13 ?_
            exact ret_b rfl rfl ⟨rfl, col3, h3, B2.trans B3⟩
          · have hP : hapP P n x = (dropP P k).2 := by rw [hapP, if_neg (show ¬ hapM x < 2 from c2), if_neg (show ¬ hapM x < 5 from c5), if_neg (show ¬ hapM x < 8 from c8), if_neg (show ¬ hapM x < 9 from c9), hk]
            rw [hP]
            refine runG13 ?_
            refine s_callf (kpick_ret hxk (n := 10) (by omega) w2) rfl wnt_none ?_
            rintro v w2' ⟨rfl, rfl⟩
            refine runG13 ?_
            refine s_callf (kpick_ret hxk (n := 10) (by omega) w2) rfl wnt_none ?_
            rintro v w2' ⟨rfl, rfl⟩
            refine runG13 ?_
            refine s_callf (kpick_ret hxk (n := 10) (by omega) w2) rfl wnt_none ?_
            rintro v w2' ⟨rfl, rfl⟩
            refine runG13 ?_
            refine s_callf (kpDrop sp hk2 (T2.errs hE) k) rfl wnt_none ?_
            rintro v w3 ⟨_, hs⟩
            obtain ⟨col3, h3, B3⟩ := hA2.step hs dropP_clients.2.1 (hpl.drop k)
            refine runG13 ?_
            exact ret_b rfl rfl ⟨rfl, col3, h3, B2.trans B3⟩
end
end Go.Proofs.YtbicffldggcdhaaGreatDoor

namespace Go.Proofs.YtbicffldggcdhaaGreatDoor
open Go

section
variable {w : World} {ρ : Operand → Value} {d : Option Nat} {t ty2 : Nat} {p : String} {af : Array Edge} {g : Option (Nat × Bool)} {x y : Operand}
end
section
variable {PT : PTy} {w0 w w' : World} {col col' : Nat → Nat} {i j pp p : Nat} {n : Int} {P P' : Par} {ins : Nat → List Ed} {bs : List Int} {ea : List Addr}
end
end Go.Proofs.YtbicffldggcdhaaGreatDoor

namespace Go.Proofs.YtbicffldggcdhaaGreatDoor
open Go

section
variable {w : World} {n : Nat} {env : Env} {d : Option Nat} {t ty2 : Nat} {p : String} {af : Array Edge} {g : Option (Nat × Bool)} {x : Operand}
theorem r_eqpL {a : Addr} (hx : ev n env x = .pointer (some a)) : (execOp (ev n env) ⟨d, .binOp .eql 41 x (.const (.pointer none)) ty2, t, p, af, g⟩).run Tryz.prog w = .ok (.value (.bool false)) w :=
  r_eq2 hx (show ev n env (.const (.pointer none)) = .pointer none from rfl) rfl (by kernel_rfl)
end
theorem pinv_play {n l : Int} (hn : 1 ≤ n ∧ n ≤ 4) (hl : 1 ≤ l ∧ l ≤ 8) : PInv 0 ⟨n, l, [root0], [], List.replicate n.toNat cli0⟩ :=
  pinv_new (c := n) (l := l) (by rw [newP, if_neg (by omega)])
end Go.Proofs.YtbicffldggcdhaaGreatDoor

namespace Go.Proofs.YtbicffldggcdhaaGreatDoor
open Go

theorem ksame_self {PT : PTy} (sp : TreeSpec PT) {w : World} {a c : Nat} {l : List Nd} {S T : Nat → Prop} (hA : PT w a l S) (hC : PT w c l T) (hl : Wf l) :
    Rets Tryz.prog 20 [Ptr a, Ptr c] w fun v w' => v = B true ∧ Frm0 w w' :=
  (ksame_ret sp hA hC hl hl).mono (fun v w' ⟨⟨b, h1, h2⟩, h3⟩ => ⟨by rw [h1, h2 ⟨rfl, fun _ _ => rfl⟩], h3⟩)
end Go.Proofs.YtbicffldggcdhaaGreatDoor

namespace Go.Proofs.YtbicffldggcdhaaGreatDoor
open Go

theorem wrap64 (z : Int) : Int64 (IntKind.i64.wrap z) := by
  have e1 : (2 : Int) ^ IntKind.i64.bits = 18446744073709551616 := by decide
  have e2 : (2 : Int) ^ (IntKind.i64.bits - 1) = 9223372036854775808 := by decide
  unfold IntKind.wrap Int64
  simp only [e1, e2, IntKind.signed, Bool.true_and, decide_eq_true_eq]
  split <;> omega
section
variable {P : Program} {w : World} {ρ : Operand → Value} {d : Option Nat} {t : Nat} {p : String} {af : Array Edge} {g : Option (Nat × Bool)}
theorem r_addW {ty ty2 : Nat} {x y : Operand} {a b : Int} (hx : ρ x = .int .i64 a) (hy : ρ y = .int .i64 b) :
    (execOp ρ ⟨d, .binOp .add ty x y ty2, t, p, af, g⟩).run P w = .ok (.value (.int .i64 (IntKind.i64.wrap (a + b)))) w := by
  simp [execOp, hx, hy, eqGuard, binOp, Op.intArith]
end
def kE9 : Ed := ⟨9, 0, 0, 0, 0, 0⟩
theorem bldk9 (w : World) : (Instr.build 31 [(0, I 9)].toArray).run Tryz.prog w = .ok (EdV kE9) w := by kernel_rfl
theorem bldEvt (a b : Int) (e : Ed) (w : World) : (Instr.build 52 [(0, I a), (1, I b), (2, EdV e)].toArray).run Tryz.prog w = .ok (EvV ⟨a, b, e⟩) w := by kernel_rfl
section
variable {P : Par} {i : Int} {e : Ed}
theorem editP_no (h : P.cl i = none) : (editP P i e).2 = P := by rw [editP, h]
theorem editP_wrong (h : wrongB e = true) : (editP P i e).2 = P := by
  unfold editP
  split
  · rfl
  · simp [h]
theorem upP_no (h : P.cl i = none) : (upP P i).2 = P := by rw [upP, h]
theorem joinP_no (h : P.cl i = none) : (joinP P i).2 = P := by rw [joinP, h]
theorem dropP_no (h : P.cl i = none) : (dropP P i).2 = P := by rw [dropP, h]
end
section
variable {PT : PTy} {w w' : World} {col : Nat → Nat} {j pp p : Nat} {n : Int} {P P' : Par} {ins : Nat → List Ed} {bs : List Int}
theorem PLA.still (h : PLA PT w col j pp p n P ins bs) (hs : KStep PT w w' col (200 * j + 100) p P') (he : P' = P) : ∃ col', PLA PT w' col' j pp p n P ins bs ∧ Bd j w w' col col' := by
  subst he
  exact h.step hs rfl h.pl
end
set_option maxRecDepth 4000 in
set_option maxHeartbeats 4000000 in
theorem Quiet_ret {PT : PTy} (sp : TreeSpec PT) (cs : CloneSpec PT) {w : World} {v0 : Value} {evs : List Evt} {ea : List Addr} {c l : Int} {no : Ed} (hc : Int64 c) (hl : Int64 l) (hU : VScr w v0 evs) (hR : ∀ e ∈ evs, EvRaw e) (hul : evs.length ≤ 2199023255488) (hno : EdRaw no) (hE : Errs w ea) :
    Rets Tryz.prog 12 [I c, I l, v0, EdV no] w fun v w' => v = B true ∧ Frm0 w w' := by
  obtain ⟨ua, uc, rfl⟩ := hU.isSl
  have hn4 := kpickF_lt (c := c) (n := 4) (by omega)
  have hl8 := kpickF_lt (c := l) (n := 8) (by omega)
  have f0 : Frm0 w (w.alloc (cel no.vals 31)) := Frm.of_alloc _ _
  have hb0 := at_alloc_new w (cel no.vals 31)
  have hU0 : VScr (w.alloc (cel no.vals 31)) (.slice ua evs.length uc) evs := by
    rcases hU with h | ⟨sb, so, sc, X, tx, k, h1, h2, h3⟩
    · exact .inl h
    · exact .inr ⟨sb, so, sc, X, tx, k, h1, f0.at0 h2, h3⟩
  refine rets_of Tryz.func12 (by kernel_rfl) rfl Tryz.ntmps12 (Nat.le_of_ble_eq_true rfl) ?_
  refine runG13 ?_
  generalize w.heap.size = nb at hb0 ⊢
  have hE := hE.frm0 f0
  clear hU
  generalize w.alloc (cel no.vals 31) = w0 at *
  have hlt := errs_lt hE
  have hnb := at_lt hb0
  refine s_callf (kplay_ret sp cs (col := fun _ => 0) (fun _ _ => rfl) hE hc hl 0) rfl wnt_none ?_
  rintro v w1 ⟨pp, p, col1, rfl, h1, B1, f1⟩
  have T1 : Top w0 w1 col1 := ⟨f1, fun b hb => B1.old b hb⟩
  refine runG13 ?_
  refine s_callf (kplay_ret sp cs h1.high (T1.errs hE) hc hl 1) rfl wnt_none ?_
  rintro v w1b ⟨qp, q, col1b, rfl, q1, B1b, _⟩
  have T1b := T1.bd B1b
  have h1b := h1.other sp B1b (by decide)
  refine runG13 ?_
  refine s_callf (kplay_ret sp cs q1.high (T1b.errs hE) hc hl 2) rfl wnt_none ?_
  rintro v w1c ⟨rp, r, col1c, rfl, r1, B1c, _⟩
  have T1c := T1b.bd B1c
  have h1c := h1b.other sp B1c (by decide)
  have q1c := q1.other sp B1c (by decide)
  have I1 := pinv_play (n := 1 + kpickF c 4) (l := 1 + kpickF l 8) (by omega) (by omega)
  clear B1 B1b B1c h1 h1b q1 T1 T1b
  generalize (Par.mk (1 + kpickF c 4) (1 + kpickF l 8) [root0] [] (List.replicate (1 + kpickF c 4).toNat cli0)) = P1 at *
  generalize 1 + kpickF c 4 = n at *
  refine runG13 ?_
  refine s_val (r_eqpL rfl) wnt_none ?_
  refine runG13 ?_
  refine s_val (r_eqpL rfl) (by (first | (with_reducible exact wnt_none) | ((with_reducible apply wnt_y); exact rfl; exact rfl; exact rfl; exact rfl; (with_reducible exact rfl)))) ?_
  refine runG13 ?_
  refine s_val (r_eqpL rfl) (by (first | (with_reducible exact wnt_none) | ((with_reducible apply wnt_y); exact rfl; exact rfl; exact rfl; exact rfl; (with_reducible exact rfl)))) ?_
  refine runG13 ?_
  refine lp (fun env w' => ∃ env0, ∃ i : Nat, ∃ P R ins insR col, env = setL env0 [(2, .slice ua evs.length uc), (7, Ptr nb), (9, Ptr pp), (10, Ptr qp), (11, Ptr rp), (12, I i)] ∧ i ≤ evs.length ∧ PInv i P ∧ PInv i R ∧ PLA PT w' col 0 pp p n P ins [0, 0, 0, 0] ∧ PLA PT w' col 1 qp q n P ins [0, 0, 0, 0] ∧ PLA PT w' col 2 rp r n R insR [0, 0, 0, 0] ∧ Top w0 w' col) (fun env _ => evs.length - cnt (env 12)) ?_ ?_
  · exact ⟨_, 0, P1, P1, _, _, col1c, fixL ⟨rfl, rfl, rfl, rfl, rfl, rfl, trivial⟩, Nat.zero_le _, I1, I1, h1c, q1c, r1, T1c⟩
  · rintro env w2 ⟨env0, i, P, R, ins, insR, col2, rfl, hi, hI, hIR, h2, q2, r2, T2⟩
    have hB : P.ents.length ≤ 884000000000 := by have := hI.few2 (by omega); omega
    have hBR : R.ents.length ≤ 884000000000 := by have := hIR.few2 (by omega); omega
    by_cases hil : i < evs.length
    · rcases hU0 with ⟨⟨_, _, hv⟩, h0⟩ | ⟨sb, so, sc, X, tx, kk, hv, hA0, hX⟩
      · rw [h0] at hil
        exact absurd hil (by simp)
      · obtain ⟨x, hx⟩ : ∃ x, evs[i]? = some x := ⟨evs[i], List.getElem?_eq_getElem hil⟩
        obtain ⟨hx1, hx2, hx3⟩ := hX i x hx
        have hraw := hR x (List.mem_of_getElem? hx)
        have hA := T2.frm.at0 hA0
        cases hv
        have hx1' : so + (i : Int).toNat * 8 + 8 ≤ X.length := by rw [show (i : Int).toNat = i by omega]; exact hx1
        have hx2' : sub X (so + (i : Int).toNat * 8) 8 = x.vals := by rw [show (i : Int).toNat = i by omega]; exact hx2
        have hx3' : X[so + (i : Int).toNat * 8 + 1]? = some (I x.client) := by rw [show (i : Int).toNat = i by omega]; exact hx3 1 (by omega)
        have hx4' : X[so + (i : Int).toNat * 8 + 0]? = some (I x.kind) := by rw [show (i : Int).toNat = i by omega]; exact hx3 0 (by omega)
        refine runG13 ?_
        refine s_val (r_loadV (u_ok rfl) rfl (s_ok rfl) rfl hA hx1' hx2') wnt_none ?_
        refine s_callf (khap_ret sp cs h2 T2 hE hB hraw) rfl wnt_none ?_
        rintro v w3 ⟨rfl, col3, h3, B3⟩
        have T3 := T2.bd B3
        have q3 := q2.other sp B3 (by decide)
        have r3 := r2.other sp B3 (by decide)
        have hA3 := T3.frm.at0 hA0
        refine runG13 ?_
        refine s_val (r_loadV (u_ok rfl) rfl (s_ok rfl) rfl hA3 hx1' hx2') wnt_none ?_
        refine s_callf (khap_ret sp cs q3 T3 hE hB hraw) rfl wnt_none ?_
        rintro v w4 ⟨rfl, col4, q4, B4⟩
        have T4 := T3.bd B4
        have h4 := h3.other sp B4 (by decide)
        have r4 := r3.other sp B4 (by decide)
        have hI4 : PInv (i + 1) (hapP P n x) := hI.hap x
        have hB4 : (hapP P n x).ents.length ≤ 884000000000 := by have := hI4.few2 (by omega); omega
        clear h2 q2 r2 h3 q3 r3 B3 B4 T2 T3 hA hA3
        have hn := h4.pl.nn
        obtain ⟨k, hk, hkn⟩ := hapK_nat hn.1 x
        have hk' : kpickF x.client n = k := hk
        generalize hapP P n x = P4 at *
        generalize hapI P ins n x = ins4 at *
        have hA4 := T4.frm.at0 hA0
        have fd : Frm0 w4 w4.drew := Frm.of_drew _
        obtain ⟨d, hd⟩ := q4.pl.get (k := k) (by omega) hkn
        obtain ⟨evp, ivp, hmp⟩ := h4.m
        have hhp := hmp.head
        obtain ⟨evq, ivq, hmq⟩ := q4.m
        have hhq := hmq.head
        refine runG13 ?_
        refine w_drawn [(0, false), (1, false), (2, false), (3, false), (4, false), (5, false), (6, false), (7, false), (8, false)] [9, 10] (fun wq => Frm0 w4 wq) mixed (by kernel_rfl) ?_ ?_
        · exact fd
        · refine runG13 ?_
          refine x_q rfl (fun wq hq => r_load (u_ok rfl) rfl rfl (hq.at0 hA4) hx3') wnt_none ?_
          refine runG13 ?_
          refine y_callf rfl (kpick_ret hraw.2.1 (n := n) (by omega) _) rfl wnt_none ?_
          rintro v w4' ⟨rfl, rfl⟩
          rw [hk']
          have h5 := h4.frm0 sp fd
          have q5 := q4.frm0 sp fd
          have r5 := r4.frm0 sp fd
          have T5 := T4.frm0 fd
          have hhp5 := fd.at0 hhp
          have hhq5 := fd.at0 hhq
          clear h4 q4 r4 T4 hhp hhq hA4 hmp hmq
          generalize w4.drew = w5 at *
          clear fd
          refine runG13 ?_
          refine s_callf (kpBase sp cs q5.pty (T5.errs hE) hd) rfl wnt_none ?_
          rintro v w6 ⟨tb, rfl, hT6, hW6, f6⟩
          have q6 := q5.pty.frm0 sp f6
          have T6 := T5.frm0 f6
          have hhq6 := f6.at0 hhq5
          have s6 := f6.size
          refine runG13 ?_
          refine s_callf (kpView sp cs q6 (T6.errs hE) (by omega) hd) rfl wnt_none ?_
          rintro v w7 ⟨tv, rfl, hT7, hW7, f7⟩
          have q7 := q6.frm0 sp f7
          have T7 := T6.frm0 f7
          have hhq7 := f7.at0 hhq6
          have s7 := f7.size
          refine runG13 ?_
          refine s_callf (kpServer sp cs q7) rfl wnt_none ?_
          rintro v w8 ⟨ts, rfl, hT8, hW8, f8⟩
          have T8 := T7.frm0 f8
          have s8 := f8.size
          have hb8 := T8.frm.at0 hb0
          have s5 := T5.frm.size
          clear hhq6 hhq7 q6 q7
          refine runG13 ?_
          refine s_val (r_eqp rfl) wnt_none ?_
          refine runG13 ?_
          refine s_val (r_eqp rfl) (by (first | (with_reducible exact wnt_none) | ((with_reducible apply wnt_y); exact rfl; exact rfl; exact rfl; exact rfl; (with_reducible exact rfl)))) ?_
          refine runG13 ?_
          refine s_val (r_eqp rfl) (by (first | (with_reducible exact wnt_none) | ((with_reducible apply wnt_y); exact rfl; exact rfl; exact rfl; exact rfl; (with_reducible exact rfl)))) ?_
          refine runG13 ?_
          refine s_callf (kedit_ret hno w8) rfl wnt_none ?_
          rintro v w9 ⟨rfl, f9⟩
          refine runG13 ?_
          refine s_skip (r_storeAll (vs := (keditF no).vals) (s_ok rfl) rfl rfl (edit_one _) (at_alloc_new w9 _) rfl) wnt_none ?_
          have hea := at_setB (cel (keditF no).vals 31) (at_alloc_new w9 (cel [I 0, I 0, I 0, I 0, I 0, I 0] 31))
          have fa : Frm0 w8 (setB (w9.alloc (cel [I 0, I 0, I 0, I 0, I 0, I 0] 31)) w9.heap.size (cel (keditF no).vals 31)) := (f9.alloc _).setB (.inr f9.size) _
          have heb : w8.heap.size ≤ w9.heap.size := f9.size
          clear f9
          generalize setB (w9.alloc (cel [I 0, I 0, I 0, I 0, I 0, I 0] 31)) w9.heap.size (cel (keditF no).vals 31) = wa at *
          generalize w9.heap.size = eb at *
          have hwr := keditF_right (e := no)
          generalize keditF no = e at *
          have Fa : Frm0 w5 wa := ((f6.trans0 f7).trans0 f8).trans0 fa
          have sa := fa.size
          have hTa := sp.frm (sp.weak (S' := fun b => w5.heap.size ≤ b ∧ b < w6.heap.size) hT6 (fun b h1 h2 => ⟨h1, h2⟩)) ((f7.trans0 f8).trans0 fa) (fun _ _ h => h)
          have hTv := sp.frm (sp.weak (S' := fun b => w6.heap.size ≤ b ∧ b < w7.heap.size) hT7 (fun b h1 h2 => ⟨h1, h2⟩)) (f8.trans0 fa) (fun _ _ h => h)
          have hTs := sp.frm (sp.weak (S' := fun b => w7.heap.size ≤ b ∧ b < w8.heap.size) hT8 (fun b h1 h2 => ⟨h1, h2⟩)) fa (fun _ _ h => h)
          have Fa0 := T5.frm.trans0 Fa
          clear hT6 hT7 hT8 T6 T7 T8 hb8
          refine runG13 ?_
          rw [sub_all' (show e.vals.length = 6 from rfl)]
          refine s_callf (sp.apply e hTa hW6 (hE.frm0 Fa0) (fun g hg h9 => by have := hlt.1 g hg; omega) (fun a ha h9 => by have := hlt.2 a ha; omega)) rfl wnt_none ?_
          rintro v wb ⟨_, _, fb, _⟩
          have Fb : Frm0 w5 wb := Fa.trans fb (fun b hb => .inr hb.1)
          have Fb0 := T5.frm.trans0 Fb
          have heb1 := fb.at (fun h9 => by have := h9.2; omega) hea
          have hTv1 := sp.frm hTv fb (fun b h1 h2 => by have := h1.1; have := h2.2; omega)
          have hTs1 := sp.frm hTs fb (fun b h1 h2 => by have := h1.1; have := h2.2; omega)
          clear hea hTa hTv hTs
          refine runG13 ?_
          rw [sub_all' (show e.vals.length = 6 from rfl)]
          refine s_callf (sp.apply e hTv1 hW7 (hE.frm0 Fb0) (fun g hg h9 => by have := hlt.1 g hg; omega) (fun a ha h9 => by have := hlt.2 a ha; omega)) rfl wnt_none ?_
          rintro v wc ⟨_, _, fc, _⟩
          have Fc : Frm0 w5 wc := Fb.trans fc (fun b hb => .inr (by have := hb.1; omega))
          have Fc0 := T5.frm.trans0 Fc
          have heb2 := fc.at (fun h9 => by have := h9.2; omega) heb1
          have hTs2 := sp.frm hTs1 fc (fun b h1 h2 => by have := h1.1; have := h2.2; omega)
          clear heb1 hTv1 hTs1
          refine runG13 ?_
          rw [sub_all' (show e.vals.length = 6 from rfl)]
          refine s_callf (sp.apply e hTs2 hW8 (hE.frm0 Fc0) (fun g hg h9 => by have := hlt.1 g hg; omega) (fun a ha h9 => by have := hlt.2 a ha; omega)) rfl wnt_none ?_
          rintro v w10 ⟨_, _, f10, _⟩
          have F10 : Frm0 w5 w10 := Fc.trans f10 (fun b hb => .inr (by have := hb.1; omega))
          have he10 := f10.at (fun h9 => by have := h9.2; omega) heb2
          clear heb2 hTs2
          have h10 := h5.frm0 sp F10
          have q10 := q5.frm0 sp F10
          have r10 := r5.frm0 sp F10
          have T10 := T5.frm0 F10
          have hhp10 := F10.at0 hhp5
          have hhq10 := F10.at0 hhq5
          clear h5 q5 r5 T5 hhp5 hhq5 F10 Fa Fb Fc Fa0 Fb0 Fc0 fa fb fc f10 f6 f7 f8
          have fd10 : Frm0 w10 w10.drew := Frm.of_drew _
          have q10d := q10.frm0 sp fd10
          have h10d := h10.frm0 sp fd10
          have r10d := r10.frm0 sp fd10
          have T10d := T10.frm0 fd10
          refine runG13 ?_
          refine w_drawn [(0, false), (1, false), (2, false), (3, false), (4, false)] [5] (fun wq => Frm0 w10 wq) mixed (by kernel_rfl) ?_ ?_
          · exact fd10
          · refine runG13 ?_
            rw [sub_all' (show e.vals.length = 6 from rfl)]
            refine y_callf rfl (kpEdit sp q10d.pty (T10d.errs hE) (by omega) (-1) e) rfl wnt_none ?_
            rintro v w11 ⟨_, hs11⟩
            obtain ⟨col11, q11, B11⟩ := q10d.still hs11 (editP_no (q10.pl.none (.inl (by omega))))
            have h11 := h10d.other sp B11 (by decide)
            have r11 := r10d.other sp B11 (by decide)
            have T11 := T10d.bd B11
            clear h10 q10 r10 T10 h10d q10d r10d T10d fd10 hs11 B11 hhp10 hhq10 he10
            obtain ⟨evp, ivp, hmp⟩ := h11.m
            have hhp := hmp.head
            obtain ⟨evq, ivq, hmq⟩ := q11.m
            have hhq := hmq.head
            refine runG13 ?_
            refine s_val (r_build rfl (bldk9 _)) wnt_none ?_
            refine s_callf (kpEdit sp q11.pty (T11.errs hE) (by omega) k kE9) rfl wnt_none ?_
            rintro v w12 ⟨_, hs12⟩
            obtain ⟨col12, q12, B12⟩ := q11.still hs12 (editP_wrong (by decide))
            have h12 := h11.other sp B12 (by decide)
            have r12 := r11.other sp B12 (by decide)
            have T12 := T11.bd B12
            clear h11 q11 r11 T11 hs12 B12 hmp hhp hmq hhq
            obtain ⟨evp, ivp, hmp⟩ := h12.m
            have hhp := hmp.head
            obtain ⟨evq, ivq, hmq⟩ := q12.m
            have hhq := hmq.head
            have fd12 : Frm0 w12 w12.drew := Frm.of_drew _
            have q12d := q12.frm0 sp fd12
            have h12d := h12.frm0 sp fd12
            have r12d := r12.frm0 sp fd12
            have T12d := T12.frm0 fd12
            refine runG13 ?_
            refine w_drawn [(0, false), (1, false), (2, false), (3, false), (4, false), (5, false), (6, false), (7, false)] [8] (fun wq => Frm0 w12 wq) mixed (by kernel_rfl) ?_ ?_
            · exact fd12
            · refine runG13 ?_
              refine y_callf rfl (kpUp sp cs q12d.pty (T12d.errs hE) (T12d.lo hE) (by omega) n) rfl wnt_none ?_
              rintro v w13 ⟨_, hs13⟩
              obtain ⟨col13, q13, B13⟩ := q12d.still hs13 (upP_no (q12.pl.none (.inr (Int.le_refl _))))
              have h13 := h12d.other sp B13 (by decide)
              have r13 := r12d.other sp B13 (by decide)
              have T13 := T12d.bd B13
              clear h12 q12 r12 T12 h12d q12d r12d T12d fd12 hs13 B13 hmp hhp hmq hhq
              obtain ⟨evp, ivp, hmp⟩ := h13.m
              have hhp := hmp.head
              obtain ⟨evq, ivq, hmq⟩ := q13.m
              have hhq := hmq.head
              refine runG13 ?_
              refine s_callf (kpJoin sp q13.pty (T13.errs hE) (by omega) (-1)) rfl wnt_none ?_
              rintro v w14 ⟨_, hs14⟩
              obtain ⟨col14, q14, B14⟩ := q13.still hs14 (joinP_no (q13.pl.none (.inl (by omega))))
              have h14 := h13.other sp B14 (by decide)
              have r14 := r13.other sp B14 (by decide)
              have T14 := T13.bd B14
              clear h13 q13 r13 T13 hs14 B14 hmp hhp hmq hhq
              obtain ⟨evp, ivp, hmp⟩ := h14.m
              have hhp := hmp.head
              obtain ⟨evq, ivq, hmq⟩ := q14.m
              have hhq := hmq.head
              have fd14 : Frm0 w14 w14.drew := Frm.of_drew _
              have q14d := q14.frm0 sp fd14
              have h14d := h14.frm0 sp fd14
              have r14d := r14.frm0 sp fd14
              have T14d := T14.frm0 fd14
              refine runG13 ?_
              refine w_drawn [(0, false), (1, false), (2, false), (3, false), (4, false), (5, false), (6, false), (7, false)] [8] (fun wq => Frm0 w14 wq) mixed (by kernel_rfl) ?_ ?_
              · exact fd14
              · refine runG13 ?_
                refine y_callf rfl (kpDrop sp q14d.pty (T14d.errs hE) n) rfl wnt_none ?_
                rintro v w15 ⟨_, hs15⟩
                obtain ⟨col15, q15, B15⟩ := q14d.still hs15 (dropP_no (q14.pl.none (.inr (Int.le_refl _))))
                have h15 := h14d.other sp B15 (by decide)
                have r15 := r14d.other sp B15 (by decide)
                have T15 := T14d.bd B15
                clear h14 q14 r14 T14 h14d q14d r14d T14d fd14 hs15 B15 hmp hhp hmq hhq
                have fd15 : Frm0 w15 w15.drew := Frm.of_drew _
                have q15d := q15.frm0 sp fd15
                have h15d := h15.frm0 sp fd15
                have r15d := r15.frm0 sp fd15
                have T15d := T15.frm0 fd15
                have hA15 := T15.frm.at0 hA0
                have hb15 := T15.frm.at0 hb0
                have hyr : EvRaw ⟨IntKind.i64.wrap (x.kind + 1), k, no⟩ := ⟨wrap64 _, ⟨by show -9223372036854775808 ≤ (k : Int); omega, by show (k : Int) ≤ 9223372036854775807; omega⟩, hno⟩
                refine runG13 ?_
                refine w_drawn [(0, false), (1, false), (2, false), (3, false), (4, false), (5, false), (6, false), (7, false), (8, false), (9, false)] [10] (fun wq => Frm0 w15 wq) mixed (by kernel_rfl) ?_ ?_
                · exact fd15
                · refine runG13 ?_
                  refine x_q rfl (fun wq hq => r_load (u_ok rfl) rfl rfl (hq.at0 hA15) hx4') wnt_none ?_
                  refine x_q rfl (fun wq hq => r_addW rfl rfl) wnt_none ?_
                  refine runG13 ?_
                  refine x_q rfl (fun wq hq => r_build rfl (bldEvt _ _ no wq)) wnt_none ?_
                  refine x_late ?_
                  refine y_callf rfl (khap_ret sp cs r15d T15d hE hBR hyr) rfl wnt_none ?_
                  rintro v w16 ⟨rfl, col16, r16, B16⟩
                  have h16 := h15d.other sp B16 (by decide)
                  have q16 := q15d.other sp B16 (by decide)
                  have T16 := T15d.bd B16
                  refine runG13 ?_
                  exact ⟨_, rfl, ⟨_, i + 1, P4, _, ins4, _, col16, fixL ⟨rfl, rfl, rfl, rfl, rfl, rfl, trivial⟩, by omega, hI4, hIR.hap _, h16, q16, r16, T16⟩, by show evs.length - ((i : Int) + 1).toNat < evs.length - (i : Int).toNat; omega⟩
    · refine runG13 ?_
      refine lp (fun env w' => ∃ env0, ∃ k : Nat, env = setL env0 [(9, Ptr pp), (10, Ptr qp), (24, I k)] ∧ (k : Int) ≤ n ∧ Frm0 w2 w') (fun env _ => n.toNat - cnt (env 24)) ?_ ?_
      · exact ⟨_, 0, fixL ⟨rfl, rfl, rfl, trivial⟩, by have := h2.pl.nn; omega, Frm.refl _ _⟩
      · rintro env w3 ⟨env1, k, rfl, hk, f3⟩
        have h3 := h2.frm0 sp f3
        have q3 := q2.frm0 sp f3
        have T3 := T2.frm0 f3
        obtain ⟨evp, ivp, hmp⟩ := h3.m
        have hhp := hmp.head
        obtain ⟨evq, ivq, hmq⟩ := q3.m
        have hhq := hmq.head
        have hn := h3.pl.nn
        by_cases hkn : (k : Int) < n
        · obtain ⟨d, hd⟩ := h3.pl.get (k := k) (by omega) hkn
          refine runG13 ?_
          refine s_callf (kpBase sp cs h3.pty (T3.errs hE) hd) rfl wnt_none ?_
          rintro v w4 ⟨t1, rfl, hT4, hW4, f4⟩
          have hhq4 := f4.at0 hhq
          refine runG13 ?_
          refine s_callf (kpBase sp cs (q3.pty.frm0 sp f4) ((T3.frm0 f4).errs hE) hd) rfl wnt_none ?_
          rintro v w5 ⟨t2, rfl, hT5, hW5, f5⟩
          have F5 := f4.trans0 f5
          have hhp5 := F5.at0 hhp
          refine runG13 ?_
          refine s_callf (kpView sp cs (h3.pty.frm0 sp F5) ((T3.frm0 F5).errs hE) (by omega) hd) rfl wnt_none ?_
          rintro v w6 ⟨t3, rfl, hT6, hW6, f6⟩
          have F6 := F5.trans0 f6
          have hhq6 := F6.at0 hhq
          refine runG13 ?_
          refine s_callf (kpView sp cs (q3.pty.frm0 sp F6) ((T3.frm0 F6).errs hE) (by omega) hd) rfl wnt_none ?_
          rintro v w7 ⟨t4, rfl, hT7, hW7, f7⟩
          have F7 := F6.trans0 f7
          refine runG13 ?_
          refine s_callf (ksame_self sp (sp.frm hT4 ((f5.trans0 f6).trans0 f7) (fun _ _ h => h)) (sp.frm hT5 (f6.trans0 f7) (fun _ _ h => h)) hW4) rfl wnt_none ?_
          rintro v w8 ⟨rfl, f8⟩
          refine runG13 ?_
          refine s_callf (ksame_self sp (sp.frm hT6 (f7.trans0 f8) (fun _ _ h => h)) (sp.frm hT7 f8 (fun _ _ h => h)) hW6) rfl wnt_none ?_
          rintro v w9 ⟨rfl, f9⟩
          refine runG13 ?_
          exact ⟨_, rfl, ⟨_, k + 1, fixL ⟨rfl, rfl, rfl, trivial⟩, by omega, f3.trans0 ((F7.trans0 f8).trans0 f9)⟩, by show n.toNat - ((k : Int) + 1).toNat < n.toNat - (k : Int).toNat; omega⟩
        · refine runG13 ?_
          refine s_callf (kpServer sp cs h3.pty) rfl wnt_none ?_
          rintro v w4 ⟨t1, rfl, hT4, hW4, f4⟩
          have hhq4 := f4.at0 hhq
          refine runG13 ?_
          refine s_callf (kpServer sp cs (q3.pty.frm0 sp f4)) rfl wnt_none ?_
          rintro v w5 ⟨t2, rfl, hT5, hW5, f5⟩
          refine runG13 ?_
          refine s_callf (ksame_self sp (sp.frm hT4 f5 (fun _ _ h => h)) hT5 hW4) rfl wnt_none ?_
          rintro v w6 ⟨rfl, f6⟩
          refine runG13 ?_
          exact ret_b rfl rfl ⟨rfl, f0.trans0 (T3.frm.trans0 ((f4.trans0 f5).trans0 f6))⟩
end Go.Proofs.YtbicffldggcdhaaGreatDoor
