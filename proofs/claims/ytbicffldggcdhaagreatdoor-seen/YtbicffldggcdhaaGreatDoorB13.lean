/-
  WK8; WK9; WK10; WK11.
-/
import Derived.Test.YtbicffldggcdhaaGreatDoorB12
import Derived.Test.YtbicffldggcdhaaGreatDoorB08
namespace Go.Proofs.YtbicffldggcdhaaGreatDoor
open Go
theorem runG13 {G K : Prop} (k : K) (h : Wrap K → G := by intro h; (repeat (first | (with_reducible first | refine wpIn_seq ?_ | refine w_reg ?_ | refine s_nil ?_ | refine s_nilQ ?_ | refine wpIn_block ?_ | refine q_then ?_ | refine q_blk ?_ | refine q_then_ret ?_ | refine q_blk_ret ?_ | refine q_then_exit ?_ | refine q_blk_exit ?_ | refine wpIn_skip ?_ | refine wpIn_ret ?_ | refine wpIn_exit ?_ | refine y_nil ?_ | refine y_nilQ ?_ | refine x_late ?_) | ((with_reducible refine q_blk_other ?_ ?_); exact rfl) | ((with_reducible apply c_true); exact rfl; (with_reducible exact rfl)) | ((with_reducible apply c_false); exact rfl; (with_reducible exact rfl)) | ((with_reducible apply s_no); (first | ((with_reducible apply wnt_nt); exact rfl; exact rfl; exact rfl; exact rfl; (with_reducible exact rfl)) | ((with_reducible apply wnt_nf); exact rfl; exact rfl; exact rfl; exact rfl; (with_reducible exact rfl)))) | ((with_reducible apply x_qno); exact rfl; (first | ((with_reducible apply wnt_nt); exact rfl; exact rfl; exact rfl; exact rfl; (with_reducible exact rfl)) | ((with_reducible apply wnt_nf); exact rfl; exact rfl; exact rfl; exact rfl; (with_reducible exact rfl)))) | ((first | with_reducible apply s_val | ((with_reducible apply y_val); exact rfl) | ((with_reducible apply x_q); exact rfl; intro wq hq)); (first | ((with_reducible apply r_boxA); exact rfl) | ((with_reducible apply r_box1); exact rfl; exact rfl) | ((with_reducible apply r_assign_b); exact rfl) | ((with_reducible apply r_fld); exact fa_ok rfl; exact rfl) | ((with_reducible apply r_load); exact u_ok rfl; exact rfl; exact rfl; (first | exact Frm.at0 hq (by assumption) | exact Frm.at hq (by assumption) (by assumption) | (first | (with_reducible assumption) | assumption | exact at_alloc_new _ _ | (repeat (first | assumption | exact at_alloc_new _ _ | refine at_drew ?_ | refine at_alloc _ ?_)))); exact rfl) | ((with_reducible apply r_move_p); exact rfl) | ((with_reducible apply r_nilCheck); exact rfl) | ((with_reducible apply r_assign_i); exact rfl) | ((with_reducible apply r_lss_t); exact rfl; exact rfl; omega) | ((with_reducible apply r_lss_f); exact rfl; exact rfl; omega) | ((with_reducible apply r_lss); exact rfl; exact rfl) | ((with_reducible apply r_loadA); exact u_ok rfl; exact rfl; exact s_ok rfl; exact rfl; (first | exact Frm.at0 hq (by assumption) | exact Frm.at hq (by assumption) (by assumption) | (first | (with_reducible assumption) | assumption | exact at_alloc_new _ _ | (repeat (first | assumption | exact at_alloc_new _ _ | refine at_drew ?_ | refine at_alloc _ ?_)))); exact Nat.le_of_ble_eq_true rfl) | ((with_reducible apply r_allocA); exact z_ok rfl) | ((with_reducible apply r_alloc1); exact z_ok rfl; exact rfl) | ((with_reducible apply r_move_i); exact rfl) | ((with_reducible apply r_move_t); exact rfl) | ((with_reducible apply r_extract); exact rfl; exact rfl) | ((with_reducible apply r_assign_s); exact rfl) | ((with_reducible apply r_assign_if); exact rfl) | ((with_reducible apply r_assign_ni); exact rfl) | ((with_reducible apply r_move_if); exact rfl) | ((with_reducible apply r_move_ni); exact rfl) | ((with_reducible apply r_neq_t); exact rfl; exact rfl; omega) | ((with_reducible apply r_neq_f); exact rfl; exact rfl; omega) | ((with_reducible apply r_neq); exact rfl; exact rfl) | ((with_reducible apply r_move_b); exact rfl) | ((with_reducible apply r_eql_t); exact rfl; exact rfl; omega) | ((with_reducible apply r_eql_f); exact rfl; exact rfl; omega) | ((with_reducible apply r_eql); exact rfl; exact rfl) | ((with_reducible apply r_move_s); exact rfl) | ((with_reducible apply r_len); exact u_ok rfl; exact rfl) | ((with_reducible apply r_pick_t); exact rfl; (with_reducible exact rfl); exact rfl) | ((with_reducible apply r_pick_f); exact rfl; (with_reducible exact rfl); exact rfl) | ((with_reducible apply r_index); exact u_ok rfl; exact s_ok rfl; exact rfl; exact rfl; omega; omega) | ((with_reducible apply r_indexarr); exact u_ok rfl; exact s_ok rfl; exact rfl; exact rfl; omega; omega) | ((with_reducible apply r_add); exact rfl; exact rfl; omega; omega) | ((with_reducible apply r_not_t); exact rfl; (with_reducible exact rfl)) | ((with_reducible apply r_not_f); exact rfl; (with_reducible exact rfl)) | ((with_reducible apply r_not); exact rfl) | ((with_reducible apply r_assign_p); exact rfl)); (first | (with_reducible exact wnt_none) | ((with_reducible apply wnt_y); exact rfl; exact rfl; exact rfl; exact rfl; (with_reducible exact rfl)))))); exact h.out) : G := h ⟨k⟩

theorem keditF_right {e : Ed} : wrongB (keditF e) = false := by
  have h1 := kpickF_lt (c := e.kind) (n := 4) (by omega)
  have h2 := kpickF_lt (c := e.node) (n := 40) (by omega)
  have h3 := kpickF_lt (c := e.parent) (n := 40) (by omega)
  have h4 := kpickF_lt (c := e.key) (n := 1001) (by omega)
  have h5 := kpickF_lt (c := e.prop) (n := 4) (by omega)
  have h6 := kpickF_lt (c := e.value) (n := 1000001) (by omega)
  have a : inB (kpickF e.node 40) 1000 = true := decide_eq_true (by omega)
  have b : inB (kpickF e.parent 40) 1000 = true := decide_eq_true (by omega)
  have c : inB (kpickF e.key 1001) 1000 = true := decide_eq_true (by omega)
  have d : inB (kpickF e.prop 4) 3 = true := decide_eq_true (by omega)
  have f : inB (kpickF e.value 1000001) 1000000 = true := decide_eq_true (by omega)
  unfold wrongB
  simp only [keditF, a, b, c, d, f]
  repeat' split
  all_goals first | rfl | (exfalso; omega)
theorem editP_is {P : Par} {k : Int} {c : Cli} {e : Ed} (hc : P.cl k = some c) (he : wrongB e = false) : ((editP P k e).1 = 0 ↔ c.pend.length < 6) := by
  unfold editP
  rw [hc]
  simp only [he]
  rw [if_neg (by simp)]
  split
  · exact ⟨fun h => (by cases h), fun h => (by omega)⟩
  · exact ⟨fun _ => (by omega), fun _ => rfl⟩
theorem insE_no {ins : Nat → List Ed} {k z : Nat} {e : Ed} (h : z ≠ 0) : insE ins k z e = ins := by
  funext j
  rw [insE, if_neg (fun q => h q.2)]
theorem insE_at {ins : Nat → List Ed} {k z : Nat} {e : Ed} (h : z = 0) : insE ins k z e k = ins k ++ [e] := by rw [insE, if_pos ⟨rfl, h⟩]
theorem insE_ne {ins : Nat → List Ed} {k z i : Nat} {e : Ed} (h : i ≠ k) : insE ins k z e i = ins i := by rw [insE, if_neg (fun q => h q.1)]
abbrev EvV (x : Evt) : Value := .agg x.vals.toArray
section
variable {PT : PTy} {w0 w w' : World} {col col' : Nat → Nat} {i j pp p : Nat} {n : Int} {P P' : Par} {ins : Nat → List Ed} {bs : List Int} {ea : List Addr}
set_option maxRecDepth 4000 in
set_option maxHeartbeats 2000000 in
theorem khap_ret (sp : TreeSpec PT) (cs : CloneSpec PT) (h : PLA PT w col j pp p n P ins bs) (hT : Top w0 w col) (hE : Errs w0 ea) (hB : P.ents.length ≤ 884000000000) {x : Evt} (hx : EvRaw x) :
    Rets Tryz.prog 23 [Ptr pp, EvV x] w fun v w' => v = B true ∧ ∃ col', PLA PT w' col' j pp p n (hapP P n x) (hapI P ins n x) bs ∧ Bd j w w' col col' := by
  have f1 : Frm0 w (w.alloc (cel x.vals 52)) := Frm.of_alloc _ _
  have hx1 := at_alloc_new w (cel x.vals 52)
  have hn := h.pl.nn
  have hkl := kpickF_lt (c := x.client) (n := n) (by omega)
  obtain ⟨k, hk, hkn⟩ := hapK_nat hn.1 x
  have hkk : kpickF x.client n = k := hk
  obtain ⟨c, hc⟩ := h.pl.get (k := k) (by omega) hkn
  obtain ⟨hxk, hxc, hxe⟩ := hx
  refine rets_of Tryz.func23 (by kernel_rfl) rfl Tryz.ntmps23 (Nat.le_of_ble_eq_true rfl) ?_
  refine runG13 ?_
  generalize w.heap.size = xb at hx1 ⊢
  have h1 := h.frm0 sp f1
  have T1 := hT.frm0 f1
  have B1 : Bd j w _ col col := Bd.frm0 h.high f1
  generalize w.alloc (cel x.vals 52) = w1 at *
  clear f1
  obtain ⟨⟨ev1, iv1, hm1⟩, hk1, hpl⟩ := h1
  have hh1 := hm1.head
  refine w_drawn [(0, false), (1, false), (2, false), (3, false), (4, false), (5, false)] [6, 7] (fun wq => Frm0 w1 wq) mixed (by kernel_rfl) ?_ ?_
  · exact Frm.of_drew _
  · refine runG13 ?_
    refine y_callf rfl (kpick_ret hxc (n := n) (by omega) _) rfl wnt_none ?_
    rintro v w2' ⟨rfl, rfl⟩
    rw [hkk]
    refine runG13 ?_
    have f2 : Frm0 w1 w1.drew := Frm.of_drew _
    have hx2 := f2.at0 hx1
    have hk2 := hk1.frm0 sp f2
    have hm2 := hm1.frm0 f2
    have T2 := T1.frm0 f2
    have B2 := B1.trans (Bd.frm0 hk1.high f2)
    generalize w1.drew = w2 at *
    clear hh1 hm1 hk1 T1 f2 hx1 B1
    have hh2 := hm2.head
    refine s_callf (kpick_ret hxk (n := 10) (by omega) w2) rfl wnt_none ?_
    rintro v w2' ⟨rfl, rfl⟩
    by_cases c2 : kpickF x.kind 10 < 2
    · have hP : hapP P n x = (editP P k (keditF x.e)).2 := by rw [hapP, if_pos (show hapM x < 2 from c2), hk]
      have hI : hapI P ins n x = insE ins k (editP P k (keditF x.e)).1 (keditF x.e) := by rw [hapI, if_pos (show hapM x < 2 from c2), hk, Int.toNat_natCast]
      rw [hP, hI]
      have hpl' := hpl.edit k (e := keditF x.e) keditF_sml
      have hwr := keditF_right (e := x.e)
      have hei := editP_is hc hwr
      refine runG13 ?_
      refine s_callf (kedit_ret hxe w2) rfl wnt_none ?_
      rintro v w3 ⟨rfl, f3⟩
      refine runG13 ?_
      refine s_skip (r_storeAll (vs := (keditF x.e).vals) (s_ok rfl) rfl rfl (edit_one _) (at_alloc_new w3 _) rfl) wnt_none ?_
      have he4 := at_setB (cel (keditF x.e).vals 31) (at_alloc_new w3 (cel [I 0, I 0, I 0, I 0, I 0, I 0] 31))
      have f4 : Frm0 w2 (setB (w3.alloc (cel [I 0, I 0, I 0, I 0, I 0, I 0] 31)) w3.heap.size (cel (keditF x.e).vals 31)) := (f3.alloc _).setB (.inr f3.size) _
      have heb : col w3.heap.size = 0 := hk2.high _ f3.size
      clear f3
      generalize setB (w3.alloc (cel [I 0, I 0, I 0, I 0, I 0, I 0] 31)) w3.heap.size (cel (keditF x.e).vals 31) = w4 at *
      generalize w3.heap.size = eb at *
      clear hP hI
      generalize keditF x.e = e at *
      have hk4 := hk2.frm0 sp f4
      have hm4 := hm2.frm0 f4
      have hh4 := hm4.head
      have T4 := T2.frm0 f4
      have B4 := B2.trans (Bd.frm0 hk2.high f4)
      clear hh2 hm2 hk2 T2 B2 f4 hx2
      refine runG13 ?_
      refine s_callf (kpPending sp hk4 (T4.errs hE) (by omega) hc) rfl wnt_none ?_
      rintro v w5 ⟨l, rfl, r5, n5, f5⟩
      have hml : (c.pend.map (·.2)).length = c.pend.length := List.length_map ..
      obtain ⟨la, lc, rfl⟩ := r5.isSl
      rw [hml]
      have he5 := f5.at0 he4
      have hk5 := hk4.frm0 sp f5
      have hm5 := hm4.frm0 f5
      have hh5 := hm5.head
      have T5 := T4.frm0 f5
      have B5 := B4.trans (Bd.frm0 hk4.high f5)
      clear hh4 hm4 hk4 T4 B4 f5 he4 r5 n5
      refine runG13 ?_
      refine w_drawn [(0, false), (1, false), (2, false), (3, false), (4, false), (5, false)] [6, 7] (fun wq => Frm0 w5 wq) mixed (by kernel_rfl) ?_ ?_
      · exact Frm.of_drew _
      · have fd : Frm0 w5 w5.drew := Frm.of_drew _
        refine runG13 ?_
        rw [sub_all' (show e.vals.length = 6 from rfl)]
        refine y_callf rfl (kpEdit sp (hk5.frm0 sp fd) ((T5.frm0 fd).errs hE) (by omega) k e) rfl wnt_none ?_
        rintro v w6 ⟨hv, col6, hk6, x6, f6⟩
        have hm6 := (hm5.frm0 fd).other f6 (fun b h7 h8 h9 => by omega) x6.old
        have hh6 := hm6.head
        have he6 := f6.at (fun h9 => by have := h9.1; omega) (fd.at0 he5)
        have B6 := (B5.trans (Bd.frm0 hk5.high fd)).trans (Bd.ofQ x6 f6 (.inl rfl))
        have heb6 : col6 eb = 0 := by rw [x6.old eb (at_lt (fd.at0 he5))]; exact heb
        clear hh5 hm5 hk5 T5 B5 he5 fd x6 f6
        by_cases h6 : c.pend.length < 6
        · have hz := hei.2 h6
          have hv' := hv.1
          rw [hz] at hv'
          cases errIs0 hv'
          clear hv hv'
          have hk4 : k < iv1.length := by rw [hm6.il]; omega
          obtain ⟨u, hu⟩ : ∃ u, iv1[k]? = some u := ⟨iv1[k], List.getElem?_eq_getElem hk4⟩
          obtain ⟨hru, hcu⟩ := hm6.row k u hu
          obtain ⟨ua, uc, rfl⟩ := hru.isSl
          have hnpp : ¬ InV (.slice ua (ins k).length uc) pp := fun h9 => by have := hcu pp h9; have := hm6.own; omega
          have hneb : ¬ InV (.slice ua (ins k).length uc) eb := fun h9 => by have := hcu eb h9; omega
          have hil := hpl.ins_le hkn
          have hgu : (Ptr p :: I n :: ev1 :: (iv1 ++ bs.map I))[0 + 3 + (k : Int).toNat * 1]? = some (.slice ua (ins k).length uc) := by rw [show 0 + 3 + (k : Int).toNat * 1 = 3 + k by omega]; exact pl_get hu
          refine runG13 ?_
          refine s_val (r_nnF rfl) wnt_none ?_
          refine runG13 ?_
          refine s_val (r_nn rfl) (by (first | (with_reducible exact wnt_none) | ((with_reducible apply wnt_y); exact rfl; exact rfl; exact rfl; exact rfl; (with_reducible exact rfl)))) ?_
          refine runG13 ?_
          refine s_val (r_ne_bool (a := true) (b := true) (c := false) rfl rfl rfl) (by (first | (with_reducible exact wnt_none) | ((with_reducible apply wnt_y); exact rfl; exact rfl; exact rfl; exact rfl; (with_reducible exact rfl)))) ?_
          refine runG13 ?_
          refine s_val (r_nn rfl) wnt_none ?_
          refine runG13 ?_
          refine w_drawn ((0, false) :: (1, false) :: (2, false) :: (3, false) :: (4, false) :: (5, false) :: (6, false) :: (7, false) :: (8, false) :: (11, false) :: (12, false) :: (9, true) :: (10, true) :: (13, false) :: []) [14] (fun wq => Frm (InV (.slice ua (ins k).length uc)) w6 wq) mixed (by kernel_rfl) ?_ ?_
          · exact Frm.of_drew _
          · refine runG13 ?_
            refine x_q rfl (fun wq hq => r_load (u_ok rfl) rfl rfl (hq.at hnpp hh6) hgu) wnt_none ?_
            refine runG13 ?_
            rw [sub_all' (show e.vals.length = 6 from rfl)]
            refine x_val rfl (r_bs rfl (bs_ed e _)) wnt_none ((Frm.of_drew w6).alloc _) ?_
            have hFa : Frm0 w6 (w6.drew.alloc (cel e.vals 31)) := (Frm.of_drew w6).alloc _
            obtain ⟨v7, w7, e7, r7, f7, n7⟩ := append_edB (ty := 26) (q := e) (hru.frm hFa (fun _ _ h => h)) (seg_new rfl) (by omega)
            have f7' : Frm (InV (.slice ua (ins k).length uc)) w6 w7 := (hFa.mono (fun _ h => h.elim)).trans f7 (fun b hb => .inl hb)
            have n7' : ∀ b, InV v7 b → InV (.slice ua (ins k).length uc) b ∨ w6.heap.size ≤ b := fun b hb => (n7 b hb).imp id (fun h => Nat.le_trans hFa.size h)
            refine x_val rfl (r_app rfl rfl e7) wnt_none f7' ?_
            have hh7 := f7'.at hnpp hh6
            obtain ⟨h8, g8, f8⟩ := hm6.edits (ins' := insE ins k (editP P k e).1 e) hk6.high hu (fun i hi => insE_ne hi) f7' (by rw [insE_at hz]; exact r7) n7'
            obtain ⟨ya, yc, rfl⟩ := r7.isSl
            refine runG13 ?_
            refine y_skip rfl (r_store_s (s_ok rfl) rfl rfl hh7 (by rw [show 0 + 3 + (k : Int).toNat * 1 = 3 + k by omega]; simp; omega)) wnt_none ?_
            rw [show 0 + 3 + (k : Int).toNat * 1 = 3 + k by omega, pl_set hk4]
            refine runG13 ?_
            exact ret_b rfl rfl ⟨rfl, _, ⟨⟨_, _, by rw [(editP_clients e).2.1]; exact h8⟩, hk6.other sp f8 (fun b h7 h8 h9 => by omega) g8.old g8.high, hpl'⟩, B6.trans g8⟩
        · have hz : (editP P k e).1 ≠ 0 := fun h9 => h6 (hei.1 h9)
          obtain ⟨vb, rfl⟩ := errIsS hv.1 hz
          clear hv
          refine runG13 ?_
          refine s_val (r_nnF rfl) wnt_none ?_
          refine runG13 ?_
          refine s_val (r_in rfl) (by (first | (with_reducible exact wnt_none) | ((with_reducible apply wnt_y); exact rfl; exact rfl; exact rfl; exact rfl; (with_reducible exact rfl)))) ?_
          refine runG13 ?_
          refine s_val (r_ne_bool (a := false) (b := false) (c := false) rfl rfl rfl) (by (first | (with_reducible exact wnt_none) | ((with_reducible apply wnt_y); exact rfl; exact rfl; exact rfl; exact rfl; (with_reducible exact rfl)))) ?_
          refine runG13 ?_
          refine s_val (r_in rfl) wnt_none ?_
          refine runG13 ?_
          rw [insE_no hz] at hpl' ⊢
          exact ret_b rfl rfl ⟨rfl, col6, ⟨⟨_, _, by rw [(editP_clients e).2.1]; exact hm6⟩, hk6, hpl'⟩, B6⟩
    · by_cases c5 : kpickF x.kind 10 < 5
      · have hP : hapP P n x = (upP P k).2 := by rw [hapP, if_neg (show ¬ hapM x < 2 from c2), if_pos (show hapM x < 5 from c5), hk]
        have hI : hapI P ins n x = ins := by rw [hapI, if_neg (show ¬ hapM x < 2 from c2)]
        rw [hP, hI]
        refine runG13 ?_
        refine s_callf (kpick_ret hxk (n := 10) (by omega) w2) rfl wnt_none ?_
        rintro v w2' ⟨rfl, rfl⟩
        refine runG13 ?_
        refine s_callf (kup_ret sp cs ⟨⟨_, _, hm2⟩, hk2, hpl⟩ T2 hE hB k) rfl wnt_none ?_
        rintro v w3 ⟨rfl, col3, h3, B3⟩
        refine runG13 ?_
        exact ret_b rfl rfl ⟨rfl, col3, h3, B2.trans B3⟩
      · have hI : hapI P ins n x = ins := by rw [hapI, if_neg (show ¬ hapM x < 2 from c2)]
        rw [hI]
        have hA2 : PLA PT w2 col j pp p n P ins bs := ⟨⟨_, _, hm2⟩, hk2, hpl⟩
        by_cases c8 : kpickF x.kind 10 < 8
        · have hP : hapP P n x = (downP P k).2 := by rw [hapP, if_neg (show ¬ hapM x < 2 from c2), if_neg (show ¬ hapM x < 5 from c5), if_pos (show hapM x < 8 from c8), hk]
          rw [hP]
          refine runG13 ?_
          refine s_callf (kpick_ret hxk (n := 10) (by omega) w2) rfl wnt_none ?_
          rintro v w2' ⟨rfl, rfl⟩
          refine runG13 ?_
          refine s_callf (kpick_ret hxk (n := 10) (by omega) w2) rfl wnt_none ?_
          rintro v w2' ⟨rfl, rfl⟩
          refine runG13 ?_
          refine s_callf (kpDown sp hk2 (T2.errs hE) (T2.lo hE) (by omega) k) rfl wnt_none ?_
          rintro v w3 ⟨_, hs⟩
          obtain ⟨col3, h3, B3⟩ := hA2.step hs downP_clients.2.1 (hpl.down k)
          refine runG13 ?_
          exact ret_b rfl rfl ⟨rfl, col3, h3, B2.trans B3⟩
        · by_cases c9 : kpickF x.kind 10 < 9
          · have hP : hapP P n x = (joinP P k).2 := by rw [hapP, if_neg (show ¬ hapM x < 2 from c2), if_neg (show ¬ hapM x < 5 from c5), if_neg (show ¬ hapM x < 8 from c8), if_pos (show hapM x < 9 from c9), hk]
            rw [hP]
            refine runG13 ?_
            refine s_callf (kpick_ret hxk (n := 10) (by omega) w2) rfl wnt_none ?_
            rintro v w2' ⟨rfl, rfl⟩
            refine runG13 ?_
            refine s_callf (kpick_ret hxk (n := 10) (by omega) w2) rfl wnt_none ?_
            rintro v w2' ⟨rfl, rfl⟩
            refine runG13 ?_
            refine s_callf (kpick_ret hxk (n := 10) (by omega) w2) rfl wnt_none ?_
            rintro v w2' ⟨rfl, rfl⟩
            refine runG13 ?_
            refine s_callf (kpJoin sp hk2 (T2.errs hE) (by omega) k) rfl wnt_none ?_
            rintro v w3 ⟨_, hs⟩
            obtain ⟨col3, h3, B3⟩ := hA2.step hs joinP_clients.2.1 (hpl.join k)
            refine runG13 ?_
            exact ret_b rfl rfl ⟨rfl, col3, h3, B2.trans B3⟩
          · have hP : hapP P n x = (dropP P k).2 := by rw [hapP, if_neg (show ¬ hapM x < 2 from c2), if_neg (show ¬ hapM x < 5 from c5), if_neg (show ¬ hapM x < 8 from c8), if_neg (show ¬ hapM x < 9 from c9), hk]
            rw [hP]
            refine runG13 ?_
            refine s_callf (kpick_ret hxk (n := 10) (by omega) w2) rfl wnt_none ?_
            rintro v w2' ⟨rfl, rfl⟩
            refine runG13 ?_
            refine s_callf (kpick_ret hxk (n := 10) (by omega) w2) rfl wnt_none ?_
            rintro v w2' ⟨rfl, rfl⟩
            refine runG13 ?_
            refine s_callf (kpick_ret hxk (n := 10) (by omega) w2) rfl wnt_none ?_
            rintro v w2' ⟨rfl, rfl⟩
            refine runG13 ?_
            refine s_callf (kpDrop sp hk2 (T2.errs hE) k) rfl wnt_none ?_
            rintro v w3 ⟨_, hs⟩
            obtain ⟨col3, h3, B3⟩ := hA2.step hs dropP_clients.2.1 (hpl.drop k)
            refine runG13 ?_
            exact ret_b rfl rfl ⟨rfl, col3, h3, B2.trans B3⟩
end
end Go.Proofs.YtbicffldggcdhaaGreatDoor

namespace Go.Proofs.YtbicffldggcdhaaGreatDoor
open Go

section
variable {w : World} {ρ : Operand → Value} {d : Option Nat} {t ty2 : Nat} {p : String} {af : Array Edge} {g : Option (Nat × Bool)} {x y : Operand}
end
theorem rowk_at {w : World} {v : Value} {T sz n : Nat} {pre : List Value} (h : Row w v T sz n pre) (hn : 0 < n) : ∃ b cap rest, v = .slice (some ⟨b, 0, none⟩) n cap ∧ At w b (cel (pre ++ rest) T) := by
  rcases h with ⟨_, h, _⟩ | ⟨b, cap, rest, h1, h2, _⟩
  · omega
  · exact ⟨b, cap, rest, h1, h2⟩
theorem fl_subK {α : Type} {f : α → List Value} {k : Nat} (hf : ∀ x, (f x).length = k) {l : List α} {i : Nat} {x : α} (h : l[i]? = some x) (rest : List Value) {o : Nat} (ho : o = i * k) : sub (fl f l ++ rest) (0 + o) k = f x := by
  have := fl_sub hf l i x h [] rest
  rw [List.nil_append, List.length_nil] at this
  rw [ho]
  exact this
theorem fl_lenK {α : Type} {f : α → List Value} {k : Nat} (hf : ∀ x, (f x).length = k) {l : List α} {i : Nat} {x : α} (h : l[i]? = some x) (rest : List Value) {o : Nat} (ho : o = i * k) : 0 + o + k ≤ (fl f l ++ rest).length := by
  have h1 := (List.getElem?_eq_some_iff.1 h).1
  rw [List.length_append, fl_len hf, ho]
  have : (i + 1) * k ≤ l.length * k := Nat.mul_le_mul_right k h1
  rw [Nat.add_mul] at this
  omega
section
variable {PT : PTy} {w0 w w' : World} {col col' : Nat → Nat} {i j pp p : Nat} {n : Int} {P P' : Par} {ins : Nat → List Ed} {bs : List Int} {ea : List Addr}
end
end Go.Proofs.YtbicffldggcdhaaGreatDoor

namespace Go.Proofs.YtbicffldggcdhaaGreatDoor
open Go

section
variable {w : World} {n : Nat} {env : Env} {d : Option Nat} {t ty2 : Nat} {p : String} {af : Array Edge} {g : Option (Nat × Bool)} {x : Operand}
theorem r_eqpL {a : Addr} (hx : ev n env x = .pointer (some a)) : (execOp (ev n env) ⟨d, .binOp .eql 41 x (.const (.pointer none)) ty2, t, p, af, g⟩).run Tryz.prog w = .ok (.value (.bool false)) w :=
  r_eq2 hx (show ev n env (.const (.pointer none)) = .pointer none from rfl) rfl (by kernel_rfl)
end
theorem pinv_play {n l : Int} (hn : 1 ≤ n ∧ n ≤ 4) (hl : 1 ≤ l ∧ l ≤ 8) : PInv 0 ⟨n, l, [root0], [], List.replicate n.toNat cli0⟩ :=
  pinv_new (c := n) (l := l) (by rw [newP, if_neg (by omega)])
end Go.Proofs.YtbicffldggcdhaaGreatDoor

namespace Go.Proofs.YtbicffldggcdhaaGreatDoor
open Go

theorem ksame_self {PT : PTy} (sp : TreeSpec PT) {w : World} {a c : Nat} {l : List Nd} {S T : Nat → Prop} (hA : PT w a l S) (hC : PT w c l T) (hl : Wf l) :
    Rets Tryz.prog 20 [Ptr a, Ptr c] w fun v w' => v = B true ∧ Frm0 w w' :=
  (ksame_ret sp hA hC hl hl).mono (fun v w' ⟨⟨b, h1, h2⟩, h3⟩ => ⟨by rw [h1, h2 ⟨rfl, fun _ _ => rfl⟩], h3⟩)
set_option maxRecDepth 4000 in
set_option maxHeartbeats 2000000 in
theorem Seen_ret {PT : PTy} (sp : TreeSpec PT) (cs : CloneSpec PT) {w : World} {v0 : Value} {evs : List Evt} {ea : List Addr} {c l : Int} (hc : Int64 c) (hl : Int64 l) (hU : VScr w v0 evs) (hR : ∀ e ∈ evs, EvRaw e) (hul : evs.length ≤ 2199023255488) (hE : Errs w ea) :
    Rets Tryz.prog 11 [I c, I l, v0] w fun v w' => v = B true ∧ Frm0 w w' := by
  obtain ⟨ua, uc, rfl⟩ := hU.isSl
  have hlt := errs_lt hE
  have hn4 := kpickF_lt (c := c) (n := 4) (by omega)
  have hl8 := kpickF_lt (c := l) (n := 8) (by omega)
  refine rets_of Tryz.func11 (by kernel_rfl) rfl Tryz.ntmps11 (Nat.le_of_ble_eq_true rfl) ?_
  refine runG13 ?_
  refine s_callf (kplay_ret sp cs (col := fun _ => 0) (fun _ _ => rfl) hE hc hl 0) rfl wnt_none ?_
  rintro v w1 ⟨pp, p, col1, rfl, h1, B1, f1⟩
  have T1 : Top w w1 col1 := ⟨f1, fun b hb => B1.old b hb⟩
  have I1 := pinv_play (n := 1 + kpickF c 4) (l := 1 + kpickF l 8) (by omega) (by omega)
  clear B1
  generalize (Par.mk (1 + kpickF c 4) (1 + kpickF l 8) [root0] [] (List.replicate (1 + kpickF c 4).toNat cli0)) = P1 at *
  generalize 1 + kpickF c 4 = n at *
  refine runG13 ?_
  refine s_val (r_eqpL rfl) wnt_none ?_
  refine runG13 ?_
  refine lp (fun env w' => ∃ env0, ∃ i : Nat, ∃ P ins col, env = setL env0 [(2, .slice ua evs.length uc), (7, Ptr pp), (8, I i)] ∧ i ≤ evs.length ∧ PInv i P ∧ PLA PT w' col 0 pp p n P ins [0, 0, 0, 0] ∧ Top w w' col) (fun env _ => evs.length - cnt (env 8)) ?_ ?_
  · exact ⟨_, 0, _, _, col1, fixL ⟨rfl, rfl, rfl, trivial⟩, Nat.zero_le _, I1, h1, T1⟩
  · rintro env w2 ⟨env0, i, P, ins, col2, rfl, hi, hI, h2, T2⟩
    by_cases hil : i < evs.length
    · rcases hU with ⟨⟨_, _, hv⟩, h0⟩ | ⟨sb, so, sc, X, tx, kk, hv, hA0, hX⟩
      · rw [h0] at hil
        exact absurd hil (by simp)
      · obtain ⟨x, hx⟩ : ∃ x, evs[i]? = some x := ⟨evs[i], List.getElem?_eq_getElem hil⟩
        obtain ⟨hx1, hx2, hx3⟩ := hX i x hx
        have hraw := hR x (List.mem_of_getElem? hx)
        have hA := T2.frm.at0 hA0
        cases hv
        have hx1' : so + (i : Int).toNat * 8 + 8 ≤ X.length := by rw [show (i : Int).toNat = i by omega]; exact hx1
        have hx2' : sub X (so + (i : Int).toNat * 8) 8 = x.vals := by rw [show (i : Int).toNat = i by omega]; exact hx2
        have hx3' : X[so + (i : Int).toNat * 8 + 1]? = some (I x.client) := by rw [show (i : Int).toNat = i by omega]; exact hx3 1 (by omega)
        have hB : P.ents.length ≤ 884000000000 := by have := hI.few2 (by omega); omega
        refine runG13 ?_
        refine s_val (r_loadV (u_ok rfl) rfl (s_ok rfl) rfl hA hx1' hx2') wnt_none ?_
        refine s_callf (khap_ret sp cs h2 T2 hE hB hraw) rfl wnt_none ?_
        rintro v w3 ⟨rfl, col3, h3, B3⟩
        have T3 := T2.bd B3
        have hI3 : PInv (i + 1) (hapP P n x) := hI.hap x
        have hB3 : (hapP P n x).ents.length ≤ 884000000000 := by have := hI3.few2 (by omega); omega
        have hn := h3.pl.nn
        obtain ⟨k, hk, hkn⟩ := hapK_nat hn.1 x
        have hk' : kpickF x.client n = k := hk
        have hA3 := T3.frm.at0 hA0
        have fd : Frm0 w3 w3.drew := Frm.of_drew _
        have h3d := h3.frm0 sp fd
        have T3d := T3.frm0 fd
        obtain ⟨ev3, iv3, hm3⟩ := h3.m
        have hh3 := hm3.head
        have hh3d := fd.at0 hh3
        refine runG13 ?_
        refine w_drawn [(0, false), (1, false), (2, false), (3, false), (4, false), (5, false), (6, false), (7, false), (8, false)] [9, 10] (fun wq => Frm0 w3 wq) mixed (by kernel_rfl) ?_ ?_
        · exact fd
        · refine runG13 ?_
          refine x_q rfl (fun wq hq => r_load (u_ok rfl) rfl rfl (hq.at0 hA3) hx3') wnt_none ?_
          refine runG13 ?_
          refine y_callf rfl (kpick_ret hraw.2.1 (n := n) (by omega) _) rfl wnt_none ?_
          rintro v w4' ⟨rfl, rfl⟩
          rw [hk']
          obtain ⟨d, hd⟩ := h3.pl.get (k := k) (by omega) hkn
          have hp6 := (h3.pl.sp.get hd).p6
          have hsv : Sml (viewC d) := appAll_sml _ (h3.pl.base_sml hd) (h3.pl.pend_sml hd)
          clear h3 T3 hm3 hA3 hh3
          generalize hapP P n x = P3 at *
          generalize hapI P ins n x = ins3 at *
          clear hA B3 T2 h2
          generalize w3.drew = w3d at *
          refine runG13 ?_
          refine s_callf (kpBase sp cs h3d.pty (T3d.errs hE) hd) rfl wnt_none ?_
          rintro v w4 ⟨tb, rfl, hT4, hW4, f4⟩
          have h4 := h3d.frm0 sp f4
          have T4 := T3d.frm0 f4
          have hh4 := f4.at0 hh3d
          have s4 := f4.size
          refine runG13 ?_
          refine s_callf (kpView sp cs h4.pty (T4.errs hE) (by omega) hd) rfl wnt_none ?_
          rintro v w5 ⟨tv, rfl, hT5, hW5, f5⟩
          have h5 := h4.frm0 sp f5
          have T5 := T4.frm0 f5
          have hh5 := f5.at0 hh4
          have s5 := f5.size
          refine runG13 ?_
          refine s_callf (kpPending sp h5.pty (T5.errs hE) (by omega) hd) rfl wnt_none ?_
          rintro v w6 ⟨ll, rfl, r6, n6, f6⟩
          have hml : (d.pend.map (·.2)).length = d.pend.length := List.length_map ..
          obtain ⟨la, lc, rfl⟩ := r6.isSl
          rw [hml] at r6 ⊢
          have F6 : Frm0 w3d w6 := (f4.trans0 f5).trans0 f6
          have s6 := f6.size
          have hTb6 := sp.weak (S' := fun b => (w3d.heap.size ≤ b ∧ b < w4.heap.size) ∨ w6.heap.size ≤ b) (sp.frm (sp.weak (S' := fun b => w3d.heap.size ≤ b ∧ b < w4.heap.size) hT4 (fun b h1 h2 => ⟨h1, h2⟩)) (f5.trans0 f6) (fun _ _ h => h)) (fun b h1 _ => .inl h1)
          have hTv6 := sp.frm (sp.weak (S' := fun b => w4.heap.size ≤ b ∧ b < w5.heap.size) hT5 (fun b h1 h2 => ⟨h1, h2⟩)) f6 (fun _ _ h => h)
          clear hT4 hT5 h4 h5 T4 T5 hh4 hh5
          refine runG13 ?_
          refine s_val (r_nnF rfl) wnt_none ?_
          refine runG13 ?_
          refine s_val (r_nnF rfl) (by (first | (with_reducible exact wnt_none) | ((with_reducible apply wnt_y); exact rfl; exact rfl; exact rfl; exact rfl; (with_reducible exact rfl)))) ?_
          refine runG13 ?_
          refine s_val (r_nnF rfl) (by (first | (with_reducible exact wnt_none) | ((with_reducible apply wnt_y); exact rfl; exact rfl; exact rfl; exact rfl; (with_reducible exact rfl)))) ?_
          refine runG13 ?_
          refine s_val (r_eqp rfl) (by (first | (with_reducible exact wnt_none) | ((with_reducible apply wnt_y); exact rfl; exact rfl; exact rfl; exact rfl; (with_reducible exact rfl)))) ?_
          refine runG13 ?_
          refine s_val (r_eqp rfl) (by (first | (with_reducible exact wnt_none) | ((with_reducible apply wnt_y); exact rfl; exact rfl; exact rfl; exact rfl; (with_reducible exact rfl)))) ?_
          refine runG13 ?_
          refine lp (fun env w' => ∃ env0, ∃ j : Nat, env = setL env0 [(2, .slice (some ⟨sb, so, none⟩) evs.length uc), (7, Ptr pp), (8, I i), (11, Ptr tb), (14, Ptr tv), (16, .slice la d.pend.length lc), (18, I j)] ∧ j ≤ d.pend.length ∧ Frm (fun b => w3d.heap.size ≤ b ∧ b < w4.heap.size) w6 w' ∧ PT w' tb (appAll d.base ((d.pend.map (·.2)).take j)) (fun b => (w3d.heap.size ≤ b ∧ b < w4.heap.size) ∨ w6.heap.size ≤ b)) (fun env _ => d.pend.length - cnt (env 18)) ?_ ?_
          · exact ⟨_, 0, fixL ⟨rfl, rfl, rfl, rfl, rfl, rfl, rfl, trivial⟩, Nat.zero_le _, Frm.refl _ _, hTb6⟩
          · rintro env w7 ⟨env1, j, rfl, hj, f7, hT7⟩
            have s7 := f7.size
            have F7 : Frm0 w3d w7 := F6.trans f7 (fun b hb => .inr hb.1)
            have F70 : Frm0 w w7 := T3d.frm.trans0 F7
            have s0 := T3d.frm.size
            have hW7 : Wf (appAll d.base ((d.pend.map (·.2)).take j)) := wf_all _ hW4
            by_cases hjp : j < d.pend.length
            · obtain ⟨q, hq⟩ : ∃ q, d.pend[j]? = some q := ⟨d.pend[j], List.getElem?_eq_getElem hjp⟩
              have hq2 : (d.pend.map (·.2))[j]? = some q.2 := by rw [List.getElem?_map, hq]; rfl
              obtain ⟨mb, mcap, mrest, e9, hmA⟩ := rowk_at r6 (by omega)
              cases e9
              have hmb := n6 mb ⟨_, _, _, rfl⟩
              have hmA7 := f7.at (fun h9 => by have := h9.2; omega) hmA
              have e1 := fl_lenK (f := Ed.vals) (k := 6) (fun _ => rfl) hq2 mrest (o := (j : Int).toNat * 6) (by omega)
              have e2 := fl_subK (f := Ed.vals) (k := 6) (fun _ => rfl) hq2 mrest (o := (j : Int).toNat * 6) (by omega)
              refine runG13 ?_
              refine s_val (r_loadV (vs := q.2.vals) (u_ok rfl) rfl (s_ok rfl) rfl hmA7 e1 e2) wnt_none ?_
              refine s_callf (sp.apply q.2 hT7 hW7 (hE.frm0 F70) (fun g hg h9 => by have := hlt.1 g hg; omega) (fun a ha h9 => by have := hlt.2 a ha; omega)) rfl wnt_none ?_
              rintro v w8 ⟨_, hT8, f8, _⟩
              refine runG13 ?_
              refine ⟨_, rfl, ⟨_, j + 1, fixL ⟨rfl, rfl, rfl, rfl, rfl, rfl, rfl, trivial⟩, by omega, f7.trans f8 (fun b hb => hb), ?_⟩, by show d.pend.length - ((j : Int) + 1).toNat < d.pend.length - (j : Int).toNat; omega⟩
              rw [appAll_step hq2]
              exact sp.weak hT8 (fun b hb _ => hb.elim id (fun h9 => .inr (by omega)))
            · have hall : appAll d.base ((d.pend.map (·.2)).take j) = viewC d := by rw [List.take_of_length_le (by rw [hml]; omega)]; rfl
              rw [hall] at hT7 hW7
              have hTv7 := sp.frm hTv6 f7 (fun b h1 h2 => by have := h1.1; have := h2.2; omega)
              refine runG13 ?_
              refine s_callf (ksame_self sp hT7 hTv7 hW7) rfl wnt_none ?_
              rintro v w8 ⟨rfl, f8⟩
              refine runG13 ?_
              refine s_callf (krooted_ret sp (sp.frm hTv7 f8 (fun _ _ h => h)) hW7 hsv) rfl wnt_none ?_
              rintro v w9 ⟨rfl, f9⟩
              have F9 := (F7.trans0 f8).trans0 f9
              refine runG13 ?_
              exact ⟨_, rfl, ⟨_, i + 1, P3, ins3, col3, fixL ⟨rfl, rfl, rfl, trivial⟩, by omega, hI3, h3d.frm0 sp F9, T3d.frm0 F9⟩, by show evs.length - ((i : Int) + 1).toNat < evs.length - (i : Int).toNat; omega⟩
    · refine runG13 ?_
      exact ret_b rfl rfl ⟨rfl, T2.frm⟩
end Go.Proofs.YtbicffldggcdhaaGreatDoor
