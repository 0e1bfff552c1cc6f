/-
  The program's tree: move, walked.
-/
import Derived.Test.YtbicffldggcdhaaDoorWTree3
namespace Go.Proofs.YtbicffldggcdhaaDoor
open Go
theorem runWTree40 {G K : Prop} (k : K) (h : Wrap K → G := by intro h; (repeat (first | (with_reducible first | refine wpIn_seq ?_ | refine w_reg ?_ | refine s_nil ?_ | refine s_nilQ ?_ | refine wpIn_block ?_ | refine q_then ?_ | refine q_blk ?_ | refine q_then_ret ?_ | refine q_blk_ret ?_ | refine q_then_exit ?_ | refine q_blk_exit ?_ | refine wpIn_skip ?_ | refine wpIn_ret ?_ | refine wpIn_exit ?_ | refine y_nil ?_ | refine y_nilQ ?_ | refine x_late ?_) | ((with_reducible refine q_blk_other ?_ ?_); exact rfl) | ((with_reducible apply c_true); exact rfl; (with_reducible exact rfl)) | ((with_reducible apply c_false); exact rfl; (with_reducible exact rfl)) | ((with_reducible apply s_no); (first | ((with_reducible apply wnt_nt); exact rfl; exact rfl; exact rfl; exact rfl; (with_reducible exact rfl)) | ((with_reducible apply wnt_nf); exact rfl; exact rfl; exact rfl; exact rfl; (with_reducible exact rfl)))) | ((with_reducible apply x_qno); exact rfl; (first | ((with_reducible apply wnt_nt); exact rfl; exact rfl; exact rfl; exact rfl; (with_reducible exact rfl)) | ((with_reducible apply wnt_nf); exact rfl; exact rfl; exact rfl; exact rfl; (with_reducible exact rfl)))) | ((first | with_reducible apply s_val | ((with_reducible apply y_val); exact rfl) | ((with_reducible apply x_q); exact rfl; intro wq hq)); (first | ((with_reducible apply r_boxA); exact rfl) | ((with_reducible apply r_box1); exact rfl; exact rfl) | ((with_reducible apply r_assign_if); exact rfl) | ((with_reducible apply r_assign_ni); exact rfl) | ((with_reducible apply r_fld); exact fa_ok rfl; exact rfl) | ((with_reducible apply r_load); exact u_ok rfl; exact rfl; exact rfl; (first | exact Frm.at0 hq (by assumption) | exact Frm.at hq (by assumption) (by assumption) | (first | (with_reducible assumption) | assumption | exact at_alloc_new _ _ | (repeat (first | assumption | exact at_alloc_new _ _ | refine at_drew ?_ | refine at_alloc _ ?_)))); exact rfl) | ((with_reducible apply r_eql_t); exact rfl; exact rfl; omega) | ((with_reducible apply r_eql_f); exact rfl; exact rfl; omega) | ((with_reducible apply r_eql); exact rfl; exact rfl) | ((with_reducible apply r_assign_b); exact rfl) | ((with_reducible apply r_move_p); exact rfl) | ((with_reducible apply r_not_t); exact rfl; (with_reducible exact rfl)) | ((with_reducible apply r_not_f); exact rfl; (with_reducible exact rfl)) | ((with_reducible apply r_not); exact rfl) | ((with_reducible apply r_move_b); exact rfl) | ((with_reducible apply r_pick_t); exact rfl; (with_reducible exact rfl); exact rfl) | ((with_reducible apply r_pick_f); exact rfl; (with_reducible exact rfl); exact rfl) | ((with_reducible apply r_nilCheck); exact rfl) | ((with_reducible apply r_look); exact u_ok rfl; exact u_ok rfl; exact z_ok rfl; exact rfl; exact rfl; (first | exact Frm.at0 hq (by assumption) | exact Frm.at hq (by assumption) (by assumption) | (first | (with_reducible assumption) | assumption | exact at_alloc_new _ _ | (repeat (first | assumption | exact at_alloc_new _ _ | refine at_drew ?_ | refine at_alloc _ ?_)))); assumption) | ((with_reducible apply r_allocA); exact z_ok rfl) | ((with_reducible apply r_alloc1); exact z_ok rfl; exact rfl) | ((with_reducible apply r_loadA); exact u_ok rfl; exact rfl; exact s_ok rfl; exact rfl; (first | exact Frm.at0 hq (by assumption) | exact Frm.at hq (by assumption) (by assumption) | (first | (with_reducible assumption) | assumption | exact at_alloc_new _ _ | (repeat (first | assumption | exact at_alloc_new _ _ | refine at_drew ?_ | refine at_alloc _ ?_)))); exact Nat.le_of_ble_eq_true rfl)); (first | (with_reducible exact wnt_none) | ((with_reducible apply wnt_y); exact rfl; exact rfl; exact rfl; exact rfl; (with_reducible exact rfl)))))); exact h.out) : G := h ⟨k⟩

theorem frm_own (w : World) (c : Nat) (o : Obj) : Frm (fun b => b = c) w (setB w.drew c o) := (Frm.of_drew (S := fun b => b = c) w).setB (b := c) (.inl rfl) o
set_option maxHeartbeats 1000000 in
theorem move_ret {w : World} {t mb : Nat} {es : Array MapEntry} {cl : Nat} {m l : List Nd} {ea : List Addr} (h : TreeAt w t mb es cl m) (hp : m.Perm l) (hw : Wf l) (hE : Err6 w ea) (e : Ed) (hok : wrongB e = false) (k : e.kind = 2) :
    Rets Tryd.prog 24 [Ptr t, EdV e] w fun v w' => DoneL ea w w' t mb l e v := by
  have htm := at_lt h.head
  have hmm := at_lt h.row
  have hF0 : Frm0 w (w.alloc (cel e.vals 34)) := Frm.of_alloc _ _
  by_cases hz : e.node = 0
  · obtain ⟨ad, ty, kk, ha, hA⟩ := err_at (hE.frm0 hF0) 1 1 rfl
    refine rets_of Tryd.func24 (by kernel_rfl) rfl Tryd.ntmps24 (Nat.le_of_ble_eq_true rfl) ?_
    refine runWTree40 ?_
    exact ret_if rfl rfl (done_no h hp hF0 (rf23_root hok (.inl k) hz) ha)
  · refine rets_of Tryd.func24 (by kernel_rfl) rfl Tryd.ntmps24 (Nat.le_of_ble_eq_true rfl) ?_
    refine runWTree40 ?_
    refine s_callf (has_ret (h.frm0 hF0) _) rfl wnt_none ?_
    rintro v w1 ⟨rfl, hf1⟩
    rw [there_perm hp hw.nodup]
    have hbox1 : At w1 w.heap.size (cel e.vals 34) := hf1.at0 (at_alloc_new _ _)
    have hF1 : Frm0 w w1 := hF0.trans0 hf1
    clear hf1
    cases a : there l e.node
    · (try simp only [Bool.not_false]); (try simp only [Bool.not_true])
      obtain ⟨ad, ty, kk, ha, hA⟩ := err_at (hE.frm0 hF1) 2 2 rfl
      refine runWTree40 ?_
      exact ret_if rfl rfl (done_no h hp hF1 (rf_node hok (by omega) (.inr hz) a) ha)
    · (try simp only [Bool.not_false]); (try simp only [Bool.not_true])
      refine runWTree40 ?_
      refine s_callf (has_ret (h.frm0 hF1) _) rfl (by (first | (with_reducible exact wnt_none) | ((with_reducible apply wnt_y); exact rfl; exact rfl; exact rfl; exact rfl; (with_reducible exact rfl)))) ?_
      rintro v w2 ⟨rfl, hf2⟩
      rw [there_perm hp hw.nodup]
      have hbox2 := hf2.at0 hbox1
      have hF2 : Frm0 w w2 := hF1.trans0 hf2
      clear hf2 hbox1
      cases b : there l e.parent
      · (try simp only [Bool.not_false]); (try simp only [Bool.not_true])
        obtain ⟨ad, ty, kk, ha, hA⟩ := err_at (hE.frm0 hF2) 2 2 rfl
        refine runWTree40 ?_
        exact ret_if rfl rfl (done_no h hp hF2 (rf2_par hok k hz a b) ha)
      · (try simp only [Bool.not_false]); (try simp only [Bool.not_true])
        refine runWTree40 ?_
        refine s_callf (inBranch_ret (h.frm0 hF2) hp hw _ _ b) rfl wnt_none ?_
        rintro v w3 ⟨rfl, rfl⟩
        cases c : below l e.parent e.node
        · obtain ⟨x, hx⟩ := fnd_there.1 a
          have hnd : ndOr m e.node = x := by rw [ndOr, fnd_perm hp hw.nodup, hx]; rfl
          have h2 := h.frm0 hF2
          have hh := h2.head
          have hrow := h2.row
          have hents := h2.ents
          have hs2 := hF2.size
          refine runWTree40 ?_
          refine w_drawn [(0, false), (1, false), (2, false), (3, false), (4, false), (5, false), (6, false), (7, true)] [8] (fun wq => Frm0 w2 wq) mixed (by kernel_rfl) ?_ ?_
          · exact Frm.of_drew _
          · refine runWTree40 ?_
            refine x_val rfl (r_allocA (z_ok rfl)) wnt_none ((Frm.of_drew w2).alloc _) ?_
            refine runWTree40 ?_
            refine y_skip rfl (r_storeN (nx := ndOr m e.node) (ny := ⟨0, 0, 0, 0, 0, 0, 0⟩) (s_ok rfl) rfl rfl (at_alloc_new _ _)) wnt_none ?_
            rw [setB_alloc, hnd]
            have hc3 := at_alloc_new w2.drew (cel x.vals 40)
            have hF3 : Frm0 w2 (w2.drew.alloc (cel x.vals 40)) := (Frm.of_drew w2).alloc _
            generalize w2.drew.alloc (cel x.vals 40) = w3 at *
            have hbox3 := hF3.at0 hbox2
            refine runWTree40 ?_
            refine w_drawn [(0, false), (1, false), (2, false), (3, false), (4, false), (5, true), (6, false)] [7] (fun wq => Frm (fun b => b = w2.drew.heap.size) w3 wq) mixed (by kernel_rfl) ?_ ?_
            · exact Frm.of_drew _
            · have hne : ∀ c, c < w2.heap.size → ¬ c = w2.drew.heap.size := fun c hc e => by have : c = w2.heap.size := e; omega
              have hnb := hne _ (at_lt hbox2)
              refine runWTree40 ?_
              refine x_skip rfl (r_store_i (s_ok rfl) rfl rfl (at_drew hc3) (by simp [Nd.vals])) wnt_none (frm_own w3 _ _) ?_
              refine runWTree40 ?_
              refine y_skip rfl (r_store_i (s_ok rfl) rfl rfl (at_setB _ (at_drew hc3)) (by simp [Nd.vals])) wnt_none ?_
              rw [setB_setB]
              have e1 : (x.vals.set (0 + 1) (I e.parent)).set (0 + 2) (I e.key) = Nd.vals { x with par := e.parent, key := e.key } := rfl
              rw [e1]
              generalize hy : ({ x with par := e.parent, key := e.key } : Nd) = y at *
              have hyi : y.id = e.node := by rw [← hy]; exact (fnd_id hx).2
              have hc4 := at_setB (cel y.vals 40) (at_drew hc3)
              have hF4 : Frm0 w (setB w3.drew w2.drew.heap.size (cel y.vals 40)) := ((hF2.trans0 hF3).drew).setB (.inr hs2) _
              have hbox4 := at_setB_ne (cel y.vals 40) (fun e => hnb e.symm) (at_drew hbox3)
              generalize setB w3.drew w2.drew.heap.size (cel y.vals 40) = w4 at *
              have h4 := h.frm0 hF4
              have hh4 := h4.head
              have hrow4 := h4.row
              refine runWTree40 ?_
              refine w_drawn [(0, false), (1, false), (2, false), (3, false), (4, false), (5, false), (6, false)] [7] (fun wq => Frm0 w4 wq) mixed (by kernel_rfl) ?_ ?_
              · exact Frm.of_drew _
              · refine runWTree40 ?_
                obtain ⟨es', cl', hu, hE'⟩ := upd_run (x := y) (P := Tryd.prog) (w := w4.drew) (ty := 51) (id := e.node) (u_ok rfl) (u_ok rfl) (at_drew hrow4) h.ents (perm_nodup hp hw.nodup) hyi
                refine y_skip rfl (r_upd rfl rfl rfl hu) wnt_none ?_
                refine runWTree40 ?_
                have hr0 := rf2_ok hok k hz a b c
                refine ret_ni rfl rfl ⟨.inl ⟨hr0, rfl⟩, ⟨es', cl', _, ⟨at_setB_ne _ h.apart.symm (at_drew hh4), at_setB _ (at_drew hrow4), hE'⟩, ?_⟩, frm_mb hF4 _⟩
                rw [applyL, if_neg (by rw [hr0]; simp), if_neg (by omega), if_pos k, ← hy]
                exact put_up (f := fun x => { x with par := e.parent, key := e.key }) hp hw.nodup hx (fnd_id hx).2
        · obtain ⟨ad, ty, kk, ha, hA⟩ := err_at (hE.frm0 hF2) 5 5 rfl
          refine runWTree40 ?_
          exact ret_if rfl rfl (done_no h hp hF2 (rf2_cyc hok k hz a b c) ha)
end Go.Proofs.YtbicffldggcdhaaDoor
