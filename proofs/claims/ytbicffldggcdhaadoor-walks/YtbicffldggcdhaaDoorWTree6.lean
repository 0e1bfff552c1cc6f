/-
  The program's tree: remove, which ranges over a branch, walked.
-/
import Derived.Test.YtbicffldggcdhaaDoorWWalk
namespace Go.Proofs.YtbicffldggcdhaaDoor
open Go
theorem runWTree60 {G K : Prop} (k : K) (h : Wrap K → G := by intro h; (repeat (first | (with_reducible first | refine wpIn_seq ?_ | refine w_reg ?_ | refine s_nil ?_ | refine s_nilQ ?_ | refine wpIn_block ?_ | refine q_then ?_ | refine q_blk ?_ | refine q_then_ret ?_ | refine q_blk_ret ?_ | refine q_then_exit ?_ | refine q_blk_exit ?_ | refine wpIn_skip ?_ | refine wpIn_ret ?_ | refine wpIn_exit ?_ | refine y_nil ?_ | refine y_nilQ ?_ | refine x_late ?_) | ((with_reducible refine q_blk_other ?_ ?_); exact rfl) | ((with_reducible apply c_true); exact rfl; (with_reducible exact rfl)) | ((with_reducible apply c_false); exact rfl; (with_reducible exact rfl)) | ((first | with_reducible apply s_val | ((with_reducible apply y_val); exact rfl) | ((with_reducible apply x_q); exact rfl; intro wq hq)); (first | ((with_reducible apply r_boxA); exact rfl) | ((with_reducible apply r_box1); exact rfl; exact rfl) | ((with_reducible apply r_assign_if); exact rfl) | ((with_reducible apply r_assign_ni); exact rfl) | ((with_reducible apply r_fld); exact fa_ok rfl; exact rfl) | ((with_reducible apply r_load); exact u_ok rfl; exact rfl; exact rfl; (first | exact Frm.at0 hq (by assumption) | exact Frm.at hq (by assumption) (by assumption) | (first | (with_reducible assumption) | assumption | exact at_alloc_new _ _ | (repeat (first | assumption | exact at_alloc_new _ _ | refine at_drew ?_ | refine at_alloc _ ?_)))); exact rfl) | ((with_reducible apply r_eql_t); exact rfl; exact rfl; omega) | ((with_reducible apply r_eql_f); exact rfl; exact rfl; omega) | ((with_reducible apply r_eql); exact rfl; exact rfl) | ((with_reducible apply r_assign_b); exact rfl) | ((with_reducible apply r_not_t); exact rfl; (with_reducible exact rfl)) | ((with_reducible apply r_not_f); exact rfl; (with_reducible exact rfl)) | ((with_reducible apply r_not); exact rfl) | ((with_reducible apply r_allocA); exact z_ok rfl) | ((with_reducible apply r_alloc1); exact z_ok rfl; exact rfl) | ((with_reducible apply r_nilCheck); exact rfl)); (with_reducible exact wnt_none)))); exact h.out) : G := h ⟨k⟩

section
variable {P : Program} {w : World} {n : Nat} {env : Env} {v : Value} {φ : Value → World → Prop}
theorem rm_1 {fn : Func} {t : Nat} (hr : fn.results = #[.tmp t]) (hv : ev n env (.tmp t) = v) (h : φ v w) : bodyQM P fn φ .ret (rep n [] env) w := ret_ms0 (res_1 hr) (by rw [hv]; exact h)
theorem rm_m1 {fn : Func} {t D : Nat} (hd : At w D (.deferred (some []))) (hr : fn.results = #[.tmp t]) (hv : ev n env (.tmp t) = v) (h : φ v (setB w D (.deferred none))) : bodyQM P fn φ .ret (rep n [mark D] env) w :=
  ret_ms [D] (by simp) (fun x hx => by simp at hx; rw [hx]; exact hd) (res_1 hr) (by rw [hv]; exact h)
end
abbrev idsOf (pre : List (Nd × Int)) : List Int := pre.map fun p => p.1.id
theorem gone_one {m : List Nd} {pre : List (Nd × Int)} {x : Nd} {d : Int} : (m.filter fun y => !(idsOf pre).contains y.id).filter (fun y => !decide (y.id = x.id)) = m.filter fun y => !(idsOf (pre ++ [(x, d)])).contains y.id := by
  rw [List.filter_filter]
  refine List.filter_congr (fun y _ => ?_)
  rw [Bool.eq_iff_iff]
  simp [idsOf, and_comm]

set_option maxHeartbeats 1000000 in
theorem remove_ret {w : World} {t mb : Nat} {es : Array MapEntry} {cl : Nat} {m l : List Nd} {ea : List Addr} (h : TreeAt w t mb es cl m) (hp : m.Perm l) (hw : Wf l) (hE : Err6 w ea) (e : Ed) (hok : wrongB e = false) (k : e.kind = 3) :
    Rets Tryd.prog 25 [Ptr t, EdV e] w fun v w' => DoneL ea w w' t mb l e v := by
  have htm := at_lt h.head
  have hmm := at_lt h.row
  have hF0 : Frm0 w ((w.alloc (cel [Ptr t] 28)).alloc (cel e.vals 34)) := (Frm.of_alloc _ _).alloc _
  have hb0 := at_alloc (cel e.vals 34) (at_alloc_new w (cel [Ptr t] 28))
  have hb1 := at_alloc_new (w.alloc (cel [Ptr t] 28)) (cel e.vals 34)
  by_cases hz : e.node = 0
  · obtain ⟨ad, ty, kk, ha, hA⟩ := err_at (hE.frm0 hF0) 1 1 rfl
    refine rets_marks Tryd.func25 (by kernel_rfl) rfl Tryd.ntmps25 (Nat.le_of_ble_eq_true rfl) ?_
    refine runWTree60 ?_
    exact rm_1 rfl rfl (done_no h hp hF0 (rf23_root hok (.inr k) hz) ha)
  · refine rets_marks Tryd.func25 (by kernel_rfl) rfl Tryd.ntmps25 (Nat.le_of_ble_eq_true rfl) ?_
    refine runWTree60 ?_
    rw [show ev 30 (ini [Ptr t, EdV e]) (Operand.tmp 0) = Ptr t from rfl]
    refine s_callf (has_ret (h.frm0 hF0) _) rfl wnt_none ?_
    rintro v w1 ⟨rfl, hf1⟩
    rw [there_perm hp hw.nodup]
    have hbox0 := hf1.at0 hb0
    have hbox1 := hf1.at0 hb1
    have hF1 : Frm0 w w1 := hF0.trans0 hf1
    clear hf1 hb0 hb1 hF0
    have hs0 : w.heap.size < (w.alloc (cel [Ptr t] 28)).heap.size := by simp
    generalize (w.alloc (cel [Ptr t] 28)).heap.size = eb at *
    have hs1 := hF1.size
    cases a : there l e.node
    · (try simp only [Bool.not_false]); (try simp only [Bool.not_true])
      obtain ⟨ad, ty, kk, ha, hA⟩ := err_at (hE.frm0 hF1) 2 2 rfl
      refine runWTree60 ?_
      exact rm_1 rfl rfl (done_no h hp hF1 (rf_node hok (by omega) (.inr hz) a) ha)
    · (try simp only [Bool.not_false]); (try simp only [Bool.not_true])
      refine runWTree60 ?_
      refine s_callf (branch_ret (w := w1)) rfl wnt_none ?_
      rintro v w2 ⟨ca, cb, rfl, hca, hcb, hla, hlb, hf2⟩
      have hF2 : Frm0 w w2 := hF1.trans0 hf2
      have h2 := h.frm0 hF2
      have hbox2 := hf2.at0 hbox0
      obtain ⟨x, hx, hxe⟩ := there_mem.1 a
      rw [← hxe] at hcb
      have hs2 := hF2.size
      clear hf2 hbox0 hbox1
      refine runWTree60 ?_
      refine rf (caps := [Ptr ca, Ptr cb]) rfl fun fn rc hrc => ?_
      have hst : rc.state = .ready := by rw [hrc]; rfl
      have hpe : rc.pending = none := by rw [hrc]; rfl
      have hW1 := inLoop_frm w2 rc
      have hD1 := inLoop_D w2 rc
      have hl1 := inLoop_l w2 rc
      have hz1 := inLoop_size w2 rc
      have h1 := h2.frm0 hW1
      have hF1' : Frm0 w (inLoop w2 rc) := hF2.trans0 hW1
      have hbt1 := hW1.at0 hbox2
      have hca1 := hW1.at0 hca
      have hcb1 := hW1.at0 hcb
      obtain ⟨D, hD⟩ : ∃ D, w2.heap.size = D := ⟨_, rfl⟩
      rw [hD] at hrc hD1 hl1 hz1 ⊢
      have hDw : w.heap.size < D := by have := at_lt hbox2; omega
      generalize inLoop w2 rc = W1 at *
      have hR : Rng (D + 1) W1.heap.size (go (kids l) 34 x 0) (fun pre W => ∃ es', TreeAt W t mb es' cl (m.filter fun y => !(idsOf pre).contains y.id) ∧ At W (D + 1) (.loop rc) ∧ At W D (.deferred (some [])) ∧ At W w.heap.size (cel [Ptr t] 28) ∧ Frm (fun b => b = mb ∨ b = D + 1) W1 W) (fun _ _ => False) (fun b => b = mb ∨ b = D + 1) := by
        refine ⟨?_, ?_, ?_⟩
        · rintro pre W W' ⟨es', q1, q2, q3, q4, q5⟩ f
          exact ⟨es', q1.frm0 f, f.at0 q2, f.at0 q3, f.at0 q4, q5.trans0 f⟩
        · rintro pre y d W ⟨es', q1, q2, q3, q4, q5⟩ _ _
          have hsW := q5.size
          refine rnd2 q2 hrc ?_
          refine runWTree60 ?_
          refine s_skip (r_storeN (nx := y) (ny := ⟨0, 0, 0, 0, 0, 0, 0⟩) (s_ok rfl) rfl rfl (at_alloc_new _ _)) wnt_none ?_
          rw [setB_alloc]
          refine runWTree60 ?_
          refine ⟨at_alloc _ q2, ?_⟩
          have hFa : Frm (fun b => b = D + 1) W (setB (W.alloc (cel y.vals 40)) (D + 1) (.loop { rc with state := .busy })) := (Frm.of_alloc (S := fun b => b = D + 1) W _).setB (b := D + 1) (.inl rfl) _
          have hbz := at_setB (.loop { rc with state := .busy }) (at_alloc (cel y.vals 40) q2)
          have hby := at_setB_ne (.loop { rc with state := .busy }) (show D + 1 ≠ W.heap.size by omega) (at_alloc_new W (cel y.vals 40))
          generalize setB (W.alloc (cel y.vals 40)) (D + 1) (.loop { rc with state := .busy }) = W2 at *
          have p1 := q1.frm hFa (by omega) (by omega)
          have p1h := p1.head
          have p1r := p1.row
          have p3 := hFa.at (show ¬ D = D + 1 by omega) q3
          have p4 := hFa.at (show ¬ w.heap.size = D + 1 by omega) q4
          obtain ⟨es4, hd, hE4⟩ := del_run (P := Tryd.prog) (w := W2.drew) (ty := 51) (ty2 := 0) (tys := 3) (id := y.id) (u_ok rfl) (u_ok rfl) (at_drew p1r) p1.ents ((List.filter_sublist.map _).nodup (perm_nodup hp hw.nodup))
          generalize W.heap.size = yb at *
          refine runWTree60 ?_
          refine w_drawn [(0, false), (1, false), (2, false), (3, false), (4, false), (5, false)] [6] (fun wq => Frm0 W2 wq) mixed (by kernel_rfl) ?_ ?_
          · exact Frm.of_drew _
          · clear hrc
            refine x_q rfl (fun wq hq => r_load (u_ok rfl) rfl rfl (hq.at0 p4) rfl) wnt_none ?_
            refine x_q rfl (fun wq hq => r_nilCheck rfl) wnt_none ?_
            refine x_q rfl (fun wq hq => r_fld (fa_ok rfl) rfl) wnt_none ?_
            refine x_q rfl (fun wq hq => r_load (u_ok rfl) rfl rfl (hq.at0 p1h) rfl) wnt_none ?_
            refine x_q rfl (fun wq hq => r_fld (fa_ok rfl) rfl) wnt_none ?_
            refine x_q rfl (fun wq hq => r_load (u_ok rfl) rfl rfl (hq.at0 hby) rfl) wnt_none ?_
            refine runWTree60 ?_
            refine y_val0 rfl (r_del rfl rfl hd) wnt_none ?_
            refine runWTree60 ?_
            refine rnd_go (at_setB_ne _ (show mb ≠ D + 1 by omega) (at_drew hbz)) hst hpe (.inl ⟨rfl, ⟨es4, ?_, ?_, ?_, ?_, ?_⟩, ?_⟩)
            · rw [← gone_one]
              exact ⟨at_setB_ne _ (by omega) (at_setB_ne _ h.apart.symm (at_drew p1h)), at_setB_ne _ (by omega) (at_setB _ (at_drew p1r)), hE4⟩
            · exact at_setB _ (at_setB_ne _ (show mb ≠ D + 1 by omega) (at_drew hbz))
            · exact at_setB_ne _ (by omega) (at_setB_ne _ (by omega) (at_drew p3))
            · exact at_setB_ne _ (by omega) (at_setB_ne _ (by omega) (at_drew p4))
            · exact (((q5.trans hFa (fun b hb => .inl (.inr hb))).drew).setB (b := mb) (.inl (.inl rfl)) _).setB (b := D + 1) (.inl (.inr rfl)) _
            · exact (((hFa.mono (fun b hb => .inl (.inr hb))).drew).setB (b := mb) (.inl (.inl rfl)) _).setB (b := D + 1) (.inl (.inr rfl)) _
        · rintro b (rfl | rfl) <;> omega
      refine (branch1_ret h1 hp hw hx hca1 hcb1 hR ⟨es, by rw [List.filter_eq_self.2 (fun y _ => by simp)]; exact h1, hl1, hD1, hbt1, Frm.refl _ _⟩).mono ?_
      rintro v w3 (⟨es3, q1, q2, q3, q4, q5⟩ | ⟨q, _, hq⟩)
      · refine rf_on q2 hst hpe ?_
        have hr0 := rf34_ok hok (.inl k) (.inr hz) a
        have hF4 : Frm (fun b => b = mb) w (setB w3 (D + 1) (.loop { rc with state := .exhausted })) := ((hF1'.mono (fun _ h => h.elim)).trans q5 (fun b hb => by rcases hb with rfl | rfl; exact .inl rfl; exact .inr (by omega))).setB (b := D + 1) (.inr (by omega)) _
        have hD4 := at_setB_ne (.loop { rc with state := .exhausted }) (show D + 1 ≠ D by omega) q3
        have hT4 : TreeAt (setB w3 (D + 1) (.loop { rc with state := .exhausted })) t mb es3 cl (m.filter fun y => !(idsOf (go (kids l) 34 x 0)).contains y.id) := ⟨at_setB_ne _ (by omega) q1.head, at_setB_ne _ (by omega) q1.row, q1.ents⟩
        clear hrc
        generalize setB w3 (D + 1) (.loop { rc with state := .exhausted }) = w4 at *
        refine runWTree60 ?_
        refine rm_m1 hD4 rfl rfl ⟨.inl ⟨hr0, rfl⟩, ⟨es3, cl, _, ⟨at_setB_ne _ (by omega) hT4.head, at_setB_ne _ (by omega) hT4.row, hT4.ents⟩, ?_⟩, hF4.setB (b := D) (.inr (by omega)) _⟩
        rw [applyL, if_neg (by rw [hr0]; simp), if_neg (by omega), if_neg (by omega), if_neg (by omega)]
        have e1 : (m.filter fun y => !(idsOf (go (kids l) 34 x 0)).contains y.id) = m.filter fun y => !below l y.id e.node := by
          refine List.filter_congr (fun y hy => ?_)
          have := go_ids hw hx (hp.mem_iff.1 hy) (fits_all hw hx) 0
          rw [hxe] at this
          rw [Bool.eq_iff_iff]
          simp only [Bool.not_eq_true', List.contains_eq_mem, decide_eq_false_iff_not]
          rw [this]
          simp
        rw [e1]
        exact hp.filter _
      · exact hq.elim
end Go.Proofs.YtbicffldggcdhaaDoor
