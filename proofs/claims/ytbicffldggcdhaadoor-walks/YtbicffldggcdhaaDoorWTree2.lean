/-
  The program's tree: allowed, inBranch, create, move, set, walked.
-/
import Derived.Test.YtbicffldggcdhaaDoorWTree1
import Derived.Test.YtbicffldggcdhaaDoorLPerm
namespace Go.Proofs.YtbicffldggcdhaaDoor
open Go
theorem runWTree20 {G K : Prop} (k : K) (h : Wrap K → G := by intro h; (repeat (first | (with_reducible first | refine wpIn_seq ?_ | refine w_reg ?_ | refine s_nil ?_ | refine s_nilQ ?_ | refine wpIn_block ?_ | refine q_then ?_ | refine q_blk ?_ | refine q_then_ret ?_ | refine q_blk_ret ?_ | refine q_then_exit ?_ | refine q_blk_exit ?_ | refine wpIn_skip ?_ | refine wpIn_ret ?_ | refine wpIn_exit ?_) | ((with_reducible refine q_blk_other ?_ ?_); exact rfl) | ((with_reducible apply c_true); exact rfl; (with_reducible exact rfl)) | ((with_reducible apply c_false); exact rfl; (with_reducible exact rfl)) | ((with_reducible apply s_no); (first | ((with_reducible apply wnt_nt); exact rfl; exact rfl; exact rfl; exact rfl; (with_reducible exact rfl)) | ((with_reducible apply wnt_nf); exact rfl; exact rfl; exact rfl; exact rfl; (with_reducible exact rfl)))) | ((with_reducible apply s_val); (first | ((with_reducible apply r_boxA); exact rfl) | ((with_reducible apply r_box1); exact rfl; exact rfl) | ((with_reducible apply r_assign_b); exact rfl) | ((with_reducible apply r_fld); exact fa_ok rfl; exact rfl) | ((with_reducible apply r_load); exact u_ok rfl; exact rfl; exact rfl; (first | (with_reducible assumption) | assumption | exact at_alloc_new _ _ | (repeat (first | assumption | exact at_alloc_new _ _ | refine at_drew ?_ | refine at_alloc _ ?_))); exact rfl) | ((with_reducible apply r_eql_t); exact rfl; exact rfl; omega) | ((with_reducible apply r_eql_f); exact rfl; exact rfl; omega) | ((with_reducible apply r_eql); exact rfl; exact rfl) | ((with_reducible apply r_move_b); exact rfl) | ((with_reducible apply r_pick_t); exact rfl; (with_reducible exact rfl); exact rfl) | ((with_reducible apply r_pick_f); exact rfl; (with_reducible exact rfl); exact rfl)); (first | (with_reducible exact wnt_none) | ((with_reducible apply wnt_y); exact rfl; exact rfl; exact rfl; exact rfl; (with_reducible exact rfl)))))); exact h.out) : G := h ⟨k⟩
theorem runWTree21 {G K : Prop} (k : K) (h : Wrap K → G := by intro h; (repeat (first | (with_reducible first | refine wpIn_seq ?_ | refine w_reg ?_ | refine s_nil ?_ | refine s_nilQ ?_ | refine wpIn_block ?_ | refine q_then ?_ | refine q_blk ?_ | refine q_then_ret ?_ | refine q_blk_ret ?_ | refine q_then_exit ?_ | refine q_blk_exit ?_ | refine wpIn_skip ?_ | refine wpIn_ret ?_ | refine wpIn_exit ?_) | ((with_reducible refine q_blk_other ?_ ?_); exact rfl) | ((with_reducible apply c_true); exact rfl; (with_reducible exact rfl)) | ((with_reducible apply c_false); exact rfl; (with_reducible exact rfl)) | ((with_reducible apply s_no); (first | ((with_reducible apply wnt_nt); exact rfl; exact rfl; exact rfl; exact rfl; (with_reducible exact rfl)) | ((with_reducible apply wnt_nf); exact rfl; exact rfl; exact rfl; exact rfl; (with_reducible exact rfl)))) | ((with_reducible apply s_val); (first | ((with_reducible apply r_assign_b); exact rfl) | ((with_reducible apply r_move_i); exact rfl) | ((with_reducible apply r_neq_t); exact rfl; exact rfl; omega) | ((with_reducible apply r_neq_f); exact rfl; exact rfl; omega) | ((with_reducible apply r_neq); exact rfl; exact rfl) | ((with_reducible apply r_move_b); exact rfl) | ((with_reducible apply r_pick_t); exact rfl; (with_reducible exact rfl); exact rfl) | ((with_reducible apply r_pick_f); exact rfl; (with_reducible exact rfl); exact rfl) | ((with_reducible apply r_move_p); exact rfl) | ((with_reducible apply r_nilCheck); exact rfl) | ((with_reducible apply r_fld); exact fa_ok rfl; exact rfl) | ((with_reducible apply r_load); exact u_ok rfl; exact rfl; exact rfl; (first | (with_reducible assumption) | assumption | exact at_alloc_new _ _ | (repeat (first | assumption | exact at_alloc_new _ _ | refine at_drew ?_ | refine at_alloc _ ?_))); exact rfl) | ((with_reducible apply r_look); exact u_ok rfl; exact u_ok rfl; exact z_ok rfl; exact rfl; exact rfl; (first | (with_reducible assumption) | assumption | exact at_alloc_new _ _ | (repeat (first | assumption | exact at_alloc_new _ _ | refine at_drew ?_ | refine at_alloc _ ?_))); assumption) | ((with_reducible apply r_assign_i); exact rfl) | ((with_reducible apply r_eql_t); exact rfl; exact rfl; omega) | ((with_reducible apply r_eql_f); exact rfl; exact rfl; omega) | ((with_reducible apply r_eql); exact rfl; exact rfl)); (first | (with_reducible exact wnt_none) | ((with_reducible apply wnt_y); exact rfl; exact rfl; exact rfl; exact rfl; (with_reducible exact rfl)))))); exact h.out) : G := h ⟨k⟩

set_option maxHeartbeats 1000000 in
theorem allowed_ret (e : Ed) (w : World) : Rets Tryd.prog 22 [EdV e] w fun v w' => v = B (!wrongB e) ∧ Frm0 w w' := by
  have fin : ∀ b : Bool, b = !wrongB e → B b = B (!wrongB e) ∧ Frm0 w (w.alloc (cel e.vals 34)) := fun b hb => ⟨by rw [hb], Frm.of_alloc _ _⟩
  have fin3 : ∀ a b c : Bool, (e.kind = 1 ∨ e.kind = 2) → a = decide (0 ≤ e.node ∧ e.node ≤ 1000) → b = decide (0 ≤ e.parent ∧ e.parent ≤ 1000) → c = decide (0 ≤ e.key ∧ e.key ≤ 1000) → (a && b && c) = !wrongB e := fun a b c k ha hb hc => by
    rw [wrong_12 e k, ← ha, ← hb, ← hc]; cases a <;> cases b <;> cases c <;> rfl
  have fin4 : ∀ a b c : Bool, e.kind = 4 → a = decide (0 ≤ e.node ∧ e.node ≤ 1000) → b = decide (0 ≤ e.prop ∧ e.prop ≤ 3) → c = decide (0 ≤ e.value ∧ e.value ≤ 1000000) → (a && b && c) = !wrongB e := fun a b c k ha hb hc => by
    rw [wrong_4 e k, ← ha, ← hb, ← hc]; cases a <;> cases b <;> cases c <;> rfl
  refine rets_of Tryd.func22 (by kernel_rfl) rfl Tryd.ntmps22 (Nat.le_of_ble_eq_true rfl) ?_
  refine runWTree20 ?_
  cases h1 : decide (e.kind = 1)
  · (try simp only [Bool.not_false]); (try simp only [Bool.not_true])
    refine runWTree20 ?_
    cases h2 : decide (e.kind = 2)
    · (try simp only [Bool.not_false]); (try simp only [Bool.not_true])
      refine runWTree20 ?_
      cases h3 : decide (e.kind = 3)
      · (try simp only [Bool.not_false]); (try simp only [Bool.not_true])
        refine runWTree20 ?_
        cases h4 : decide (e.kind = 4)
        · (try simp only [Bool.not_false]); (try simp only [Bool.not_true])
          refine runWTree20 ?_
          refine ret_b rfl rfl ?_
          exact fin _ (by rw [wrong_0 e (of_decide_eq_false h1) (of_decide_eq_false h2) (of_decide_eq_false h3) (of_decide_eq_false h4)]; rfl)
        · (try simp only [Bool.not_false]); (try simp only [Bool.not_true])
          refine runWTree20 ?_
          refine s_callf (upTo_ret _ _ _) rfl wnt_none ?_
          rintro v w1 ⟨rfl, rfl⟩
          refine runWTree20 ?_
          cases n1 : decide (0 ≤ e.node ∧ e.node ≤ 1000)
          · refine runWTree20 ?_
            refine ret_b rfl rfl ?_
            exact fin _ (fin4 false _ _ (of_decide_eq_true h4) n1.symm rfl rfl)
          · refine runWTree20 ?_
            refine s_callf (upTo_ret _ _ _) rfl (by (first | (with_reducible exact wnt_none) | ((with_reducible apply wnt_y); exact rfl; exact rfl; exact rfl; exact rfl; (with_reducible exact rfl)))) ?_
            rintro v w1 ⟨rfl, rfl⟩
            refine runWTree20 ?_
            cases n2 : decide (0 ≤ e.prop ∧ e.prop ≤ 3)
            · refine runWTree20 ?_
              refine ret_b rfl rfl ?_
              exact fin _ (fin4 true false _ (of_decide_eq_true h4) n1.symm n2.symm rfl)
            · refine runWTree20 ?_
              refine s_callf (upTo_ret _ _ _) rfl (by (first | (with_reducible exact wnt_none) | ((with_reducible apply wnt_y); exact rfl; exact rfl; exact rfl; exact rfl; (with_reducible exact rfl)))) ?_
              rintro v w1 ⟨rfl, rfl⟩
              refine runWTree20 ?_
              refine ret_b rfl rfl ?_
              exact fin _ (fin4 true true _ (of_decide_eq_true h4) n1.symm n2.symm rfl)
      · (try simp only [Bool.not_false]); (try simp only [Bool.not_true])
        refine runWTree20 ?_
        refine s_callf (upTo_ret _ _ _) rfl wnt_none ?_
        rintro v w1 ⟨rfl, rfl⟩
        refine runWTree20 ?_
        refine ret_b rfl rfl ?_
        exact fin _ (by rw [wrong_3 e (of_decide_eq_true h3), Bool.not_not])
    · (try simp only [Bool.not_false]); (try simp only [Bool.not_true])
      refine runWTree20 ?_
      refine s_callf (upTo_ret _ _ _) rfl wnt_none ?_
      rintro v w1 ⟨rfl, rfl⟩
      refine runWTree20 ?_
      cases n1 : decide (0 ≤ e.node ∧ e.node ≤ 1000)
      · refine runWTree20 ?_
        refine ret_b rfl rfl ?_
        exact fin _ (fin3 false _ _ (.inr (of_decide_eq_true h2)) n1.symm rfl rfl)
      · refine runWTree20 ?_
        refine s_callf (upTo_ret _ _ _) rfl (by (first | (with_reducible exact wnt_none) | ((with_reducible apply wnt_y); exact rfl; exact rfl; exact rfl; exact rfl; (with_reducible exact rfl)))) ?_
        rintro v w1 ⟨rfl, rfl⟩
        refine runWTree20 ?_
        cases n2 : decide (0 ≤ e.parent ∧ e.parent ≤ 1000)
        · refine runWTree20 ?_
          refine ret_b rfl rfl ?_
          exact fin _ (fin3 true false _ (.inr (of_decide_eq_true h2)) n1.symm n2.symm rfl)
        · refine runWTree20 ?_
          refine s_callf (upTo_ret _ _ _) rfl (by (first | (with_reducible exact wnt_none) | ((with_reducible apply wnt_y); exact rfl; exact rfl; exact rfl; exact rfl; (with_reducible exact rfl)))) ?_
          rintro v w1 ⟨rfl, rfl⟩
          refine runWTree20 ?_
          refine ret_b rfl rfl ?_
          exact fin _ (fin3 true true _ (.inr (of_decide_eq_true h2)) n1.symm n2.symm rfl)
  · (try simp only [Bool.not_false]); (try simp only [Bool.not_true])
    refine runWTree20 ?_
    refine s_callf (upTo_ret _ _ _) rfl wnt_none ?_
    rintro v w1 ⟨rfl, rfl⟩
    refine runWTree20 ?_
    cases n1 : decide (0 ≤ e.node ∧ e.node ≤ 1000)
    · refine runWTree20 ?_
      refine ret_b rfl rfl ?_
      exact fin _ (fin3 false _ _ (.inl (of_decide_eq_true h1)) n1.symm rfl rfl)
    · refine runWTree20 ?_
      refine s_callf (upTo_ret _ _ _) rfl (by (first | (with_reducible exact wnt_none) | ((with_reducible apply wnt_y); exact rfl; exact rfl; exact rfl; exact rfl; (with_reducible exact rfl)))) ?_
      rintro v w1 ⟨rfl, rfl⟩
      refine runWTree20 ?_
      cases n2 : decide (0 ≤ e.parent ∧ e.parent ≤ 1000)
      · refine runWTree20 ?_
        refine ret_b rfl rfl ?_
        exact fin _ (fin3 true false _ (.inl (of_decide_eq_true h1)) n1.symm n2.symm rfl)
      · refine runWTree20 ?_
        refine s_callf (upTo_ret _ _ _) rfl (by (first | (with_reducible exact wnt_none) | ((with_reducible apply wnt_y); exact rfl; exact rfl; exact rfl; exact rfl; (with_reducible exact rfl)))) ?_
        rintro v w1 ⟨rfl, rfl⟩
        refine runWTree20 ?_
        refine ret_b rfl rfl ?_
        exact fin _ (fin3 true true _ (.inl (of_decide_eq_true h1)) n1.symm n2.symm rfl)

theorem inBranch_ret {w : World} {t mb : Nat} {es : Array MapEntry} {cl : Nat} {m l : List Nd} (h : TreeAt w t mb es cl m) (hp : m.Perm l) (hw : Wf l) (top id : Int) (hid : there l id = true) :
    Rets Tryd.prog 33 [Ptr t, I top, I id] w fun v w' => v = B (below l id top) ∧ w = w' := by
  obtain ⟨h1, h2, h3⟩ := h
  refine rets_of Tryd.func33 (by kernel_rfl) rfl Tryd.ntmps33 (Nat.le_of_ble_eq_true rfl) ?_
  refine runWTree21 ?_
  refine lp (fun env w' => w' = w ∧ ∃ env0, ∃ cur : Int, env = setL env0 [(0, Ptr t), (1, I top), (2, I cur)] ∧ there l cur = true ∧ below l cur top = below l id top) (fun env _ => depth l (num (env 2))) ?_ ?_
  · exact ⟨rfl, _, id, fixL ⟨rfl, rfl, rfl, trivial⟩, hid, rfl⟩
  · rintro env w' ⟨rfl, env0, cur, rfl, hc, hb⟩
    by_cases he : cur = top
    · refine runWTree21 ?_
      refine ret_b rfl rfl ⟨?_, rfl⟩
      rw [← hb, he, below_refl]
    · by_cases h0 : cur = 0
      · refine runWTree21 ?_
        refine ret_b rfl rfl ⟨?_, rfl⟩
        subst h0
        rw [← hb, below_root l (fun e => he e.symm)]
      · refine runWTree21 ?_
        obtain ⟨x, hx⟩ := fnd_there.1 hc
        have hpar : (ndOr m cur).par = parOf l cur := by rw [ndOr, fnd_perm hp hw.nodup, hx, parOf, hx]; rfl
        refine s_val (r_fieldV (v := I (ndOr m cur).par) (u_ok rfl) rfl rfl (u_ok rfl) rfl rfl) wnt_none ?_
        refine runWTree21 ?_
        refine ⟨_, rfl, ⟨rfl, _, (ndOr m cur).par, fixL ⟨rfl, rfl, rfl, trivial⟩, ?_, ?_⟩, ?_⟩
        · rw [hpar]; exact hw.par_there hc
        · rw [hpar, ← hw.step hc h0 he, hb]
        · show depth l (ndOr m cur).par < depth l cur
          rw [hpar, hw.depth_par hc h0]
          exact Nat.lt_succ_self _
end Go.Proofs.YtbicffldggcdhaaDoor
