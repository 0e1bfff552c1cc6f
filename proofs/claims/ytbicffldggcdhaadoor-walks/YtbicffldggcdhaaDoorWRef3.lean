/-
  The document's tree: wrong and below, walked.
-/
import Derived.Test.YtbicffldggcdhaaDoorLTree
namespace Go.Proofs.YtbicffldggcdhaaDoor
open Go
theorem runWRef30 {G K : Prop} (k : K) (h : Wrap K → G := by intro h; (repeat (first | (with_reducible first | refine wpIn_seq ?_ | refine w_reg ?_ | refine s_nil ?_ | refine s_nilQ ?_ | refine wpIn_block ?_ | refine q_then ?_ | refine q_blk ?_ | refine q_then_ret ?_ | refine q_blk_ret ?_ | refine q_then_exit ?_ | refine q_blk_exit ?_ | refine wpIn_skip ?_ | refine wpIn_ret ?_ | refine wpIn_exit ?_) | ((with_reducible refine q_blk_other ?_ ?_); exact rfl) | ((with_reducible apply c_true); exact rfl; (with_reducible exact rfl)) | ((with_reducible apply c_false); exact rfl; (with_reducible exact rfl)) | ((with_reducible apply s_no); (first | ((with_reducible apply wnt_nt); exact rfl; exact rfl; exact rfl; exact rfl; (with_reducible exact rfl)) | ((with_reducible apply wnt_nf); exact rfl; exact rfl; exact rfl; exact rfl; (with_reducible exact rfl)))) | ((with_reducible apply s_val); (first | ((with_reducible apply r_boxA); exact rfl) | ((with_reducible apply r_box1); exact rfl; exact rfl) | ((with_reducible apply r_assign_b); exact rfl) | ((with_reducible apply r_fld); exact fa_ok rfl; exact rfl) | ((with_reducible apply r_load); exact u_ok rfl; exact rfl; exact rfl; (first | (with_reducible assumption) | assumption | exact at_alloc_new _ _ | (repeat (first | assumption | exact at_alloc_new _ _ | refine at_drew ?_ | refine at_alloc _ ?_))); exact rfl) | ((with_reducible apply r_eql_t); exact rfl; exact rfl; omega) | ((with_reducible apply r_eql_f); exact rfl; exact rfl; omega) | ((with_reducible apply r_eql); exact rfl; exact rfl) | ((with_reducible apply r_move_b); exact rfl) | ((with_reducible apply r_not_t); exact rfl; (with_reducible exact rfl)) | ((with_reducible apply r_not_f); exact rfl; (with_reducible exact rfl)) | ((with_reducible apply r_not); exact rfl) | ((with_reducible apply r_pick_t); exact rfl; (with_reducible exact rfl); exact rfl) | ((with_reducible apply r_pick_f); exact rfl; (with_reducible exact rfl); exact rfl)); (first | (with_reducible exact wnt_none) | ((with_reducible apply wnt_y); exact rfl; exact rfl; exact rfl; exact rfl; (with_reducible exact rfl)))))); exact h.out) : G := h ⟨k⟩
theorem runWRef31 {G K : Prop} (k : K) (h : Wrap K → G := by intro h; (repeat (first | (with_reducible first | refine wpIn_seq ?_ | refine w_reg ?_ | refine s_nil ?_ | refine s_nilQ ?_ | refine wpIn_block ?_ | refine q_then ?_ | refine q_blk ?_ | refine q_then_ret ?_ | refine q_blk_ret ?_ | refine q_then_exit ?_ | refine q_blk_exit ?_ | refine wpIn_skip ?_ | refine wpIn_ret ?_ | refine wpIn_exit ?_ | refine y_nil ?_ | refine y_nilQ ?_ | refine x_late ?_) | ((with_reducible refine q_blk_other ?_ ?_); exact rfl) | ((with_reducible apply c_true); exact rfl; (with_reducible exact rfl)) | ((with_reducible apply c_false); exact rfl; (with_reducible exact rfl)) | ((first | with_reducible apply s_val | ((with_reducible apply y_val); exact rfl) | ((with_reducible apply x_q); exact rfl; intro wq hq)); (first | ((with_reducible apply r_assign_b); exact rfl) | ((with_reducible apply r_assign_i); exact rfl) | ((with_reducible apply r_move_i); exact rfl) | ((with_reducible apply r_move_p); exact rfl) | ((with_reducible apply r_nilCheck); exact rfl) | ((with_reducible apply r_fld); exact fa_ok rfl; exact rfl) | ((with_reducible apply r_load); exact u_ok rfl; exact rfl; exact rfl; (first | exact Frm.at0 hq (by assumption) | exact Frm.at hq (by assumption) (by assumption) | (first | (with_reducible assumption) | assumption | exact at_alloc_new _ _ | (repeat (first | assumption | exact at_alloc_new _ _ | refine at_drew ?_ | refine at_alloc _ ?_)))); exact rfl) | ((with_reducible apply r_len); exact u_ok rfl; exact rfl) | ((with_reducible apply r_leq_t); exact rfl; exact rfl; omega) | ((with_reducible apply r_leq_f); exact rfl; exact rfl; omega) | ((with_reducible apply r_leq); exact rfl; exact rfl) | ((with_reducible apply r_eql_t); exact rfl; exact rfl; omega) | ((with_reducible apply r_eql_f); exact rfl; exact rfl; omega) | ((with_reducible apply r_eql); exact rfl; exact rfl) | ((with_reducible apply r_index); exact u_ok rfl; exact s_ok rfl; exact rfl; exact rfl; omega; omega) | ((with_reducible apply r_indexarr); exact u_ok rfl; exact s_ok rfl; exact rfl; exact rfl; omega; omega) | ((with_reducible apply r_add); exact rfl; exact rfl; omega; omega)); (with_reducible exact wnt_none)))); exact h.out) : G := h ⟨k⟩

theorem wrong_12 (e : Ed) (h : e.kind = 1 ∨ e.kind = 2) : wrongB e = (!decide (0 ≤ e.node ∧ e.node ≤ 1000) || (!decide (0 ≤ e.parent ∧ e.parent ≤ 1000) || !decide (0 ≤ e.key ∧ e.key ≤ 1000))) := by
  unfold wrongB; rw [if_pos h]; rfl
theorem wrong_3 (e : Ed) (h : e.kind = 3) : wrongB e = !decide (0 ≤ e.node ∧ e.node ≤ 1000) := by
  unfold wrongB; rw [if_neg (by omega), if_pos h]; rfl
theorem wrong_4 (e : Ed) (h : e.kind = 4) : wrongB e = (!decide (0 ≤ e.node ∧ e.node ≤ 1000) || (!decide (0 ≤ e.prop ∧ e.prop ≤ 3) || !decide (0 ≤ e.value ∧ e.value ≤ 1000000))) := by
  unfold wrongB; rw [if_neg (by omega), if_neg (by omega), if_pos h]; rfl
theorem wrong_0 (e : Ed) (h1 : e.kind ≠ 1) (h2 : e.kind ≠ 2) (h3 : e.kind ≠ 3) (h4 : e.kind ≠ 4) : wrongB e = true := by
  unfold wrongB; rw [if_neg (by omega), if_neg h3, if_neg h4]

set_option maxHeartbeats 1000000 in
theorem wrong_ret (e : Ed) (w : World) : Rets Tryd.prog 27 [EdV e] w fun v w' => v = B (wrongB e) ∧ Frm0 w w' := by
  refine rets_of Tryd.func27 (by kernel_rfl) rfl Tryd.ntmps27 (Nat.le_of_ble_eq_true rfl) ?_
  refine runWRef30 ?_
  refine s_callf (in_ret _ _ _) rfl wnt_none ?_
  rintro v w1 ⟨rfl, rfl⟩
  refine runWRef30 ?_
  have fin : ∀ b : Bool, b = wrongB e → B b = B (wrongB e) ∧ Frm0 w (w.alloc (cel e.vals 34)) := fun b hb => ⟨by rw [hb], Frm.of_alloc _ _⟩
  cases h1 : decide (e.kind = 1)
  · (try simp only [Bool.not_false]); (try simp only [Bool.not_true])
    refine runWRef30 ?_
    cases h2 : decide (e.kind = 2)
    · (try simp only [Bool.not_false]); (try simp only [Bool.not_true])
      refine runWRef30 ?_
      cases h3 : decide (e.kind = 3)
      · (try simp only [Bool.not_false]); (try simp only [Bool.not_true])
        refine runWRef30 ?_
        cases h4 : decide (e.kind = 4)
        · (try simp only [Bool.not_false]); (try simp only [Bool.not_true])
          refine runWRef30 ?_
          refine ret_b rfl rfl ?_
          exact fin _ (by rw [wrong_0 e (of_decide_eq_false h1) (of_decide_eq_false h2) (of_decide_eq_false h3) (of_decide_eq_false h4)])
        · (try simp only [Bool.not_false]); (try simp only [Bool.not_true])
          refine runWRef30 ?_
          refine s_callf (in_ret _ _ _) rfl wnt_none ?_
          rintro v w1 ⟨rfl, rfl⟩
          refine runWRef30 ?_
          refine s_callf (in_ret _ _ _) rfl wnt_none ?_
          rintro v w1 ⟨rfl, rfl⟩
          refine runWRef30 ?_
          cases n1 : decide (0 ≤ e.node ∧ e.node ≤ 1000)
          · (try simp only [Bool.not_false]); (try simp only [Bool.not_true])
            refine runWRef30 ?_
            refine ret_b rfl rfl ?_
            exact fin _ (by rw [wrong_4 e (of_decide_eq_true h4), n1]; rfl)
          · (try simp only [Bool.not_false]); (try simp only [Bool.not_true])
            refine runWRef30 ?_
            cases n2 : decide (0 ≤ e.prop ∧ e.prop ≤ 3)
            · (try simp only [Bool.not_false]); (try simp only [Bool.not_true])
              refine runWRef30 ?_
              refine ret_b rfl rfl ?_
              exact fin _ (by rw [wrong_4 e (of_decide_eq_true h4), n1, n2]; rfl)
            · (try simp only [Bool.not_false]); (try simp only [Bool.not_true])
              refine runWRef30 ?_
              refine ret_b rfl rfl ?_
              exact fin _ (by rw [wrong_4 e (of_decide_eq_true h4), n1, n2]; rfl)
      · (try simp only [Bool.not_false]); (try simp only [Bool.not_true])
        refine runWRef30 ?_
        refine ret_b rfl rfl ?_
        exact fin _ (by rw [wrong_3 e (of_decide_eq_true h3)])
    · (try simp only [Bool.not_false]); (try simp only [Bool.not_true])
      refine runWRef30 ?_
      refine s_callf (in_ret _ _ _) rfl wnt_none ?_
      rintro v w1 ⟨rfl, rfl⟩
      refine runWRef30 ?_
      refine s_callf (in_ret _ _ _) rfl wnt_none ?_
      rintro v w1 ⟨rfl, rfl⟩
      refine runWRef30 ?_
      cases n1 : decide (0 ≤ e.node ∧ e.node ≤ 1000)
      · (try simp only [Bool.not_false]); (try simp only [Bool.not_true])
        refine runWRef30 ?_
        refine ret_b rfl rfl ?_
        exact fin _ (by rw [wrong_12 e (.inr (of_decide_eq_true h2)), n1]; rfl)
      · (try simp only [Bool.not_false]); (try simp only [Bool.not_true])
        refine runWRef30 ?_
        cases n2 : decide (0 ≤ e.parent ∧ e.parent ≤ 1000)
        · (try simp only [Bool.not_false]); (try simp only [Bool.not_true])
          refine runWRef30 ?_
          refine ret_b rfl rfl ?_
          exact fin _ (by rw [wrong_12 e (.inr (of_decide_eq_true h2)), n1, n2]; rfl)
        · (try simp only [Bool.not_false]); (try simp only [Bool.not_true])
          refine runWRef30 ?_
          refine ret_b rfl rfl ?_
          exact fin _ (by rw [wrong_12 e (.inr (of_decide_eq_true h2)), n1, n2]; rfl)
  · (try simp only [Bool.not_false]); (try simp only [Bool.not_true])
    refine runWRef30 ?_
    refine s_callf (in_ret _ _ _) rfl wnt_none ?_
    rintro v w1 ⟨rfl, rfl⟩
    refine runWRef30 ?_
    refine s_callf (in_ret _ _ _) rfl wnt_none ?_
    rintro v w1 ⟨rfl, rfl⟩
    refine runWRef30 ?_
    cases n1 : decide (0 ≤ e.node ∧ e.node ≤ 1000)
    · (try simp only [Bool.not_false]); (try simp only [Bool.not_true])
      refine runWRef30 ?_
      refine ret_b rfl rfl ?_
      exact fin _ (by rw [wrong_12 e (.inl (of_decide_eq_true h1)), n1]; rfl)
    · (try simp only [Bool.not_false]); (try simp only [Bool.not_true])
      refine runWRef30 ?_
      cases n2 : decide (0 ≤ e.parent ∧ e.parent ≤ 1000)
      · (try simp only [Bool.not_false]); (try simp only [Bool.not_true])
        refine runWRef30 ?_
        refine ret_b rfl rfl ?_
        exact fin _ (by rw [wrong_12 e (.inl (of_decide_eq_true h1)), n1, n2]; rfl)
      · (try simp only [Bool.not_false]); (try simp only [Bool.not_true])
        refine runWRef30 ?_
        refine ret_b rfl rfl ?_
        exact fin _ (by rw [wrong_12 e (.inl (of_decide_eq_true h1)), n1, n2]; rfl)

set_option maxHeartbeats 1000000 in
theorem below_ret {w : World} {r b cap : Nat} {rest : List Value} {l : List Nd} (h : RefT w r b cap rest l) (hl : l.length < 1000000) (hc : Clo l) (id other : Int) (hid : there l id = true) :
    Rets Tryd.prog 17 [Ptr r, I id, I other] w fun v w' => v = B (below l id other) ∧ Frm0 w w' := by
  refine rets_of Tryd.func17 (by kernel_rfl) rfl Tryd.ntmps17 (Nat.le_of_ble_eq_true rfl) ?_
  refine runWRef31 ?_
  refine lp (fun env w' => Frm0 w w' ∧ ∃ env0, ∃ k : Nat, ∃ cur : Int, env = setL env0 [(0, Ptr r), (1, I cur), (2, I other), (7, I k)] ∧ k ≤ l.length + 1 ∧ there l cur = true ∧ bel l (l.length + 1 - k) cur other = below l id other) (fun env _ => l.length + 2 - cnt (env 7)) ?_ ?_
  · exact ⟨Frm.refl _ _, _, 0, id, fixL ⟨rfl, rfl, rfl, rfl, trivial⟩, by omega, hid, rfl⟩
  · rintro env w1 ⟨hf, env0, k, cur, rfl, hk, hcur, hb⟩
    have h1 := h.frm0 hf
    obtain ⟨hh, hrow, hroom, hap⟩ := h1
    by_cases hlt : k ≤ l.length
    · obtain ⟨n, hn⟩ : ∃ n, l.length + 1 - k = n + 1 := ⟨l.length - k, by omega⟩
      rw [hn] at hb
      by_cases he : cur = other
      · refine runWRef31 ?_
        refine ret_b rfl rfl ⟨?_, hf⟩
        rw [← hb, bel, if_pos he]
      · by_cases h0 : cur = 0
        · refine runWRef31 ?_
          refine ret_b rfl rfl ⟨?_, hf⟩
          rw [← hb, bel, if_neg he, if_pos h0]
        · obtain ⟨i, x, hx, hxi, hat, hfnd⟩ := there_spec hcur
          have hil := (List.getElem?_eq_some_iff.1 hx).1
          have hpar : parOf l cur = x.par := by rw [parOf, hfnd]
          rw [bel, if_neg he, if_neg h0, hpar] at hb
          refine runWRef31 ?_
          refine w_drawn [(0, false), (1, false), (2, false), (3, false), (4, false), (5, false), (6, true), (7, false), (8, false), (9, false), (10, false)] [] (fun wq => Frm0 w1 wq) mixed (by kernel_rfl) ?_ ?_
          · exact Frm.of_drew _
          · refine runWRef31 ?_
            refine x_callf rfl (At_ret ((h.frm0 hf).frm0 (Frm.of_drew _)) hl _) rfl wnt_none ?_
            rintro v w2 ⟨rfl, rfl⟩
            refine ⟨Frm.of_drew _, ?_⟩
            rw [hat]
            refine runWRef31 ?_
            refine x_q rfl (fun wq hq => r_load (u_ok rfl) rfl rfl (hq.at0 hrow) (node_get hx 1 (I x.par) _ (by simp) (by decide) rfl)) wnt_none ?_
            refine runWRef31 ?_
            exact ⟨_, rfl, ⟨hf.drew, _, k + 1, x.par, fixL ⟨rfl, rfl, rfl, rfl, trivial⟩, by omega, hc x (List.mem_of_getElem? hx), by rw [← hb]; congr 1; omega⟩, by show l.length + 2 - ((k : Int) + 1).toNat < l.length + 2 - (k : Int).toNat; omega⟩
    · refine runWRef31 ?_
      refine ret_b rfl rfl ⟨?_, hf⟩
      rw [← hb, show l.length + 1 - k = 0 by omega, bel]
end Go.Proofs.YtbicffldggcdhaaDoor
