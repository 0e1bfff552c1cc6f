/-
  The document's tree: refused, walked.
-/
import Derived.Test.YtbicffldggcdhaaDoorWRef3
namespace Go.Proofs.YtbicffldggcdhaaDoor
open Go
theorem runWRef40 {G K : Prop} (k : K) (h : Wrap K → G := by intro h; (repeat (first | (with_reducible first | refine wpIn_seq ?_ | refine w_reg ?_ | refine s_nil ?_ | refine s_nilQ ?_ | refine wpIn_block ?_ | refine q_then ?_ | refine q_blk ?_ | refine q_then_ret ?_ | refine q_blk_ret ?_ | refine q_then_exit ?_ | refine q_blk_exit ?_ | refine wpIn_skip ?_ | refine wpIn_ret ?_ | refine wpIn_exit ?_) | ((with_reducible refine q_blk_other ?_ ?_); exact rfl) | ((with_reducible apply c_true); exact rfl; (with_reducible exact rfl)) | ((with_reducible apply c_false); exact rfl; (with_reducible exact rfl)) | ((with_reducible apply s_no); (first | ((with_reducible apply wnt_nt); exact rfl; exact rfl; exact rfl; exact rfl; (with_reducible exact rfl)) | ((with_reducible apply wnt_nf); exact rfl; exact rfl; exact rfl; exact rfl; (with_reducible exact rfl)))) | ((with_reducible apply s_val); (first | ((with_reducible apply r_boxA); exact rfl) | ((with_reducible apply r_box1); exact rfl; exact rfl) | ((with_reducible apply r_assign_i); exact rfl) | ((with_reducible apply r_loadA); exact u_ok rfl; exact rfl; exact s_ok rfl; exact rfl; (first | (with_reducible assumption) | assumption | exact at_alloc_new _ _ | (repeat (first | assumption | exact at_alloc_new _ _ | refine at_drew ?_ | refine at_alloc _ ?_))); exact Nat.le_of_ble_eq_true rfl) | ((with_reducible apply r_assign_b); exact rfl) | ((with_reducible apply r_move_b); exact rfl) | ((with_reducible apply r_move_p); exact rfl) | ((with_reducible apply r_fld); exact fa_ok rfl; exact rfl) | ((with_reducible apply r_load); exact u_ok rfl; exact rfl; exact rfl; (first | (with_reducible assumption) | assumption | exact at_alloc_new _ _ | (repeat (first | assumption | exact at_alloc_new _ _ | refine at_drew ?_ | refine at_alloc _ ?_))); exact rfl) | ((with_reducible apply r_eql_t); exact rfl; exact rfl; omega) | ((with_reducible apply r_eql_f); exact rfl; exact rfl; omega) | ((with_reducible apply r_eql); exact rfl; exact rfl) | ((with_reducible apply r_move_i); exact rfl) | ((with_reducible apply r_geq_t); exact rfl; exact rfl; omega) | ((with_reducible apply r_geq_f); exact rfl; exact rfl; omega) | ((with_reducible apply r_geq); exact rfl; exact rfl) | ((with_reducible apply r_pick_t); exact rfl; (with_reducible exact rfl); exact rfl) | ((with_reducible apply r_pick_f); exact rfl; (with_reducible exact rfl); exact rfl) | ((with_reducible apply r_neq_t); exact rfl; exact rfl; omega) | ((with_reducible apply r_neq_f); exact rfl; exact rfl; omega) | ((with_reducible apply r_neq); exact rfl; exact rfl) | ((with_reducible apply r_lss_t); exact rfl; exact rfl; omega) | ((with_reducible apply r_lss_f); exact rfl; exact rfl; omega) | ((with_reducible apply r_lss); exact rfl; exact rfl) | ((with_reducible apply r_nilCheck); exact rfl) | ((with_reducible apply r_len); exact u_ok rfl; exact rfl)); (first | (with_reducible exact wnt_none) | ((with_reducible apply wnt_y); exact rfl; exact rfl; exact rfl; exact rfl; (with_reducible exact rfl)))))); exact h.out) : G := h ⟨k⟩

theorem kinds_of {e : Ed} (h : wrongB e = false) : e.kind = 1 ∨ e.kind = 2 ∨ e.kind = 3 ∨ e.kind = 4 := by
  by_cases h1 : e.kind = 1
  · exact .inl h1
  by_cases h2 : e.kind = 2
  · exact .inr (.inl h2)
  by_cases h3 : e.kind = 3
  · exact .inr (.inr (.inl h3))
  by_cases h4 : e.kind = 4
  · exact .inr (.inr (.inr h4))
  rw [wrong_0 e h1 h2 h3 h4] at h
  cases h
theorem rf_wrong {l : List Nd} {e : Ed} (h : wrongB e = true) : refused l e = 1 := by unfold refused; rw [if_pos h]
theorem rf1_ex {l : List Nd} {e : Ed} (h : wrongB e = false) (k : e.kind = 1) (a : there l e.node = true) : refused l e = 4 := by simp [refused, h, k, a]
theorem rf1_par {l : List Nd} {e : Ed} (h : wrongB e = false) (k : e.kind = 1) (a : there l e.node = false) (b : there l e.parent = false) : refused l e = 3 := by simp [refused, h, k, a, b]
theorem rf1_full {l : List Nd} {e : Ed} (h : wrongB e = false) (k : e.kind = 1) (a : there l e.node = false) (b : there l e.parent = true) (c : 32 ≤ l.length) : refused l e = 5 := by simp [refused, h, k, a, b, c]
theorem rf1_ok {l : List Nd} {e : Ed} (h : wrongB e = false) (k : e.kind = 1) (a : there l e.node = false) (b : there l e.parent = true) (c : ¬ 32 ≤ l.length) : refused l e = 0 := by simp [refused, h, k, a, b, c]
theorem rf23_root {l : List Nd} {e : Ed} (h : wrongB e = false) (k : e.kind = 2 ∨ e.kind = 3) (a : e.node = 0) : refused l e = 2 := by
  have : e.kind ≠ 1 := by omega
  simp [refused, h, this, k, a]
theorem rf_node {l : List Nd} {e : Ed} (h : wrongB e = false) (k : e.kind ≠ 1) (a : e.kind = 4 ∨ e.node ≠ 0) (b : there l e.node = false) : refused l e = 3 := by
  have : ¬ ((e.kind = 2 ∨ e.kind = 3) ∧ e.node = 0) := by omega
  simp [refused, h, k, this, b]
theorem rf2_par {l : List Nd} {e : Ed} (h : wrongB e = false) (k : e.kind = 2) (a : e.node ≠ 0) (b : there l e.node = true) (c : there l e.parent = false) : refused l e = 3 := by simp [refused, h, k, a, b, c]
theorem rf2_cyc {l : List Nd} {e : Ed} (h : wrongB e = false) (k : e.kind = 2) (a : e.node ≠ 0) (b : there l e.node = true) (c : there l e.parent = true) (d : below l e.parent e.node = true) : refused l e = 6 := by simp [refused, h, k, a, b, c, d]
theorem rf2_ok {l : List Nd} {e : Ed} (h : wrongB e = false) (k : e.kind = 2) (a : e.node ≠ 0) (b : there l e.node = true) (c : there l e.parent = true) (d : below l e.parent e.node = false) : refused l e = 0 := by simp [refused, h, k, a, b, c, d]
theorem rf34_ok {l : List Nd} {e : Ed} (h : wrongB e = false) (k : e.kind = 3 ∨ e.kind = 4) (a : e.kind = 4 ∨ e.node ≠ 0) (b : there l e.node = true) : refused l e = 0 := by
  have h1 : e.kind ≠ 1 := by omega
  have h2 : e.kind ≠ 2 := by omega
  have h3 : ¬ (e.kind = 3 ∧ e.node = 0) := by omega
  simp [refused, h, h1, h2, h3, b]
/-- What At tells. -/
theorem atI_cases (l : List Nd) (id : Int) : (there l id = true ∧ 0 ≤ atI l id) ∨ (there l id = false ∧ atI l id < 0) := by
  cases h : there l id with
  | true => obtain ⟨i, x, _, _, h1, _⟩ := there_spec h; exact .inl ⟨rfl, by omega⟩
  | false => have := (there_not h).1; exact .inr ⟨rfl, by omega⟩

set_option maxHeartbeats 2000000 in
theorem refused_ret {w : World} {r b cap : Nat} {rest : List Value} {l : List Nd} (h : RefT w r b cap rest l) (hl : l.length < 1000000) (hc : Clo l) (e : Ed) :
    Rets Tryd.prog 15 [Ptr r, EdV e] w fun v w' => v = I (refused l e) ∧ Frm0 w w' := by
  refine rets_of Tryd.func15 (by kernel_rfl) rfl Tryd.ntmps15 (Nat.le_of_ble_eq_true rfl) ?_
  refine runWRef40 ?_
  refine s_callf (wrong_ret e _) rfl wnt_none ?_
  rintro v w1 ⟨rfl, hf1⟩
  have hbox : At w1 w.heap.size (cel e.vals 34) := hf1.at0 (at_alloc_new _ _)
  have hF : Frm0 w w1 := (Frm.of_alloc _ _).trans0 hf1
  have h1 := h.frm0 hF
  have hh := h1.head
  cases hw : wrongB e with
  | true =>
    refine runWRef40 ?_
    exact ret_i rfl rfl ⟨by rw [rf_wrong hw]; rfl, hF⟩
  | false =>
    refine runWRef40 ?_
    refine s_callf (At_ret h1 hl _) rfl wnt_none ?_
    rintro v w2 ⟨rfl, rfl⟩
    refine runWRef40 ?_
    refine s_callf (At_ret h1 hl _) rfl wnt_none ?_
    rintro v w2 ⟨rfl, rfl⟩
    rcases kinds_of hw with k | k | k | k
    · rcases atI_cases l e.node with ⟨a, ai⟩ | ⟨a, ai⟩
      · refine runWRef40 ?_
        exact ret_i rfl rfl ⟨by rw [rf1_ex hw k a]; rfl, hF⟩
      · rcases atI_cases l e.parent with ⟨b', bi⟩ | ⟨b', bi⟩
        · by_cases c : 32 ≤ l.length
          · refine runWRef40 ?_
            exact ret_i rfl rfl ⟨by rw [rf1_full hw k a b' c]; rfl, hF⟩
          · refine runWRef40 ?_
            exact ret_i rfl rfl ⟨by rw [rf1_ok hw k a b' c]; rfl, hF⟩
        · refine runWRef40 ?_
          exact ret_i rfl rfl ⟨by rw [rf1_par hw k a b']; rfl, hF⟩
    · by_cases z : e.node = 0
      · refine runWRef40 ?_
        exact ret_i rfl rfl ⟨by rw [rf23_root hw (.inl k) z]; rfl, hF⟩
      · rcases atI_cases l e.node with ⟨a, ai⟩ | ⟨a, ai⟩
        · rcases atI_cases l e.parent with ⟨b', bi⟩ | ⟨b', bi⟩
          · refine runWRef40 ?_
            refine s_callf (below_ret h1 hl hc _ _ b') rfl wnt_none ?_
            rintro v w2 ⟨rfl, hf2⟩
            cases d : below l e.parent e.node with
            | true =>
              refine runWRef40 ?_
              exact ret_i rfl rfl ⟨by rw [rf2_cyc hw k z a b' d]; rfl, hF.trans0 hf2⟩
            | false =>
              refine runWRef40 ?_
              exact ret_i rfl rfl ⟨by rw [rf2_ok hw k z a b' d]; rfl, hF.trans0 hf2⟩
          · refine runWRef40 ?_
            exact ret_i rfl rfl ⟨by rw [rf2_par hw k z a b']; rfl, hF⟩
        · refine runWRef40 ?_
          exact ret_i rfl rfl ⟨by rw [rf_node hw (by omega) (by omega) a]; rfl, hF⟩
    · by_cases z : e.node = 0
      · refine runWRef40 ?_
        exact ret_i rfl rfl ⟨by rw [rf23_root hw (.inr k) z]; rfl, hF⟩
      · rcases atI_cases l e.node with ⟨a, ai⟩ | ⟨a, ai⟩
        · refine runWRef40 ?_
          exact ret_i rfl rfl ⟨by rw [rf34_ok hw (.inl k) (.inr z) a]; rfl, hF⟩
        · refine runWRef40 ?_
          exact ret_i rfl rfl ⟨by rw [rf_node hw (by omega) (by omega) a]; rfl, hF⟩
    · rcases atI_cases l e.node with ⟨a, ai⟩ | ⟨a, ai⟩
      · refine runWRef40 ?_
        exact ret_i rfl rfl ⟨by rw [rf34_ok hw (.inr k) (.inl k) a]; rfl, hF⟩
      · refine runWRef40 ?_
        exact ret_i rfl rfl ⟨by rw [rf_node hw (by omega) (by omega) a]; rfl, hF⟩
end Go.Proofs.YtbicffldggcdhaaDoor
