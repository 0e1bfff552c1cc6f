/-
  What the law holds of its trees; looks (no lists yet) and trees, walked.
-/
import Derived.Test.YtbicffldggcdhaaGreatDoorWLaw2
import Derived.Test.YtbicffldggcdhaaGreatDoorLTree3
namespace Go.Proofs.YtbicffldggcdhaaGreatDoor
open Go
theorem runWLaw30 {G K : Prop} (k : K) (h : Wrap K → G := by intro h; (repeat (first | (with_reducible first | refine wpIn_seq ?_ | refine w_reg ?_ | refine s_nil ?_ | refine s_nilQ ?_ | refine wpIn_block ?_ | refine q_then ?_ | refine q_blk ?_ | refine q_then_ret ?_ | refine q_blk_ret ?_ | refine q_then_exit ?_ | refine q_blk_exit ?_ | refine wpIn_skip ?_ | refine wpIn_ret ?_ | refine wpIn_exit ?_ | refine y_nil ?_ | refine y_nilQ ?_ | refine x_late ?_) | ((with_reducible refine q_blk_other ?_ ?_); exact rfl) | ((with_reducible apply c_true); exact rfl; (with_reducible exact rfl)) | ((with_reducible apply c_false); exact rfl; (with_reducible exact rfl)) | ((first | with_reducible apply s_val | ((with_reducible apply y_val); exact rfl) | ((with_reducible apply x_q); exact rfl; intro wq hq)); (first | ((with_reducible apply r_assign_b); exact rfl) | ((with_reducible apply r_assign_i); exact rfl) | ((with_reducible apply r_move_i); exact rfl) | ((with_reducible apply r_move_p); exact rfl) | ((with_reducible apply r_nilCheck); exact rfl) | ((with_reducible apply r_fld); exact fa_ok rfl; exact rfl) | ((with_reducible apply r_load); exact u_ok rfl; exact rfl; exact rfl; (first | exact Frm.at0 hq (by assumption) | exact Frm.at hq (by assumption) (by assumption) | (first | (with_reducible assumption) | assumption | exact at_alloc_new _ _ | (repeat (first | assumption | exact at_alloc_new _ _ | refine at_drew ?_ | refine at_alloc _ ?_)))); exact rfl) | ((with_reducible apply r_len); exact u_ok rfl; exact rfl) | ((with_reducible apply r_lss_t); exact rfl; exact rfl; omega) | ((with_reducible apply r_lss_f); exact rfl; exact rfl; omega) | ((with_reducible apply r_lss); exact rfl; exact rfl) | ((with_reducible apply r_sub); exact rfl; exact rfl; omega; omega) | ((with_reducible apply r_allocA); exact z_ok rfl) | ((with_reducible apply r_alloc1); exact z_ok rfl; exact rfl) | ((with_reducible apply r_index); exact u_ok rfl; exact s_ok rfl; exact rfl; exact rfl; omega; omega) | ((with_reducible apply r_indexarr); exact u_ok rfl; exact s_ok rfl; exact rfl; exact rfl; omega; omega) | ((with_reducible apply r_loadA); exact u_ok rfl; exact rfl; exact s_ok rfl; exact rfl; (first | exact Frm.at0 hq (by assumption) | exact Frm.at hq (by assumption) (by assumption) | (first | (with_reducible assumption) | assumption | exact at_alloc_new _ _ | (repeat (first | assumption | exact at_alloc_new _ _ | refine at_drew ?_ | refine at_alloc _ ?_)))); exact Nat.le_of_ble_eq_true rfl) | ((with_reducible apply r_neq_t); exact rfl; exact rfl; omega) | ((with_reducible apply r_neq_f); exact rfl; exact rfl; omega) | ((with_reducible apply r_neq); exact rfl; exact rfl) | ((with_reducible apply r_add); exact rfl; exact rfl; omega; omega)); (with_reducible exact wnt_none)))); exact h.out) : G := h ⟨k⟩
theorem runWLaw31 {G K : Prop} (k : K) (h : Wrap K → G := by intro h; (repeat (first | (with_reducible first | refine wpIn_seq ?_ | refine w_reg ?_ | refine s_nil ?_ | refine s_nilQ ?_ | refine wpIn_block ?_ | refine q_then ?_ | refine q_blk ?_ | refine q_then_ret ?_ | refine q_blk_ret ?_ | refine q_then_exit ?_ | refine q_blk_exit ?_ | refine wpIn_skip ?_ | refine wpIn_ret ?_ | refine wpIn_exit ?_ | refine y_nil ?_ | refine y_nilQ ?_ | refine x_late ?_) | ((with_reducible refine q_blk_other ?_ ?_); exact rfl) | ((with_reducible apply c_true); exact rfl; (with_reducible exact rfl)) | ((with_reducible apply c_false); exact rfl; (with_reducible exact rfl)) | ((first | with_reducible apply s_val | ((with_reducible apply y_val); exact rfl) | ((with_reducible apply x_q); exact rfl; intro wq hq)); (first | ((with_reducible apply r_assign_b); exact rfl) | ((with_reducible apply r_assign_i); exact rfl) | ((with_reducible apply r_move_i); exact rfl) | ((with_reducible apply r_move_p); exact rfl) | ((with_reducible apply r_nilCheck); exact rfl) | ((with_reducible apply r_fld); exact fa_ok rfl; exact rfl) | ((with_reducible apply r_load); exact u_ok rfl; exact rfl; exact rfl; (first | exact Frm.at0 hq (by assumption) | exact Frm.at hq (by assumption) (by assumption) | (first | (with_reducible assumption) | assumption | exact at_alloc_new _ _ | (repeat (first | assumption | exact at_alloc_new _ _ | refine at_drew ?_ | refine at_alloc _ ?_)))); exact rfl) | ((with_reducible apply r_len); exact u_ok rfl; exact rfl) | ((with_reducible apply r_lss_t); exact rfl; exact rfl; omega) | ((with_reducible apply r_lss_f); exact rfl; exact rfl; omega) | ((with_reducible apply r_lss); exact rfl; exact rfl) | ((with_reducible apply r_index); exact u_ok rfl; exact s_ok rfl; exact rfl; exact rfl; omega; omega) | ((with_reducible apply r_indexarr); exact u_ok rfl; exact s_ok rfl; exact rfl; exact rfl; omega; omega) | ((with_reducible apply r_move_b); exact rfl) | ((with_reducible apply r_not_t); exact rfl; (with_reducible exact rfl)) | ((with_reducible apply r_not_f); exact rfl; (with_reducible exact rfl)) | ((with_reducible apply r_not); exact rfl) | ((with_reducible apply r_add); exact rfl; exact rfl; omega; omega)); (with_reducible exact wnt_none)))); exact h.out) : G := h ⟨k⟩

structure TP where
  t : Nat
  r : Nat
  l : List Nd
def pairs : List TP → List Value
  | [] => []
  | x :: ts => [Ptr x.t, Ptr x.r] ++ pairs ts
theorem pairs_length : ∀ ts : List TP, (pairs ts).length = ts.length * 2
  | [] => rfl
  | x :: ts => by simp [pairs, pairs_length ts]; omega
theorem pairs_append : ∀ a b : List TP, pairs (a ++ b) = pairs a ++ pairs b
  | [], b => rfl
  | x :: a, b => by simp [pairs, pairs_append a b]
theorem pairs_get : ∀ (ts : List TP) (i : Nat) (x : TP), ts[i]? = some x → ∀ (rest : List Value) (j : Nat), j < 2 → (pairs ts ++ rest)[i * 2 + j]? = [Ptr x.t, Ptr x.r][j]?
  | [], i, x, h, _, _, _ => by simp at h
  | y :: l, 0, x, h, rest, j, hj => by
    simp at h
    subst h
    simp only [pairs, Nat.zero_mul, Nat.zero_add, List.append_assoc]
    exact List.getElem?_append_left (by simpa using hj)
  | y :: l, i + 1, x, h, rest, j, hj => by
    simp only [pairs, List.append_assoc]
    rw [List.getElem?_append_right (by simp; omega), show (i + 1) * 2 + j - [Ptr y.t, Ptr y.r].length = i * 2 + j by simp; omega]
    exact pairs_get l i x (by simpa using h) rest j hj
theorem pair_at {ts : List TP} {rest : List Value} {i : Nat} {x : TP} (h : ts[i]? = some x) (j : Nat) (v : Value) (off : Nat) (ho : off = i * 2 + j) (hj : j < 2) (hv : [Ptr x.t, Ptr x.r][j]? = some v) : (pairs ts ++ rest)[off]? = some v := by
  rw [ho, pairs_get ts i x h rest j hj, hv]
theorem pairs_sub {ts : List TP} {rest : List Value} {i : Nat} {x : TP} (h : ts[i]? = some x) : sub (pairs ts ++ rest) (i * 2) 2 = [Ptr x.t, Ptr x.r] := by
  rw [sub_succ (pairs ts ++ rest) (i * 2) 1 (Ptr x.t) (pair_at h 0 (Ptr x.t) _ (by omega) (by decide) rfl), sub_succ (pairs ts ++ rest) (i * 2 + 1) 0 (Ptr x.r) (pair_at h 1 (Ptr x.r) _ (by omega) (by decide) rfl), sub_zero]
theorem pairs_one (ts : List TP) : ∀ u ∈ pairs ts, one u = true := by
  induction ts with
  | nil => intro u h; cases h
  | cons x l ih =>
    intro u h
    rcases List.mem_append.1 h with h | h
    · simp only [List.mem_cons, List.not_mem_nil, or_false] at h
      rcases h with h | h <;> subst h <;> rfl
    · exact ih u h

/-- One pair: a tree of the program's and the document's, which are the same; each in blocks of its own colour. -/
structure TOk (PT : World → Nat → List Nd → (Nat → Prop) → Prop) (w : World) (col : Nat → Nat) (i : Nat) (x : TP) : Prop where
  pt : PT w x.t x.l (fun b => col b = 2 * i + 1)
  rt : ∃ b cap rest, RefT w x.r b cap rest x.l ∧ col x.r = 2 * i + 2 ∧ col b = 2 * i + 2
  wf : Wf x.l
/-- What the law's World at wp holds: its pairs, in a row of its own. -/
structure TI (PT : World → Nat → List Nd → (Nat → Prop) → Prop) (w : World) (wp : Nat) (tsv : Value) (tail : List Value) (ts : List TP) (col : Nat → Nat) : Prop where
  head : At w wp (cel (tsv :: tail) 79)
  row : Row w tsv 131 2 ts.length (pairs ts)
  rowc : ∀ b, InV tsv b → wp < b ∧ col b = 0
  each : ∀ (i : Nat) (x : TP), ts[i]? = some x → TOk PT w col i x
  col0 : ∀ b, b ≤ wp → col b = 0
  high : ∀ b, w.heap.size ≤ b → col b = 0
  tail4 : tail.length = 4
/-- What steps on trees change: the law's World, its row of pairs, the trees' own blocks. -/
def TS (wp : Nat) (tsv : Value) (col : Nat → Nat) (b : Nat) : Prop := b = wp ∨ InV tsv b ∨ col b ≠ 0
theorem TI.ts {PT : World → Nat → List Nd → (Nat → Prop) → Prop} {w : World} {wp : Nat} {tsv : Value} {tail : List Value} {ts : List TP} {col : Nat → Nat} (h : TI PT w wp tsv tail ts col) {b : Nat} (hb : TS wp tsv col b) : wp ≤ b := by
  rcases hb with rfl | hb | hb
  · exact Nat.le_refl _
  · exact Nat.le_of_lt (h.rowc b hb).1
  · rcases Nat.lt_or_ge wp b with h8 | h8
    · exact Nat.le_of_lt h8
    · exact absurd (h.col0 b h8) hb
theorem Row.frm {w w' : World} {v : Value} {e sz n : Nat} {pre : List Value} {S : Nat → Prop} (h : Row w v e sz n pre) (f : Frm S w w') (hs : ∀ b, InV v b → ¬ S b) : Row w' v e sz n pre := by
  rcases h with h | ⟨b, cap, rest, rfl, hA, q⟩
  · exact .inl h
  · exact .inr ⟨b, cap, rest, rfl, f.at (hs b ⟨_, _, _, rfl⟩) hA, q⟩
section
variable {PT : World → Nat → List Nd → (Nat → Prop) → Prop}
theorem TOk.frm {w w' : World} {col : Nat → Nat} {i : Nat} {x : TP} {S : Nat → Prop} (sp : TreeSpec PT) (h : TOk PT w col i x) (f : Frm S w w') (hs : ∀ b, col b = 2 * i + 1 ∨ col b = 2 * i + 2 → ¬ S b) : TOk PT w' col i x := by
  obtain ⟨b, cap, rest, hR, c1, c2⟩ := h.rt
  exact ⟨sp.frm h.pt f (fun b hb => hs b (.inl hb)), ⟨b, cap, rest, hR.frm f (hs _ (.inr c1)) (hs _ (.inr c2)), c1, c2⟩, h.wf⟩
theorem TI.frm0 {w w' : World} {wp : Nat} {tsv : Value} {tail : List Value} {ts : List TP} {col : Nat → Nat} (sp : TreeSpec PT) (h : TI PT w wp tsv tail ts col) (f : Frm0 w w') : TI PT w' wp tsv tail ts col :=
  ⟨f.at0 h.head, h.row.frm f (fun _ _ h => h), h.rowc, fun i x hx => (h.each i x hx).frm sp f (fun _ _ h => h), h.col0, fun b hb => h.high b (Nat.le_trans f.size hb), h.tail4⟩

theorem looks_nil {w : World} {wp : Nat} {a b : Value} (h : At w wp (cel [a, b, .slice none 0 0, .slice none 0 0, .slice none 0 0] 79)) :
    Rets Tryz.prog 38 [.pointer (some ⟨wp, 2, none⟩)] w fun v w' => v = B true ∧ w = w' := by
  refine rets_of Tryz.func38 (by kernel_rfl) rfl Tryz.ntmps38 (Nat.le_of_ble_eq_true rfl) ?_
  refine runWLaw30 ?_
  refine lp (fun env w' => w = w' ∧ ∃ env0, env = setL env0 [(0, .pointer (some ⟨wp, 2, none⟩)), (3, I 0)]) (fun _ _ => 0) ⟨rfl, _, fixL ⟨rfl, rfl, trivial⟩⟩ ?_
  rintro env w' ⟨rfl, env0, rfl⟩
  refine runWLaw30 ?_
  refine lp (fun env w' => w = w' ∧ ∃ env0, env = setL env0 [(0, .pointer (some ⟨wp, 2, none⟩)), (6, I 0)]) (fun _ _ => 0) ⟨rfl, _, fixL ⟨rfl, rfl, trivial⟩⟩ ?_
  rintro env w' ⟨rfl, env1, rfl⟩
  refine runWLaw30 ?_
  refine lp (fun env w' => w = w' ∧ ∃ env0, env = setL env0 [(0, .pointer (some ⟨wp, 2, none⟩)), (9, I 0)]) (fun _ _ => 0) ⟨rfl, _, fixL ⟨rfl, rfl, trivial⟩⟩ ?_
  rintro env w' ⟨rfl, env2, rfl⟩
  refine runWLaw30 ?_
  exact ret_b rfl rfl ⟨rfl, rfl⟩

set_option maxHeartbeats 1000000 in
theorem trees_ret (sp : TreeSpec PT) {w : World} {wp : Nat} {tsv : Value} {tail : List Value} {ts : List TP} {col : Nat → Nat} (h : TI PT w wp tsv tail ts col) (hl : ts.length < 2000000000000) :
    Rets Tryz.prog 39 [Ptr wp] w fun v w' => v = B true ∧ Frm0 w w' := by
  obtain ⟨av, nv, cv, rfl, hnv⟩ : ∃ av nv cv, tsv = .slice av nv cv ∧ nv = ts.length := by
    rcases h.row with ⟨e1, e2, _⟩ | ⟨b, cap, rest, e1, _⟩
    · exact ⟨_, _, _, e1, e2.symm⟩
    · exact ⟨_, _, _, e1, rfl⟩
  refine rets_of Tryz.func39 (by kernel_rfl) rfl Tryz.ntmps39 (Nat.le_of_ble_eq_true rfl) ?_
  refine runWLaw31 ?_
  refine lp (fun env w' => Frm0 w w' ∧ ∃ env0, ∃ i : Nat, env = setL env0 [(0, Ptr wp), (3, I i)] ∧ i ≤ ts.length) (fun env _ => ts.length - cnt (env 3)) ?_ ?_
  · exact ⟨Frm.refl _ _, _, 0, fixL ⟨rfl, rfl, trivial⟩, by omega⟩
  · rintro env w' ⟨hf, env0, i, rfl, hi⟩
    have hh := hf.at0 h.head
    by_cases hlt : i < ts.length
    · obtain ⟨x, hx⟩ : ∃ x, ts[i]? = some x := ⟨ts[i], List.getElem?_eq_getElem hlt⟩
      have hT := (h.frm0 sp hf).each i x hx
      obtain ⟨rb, rcap, rrest, hR, _⟩ := hT.rt
      rcases h.row with ⟨_, e2, _⟩ | ⟨b, cap, rest, e1, hA, _⟩
      · omega
      · cases e1
        have hA' := hf.at0 hA
        refine runWLaw31 ?_
        refine w_drawn ((0, false) :: (1, false) :: (2, false) :: (3, false) :: (4, false) :: (5, false) :: (6, false) :: (7, false) :: (8, false) :: (9, false) :: (10, false) :: (11, false) :: (12, false) :: (13, false) :: (14, false) :: (15, false) :: []) [16, 17] (fun wq => Frm0 w' wq) mixed (by kernel_rfl) ?_ ?_
        · exact Frm.of_drew _
        · refine runWLaw31 ?_
          refine x_q rfl (fun wq hq => r_load (u_ok rfl) rfl rfl (hq.at0 hA') (pair_at hx 0 (Ptr x.t) _ (by simp) (by decide) rfl)) wnt_none ?_
          refine runWLaw31 ?_
          refine x_q rfl (fun wq hq => r_load (u_ok rfl) rfl rfl (hq.at0 hA') (pair_at hx 1 (Ptr x.r) _ (by simp) (by decide) rfl)) wnt_none ?_
          refine runWLaw31 ?_
          refine y_callf rfl (same_ret sp (sp.frm hT.pt (Frm.of_drew (S := fun _ => False) _) (fun _ _ h => h)) (hR.frm0 (Frm.of_drew _)) hT.wf) rfl wnt_none ?_
          rintro v w2 ⟨rfl, hf2⟩
          have hF2 : Frm0 w w2 := hf.trans0 ((Frm.of_drew w').trans0 hf2)
          refine runWLaw31 ?_
          exact ⟨_, rfl, ⟨hF2, _, i + 1, fixL ⟨rfl, rfl, trivial⟩, by omega⟩, by show ts.length - ((i : Int) + 1).toNat < ts.length - (i : Int).toNat; omega⟩
    · refine runWLaw31 ?_
      exact ret_b rfl rfl ⟨rfl, hf⟩
end
end Go.Proofs.YtbicffldggcdhaaGreatDoor
