/-
  WQ17; WQ11; WQ12; WQ13; WQ14; WQ18; WQ19; WQ20.
-/
import Derived.Test.YtbicffldggcdhaaGreatDoorB08
import Derived.Test.YtbicffldggcdhaaGreatDoorB07
namespace Go.Proofs.YtbicffldggcdhaaGreatDoor
open Go
theorem runG09 {G K : Prop} (k : K) (h : Wrap K → G := by intro h; (repeat (first | (with_reducible first | refine wpIn_seq ?_ | refine w_reg ?_ | refine s_nil ?_ | refine s_nilQ ?_ | refine wpIn_block ?_ | refine q_then ?_ | refine q_blk ?_ | refine q_then_ret ?_ | refine q_blk_ret ?_ | refine q_then_exit ?_ | refine q_blk_exit ?_ | refine wpIn_skip ?_ | refine wpIn_ret ?_ | refine wpIn_exit ?_ | refine y_nil ?_ | refine y_nilQ ?_ | refine x_late ?_) | ((with_reducible refine q_blk_other ?_ ?_); exact rfl) | ((with_reducible apply c_true); exact rfl; (with_reducible exact rfl)) | ((with_reducible apply c_false); exact rfl; (with_reducible exact rfl)) | ((first | with_reducible apply s_val | ((with_reducible apply y_val); exact rfl) | ((with_reducible apply x_q); exact rfl; intro wq hq)); (first | ((with_reducible apply r_boxA); exact rfl) | ((with_reducible apply r_box1); exact rfl; exact rfl) | ((with_reducible apply r_assign_b); exact rfl) | ((with_reducible apply r_fld); exact fa_ok rfl; exact rfl) | ((with_reducible apply r_load); exact u_ok rfl; exact rfl; exact rfl; (first | exact Frm.at0 hq (by assumption) | exact Frm.at hq (by assumption) (by assumption) | (first | (with_reducible assumption) | assumption | exact at_alloc_new _ _ | (repeat (first | assumption | exact at_alloc_new _ _ | refine at_drew ?_ | refine at_alloc _ ?_)))); (first | exact mid_get rfl | exact mid_get2 rfl | exact mid_get0 rfl | exact rfl)) | ((with_reducible apply r_eql_t); exact rfl; exact rfl; omega) | ((with_reducible apply r_eql_f); exact rfl; exact rfl; omega) | ((with_reducible apply r_eql); exact rfl; exact rfl) | ((with_reducible apply r_assign_i); exact rfl) | ((with_reducible apply r_move_s); exact rfl) | ((with_reducible apply r_len); exact u_ok rfl; exact rfl) | ((with_reducible apply r_move_i); exact rfl) | ((with_reducible apply r_lss_t); exact rfl; exact rfl; omega) | ((with_reducible apply r_lss_f); exact rfl; exact rfl; omega) | ((with_reducible apply r_lss); exact rfl; exact rfl) | ((with_reducible apply r_move_f); exact rfl) | ((with_reducible apply r_index); exact u_ok rfl; exact s_ok rfl; exact rfl; exact rfl; omega; omega) | ((with_reducible apply r_indexarr); exact u_ok rfl; exact s_ok rfl; exact rfl; exact rfl; omega; omega) | ((with_reducible apply r_loadA); exact u_ok rfl; exact rfl; exact s_ok rfl; exact rfl; (first | exact Frm.at0 hq (by assumption) | exact Frm.at hq (by assumption) (by assumption) | (first | (with_reducible assumption) | assumption | exact at_alloc_new _ _ | (repeat (first | assumption | exact at_alloc_new _ _ | refine at_drew ?_ | refine at_alloc _ ?_)))); exact Nat.le_of_ble_eq_true rfl) | ((with_reducible apply r_add); exact rfl; exact rfl; omega; omega) | ((with_reducible apply r_assign_s); exact rfl) | ((with_reducible apply r_allocA); exact z_ok rfl) | ((with_reducible apply r_alloc1); exact z_ok rfl; exact rfl) | ((with_reducible apply r_not_t); exact rfl; (with_reducible exact rfl)) | ((with_reducible apply r_not_f); exact rfl; (with_reducible exact rfl)) | ((with_reducible apply r_not); exact rfl) | ((with_reducible apply r_move_p); exact rfl) | ((with_reducible apply r_nilCheck); exact rfl) | ((with_reducible apply r_move_b); exact rfl) | ((with_reducible apply r_gtr_t); exact rfl; exact rfl; omega) | ((with_reducible apply r_gtr_f); exact rfl; exact rfl; omega) | ((with_reducible apply r_gtr); exact rfl; exact rfl) | ((with_reducible apply r_sub); exact rfl; exact rfl; omega; omega) | ((with_reducible apply r_ifaceP); exact rfl; exact u_ok rfl) | ((with_reducible apply r_ifaceA); exact rfl; exact u_ok rfl) | ((with_reducible apply r_mkf); exact rfl) | ((with_reducible apply r_assign_p); exact rfl)); (with_reducible exact wnt_none)))); exact h.out) : G := h ⟨k⟩

theorem pd_lenQ (q : Int × Ed) : (pdV q).length = 7 := rfl
theorem get1_ret {w : World} {ab : Nat} {a : Ans} (hA : At w ab (cel a.vals 123)) (q : Int × Ed) :
    Rets Tryz.prog 207 [.agg (pdV q).toArray, Ptr ab] w fun v w' => v = B (decide (q.1 = a.seq)) ∧ Frm0 w w' := by
  have hq := at_alloc_new w (cel (pdV q) 147)
  have hA1 := at_alloc (cel (pdV q) 147) hA
  refine rets_of Tryz.func207 (by kernel_rfl) rfl Tryz.ntmps207 (Nat.le_of_ble_eq_true rfl) ?_
  refine runG09 ?_
  exact ret_b rfl rfl ⟨rfl, Frm.of_alloc _ _⟩
abbrev delV (ab : Nat) : Value := .func (.func 207) #[] #[Ptr ab]
theorem pd_sub {l : List (Int × Ed)} {j : Nat} {q : Int × Ed} (h : l[j]? = some q) (rest : List Value) : sub (fl pdV l ++ rest) (0 + (j : Int).toNat * 7) 7 = pdV q := by
  have := fl_sub pd_lenQ l j q h [] rest
  rw [List.nil_append, List.length_nil] at this
  rw [show 0 + (j : Int).toNat * 7 = 0 + j * 7 by omega]
  exact this
/-- The first of that number. -/
def Fst (l : List (Int × Ed)) (s : Int) (r : Int) : Prop := (r = -1 ∧ ∀ q ∈ l, q.1 ≠ s) ∨ ∃ (i : Nat) (q : Int × Ed), r = i ∧ l[i]? = some q ∧ q.1 = s ∧ ∀ q' ∈ l.take i, q'.1 ≠ s
set_option maxRecDepth 4000 in
set_option maxHeartbeats 2000000 in
theorem IndexFunc_ret {w : World} {v : Value} {l : List (Int × Ed)} {ab : Nat} {a : Ans} (hrow : Row w v 147 7 l.length (fl pdV l)) (hA : At w ab (cel a.vals 123)) (hl : l.length < 1000) :
    Rets Tryz.prog 208 [v, delV ab] w fun u w' => ∃ r, u = I r ∧ Fst l a.seq r ∧ Frm0 w w' := by
  obtain ⟨va, vc, rfl⟩ := hrow.isSl
  refine rets_of Tryz.func208 (by kernel_rfl) rfl Tryz.ntmps208 (Nat.le_of_ble_eq_true rfl) ?_
  refine runG09 ?_
  refine lp (fun env w' => ∃ env0, ∃ j : Nat, env = setL env0 [(0, .slice va l.length vc), (1, delV ab), (7, I l.length), (8, I j)] ∧ j ≤ l.length ∧ (∀ q ∈ l.take j, q.1 ≠ a.seq) ∧ Frm0 w w') (fun env _ => l.length - cnt (env 8)) ?_ ?_
  · exact ⟨_, 0, fixL ⟨rfl, rfl, rfl, rfl, trivial⟩, by omega, fun q hq => by simp at hq, Frm.refl _ _⟩
  · rintro env w1 ⟨env0, j, rfl, hj, hno, hF⟩
    by_cases hlt : j < l.length
    · obtain ⟨q, hq⟩ : ∃ q, l[j]? = some q := ⟨_, List.getElem?_eq_getElem hlt⟩
      rcases hrow with ⟨_, h0, _⟩ | ⟨b, cap, rest, e, hB, hpl, hr, hc⟩
      · omega
      cases e
      have hB1 := hF.at0 hB
      refine runG09 ?_
      refine s_val (r_loadV (vs := pdV q) (u_ok rfl) rfl (s_ok rfl) rfl hB1 (by rw [List.length_append, fl_len pd_lenQ]; omega) (pd_sub hq rest)) wnt_none ?_
      refine s_callv (caps := [Ptr ab]) rfl (get1_ret (hF.at0 hA) q) rfl wnt_none ?_
      rintro v w2 ⟨rfl, f2⟩
      by_cases he : q.1 = a.seq
      · rw [decide_eq_true he]
        refine runG09 ?_
        exact ret_i rfl rfl ⟨_, rfl, .inr ⟨j, q, rfl, hq, he, hno⟩, hF.trans0 f2⟩
      · rw [decide_eq_false he]
        refine runG09 ?_
        refine ⟨_, rfl, ⟨_, j + 1, fixL ⟨rfl, rfl, rfl, rfl, trivial⟩, by omega, ?_, hF.trans0 f2⟩, by show l.length - ((j : Int) + 1).toNat < l.length - (j : Int).toNat; omega⟩
        intro q' hq'
        rw [take_snoc hq] at hq'
        rcases List.mem_append.1 hq' with h9 | h9
        · exact hno q' h9
        · simp at h9
          subst h9
          exact he
    · have hje : j = l.length := by omega
      subst hje
      rw [List.take_length] at hno
      refine runG09 ?_
      exact ret_i rfl rfl ⟨_, rfl, .inl ⟨rfl, hno⟩, hF⟩
theorem del_keep {K : List (Int × Ed)} {mid tl : List Value} {x : Int × Ed} (h : 7 ≤ mid.length) : put (fl pdV K ++ (mid ++ (pdV x ++ tl))) (K.length * 7) (pdV x) = fl pdV (K ++ [x]) ++ ((mid.drop 7 ++ pdV x) ++ tl) := by
  rw [← fl_len pd_lenQ K, put_right, put_head _ _ (by rw [List.length_append, pd_lenQ]; omega), fl_append, pd_lenQ, List.drop_append_of_le_length h]
  simp [fl]
theorem filt_none {l : List (Int × Ed)} {s : Int} (h : ∀ q ∈ l, q.1 ≠ s) : l.filter (fun q => !decide (q.1 = s)) = l := List.filter_eq_self.2 (fun q hq => by simp [h q hq])
set_option maxRecDepth 4000 in
set_option maxHeartbeats 4000000 in
theorem DeleteFunc_ret {w : World} {v : Value} {l : List (Int × Ed)} {ab : Nat} {a : Ans} (hrow : Row w v 147 7 l.length (fl pdV l)) (hA : At w ab (cel a.vals 123)) (hab : ¬ InV v ab) (hl : l.length < 1000) :
    Rets Tryz.prog 206 [v, delV ab] w fun u w' => Row w' u 147 7 (l.filter fun q => !decide (q.1 = a.seq)).length (fl pdV (l.filter fun q => !decide (q.1 = a.seq))) ∧ Frm (InV v) w w' ∧ ∀ b, InV u b → InV v b := by
  obtain ⟨va, vc, rfl⟩ := hrow.isSl
  refine rets_of Tryz.func206 (by kernel_rfl) rfl Tryz.ntmps206 (Nat.le_of_ble_eq_true rfl) ?_
  refine runG09 ?_
  refine s_callf (IndexFunc_ret hrow hA hl) rfl wnt_none ?_
  rintro u w1 ⟨r, rfl, hr, f1⟩
  rcases hr with ⟨rfl, hno⟩ | ⟨i0, q0, rfl, hq0, hs0, hno⟩
  · refine runG09 ?_
    refine ret_s rfl rfl ⟨?_, f1.mono (fun _ h => h.elim), fun b hb => hb⟩
    rw [filt_none hno]
    exact hrow.frm f1 (fun _ _ h => h)
  · have hi0 := (List.getElem?_eq_some_iff.1 hq0).1
    rcases hrow with ⟨_, h0, _⟩ | ⟨b, cap, rest, e, hB, hpl, hroom, hc⟩
    · omega
    cases e
    have hbb : ¬ ab = b := fun e => hab ⟨_, _, _, by rw [e]⟩
    have hT : (l.take i0).filter (fun q => !decide (q.1 = a.seq)) = l.take i0 := filt_none hno
    refine runG09 ?_
    refine lp (fun env w' => ∃ env0, ∃ (i j : Nat) (K : List (Int × Ed)) (mid : List Value), env = setL env0 [(0, .slice (some ⟨b, 0, none⟩) l.length vc), (1, delV ab), (5, I i), (6, I j)] ∧ K = (l.take j).filter (fun q => !decide (q.1 = a.seq)) ∧ K.length = i ∧ i < j ∧ j ≤ l.length ∧ mid.length = (j - i) * 7 ∧ At w' b (cel (fl pdV K ++ (mid ++ (fl pdV (l.drop j) ++ rest))) 147) ∧ Frm (InV (.slice (some ⟨b, 0, none⟩) l.length vc)) w w') (fun env _ => l.length - cnt (env 6)) ?_ ?_
    · refine ⟨_, i0, i0 + 1, l.take i0, pdV q0, fixL ⟨rfl, rfl, rfl, rfl, trivial⟩, ?_, by rw [List.length_take]; omega, by omega, by omega, by rw [pd_lenQ]; omega, ?_, f1.mono (fun _ h => h.elim)⟩
      · rw [take_snoc hq0, List.filter_append, hT, List.filter_cons_of_neg (by simp [hs0])]
        simp
      · have := f1.at0 hB
        rw [fl_take_drop pdV hq0] at this
        exact this
    · rintro env w2 ⟨env0, i, j, K, mid, rfl, hK, hKl, hij, hj, hmid, hB2, f2⟩
      have hblen : (fl pdV K ++ (mid ++ (fl pdV (l.drop j) ++ rest))).length = l.length * 7 + rest.length := by
        rw [List.length_append, List.length_append, List.length_append, fl_len pd_lenQ, fl_len pd_lenQ, List.length_drop, hmid, hKl]
        omega
      by_cases hlt : j < l.length
      · obtain ⟨q, hq⟩ : ∃ q, l[j]? = some q := ⟨_, List.getElem?_eq_getElem hlt⟩
        have hdr : l.drop j = q :: l.drop (j + 1) := by
          rw [List.drop_eq_getElem_cons hlt]
          have : l[j] = q := by rw [List.getElem?_eq_getElem hlt] at hq; exact Option.some.inj hq
          rw [this]
        have hsub : sub (fl pdV K ++ (mid ++ (fl pdV (l.drop j) ++ rest))) (0 + (j : Int).toNat * 7) 7 = pdV q := by
          rw [hdr]
          have h3 := mid_sub (x := pdV q) (post := fl pdV (l.drop (j + 1)) ++ rest) (n := 7) (fl pdV K ++ mid) 0 (Nat.le_refl 7)
          rw [sub_all' (pd_lenQ q)] at h3
          have h4 : (fl pdV K ++ mid).length + 0 = 0 + (j : Int).toNat * 7 := by rw [List.length_append, fl_len pd_lenQ, hKl, hmid]; omega
          rw [h4] at h3
          simpa [fl] using h3
        have hA2 := f2.at hab hA
        refine runG09 ?_
        refine s_val (r_loadV (vs := pdV q) (u_ok rfl) rfl (s_ok rfl) rfl hB2 (by rw [hblen]; omega) hsub) wnt_none ?_
        refine runG09 ?_
        refine s_skip (r_storeAll (vs := pdV q) (s_ok rfl) rfl rfl (pd_one q) (at_alloc_new w2 _) rfl) wnt_none ?_
        have hv3 := at_setB (cel (pdV q) 147) (at_alloc_new w2 (cel [I 0, I 0, I 0, I 0, I 0, I 0, I 0] 147))
        have f3 : Frm0 w2 (setB (w2.alloc (cel [I 0, I 0, I 0, I 0, I 0, I 0, I 0] 147)) w2.heap.size (cel (pdV q) 147)) := (Frm.of_alloc w2 _).setB (.inr (Nat.le_refl _)) _
        generalize setB (w2.alloc (cel [I 0, I 0, I 0, I 0, I 0, I 0, I 0] 147)) w2.heap.size (cel (pdV q) 147) = w3 at *
        have hbw := at_lt hB2
        refine runG09 ?_
        rw [show sub (pdV q) 0 7 = pdV q from rfl]
        refine s_callv (caps := [Ptr ab]) rfl (get1_ret (f3.at0 hA2) q) rfl wnt_none ?_
        rintro u w4 ⟨rfl, f4⟩
        have hB4 := f4.at0 (f3.at0 hB2)
        have hv4 := f4.at0 hv3
        have f24 : Frm0 w2 w4 := f3.trans0 f4
        by_cases he : q.1 = a.seq
        · rw [decide_eq_true he]
          refine runG09 ?_
          refine ⟨_, rfl, ⟨_, i, j + 1, K, mid ++ pdV q, fixL ⟨rfl, rfl, rfl, rfl, trivial⟩, ?_, hKl, by omega, by omega, by rw [List.length_append, pd_lenQ, hmid]; omega, ?_, f2.trans0 f24⟩, by show l.length - ((j : Int) + 1).toNat < l.length - (j : Int).toNat; omega⟩
          · rw [take_snoc hq, List.filter_append, ← hK, List.filter_cons_of_neg (by simp [he])]
            simp
          · rw [hdr] at hB4
            simpa [fl] using hB4
        · rw [decide_eq_false he]
          refine runG09 ?_
          rw [show sub (pdV q) 0 7 = pdV q from rfl]
          refine s_skip (r_storeA (vs := pdV q) (s_ok rfl) rfl rfl rfl (pd_one q) hB4 (by rw [hblen]; omega)) wnt_none ?_
          refine runG09 ?_
          refine ⟨_, rfl, ⟨_, i + 1, j + 1, K ++ [q], mid.drop 7 ++ pdV q, fixL ⟨rfl, rfl, rfl, rfl, trivial⟩, ?_, by rw [List.length_append, hKl]; rfl, by omega, by omega, by rw [List.length_append, List.length_drop, pd_lenQ, hmid]; omega, ?_, (f2.trans0 f24).setB (b := b) (.inl ⟨_, _, _, rfl⟩) _⟩, by show l.length - ((j : Int) + 1).toNat < l.length - (j : Int).toNat; omega⟩
          · rw [take_snoc hq, List.filter_append, ← hK, List.filter_cons_of_pos (by simp [he])]
            simp
          · have h9 : put (fl pdV K ++ (mid ++ (fl pdV (l.drop j) ++ rest))) (0 + (i : Int).toNat * 7) (pdV q) = fl pdV (K ++ [q]) ++ ((mid.drop 7 ++ pdV q) ++ (fl pdV (l.drop (j + 1)) ++ rest)) := by
              rw [hdr, show 0 + (i : Int).toNat * 7 = K.length * 7 by rw [hKl]; omega]
              have := del_keep (K := K) (mid := mid) (tl := fl pdV (l.drop (j + 1)) ++ rest) (x := q) (by rw [hmid]; omega)
              rw [← this]
              simp [fl]
            rw [h9]
            exact at_setB _ hB4
      · have hje : j = l.length := by omega
        subst hje
        rw [List.take_length] at hK
        rw [List.drop_length] at hB2
        simp only [fl, List.nil_append] at hB2
        have hzl : (Builtin.zeroCells ((Value.agg #[I 0, I 0, I 0, I 0, I 0, I 0, I 0]).cells) (l.length - i)).toList.length = (l.length - i) * 7 := by simp [Builtin.zeroCells, Value.cells]
        refine runG09 ?_
        refine s_val (r_sl rfl rfl rfl rfl (sliceFrom_run (u_ok rfl) (s_ok rfl) (by omega))) wnt_none ?_
        rw [if_neg (by omega)]
        simp only [Option.map_some, add_none]
        refine s_val0 (r_clear rfl (by omega) (u_ok rfl) (z_ok rfl) rfl hB2 ?_ ?_) wnt_none ?_
        · refine Nat.le_trans (Nat.add_le_add_left (Nat.le_of_eq hzl) _) ?_
          rw [List.length_append, List.length_append, fl_len pd_lenQ, hKl, hmid]
          omega
        · intro u hu
          have hu' : u ∈ (Builtin.zeroCells ((Value.agg #[I 0, I 0, I 0, I 0, I 0, I 0, I 0]).cells) (l.length - i)).toList := hu
          simp only [Builtin.zeroCells, Array.toList_map, List.mem_map] at hu'
          obtain ⟨q, _, rfl⟩ := hu'
          have h7 : q % 7 = 0 ∨ q % 7 = 1 ∨ q % 7 = 2 ∨ q % 7 = 3 ∨ q % 7 = 4 ∨ q % 7 = 5 ∨ q % 7 = 6 := by omega
          show one ((Value.agg #[I 0, I 0, I 0, I 0, I 0, I 0, I 0]).cells[q % 7]!) = true
          rcases h7 with h | h | h | h | h | h | h <;> rw [h] <;> rfl
        refine runG09 ?_
        refine s_val (r_sl rfl rfl rfl rfl (sliceTo_run (k := i) (u_ok rfl) (s_ok rfl) (by omega))) wnt_none ?_
        rw [if_neg (by omega)]
        simp only [Option.map_some, add_none]
        refine runG09 ?_
        have hput : ∀ zs : List Value, zs.length = (l.length - i) * 7 → put (fl pdV K ++ (mid ++ rest)) (0 + i * 7) zs = fl pdV K ++ (zs ++ rest) := fun zs hz => by
          rw [Nat.zero_add, ← hKl, ← fl_len pd_lenQ K, put_right, put_head _ _ (by rw [List.length_append]; omega), List.drop_append_of_le_length (by omega), List.drop_eq_nil_of_le (by omega), List.nil_append]
        refine ret_s rfl rfl ⟨?_, f2.setB (b := b) (.inl ⟨_, _, _, rfl⟩) _, fun c hc => ?_⟩
        · rw [← hK, hput _ hzl, hKl]
          refine .inr ⟨b, vc, _, by simp, at_setB _ hB2, by rw [fl_len pd_lenQ, hKl], ?_, by omega⟩
          rw [List.length_append, hzl]
          omega
        · obtain ⟨_, _, _, hv⟩ := hc
          injection hv with h1 h2 h3
          injection h1 with h1
          injection h1 with h1
          subst h1
          exact ⟨_, _, _, rfl⟩
end Go.Proofs.YtbicffldggcdhaaGreatDoor

namespace Go.Proofs.YtbicffldggcdhaaGreatDoor
open Go

section
variable {PT : PTy} (sp : TreeSpec PT) {w w' : World} {col col' : Nat → Nat} {k p t : Nat} {lv lv' : Value} {mb cb cap : Nat} {rest : List Value} {ms : List CM} {Q Q' : PPar}
theorem forget_ret (sp : TreeSpec PT) (h : PB PT w col k p t lv mb cb cap rest ms Q) (i s : Int) :
    Rets Tryz.prog 169 [Ptr p, I i, I s] w fun _ w' => PB PT w' col k p t lv mb cb cap rest ms { Q with vd := vdel Q.vd (i, s) } ∧ Ext k w w' col col ∧ Frm (fun b => k ≤ col b ∧ col b < k + 4) w w' := by
  have hh := h.head
  obtain ⟨es, cl, hm, hE⟩ := h.map
  obtain ⟨es', hr, hE'⟩ := vdel_run (k := (i, s)) (ty := 0) hm hE
  refine rets_of Tryz.func169 (by kernel_rfl) rfl Tryz.ntmps169 (Nat.le_of_ble_eq_true rfl) ?_
  refine runG09 ?_
  refine s_val (r_build rfl (bld_mark _ _ _)) wnt_none ?_
  refine s_val0 (r_delV rfl rfl hr) wnt_none ?_
  refine runG09 ?_
  exact end_0 rfl (h.remap sp hE')
theorem PB.renum (sp : TreeSpec PT) (h : PB PT w col k p t lv mb cb cap rest ms Q) (n : Int) : PB PT (setB w p (cel [Ptr t, I n, I Q.keeps, lv, .map (some mb), .slice (some ⟨cb, 0, none⟩) ms.length cap] 108)) col k p t lv mb cb cap rest ms { Q with n := n } ∧
    Ext k w (setB w p (cel [Ptr t, I n, I Q.keeps, lv, .map (some mb), .slice (some ⟨cb, 0, none⟩) ms.length cap] 108)) col col ∧ Frm (fun b => k ≤ col b ∧ col b < k + 4) w (setB w p (cel [Ptr t, I n, I Q.keeps, lv, .map (some mb), .slice (some ⟨cb, 0, none⟩) ms.length cap] 108)) := by
  obtain ⟨es0, cl0, hm1, hE⟩ := h.map
  have ho := h.own
  have hk := h.cmap
  have e : Ext k w (setB w p (cel [Ptr t, I n, I Q.keeps, lv, .map (some mb), .slice (some ⟨cb, 0, none⟩) ms.length cap] 108)) col col := (Ext.refl h.high).setB
  have f' : Frm (fun b => k ≤ col b ∧ col b < k + 4) w (setB w p (cel [Ptr t, I n, I Q.keeps, lv, .map (some mb), .slice (some ⟨cb, 0, none⟩) ms.length cap] 108)) := (Frm.refl _ w).setB (b := p) (.inl (by omega)) _
  have fp : Frm (fun b => b = p) w (setB w p (cel [Ptr t, I n, I Q.keeps, lv, .map (some mb), .slice (some ⟨cb, 0, none⟩) ms.length cap] 108)) := (Frm.refl (fun b => b = p) w).setB (b := p) (.inl rfl) _
  exact ⟨h.srv sp (Q' := { Q with n := n }) e f' (at_setB _ h.head) (sp.frm h.tree fp (fun b hb e9 => by subst e9; omega)) h.wf (h.log.frm fp (fun b hb e9 => by have := h.clog b hb; subst e9; omega)) h.clog ⟨es0, cl0, fp.at (fun e9 => by subst e9; omega) hm1, hE⟩ rfl, e, f'⟩
/-- The server's tree is edited. -/
theorem PB.retree (sp : TreeSpec PT) {l : List Nd} (h : PB PT w col k p t lv mb cb cap rest ms Q) (hT : PT w' t l (fun b => col b = k + 1 ∨ w.heap.size ≤ b)) (hw : Wf l) (f : Frm (fun b => col b = k + 1) w w') :
    PB PT w' (paintA col w.heap.size w'.heap.size (k + 1)) k p t lv mb cb cap rest ms { Q with t := l } ∧ Ext k w w' col (paintA col w.heap.size w'.heap.size (k + 1)) ∧ Frm (fun b => k ≤ col b ∧ col b < k + 4) w w' := by
  obtain ⟨es0, cl0, hm1, hE⟩ := h.map
  have ho := h.own
  have hk := h.cmap
  have e : Ext k w w' col (paintA col w.heap.size w'.heap.size (k + 1)) := paintA_ext h.high f.size (by omega)
  have f' : Frm (fun b => k ≤ col b ∧ col b < k + 4) w w' := f.mono (fun b hb => .inl (by omega))
  refine ⟨h.srv sp (Q' := { Q with t := l }) e f' (f.at (by omega) h.head) (paintA_tree sp hT (by omega) h.high) hw (h.log.frm f (fun b hb => by have := h.clog b hb; omega)) (fun b hb => by rw [e.old b (h.log.lt hb)]; exact h.clog b hb) ⟨es0, cl0, f.at (by omega) hm1, hE⟩ rfl, e, f'⟩
end
theorem r_isnil {ea : List Addr} {w w0 : World} {v : Value} {m : Nat} {e : Ed} {n d t ty2 : Nat} {env : Env} {p : String} {af : Array Edge} {g : Option (Nat × Bool)} {x : Operand} (h : ErrIs ea w0 v m e) (hx : ev n env x = v) :
    (execOp (ev n env) ⟨some d, .binOp .eql 34 x (.const .nilIface) ty2, t, p, af, g⟩).run Tryz.prog w = .ok (.value (.bool (decide (m = 0)))) w := by
  rcases h with ⟨h0, rfl⟩ | ⟨h0, b, a, rfl, _⟩
  · rw [show decide (m = 0) = true by simp [h0]]
    exact r_nn hx
  · rw [show decide (m = 0) = false by simp; omega]
    exact r_in hx
/-- The server goes on. -/
structure SG (k : Nat) (w w' : World) (col col' : Nat → Nat) : Prop where
  ext : Ext k w w' col col'
  frm : Frm (fun b => k ≤ col b ∧ col b < k + 4) w w'
theorem SG.trans {k : Nat} {w w1 w2 : World} {col col1 col2 : Nat → Nat} (h : SG k w w1 col col1) (g : SG k w1 w2 col1 col2) : SG k w w2 col col2 :=
  ⟨h.ext.trans g.ext h.frm.size, h.frm.trans g.frm (fun b hb => by
    rcases Nat.lt_or_ge b w.heap.size with h1 | h1
    · rw [h.ext.old b h1] at hb; exact .inl hb
    · exact .inr h1)⟩
theorem SG.frm0 {k : Nat} {w w1 : World} {col : Nat → Nat} (hh : ∀ b, w.heap.size ≤ b → col b = 0) (f : Frm0 w w1) : SG k w w1 col col := ⟨⟨fun _ _ => rfl, fun b hb => hh b (Nat.le_trans f.size hb), fun b hb => .inl (hh b hb)⟩, f.mono (fun _ h => h.elim)⟩
section
variable {PT : PTy} (sp : TreeSpec PT) {w w' : World} {col col' : Nat → Nat} {k p t : Nat} {lv lv' : Value} {mb cb cap : Nat} {rest : List Value} {ms : List CM} {Q Q' : PPar}
def entQ (Q : PPar) (i s : Int) (e : Ed) : Ent := ⟨i, s, e, decide (refused Q.t e = 0)⟩
def tookQ (Q : PPar) (i s : Int) (e : Ed) : PPar :=
  { Q with t := applyL Q.t e, n := Q.n + 1, log := if Q.keeps < (Q.log ++ [entQ Q i s e]).length then (Q.log ++ [entQ Q i s e]).tail else Q.log ++ [entQ Q i s e], vd := vdel (vput Q.vd (i, s) (Q.n + 1, decide (refused Q.t e = 0))) (i, s - 6) }
set_option maxRecDepth 4000 in
set_option maxHeartbeats 4000000 in
theorem take_ret (sp : TreeSpec PT) (h : PB PT w col k p t lv mb cb cap rest ms Q) {ea : List Addr} (hE : Errs w ea) (hlo : (∀ g ∈ errG, col g = 0) ∧ ∀ a ∈ ea, col a.block = 0) (i s : Int) (e : Ed) (hn : 0 ≤ Q.n ∧ Q.n < 1000000000000000000) (hs : -1000000000000000000 ≤ s ∧ s < 1000000000000000000) (hl : Q.log.length < 1000) (ht : hasT Q.vd i s = false) :
    Rets Tryz.prog 166 [Ptr p, I i, .agg (pdV (s, e)).toArray] w fun v w' => v = .agg (entQ Q i s e).vals.toArray ∧ ∃ col' lv', PB PT w' col' k p t lv' mb cb cap rest ms (tookQ Q i s e) ∧ SG k w w' col col' := by
  have hpos := h.pos
  have f0 : Frm0 w ((w.alloc (cel (pdV (s, e)) 147)).alloc (cel [I 0, I 0, I 0, I 0, I 0, I 0, I 0, I 0, B false] 54)) := ((Frm.refl _ w).alloc _).alloc _
  have hr1 : At ((w.alloc (cel (pdV (s, e)) 147)).alloc (cel [I 0, I 0, I 0, I 0, I 0, I 0, I 0, I 0, B false] 54)) w.heap.size (cel (pdV (s, e)) 147) := at_alloc _ (at_alloc_new _ _)
  have hc1 : At ((w.alloc (cel (pdV (s, e)) 147)).alloc (cel [I 0, I 0, I 0, I 0, I 0, I 0, I 0, I 0, B false] 54)) (w.heap.size + 1) (cel [I 0, I 0, I 0, I 0, I 0, I 0, I 0, I 0, B false] 54) := by
    have := at_alloc_new (w.alloc (cel (pdV (s, e)) 147)) (cel [I 0, I 0, I 0, I 0, I 0, I 0, I 0, I 0, B false] 54)
    rw [World.size_alloc] at this
    exact this
  refine rets_of Tryz.func166 (by kernel_rfl) rfl Tryz.ntmps166 (Nat.le_of_ble_eq_true rfl) ?_
  refine runG09 ?_
  rw [show (w.alloc (cel (pdV (s, e)) 147)).heap.size = w.heap.size + 1 from World.size_alloc _ _]
  generalize (w.alloc (cel (pdV (s, e)) 147)).alloc (cel [I 0, I 0, I 0, I 0, I 0, I 0, I 0, I 0, B false] 54) = w1 at *
  have z0 : col w.heap.size = 0 := h.high _ (Nat.le_refl _)
  have z1 : col (w.heap.size + 1) = 0 := h.high _ (by omega)
  have h1 := h.frm0 sp f0
  have hE1 := hE.frm0 f0
  have hh1 := h1.head
  have hlt := at_lt hr1
  have hlt2 := at_lt hc1
  refine runG09 ?_
  refine w_drawn [(0, false), (1, false), (2, false), (3, false), (4, false), (5, false), (6, false)] [7, 8, 9] (fun wq => Frm0 w1 wq) mixed (by kernel_rfl) ?_ ?_
  · exact Frm.of_drew _
  · have hW := h.wf
    have hd1 := h1.frm0 sp (Frm.of_drew (S := fun _ => False) w1)
    refine runG09 ?_
    refine y_callf rfl (sp.apply (ea := ea) e hd1.tree h.wf (hE1.frm0 (Frm.of_drew _)) (fun g hg hs => by have := hlo.1 g hg; omega) (fun a ha hs => by have := hlo.2 a ha; omega)) rfl wnt_none ?_
    rintro v w2 ⟨hEr, hT2, f2, _⟩
    obtain ⟨h2, e2, f2'⟩ := hd1.retree sp hT2 (hW.apply e) f2
    have G2 : SG k w1 w2 col _ := (SG.frm0 h1.high (Frm.of_drew w1)).trans ⟨e2, f2'⟩
    generalize paintA col w1.drew.heap.size w2.heap.size (k + 1) = col2 at *
    refine y_val rfl (r_isnil hEr rfl) wnt_none ?_
    generalize hdn : decide (refused Q.t e = 0) = dn
    have hzr : ¬ (k ≤ col w.heap.size ∧ col w.heap.size < k + 4) := by omega
    have hzc : ¬ (k ≤ col (w.heap.size + 1) ∧ col (w.heap.size + 1) < k + 4) := by omega
    have hr2 := G2.frm.at hzr hr1
    have hh2 : At w2 p (cel [Ptr t, I Q.n, I Q.keeps, lv, .map (some mb), .slice (some ⟨cb, 0, none⟩) ms.length cap] 108) := h2.head
    clear hT2 f2 hEr hd1
    refine runG09 ?_
    refine s_skip (r_store_i (s_ok rfl) rfl rfl hh2 (by simp)) wnt_none ?_
    obtain ⟨h3, e3, f3⟩ := h2.renum sp (Q.n + 1)
    have G3 := G2.trans ⟨e3, f3⟩
    obtain ⟨w3, hw3⟩ : ∃ w3, w3 = setB w2 p (cel ([Ptr t, I Q.n, I Q.keeps, lv, .map (some mb), .slice (some ⟨cb, 0, none⟩) ms.length cap].set (0 + 0 + 0 + 1) (I (Q.n + 1))) 108) := ⟨_, rfl⟩
    rw [← hw3]
    have h3' : PB PT w3 col2 k p t lv mb cb cap rest ms { Q with t := applyL Q.t e, n := Q.n + 1 } := by rw [hw3]; exact h3
    have G3' : SG k w1 w3 col col2 := by rw [hw3]; exact G3
    clear h3 G3 e3 f3 hw3 hh2
    have hr3 := G3'.frm.at hzr hr1
    refine runG09 ?_
    refine s_val (r_build rfl (bld_entry _ _ _ _ _)) wnt_none ?_
    refine runG09 ?_
    refine s_skip (r_storeAll (vs := (Ent.mk i s e dn).vals) (s_ok rfl) rfl rfl (ent_one _) (at_alloc_new w3 _) rfl) wnt_none ?_
    have hx4 := at_setB (cel (Ent.mk i s e dn).vals 54) (at_alloc_new w3 (cel [I 0, I 0, I 0, I 0, I 0, I 0, I 0, I 0, B false] 54))
    have f4 : Frm0 w3 (setB (w3.alloc (cel [I 0, I 0, I 0, I 0, I 0, I 0, I 0, I 0, B false] 54)) w3.heap.size (cel (Ent.mk i s e dn).vals 54)) := (Frm.of_alloc w3 _).setB (.inr (Nat.le_refl _)) _
    have ze : col2 w3.heap.size = 0 := h3'.high _ (Nat.le_refl _)
    generalize w3.heap.size = eb at *
    generalize setB (w3.alloc (cel [I 0, I 0, I 0, I 0, I 0, I 0, I 0, I 0, B false] 54)) eb (cel (Ent.mk i s e dn).vals 54) = w4 at *
    have h4 := h3'.frm0 sp f4
    have G4 := G3'.trans (SG.frm0 h3'.high f4)
    have hh4 : At w4 p (cel [Ptr t, I (Q.n + 1), I Q.keeps, lv, .map (some mb), .slice (some ⟨cb, 0, none⟩) ms.length cap] 108) := h4.head
    have hze : ¬ (k ≤ col2 eb ∧ col2 eb < k + 4) := by omega
    obtain ⟨la, lc, rfl⟩ := h4.log.isSl
    have hnl : ¬ InV (.slice la Q.log.length lc) p := fun h9 => by have := h4.clog p h9; have := h4.own; omega
    have hnx : ¬ InV (.slice la Q.log.length lc) eb := fun h9 => by have := h4.clog eb h9; omega
    refine runG09 ?_
    refine w_drawn [(0, false), (1, false), (2, false), (3, false), (4, false), (5, false), (6, true), (7, true), (8, false), (9, false)] [10] (fun wq => Frm (InV (.slice la Q.log.length lc)) w4 wq) mixed (by kernel_rfl) ?_ ?_
    · exact Frm.of_drew _
    · refine runG09 ?_
      refine x_val rfl (r_bs rfl (bs_entry _ _)) wnt_none ((Frm.of_drew w4).alloc _) ?_
      have hFa : Frm0 w4 (w4.drew.alloc (cel (Ent.mk i s e dn).vals 54)) := (Frm.of_drew w4).alloc _
      obtain ⟨v5, w5, e5, r5, f5, n5⟩ := append_entQ (ty := 46) (q := ⟨i, s, e, dn⟩) (h4.log.frm hFa (fun _ _ h => h)) (seg_new rfl) (by show Q.log.length < 1000000; omega)
      have f5' : Frm (InV (.slice la Q.log.length lc)) w4 w5 := (hFa.mono (fun _ h => h.elim)).trans f5 (fun b hb => .inl hb)
      have n5' : ∀ b, InV v5 b → InV (.slice la Q.log.length lc) b ∨ w4.heap.size ≤ b := fun b hb => (n5 b hb).imp id (fun h => Nat.le_trans hFa.size h)
      refine x_val rfl (r_app rfl rfl e5) wnt_none f5' ?_
      have hh5 := f5'.at hnl hh4
      obtain ⟨h6, e6, f6⟩ := h4.relog sp f5' r5 n5'
      obtain ⟨xa, xc, rfl⟩ := r5.isSl
      refine runG09 ?_
      refine y_skip rfl (r_store_s (s_ok rfl) rfl rfl hh5 (by simp)) wnt_none ?_
      obtain ⟨w6, hw6⟩ : ∃ w6, w6 = setB w5 p (cel ([Ptr t, I (Q.n + 1), I Q.keeps, .slice la Q.log.length lc, .map (some mb), .slice (some ⟨cb, 0, none⟩) ms.length cap].set (0 + 0 + 3) (.slice xa (Q.log ++ [(⟨i, s, e, dn⟩ : Ent)]).length xc)) 108) := ⟨_, rfl⟩
      rw [← hw6]
      obtain ⟨col6, hc6⟩ : ∃ col6, col6 = paint col2 w4.heap.size (.slice xa (Q.log ++ [(⟨i, s, e, dn⟩ : Ent)]).length xc) (k + 2) := ⟨_, rfl⟩
      have h6' : PB PT w6 col6 k p t (.slice xa (Q.log ++ [(⟨i, s, e, dn⟩ : Ent)]).length xc) mb cb cap rest ms { Q with t := applyL Q.t e, n := Q.n + 1, log := Q.log ++ [⟨i, s, e, dn⟩] } := by rw [hw6, hc6]; exact h6
      have g6 : SG k w4 w6 col2 col6 := by rw [hw6, hc6]; exact ⟨e6, f6⟩
      have hx6 := g6.frm.at hze hx4
      clear hw6 hc6 h6 e6 f6
      have hh6 : At w6 p (cel [Ptr t, I (Q.n + 1), I Q.keeps, .slice xa (Q.log ++ [(⟨i, s, e, dn⟩ : Ent)]).length xc, .map (some mb), .slice (some ⟨cb, 0, none⟩) ms.length cap] 108) := h6'.head
      refine runG09 ?_
      refine w_drawn [(0, false), (1, false), (2, false), (3, false), (4, false), (5, false), (6, false), (7, false), (8, false), (9, false)] [] (fun wq => Frm0 w6 wq) mixed (by kernel_rfl) ?_ ?_
      · exact Frm.of_drew _
      · refine runG09 ?_
        have fd : Frm0 w6 w6.drew := Frm.of_drew _
        have hd6 := h6'.frm0 sp fd
        have hhd : At w6.drew p (cel [Ptr t, I (Q.n + 1), I Q.keeps, .slice xa (Q.log ++ [(⟨i, s, e, dn⟩ : Ent)]).length xc, .map (some mb), .slice (some ⟨cb, 0, none⟩) ms.length cap] 108) := hd6.head
        refine wpIn_mono (Q := fun e' act w' => e' = .normal ∧ ∃ (env' : Env) (col7 : Nat → Nat) (la7 : Option Addr) (lc7 : Nat), act = rep 84 [] env' ∧ AllL env' [(0, Ptr p), (1, I i), (5, Ptr w.heap.size), (6, Ptr (w.heap.size + 1)), (7, B dn), (8, Ptr eb)] ∧
          PB PT w' col7 k p t (.slice la7 (if Q.keeps < (Q.log ++ [(⟨i, s, e, dn⟩ : Ent)]).length then (Q.log ++ [(⟨i, s, e, dn⟩ : Ent)]).tail else Q.log ++ [(⟨i, s, e, dn⟩ : Ent)]).length lc7) mb cb cap rest ms { Q with t := applyL Q.t e, n := Q.n + 1, log := if Q.keeps < (Q.log ++ [(⟨i, s, e, dn⟩ : Ent)]).length then (Q.log ++ [(⟨i, s, e, dn⟩ : Ent)]).tail else Q.log ++ [(⟨i, s, e, dn⟩ : Ent)] } ∧ SG k w6.drew w' col6 col7) ?_ ?_
        · refine c_dec rfl (fun hk => ?_) (fun hk => ?_)
          · rw [if_pos hk]
            obtain ⟨y, ys, hy⟩ : ∃ y ys, Q.log ++ [(⟨i, s, e, dn⟩ : Ent)] = y :: ys := by
              cases hq : Q.log with
              | nil => exact ⟨_, _, rfl⟩
              | cons y ys => exact ⟨y, ys ++ [⟨i, s, e, dn⟩], rfl⟩
            have hrow : Row w6.drew (.slice xa (Q.log ++ [(⟨i, s, e, dn⟩ : Ent)]).length xc) 54 9 (ys.length + 1) (y.vals ++ fl Ent.vals ys) := by
              have := hd6.log
              rw [show (PPar.log { Q with t := applyL Q.t e, n := Q.n + 1, log := Q.log ++ [⟨i, s, e, dn⟩] }) = y :: ys from hy] at this
              exact this
            have hnp : ¬ InV (.slice xa (Q.log ++ [(⟨i, s, e, dn⟩ : Ent)]).length xc) p := fun h9 => by have := hd6.clog p h9; have := hd6.own; omega
            refine runG09 ?_
            refine s_callf (DelEnt_ret hrow rfl (fl_one ent_one ys)) rfl wnt_none ?_
            rintro v w7 ⟨r7, f7, n7⟩
            have hh7 := f7.at hnp hhd
            obtain ⟨h8, e8, f8⟩ := hd6.relog sp f7 r7 (fun b hb => .inl (n7 b hb))
            obtain ⟨ya, yc, rfl⟩ := r7.isSl
            refine runG09 ?_
            refine s_skip (r_store_s (s_ok rfl) rfl rfl hh7 (by simp)) wnt_none ?_
            refine runG09 ?_
            refine ⟨rfl, _, _, ya, yc, rfl, ⟨rfl, rfl, rfl, rfl, rfl, rfl, trivial⟩, ?_, ⟨e8, f8⟩⟩
            rw [hy]
            exact h8
          · rw [if_neg hk]
            refine runG09 ?_
            exact ⟨rfl, _, _, xa, xc, rfl, ⟨rfl, rfl, rfl, rfl, rfl, rfl, trivial⟩, hd6, SG.frm0 hd6.high (Frm.refl _ _)⟩
        · rintro e' act w7 ⟨rfl, env', col7, la7, lc7, rfl, hall, h7, g7⟩
          rw [fixL hall]
          refine q_then ?_
          have hle6 : eb < w6.heap.size := at_lt hx6
          have g6d : SG k w6 w6.drew col6 col6 := SG.frm0 h6'.high fd
          have G7 : SG k w1 w7 col col7 := ((G4.trans g6).trans g6d).trans g7
          have H7 : SG k w4 w7 col2 col7 := (g6.trans g6d).trans g7
          have hx7 := H7.frm.at hze hx4
          have hr7 := G7.frm.at hzr hr1
          have hc7 := G7.frm.at hzc hc1
          clear hall
          generalize hlg : (if Q.keeps < (Q.log ++ [(⟨i, s, e, dn⟩ : Ent)]).length then (Q.log ++ [(⟨i, s, e, dn⟩ : Ent)]).tail else Q.log ++ [(⟨i, s, e, dn⟩ : Ent)]) = lg at *
          have hh7 : At w7 p (cel [Ptr t, I (Q.n + 1), I Q.keeps, .slice la7 lg.length lc7, .map (some mb), .slice (some ⟨cb, 0, none⟩) ms.length cap] 108) := h7.head
          obtain ⟨es, cl, hm, hEm⟩ := h7.map
          have hvn : vfind (i, s) Q.vd 0 = none := by
            have := vfind_has (i := i) (s := s) (l := Q.vd) (n := 0)
            rw [ht] at this
            cases hv : vfind (i, s) Q.vd 0 with
            | none => rfl
            | some x => rw [hv] at this; cases this
          obtain ⟨es', cl', hu, hE'⟩ := vupd_run (w := w7.drew) (k := (i, s)) (v := (Q.n + 1, dn)) (at_drew hm) hEm hvn
          refine runG09 ?_
          refine w_drawn ((0, false) :: (1, false) :: (2, false) :: (3, false) :: (4, false) :: (5, false) :: (6, false) :: (7, false) :: (8, false) :: (9, false) :: (10, false) :: (11, false) :: (12, false) :: (13, false) :: (14, false) :: []) [15] (fun wq => Frm0 w7 wq) mixed (by kernel_rfl) ?_ ?_
          · exact Frm.of_drew _
          · refine runG09 ?_
            refine x_q rfl (fun wq hq => r_build rfl (bld_mark _ _ wq)) wnt_none ?_
            refine runG09 ?_
            refine x_q rfl (fun wq hq => r_build rfl (bld_verdict _ _ wq)) wnt_none ?_
            refine runG09 ?_
            refine y_skip rfl (r_upd rfl rfl rfl hu) wnt_none ?_
            have fd7 : Frm0 w7 w7.drew := Frm.of_drew _
            obtain ⟨h8, e8, f8⟩ := (h7.frm0 sp fd7).remap sp hE'
            have G8 : SG k w1 _ col col7 := (G7.trans (SG.frm0 h7.high fd7)).trans ⟨e8, f8⟩
            have H8 : SG k w4 _ col2 col7 := (H7.trans (SG.frm0 h7.high fd7)).trans ⟨e8, f8⟩
            generalize setB w7.drew mb (.map es' cl') = w8 at *
            have hr8 := G8.frm.at hzr hr1
            refine runG09 ?_
            refine s_callf (forget_ret sp h8 i (s - 6)) rfl wnt_none ?_
            rintro v w9 ⟨h9, e9, f9⟩
            have G9 := G8.trans ⟨e9, f9⟩
            have H9 := H8.trans ⟨e9, f9⟩
            have hx9 := H9.frm.at hze hx4
            have hc9 := G9.frm.at hzc hc1
            refine runG09 ?_
            refine s_skip (r_storeAll (vs := (Ent.mk i s e dn).vals) (s_ok rfl) rfl rfl (ent_one _) hc9 rfl) wnt_none ?_
            refine runG09 ?_
            have z9 : col7 (w.heap.size + 1) = 0 := by rw [G7.ext.old _ hlt2]; exact z1
            have f10 : Frm (fun b => b = w.heap.size + 1) w9 (setB w9 (w.heap.size + 1) (cel (Ent.mk i s e dn).vals 54)) := (Frm.refl (fun b => b = w.heap.size + 1) w9).setB (b := w.heap.size + 1) (.inl rfl) _
            have hq : tookQ Q i s e = { Q with t := applyL Q.t e, n := Q.n + 1, log := lg, vd := vdel (vput Q.vd (i, s) (Q.n + 1, dn)) (i, s - 6) } := by
              unfold tookQ entQ
              rw [hdn, hlg]
            have hx : entQ Q i s e = ⟨i, s, e, dn⟩ := by unfold entQ; rw [hdn]
            have Gw := (SG.frm0 h.high f0).trans G9
            refine ret_cA rfl (u_ok rfl) rfl (s_ok rfl) rfl (at_setB _ hc9) rfl ⟨by rw [hx], col7, .slice la7 lg.length lc7, ?_, ⟨Gw.ext.setB, Gw.frm.setB (b := w.heap.size + 1) (.inr (by omega)) _⟩⟩
            rw [hq]
            exact h9.frm sp f10 (fun b h1 h2 h3 => by subst h3; omega) (fun b hb => by rw [size_setB] at hb; exact h9.high b hb)
end
end Go.Proofs.YtbicffldggcdhaaGreatDoor

namespace Go.Proofs.YtbicffldggcdhaaGreatDoor
open Go

theorem DIs.one {PT : PTy} {w : World} {F G : Nat → Prop} {u : Value} {m : DMsg} (h : DIs PT w F G u m) : Go.Proofs.YtbicffldggcdhaaGreatDoor.one u = true := by
  cases m with
  | inl x => rw [show u = _ from h]; rfl
  | inr q9 => obtain ⟨t, n, ans⟩ := q9; obtain ⟨tp, av, h1, _⟩ := h; rw [h1]; rfl
theorem append_ds {PT : PTy} (sp : TreeSpec PT) {w : World} {F G : Nat → Prop} {v s : Value} {A C : List DMsg} {ty : Nat} (hrow : DsAt PT w F G v A) (hs : DsAt PT w F G s C) (hF : ∀ b, F b → ¬ InV v b) (hG : ∀ b, G b → ¬ InV v b) (hcap : A.length + C.length < 1000000000000) :
    ∃ v' w', (Builtin.append_ #[115, 115] ty #[v, s]).run Tryz.prog w = .ok v' w' ∧ DsAt PT w' F G v' (A ++ C) ∧ Frm (InV v) w w' ∧ ∀ b, InV v' b → InV v b ∨ w.heap.size ≤ b := by
  obtain ⟨us, h1, h2⟩ := hrow
  obtain ⟨xs, g1, g2⟩ := hs
  have hl : xs.length = C.length := by
    rcases g1 with ⟨_, h0, rfl⟩ | ⟨b, cap, rest, _, _, hl, _⟩
    · rw [h0]; rfl
    · omega
  have hul : us.length = A.length := by
    rcases h1 with ⟨_, h0, rfl⟩ | ⟨b, cap, rest, _, _, hl, _⟩
    · rw [h0]; rfl
    · omega
  obtain ⟨v', w', e1, e2, e3, e4⟩ := append_seg (P := Tryz.prog) (sz := 1) (by' := 16) (ty := ty) (sT := 115) (u_ok rfl) (u_ok rfl) (fun kk h => by cases h) (s_ok rfl) (b_ok rfl) (z_ok rfl) rfl h1 g1.seg (fun u hu => by
    obtain ⟨i, hi⟩ := List.getElem?_of_mem hu
    have hlt := (List.getElem?_eq_some_iff.1 hi).1
    exact (g2 i u _ hi (List.getElem?_eq_getElem (by omega))).one) (by omega) (by omega)
  refine ⟨v', w', e1, ⟨us ++ xs, by rw [List.length_append]; exact e2, fun i u m hu hm => ?_⟩, e3, e4⟩
  by_cases hi : i < us.length
  · rw [List.getElem?_append_left hi] at hu
    rw [List.getElem?_append_left (by omega)] at hm
    exact (h2 i u m hu hm).frm sp e3 hF hG
  · rw [List.getElem?_append_right (by omega)] at hu
    rw [List.getElem?_append_right (by omega), ← hul] at hm
    exact (g2 _ u m hu hm).frm sp e3 hF hG
theorem bld_news (x : Ent) (w : World) : (Instr.build 262 [(0, .agg x.vals.toArray)].toArray).run Tryz.prog w = .ok (.agg x.vals.toArray) w := by kernel_rfl
theorem ds_one {PT : PTy} {w : World} {F G : Nat → Prop} {T : Nat} {u : Value} {m : DMsg} (h : ∀ w', Frm0 w w' → DIs PT w' F G (.iface T u) m) : DsAt PT (w.alloc (cel [.iface T u] 172)) F G (.slice (some ⟨w.heap.size, 0, none⟩) 1 1) [m] := by
  refine ⟨[.iface T u], .inr ⟨w.heap.size, 1, [], rfl, at_alloc_new _ _, rfl, rfl, Nat.le_refl _⟩, fun i v y hv hy => ?_⟩
  have hl := (List.getElem?_eq_some_iff.1 hv).1
  simp at hl
  subst hl
  simp at hv hy
  subst hv hy
  exact h _ (Frm.of_alloc _ _)
section
variable {PT : PTy} (sp : TreeSpec PT) {w : World} {col : Nat → Nat} {k0 k cb : Nat} {pre post : List Value} {bq sq t : Nat} {pd an up dn : Value} {c : PCli}
theorem tell_ret (sp : TreeSpec PT) (h : CAt PT w col k0 k cb pre post bq sq t pd an up dn c) (x : Ent) (hb : c.down.length < 900000000000) :
    Rets Tryz.prog 167 [.pointer (some ⟨cb, pre.length + 4, none⟩), .agg x.vals.toArray] w fun _ w' => CRes PT w w' col k0 k cb pre post (tellD x c) := by
  have hF0 : Frm0 w (w.alloc (cel x.vals 54)) := Frm.of_alloc _ _
  have hbox := at_alloc_new w (cel x.vals 54)
  have hk := h.hk
  have h1 := h.frm0 sp hF0
  have hrow := h1.row
  have hz : col w.heap.size = 0 := h.high _ (Nat.le_refl _)
  refine rets_of Tryz.func167 (by kernel_rfl) rfl Tryz.ntmps167 (Nat.le_of_ble_eq_true rfl) ?_
  refine runG09 ?_
  generalize w.alloc (cel x.vals 54) = w1 at *
  cases ht : c.told with
  | false =>
    have hd : tellD x c = c := by rw [tellD, ht]; rfl
    rw [hd]
    rw [ht] at hrow
    refine runG09 ?_
    exact end_0 rfl (CRes.of0 h sp hF0)
  | true =>
    have hd : tellD x c = { c with down := c.down ++ [.inl x] } := by rw [tellD, ht]; rfl
    rw [hd]
    rw [ht] at hrow
    obtain ⟨da, dc, rfl⟩ := h1.m.down.isSl
    have hq := h1.m.q
    have hnd : ¬ InV (.slice da c.down.length dc) cb := fun h9 => by have := h1.m.cdown cb h9; have := h1.own; omega
    have hnb : ¬ InV (.slice da c.down.length dc) w.heap.size := fun h9 => by have := h1.m.cdown _ h9; omega
    refine runG09 ?_
    refine w_drawn [(0, false), (1, false), (2, false), (3, false), (4, false), (5, false), (6, false), (7, false), (8, true), (9, true), (10, false), (11, false)] [12] (fun wq => Frm (InV (.slice da c.down.length dc)) w1 wq) mixed (by kernel_rfl) ?_ ?_
    · exact Frm.of_drew _
    · refine runG09 ?_
      refine x_q rfl (fun wq hq => r_build rfl (bld_news _ wq)) wnt_none ?_
      refine runG09 ?_
      refine x_val rfl (r_bs rfl (bs_um _ _ _)) wnt_none ((Frm.of_drew w1).alloc _) ?_
      have hFb : Frm0 w1 (w1.drew.alloc (cel [.iface 262 (.agg x.vals.toArray)] 172)) := (Frm.of_drew w1).alloc _
      obtain ⟨v2, w2, e2, r2, f2, n2⟩ := append_ds sp (ty := 115) (C := [.inl x]) (h1.m.down.frm sp hFb (fun _ _ h => h) (fun _ _ h => h) (fun _ _ h => h)) (ds_one (m := .inl x) (fun _ _ => rfl)) (fun b hb h9 => by have := h1.m.cdown b h9; omega) (fun b hb h9 => by have := h1.m.cdown b h9; omega) (by simp; omega)
      have f2' : Frm (InV (.slice da c.down.length dc)) w1 w2 := (hFb.mono (fun _ h => h.elim)).trans f2 (fun b hb => .inl hb)
      have n2' : ∀ b, InV v2 b → InV (.slice da c.down.length dc) b ∨ w1.heap.size ≤ b := fun b hb => (n2 b hb).imp id (fun h => Nat.le_trans hFb.size h)
      refine x_val rfl (r_app rfl rfl e2) wnt_none f2' ?_
      have hrow2 := f2'.at hnd hrow
      obtain ⟨h3, g3⟩ := h1.redown sp f2' r2 n2'
      obtain ⟨xa, xc, rfl⟩ := r2.isSl
      refine runG09 ?_
      refine y_skip rfl (r_store_s (s_ok rfl) rfl rfl hrow2 (by rw [Nat.add_assoc]; exact clt _ _ _ _ _ _ _ _ (by decide))) wnt_none ?_
      rw [set_dn, ← ht]
      refine runG09 ?_
      exact end_0 rfl ⟨_, _, _, _, _, _, _, _, h3, (CG.frm0 h.high hF0).trans g3⟩
end
end Go.Proofs.YtbicffldggcdhaaGreatDoor

namespace Go.Proofs.YtbicffldggcdhaaGreatDoor
open Go

/-- The party goes on. -/
structure QG (k : Nat) (w w' : World) (col col' : Nat → Nat) : Prop where
  ext : Ext k w w' col col'
  frm : Frm (fun b => k ≤ col b ∧ col b < k + 100) w w'
theorem QG.trans {k : Nat} {w w1 w2 : World} {col col1 col2 : Nat → Nat} (h : QG k w w1 col col1) (g : QG k w1 w2 col1 col2) : QG k w w2 col col2 :=
  ⟨h.ext.trans g.ext h.frm.size, h.frm.trans g.frm (fun b hb => by
    rcases Nat.lt_or_ge b w.heap.size with h1 | h1
    · rw [h.ext.old b h1] at hb; exact .inl hb
    · exact .inr h1)⟩
theorem QG.frm0 {k : Nat} {w w1 : World} {col : Nat → Nat} (hh : ∀ b, w.heap.size ≤ b → col b = 0) (f : Frm0 w w1) : QG k w w1 col col := ⟨⟨fun _ _ => rfl, fun b hb => hh b (Nat.le_trans f.size hb), fun b hb => .inl (hh b hb)⟩, f.mono (fun _ h => h.elim)⟩
theorem SG.toQ {k : Nat} {w w' : World} {col col' : Nat → Nat} (h : SG k w w' col col') : QG k w w' col col' := ⟨h.ext, h.frm.mono (fun b hb => .inl (by omega))⟩
theorem CG.toQ {k0 k : Nat} {w w' : World} {col col' : Nat → Nat} (h : CG k0 k w w' col col') (hk : k0 + 10 ≤ k ∧ k + 10 ≤ k0 + 100) : QG k0 w w' col col' := ⟨h.ext, h.frm.mono (fun b hb => .inl (by omega))⟩
theorem takeQ_eq (Q : PPar) (i s : Int) (e : Ed) : takeQ Q i s e = { tookQ Q i s e with cls := Q.cls.map (tellD (entQ Q i s e)) } := rfl
section
variable {PT : PTy} (sp : TreeSpec PT) {w w' : World} {col col' : Nat → Nat} {k p t : Nat} {lv lv' : Value} {mb cb cap : Nat} {rest : List Value} {ms : List CM} {Q Q' : PPar}
set_option maxRecDepth 4000 in
set_option maxHeartbeats 4000000 in
theorem request_ret (sp : TreeSpec PT) (h : PB PT w col k p t lv mb cb cap rest ms Q) {ea : List Addr} (hE : Errs w ea) (hlo : (∀ g ∈ errG, col g = 0) ∧ ∀ a ∈ ea, col a.block = 0) (i s : Int) (e : Ed) (hn : 0 ≤ Q.n ∧ Q.n < 1000000000000000000) (hs : -1000000000000000000 ≤ s ∧ s < 1000000000000000000) (hl : Q.log.length < 1000) (hd : ∀ c ∈ Q.cls, c.down.length < 900000000000) :
    Rets Tryz.prog 164 [.agg (pdV (s, e)).toArray, Ptr p, I i] w fun _ w' => QStep PT w w' col k p (if hasT Q.vd i s then Q else takeQ Q i s e) := by
  have hF0 : Frm0 w (w.alloc (cel (pdV (s, e)) 147)) := Frm.of_alloc _ _
  have hbox := at_alloc_new w (cel (pdV (s, e)) 147)
  have hpos := h.pos
  have h1 := h.frm0 sp hF0
  have hh1 := h1.head
  have hz : col w.heap.size = 0 := h.high _ (Nat.le_refl _)
  refine rets_of Tryz.func164 (by kernel_rfl) rfl Tryz.ntmps164 (Nat.le_of_ble_eq_true rfl) ?_
  refine runG09 ?_
  generalize w.alloc (cel (pdV (s, e)) 147) = w1 at *
  refine w_drawn [(0, false), (1, false), (2, false), (3, false), (4, false), (5, false)] [6] (fun wq => Frm0 w1 wq) mixed (by kernel_rfl) ?_ ?_
  · exact Frm.of_drew _
  · refine runG09 ?_
    refine y_callf rfl (hasTaken_ret (h1.frm0 sp (Frm.of_drew w1)) i s) rfl wnt_none ?_
    rintro v w2 ⟨rfl, f2⟩
    have F2 : Frm0 w1 w2 := (Frm.of_drew w1).trans0 f2
    have F02 := hF0.trans0 F2
    cases ht : hasT Q.vd i s with
    | true =>
      refine runG09 ?_
      exact ret_0 rfl (QStep.same sp ⟨_, _, _, _, _, _, _, h⟩ F02)
    | false =>
      have h2 := h.frm0 sp F02
      have hh2 := h2.head
      have hr2 := F2.at0 hbox
      have hE2 := hE.frm0 F02
      have hzb : ¬ (k ≤ col w.heap.size ∧ col w.heap.size < k + 4) := by omega
      refine runG09 ?_
      refine wpIn_mono (Q := fun e' act w' => e' = .normal ∧ ∃ (env' : Env) (eb : Nat) (col3 : Nat → Nat) (lv3 : Value), act = rep 39 [] env' ∧ AllL env' [(1, Ptr p), (2, I i), (6, Ptr eb)] ∧ At w' eb (cel (entQ Q i s e).vals 54) ∧ col3 eb = 0 ∧ PB PT w' col3 k p t lv3 mb cb cap rest ms (tookQ Q i s e) ∧ QG k w w' col col3) ?_ ?_
      · refine w_two [0, 1, 2, 3, 4] 5 6 [(6, true), (7, true)] [(5, true), (7, true)] (fun wq => Frm (fun b => k ≤ col b ∧ col b < k + 4) w2 wq) mixed (by kernel_rfl) ?_ ?_
        · exact Frm.of_drew _
        · show WpX _ _ _ _ _ [(0, false), (1, false), (2, false), (3, false), (4, false)] _ _
          refine runG09 ?_
          refine ⟨rfl, ?_, ?_⟩
          · have fd : Frm0 w2 w2.drew := Frm.of_drew _
            refine x_callf rfl (take_ret sp (h2.frm0 sp fd) (hE2.frm0 fd) hlo i s e hn hs hl ht) rfl wnt_none ?_
            rintro v w3 ⟨rfl, col3, lv3, h3, G3⟩
            have S3 : Frm (fun b => k ≤ col b ∧ col b < k + 4) w2 w3 := (Frm.of_drew w2).trans G3.frm (fun b hb => .inl hb)
            refine ⟨S3, ?_⟩
            refine x_val rfl (r_allocA (z_ok rfl)) wnt_none (S3.alloc _) ?_
            refine x_skip rfl (r_storeAll (vs := (entQ Q i s e).vals) (s_ok rfl) rfl rfl (ent_one _) (at_alloc_new w3 _) rfl) wnt_none ((S3.alloc _).setB (.inr S3.size) _) ?_
            have f4 : Frm0 w3 (setB (w3.alloc (cel [I 0, I 0, I 0, I 0, I 0, I 0, I 0, I 0, B false] 54)) w3.heap.size (cel (entQ Q i s e).vals 54)) := (Frm.of_alloc w3 _).setB (.inr (Nat.le_refl _)) _
            exact x_late (y_nilQ ⟨rfl, _, w3.heap.size, col3, lv3, rfl, ⟨rfl, rfl, rfl, trivial⟩, at_setB _ (at_alloc_new w3 _), h3.high _ (Nat.le_refl _), h3.frm0 sp f4, (((QG.frm0 h.high (F02.trans0 fd)).trans G3.toQ).trans (QG.frm0 h3.high f4))⟩)
          · have fd : Frm0 w2 (w2.drew.alloc (cel [I 0, I 0, I 0, I 0, I 0, I 0, I 0, I 0, B false] 54)) := (Frm.of_drew w2).alloc _
            refine x_val rfl (r_allocA (z_ok rfl)) wnt_none ((Frm.of_drew w2).alloc _) ?_
            refine x_callf rfl (take_ret sp (h2.frm0 sp fd) (hE2.frm0 fd) hlo i s e hn hs hl ht) rfl wnt_none ?_
            rintro v w3 ⟨rfl, col3, lv3, h3, G3⟩
            have S3 : Frm (fun b => k ≤ col b ∧ col b < k + 4) w2 w3 := ((Frm.of_drew w2).alloc _).trans G3.frm (fun b hb => .inl hb)
            have zb : col w2.drew.heap.size = 0 := h2.high _ (Nat.le_refl _)
            have hb3 := G3.frm.at (b := w2.drew.heap.size) (by omega) (at_alloc_new w2.drew _)
            have zb3 : col3 w2.drew.heap.size = 0 := by
              rw [G3.ext.old _ (by rw [World.size_alloc]; omega)]
              exact zb
            refine ⟨S3, ?_⟩
            have f4 : Frm (fun b => b = w2.drew.heap.size) w3 (setB w3 w2.drew.heap.size (cel (entQ Q i s e).vals 54)) := (Frm.refl (fun b => b = w2.drew.heap.size) w3).setB (b := w2.drew.heap.size) (.inl rfl) _
            refine x_skip rfl (r_storeAll (vs := (entQ Q i s e).vals) (s_ok rfl) rfl rfl (ent_one _) hb3 rfl) wnt_none (S3.setB (.inr (Nat.le_refl _)) _) ?_
            have G4 : QG k w w3 col col3 := (QG.frm0 h.high (F02.trans0 fd)).trans G3.toQ
            exact x_late (y_nilQ ⟨rfl, _, w2.drew.heap.size, col3, lv3, rfl, ⟨rfl, rfl, rfl, trivial⟩, at_setB _ hb3, zb3, h3.frm sp f4 (fun b h5 h6 h7 => by subst h7; omega) (fun b hb => by rw [size_setB] at hb; exact h3.high b hb), ⟨G4.ext.setB, G4.frm.setB (b := w2.drew.heap.size) (.inr F02.size) _⟩⟩)
      · rintro e' act w3 ⟨rfl, env', eb, col3, lv3, rfl, hall, hx3, hze, h3, G3⟩
        rw [fixL hall]
        refine q_then ?_
        clear hall
        have hh3 := h3.head
        have hfew := h3.few
        have hcls : (tookQ Q i s e).cls = Q.cls := rfl
        have hmc : Q.cls = ms.map (·.c) := by rw [← hcls]; exact h3.cls
        have hlen : Q.cls.length = ms.length := by rw [hmc, List.length_map]
        refine runG09 ?_
        refine lp (fun env w' => ∃ env0, ∃ j : Nat, ∃ col4 ms4, env = setL env0 [(1, Ptr p), (6, Ptr eb), (25, I ms.length), (26, I j)] ∧ j ≤ ms.length ∧ ms4.length = ms.length ∧ (∀ l, j ≤ l → ms4[l]? = ms[l]?) ∧ PB PT w' col4 k p t lv3 mb cb cap rest ms4 { tookQ Q i s e with cls := (Q.cls.take j).map (tellD (entQ Q i s e)) ++ Q.cls.drop j } ∧ col4 eb = 0 ∧ At w' eb (cel (entQ Q i s e).vals 54) ∧ QG k w w' col col4) (fun env _ => ms.length - cnt (env 26)) ?_ ?_
        · exact ⟨_, 0, col3, ms, fixL ⟨rfl, rfl, rfl, rfl, trivial⟩, by omega, rfl, fun _ _ => rfl, h3, hze, hx3, G3⟩
        · rintro env w4 ⟨env0, j, col4, ms4, rfl, hj, hml, hrest, h4, hze4, hx4, G4⟩
          have hh4 := h4.head
          rw [hml] at hh4
          by_cases hlt : j < ms.length
          · obtain ⟨m, hm⟩ : ∃ m, ms4[j]? = some m := ⟨_, List.getElem?_eq_getElem (by omega)⟩
            have hmm : ms[j]? = some m := by rw [← hrest j (Nat.le_refl _)]; exact hm
            have hqc : Q.cls[j]? = some m.c := by rw [hmc, List.getElem?_map, hmm]; rfl
            have hoff := h4.off hm
            have htl := fun w' f => tell_ret sp ((h4.frm0 sp f).at_ (w := w') hm) (entQ Q i s e) (hd m.c (List.mem_of_getElem? hqc))
            have e0 : (fl CM.vals (ms4.take j)).length = 0 + (j : Int).toNat * 8 := by rw [hoff]; simp
            rw [e0] at htl
            refine runG09 ?_
            refine w_drawn [(0, false), (1, false), (2, false), (3, false), (4, false), (5, false), (6, false), (7, false)] [8] (fun wq => Frm0 w4 wq) mixed (by kernel_rfl) ?_ ?_
            · exact Frm.of_drew _
            · refine runG09 ?_
              refine y_callf rfl (htl _ (Frm.of_drew _)) rfl wnt_none ?_
              rintro v w5 ⟨col5, bq, sq, t', pd, an, up, dn, hA, hg⟩
              have hd4 := h4.frm0 sp (Frm.of_drew (S := fun _ => False) w4)
              have h5 := hd4.client sp (m' := ⟨t', pd, an, up, dn, bq, sq, tellD (entQ Q i s e) m.c⟩) hm hg hA
              have hg' : QG k w4 w5 col4 col5 := (QG.frm0 h4.high (Frm.of_drew w4)).trans (hg.toQ (by omega))
              have hle := at_lt hx4
              have hx5 := hg'.frm.at (b := eb) (by omega) hx4
              have hz5 : col5 eb = 0 := by rw [hg'.ext.old eb hle]; exact hze4
              have hjq : j < Q.cls.length := by omega
              have hcs : ((Q.cls.take j).map (tellD (entQ Q i s e)) ++ Q.cls.drop j).set j (tellD (entQ Q i s e) m.c) = (Q.cls.take (j + 1)).map (tellD (entQ Q i s e)) ++ Q.cls.drop (j + 1) := by
                have hq9 : Q.cls[j] = m.c := by rw [List.getElem?_eq_getElem hjq] at hqc; exact Option.some.inj hqc
                rw [List.set_append_right _ _ (by rw [List.length_map, List.length_take]; omega), List.take_add_one, hqc, List.drop_eq_getElem_cons hjq, hq9]
                simp [Nat.min_eq_left (Nat.le_of_lt hjq)]
              refine runG09 ?_
              refine ⟨_, rfl, ⟨_, j + 1, col5, ms4.set j ⟨t', pd, an, up, dn, bq, sq, tellD (entQ Q i s e) m.c⟩, fixL ⟨rfl, rfl, rfl, rfl, trivial⟩, by omega, ?_, ?_, ?_, hz5, hx5, G4.trans hg'⟩, by show ms.length - ((j : Int) + 1).toNat < ms.length - (j : Int).toNat; omega⟩
              · rw [List.length_set]; exact hml
              · intro l hl9
                rw [List.getElem?_set_ne (by omega)]
                exact hrest l (by omega)
              · rw [← hcs]
                exact h5
          · have hje : j = ms.length := by omega
            subst hje
            refine runG09 ?_
            refine end_0 rfl ⟨col4, ⟨t, lv3, mb, cb, cap, rest, ms4, ?_⟩, G4.ext, G4.frm⟩
            rw [if_neg (by simp), takeQ_eq]
            rw [← hlen, List.take_length, List.drop_length, List.append_nil] at h4
            exact h4
end
end Go.Proofs.YtbicffldggcdhaaGreatDoor

namespace Go.Proofs.YtbicffldggcdhaaGreatDoor
open Go

theorem bld_known (a : Option Addr) (n : Int) (w : World) : (Instr.build 102 [(0, .pointer a), (1, I n)].toArray).run Tryz.prog w = .ok (.agg #[.pointer a, I n]) w := by kernel_rfl
theorem bld_snap (a b : Option Addr) (n : Int) (m c : Nat) (w : World) : (Instr.build 266 [(0, .agg #[.pointer a, I n]), (1, .slice b m c)].toArray).run Tryz.prog w = .ok (.agg #[.pointer a, I n, .slice b m c]) w := by kernel_rfl
section
variable {PT : PTy} (sp : TreeSpec PT) (cs : CloneSpec PT) {w w' : World} {col col' : Nat → Nat} {k p t : Nat} {lv lv' : Value} {mb cb cap : Nat} {rest : List Value} {ms : List CM} {Q Q' : PPar}
theorem copied_ret (sp : TreeSpec PT) (cs : CloneSpec PT) {l : List Nd} {S : Nat → Prop} (n : Int) (hT : PT w t l S) :
    Rets Tryz.prog 172 [.agg #[Ptr t, I n]] w fun v w' => ∃ t', v = .agg #[Ptr t', I n] ∧ PT w' t' l (fun b => w.heap.size ≤ b) ∧ Frm0 w w' := by
  have f0 : Frm0 w ((w.alloc (cel [Ptr t, I n] 102)).alloc (cel [.pointer none, I 0] 102)) := ((Frm.refl _ w).alloc _).alloc _
  have hr1 : At ((w.alloc (cel [Ptr t, I n] 102)).alloc (cel [.pointer none, I 0] 102)) w.heap.size (cel [Ptr t, I n] 102) := at_alloc _ (at_alloc_new _ _)
  have hc1 : At ((w.alloc (cel [Ptr t, I n] 102)).alloc (cel [.pointer none, I 0] 102)) (w.heap.size + 1) (cel [.pointer none, I 0] 102) := by
    have := at_alloc_new (w.alloc (cel [Ptr t, I n] 102)) (cel [.pointer none, I 0] 102)
    rw [World.size_alloc] at this
    exact this
  refine rets_of Tryz.func172 (by kernel_rfl) rfl Tryz.ntmps172 (Nat.le_of_ble_eq_true rfl) ?_
  refine runG09 ?_
  rw [show (w.alloc (cel [Ptr t, I n] 102)).heap.size = w.heap.size + 1 from World.size_alloc _ _]
  have hz : ((w.alloc (cel [Ptr t, I n] 102)).alloc (cel [.pointer none, I 0] 102)).heap.size = w.heap.size + 2 := by simp
  generalize (w.alloc (cel [Ptr t, I n] 102)).alloc (cel [.pointer none, I 0] 102) = w1 at *
  refine w_drawn [(0, false), (1, false), (3, false), (4, false), (2, true), (5, false)] [6] (fun wq => Frm0 w1 wq) mixed (by kernel_rfl) ?_ ?_
  · exact Frm.of_drew _
  · refine runG09 ?_
    refine x_callf rfl (cs (sp.frm hT (f0.trans0 (Frm.of_drew w1)) (fun _ _ h => h))) rfl wnt_none ?_
    rintro v w2 ⟨t', rfl, hT2, f2⟩
    have F2 : Frm0 w1 w2 := (Frm.of_drew w1).trans0 f2
    refine ⟨F2, ?_⟩
    have hc2 := F2.at0 hc1
    have hzd : w1.drew.heap.size = w1.heap.size := rfl
    refine x_q rfl (fun wq hq => r_build rfl (bld_known _ _ wq)) wnt_none ?_
    refine x_late ?_
    refine y_skip rfl (r_storeAll (vs := [Ptr t', I n]) (s_ok rfl) rfl rfl (by intro u hu; simp at hu; rcases hu with rfl | rfl <;> rfl) hc2 rfl) wnt_none ?_
    refine runG09 ?_
    have f3 : Frm (fun b => b = w.heap.size + 1) w2 (setB w2 (w.heap.size + 1) (cel [Ptr t', I n] 102)) := (Frm.refl (fun b => b = w.heap.size + 1) w2).setB (b := w.heap.size + 1) (.inl rfl) _
    refine ret_cA rfl (u_ok rfl) rfl (s_ok rfl) rfl (at_setB _ hc2) rfl ⟨t', rfl, ?_, (f0.trans0 F2).setB (b := w.heap.size + 1) (.inr (by omega)) _⟩
    exact sp.weak (sp.frm hT2 f3 (fun b hb e => by omega)) (fun b hb _ => by omega)
/-- What behind gives, in memory that is new since w: a snapshot's tree below z, its answers from z on. -/
def Behind (PT : PTy) (w w' : World) (v : Value) (l : List DMsg) : Prop := ∃ z, w.heap.size ≤ z ∧ DsAt PT w' (fun b => w.heap.size ≤ b ∧ b < z) (fun b => z ≤ b) v l ∧ (∀ b, InV v b → z ≤ b) ∧ Frm0 w w'
set_option maxRecDepth 4000 in
set_option maxHeartbeats 4000000 in
theorem behind_ret (sp : TreeSpec PT) (cs : CloneSpec PT) (h : PB PT w col k p t lv mb cb cap rest ms Q) (i n : Int) (hn : 0 ≤ n ∧ n ≤ Q.n ∧ Q.n < 1000000000000000000) (hl : Q.log.length < 1000) (hL : (Q.log.length : Int) < Q.n - n → ∀ w', Frm0 w w' → LackSpec w' p i n Q.vd) :
    Rets Tryz.prog 171 [Ptr p, I i, I n] w fun v w' => ∃ L, ((Q.log.length : Int) < Q.n - n → L.Perm (lack Q.vd i n) ∧ L.Pairwise fun a b => a.seq ≤ b.seq) ∧ Behind PT w w' v (behindQ Q n L) := by
  have hh := h.head
  obtain ⟨la, lc, rfl⟩ := h.log.isSl
  by_cases hs : (Q.log.length : Int) < Q.n - n
  · have hbq : ∀ L, behindQ Q n L = [.inr (Q.t, Q.n, L)] := fun L => by rw [behindQ, if_pos hs]
    refine rets_of Tryz.func171 (by kernel_rfl) rfl Tryz.ntmps171 (Nat.le_of_ble_eq_true rfl) ?_
    refine runG09 ?_
    refine s_callf (copied_ret sp cs Q.n h.tree) rfl wnt_none ?_
    rintro v w1 ⟨t', rfl, hT1, f1⟩
    have hT1' : PT w1 t' Q.t (fun b => w.heap.size ≤ b ∧ b < w1.heap.size) := sp.weak hT1 (fun b h1 h2 => ⟨h1, h2⟩)
    refine runG09 ?_
    refine s_callf (hL hs w1 f1) rfl wnt_none ?_
    rintro v w2 ⟨L, hp, ho, hr, hv, f2⟩
    obtain ⟨va, vc, rfl⟩ := hr.isSl
    refine runG09 ?_
    refine s_val (r_build rfl (bld_snap _ _ _ _ _ _)) wnt_none ?_
    refine runG09 ?_
    refine s_val (r_bs rfl (bs_um _ _ _)) wnt_none ?_
    refine runG09 ?_
    have s1 := f1.size
    have s2 := f2.size
    refine ret_s rfl rfl ⟨L, fun _ => ⟨hp, ho⟩, w1.heap.size, s1, ?_, fun b hb => ?_, (f1.trans0 f2).alloc _⟩
    · rw [hbq]
      refine ds_one (m := .inr (Q.t, Q.n, L)) (fun w' f => ⟨t', _, rfl, sp.frm hT1' (f2.trans0 f) (fun _ _ h => h), h.wf, hr.frm f (fun _ _ h => h), hv⟩)
    · obtain ⟨_, _, _, e⟩ := hb
      cases e
      exact s2
  · have hd : ∃ d : Nat, ((Q.log.length : Int) - (Q.n - n)) = d ∧ d ≤ Q.log.length := ⟨((Q.log.length : Int) - (Q.n - n)).toNat, by omega, by omega⟩
    obtain ⟨d, hd1, hd2⟩ := hd
    have hbq : ∀ L, behindQ Q n L = (Q.log.drop d).map (Sum.inl : Ent → DMsg) := fun L => by rw [behindQ, if_neg hs, hd1]; rfl
    refine rets_of Tryz.func171 (by kernel_rfl) rfl Tryz.ntmps171 (Nat.le_of_ble_eq_true rfl) ?_
    refine runG09 ?_
    refine w_drawn ((0, false) :: (1, false) :: (2, false) :: (3, false) :: (4, false) :: (5, false) :: (6, false) :: (7, false) :: (8, false) :: (9, false) :: (10, false) :: (11, false) :: (12, false) :: (13, false) :: []) [] (fun wq => Frm0 w wq) mixed (by kernel_rfl) ?_ ?_
    · exact Frm.of_drew _
    · refine runG09 ?_
      rw [hd1]
      refine x_q rfl (fun wq hq => r_sl rfl rfl rfl rfl (sliceFrom_run (u_ok rfl) (s_ok rfl) hd2)) wnt_none ?_
      refine runG09 ?_
      have hlx : (Q.log.drop d).length = Q.log.length - d := List.length_drop
      refine lp (fun env w' => ∃ env0, ∃ j : Nat, ∃ va vc, env = setL env0 [(8, .slice va j vc), (48, .slice (if lc = d then la else la.map (·.add (d * 9))) (Q.log.length - d) (lc - d)), (49, I ((Q.log.length - d : Nat) : Int)), (50, I j)] ∧ j ≤ Q.log.length - d ∧ DsAt PT w' (fun _ => False) (fun _ => False) (.slice va j vc) (((Q.log.drop d).take j).map (Sum.inl : Ent → DMsg)) ∧ (∀ b, InV (.slice va j vc) b → w.heap.size ≤ b) ∧ Frm0 w w') (fun env _ => (Q.log.length - d) - cnt (env 50)) ?_ ?_
      · exact ⟨_, 0, none, 0, fixL ⟨rfl, rfl, rfl, rfl, trivial⟩, by omega, DsAt.none, fun b hb => (inv_none hb).elim, Frm.of_drew _⟩
      · rintro env w1 ⟨env0, j, va, vc, rfl, hj, hds, hnew, f1⟩
        by_cases hlt : j < Q.log.length - d
        · obtain ⟨x, hx⟩ : ∃ x, (Q.log.drop d)[j]? = some x := ⟨_, List.getElem?_eq_getElem (by omega)⟩
          have hx' : Q.log[d + j]? = some x := by rw [← List.getElem?_drop]; exact hx
          rcases h.log with ⟨_, h0, _⟩ | ⟨lb, lcap, lrest, e9, hA, hpl, hpr, hpc⟩
          · omega
          · cases e9
            rw [if_neg (by omega)]
            have hA1 := f1.at0 hA
            have hsA : sub (fl Ent.vals Q.log ++ lrest) (0 + d * 9 + (j : Int).toNat * 9) 9 = x.vals := by
              have := fl_sub (f := Ent.vals) (k := 9) (fun _ => rfl) Q.log (d + j) x hx' [] lrest
              rw [List.nil_append, List.length_nil] at this
              rw [show 0 + d * 9 + (j : Int).toNat * 9 = 0 + (d + j) * 9 by omega]
              exact this
            have hlA : 0 + d * 9 + (j : Int).toNat * 9 + 9 ≤ (fl Ent.vals Q.log ++ lrest).length := by
              rw [List.length_append, fl_len (f := Ent.vals) (k := 9) (fun _ => rfl)]
              omega
            have ha : (some (⟨lb, 0, none⟩ : Addr)).map (·.add (d * 9)) = some ⟨lb, 0 + d * 9, none⟩ := by simp [add_none]
            rw [ha]
            refine runG09 ?_
            refine s_val (r_loadV (vs := x.vals) (u_ok rfl) rfl (s_ok rfl) rfl hA1 hlA hsA) wnt_none ?_
            refine runG09 ?_
            refine s_skip (r_storeAll (vs := x.vals) (s_ok rfl) rfl rfl (ent_one x) (at_alloc_new w1 _) rfl) wnt_none ?_
            have hx2 := at_setB (cel x.vals 54) (at_alloc_new w1 (cel [I 0, I 0, I 0, I 0, I 0, I 0, I 0, I 0, B false] 54))
            have f2 : Frm0 w1 (setB (w1.alloc (cel [I 0, I 0, I 0, I 0, I 0, I 0, I 0, I 0, B false] 54)) w1.heap.size (cel x.vals 54)) := (Frm.of_alloc w1 _).setB (.inr (Nat.le_refl _)) _
            generalize setB (w1.alloc (cel [I 0, I 0, I 0, I 0, I 0, I 0, I 0, I 0, B false] 54)) w1.heap.size (cel x.vals 54) = w2 at *
            refine runG09 ?_
            rw [show sub x.vals 0 9 = x.vals from rfl]
            refine s_val (r_build rfl (bld_news x _)) wnt_none ?_
            refine s_val (r_ifaceA rfl (u_ok rfl)) wnt_none ?_
            refine s_val (r_bs rfl (bs_um _ _ _)) wnt_none ?_
            have f3 : Frm0 w2 (w2.alloc (cel [.iface 262 (.agg x.vals.toArray)] 172)) := Frm.of_alloc _ _
            have s1 := f1.size
            have s2 := f2.size
            have s3 := f3.size
            have hap := append_ds sp (ty := 115) (A := ((Q.log.drop d).take j).map (Sum.inl : Ent → DMsg)) (C := [.inl x]) (hds.frm sp (f2.trans0 f3) (fun _ _ h => h) (fun _ _ h => h) (fun _ _ h => h)) (ds_one (PT := PT) (F := fun _ => False) (G := fun _ => False) (m := .inl x) (fun w' f => rfl)) (fun b hb => hb.elim) (fun b hb => hb.elim) (by simp; omega)
            obtain ⟨v6, w6, e6, r6, f6, n6⟩ := hap
            have hmap : ((Q.log.drop d).take j).map (Sum.inl : Ent → DMsg) ++ [.inl x] = ((Q.log.drop d).take (j + 1)).map (Sum.inl : Ent → DMsg) := by rw [take_snoc hx, List.map_append]; rfl
            rw [hmap] at r6
            obtain ⟨va6, vc6, e7⟩ := r6.isSl
            have hl6 : (((Q.log.drop d).take (j + 1)).map (Sum.inl : Ent → DMsg)).length = j + 1 := by rw [List.length_map, List.length_take]; omega
            rw [hl6] at e7
            subst e7
            refine s_val (r_app rfl rfl e6) wnt_none ?_
            refine runG09 ?_
            refine ⟨_, rfl, ⟨_, j + 1, va6, vc6, fixL ⟨rfl, rfl, rfl, rfl, trivial⟩, by omega, r6, fun b hb => ?_, ((f1.trans0 f2).trans0 f3).trans f6 (fun b hb => .inr (hnew b hb))⟩, by show (Q.log.length - d) - ((j : Int) + 1).toNat < (Q.log.length - d) - (j : Int).toNat; omega⟩
            rcases n6 b hb with h9 | h9
            · exact hnew b h9
            · omega
        · have hje : j = Q.log.length - d := by omega
          subst hje
          refine runG09 ?_
          refine ret_s rfl rfl ⟨[], fun h9 => absurd h9 hs, w.heap.size, Nat.le_refl _, ?_, hnew, f1⟩
          rw [hbq]
          rw [← hlx, List.take_length] at hds
          rw [hlx] at hds
          exact hds.col sp (fun b _ hb => hb.elim) (fun b _ hb => hb.elim)
end
end Go.Proofs.YtbicffldggcdhaaGreatDoor

namespace Go.Proofs.YtbicffldggcdhaaGreatDoor
open Go

section
variable {PT : PTy} (sp : TreeSpec PT) {w w' : World} {col : Nat → Nat} {k0 k cb : Nat} {pre post : List Value} {bq sq t : Nat} {pd an up dn v : Value} {c : PCli}
/-- The client's base is edited. -/
theorem CAt.retree (sp : TreeSpec PT) {l : List Nd} (h : CAt PT w col k0 k cb pre post bq sq t pd an up dn c) (hT : PT w' t l (fun b => col b = bq ∨ w.heap.size ≤ b)) (hw : Wf l) (f : Frm (fun b => col b = bq) w w') :
    CAt PT w' (paintA col w.heap.size w'.heap.size bq) k0 k cb pre post bq sq t pd an up dn { c with base := l } ∧ CG k0 k w w' col (paintA col w.heap.size w'.heap.size bq) := by
  have hk := h.hk
  have hq := h.m.q
  have ho := h.own
  have h1 := h.m.recol sp (col' := paintA col w.heap.size w'.heap.size bq) (fun b hb => paintA_old hb)
  have e : Ext k0 w w' col (paintA col w.heap.size w'.heap.size bq) := paintA_ext h.high f.size (by omega)
  have key : ∀ {b q}, paintA col w.heap.size w'.heap.size bq b = q → q ≠ bq → ¬ col b = bq := fun {b q} h2 h3 h4 => by
    have hl : b < w.heap.size := by
      rcases Nat.lt_or_ge b w.heap.size with h5 | h5
      · exact h5
      · have := h.high b h5; omega
    rw [paintA_old hl] at h2
    omega
  refine ⟨⟨f.at (by omega) h.row, by rw [paintA_old (at_lt h.row)]; exact ho, ⟨paintA_tree sp hT (by omega) h.high, hw, h1.pend.frm f (fun b hb => key (h1.cpend b hb) (by omega)), h1.cpend, h1.ans.frm f (fun b hb => key (h1.cans b hb) (by omega)), h1.cans, h1.ups.frm f (fun b hb => key (h1.cup b hb) (by omega)), h1.cup, h1.down.frm sp f (fun b hb => key hb (by omega)) (fun b hb => key hb (by omega)) (fun b hb => key (h1.cdown b hb) (by omega)), h1.cdown, h1.q⟩, h.hk, e.high⟩, ⟨e, f.mono (fun b hb => .inl (.inl (by omega)))⟩⟩
/-- New memory becomes the client's: what a snapshot holds. -/
theorem CAt.adopt (sp : TreeSpec PT) {z : Nat} (h : CAt PT w col k0 k cb pre post bq sq t pd an up dn c) (f : Frm0 w w') (hz : w.heap.size ≤ z) :
    ∃ col', CAt PT w' col' k0 k cb pre post bq sq t pd an up dn c ∧ CG k0 k w w' col col' ∧ (∀ b, w.heap.size ≤ b → b < z → b < w'.heap.size → col' b = sq) ∧ (∀ b, z ≤ b → b < w'.heap.size → col' b = k + 7) := by
  have hk := h.hk
  have hq := h.m.q
  have hs := f.size
  refine ⟨fun b => if w.heap.size ≤ b ∧ b < w'.heap.size then (if b < z then sq else k + 7) else col b, ?_, ?_, ?_, ?_⟩
  · refine ⟨f.at0 h.row, ?_, (h.m.recol sp (fun b hb => ?_)).frm sp f (fun _ _ _ h => h), h.hk, fun b hb => ?_⟩
    · rw [if_neg (by have := at_lt h.row; omega)]; exact h.own
    · rw [if_neg (by omega)]
    · rw [if_neg (by omega)]; exact h.high b (by omega)
  · refine ⟨⟨fun b hb => by rw [if_neg (by omega)], fun b hb => by rw [if_neg (by omega)]; exact h.high b (by omega), fun b hb => ?_⟩, f.mono (fun _ h => h.elim)⟩
    show (if _ then _ else _) = 0 ∨ _
    by_cases h1 : w.heap.size ≤ b ∧ b < w'.heap.size
    · right
      show k0 ≤ (if _ then _ else _) ∧ (if _ then _ else _) < _
      rw [if_pos h1]
      split <;> omega
    · left
      rw [if_neg h1]
      exact h.high b hb
  · intro b h1 h2 h3
    show (if _ then _ else _) = _
    rw [if_pos ⟨h1, h3⟩, if_pos h2]
  · intro b h1 h2
    show (if _ then _ else _) = _
    rw [if_pos ⟨by omega, h2⟩, if_neg (by omega)]
end
theorem DsAt.news {PT : PTy} {w : World} {F G F' G' : Nat → Prop} {v : Value} {ms : List DMsg} (h : DsAt PT w F G v ms) (hn : ∀ m ∈ ms, ∃ x, m = .inl x) : DsAt PT w F' G' v ms := by
  obtain ⟨us, h1, h2⟩ := h
  refine ⟨us, h1, fun i u m hu hm => ?_⟩
  obtain ⟨x, rfl⟩ := hn m (List.mem_of_getElem? hm)
  exact h2 i u _ hu hm
/-- What get leaves of a client: its pending edits and its answers are others. -/
def GRes (PT : PTy) (w w' : World) (col : Nat → Nat) (k0 k cb : Nat) (pre post : List Value) (bq sq t : Nat) (up dn : Value) (c : PCli) : Prop := ∃ col' pd an, CAt PT w' col' k0 k cb pre post bq sq t pd an up dn c ∧ Ext k0 w w' col col' ∧ Frm (fun b => col b = k + 2 ∨ col b = k + 3 ∨ col b = k0 + 4) w w'
theorem GRes.cres {PT : PTy} {w w' : World} {col : Nat → Nat} {k0 k cb : Nat} {pre post : List Value} {bq sq t : Nat} {up dn : Value} {c : PCli} (h : GRes PT w w' col k0 k cb pre post bq sq t up dn c) : CRes PT w w' col k0 k cb pre post c := by
  obtain ⟨col', pd, an, h1, h2, h3⟩ := h
  exact ⟨col', bq, sq, t, pd, an, up, dn, h1, h2, h3.mono (fun b hb => .inl (by omega))⟩
section
variable {PT : PTy} (sp : TreeSpec PT) {w : World} {col : Nat → Nat} {k0 k cb : Nat} {pre post : List Value} {bq sq t : Nat} {pd an up dn : Value} {c : PCli}
set_option maxRecDepth 4000 in
set_option maxHeartbeats 4000000 in
theorem get_ret (sp : TreeSpec PT) (h : CAt PT w col k0 k cb pre post bq sq t pd an up dn c) (a : Ans) (hp : c.pend.length < 1000) (ha : c.ans.length < 3900000000000) :
    Rets Tryz.prog 205 [.pointer (some ⟨cb, pre.length, none⟩), .agg a.vals.toArray] w fun _ w' => GRes PT w w' col k0 k cb pre post bq sq t up dn (got c a) := by
  have hF0 : Frm0 w (w.alloc (cel a.vals 123)) := Frm.of_alloc _ _
  have hbox := at_alloc_new w (cel a.vals 123)
  have hk := h.hk
  have h1 := h.frm0 sp hF0
  have hrow := h1.row
  have hz : col w.heap.size = 0 := h.high _ (Nat.le_refl _)
  have hown := h.own
  obtain ⟨pa, pc, rfl⟩ := h1.m.pend.isSl
  refine rets_of Tryz.func205 (by kernel_rfl) rfl Tryz.ntmps205 (Nat.le_of_ble_eq_true rfl) ?_
  refine runG09 ?_
  generalize w.alloc (cel a.vals 123) = w1 at *
  have hnp : ¬ InV (.slice pa c.pend.length pc) w.heap.size := fun h9 => by have := h1.m.cpend _ h9; omega
  have hnc : ¬ InV (.slice pa c.pend.length pc) cb := fun h9 => by have := h1.m.cpend _ h9; omega
  refine s_callf (DeleteFunc_ret h1.m.pend hbox hnp hp) rfl wnt_none ?_
  rintro v w2 ⟨r2, f2, n2⟩
  have hrow2 := f2.at hnc hrow
  have hbox2 := f2.at hnp hbox
  obtain ⟨h3, g3⟩ := h1.repend sp f2 r2 (fun b hb => .inl (n2 b hb))
  obtain ⟨xa, xc, rfl⟩ := r2.isSl
  refine runG09 ?_
  refine s_skip (r_store_s (s_ok rfl) rfl rfl hrow2 (clt _ _ _ _ _ _ _ _ (by decide))) wnt_none ?_
  rw [set_pd]
  have F3 : Frm (fun b => col b = k + 2 ∨ col b = k + 3 ∨ col b = k0 + 4) w1 (setB w2 cb (cel (pre ++ (cvals t c.n (.slice xa (c.pend.filter fun q => !decide (q.1 = a.seq)).length xc) an c.joined c.told up dn ++ post)) 119)) := (f2.mono (fun b hb => .inl (.inl (h1.m.cpend b hb)))).setB (b := cb) (.inl (.inr (.inr hown))) _
  have hbox3 := at_setB_ne (b := cb) (cel (pre ++ (cvals t c.n (.slice xa (c.pend.filter fun q => !decide (q.1 = a.seq)).length xc) an c.joined c.told up dn ++ post)) 119) (fun e9 => by subst e9; omega) hbox2
  generalize setB w2 cb (cel (pre ++ (cvals t c.n (.slice xa (c.pend.filter fun q => !decide (q.1 = a.seq)).length xc) an c.joined c.told up dn ++ post)) 119) = w3 at *
  generalize paint col w1.heap.size (.slice xa (c.pend.filter fun q => !decide (q.1 = a.seq)).length xc) (k + 2) = col3 at *
  have hrow3 := h3.row
  obtain ⟨aa, ac, rfl⟩ := h3.m.ans.isSl
  have hown3 := h3.own
  have hna : ¬ InV (.slice aa c.ans.length ac) cb := fun h9 => by have := h3.m.cans _ h9; omega
  have hz3 : col3 w.heap.size = 0 := by rw [g3.ext.old _ (at_lt hbox)]; exact hz
  have hnb : ¬ InV (.slice aa c.ans.length ac) w.heap.size := fun h9 => by have := h3.m.cans _ h9; omega
  refine runG09 ?_
  refine w_drawn [(0, false), (1, false), (2, false), (3, false), (4, false), (5, false), (6, true), (7, true), (8, false), (9, false)] [10] (fun wq => Frm (InV (.slice aa c.ans.length ac)) w3 wq) mixed (by kernel_rfl) ?_ ?_
  · exact Frm.of_drew _
  · refine runG09 ?_
    refine x_val rfl (r_bs rfl (bs_ansQ a _)) wnt_none ((Frm.of_drew w3).alloc _) ?_
    have hFb : Frm0 w3 (w3.drew.alloc (cel a.vals 123)) := (Frm.of_drew w3).alloc _
    obtain ⟨v4, w4, e4, r4, f4, n4⟩ := append_ansQ (ty := 114) (A := c.ans) (q := a) (h3.m.ans.frm hFb (fun _ _ h => h)) (seg_new rfl) (by omega)
    have f4' : Frm (InV (.slice aa c.ans.length ac)) w3 w4 := (hFb.mono (fun _ h => h.elim)).trans f4 (fun b hb => .inl hb)
    have n4' : ∀ b, InV v4 b → InV (.slice aa c.ans.length ac) b ∨ w3.heap.size ≤ b := fun b hb => (n4 b hb).imp id (fun h => Nat.le_trans hFb.size h)
    refine x_val rfl (r_app rfl rfl e4) wnt_none f4' ?_
    have hrow4 := f4'.at hna hrow3
    obtain ⟨h5, g5⟩ := h3.reans sp f4' r4 n4'
    obtain ⟨ya, yc, rfl⟩ := r4.isSl
    refine runG09 ?_
    refine y_skip rfl (r_store_s (s_ok rfl) rfl rfl hrow4 (clt _ _ _ _ _ _ _ _ (by decide))) wnt_none ?_
    rw [set_an]
    refine runG09 ?_
    have F5 : Frm (fun b => col3 b = k + 2 ∨ col3 b = k + 3 ∨ col3 b = k0 + 4) w3 (setB w4 cb (cel (pre ++ (cvals t c.n (.slice xa (c.pend.filter fun q => !decide (q.1 = a.seq)).length xc) (.slice ya (c.ans ++ [a]).length yc) c.joined c.told up dn ++ post)) 119)) := (f4'.mono (fun b hb => .inl (.inr (.inl (h3.m.cans b hb))))).setB (b := cb) (.inl (.inr (.inr hown3))) _
    refine end_0 rfl ⟨_, _, _, h5, (CG.trans (CG.trans (CG.frm0 h.high hF0) g3) g5).ext, ((hF0.mono (fun _ h => h.elim)).trans F3 (fun b hb => .inl hb)).trans F5 (fun b hb => ?_)⟩
    rcases Nat.lt_or_ge b w.heap.size with h9 | h9
    · have := (CG.trans (CG.frm0 h.high hF0) g3).ext.old b h9
      exact .inl (by omega)
    · exact .inr h9
theorem follow_ret (sp : TreeSpec PT) (h : CAt PT w col k0 k cb pre post bq sq t pd an up dn c) {ea : List Addr} (hE : Errs w ea) (hlo : (∀ g ∈ errG, col g = 0) ∧ ∀ a ∈ ea, col a.block = 0) (x : Ent) (hn : 0 ≤ c.n ∧ c.n < 1000000000000000000) :
    Rets Tryz.prog 204 [.pointer (some ⟨cb, pre.length + 0, none⟩), .agg x.vals.toArray] w fun _ w' => ∃ col', CAt PT w' col' k0 k cb pre post bq sq t pd an up dn { c with base := if x.done then applyL c.base x.e else c.base, n := c.n + 1 } ∧ CG k0 k w w' col col' := by
  have hF0 : Frm0 w (w.alloc (cel x.vals 54)) := Frm.of_alloc _ _
  have hbox := at_alloc_new w (cel x.vals 54)
  have hk := h.hk
  have hq := h.m.q
  have h1 := h.frm0 sp hF0
  have hrow := h1.row
  have hz : col w.heap.size = 0 := h.high _ (Nat.le_refl _)
  have fin : ∀ (w2 : World) (col2 : Nat → Nat) (l : List Nd), CAt PT w2 col2 k0 k cb pre post bq sq t pd an up dn { c with base := l } → CG k0 k w w2 col col2 → ∃ col', CAt PT (setB w2 cb (cel (pre ++ (cvals t (c.n + 1) pd an c.joined c.told up dn ++ post)) 119)) col' k0 k cb pre post bq sq t pd an up dn { c with base := l, n := c.n + 1 } ∧ CG k0 k w (setB w2 cb (cel (pre ++ (cvals t (c.n + 1) pd an c.joined c.told up dn ++ post)) 119)) col col' := fun w2 col2 l h2 g2 => by
    obtain ⟨h3, g3⟩ := h2.remark sp (jn := c.joined) (tl := c.told) (n := c.n + 1)
    exact ⟨col2, h3, g2.trans g3⟩
  refine rets_of Tryz.func204 (by kernel_rfl) rfl Tryz.ntmps204 (Nat.le_of_ble_eq_true rfl) ?_
  refine runG09 ?_
  cases hdn : x.done with
  | false =>
    refine runG09 ?_
    refine s_skip (r_store_i (s_ok rfl) rfl rfl hrow (by rw [Nat.add_zero]; exact clt _ _ _ _ _ _ _ _ (by decide))) wnt_none ?_
    rw [set_n]
    refine runG09 ?_
    exact end_0 rfl (fin _ _ _ h1 (CG.frm0 h.high hF0))
  | true =>
    generalize w.alloc (cel x.vals 54) = w1 at *
    refine runG09 ?_
    refine w_drawn [(0, false), (1, false), (2, false), (3, false), (4, false), (5, false)] [6] (fun wq => Frm0 w1 wq) mixed (by kernel_rfl) ?_ ?_
    · exact Frm.of_drew _
    · refine runG09 ?_
      have hd1 := h1.frm0 sp (Frm.of_drew (S := fun _ => False) w1)
      refine y_callf rfl (sp.apply (ea := ea) x.e hd1.m.base hd1.m.wf ((hE.frm0 hF0).frm0 (Frm.of_drew _)) (fun g hg hs => by have := hlo.1 g hg; omega) (fun a ha hs => by have := hlo.2 a ha; omega)) rfl wnt_none ?_
      rintro v w2 ⟨_, hT2, f2, _⟩
      obtain ⟨h3, g3⟩ := hd1.retree sp hT2 (hd1.m.wf.apply x.e) f2
      have hrow3 : At w2 cb (cel (pre ++ (cvals t c.n pd an c.joined c.told up dn ++ post)) 119) := h3.row
      refine runG09 ?_
      refine s_skip (r_store_i (s_ok rfl) rfl rfl hrow3 (by rw [Nat.add_zero]; exact clt _ _ _ _ _ _ _ _ (by decide))) wnt_none ?_
      rw [set_n]
      refine runG09 ?_
      exact end_0 rfl (fin _ _ _ h3 ((CG.frm0 h.high (hF0.trans0 (Frm.of_drew w1))).trans g3))
end
end Go.Proofs.YtbicffldggcdhaaGreatDoor

namespace Go.Proofs.YtbicffldggcdhaaGreatDoor
open Go

theorem fold_got_len : ∀ (l : List Ans) (c : PCli), (l.foldl got c).pend.length ≤ c.pend.length ∧ (l.foldl got c).ans.length = c.ans.length + l.length
  | [], c => ⟨Nat.le_refl _, rfl⟩
  | a :: l, c => by
    have h := fold_got_len l (got c a)
    have h1 : (got c a).pend.length ≤ c.pend.length := List.length_filter_le _ _
    have h2 : (got c a).ans.length = c.ans.length + 1 := by show (c.ans ++ [a]).length = _; simp
    rw [List.foldl_cons]
    refine ⟨Nat.le_trans h.1 h1, ?_⟩
    rw [h.2, h2, List.length_cons]
    omega
theorem CAt.swap {PT : PTy} (sp : TreeSpec PT) {w : World} {col : Nat → Nat} {k0 k cb : Nat} {pre post : List Value} {bq sq t tp : Nat} {pd an up dn : Value} {c : PCli} {l : List Nd} {n : Int} (h : CAt PT w col k0 k cb pre post bq sq t pd an up dn c) (hT : PT w tp l (fun b => col b = sq)) (hw : Wf l) (hnews : ∀ y ∈ c.down, ∃ x, y = Sum.inl x) :
    CAt PT (setB w cb (cel (pre ++ (cvals tp n pd an c.joined c.told up dn ++ post)) 119)) col k0 k cb pre post sq bq tp pd an up dn { c with base := l, n := n } ∧ CG k0 k w (setB w cb (cel (pre ++ (cvals tp n pd an c.joined c.told up dn ++ post)) 119)) col col := by
  have hm : CliM PT w col k sq bq tp pd an up dn { c with base := l, n := n } := ⟨hT, hw, h.m.pend, h.m.cpend, h.m.ans, h.m.cans, h.m.ups, h.m.cup, h.m.down.news hnews, h.m.cdown, h.m.q.elim (fun h => .inr ⟨h.2, h.1⟩) (fun h => .inl ⟨h.2, h.1⟩)⟩
  exact ⟨h.ofPut sp (u := .slice none 0 0) (q := k) (Frm.refl _ _) (fun b hb => (inv_none hb).elim) (by omega) (Ext.refl h.high) hm, CG.put h.high h.own⟩
section
variable {PT : PTy} (sp : TreeSpec PT) {w w' : World} {col col' : Nat → Nat} {k p t : Nat} {lv lv' : Value} {mb cb cap : Nat} {rest : List Value} {ms : List CM} {Q Q' : PPar}
set_option maxRecDepth 4000 in
set_option maxHeartbeats 1000000 in
theorem news_ret (sp : TreeSpec PT) (h : PB PT w col k p t lv mb cb cap rest ms Q) {ea : List Addr} (hE : Errs w ea) (hlo : (∀ g ∈ errG, col g = 0) ∧ ∀ a ∈ ea, col a.block = 0) {i : Int} {m : CM} (hi : 0 ≤ i) (hm : ms[i.toNat]? = some m) (x : Ent) (hn : 0 ≤ m.c.n ∧ m.c.n < 1000000000000000000) (hp : m.c.pend.length < 1000) (ha : m.c.ans.length < 3900000000000) :
    Rets Tryz.prog 203 [.agg x.vals.toArray, Ptr p, I i] w fun _ w' => CRes PT w w' col k (k + 10 + 10 * i.toNat) cb (fl CM.vals (ms.take i.toNat)) (fl CM.vals (ms.drop (i.toNat + 1)) ++ rest) (downD i m.c (.inl x)) := by
  have hF0 : Frm0 w (w.alloc (cel x.vals 262)) := Frm.of_alloc _ _
  have hbox := at_alloc_new w (cel x.vals 262)
  have h1 := h.frm0 sp hF0
  have hh1 := h1.head
  have hpos := h.pos
  have hlt : i.toNat < ms.length := (List.getElem?_eq_some_iff.1 hm).1
  have hfew := h.few
  have hz : col w.heap.size = 0 := h.high _ (Nat.le_refl _)
  have hA1 := h1.at_ hm
  have hoff := h1.off hm
  have hoff' : 0 + i.toNat * 8 = (fl CM.vals (ms.take i.toNat)).length := by rw [hoff, Nat.zero_add]
  refine rets_of Tryz.func203 (by kernel_rfl) rfl Tryz.ntmps203 (Nat.le_of_ble_eq_true rfl) ?_
  refine runG09 ?_
  rw [hoff']
  generalize w.alloc (cel x.vals 262) = w1 at *
  refine w_drawn [(0, false), (1, false), (2, false), (3, false), (4, false)] [5] (fun wq => Frm0 w1 wq) mixed (by kernel_rfl) ?_ ?_
  · exact Frm.of_drew _
  · refine runG09 ?_
    rw [show sub x.vals (0 + 0) 9 = x.vals from rfl]
    generalize hpre : fl CM.vals (ms.take i.toNat) = pre at *
    generalize fl CM.vals (ms.drop (i.toNat + 1)) ++ rest = post at *
    have hk := hA1.hk
    have hF1 : Frm0 w w1.drew := hF0.trans0 (Frm.of_drew w1)
    refine y_callf rfl (follow_ret sp (hA1.frm0 sp (Frm.of_drew _)) (hE.frm0 hF1) hlo x hn) rfl wnt_none ?_
    rintro v w2 ⟨col2, h2, g2⟩
    have hb2 := g2.frm.at (b := w.heap.size) (by omega) hbox
    have hz2 : col2 w.heap.size = 0 := by rw [g2.ext.old _ (at_lt hbox)]; exact hz
    have G2 := (CG.frm0 (k0 := k) (k := k + 10 + 10 * i.toNat) h.high hF1).trans g2
    by_cases hc : x.client = i
    · have hd : downD i m.c (.inl x) = got { m.c with base := if x.done then applyL m.c.base x.e else m.c.base, n := m.c.n + 1 } ⟨x.seq, x.done⟩ := by
        show (if x.client = i then _ else _) = _
        rw [if_pos hc]
      rw [hd]
      refine runG09 ?_
      refine s_val (r_build rfl (bld_ansQ _ _ _)) wnt_none ?_
      refine s_callf (get_ret sp h2 ⟨x.seq, x.done⟩ hp ha) rfl wnt_none ?_
      rintro v w3 hg
      refine runG09 ?_
      exact end_0 rfl (CRes.trans G2 hg.cres)
    · have hd : downD i m.c (.inl x) = { m.c with base := if x.done then applyL m.c.base x.e else m.c.base, n := m.c.n + 1 } := by
        show (if x.client = i then _ else _) = _
        rw [if_neg hc]
      rw [hd]
      refine runG09 ?_
      exact end_0 rfl ⟨_, _, _, _, _, _, _, _, h2, G2⟩
set_option maxRecDepth 4000 in
set_option maxHeartbeats 1000000 in
theorem snapshot_ret (sp : TreeSpec PT) (h : PB PT w col k p t lv mb cb cap rest ms Q) {i : Int} {m : CM} (hi : 0 ≤ i) (hm : ms[i.toNat]? = some m) {tp : Nat} {n : Int} {av : Value} {l : List Nd} {L : List Ans} (hT : PT w tp l (fun b => col b = m.sq)) (hw : Wf l) (hR : Row w av 123 2 L.length (fl Ans.vals L)) (hRc : ∀ b, InV av b → col b = k + 10 + 10 * i.toNat + 7) (hnews : ∀ y ∈ m.c.down, ∃ x, y = Sum.inl x) (hp : m.c.pend.length < 1000) (ha : m.c.ans.length + L.length < 3900000000000) :
    Rets Tryz.prog 209 [.agg #[Ptr tp, I n, av], Ptr p, I i] w fun _ w' => CRes PT w w' col k (k + 10 + 10 * i.toNat) cb (fl CM.vals (ms.take i.toNat)) (fl CM.vals (ms.drop (i.toNat + 1)) ++ rest) (downD i m.c (.inr (l, n, L))) := by
  have hF0 : Frm0 w (w.alloc (cel [Ptr tp, I n, av] 266)) := Frm.of_alloc _ _
  have hbox := at_alloc_new w (cel [Ptr tp, I n, av] 266)
  have h1 := h.frm0 sp hF0
  have hh1 := h1.head
  have hpos := h.pos
  have hlt : i.toNat < ms.length := (List.getElem?_eq_some_iff.1 hm).1
  have hfew := h.few
  have hz : col w.heap.size = 0 := h.high _ (Nat.le_refl _)
  have hA1 := h1.at_ hm
  have hoff := h1.off hm
  have hoff' : 0 + i.toNat * 8 = (fl CM.vals (ms.take i.toNat)).length := by rw [hoff, Nat.zero_add]
  have hrow1 := hA1.row
  obtain ⟨aa, ac, rfl⟩ := hR.isSl
  refine rets_of Tryz.func209 (by kernel_rfl) rfl Tryz.ntmps209 (Nat.le_of_ble_eq_true rfl) ?_
  refine runG09 ?_
  rw [hoff']
  generalize w.alloc (cel [Ptr tp, I n, .slice aa L.length ac] 266) = w1 at *
  have hown := hA1.own
  have hk := hA1.hk
  have hq := hA1.m.q
  rw [show sub [Ptr tp, I n, Value.slice aa L.length ac] (0 + 0) 2 = [Ptr tp, I n] from rfl]
  refine s_skip (r_storeA (vs := [Ptr tp, I n]) (s_ok rfl) rfl rfl rfl (by intro u hu; simp at hu; rcases hu with rfl | rfl <;> rfl) hrow1 (by rw [Nat.add_zero]; have := clt (pre := fl CM.vals (ms.take i.toNat)) (post := fl CM.vals (ms.drop (i.toNat + 1)) ++ rest) m.t m.c.n m.pd m.an m.up m.dn m.c.joined m.c.told (k := 1) (by decide); omega)) wnt_none ?_
  rw [show put (fl CM.vals (ms.take i.toNat) ++ (cvals m.t m.c.n m.pd m.an m.c.joined m.c.told m.up m.dn ++ (fl CM.vals (ms.drop (i.toNat + 1)) ++ rest))) ((fl CM.vals (ms.take i.toNat)).length + 0) [Ptr tp, I n] = fl CM.vals (ms.take i.toNat) ++ (cvals tp n m.pd m.an m.c.joined m.c.told m.up m.dn ++ (fl CM.vals (ms.drop (i.toNat + 1)) ++ rest)) from mid_put [Ptr tp, I n] (cvals m.t m.c.n m.pd m.an m.c.joined m.c.told m.up m.dn) 0 (show 0 + 2 ≤ 8 by decide)]
  obtain ⟨h2, g2⟩ := hA1.swap sp (n := n) (sp.frm hT hF0 (fun _ _ h => h)) hw hnews
  have hbox2 := at_setB_ne (b := cb) (cel (fl CM.vals (ms.take i.toNat) ++ (cvals tp n m.pd m.an m.c.joined m.c.told m.up m.dn ++ (fl CM.vals (ms.drop (i.toNat + 1)) ++ rest))) 119) (fun e9 => by subst e9; omega) hbox
  have hR2 : Row (setB w1 cb (cel (fl CM.vals (ms.take i.toNat) ++ (cvals tp n m.pd m.an m.c.joined m.c.told m.up m.dn ++ (fl CM.vals (ms.drop (i.toNat + 1)) ++ rest))) 119)) (.slice aa L.length ac) 123 2 L.length (fl Ans.vals L) := (hR.frm hF0 (fun _ _ h => h)).frm (S := fun b => b = cb) ((Frm.refl (fun b => b = cb) w1).setB (b := cb) (.inl rfl) _) (fun b hb e9 => by have := hRc b hb; subst e9; omega)
  have G2 := (CG.frm0 (k0 := k) (k := k + 10 + 10 * i.toNat) h.high hF0).trans g2
  generalize setB w1 cb (cel (fl CM.vals (ms.take i.toNat) ++ (cvals tp n m.pd m.an m.c.joined m.c.told m.up m.dn ++ (fl CM.vals (ms.drop (i.toNat + 1)) ++ rest))) 119) = w2 at *
  generalize fl CM.vals (ms.take i.toNat) = pre at *
  generalize fl CM.vals (ms.drop (i.toNat + 1)) ++ rest = post at *
  refine runG09 ?_
  refine lp (fun env w' => ∃ env0, ∃ j : Nat, ∃ col' pd an, env = setL env0 [(6, .pointer (some ⟨cb, pre.length, none⟩)), (21, .slice aa L.length ac), (22, I L.length), (23, I j)] ∧ j ≤ L.length ∧ CAt PT w' col' k (k + 10 + 10 * i.toNat) cb pre post m.sq m.bq tp pd an m.up m.dn ((L.take j).foldl got { m.c with base := l, n := n }) ∧ Ext k w2 w' col col' ∧ Frm (fun b => col b = k + 10 + 10 * i.toNat + 2 ∨ col b = k + 10 + 10 * i.toNat + 3 ∨ col b = k + 4) w2 w') (fun env _ => L.length - cnt (env 23)) ?_ ?_
  · exact ⟨_, 0, col, m.pd, m.an, fixL ⟨rfl, rfl, rfl, rfl, trivial⟩, by omega, h2, Ext.refl h2.high, Frm.refl _ _⟩
  · rintro env w3 ⟨env0, j, col3, pd3, an3, rfl, hj, h3, e3, f3⟩
    by_cases hlt3 : j < L.length
    · obtain ⟨a, haj⟩ : ∃ a, L[j]? = some a := ⟨_, List.getElem?_eq_getElem hlt3⟩
      have hR3 := hR2.frm f3 (fun b hb h9 => by have := hRc b hb; omega)
      rcases hR3 with ⟨_, h0, _⟩ | ⟨ab, acap, arest, e9, hA3, hpl, hpr, hpc⟩
      · omega
      cases e9
      have hsA : sub (fl Ans.vals L ++ arest) (0 + (j : Int).toNat * 2) 2 = a.vals := by
        have := fl_sub ans_lenQ L j a haj [] arest
        rw [List.nil_append, List.length_nil] at this
        rw [show 0 + (j : Int).toNat * 2 = 0 + j * 2 by omega]
        exact this
      refine runG09 ?_
      refine s_val (r_loadV (vs := a.vals) (u_ok rfl) rfl (s_ok rfl) rfl hA3 (by rw [List.length_append, fl_len ans_lenQ]; omega) hsA) wnt_none ?_
      refine runG09 ?_
      refine s_skip (r_storeAll (vs := a.vals) (s_ok rfl) rfl rfl (ans_oneQ a) (at_alloc_new w3 _) rfl) wnt_none ?_
      have hv4 := at_setB (cel a.vals 123) (at_alloc_new w3 (cel [I 0, B false] 123))
      have f4 : Frm0 w3 (setB (w3.alloc (cel [I 0, B false] 123)) w3.heap.size (cel a.vals 123)) := (Frm.of_alloc w3 _).setB (.inr (Nat.le_refl _)) _
      generalize setB (w3.alloc (cel [I 0, B false] 123)) w3.heap.size (cel a.vals 123) = w4 at *
      refine runG09 ?_
      rw [show sub a.vals 0 2 = a.vals from rfl]
      have hfp := fold_got_len (L.take j) { m.c with base := l, n := n }
      have htl : (L.take j).length = j := by rw [List.length_take]; omega
      have hfp1 : ((L.take j).foldl got { m.c with base := l, n := n }).pend.length ≤ m.c.pend.length := hfp.1
      have hfp2 : ((L.take j).foldl got { m.c with base := l, n := n }).ans.length = m.c.ans.length + (L.take j).length := hfp.2
      refine s_callf (get_ret sp (h3.frm0 sp f4) a (by omega) (by omega)) rfl wnt_none ?_
      rintro v w5 ⟨col5, pd5, an5, h5, e5, f5⟩
      refine runG09 ?_
      refine ⟨_, rfl, ⟨_, j + 1, col5, pd5, an5, fixL ⟨rfl, rfl, rfl, rfl, trivial⟩, by omega, ?_, ?_, ?_⟩, by show L.length - ((j : Int) + 1).toNat < L.length - (j : Int).toNat; omega⟩
      · rw [take_snoc haj, List.foldl_append]
        exact h5
      · exact (e3.frm0 f4).trans e5 (f3.trans0 f4).size
      · refine (f3.trans0 f4).trans f5 (fun b hb => ?_)
        rcases Nat.lt_or_ge b w2.heap.size with h9 | h9
        · rw [e3.old b h9] at hb; exact .inl hb
        · exact .inr h9
    · have hje : j = L.length := by omega
      subst hje
      rw [List.take_length] at h3
      refine runG09 ?_
      exact end_0 rfl ⟨col3, _, _, _, _, _, _, _, h3, G2.trans ⟨e3, f3.mono (fun b hb => .inl (by omega))⟩⟩
end
end Go.Proofs.YtbicffldggcdhaaGreatDoor

namespace Go.Proofs.YtbicffldggcdhaaGreatDoor
open Go

section
variable {PT : PTy} (sp : TreeSpec PT) (cs : CloneSpec PT) {w w' : World} {col col' : Nat → Nat} {k p t : Nat} {lv lv' : Value} {mb cb cap : Nat} {rest : List Value} {ms : List CM} {Q Q' : PPar}
set_option maxRecDepth 4000 in
set_option maxHeartbeats 1000000 in
theorem coming_ret (sp : TreeSpec PT) (cs : CloneSpec PT) (h : PB PT w col k p t lv mb cb cap rest ms Q) {i : Int} {m : CM} (hi : 0 ≤ i) (hm : ms[i.toNat]? = some m) (n : Int) (hn : 0 ≤ n ∧ n ≤ Q.n ∧ Q.n < 1000000000000000000) (hl : Q.log.length < 1000) (hv : Q.vd.length < 1000000000000) (hd : m.c.down.length < 890000000000) :
    Rets Tryz.prog 170 [.agg #[I n], Ptr p, I i] w fun _ w' => ∃ L, ((Q.log.length : Int) < Q.n - n → L.Perm (lack Q.vd i n) ∧ L.Pairwise fun a b => a.seq ≤ b.seq) ∧ CRes PT w w' col k (k + 10 + 10 * i.toNat) cb (fl CM.vals (ms.take i.toNat)) (fl CM.vals (ms.drop (i.toNat + 1)) ++ rest) { m.c with told := true, down := m.c.down ++ behindQ Q n L } := by
  have hF0 : Frm0 w (w.alloc (cel [I n] 176)) := Frm.of_alloc _ _
  have hbox := at_alloc_new w (cel [I n] 176)
  have h1 := h.frm0 sp hF0
  have hh1 := h1.head
  have hpos := h.pos
  have hlt : i.toNat < ms.length := (List.getElem?_eq_some_iff.1 hm).1
  have hfew := h.few
  have hz : col w.heap.size = 0 := h.high _ (Nat.le_refl _)
  have hA1 := h1.at_ hm
  have hoff := h1.off hm
  have hoff' : 0 + i.toNat * 8 = (fl CM.vals (ms.take i.toNat)).length := by rw [hoff, Nat.zero_add]
  have hrow1 := hA1.row
  refine rets_of Tryz.func170 (by kernel_rfl) rfl Tryz.ntmps170 (Nat.le_of_ble_eq_true rfl) ?_
  refine runG09 ?_
  rw [hoff']
  generalize w.alloc (cel [I n] 176) = w1 at *
  have hown := hA1.own
  have hk := hA1.hk
  have hq := hA1.m.q
  have hpo := h.own
  obtain ⟨h2, g2⟩ := hA1.remark sp (jn := m.c.joined) (tl := true) (n := m.c.n)
  have hB2 := h1.client sp (m' := ⟨m.t, m.pd, m.an, m.up, m.dn, m.bq, m.sq, { m.c with told := true }⟩) hm g2 h2
  generalize fl CM.vals (ms.take i.toNat) = pre at *
  generalize fl CM.vals (ms.drop (i.toNat + 1)) ++ rest = post at *
  refine s_skip (r_store_b (s_ok rfl) rfl rfl hrow1 (clt _ _ _ _ _ _ _ _ (by decide))) wnt_none ?_
  rw [set_tl]
  have hbox2 := at_setB_ne (b := cb) (cel (pre ++ (cvals m.t m.c.n m.pd m.an m.c.joined true m.up m.dn ++ post)) 119) (fun e9 => by subst e9; omega) hbox
  generalize setB w1 cb (cel (pre ++ (cvals m.t m.c.n m.pd m.an m.c.joined true m.up m.dn ++ post)) 119) = w2 at *
  have hh2 := hB2.head
  rw [List.length_set] at hh2
  have hrow2 : At w2 cb (cel (pre ++ (cvals m.t m.c.n m.pd m.an m.c.joined true m.up m.dn ++ post)) 119) := h2.row
  have hcd : ∀ b, InV m.dn b → col b = k + 10 + 10 * i.toNat + 5 := h2.m.cdown
  have hds0 : DsAt PT w2 (fun b => col b = m.sq) (fun b => col b = k + 10 + 10 * i.toNat + 7) m.dn m.c.down := h2.m.down
  obtain ⟨da, dc, hdn⟩ := hds0.isSl
  rw [hdn] at hrow2 hcd hds0
  have hnd : ¬ InV (.slice da m.c.down.length dc) cb := fun h9 => by have := hcd cb h9; omega
  have hnb : ¬ InV (.slice da m.c.down.length dc) w.heap.size := fun h9 => by have := hcd _ h9; omega
  have hnp : ¬ InV (.slice da m.c.down.length dc) p := fun h9 => by have := hcd _ h9; omega
  refine runG09 ?_
  refine w_drawn ((0, false) :: (1, false) :: (2, false) :: (3, false) :: (4, false) :: (5, false) :: (6, false) :: (7, false) :: (8, false) :: (9, false) :: (10, false) :: (11, true) :: (12, true) :: (13, false) :: (14, false) :: []) [15] (fun wq => Frm (InV (.slice da m.c.down.length dc)) w2 wq) mixed (by kernel_rfl) ?_ ?_
  · exact Frm.of_drew _
  · refine runG09 ?_
    have hD2 := hB2.frm0 sp (Frm.of_drew (S := fun _ => False) w2)
    refine x_callf rfl (behind_ret sp cs hD2 i n hn hl (fun _ w' f => lacking_ret (hD2.frm0 sp f) i n hv)) rfl wnt_none ?_
    rintro v w3 ⟨L, hL, z, hz1, hds, hvz, f3⟩
    have f23 : Frm0 w2 w3 := (Frm.of_drew w2).trans0 f3
    refine ⟨f23.mono (fun _ h => h.elim), ?_⟩
    obtain ⟨col4, h4, g4, c1, c2⟩ := h2.adopt sp f23 hz1
    have hbl : ∀ L, (behindQ Q n L).length < 1000 := fun L => by
      unfold behindQ
      split
      · exact (by decide : (1 : Nat) < 1000)
      · rw [List.length_map, List.length_drop]; omega
    have hds4 : DsAt PT w3 (fun b => col4 b = m.sq) (fun b => col4 b = k + 10 + 10 * i.toNat + 7) v (behindQ Q n L) := hds.col sp (fun b hl hb => c1 b hb.1 hb.2 hl) (fun b hl hb => c2 b hb hl)
    have hdn4 : DsAt PT w3 (fun b => col4 b = m.sq) (fun b => col4 b = k + 10 + 10 * i.toNat + 7) (.slice da m.c.down.length dc) m.c.down := by
      have := h4.m.down
      rw [hdn] at this
      exact this
    have hcd4 : ∀ b, InV (.slice da m.c.down.length dc) b → col4 b = k + 10 + 10 * i.toNat + 5 := by
      have := h4.m.cdown
      rw [hdn] at this
      exact this
    obtain ⟨v5, w5, e5, r5, f5, n5⟩ := append_ds sp (ty := 115) hdn4 hds4 (fun b hb h9 => by have := hcd4 b h9; omega) (fun b hb h9 => by have := hcd4 b h9; omega) (by have := hbl L; omega)
    obtain ⟨va, vc, rfl⟩ := hds.isSl
    have f25 : Frm (InV (.slice da m.c.down.length dc)) w2 w5 := (f23.mono (fun _ h => h.elim)).trans f5 (fun b hb => .inl hb)
    refine x_val rfl (r_app rfl rfl e5) wnt_none f25 ?_
    have hrow5 := f25.at hnd hrow2
    rw [hdn] at h4
    obtain ⟨h6, g6⟩ := h4.redown sp f5 r5 n5
    obtain ⟨xa, xc, rfl⟩ := r5.isSl
    refine runG09 ?_
    refine y_skip rfl (r_store_s (s_ok rfl) rfl rfl hrow5 (by rw [Nat.add_assoc]; exact clt _ _ _ _ _ _ _ _ (by decide))) wnt_none ?_
    rw [set_dn]
    refine runG09 ?_
    exact end_0 rfl ⟨L, hL, _, _, _, _, _, _, _, _, h6, (((CG.frm0 h.high hF0).trans g2).trans g4).trans g6⟩
end
end Go.Proofs.YtbicffldggcdhaaGreatDoor
