/-
  The program's tree: remove, do, Apply, walked; and the contracts of package tree.
-/
import Derived.Test.YtkediklhiaaijaaDoorWTree5
namespace Go.Proofs.YtkediklhiaaijaaDoor
open Go
theorem runWTree60 {G K : Prop} (k : K) (h : Wrap K → G := by intro h; (repeat (first | (with_reducible first | refine wp_seq ?_ | refine w_reg ?_ | refine s_nil ?_ | refine s_nilQ ?_ | refine wp_block ?_ | refine q_then ?_ | refine q_blk ?_ | refine q_then_ret ?_ | refine q_blk_ret ?_ | refine q_then_exit ?_ | refine q_blk_exit ?_ | refine wp_skip ?_ | refine wp_ret ?_ | refine wp_exit ?_) | ((with_reducible refine q_blk_other ?_ ?_); exact rfl) | ((with_reducible apply c_true); exact rfl; (with_reducible exact rfl)) | ((with_reducible apply c_false); exact rfl; (with_reducible exact rfl)) | ((with_reducible apply s_val); (first | ((with_reducible apply r_boxA); exact rfl) | ((with_reducible apply r_box1); exact rfl; exact rfl) | ((with_reducible apply r_assign_if); exact rfl) | ((with_reducible apply r_assign_ni); exact rfl) | ((with_reducible apply r_fld); exact fa_ok rfl; exact rfl) | ((with_reducible apply r_load); exact u_ok rfl; exact rfl; exact rfl; (first | (with_reducible assumption) | assumption | exact at_alloc_new _ _ | (repeat (first | assumption | exact at_alloc_new _ _ | refine at_drew ?_ | refine at_alloc _ ?_))); exact rfl) | ((with_reducible apply r_eql_t); exact rfl; exact rfl; omega) | ((with_reducible apply r_eql_f); exact rfl; exact rfl; omega) | ((with_reducible apply r_eql); exact rfl; exact rfl) | ((with_reducible apply r_assign_b); exact rfl) | ((with_reducible apply r_move_p); exact rfl) | ((with_reducible apply r_not_t); exact rfl; (with_reducible exact rfl)) | ((with_reducible apply r_not_f); exact rfl; (with_reducible exact rfl)) | ((with_reducible apply r_not); exact rfl) | ((with_reducible apply r_len); exact u_ok rfl; exact rfl) | ((with_reducible apply r_move_i); exact rfl) | ((with_reducible apply r_lss_t); exact rfl; exact rfl; omega) | ((with_reducible apply r_lss_f); exact rfl; exact rfl; omega) | ((with_reducible apply r_lss); exact rfl; exact rfl) | ((with_reducible apply r_index); exact u_ok rfl; exact s_ok rfl; exact rfl; exact rfl; omega; omega) | ((with_reducible apply r_indexarr); exact u_ok rfl; exact s_ok rfl; exact rfl; exact rfl; omega; omega) | ((with_reducible apply r_assign_i); exact rfl) | ((with_reducible apply r_nilCheck); exact rfl) | ((with_reducible apply r_add); exact rfl; exact rfl; omega; omega)); (with_reducible exact wnt_none)))); exact h.out) : G := h ⟨k⟩

theorem gone_step {m : List Nd} {ids : List Int} {k : Nat} {i : Int} (h : ids[k]? = some i) :
    (m.filter fun x => !(ids.take k).contains x.id).filter (fun x => !decide (x.id = i)) = m.filter fun x => !(ids.take (k + 1)).contains x.id := by
  rw [List.filter_filter]
  refine List.filter_congr (fun x _ => ?_)
  rw [List.take_add_one, h]
  simp [Bool.and_comm]

set_option maxHeartbeats 1000000 in
theorem remove_ret {w : World} {t mb : Nat} {es : Array MapEntry} {cl : Nat} {m l : List Nd} {ea : List Addr} (h : TreeAt w t mb es cl m) (hp : m.Perm l) (hw : Wf l) (hE : Errs w ea) (e : Ed) (hok : wrongB e = false) (k : e.kind = 3) :
    Rets Tryd.prog 65 [Ptr t, EdV e] w fun v w' => DoneL ea w w' t mb l e v := by
  have htm := at_lt h.head
  have hmm := at_lt h.row
  have hF0 : Frm0 w (w.alloc (cel e.vals 43)) := Frm.of_alloc _ _
  by_cases hz : e.node = 0
  · obtain ⟨ad, ty, kk, ha, hA⟩ := err_at (hE.frm0 hF0) 1 1 rfl
    refine rets_of Tryd.func65 (by kernel_rfl) rfl Tryd.ntmps65 (Nat.le_of_ble_eq_true rfl) ?_
    refine runWTree60 ?_
    exact ret_if rfl rfl (done_no h hp hF0 (rf23_root hok (.inr k) hz) ha)
  · refine rets_of Tryd.func65 (by kernel_rfl) rfl Tryd.ntmps65 (Nat.le_of_ble_eq_true rfl) ?_
    refine runWTree60 ?_
    refine s_callf (has_ret (h.frm0 hF0) _) rfl wnt_none ?_
    rintro v w1 ⟨rfl, hf1⟩
    rw [there_perm hp hw.nodup]
    have hbox1 : At w1 w.heap.size (cel e.vals 43) := hf1.at0 (at_alloc_new _ _)
    have hF1 : Frm0 w w1 := hF0.trans0 hf1
    clear hf1
    have hs1 := hF1.size
    cases a : there l e.node
    · (try simp only [Bool.not_false]); (try simp only [Bool.not_true])
      obtain ⟨ad, ty, kk, ha, hA⟩ := err_at (hE.frm0 hF1) 2 2 rfl
      refine runWTree60 ?_
      exact ret_if rfl rfl (done_no h hp hF1 (rf_node hok (by omega) (.inr hz) a) ha)
    · (try simp only [Bool.not_false]); (try simp only [Bool.not_true])
      refine runWTree60 ?_
      refine s_callf (branch_ret (h.frm0 hF1) hp hw _) rfl wnt_none ?_
      rintro v w2 ⟨av, c, ids, rfl, hrow, hown, hin, hf2, hlen⟩
      have hF2 : Frm0 w w2 := hF1.trans0 hf2
      refine runWTree60 ?_
      refine lp (fun env w' => ∃ env0, ∃ (j : Nat) (es' : Array MapEntry), env = setL env0 [(0, Ptr t), (22, .slice av ids.length c), (23, I ids.length), (24, I j)] ∧ j ≤ ids.length ∧ TreeAt w' t mb es' cl (m.filter fun x => !(ids.take j).contains x.id) ∧ Frm (fun b => b = mb) w2 w') (fun env _ => ids.length - cnt (env 24)) ?_ ?_
      · refine ⟨_, 0, es, fixL ⟨rfl, rfl, rfl, rfl, trivial⟩, Nat.zero_le _, ?_, Frm.refl _ _⟩
        rw [List.filter_eq_self.2 (fun x _ => by simp)]
        exact h.frm0 hF2
      · rintro env w3 ⟨env0, j, es3, rfl, hj, h3, hF3⟩
        by_cases hlt : j < ids.length
        · obtain ⟨i, hi⟩ : ∃ i, ids[j]? = some i := ⟨_, List.getElem?_eq_getElem hlt⟩
          rcases hrow with ⟨hv, _, _⟩ | ⟨b, cap, rest, hv, hA, _, hroom, hcap⟩
          · injection hv with _ h8 _
            omega
          · injection hv with h7 h8 h9
            subst h7 h9
            have hb : w1.heap.size ≤ b := hown b ⟨0, _, _, rfl⟩
            have hA3 := hF3.at (show ¬ b = mb by omega) hA
            clear hA
            have hg : (ids.map I ++ rest)[0 + (j : Int).toNat * 1]? = some (I i) := by
              rw [show 0 + (j : Int).toNat * 1 = j by omega, List.getElem?_append_left (by simpa using hlt), List.getElem?_map, hi]
              rfl
            have h3h := h3.head
            have h3r := h3.row
            obtain ⟨es4, hd, hE4⟩ := del_run (P := Tryd.prog) (ty := 76) (ty2 := 0) (tys := 3) (id := i) (u_ok rfl) (u_ok rfl) h3r h3.ents ((List.filter_sublist.map _).nodup (perm_nodup hp hw.nodup))
            refine runWTree60 ?_
            refine s_val (r_load (u_ok rfl) rfl rfl hA3 hg) wnt_none ?_
            refine runWTree60 ?_
            refine s_val0 (r_del rfl rfl hd) wnt_none ?_
            refine runWTree60 ?_
            refine ⟨_, rfl, ⟨_, j + 1, es4, fixL ⟨rfl, rfl, rfl, rfl, trivial⟩, by omega, ⟨at_setB_ne _ h3.apart.symm h3h, at_setB _ h3r, by rw [← gone_step hi]; exact hE4⟩, hF3.setB (b := mb) (.inl rfl) _⟩, ?_⟩
            show ids.length - ((j : Int) + 1).toNat < ids.length - (j : Int).toNat
            omega
        · refine runWTree60 ?_
          have hr0 := rf34_ok hok (.inl k) (.inr hz) a
          refine ret_ni rfl rfl ⟨.inl ⟨hr0, rfl⟩, ⟨es3, cl, _, h3, ?_⟩, (hF2.mono (fun _ h => h.elim)).trans hF3 (fun _ h => .inl h)⟩
          rw [applyL, if_neg (by rw [hr0]; simp), if_neg (by omega), if_neg (by omega), if_neg (by omega), show j = ids.length by omega, List.take_length]
          have e1 : (m.filter fun x => !ids.contains x.id) = m.filter fun x => !below l x.id e.node := by
            refine List.filter_congr (fun x hx => ?_)
            have := hin x (hp.mem_iff.1 hx)
            cases hb : below l x.id e.node with
            | true => simp [this.2 hb]
            | false =>
              have : x.id ∉ ids := fun h => by rw [this.1 h] at hb; cases hb
              simp [this]
          rw [e1]
          exact hp.filter _
end Go.Proofs.YtkediklhiaaijaaDoor
