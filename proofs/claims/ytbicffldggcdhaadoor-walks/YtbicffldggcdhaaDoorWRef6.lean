/-
  The document's tree: Apply, walked.
-/
import Derived.Test.YtbicffldggcdhaaDoorWRef5
namespace Go.Proofs.YtbicffldggcdhaaDoor
open Go
theorem runWRef60 {G K : Prop} (k : K) (h : Wrap K → G := by intro h; (repeat (first | (with_reducible first | refine wpIn_seq ?_ | refine w_reg ?_ | refine s_nil ?_ | refine s_nilQ ?_ | refine wpIn_block ?_ | refine q_then ?_ | refine q_blk ?_ | refine q_then_ret ?_ | refine q_blk_ret ?_ | refine q_then_exit ?_ | refine q_blk_exit ?_ | refine wpIn_skip ?_ | refine wpIn_ret ?_ | refine wpIn_exit ?_ | refine y_nil ?_ | refine y_nilQ ?_ | refine x_late ?_) | ((with_reducible refine q_blk_other ?_ ?_); exact rfl) | ((with_reducible apply c_true); exact rfl; (with_reducible exact rfl)) | ((with_reducible apply c_false); exact rfl; (with_reducible exact rfl)) | ((first | with_reducible apply s_val | ((with_reducible apply y_val); exact rfl) | ((with_reducible apply x_q); exact rfl; intro wq hq)); (first | ((with_reducible apply r_boxA); exact rfl) | ((with_reducible apply r_box1); exact rfl; exact rfl) | ((with_reducible apply r_assign_i); exact rfl) | ((with_reducible apply r_move_p); exact rfl) | ((with_reducible apply r_loadA); exact u_ok rfl; exact rfl; exact s_ok rfl; exact rfl; (first | exact Frm.at0 hq (by assumption) | exact Frm.at hq (by assumption) (by assumption) | (first | (with_reducible assumption) | assumption | exact at_alloc_new _ _ | (repeat (first | assumption | exact at_alloc_new _ _ | refine at_drew ?_ | refine at_alloc _ ?_)))); exact Nat.le_of_ble_eq_true rfl) | ((with_reducible apply r_move_i); exact rfl) | ((with_reducible apply r_neq_t); exact rfl; exact rfl; omega) | ((with_reducible apply r_neq_f); exact rfl; exact rfl; omega) | ((with_reducible apply r_neq); exact rfl; exact rfl) | ((with_reducible apply r_fld); exact fa_ok rfl; exact rfl) | ((with_reducible apply r_load); exact u_ok rfl; exact rfl; exact rfl; (first | exact Frm.at0 hq (by assumption) | exact Frm.at hq (by assumption) (by assumption) | (first | (with_reducible assumption) | assumption | exact at_alloc_new _ _ | (repeat (first | assumption | exact at_alloc_new _ _ | refine at_drew ?_ | refine at_alloc _ ?_)))); exact rfl) | ((with_reducible apply r_eql_t); exact rfl; exact rfl; omega) | ((with_reducible apply r_eql_f); exact rfl; exact rfl; omega) | ((with_reducible apply r_eql); exact rfl; exact rfl) | ((with_reducible apply r_assign_b); exact rfl) | ((with_reducible apply r_nilCheck); exact rfl) | ((with_reducible apply r_index); exact u_ok rfl; exact s_ok rfl; exact rfl; exact rfl; omega; omega) | ((with_reducible apply r_indexarr); exact u_ok rfl; exact s_ok rfl; exact rfl; exact rfl; omega; omega) | ((with_reducible apply r_assign_s); exact rfl) | ((with_reducible apply r_len); exact u_ok rfl; exact rfl) | ((with_reducible apply r_lss_t); exact rfl; exact rfl; omega) | ((with_reducible apply r_lss_f); exact rfl; exact rfl; omega) | ((with_reducible apply r_lss); exact rfl; exact rfl) | ((with_reducible apply r_move_b); exact rfl) | ((with_reducible apply r_not_t); exact rfl; (with_reducible exact rfl)) | ((with_reducible apply r_not_f); exact rfl; (with_reducible exact rfl)) | ((with_reducible apply r_not); exact rfl) | ((with_reducible apply r_move_s); exact rfl) | ((with_reducible apply r_add); exact rfl; exact rfl; omega; omega)); (with_reducible exact wnt_none)))); exact h.out) : G := h ⟨k⟩

/-- What Apply leaves: the tree at the same pointer, its row the old one or a new one. -/
def RefTo (w w' : World) (r b : Nat) (l : List Nd) : Prop := ∃ b' cap' rest', RefT w' r b' cap' rest' l ∧ (b' = b ∨ w.heap.size ≤ b')
abbrev RFrm (r b : Nat) (w w' : World) : Prop := Frm (fun x => x = r ∨ x = b) w w'

theorem in_of {n hi : Int} (h : (!decide (0 ≤ n ∧ n ≤ hi)) = false) : 0 ≤ n ∧ n ≤ hi := by simpa using h
theorem prop_of {e : Ed} (h : wrongB e = false) (k : e.kind = 4) : 0 ≤ e.prop ∧ e.prop ≤ 3 := by
  rw [wrong_4 e k] at h
  simp only [Bool.or_eq_false_iff] at h
  exact in_of h.2.1
theorem node_of {e : Ed} (h : wrongB e = false) : 0 ≤ e.node ∧ e.node ≤ 1000 := by
  rcases kinds_of h with k | k | k | k
  · rw [wrong_12 e (.inl k)] at h
    simp only [Bool.or_eq_false_iff] at h
    exact in_of h.1
  · rw [wrong_12 e (.inr k)] at h
    simp only [Bool.or_eq_false_iff] at h
    exact in_of h.1
  · rw [wrong_3 e k] at h
    exact in_of h
  · rw [wrong_4 e k] at h
    simp only [Bool.or_eq_false_iff] at h
    exact in_of h.1
theorem rf0_wrong {l : List Nd} {e : Ed} (h : refused l e = 0) : wrongB e = false := by
  cases hw : wrongB e with
  | false => rfl
  | true => rw [rf_wrong hw] at h; cases h
theorem rf0_node {l : List Nd} {e : Ed} (h : refused l e = 0) (k : e.kind ≠ 1) : there l e.node = true ∧ (e.kind = 4 ∨ e.node ≠ 0) := by
  have hw := rf0_wrong h
  have hk := kinds_of hw
  by_cases z : e.kind = 4 ∨ e.node ≠ 0
  · cases a : there l e.node with
    | true => exact ⟨rfl, z⟩
    | false => rw [rf_node hw k z a] at h; cases h
  · rw [rf23_root hw (by omega) (by omega)] at h; cases h

set_option maxHeartbeats 1000000 in
theorem RApply_ret {w : World} {r b cap : Nat} {rest : List Value} {l : List Nd} (h : RefT w r b cap rest l) (hl : l.length < 1000000) (hc : Clo l) (hn : (l.map (·.id)).Nodup) (hr0 : ∃ x t, l = x :: t ∧ x.id = 0) (e : Ed) :
    Rets Tryd.prog 9 [Ptr r, EdV e] w fun v w' => v = I (refused l e) ∧ RefTo w w' r b (applyL l e) ∧ RFrm r b w w' := by
  have hrw := at_lt h.head
  have hbw := at_lt h.row
  have hroom := h.room
  have hap := h.apart
  refine rets_of Tryd.func9 (by kernel_rfl) rfl Tryd.ntmps9 (Nat.le_of_ble_eq_true rfl) ?_
  refine runWRef60 ?_
  refine s_callf (refused_ret (h.frm0 (Frm.of_alloc _ _)) hl hc e) rfl wnt_none ?_
  rintro v w1 ⟨rfl, hf1⟩
  have hbox : At w1 w.heap.size (cel e.vals 34) := hf1.at0 (at_alloc_new _ _)
  have hF : Frm0 w w1 := (Frm.of_alloc _ _).trans0 hf1
  have h1 := h.frm0 hF
  have hh := h1.head
  have hrow := h1.row
  have hsz := hF.size
  by_cases hz : refused l e = 0
  · have hz' : ((refused l e : Nat) : Int) = 0 := by omega
    have hw := rf0_wrong hz
    rcases kinds_of hw with k | k | k | k
    · have ha : applyL l e = l ++ [⟨e.node, e.parent, e.key, 0, 0, 0, 0⟩] := by rw [applyL, if_neg (by simpa using hz), if_pos k]
      have hrb : ¬ r = b := hap
      have hxb : ¬ w.heap.size = b := by omega
      refine runWRef60 ?_
      refine w_drawn ((0, false) :: (1, false) :: (2, false) :: (3, false) :: (4, false) :: (5, false) :: (6, false) :: (7, false) :: (8, false) :: (9, false) :: (10, false) :: (11, false) :: (12, true) :: (13, true) :: (14, false) :: (15, false) :: []) [16] (fun wq => Frm (fun x => x = b) w1 wq) mixed (by kernel_rfl) ?_ ?_
      · exact Frm.of_drew _
      · refine runWRef60 ?_
        refine x_q rfl (fun wq hq => r_build rfl (bld_node _ _ _ wq)) wnt_none ?_
        refine x_val rfl (r_bs rfl (bs_node _ _)) wnt_none ((Frm.of_drew w1).alloc _) ?_
        obtain ⟨v2, w2, e2, r2, f2, n2⟩ := append_node (ty := 41) (cx := 1) (m := 1) (ox := 0) (h1.frm0 (((Frm.refl _ w1).drew).alloc (cel (Nd.vals ⟨e.node, e.parent, e.key, 0, 0, 0, 0⟩) 40))).toRow (at_alloc_new w1.drew (cel (Nd.vals ⟨e.node, e.parent, e.key, 0, 0, 0, 0⟩) 40)) (by simp [Nd.vals]) (by intro u hu; exact flat_one [⟨e.node, e.parent, e.key, 0, 0, 0, 0⟩] u (by simpa [flat, sub, Nd.vals] using hu)) (by omega)
        have f2' : Frm (fun x => x = b) w1 w2 := ((Frm.of_drew w1).alloc _).trans f2 (fun x hx => by obtain ⟨_, _, _, hv⟩ := hx; cases hv; exact .inl rfl)
        refine x_val rfl (r_app rfl rfl e2) wnt_none f2' ?_
        rcases r2 with ⟨_, hz2, _⟩ | ⟨b2, cap2, rest2, rfl, hA2, hl2, hr2, hc2⟩
        · omega
        · have hb2 : b2 = b ∨ w1.heap.size ≤ b2 := by
            rcases n2 b2 ⟨_, _, _, rfl⟩ with ⟨_, _, _, hv⟩ | hv
            · cases hv; exact .inl rfl
            · have h5 : w1.heap.size + 1 ≤ b2 := by simpa using hv
              exact .inr (by omega)
          have hh2 := f2'.at hrb hh
          refine runWRef60 ?_
          refine y_skip rfl (r_store_s (s_ok rfl) rfl rfl hh2 (by simp)) wnt_none ?_
          refine runWRef60 ?_
          refine ret_i rfl rfl ⟨by rw [hz]; rfl, ⟨b2, cap2, rest2, ⟨?_, ?_, ?_, ?_⟩, ?_⟩, ?_⟩
          · rw [ha, List.length_append]
            exact at_setB _ hh2
          · rw [ha, flat_append]
            refine at_setB_ne _ (by omega) ?_
            exact hA2
          · rw [ha, List.length_append]
            exact hr2
          · omega
          · omega
          · exact ((hF.mono (fun _ h => h.elim)).trans f2' (fun x hx => .inl (.inr hx))).setB (.inl (.inl rfl)) _
    · have ha : applyL l e = upAt e.node (fun x => { x with par := e.parent, key := e.key }) l := by rw [applyL, if_neg (by simpa using hz), if_neg (by omega), if_pos k]
      obtain ⟨ht, _⟩ := rf0_node hz (by omega)
      obtain ⟨i, x, hx, hxi, hat, hfnd⟩ := there_spec ht
      have hil := (List.getElem?_eq_some_iff.1 hx).1
      have hlen : l.length * 7 ≤ (flat l ++ rest).length := by rw [List.length_append, flat_length]; omega
      refine runWRef60 ?_
      refine s_callf (At_ret h1 hl _) rfl wnt_none ?_
      rintro v w2 ⟨rfl, rfl⟩
      rw [hat]
      refine runWRef60 ?_
      refine w_drawn [(0, false), (1, false), (2, false), (3, false), (4, false), (5, false), (6, false), (7, false), (8, false)] [9] (fun wq => Frm0 w1 wq) mixed (by kernel_rfl) ?_ ?_
      · exact Frm.of_drew _
      · refine runWRef60 ?_
        refine y_skip rfl (r_store_i (s_ok rfl) rfl rfl (at_drew hrow) (by omega)) wnt_none ?_
        have e1 : (flat l ++ rest).set (0 + (i : Int).toNat * 7 + 1) (I e.parent) = flat (l.set i { x with par := e.parent }) ++ rest := by
          rw [show 0 + (i : Int).toNat * 7 + 1 = i * 7 + 1 by omega]
          exact flat_set l i x _ rest 1 _ hx (by decide) rfl
        rw [e1]
        have hh3 := at_setB_ne (cel (flat (l.set i { x with par := e.parent }) ++ rest) 40) hap.symm (at_drew hh)
        have hrow3 := at_setB (cel (flat (l.set i { x with par := e.parent }) ++ rest) 40) (at_drew hrow)
        have hbox3 := at_setB_ne (cel (flat (l.set i { x with par := e.parent }) ++ rest) 40) (show b ≠ w.heap.size by omega) (at_drew hbox)
        have hF3 : RFrm r b w (setB w1.drew b (cel (flat (l.set i { x with par := e.parent }) ++ rest) 40)) := ((hF.mono (fun _ h => h.elim)).drew).setB (.inl (.inr rfl)) _
        generalize setB w1.drew b (cel (flat (l.set i { x with par := e.parent }) ++ rest) 40) = w3 at *
        refine runWRef60 ?_
        refine w_drawn [(0, false), (1, false), (2, false), (3, false), (4, false), (5, false), (6, false), (7, false), (8, false)] [9] (fun wq => Frm0 w3 wq) mixed (by kernel_rfl) ?_ ?_
        · exact Frm.of_drew _
        · refine runWRef60 ?_
          refine y_skip rfl (r_store_i (s_ok rfl) rfl rfl (at_drew hrow3) (by rw [List.length_append, flat_length, List.length_set]; omega)) wnt_none ?_
          have e2 : (flat (l.set i { x with par := e.parent }) ++ rest).set (0 + (i : Int).toNat * 7 + 2) (I e.key) = flat (upAt e.node (fun x => { x with par := e.parent, key := e.key }) l) ++ rest := by
            rw [show 0 + (i : Int).toNat * 7 + 2 = i * 7 + 2 by omega, upAt_set hn hx hxi]
            rw [flat_set (l.set i { x with par := e.parent }) i { x with par := e.parent } { x with par := e.parent, key := e.key } rest 2 _ (by simp [hil]) (by decide) rfl, List.set_set]
          rw [e2]
          refine runWRef60 ?_
          refine ret_i rfl rfl ⟨by rw [hz]; rfl, ⟨b, cap, rest, ⟨?_, ?_, ?_, hap⟩, .inl rfl⟩, ?_⟩
          · rw [ha, show (upAt e.node (fun x => { x with par := e.parent, key := e.key }) l).length = l.length by simp [upAt]]
            exact at_setB_ne _ hap.symm (at_drew hh3)
          · rw [ha]
            exact at_setB _ (at_drew hrow3)
          · rw [ha, show (upAt e.node (fun x => { x with par := e.parent, key := e.key }) l).length = l.length by simp [upAt]]
            exact hroom
          · exact (hF3.drew).setB (.inl (.inr rfl)) _
    · have ha : applyL l e = l.filter fun x => !below l x.id e.node := by rw [applyL, if_neg (by simpa using hz), if_neg (by omega), if_neg (by omega), if_neg (by omega)]
      obtain ⟨ht, hnz⟩ := rf0_node hz (by omega)
      have hnz' : e.node ≠ 0 := by omega
      have hlen : l.length * 7 ≤ (flat l ++ rest).length := by rw [List.length_append, flat_length]; omega
      refine runWRef60 ?_
      refine lp (fun env w' => Frm0 w1 w' ∧ ∃ env0 av nv cv, ∃ i : Nat, env = setL env0 [(0, Ptr r), (3, Ptr w.heap.size), (8, .slice av nv cv), (9, I i)] ∧ i ≤ l.length ∧ Row w' (.slice av nv cv) 40 7 ((l.take i).filter fun x => !below l x.id e.node).length (flat ((l.take i).filter fun x => !below l x.id e.node)) ∧ ∀ b', InV (.slice av nv cv) b' → w1.heap.size ≤ b') (fun env _ => l.length - cnt (env 9)) ?_ ?_
      · exact ⟨Frm.refl _ _, _, none, 0, 0, 0, fixL ⟨rfl, rfl, rfl, rfl, trivial⟩, by omega, .inl ⟨rfl, by simp, by simp [flat]⟩, fun b' hb => by obtain ⟨_, _, _, hv⟩ := hb; cases hv⟩
      · rintro env w' ⟨hf, env0, av, nv, cv, i, rfl, hi, hR, hfr⟩
        have hh' := hf.at0 hh
        have hrow' := hf.at0 hrow
        have hbox' := hf.at0 hbox
        by_cases hlt : i < l.length
        · obtain ⟨x, hx⟩ : ∃ x, l[i]? = some x := ⟨l[i], List.getElem?_eq_getElem hlt⟩
          have hxm : there l x.id = true := there_mem.2 ⟨x, List.mem_of_getElem? hx, rfl⟩
          have htk : l.take (i + 1) = l.take i ++ [x] := by rw [List.take_add_one, hx]; rfl
          refine runWRef60 ?_
          refine w_drawn [(0, false), (1, false), (2, false), (3, false), (4, false), (5, false), (6, false), (7, false), (8, false), (9, false), (10, false)] [11, 12] (fun wq => Frm0 w' wq) mixed (by kernel_rfl) ?_ ?_
          · exact Frm.of_drew _
          · refine runWRef60 ?_
            refine x_q rfl (fun wq hq => r_load (u_ok rfl) rfl rfl (hq.at0 hrow') (node_get hx 0 (I x.id) _ (by simp) (by decide) rfl)) wnt_none ?_
            refine runWRef60 ?_
            refine y_callf rfl (below_ret ((h1.frm0 hf).frm0 (Frm.of_drew _)) hl hc _ _ hxm) rfl wnt_none ?_
            rintro v2 w2 ⟨rfl, hf2⟩
            have hF2 : Frm0 w' w2 := (Frm.of_drew w').trans0 hf2
            have hf02 : Frm0 w1 w2 := hf.trans0 hF2
            have hh2 := hF2.at0 hh'
            have hrow2 := hF2.at0 hrow'
            have hR2 : Row w2 (.slice av nv cv) 40 7 ((l.take i).filter fun x => !below l x.id e.node).length (flat ((l.take i).filter fun x => !below l x.id e.node)) := by
              rcases hR with hR | ⟨b3, c3, rs3, e3, hA3, q3⟩
              · exact .inl hR
              · exact .inr ⟨b3, c3, rs3, e3, hF2.at0 hA3, q3⟩
            cases hbl : below l x.id e.node with
            | true =>
              have hfil : (l.take (i + 1)).filter (fun x => !below l x.id e.node) = (l.take i).filter fun x => !below l x.id e.node := by rw [htk, List.filter_append]; simp [hbl]
              refine runWRef60 ?_
              exact ⟨_, rfl, ⟨hf02, _, av, nv, cv, i + 1, fixL ⟨rfl, rfl, rfl, rfl, trivial⟩, by omega, by rw [hfil]; exact hR2, hfr⟩, by show l.length - ((i : Int) + 1).toNat < l.length - (i : Int).toNat; omega⟩
            | false =>
              have hfil : (l.take (i + 1)).filter (fun x => !below l x.id e.node) = ((l.take i).filter fun x => !below l x.id e.node) ++ [x] := by rw [htk, List.filter_append]; simp [hbl]
              refine runWRef60 ?_
              refine s_val (r_loadV (vs := x.vals) (u_ok rfl) rfl (s_ok rfl) rfl hrow2 (by omega) (by rw [show 0 + (i : Int).toNat * 7 = i * 7 by omega]; exact flat_sub l i x hx rest)) wnt_none ?_
              refine s_val (r_bs rfl (bs_node _ _)) wnt_none ?_
              have hR3 : Row (w2.alloc (cel x.vals 40)) (.slice av nv cv) 40 7 ((l.take i).filter fun x => !below l x.id e.node).length (flat ((l.take i).filter fun x => !below l x.id e.node)) := by
                rcases hR2 with hR | ⟨b3, c3, rs3, e3, hA3, q3⟩
                · exact .inl hR
                · exact .inr ⟨b3, c3, rs3, e3, at_alloc _ hA3, q3⟩
              have hkl : ((l.take i).filter fun x => !below l x.id e.node).length ≤ l.length := Nat.le_trans (List.length_filter_le _ _) (by rw [List.length_take]; omega)
              obtain ⟨v4, w4, e4, r4, f4, n4⟩ := append_node (ty := 41) (cx := 1) (m := 1) (ox := 0) hR3 (at_alloc_new w2 (cel x.vals 40)) (by simp [Nd.vals]) (by intro u hu; exact flat_one [x] u (by simpa [flat, sub, Nd.vals] using hu)) (by omega)
              refine s_val (r_app rfl rfl e4) wnt_none ?_
              have hf04 : Frm0 w1 w4 := (hf02.alloc _).trans f4 (fun y hy => .inr (hfr y hy))
              have hfr4 : ∀ b', InV v4 b' → w1.heap.size ≤ b' := fun b' hb' => by
                rcases n4 b' hb' with h5 | h5
                · exact hfr b' h5
                · have h6 : w2.heap.size + 1 ≤ b' := by simpa using h5
                  have := hf02.size
                  omega
              have hR4 : Row w4 v4 40 7 ((l.take (i + 1)).filter fun x => !below l x.id e.node).length (flat ((l.take (i + 1)).filter fun x => !below l x.id e.node)) := by
                rw [hfil, flat_append, List.length_append]
                exact r4
              obtain ⟨a4, m4, c4, rfl⟩ : ∃ a4 m4 c4, v4 = .slice a4 m4 c4 := by
                rcases hR4 with ⟨hv, _⟩ | ⟨_, _, _, hv, _⟩ <;> exact ⟨_, _, _, hv⟩
              refine runWRef60 ?_
              exact ⟨_, rfl, ⟨hf04, _, a4, m4, c4, i + 1, fixL ⟨rfl, rfl, rfl, rfl, trivial⟩, by omega, hR4, hfr4⟩, by show l.length - ((i : Int) + 1).toNat < l.length - (i : Int).toNat; omega⟩
        · have hil : i = l.length := by omega
          subst hil
          rw [List.take_length] at hR
          rcases hR with ⟨_, hR0, _⟩ | ⟨b3, c3, rs3, e3, hA3, q3, q4, q5⟩
          · exfalso
            obtain ⟨x0, t0, hx0, hi0⟩ := hr0
            have : x0 ∈ l.filter fun x => !below l x.id e.node := by
              rw [List.mem_filter]
              refine ⟨by rw [hx0]; exact List.mem_cons_self, ?_⟩
              rw [hi0, below, bel, if_neg (fun h => hnz' h.symm), if_pos rfl]
              rfl
            rw [List.length_eq_zero_iff.1 hR0] at this
            cases this
          · cases e3
            have hb3 := hfr b3 ⟨_, _, _, rfl⟩
            refine runWRef60 ?_
            refine s_skip (r_store_s (s_ok rfl) rfl rfl hh' (by simp)) wnt_none ?_
            refine runWRef60 ?_
            refine ret_i rfl rfl ⟨by rw [hz]; rfl, ⟨b3, cv, rs3, ⟨?_, ?_, ?_, ?_⟩, ?_⟩, ?_⟩
            · rw [ha]
              exact at_setB _ hh'
            · rw [ha]
              exact at_setB_ne _ (by omega) hA3
            · rw [ha]
              exact q4
            · omega
            · omega
            · exact ((hF.trans0 hf).mono (fun _ h => h.elim)).setB (.inl (.inl rfl)) _
    · have ha : applyL l e = upAt e.node (fun x => setProp x e.prop e.value) l := by rw [applyL, if_neg (by simpa using hz), if_neg (by omega), if_neg (by omega), if_pos k]
      obtain ⟨ht, _⟩ := rf0_node hz (by omega)
      obtain ⟨i, x, hx, hxi, hat, hfnd⟩ := there_spec ht
      have hil := (List.getElem?_eq_some_iff.1 hx).1
      have hlen : l.length * 7 ≤ (flat l ++ rest).length := by rw [List.length_append, flat_length]; omega
      obtain ⟨hp0, hp3⟩ := prop_of hw k
      refine runWRef60 ?_
      refine s_callf (At_ret h1 hl _) rfl wnt_none ?_
      rintro v w2 ⟨rfl, rfl⟩
      rw [hat]
      refine runWRef60 ?_
      refine w_drawn [(0, false), (1, false), (2, false), (3, false), (4, false), (5, false), (6, false), (7, false), (8, false), (9, false), (10, false), (11, false)] [12] (fun wq => Frm0 w1 wq) mixed (by kernel_rfl) ?_ ?_
      · exact Frm.of_drew _
      · refine runWRef60 ?_
        refine y_skip rfl (r_store_i (s_ok rfl) rfl rfl (at_drew hrow) (by omega)) wnt_none ?_
        have e1 : (flat l ++ rest).set (0 + (i : Int).toNat * 7 + 3 + e.prop.toNat * 1) (I e.value) = flat (upAt e.node (fun x => setProp x e.prop e.value) l) ++ rest := by
          rw [show 0 + (i : Int).toNat * 7 + 3 + e.prop.toNat * 1 = i * 7 + (3 + e.prop.toNat) by omega, upAt_set hn hx hxi]
          refine flat_set l i x _ rest (3 + e.prop.toNat) _ hx (by omega) ?_
          rcases (show e.prop = 0 ∨ e.prop = 1 ∨ e.prop = 2 ∨ e.prop = 3 by omega) with q | q | q | q <;> rw [q] <;> rfl
        rw [e1]
        refine runWRef60 ?_
        refine ret_i rfl rfl ⟨by rw [hz]; rfl, ⟨b, cap, rest, ⟨?_, ?_, ?_, hap⟩, .inl rfl⟩, ?_⟩
        · rw [ha, show (upAt e.node (fun x => setProp x e.prop e.value) l).length = l.length by simp [upAt]]
          exact at_setB_ne _ hap.symm (at_drew hh)
        · rw [ha]
          exact at_setB _ (at_drew hrow)
        · rw [ha, show (upAt e.node (fun x => setProp x e.prop e.value) l).length = l.length by simp [upAt]]
          exact hroom
        · exact ((hF.mono (fun _ h => h.elim)).drew).setB (.inl (.inr rfl)) _
  · have hz' : ((refused l e : Nat) : Int) ≠ 0 := by omega
    refine runWRef60 ?_
    refine ret_i rfl rfl ⟨rfl, ⟨b, cap, rest, ?_, .inl rfl⟩, hF.mono (fun _ h => h.elim)⟩
    rw [applyL, if_pos hz]
    exact h1
end Go.Proofs.YtbicffldggcdhaaDoor
