/-
  WK6.
-/
import Derived.Test.YtbicffldggcdhaaGreatDoorB11
import Derived.Test.YtbicffldggcdhaaGreatDoorB04
namespace Go.Proofs.YtbicffldggcdhaaGreatDoor
open Go
theorem runG12 {G K : Prop} (k : K) (h : Wrap K → G := by intro h; (repeat (first | (with_reducible first | refine wpIn_seq ?_ | refine w_reg ?_ | refine s_nil ?_ | refine s_nilQ ?_ | refine wpIn_block ?_ | refine q_then ?_ | refine q_blk ?_ | refine q_then_ret ?_ | refine q_blk_ret ?_ | refine q_then_exit ?_ | refine q_blk_exit ?_ | refine wpIn_skip ?_ | refine wpIn_ret ?_ | refine wpIn_exit ?_) | ((with_reducible refine q_blk_other ?_ ?_); exact rfl) | ((with_reducible apply c_true); exact rfl; (with_reducible exact rfl)) | ((with_reducible apply c_false); exact rfl; (with_reducible exact rfl)) | ((with_reducible apply s_no); (first | ((with_reducible apply wnt_nt); exact rfl; exact rfl; exact rfl; exact rfl; (with_reducible exact rfl)) | ((with_reducible apply wnt_nf); exact rfl; exact rfl; exact rfl; exact rfl; (with_reducible exact rfl)))) | ((with_reducible apply s_val); (first | ((with_reducible apply r_assign_b); exact rfl) | ((with_reducible apply r_assign_p); exact rfl) | ((with_reducible apply r_move_b); exact rfl) | ((with_reducible apply r_not_t); exact rfl; (with_reducible exact rfl)) | ((with_reducible apply r_not_f); exact rfl; (with_reducible exact rfl)) | ((with_reducible apply r_not); exact rfl) | ((with_reducible apply r_move_p); exact rfl) | ((with_reducible apply r_eql_t); exact rfl; exact rfl; omega) | ((with_reducible apply r_eql_f); exact rfl; exact rfl; omega) | ((with_reducible apply r_eql); exact rfl; exact rfl) | ((with_reducible apply r_pick_t); exact rfl; (with_reducible exact rfl); exact rfl) | ((with_reducible apply r_pick_f); exact rfl; (with_reducible exact rfl); exact rfl) | ((with_reducible apply r_assign_i); exact rfl) | ((with_reducible apply r_move_i); exact rfl) | ((with_reducible apply r_move_s); exact rfl) | ((with_reducible apply r_len); exact u_ok rfl; exact rfl) | ((with_reducible apply r_lss_t); exact rfl; exact rfl; omega) | ((with_reducible apply r_lss_f); exact rfl; exact rfl; omega) | ((with_reducible apply r_lss); exact rfl; exact rfl) | ((with_reducible apply r_index); exact u_ok rfl; exact s_ok rfl; exact rfl; exact rfl; omega; omega) | ((with_reducible apply r_indexarr); exact u_ok rfl; exact s_ok rfl; exact rfl; exact rfl; omega; omega) | ((with_reducible apply r_loadA); exact u_ok rfl; exact rfl; exact s_ok rfl; exact rfl; (first | (with_reducible assumption) | assumption | exact at_alloc_new _ _ | (repeat (first | assumption | exact at_alloc_new _ _ | refine at_drew ?_ | refine at_alloc _ ?_))); exact Nat.le_of_ble_eq_true rfl) | ((with_reducible apply r_allocA); exact z_ok rfl) | ((with_reducible apply r_alloc1); exact z_ok rfl; exact rfl) | ((with_reducible apply r_assign_if); exact rfl) | ((with_reducible apply r_assign_ni); exact rfl) | ((with_reducible apply r_move_if); exact rfl) | ((with_reducible apply r_move_ni); exact rfl) | ((with_reducible apply r_neq_t); exact rfl; exact rfl; omega) | ((with_reducible apply r_neq_f); exact rfl; exact rfl; omega) | ((with_reducible apply r_neq); exact rfl; exact rfl) | ((with_reducible apply r_add); exact rfl; exact rfl; omega; omega)); (first | (with_reducible exact wnt_none) | ((with_reducible apply wnt_y); exact rfl; exact rfl; exact rfl; exact rfl; (with_reducible exact rfl)))))); exact h.out) : G := h ⟨k⟩

theorem keditF_ok {e : Ed} : (1 ≤ (keditF e).kind ∧ (keditF e).kind ≤ 4) ∧ (0 ≤ (keditF e).prop ∧ (keditF e).prop ≤ 3) ∧ (0 ≤ (keditF e).node ∧ (keditF e).node < 40) := by
  have h1 := kpickF_lt (c := e.kind) (n := 4) (by omega)
  have h2 := kpickF_lt (c := e.prop) (n := 4) (by omega)
  have h3 := kpickF_lt (c := e.node) (n := 40) (by omega)
  refine ⟨?_, ?_, h3⟩
  · show 1 ≤ 1 + kpickF e.kind 4 ∧ 1 + kpickF e.kind 4 ≤ 4
    omega
  · show 0 ≤ kpickF e.prop 4 ∧ kpickF e.prop 4 ≤ 3
    omega
theorem apply_no {l : List Nd} {e : Ed} (h : refused l e ≠ 0) : applyL l e = l := by rw [applyL, if_pos h]
set_option maxRecDepth 4000 in
set_option maxHeartbeats 2000000 in
theorem Rooted_ret {PT : PTy} (sp : TreeSpec PT) (cs : CloneSpec PT) {w : World} {v0 : Value} {es : List Ed} {ea : List Addr} (hU : EScr w v0 es) (hR : ∀ e ∈ es, EdRaw e) (hul : es.length < 4000000000000) (hE : Errs w ea) :
    Rets Tryz.prog 6 [v0] w fun v w' => v = B true ∧ Frm0 w w' := by
  obtain ⟨ua, uc, rfl⟩ := hU.isSl
  have hlt := errs_lt hE
  refine rets_of Tryz.func6 (by kernel_rfl) rfl Tryz.ntmps6 (Nat.le_of_ble_eq_true rfl) ?_
  refine runG12 ?_
  refine s_callf (works_ret sp cs hE) rfl wnt_none ?_
  rintro v w1 ⟨rfl, f1⟩
  refine runG12 ?_
  refine s_callf (sp.new w1) rfl wnt_none ?_
  rintro v w2 ⟨t, rfl, hT2, f2⟩
  have F2 := f1.trans0 f2
  have hT2 := sp.weak (S' := fun b => w.heap.size ≤ b) hT2 (fun b hb _ => Nat.le_trans f1.size hb)
  refine runG12 ?_
  refine s_val (r_eqp rfl) (by (first | (with_reducible exact wnt_none) | ((with_reducible apply wnt_y); exact rfl; exact rfl; exact rfl; exact rfl; (with_reducible exact rfl)))) ?_
  refine runG12 ?_
  refine lp (fun env w' => ∃ env0, ∃ i : Nat, ∃ l : List Nd, env = setL env0 [(0, .slice ua es.length uc), (4, Ptr t), (5, I i)] ∧ i ≤ es.length ∧ Frm0 w w' ∧ PT w' t l (fun b => w.heap.size ≤ b) ∧ Wf l ∧ Sml l) (fun env _ => es.length - cnt (env 5)) ?_ ?_
  · exact ⟨_, 0, [root0], fixL ⟨rfl, rfl, rfl, trivial⟩, Nat.zero_le _, F2, hT2, wf_root0, sml_root0⟩
  · rintro env w3 ⟨env0, i, l, rfl, hi, F3, hT3, hW, hS⟩
    by_cases hil : i < es.length
    · rcases hU with ⟨⟨_, _, hv⟩, h0⟩ | ⟨sb, so, sc, X, tx, kk, hv, hA0, hX⟩
      · rw [h0] at hil
        exact absurd hil (by simp)
      · obtain ⟨e, he⟩ : ∃ e, es[i]? = some e := ⟨es[i], List.getElem?_eq_getElem hil⟩
        obtain ⟨hx1, hx2⟩ := hX i e he
        have hraw := hR e (List.mem_of_getElem? he)
        have hA := F3.at0 hA0
        cases hv
        have hok := keditF_ok (e := e)
        have hx1' : so + (i : Int).toNat * 6 + 6 ≤ X.length := by rw [show (i : Int).toNat = i by omega]; exact hx1
        have hx2' : sub X (so + (i : Int).toNat * 6) 6 = e.vals := by rw [show (i : Int).toNat = i by omega]; exact hx2
        have hg : ∀ g ∈ errG, ¬ w.heap.size ≤ g := fun g hg => by have := hlt.1 g hg; omega
        have ha : ∀ a ∈ ea, ¬ w.heap.size ≤ a.block := fun a ha => by have := hlt.2 a ha; omega
        refine runG12 ?_
        refine s_val (r_loadV (u_ok rfl) rfl (s_ok rfl) rfl hA hx1' hx2') wnt_none ?_
        refine s_callf (kedit_ret hraw w3) rfl wnt_none ?_
        rintro v w4 ⟨rfl, f4⟩
        refine runG12 ?_
        refine s_skip (r_storeAll (vs := (keditF e).vals) (s_ok rfl) rfl rfl (edit_one _) (at_alloc_new w4 _) rfl) wnt_none ?_
        have hb5 := at_setB (cel (keditF e).vals 31) (at_alloc_new w4 (cel [I 0, I 0, I 0, I 0, I 0, I 0] 31))
        have f5 : Frm0 w3 (setB (w4.alloc (cel [I 0, I 0, I 0, I 0, I 0, I 0] 31)) w4.heap.size (cel (keditF e).vals 31)) := (f4.alloc _).setB (.inr f4.size) _
        have hz5 : w3.heap.size ≤ w4.heap.size := f4.size
        have hl5 := at_lt hb5
        have hT5 := sp.frm (sp.weak (S' := fun b => w.heap.size ≤ b ∧ b < w3.heap.size) hT3 (fun b h1 h2 => ⟨h1, h2⟩)) f5 (fun _ _ h => h)
        generalize setB (w4.alloc (cel [I 0, I 0, I 0, I 0, I 0, I 0] 31)) w4.heap.size (cel (keditF e).vals 31) = w5 at *
        generalize w4.heap.size = eb at *
        generalize hee : keditF e = e' at *
        have F5 := F3.trans0 f5
        refine runG12 ?_
        refine s_callf (cs hT5) rfl wnt_none ?_
        rintro v w6 ⟨c, rfl, hC6, f6⟩
        have F6 := F5.trans0 f6
        have hT6 := sp.frm hT5 f6 (fun _ _ h => h)
        have hb6 := f6.at0 hb5
        have hs36 := f5.size
        have hC6 := sp.weak (S' := fun b => w5.heap.size ≤ b ∧ b < w6.heap.size) hC6 (fun b h1 h2 => ⟨h1, h2⟩)
        refine runG12 ?_
        refine s_val (r_eqp rfl) wnt_none ?_
        refine runG12 ?_
        rw [sub_all' (show e'.vals.length = 6 from rfl)]
        refine s_callf (sp.apply e' hT6 hW (hE.frm0 F6) (fun g h1 h2 => hg g h1 h2.1) (fun a h1 h2 => ha a h1 h2.1)) rfl wnt_none ?_
        rintro v w7 ⟨hv, hT7, f7, _⟩
        have F7 : Frm0 w w7 := F6.trans f7 (fun b hb => .inr hb.1)
        have hb7 := f7.at (fun h => by have := h.2; omega) hb6
        have hC7 := sp.frm hC6 f7 (fun b h1 h2 => by have := h1.1; have := h2.2; omega)
        have hs7 := F6.size
        have hT7' := sp.weak (S' := fun b => w.heap.size ≤ b) hT7 (fun b h1 h2 => by omega)
        have hW7 := hW.apply e'
        have hS7 := hS.apply (e := e') hok.2.2
        have hnx : ∀ {y : World}, Frm0 w7 y → Frm0 w y ∧ PT y t (applyL l e') (fun b => w.heap.size ≤ b) := fun {y} f => ⟨F7.trans0 f, sp.frm hT7' f (fun _ _ h => h)⟩
        have hv' : v = .nilIface ∨ ∃ b, v = .iface 95 (Ptr b) := by
          rcases hv with ⟨_, h⟩ | ⟨_, b, _, h, _⟩
          · exact .inl h
          · exact .inr ⟨b, h⟩
        rcases hv' with hvv | ⟨vb, hvv⟩
        · have hz : refused l e' = 0 := by
            rcases hv with ⟨h, _⟩ | ⟨_, b, _, h, _⟩
            · exact h
            · rw [hvv] at h; cases h
          rw [hvv]
          refine runG12 ?_
          refine s_callf (krooted_ret sp hT7 hW7 hS7) rfl wnt_none ?_
          rintro u w8 ⟨rfl, f8⟩
          refine runG12 ?_
          refine s_callf (ksame_ret sp (sp.frm hT7 f8 (fun _ _ h => h)) (sp.frm hC7 f8 (fun _ _ h => h)) hW7 hW) rfl wnt_none ?_
          rintro u w9 ⟨⟨b, rfl, _⟩, f9⟩
          have f79 := f8.trans0 f9
          have hb9 := f79.at0 hb7
          refine runG12 ?_
          refine s_val (r_nnF rfl) wnt_none ?_
          refine runG12 ?_
          rw [sub_all' (show e'.vals.length = 6 from rfl)]
          refine s_callf (kdid_ret sp (sp.frm hT7 f79 (fun _ _ h => h)) (sp.frm hC7 f79 (fun _ _ h => h)) hW hW7 rfl hz hok.1 hok.2.1) rfl wnt_none ?_
          rintro u wa ⟨rfl, fa⟩
          refine runG12 ?_
          obtain ⟨h1, h2⟩ := hnx (f79.trans0 fa)
          exact ⟨_, rfl, ⟨_, i + 1, applyL l e', fixL ⟨rfl, rfl, rfl, trivial⟩, by omega, h1, h2, hW7, hS7⟩, by show es.length - ((i : Int) + 1).toNat < es.length - (i : Int).toNat; omega⟩
        · have hz : refused l e' ≠ 0 := by
            rcases hv with ⟨_, h⟩ | ⟨h, _⟩
            · rw [hvv] at h; cases h
            · omega
          have hal := apply_no hz
          rw [hvv]
          refine runG12 ?_
          refine s_callf (krooted_ret sp hT7 hW7 hS7) rfl wnt_none ?_
          rintro u w8 ⟨rfl, f8⟩
          refine runG12 ?_
          refine s_callf (ksame_ret sp (sp.frm hT7 f8 (fun _ _ h => h)) (sp.frm hC7 f8 (fun _ _ h => h)) hW7 hW) rfl wnt_none ?_
          rintro u w9 ⟨⟨b, rfl, hbt⟩, f9⟩
          have hb1 := hbt ⟨by rw [hal], fun j _ => by rw [hal]⟩
          subst hb1
          refine runG12 ?_
          refine s_val (r_nnT rfl) wnt_none ?_
          refine runG12 ?_
          obtain ⟨h1, h2⟩ := hnx (f8.trans0 f9)
          exact ⟨_, rfl, ⟨_, i + 1, applyL l e', fixL ⟨rfl, rfl, rfl, trivial⟩, by omega, h1, h2, hW7, hS7⟩, by show es.length - ((i : Int) + 1).toNat < es.length - (i : Int).toNat; omega⟩
    · refine runG12 ?_
      exact ret_b rfl rfl ⟨rfl, F3⟩
end Go.Proofs.YtbicffldggcdhaaGreatDoor
