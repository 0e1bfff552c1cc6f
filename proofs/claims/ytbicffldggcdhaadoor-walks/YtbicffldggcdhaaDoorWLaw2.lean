/-
  The law's same, walked: a tree of the program and the document's that are one read alike.
-/
import Derived.Test.YtbicffldggcdhaaDoorLSpec
import Derived.Test.YtbicffldggcdhaaDoorLTree2
namespace Go.Proofs.YtbicffldggcdhaaDoor
open Go
theorem runWLaw20 {G K : Prop} (k : K) (h : Wrap K → G := by intro h; (repeat (first | (with_reducible first | refine wpIn_seq ?_ | refine w_reg ?_ | refine s_nil ?_ | refine s_nilQ ?_ | refine wpIn_block ?_ | refine q_then ?_ | refine q_blk ?_ | refine q_then_ret ?_ | refine q_blk_ret ?_ | refine q_then_exit ?_ | refine q_blk_exit ?_ | refine wpIn_skip ?_ | refine wpIn_ret ?_ | refine wpIn_exit ?_ | refine y_nil ?_ | refine y_nilQ ?_ | refine x_late ?_) | ((with_reducible refine q_blk_other ?_ ?_); exact rfl) | ((with_reducible apply c_true); exact rfl; (with_reducible exact rfl)) | ((with_reducible apply c_false); exact rfl; (with_reducible exact rfl)) | ((with_reducible apply s_no); (first | ((with_reducible apply wnt_nt); exact rfl; exact rfl; exact rfl; exact rfl; (with_reducible exact rfl)) | ((with_reducible apply wnt_nf); exact rfl; exact rfl; exact rfl; exact rfl; (with_reducible exact rfl)))) | ((with_reducible apply x_qno); exact rfl; (first | ((with_reducible apply wnt_nt); exact rfl; exact rfl; exact rfl; exact rfl; (with_reducible exact rfl)) | ((with_reducible apply wnt_nf); exact rfl; exact rfl; exact rfl; exact rfl; (with_reducible exact rfl)))) | ((first | with_reducible apply s_val | ((with_reducible apply y_val); exact rfl) | ((with_reducible apply x_q); exact rfl; intro wq hq)); (first | ((with_reducible apply r_assign_b); exact rfl) | ((with_reducible apply r_move_p); exact rfl) | ((with_reducible apply r_assign_i); exact rfl) | ((with_reducible apply r_move_i); exact rfl) | ((with_reducible apply r_nilCheck); exact rfl) | ((with_reducible apply r_fld); exact fa_ok rfl; exact rfl) | ((with_reducible apply r_load); exact u_ok rfl; exact rfl; exact rfl; (first | exact Frm.at0 hq (by assumption) | exact Frm.at hq (by assumption) (by assumption) | (first | (with_reducible assumption) | assumption | exact at_alloc_new _ _ | (repeat (first | assumption | exact at_alloc_new _ _ | refine at_drew ?_ | refine at_alloc _ ?_)))); exact rfl) | ((with_reducible apply r_len); exact u_ok rfl; exact rfl) | ((with_reducible apply r_neq_t); exact rfl; exact rfl; omega) | ((with_reducible apply r_neq_f); exact rfl; exact rfl; omega) | ((with_reducible apply r_neq); exact rfl; exact rfl) | ((with_reducible apply r_lss_t); exact rfl; exact rfl; omega) | ((with_reducible apply r_lss_f); exact rfl; exact rfl; omega) | ((with_reducible apply r_lss); exact rfl; exact rfl) | ((with_reducible apply r_index); exact u_ok rfl; exact s_ok rfl; exact rfl; exact rfl; omega; omega) | ((with_reducible apply r_indexarr); exact u_ok rfl; exact s_ok rfl; exact rfl; exact rfl; omega; omega) | ((with_reducible apply r_move_t); exact rfl) | ((with_reducible apply r_extract); exact rfl; exact rfl) | ((with_reducible apply r_allocA); exact z_ok rfl) | ((with_reducible apply r_alloc1); exact z_ok rfl; exact rfl) | ((with_reducible apply r_move_b); exact rfl) | ((with_reducible apply r_not_t); exact rfl; (with_reducible exact rfl)) | ((with_reducible apply r_not_f); exact rfl; (with_reducible exact rfl)) | ((with_reducible apply r_not); exact rfl) | ((with_reducible apply r_loadA); exact u_ok rfl; exact rfl; exact s_ok rfl; exact rfl; (first | exact Frm.at0 hq (by assumption) | exact Frm.at hq (by assumption) (by assumption) | (first | (with_reducible assumption) | assumption | exact at_alloc_new _ _ | (repeat (first | assumption | exact at_alloc_new _ _ | refine at_drew ?_ | refine at_alloc _ ?_)))); exact Nat.le_of_ble_eq_true rfl) | ((with_reducible apply r_pick_t); exact rfl; (with_reducible exact rfl); exact rfl) | ((with_reducible apply r_pick_f); exact rfl; (with_reducible exact rfl); exact rfl) | ((with_reducible apply r_add); exact rfl; exact rfl; omega; omega)); (first | (with_reducible exact wnt_none) | ((with_reducible apply wnt_y); exact rfl; exact rfl; exact rfl; exact rfl; (with_reducible exact rfl)))))); exact h.out) : G := h ⟨k⟩

theorem put_all : ∀ (z vs : List Value), z.length = vs.length → put z 0 vs = vs
  | [], [], _ => rfl
  | [], v :: vs, h => by simp at h
  | x :: z, [], h => by simp at h
  | x :: z, v :: vs, h => by
    simp only [put]
    rw [put_all z vs (by simpa using h)]
theorem node_one (n : Nd) : ∀ u ∈ n.vals, one u = true := fun u hu => flat_one [n] u (by simpa [flat] using hu)
theorem edit_one (e : Ed) : ∀ u ∈ e.vals, one u = true := by
  intro u h
  simp only [Ed.vals, List.mem_cons, List.not_mem_nil, or_false] at h
  rcases h with h | h | h | h | h | h <;> subst h <;> rfl
section
variable {P : Program} {w : World} {ρ : Operand → Value} {d : Option Nat} {t : Nat} {p : String} {af : Array Edge} {g : Option (Nat × Bool)}
theorem r_storeAll {ty : Nat} {x y : Operand} {b : Nat} {z vs : List Value} {e : Nat} (hz : szOf P ty = some vs.length) (hx : ρ x = .pointer (some ⟨b, 0, none⟩)) (hy : ρ y = .agg vs.toArray) (hv : ∀ v ∈ vs, one v = true) (hb : At w b (cel z e)) (hl : z.length = vs.length) :
    (execOp ρ ⟨d, .store ty x y, t, p, af, g⟩).run P w = .ok .skip (setB w b (cel vs e)) := by
  rw [r_storeA hz hx hy rfl hv hb (by omega), put_all z vs hl]
end
set_option maxHeartbeats 1000000 in
theorem same_ret {PT : World → Nat → List Nd → (Nat → Prop) → Prop} (sp : TreeSpec PT) {w : World} {t r b cap : Nat} {rest : List Value} {l : List Nd} {S : Nat → Prop} (hP : PT w t l S) (hR : RefT w r b cap rest l) (hW : Wf l) :
    Rets Tryd.prog 13 [Ptr t, Ptr r] w fun v w' => v = B true ∧ Frm0 w w' := by
  have hsm := hW.small
  refine rets_of Tryd.func13 (by kernel_rfl) rfl Tryd.ntmps13 (Nat.le_of_ble_eq_true rfl) ?_
  refine runWLaw20 ?_
  refine s_callf (sp.len hP) rfl wnt_none ?_
  rintro v w1 ⟨rfl, hf1⟩
  have hh1 := (hR.frm0 hf1).head
  refine runWLaw20 ?_
  refine lp (fun env w' => Frm0 w w' ∧ ∃ env0, ∃ i : Nat, env = setL env0 [(0, Ptr t), (1, Ptr r), (6, I i)] ∧ i ≤ l.length) (fun env _ => l.length - cnt (env 6)) ?_ ?_
  · exact ⟨hf1, _, 0, fixL ⟨rfl, rfl, rfl, trivial⟩, by omega⟩
  · rintro env w' ⟨hf, env0, i, rfl, hi⟩
    have hR' := hR.frm0 hf
    have hh := hR'.head
    have hrow := hR'.row
    have hroom := hR'.room
    by_cases hlt : i < l.length
    · obtain ⟨x, hx⟩ : ∃ x, l[i]? = some x := ⟨l[i], List.getElem?_eq_getElem hlt⟩
      have hlen : l.length * 7 ≤ (flat l ++ rest).length := by rw [List.length_append, flat_length]; omega
      have hfv : findV l x.id = .tuple [.agg x.vals.toArray, B true].toArray := by rw [findV, fnd_mem hW.nodup (List.mem_of_getElem? hx)]
      refine runWLaw20 ?_
      refine s_val (r_load (u_ok rfl) rfl rfl hrow (node_get hx 0 (I x.id) _ (by simp) (by decide) rfl)) wnt_none ?_
      refine s_callf (sp.find x.id (sp.frm hP hf (fun _ _ h => h)) hW) rfl wnt_none ?_
      rintro v w2 ⟨rfl, hf2⟩
      rw [hfv]
      refine runWLaw20 ?_
      refine s_skip (r_storeAll (vs := x.vals) (s_ok rfl) rfl rfl (node_one x) (at_alloc_new w2 _) rfl) wnt_none ?_
      have hn3 := at_setB (cel x.vals 40) (at_alloc_new w2 (cel [I 0, I 0, I 0, I 0, I 0, I 0, I 0] 40))
      have hf3 : Frm0 w' (setB (w2.alloc (cel [I 0, I 0, I 0, I 0, I 0, I 0, I 0] 40)) w2.heap.size (cel x.vals 40)) := (hf2.alloc _).setB (.inr hf2.size) _
      generalize setB (w2.alloc (cel [I 0, I 0, I 0, I 0, I 0, I 0, I 0] 40)) w2.heap.size (cel x.vals 40) = w3 at *
      have hh3 := hf3.at0 hh
      have hrow3 := hf3.at0 hrow
      refine runWLaw20 ?_
      refine w_drawn ((0, false) :: (1, false) :: (2, false) :: (3, false) :: (4, false) :: (5, false) :: (6, false) :: (7, false) :: (8, false) :: (9, false) :: (10, false) :: (11, false) :: (12, false) :: []) [] (fun wq => Frm0 w3 wq) mixed (by kernel_rfl) ?_ ?_
      · exact Frm.of_drew _
      · refine runWLaw20 ?_
        refine x_q rfl (fun wq hq => r_loadV (vs := x.vals) (u_ok rfl) rfl (s_ok rfl) rfl (hq.at0 hrow3) (by omega) (by rw [show 0 + (i : Int).toNat * 7 = i * 7 by omega]; exact flat_sub l i x hx rest)) (by (first | (with_reducible exact wnt_none) | ((with_reducible apply wnt_y); exact rfl; exact rfl; exact rfl; exact rfl; (with_reducible exact rfl)))) ?_
        refine x_q rfl (fun wq hq => r_ne_node (n := x) rfl rfl) (by (first | (with_reducible exact wnt_none) | ((with_reducible apply wnt_y); exact rfl; exact rfl; exact rfl; exact rfl; (with_reducible exact rfl)))) ?_
        refine runWLaw20 ?_
        exact ⟨_, rfl, ⟨(hf.trans0 hf3).drew, _, i + 1, fixL ⟨rfl, rfl, rfl, trivial⟩, by omega⟩, by show l.length - ((i : Int) + 1).toNat < l.length - (i : Int).toNat; omega⟩
    · refine runWLaw20 ?_
      exact ret_b rfl rfl ⟨rfl, hf⟩
end Go.Proofs.YtbicffldggcdhaaDoor
