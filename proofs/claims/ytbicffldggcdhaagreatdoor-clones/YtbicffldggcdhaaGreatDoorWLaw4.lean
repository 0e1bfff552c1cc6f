/-
  The law's tree, walked: a tree that came out becomes one pair more, and its owner edits it.
-/
import Derived.Test.YtbicffldggcdhaaGreatDoorWLaw3
namespace Go.Proofs.YtbicffldggcdhaaGreatDoor
open Go
theorem runWLaw40 {G K : Prop} (k : K) (h : Wrap K → G := by intro h; (repeat (first | (with_reducible first | refine wpIn_seq ?_ | refine w_reg ?_ | refine s_nil ?_ | refine s_nilQ ?_ | refine wpIn_block ?_ | refine q_then ?_ | refine q_blk ?_ | refine q_then_ret ?_ | refine q_blk_ret ?_ | refine q_then_exit ?_ | refine q_blk_exit ?_ | refine wpIn_skip ?_ | refine wpIn_ret ?_ | refine wpIn_exit ?_ | refine y_nil ?_ | refine y_nilQ ?_ | refine x_late ?_) | ((with_reducible refine q_blk_other ?_ ?_); exact rfl) | ((with_reducible apply c_true); exact rfl; (with_reducible exact rfl)) | ((with_reducible apply c_false); exact rfl; (with_reducible exact rfl)) | ((with_reducible apply s_no); (first | ((with_reducible apply wnt_nt); exact rfl; exact rfl; exact rfl; exact rfl; (with_reducible exact rfl)) | ((with_reducible apply wnt_nf); exact rfl; exact rfl; exact rfl; exact rfl; (with_reducible exact rfl)))) | ((with_reducible apply x_qno); exact rfl; (first | ((with_reducible apply wnt_nt); exact rfl; exact rfl; exact rfl; exact rfl; (with_reducible exact rfl)) | ((with_reducible apply wnt_nf); exact rfl; exact rfl; exact rfl; exact rfl; (with_reducible exact rfl)))) | ((first | with_reducible apply s_val | ((with_reducible apply y_val); exact rfl) | ((with_reducible apply x_q); exact rfl; intro wq hq)); (first | ((with_reducible apply r_assign_b); exact rfl) | ((with_reducible apply r_move_p); exact rfl) | ((with_reducible apply r_eql_t); exact rfl; exact rfl; omega) | ((with_reducible apply r_eql_f); exact rfl; exact rfl; omega) | ((with_reducible apply r_eql); exact rfl; exact rfl) | ((with_reducible apply r_assign_p); exact rfl) | ((with_reducible apply r_nilCheck); exact rfl) | ((with_reducible apply r_fld); exact fa_ok rfl; exact rfl) | ((with_reducible apply r_load); exact u_ok rfl; exact rfl; exact rfl; (first | exact Frm.at0 hq (by assumption) | exact Frm.at hq (by assumption) (by assumption) | (first | (with_reducible assumption) | assumption | exact at_alloc_new _ _ | (repeat (first | assumption | exact at_alloc_new _ _ | refine at_drew ?_ | refine at_alloc _ ?_)))); exact rfl) | ((with_reducible apply r_len); exact u_ok rfl; exact rfl) | ((with_reducible apply r_remE); exact rfl; exact rfl; omega; omega) | ((with_reducible apply r_rem); exact rfl; exact rfl; omega) | ((with_reducible apply r_add); exact rfl; exact rfl; omega; omega) | ((with_reducible apply r_allocA); exact z_ok rfl) | ((with_reducible apply r_alloc1); exact z_ok rfl; exact rfl) | ((with_reducible apply r_loadA); exact u_ok rfl; exact rfl; exact s_ok rfl; exact rfl; (first | exact Frm.at0 hq (by assumption) | exact Frm.at hq (by assumption) (by assumption) | (first | (with_reducible assumption) | assumption | exact at_alloc_new _ _ | (repeat (first | assumption | exact at_alloc_new _ _ | refine at_drew ?_ | refine at_alloc _ ?_)))); exact Nat.le_of_ble_eq_true rfl) | ((with_reducible apply r_assign_if); exact rfl) | ((with_reducible apply r_assign_ni); exact rfl) | ((with_reducible apply r_move_b); exact rfl) | ((with_reducible apply r_move_if); exact rfl) | ((with_reducible apply r_move_ni); exact rfl) | ((with_reducible apply r_pick_t); exact rfl; (with_reducible exact rfl); exact rfl) | ((with_reducible apply r_pick_f); exact rfl; (with_reducible exact rfl); exact rfl)); (first | (with_reducible exact wnt_none) | ((with_reducible apply wnt_y); exact rfl; exact rfl; exact rfl; exact rfl; (with_reducible exact rfl)))))); exact h.out) : G := h ⟨k⟩

def setE (n : Nat) : Ed := ⟨4, 0, 0, 0, (n : Int) % 4, 1 + (n : Int) % 1000⟩
theorem bld_edit (a b : Int) (w : World) : (Instr.build 31 [(0, I 4), (1, I 0), (4, I a), (5, I b)].toArray).run Tryz.prog w = .ok (EdV ⟨4, 0, 0, 0, a, b⟩) w := by kernel_rfl
theorem bld_pair (a b : Option Addr) (w : World) : (Instr.build 131 [(0, .pointer a), (1, .pointer b)].toArray).run Tryz.prog w = .ok (.agg [.pointer a, .pointer b].toArray) w := by kernel_rfl
theorem bs_pair (a b : Option Addr) (w : World) : (Instr.buildSlice 71 1 [(0, .agg [.pointer a, .pointer b].toArray)].toArray).run Tryz.prog w = .ok (.slice (some ⟨w.heap.size, 0, none⟩) 1 1) (w.alloc (cel [.pointer a, .pointer b] 131)) := by kernel_rfl
theorem setE_fine {l : List Nd} (h : Wf l) (n : Nat) : refused l (setE n) = 0 := by
  refine rf34_ok ?_ (.inr rfl) (.inl rfl) h.thereRoot
  rw [wrong_4 (setE n) rfl]
  have h1 : decide (0 ≤ (setE n).node ∧ (setE n).node ≤ 1000) = true := by simp [setE]
  have h2 : decide (0 ≤ (setE n).prop ∧ (setE n).prop ≤ 3) = true := decide_eq_true (show 0 ≤ (n : Int) % 4 ∧ (n : Int) % 4 ≤ 3 by omega)
  have h3 : decide (0 ≤ (setE n).value ∧ (setE n).value ≤ 1000000) = true := decide_eq_true (show 0 ≤ 1 + (n : Int) % 1000 ∧ 1 + (n : Int) % 1000 ≤ 1000000 by omega)
  rw [h1, h2, h3]
  rfl
theorem Wf.ne {l : List Nd} (h : Wf l) : l ≠ [] := by
  obtain ⟨x, r, e, _⟩ := h.root
  rw [e]
  exact List.cons_ne_nil _ _
theorem Wf.rootId {l : List Nd} (h : Wf l) : ∃ x t, l = x :: t ∧ x.id = 0 := by
  obtain ⟨x, r, e, hx, _⟩ := h.root
  exact ⟨x, r, e, hx⟩
theorem errs_lt {w : World} {ea : List Addr} (h : Errs w ea) : (∀ g ∈ errG, g < w.heap.size) ∧ ∀ a ∈ ea, a.block < w.heap.size := by
  constructor
  · intro g hg
    obtain ⟨i, hi⟩ := List.mem_iff_getElem?.1 hg
    have h9 : i < 9 := by have := (List.getElem?_eq_some_iff.1 hi).1; simpa [errG] using this
    obtain ⟨a, ha⟩ : ∃ a, ea[i]? = some a := ⟨_, List.getElem?_eq_getElem (by rw [h.len]; exact h9)⟩
    obtain ⟨ty, k, hv⟩ := (h.one i g a hi ha).var
    exact at_lt hv
  · intro a ha
    obtain ⟨i, hi⟩ := List.mem_iff_getElem?.1 ha
    obtain ⟨c, t, hb⟩ := errs_get_one h hi
    exact at_lt hb

section
variable {PT : World → Nat → List Nd → (Nat → Prop) → Prop}
set_option maxHeartbeats 2000000 in
theorem tree_ret (sp : TreeSpec PT) {w0 w : World} {wp : Nat} {tsv : Value} {tail : List Value} {ts : List TP} {col : Nat → Nat} {ea : List Addr} {t r b cap : Nat} {rest : List Value} {l : List Nd}
    (h : TI PT w0 wp tsv tail ts col) (f : Frm0 w0 w) (hE : Errs w0 ea) (hP : PT w t l (fun b => w0.heap.size ≤ b)) (hR : RefT w r b cap rest l) (hW : Wf l) (hl : ts.length < 2000000000000) :
    Rets Tryz.prog 58 [Ptr wp, Ptr t, Ptr r] w fun v w' => v = B true ∧ (∃ tsv' col' o, TI PT w' wp tsv' tail (ts ++ [⟨t, o, applyL l (setE ts.length)⟩]) col' ∧ (∀ b, b < w0.heap.size → col' b = col b) ∧ ∀ b, InV tsv' b → InV tsv b ∨ w0.heap.size ≤ b) ∧ Frm (TS wp tsv col) w0 w' := by
  have hsm := hW.small
  have hwp := at_lt h.head
  obtain ⟨av, nv, cv, rfl, hnv⟩ : ∃ av nv cv, tsv = .slice av nv cv ∧ nv = ts.length := by
    rcases h.row with ⟨e1, e2, _⟩ | ⟨b, cap, rest, e1, _⟩
    · exact ⟨_, _, _, e1, e2.symm⟩
    · exact ⟨_, _, _, e1, rfl⟩
  subst hnv
  have hP1 : PT w t l (fun b => w0.heap.size ≤ b ∧ b < w.heap.size) := sp.weak hP (fun b h1 h2 => ⟨h1, h2⟩)
  have hz := setE_fine hW ts.length
  refine rets_of Tryz.func58 (by kernel_rfl) rfl Tryz.ntmps58 (Nat.le_of_ble_eq_true rfl) ?_
  refine runWLaw40 ?_
  refine s_val (r_eqp rfl) wnt_none ?_
  refine runWLaw40 ?_
  refine s_callf (same_ret sp hP1 hR hW) rfl wnt_none ?_
  rintro v w1 ⟨rfl, f1⟩
  refine runWLaw40 ?_
  refine s_callf (RClone_ret (hR.frm0 f1) (by omega) hW.ne) rfl wnt_none ?_
  rintro v w2 ⟨⟨ro, bo, capo, resto, rfl, hO, hro, hbo⟩, f2⟩
  have F2 : Frm0 w0 w2 := (f.trans0 f1).trans0 f2
  have hh2 := F2.at0 h.head
  refine runWLaw40 ?_
  refine w_drawn ((0, false) :: (1, false) :: (2, false) :: (3, false) :: (4, false) :: (5, false) :: (6, false) :: (7, false) :: (8, false) :: (9, false) :: (10, false) :: (11, false) :: (12, false) :: (13, false) :: (14, true) :: []) [15] (fun wq => Frm0 w2 wq) mixed (by kernel_rfl) ?_ ?_
  · exact Frm.of_drew _
  · refine runWLaw40 ?_
    refine x_q rfl (fun wq hq => r_build rfl (bld_edit _ _ wq)) wnt_none ?_
    refine x_val rfl (r_allocA (z_ok rfl)) wnt_none ((Frm.of_drew w2).alloc _) ?_
    refine runWLaw40 ?_
    refine y_skip rfl (r_storeAll (vs := (setE ts.length).vals) (s_ok rfl) rfl rfl (edit_one _) (at_alloc_new w2.drew _) rfl) wnt_none ?_
    have hx3 := at_setB (cel (setE ts.length).vals 31) (at_alloc_new w2.drew (cel [I 0, I 0, I 0, I 0, I 0, I 0] 31))
    have f3 : Frm0 w2 (setB (w2.drew.alloc (cel [I 0, I 0, I 0, I 0, I 0, I 0] 31)) w2.drew.heap.size (cel (setE ts.length).vals 31)) := ((Frm.of_drew w2).alloc _).setB (.inr (Nat.le_refl _)) _
    have hx3' := at_lt hx3
    generalize setB (w2.drew.alloc (cel [I 0, I 0, I 0, I 0, I 0, I 0] 31)) w2.drew.heap.size (cel (setE ts.length).vals 31) = w3 at *
    have F3 : Frm0 w0 w3 := F2.trans0 f3
    have s1 := f.size
    have s2 := f1.size
    have s3 := f2.size
    have s4 := f3.size
    have hro2 := at_lt hO.head
    have hbo2 := at_lt hO.row
    have hz2 : w2.drew.heap.size = w2.heap.size := rfl
    rw [hz2] at hx3 hx3' ⊢
    have hElt := errs_lt hE
    refine runWLaw40 ?_
    refine s_callf (sp.apply (ea := ea) (setE ts.length) (sp.frm hP1 ((f1.trans0 f2).trans0 f3) (fun _ _ h => h)) hW (hE.frm0 F3) (fun g hg hs => by have := hElt.1 g hg; omega) (fun a ha hs => by have := hElt.2 a ha; omega)) rfl wnt_none ?_
    rintro v w4 ⟨hEr, hP4, f4, _⟩
    rcases hEr with ⟨_, rfl⟩ | ⟨h0, _⟩
    case inr => omega
    have s5 := f4.size
    have hx4 := f4.at (b := w2.heap.size) (by rintro ⟨_, h2⟩; omega) hx3
    refine runWLaw40 ?_
    refine s_callf (RApply_ret ((hO.frm0 f3).frm f4 (by rintro ⟨_, h2⟩; omega) (by rintro ⟨_, h2⟩; omega)) (by omega) hW.clo hW.nodup hW.rootId (setE ts.length)) rfl wnt_none ?_
    rintro v w5 ⟨rfl, ⟨b5, cap5, rest5, hR5, hb5⟩, f5⟩
    have s6 := f5.size
    have hh3 := F3.at0 h.head
    have hh4 := f4.at (b := wp) (by rintro ⟨h1, _⟩; omega) hh3
    have hh5 := f5.at (b := wp) (by rintro (h1 | h1) <;> omega) hh4
    have hlow : ∀ x, InV (.slice av ts.length cv) x → wp < x ∧ col x = 0 ∧ x < w0.heap.size := fun x hx => by
      obtain ⟨h1, h2⟩ := h.rowc x hx
      refine ⟨h1, h2, ?_⟩
      rcases h.row with ⟨e1, _⟩ | ⟨b9, cap9, rest9, e1, hA9, _⟩
      · rw [e1] at hx
        obtain ⟨_, _, _, hv⟩ := hx
        cases hv
      · rw [e1] at hx
        obtain ⟨_, _, _, hv⟩ := hx
        cases hv
        exact at_lt hA9
    have hrow5 : Row w5 (.slice av ts.length cv) 131 2 ts.length (pairs ts) :=
      ((h.row.frm F3 (fun _ _ h => h)).frm f4 (fun x hx hs => by have := hlow x hx; omega)).frm f5 (fun x hx hs => by have := hlow x hx; omega)
    refine runWLaw40 ?_
    refine s_val (r_build rfl (bld_pair _ _ _)) wnt_none ?_
    refine s_val (r_bs rfl (bs_pair _ _ _)) wnt_none ?_
    obtain ⟨v7, w7, e7, r7, f7, n7⟩ := run_append (P := Tryz.prog) (ty := 71) (sT := 71) (xT := 71) (cx := 1) (m := 1) (ox := 0) (sz := 2) (by' := 16) (u_ok rfl) (u_ok rfl) (fun kk h => by cases h) (s_ok rfl) (b_ok rfl) (z_ok rfl) rfl (hrow5.frm (Frm.of_alloc (S := fun _ => False) w5 (cel [Ptr t, Ptr ro] 131)) (fun _ _ h => h)) (at_alloc_new w5 (cel [Ptr t, Ptr ro] 131)) (by simp) (by intro u hu; exact pairs_one [⟨t, ro, l⟩] u (by simpa [pairs, sub] using hu)) (by omega) (by omega)
    refine s_val (r_app rfl rfl e7) wnt_none ?_
    have hsz6 : (w5.alloc (cel [Ptr t, Ptr ro] 131)).heap.size = w5.heap.size + 1 := World.size_alloc _ _
    rcases r7 with ⟨_, hz7, _⟩ | ⟨b7, cap7, rest7, rfl, hA7, hl7, hr7, hc7⟩
    · omega
    · have hh7 := f7.at (b := wp) (fun hx => by have := hlow wp hx; omega) (at_alloc (cel [Ptr t, Ptr ro] 131) hh5)
      have hb7 : InV (.slice av ts.length cv) b7 ∨ w5.heap.size + 1 ≤ b7 := by
        rcases n7 b7 ⟨_, _, _, rfl⟩ with h8 | h8
        · exact .inl h8
        · exact .inr (by rw [← hsz6]; exact h8)
      have hb7' : wp < b7 ∧ (b7 < w0.heap.size ∨ w5.heap.size + 1 ≤ b7) := by
        rcases hb7 with h8 | h8
        · have := hlow b7 h8; omega
        · omega
      refine runWLaw40 ?_
      refine s_skip (r_store_s (s_ok rfl) rfl rfl hh7 (by simp)) wnt_none ?_
      refine runWLaw40 ?_
      refine s_val (r_nn rfl) (by (first | (with_reducible exact wnt_none) | ((with_reducible apply wnt_y); exact rfl; exact rfl; exact rfl; exact rfl; (with_reducible exact rfl)))) ?_
      refine runWLaw40 ?_
      have s7 := f7.size
      refine ret_b rfl rfl ⟨rfl, ⟨.slice (some ⟨b7, 0, none⟩) (ts.length + 1) cap7, fun x => open Classical in if (w0.heap.size ≤ x ∧ x < w.heap.size) ∨ (w3.heap.size ≤ x ∧ x < w4.heap.size) then 2 * ts.length + 1 else if x = ro ∨ x = b5 then 2 * ts.length + 2 else col x, ro, ?_, ?_, ?_⟩, ?_⟩
      · have fT : Frm (fun x => x = wp ∨ InV (.slice av ts.length cv) x) w5 (setB w7 wp (cel ((.slice av ts.length cv :: tail).set (0 + 0) (.slice (some ⟨b7, 0, none⟩) (ts.length + 1) cap7)) 79)) :=
          ((Frm.of_alloc w5 _).trans f7 (fun x hx => .inl (.inr hx))).setB (.inl (.inl rfl)) _
        have hlen7 : (setB w7 wp (cel ((.slice av ts.length cv :: tail).set (0 + 0) (.slice (some ⟨b7, 0, none⟩) (ts.length + 1) cap7)) 79)).heap.size = w7.heap.size := size_setB _ _ _
        have hcol : ∀ x, x < w0.heap.size → (if (w0.heap.size ≤ x ∧ x < w.heap.size) ∨ (w3.heap.size ≤ x ∧ x < w4.heap.size) then 2 * ts.length + 1 else if x = ro ∨ x = b5 then 2 * ts.length + 2 else col x) = col x := fun x hx => by
          rw [if_neg (by omega), if_neg (by omega)]
        have hcolr : ∀ x, x = ro ∨ x = b5 → (if (w0.heap.size ≤ x ∧ x < w.heap.size) ∨ (w3.heap.size ≤ x ∧ x < w4.heap.size) then 2 * ts.length + 1 else if x = ro ∨ x = b5 then 2 * ts.length + 2 else col x) = 2 * ts.length + 2 := fun x hx => by
          rw [if_neg (by rcases hx with h8 | h8 <;> subst h8 <;> omega), if_pos hx]
        have hb5lt := at_lt hR5.row
        refine ⟨?_, ?_, ?_, ?_, ?_, ?_, h.tail4⟩
        · exact at_setB _ hh7
        · rw [List.length_append, pairs_append]
          exact .inr ⟨b7, cap7, rest7, rfl, at_setB_ne _ (by omega) hA7, hl7, hr7, hc7⟩
        · rintro x ⟨_, _, _, hv⟩
          cases hv
          refine ⟨hb7'.1, ?_⟩
          rcases hb7 with h8 | h8
          · have h9 := hlow b7 h8
            rw [hcol b7 h9.2.2, h9.2.1]
          · rw [if_neg (by omega), if_neg (by omega)]
            exact h.high b7 (by omega)
        · intro i x hx
          by_cases hi : i < ts.length
          · rw [List.getElem?_append_left hi] at hx
            have hT := (((h.each i x hx).frm sp F3 (fun _ _ h => h)).frm sp f4 (fun y hy hs => by
              have : ¬ w0.heap.size ≤ y := fun h8 => by have := h.high y h8; omega
              omega)).frm sp f5 (fun y hy hs => by
              have : ¬ w0.heap.size ≤ y := fun h8 => by have := h.high y h8; omega
              omega)
            have hT2 := hT.frm sp fT (fun y hy hs => by
              rcases hs with h8 | h8
              · have := h.col0 y (by omega); omega
              · have := hlow y h8; omega)
            have hlt : ∀ y, col y = 2 * i + 1 ∨ col y = 2 * i + 2 → y < w0.heap.size := fun y hy => by
              rcases Nat.lt_or_ge y w0.heap.size with h8 | h8
              · exact h8
              · have := h.high y h8; omega
            obtain ⟨rb, rc, rr, hRR, c1, c2⟩ := hT2.rt
            exact ⟨sp.weak hT2.pt (fun y hy _ => by rw [hcol y (hlt y (.inl hy))]; exact hy), ⟨rb, rc, rr, hRR, by rw [hcol _ (hlt _ (.inr c1))]; exact c1, by rw [hcol _ (hlt _ (.inr c2))]; exact c2⟩, hT2.wf⟩
          · have hi2 : i = ts.length := by
              have := (List.getElem?_eq_some_iff.1 hx).1
              simp at this
              omega
            subst hi2
            rw [List.getElem?_append_right (by omega)] at hx
            simp at hx
            subst hx
            have hnr : ¬ (ro = wp ∨ InV (.slice av ts.length cv) ro) := by
              rintro (h8 | h8)
              · omega
              · have := hlow ro h8; omega
            have hnb : ¬ (b5 = wp ∨ InV (.slice av ts.length cv) b5) := by
              rintro (h8 | h8)
              · omega
              · have := hlow b5 h8; omega
            refine ⟨?_, ⟨b5, cap5, rest5, hR5.frm fT hnr hnb, hcolr ro (.inl rfl), hcolr b5 (.inr rfl)⟩, hW.apply _⟩
            have hP5 : PT w4 t (applyL l (setE ts.length)) (fun x => (w0.heap.size ≤ x ∧ x < w.heap.size) ∨ (w3.heap.size ≤ x ∧ x < w4.heap.size)) := sp.weak hP4 (fun x hx hlt => hx.imp id (fun h8 => ⟨h8, hlt⟩))
            have hP6 := sp.frm (sp.frm hP5 f5 (fun x hx hs => by omega)) fT (fun x hx hs => by
              rcases hs with h8 | h8
              · omega
              · have := hlow x h8; omega)
            exact sp.weak hP6 (fun x hx _ => by rw [if_pos hx])
        · intro x hx
          rw [hcol x (by omega)]
          exact h.col0 x hx
        · intro x hx
          rw [hlen7] at hx
          rw [if_neg (by omega), if_neg (by omega)]
          exact h.high x (by omega)
      · intro x hx
        show (if _ then _ else _) = _
        rw [if_neg (by omega), if_neg (by omega)]
      · rintro x ⟨_, _, _, hv⟩
        cases hv
        rcases hb7 with h8 | h8
        · exact .inl h8
        · exact .inr (by omega)
      · refine Frm.setB ?_ (.inl (.inl rfl)) _
        refine Frm.trans (Frm.alloc (Frm.trans (Frm.trans (F3.mono (fun _ h => h.elim)) f4 (fun x hx => .inr hx.1)) f5 (fun x hx => .inr (by omega))) _) f7 (fun x hx => .inl (.inr (.inl hx)))
end
end Go.Proofs.YtbicffldggcdhaaGreatDoor
