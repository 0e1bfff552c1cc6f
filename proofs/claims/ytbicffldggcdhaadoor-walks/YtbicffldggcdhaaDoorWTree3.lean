/-
  The program's tree: create, move, set, walked.
-/
import Derived.Test.YtbicffldggcdhaaDoorWTree2
namespace Go.Proofs.YtbicffldggcdhaaDoor
open Go
theorem runWTree30 {G K : Prop} (k : K) (h : Wrap K → G := by intro h; (repeat (first | (with_reducible first | refine wpIn_seq ?_ | refine w_reg ?_ | refine s_nil ?_ | refine s_nilQ ?_ | refine wpIn_block ?_ | refine q_then ?_ | refine q_blk ?_ | refine q_then_ret ?_ | refine q_blk_ret ?_ | refine q_then_exit ?_ | refine q_blk_exit ?_ | refine wpIn_skip ?_ | refine wpIn_ret ?_ | refine wpIn_exit ?_ | refine y_nil ?_ | refine y_nilQ ?_ | refine x_late ?_) | ((with_reducible refine q_blk_other ?_ ?_); exact rfl) | ((with_reducible apply c_true); exact rfl; (with_reducible exact rfl)) | ((with_reducible apply c_false); exact rfl; (with_reducible exact rfl)) | ((first | with_reducible apply s_val | ((with_reducible apply y_val); exact rfl) | ((with_reducible apply x_q); exact rfl; intro wq hq)); (first | ((with_reducible apply r_boxA); exact rfl) | ((with_reducible apply r_box1); exact rfl; exact rfl) | ((with_reducible apply r_assign_if); exact rfl) | ((with_reducible apply r_assign_ni); exact rfl) | ((with_reducible apply r_move_p); exact rfl) | ((with_reducible apply r_fld); exact fa_ok rfl; exact rfl) | ((with_reducible apply r_load); exact u_ok rfl; exact rfl; exact rfl; (first | exact Frm.at0 hq (by assumption) | exact Frm.at hq (by assumption) (by assumption) | (first | (with_reducible assumption) | assumption | exact at_alloc_new _ _ | (repeat (first | assumption | exact at_alloc_new _ _ | refine at_drew ?_ | refine at_alloc _ ?_)))); exact rfl) | ((with_reducible apply r_assign_b); exact rfl) | ((with_reducible apply r_not_t); exact rfl; (with_reducible exact rfl)) | ((with_reducible apply r_not_f); exact rfl; (with_reducible exact rfl)) | ((with_reducible apply r_not); exact rfl) | ((with_reducible apply r_geq_t); exact rfl; exact rfl; omega) | ((with_reducible apply r_geq_f); exact rfl; exact rfl; omega) | ((with_reducible apply r_geq); exact rfl; exact rfl) | ((with_reducible apply r_nilCheck); exact rfl)); (with_reducible exact wnt_none)))); exact h.out) : G := h ⟨k⟩
theorem runWTree31 {G K : Prop} (k : K) (h : Wrap K → G := by intro h; (repeat (first | (with_reducible first | refine wpIn_seq ?_ | refine w_reg ?_ | refine s_nil ?_ | refine s_nilQ ?_ | refine wpIn_block ?_ | refine q_then ?_ | refine q_blk ?_ | refine q_then_ret ?_ | refine q_blk_ret ?_ | refine q_then_exit ?_ | refine q_blk_exit ?_ | refine wpIn_skip ?_ | refine wpIn_ret ?_ | refine wpIn_exit ?_ | refine y_nil ?_ | refine y_nilQ ?_ | refine x_late ?_) | ((with_reducible refine q_blk_other ?_ ?_); exact rfl) | ((with_reducible apply c_true); exact rfl; (with_reducible exact rfl)) | ((with_reducible apply c_false); exact rfl; (with_reducible exact rfl)) | ((first | with_reducible apply s_val | ((with_reducible apply y_val); exact rfl) | ((with_reducible apply x_q); exact rfl; intro wq hq)); (first | ((with_reducible apply r_boxA); exact rfl) | ((with_reducible apply r_box1); exact rfl; exact rfl) | ((with_reducible apply r_assign_if); exact rfl) | ((with_reducible apply r_assign_ni); exact rfl) | ((with_reducible apply r_move_p); exact rfl) | ((with_reducible apply r_fld); exact fa_ok rfl; exact rfl) | ((with_reducible apply r_load); exact u_ok rfl; exact rfl; exact rfl; (first | exact Frm.at0 hq (by assumption) | exact Frm.at hq (by assumption) (by assumption) | (first | (with_reducible assumption) | assumption | exact at_alloc_new _ _ | (repeat (first | assumption | exact at_alloc_new _ _ | refine at_drew ?_ | refine at_alloc _ ?_)))); exact rfl) | ((with_reducible apply r_not_t); exact rfl; (with_reducible exact rfl)) | ((with_reducible apply r_not_f); exact rfl; (with_reducible exact rfl)) | ((with_reducible apply r_not); exact rfl) | ((with_reducible apply r_nilCheck); exact rfl) | ((with_reducible apply r_look); exact u_ok rfl; exact u_ok rfl; exact z_ok rfl; exact rfl; exact rfl; (first | exact Frm.at0 hq (by assumption) | exact Frm.at hq (by assumption) (by assumption) | (first | (with_reducible assumption) | assumption | exact at_alloc_new _ _ | (repeat (first | assumption | exact at_alloc_new _ _ | refine at_drew ?_ | refine at_alloc _ ?_)))); assumption) | ((with_reducible apply r_allocA); exact z_ok rfl) | ((with_reducible apply r_alloc1); exact z_ok rfl; exact rfl) | ((with_reducible apply r_index); exact u_ok rfl; exact s_ok rfl; exact rfl; exact rfl; omega; omega) | ((with_reducible apply r_indexarr); exact u_ok rfl; exact s_ok rfl; exact rfl; exact rfl; omega; omega) | ((with_reducible apply r_loadA); exact u_ok rfl; exact rfl; exact s_ok rfl; exact rfl; (first | exact Frm.at0 hq (by assumption) | exact Frm.at hq (by assumption) (by assumption) | (first | (with_reducible assumption) | assumption | exact at_alloc_new _ _ | (repeat (first | assumption | exact at_alloc_new _ _ | refine at_drew ?_ | refine at_alloc _ ?_)))); exact Nat.le_of_ble_eq_true rfl)); (with_reducible exact wnt_none)))); exact h.out) : G := h ⟨k⟩

/-- A bare reason: none, or the one of that number. -/
def RsnIs (ea : List Addr) (v : Value) (n : Nat) : Prop := (n = 0 ∧ v = .nilIface) ∨ (0 < n ∧ ∃ a, v = errV a ∧ ea[n - 1]? = some a)
/-- The six reasons that a tree tells. -/
structure Err6 (w : World) (ea : List Addr) : Prop where
  one : ∀ (i g : Nat), i < 6 → errG[i]? = some g → ∃ a ty k, ea[i]? = some a ∧ At w g (.cells [errV a].toArray ty k)
theorem Err6.frm0 {w w' : World} {ea : List Addr} (h : Err6 w ea) (f : Frm0 w w') : Err6 w' ea :=
  ⟨fun i g hi hg => let ⟨a, ty, k, h1, h2⟩ := h.one i g hi hg; ⟨a, ty, k, h1, f.at0 h2⟩⟩
theorem Errs.six {w : World} {ea : List Addr} (hE : Errs w ea) : Err6 w ea := by
  refine ⟨fun i g hi hg => ?_⟩
  have hl : i < ea.length := by rw [hE.len]; omega
  obtain ⟨⟨ty, k, h⟩, _⟩ := hE.one i g ea[i] hg (List.getElem?_eq_getElem hl)
  exact ⟨ea[i], ty, k, List.getElem?_eq_getElem hl, h⟩
theorem err_at {w : World} {ea : List Addr} (hE : Err6 w ea) (i g : Nat) (hg : errG[i]? = some g) (hi : i < 6 := by decide) : ∃ a ty k, ea[i]? = some a ∧ At w g (.cells [errV a].toArray ty k) := hE.one i g hi hg
theorem rsn {ea : List Addr} {a : Addr} {n : Nat} (hn : 0 < n) (ha : ea[n - 1]? = some a) : RsnIs ea (errV a) n := .inr ⟨hn, a, rfl, ha⟩
/-- What an edit leaves: the tree in the same blocks. -/
def TreeTo (w' : World) (t mb : Nat) (l : List Nd) : Prop := ∃ es cl m, TreeAt w' t mb es cl m ∧ m.Perm l
abbrev DoneL (ea : List Addr) (w w' : World) (t mb : Nat) (l : List Nd) (e : Ed) (v : Value) : Prop := RsnIs ea v (refused l e) ∧ TreeTo w' t mb (applyL l e) ∧ Frm (fun b => b = mb) w w'
theorem frm_mb {w w1 : World} {mb : Nat} (h : Frm0 w w1) (o : Obj) : Frm (fun b => b = mb) w (setB w1.drew mb o) := ((h.mono (T := fun b => b = mb) (fun _ h => h.elim)).drew).setB (b := mb) (.inl rfl) o
theorem set_prop {x : Nd} {p v : Int} (h : 0 ≤ p ∧ p ≤ 3) : x.vals.set (0 + 3 + p.toNat * 1) (I v) = (setProp x p v).vals := by
  have : p = 0 ∨ p = 1 ∨ p = 2 ∨ p = 3 := by omega
  rcases this with h | h | h | h <;> subst h <;> rfl
theorem apply_same {l : List Nd} {e : Ed} {n : Nat} (h : refused l e = n + 1) : applyL l e = l := by rw [applyL, if_pos (by omega)]
theorem done_no {ea : List Addr} {a : Addr} {w w' : World} {t mb : Nat} {es : Array MapEntry} {cl : Nat} {m l : List Nd} {e : Ed} {n : Nat} (h : TreeAt w t mb es cl m) (hp : m.Perm l) (hf : Frm0 w w') (hr : refused l e = n + 1) (ha : ea[n]? = some a) : DoneL ea w w' t mb l e (errV a) := by
  refine ⟨?_, ⟨es, cl, m, h.frm0 hf, ?_⟩, hf.mono (fun _ h => h.elim)⟩
  · rw [hr]
    exact rsn (Nat.succ_pos _) ha
  · rw [apply_same hr]
    exact hp

set_option maxHeartbeats 1000000 in
theorem create_ret {w : World} {t mb : Nat} {es : Array MapEntry} {cl : Nat} {m l : List Nd} {ea : List Addr} (h : TreeAt w t mb es cl m) (hp : m.Perm l) (hw : Wf l) (hE : Err6 w ea) (e : Ed) (hok : wrongB e = false) (k : e.kind = 1) :
    Rets Tryd.prog 23 [Ptr t, EdV e] w fun v w' => DoneL ea w w' t mb l e v := by
  have htm := at_lt h.head
  have hmm := at_lt h.row
  refine rets_of Tryd.func23 (by kernel_rfl) rfl Tryd.ntmps23 (Nat.le_of_ble_eq_true rfl) ?_
  refine runWTree30 ?_
  refine s_callf (has_ret (h.frm0 (Frm.of_alloc _ _)) _) rfl wnt_none ?_
  rintro v w1 ⟨rfl, hf1⟩
  rw [there_perm hp hw.nodup]
  have hbox1 : At w1 w.heap.size (cel e.vals 34) := hf1.at0 (at_alloc_new _ _)
  have hF1 : Frm0 w w1 := (Frm.of_alloc _ _).trans0 hf1
  clear hf1
  cases a : there l e.node
  · refine runWTree30 ?_
    refine s_callf (has_ret (h.frm0 hF1) _) rfl wnt_none ?_
    rintro v w2 ⟨rfl, hf2⟩
    rw [there_perm hp hw.nodup]
    have hbox2 := hf2.at0 hbox1
    have hF2 : Frm0 w w2 := hF1.trans0 hf2
    clear hf2 hbox1
    cases b : there l e.parent
    · (try simp only [Bool.not_false]); (try simp only [Bool.not_true])
      obtain ⟨ad, ty, kk, ha, hA⟩ := err_at (hE.frm0 hF2) 2 2 rfl
      refine runWTree30 ?_
      exact ret_if rfl rfl (done_no h hp hF2 (rf1_par hok k a b) ha)
    · (try simp only [Bool.not_false]); (try simp only [Bool.not_true])
      refine runWTree30 ?_
      refine s_callf (Len_ret (h.frm0 hF2)) rfl wnt_none ?_
      rintro v w3 ⟨rfl, rfl⟩
      rw [hp.length_eq]
      by_cases c : 32 ≤ l.length
      · obtain ⟨ad, ty, kk, ha, hA⟩ := err_at (hE.frm0 hF2) 4 4 rfl
        refine runWTree30 ?_
        exact ret_if rfl rfl (done_no h hp hF2 (rf1_full hok k a b c) ha)
      · have h2 := h.frm0 hF2
        have hh := h2.head
        have hrow := h2.row
        refine runWTree30 ?_
        refine w_drawn ((0, false) :: (1, false) :: (2, false) :: (3, false) :: (4, false) :: (5, false) :: (6, false) :: (7, false) :: (8, false) :: (9, false) :: (10, false) :: (11, false) :: (12, false) :: []) [13] (fun wq => Frm0 w2 wq) mixed (by kernel_rfl) ?_ ?_
        · exact Frm.of_drew _
        · refine runWTree30 ?_
          refine x_q rfl (fun wq hq => r_build rfl (bld_node _ _ _ wq)) wnt_none ?_
          obtain ⟨es', cl', hu, hE'⟩ := upd_run (x := ⟨e.node, e.parent, e.key, 0, 0, 0, 0⟩) (P := Tryd.prog) (w := w2.drew) (ty := 51) (id := e.node) (u_ok rfl) (u_ok rfl) (at_drew hrow) h.ents (perm_nodup hp hw.nodup) rfl
          refine runWTree30 ?_
          refine y_skip rfl (r_upd rfl rfl rfl hu) wnt_none ?_
          refine runWTree30 ?_
          refine ret_ni rfl rfl ⟨.inl ⟨rf1_ok hok k a b c, rfl⟩, ⟨es', cl', _, ⟨at_setB_ne _ h.apart.symm (at_drew hh), at_setB _ (at_drew hrow), hE'⟩, ?_⟩, frm_mb hF2 _⟩
          have h9 : there m e.node = false := by rw [there_perm hp hw.nodup, a]
          rw [applyL, if_neg (by rw [rf1_ok hok k a b c]; simp), if_pos k, putM]
          simp only [h9, Bool.false_eq_true, if_false]
          exact hp.append_right _
  · obtain ⟨ad, ty, kk, ha, hA⟩ := err_at (hE.frm0 hF1) 3 3 rfl
    refine runWTree30 ?_
    exact ret_if rfl rfl (done_no h hp hF1 (rf1_ex hok k a) ha)

/-- A node of the map, changed and put back. -/
theorem put_up {m l : List Nd} {id : Int} {x : Nd} {f : Nd → Nd} (hp : m.Perm l) (hn : (l.map (·.id)).Nodup) (hx : fnd id l = some x) (hf : (f x).id = id) : (putM (f x) m).Perm (upAt id f l) := by
  have hm : fnd id m = some x := by rw [fnd_perm hp hn, hx]
  have ht : there m (f x).id = true := by rw [hf]; exact fnd_there.2 ⟨x, hm⟩
  rw [putM, if_pos ht, hf, upAt_const (perm_nodup hp hn) hm]
  exact hp.map _

set_option maxHeartbeats 1000000 in
theorem set_ret {w : World} {t mb : Nat} {es : Array MapEntry} {cl : Nat} {m l : List Nd} {ea : List Addr} (h : TreeAt w t mb es cl m) (hp : m.Perm l) (hw : Wf l) (hE : Err6 w ea) (e : Ed) (hok : wrongB e = false) (k : e.kind = 4) :
    Rets Tryd.prog 26 [Ptr t, EdV e] w fun v w' => DoneL ea w w' t mb l e v := by
  have htm := at_lt h.head
  have hmm := at_lt h.row
  have hpr := prop_of hok k
  refine rets_of Tryd.func26 (by kernel_rfl) rfl Tryd.ntmps26 (Nat.le_of_ble_eq_true rfl) ?_
  refine runWTree31 ?_
  refine s_callf (has_ret (h.frm0 (Frm.of_alloc _ _)) _) rfl wnt_none ?_
  rintro v w1 ⟨rfl, hf1⟩
  rw [there_perm hp hw.nodup]
  have hbox1 : At w1 w.heap.size (cel e.vals 34) := hf1.at0 (at_alloc_new _ _)
  have hF1 : Frm0 w w1 := (Frm.of_alloc _ _).trans0 hf1
  clear hf1
  have hs1 := hF1.size
  cases a : there l e.node
  · (try simp only [Bool.not_false]); (try simp only [Bool.not_true])
    obtain ⟨ad, ty, kk, ha, hA⟩ := err_at (hE.frm0 hF1) 2 2 rfl
    refine runWTree31 ?_
    exact ret_if rfl rfl (done_no h hp hF1 (rf_node hok (by omega) (.inl k) a) ha)
  · (try simp only [Bool.not_false]); (try simp only [Bool.not_true])
    obtain ⟨x, hx⟩ := fnd_there.1 a
    have hnd : ndOr m e.node = x := by rw [ndOr, fnd_perm hp hw.nodup, hx]; rfl
    have h1 := h.frm0 hF1
    have hh := h1.head
    have hrow := h1.row
    have hents := h1.ents
    refine runWTree31 ?_
    refine w_drawn [(0, false), (1, false), (2, false), (3, false), (4, false), (5, false), (6, false), (7, true)] [8] (fun wq => Frm0 w1 wq) mixed (by kernel_rfl) ?_ ?_
    · exact Frm.of_drew _
    · refine runWTree31 ?_
      refine x_val rfl (r_allocA (z_ok rfl)) wnt_none ((Frm.of_drew w1).alloc _) ?_
      refine runWTree31 ?_
      refine y_skip rfl (r_storeN (nx := ndOr m e.node) (ny := ⟨0, 0, 0, 0, 0, 0, 0⟩) (s_ok rfl) rfl rfl (at_alloc_new _ _)) wnt_none ?_
      rw [setB_alloc, hnd]
      have hc2 := at_alloc_new w1.drew (cel x.vals 40)
      have hF2 : Frm0 w1 (w1.drew.alloc (cel x.vals 40)) := (Frm.of_drew w1).alloc _
      generalize w1.drew.alloc (cel x.vals 40) = w2 at *
      have hbox2 := hF2.at0 hbox1
      refine runWTree31 ?_
      refine s_skip (r_store_i (s_ok rfl) rfl rfl hc2 (by simp [Nd.vals]; omega)) wnt_none ?_
      rw [set_prop hpr]
      have hne : ∀ c, c < w1.heap.size → w1.drew.heap.size ≠ c := fun c hc e => by have : w1.heap.size = c := e; omega
      have hc3 := at_setB (cel (setProp x e.prop e.value).vals 40) hc2
      have hF3 : Frm0 w (setB w2 w1.drew.heap.size (cel (setProp x e.prop e.value).vals 40)) := (hF1.trans0 hF2).setB (.inr hs1) _
      have hbox3 := at_setB_ne (cel (setProp x e.prop e.value).vals 40) (hne _ (at_lt hbox1)) hbox2
      generalize setB w2 w1.drew.heap.size (cel (setProp x e.prop e.value).vals 40) = w3 at *
      have h3 := h.frm0 hF3
      have hh3 := h3.head
      have hrow3 := h3.row
      refine runWTree31 ?_
      refine w_drawn [(0, false), (1, false), (2, false), (3, false), (4, false), (5, false), (6, false)] [7] (fun wq => Frm0 w3 wq) mixed (by kernel_rfl) ?_ ?_
      · exact Frm.of_drew _
      · refine runWTree31 ?_
        obtain ⟨es', cl', hu, hE'⟩ := upd_run (x := setProp x e.prop e.value) (P := Tryd.prog) (w := w3.drew) (ty := 51) (id := e.node) (u_ok rfl) (u_ok rfl) (at_drew hrow3) h.ents (perm_nodup hp hw.nodup) (by rw [(setProp_id x e.prop e.value).1]; exact (fnd_id hx).2)
        refine y_skip rfl (r_upd rfl rfl rfl hu) wnt_none ?_
        refine runWTree31 ?_
        have hr0 := rf34_ok hok (.inr k) (.inl k) a
        refine ret_ni rfl rfl ⟨.inl ⟨hr0, rfl⟩, ⟨es', cl', _, ⟨at_setB_ne _ h.apart.symm (at_drew hh3), at_setB _ (at_drew hrow3), hE'⟩, ?_⟩, frm_mb hF3 _⟩
        rw [applyL, if_neg (by rw [hr0]; simp), if_neg (by omega), if_neg (by omega), if_pos k]
        exact put_up (f := fun y => setProp y e.prop e.value) hp hw.nodup hx (by rw [(setProp_id x e.prop e.value).1]; exact (fnd_id hx).2)
end Go.Proofs.YtbicffldggcdhaaDoor
