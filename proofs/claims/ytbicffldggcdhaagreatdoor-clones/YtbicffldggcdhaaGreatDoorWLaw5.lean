/-
  The law's one, walked: a step on a tree (Apply, Find, Len).
-/
import Derived.Test.YtbicffldggcdhaaGreatDoorWLaw4
namespace Go.Proofs.YtbicffldggcdhaaGreatDoor
open Go
theorem runWLaw50 {G K : Prop} (k : K) (h : Wrap K → G := by intro h; (repeat (first | (with_reducible first | refine wpIn_seq ?_ | refine w_reg ?_ | refine s_nil ?_ | refine s_nilQ ?_ | refine wpIn_block ?_ | refine q_then ?_ | refine q_blk ?_ | refine q_then_ret ?_ | refine q_blk_ret ?_ | refine q_then_exit ?_ | refine q_blk_exit ?_ | refine wpIn_skip ?_ | refine wpIn_ret ?_ | refine wpIn_exit ?_ | refine y_nil ?_ | refine y_nilQ ?_ | refine x_late ?_) | ((with_reducible refine q_blk_other ?_ ?_); exact rfl) | ((with_reducible apply c_true); exact rfl; (with_reducible exact rfl)) | ((with_reducible apply c_false); exact rfl; (with_reducible exact rfl)) | ((with_reducible apply s_no); (first | ((with_reducible apply wnt_nt); exact rfl; exact rfl; exact rfl; exact rfl; (with_reducible exact rfl)) | ((with_reducible apply wnt_nf); exact rfl; exact rfl; exact rfl; exact rfl; (with_reducible exact rfl)))) | ((with_reducible apply x_qno); exact rfl; (first | ((with_reducible apply wnt_nt); exact rfl; exact rfl; exact rfl; exact rfl; (with_reducible exact rfl)) | ((with_reducible apply wnt_nf); exact rfl; exact rfl; exact rfl; exact rfl; (with_reducible exact rfl)))) | ((first | with_reducible apply s_val | ((with_reducible apply y_val); exact rfl) | ((with_reducible apply x_q); exact rfl; intro wq hq)); (first | ((with_reducible apply r_boxA); exact rfl) | ((with_reducible apply r_box1); exact rfl; exact rfl) | ((with_reducible apply r_assign_b); exact rfl) | ((with_reducible apply r_fld); exact fa_ok rfl; exact rfl) | ((with_reducible apply r_load); exact u_ok rfl; exact rfl; exact rfl; (first | exact Frm.at0 hq (by assumption) | exact Frm.at hq (by assumption) (by assumption) | (first | (with_reducible assumption) | assumption | exact at_alloc_new _ _ | (repeat (first | assumption | exact at_alloc_new _ _ | refine at_drew ?_ | refine at_alloc _ ?_)))); exact rfl) | ((with_reducible apply r_eql_t); exact rfl; exact rfl; omega) | ((with_reducible apply r_eql_f); exact rfl; exact rfl; omega) | ((with_reducible apply r_eql); exact rfl; exact rfl) | ((with_reducible apply r_loadA); exact u_ok rfl; exact rfl; exact s_ok rfl; exact rfl; (first | exact Frm.at0 hq (by assumption) | exact Frm.at hq (by assumption) (by assumption) | (first | (with_reducible assumption) | assumption | exact at_alloc_new _ _ | (repeat (first | assumption | exact at_alloc_new _ _ | refine at_drew ?_ | refine at_alloc _ ?_)))); exact Nat.le_of_ble_eq_true rfl) | ((with_reducible apply r_assign_if); exact rfl) | ((with_reducible apply r_assign_ni); exact rfl) | ((with_reducible apply r_assign_i); exact rfl) | ((with_reducible apply r_move_if); exact rfl) | ((with_reducible apply r_move_ni); exact rfl) | ((with_reducible apply r_move_i); exact rfl) | ((with_reducible apply r_move_t); exact rfl) | ((with_reducible apply r_extract); exact rfl; exact rfl) | ((with_reducible apply r_allocA); exact z_ok rfl) | ((with_reducible apply r_alloc1); exact z_ok rfl; exact rfl) | ((with_reducible apply r_lss_t); exact rfl; exact rfl; omega) | ((with_reducible apply r_lss_f); exact rfl; exact rfl; omega) | ((with_reducible apply r_lss); exact rfl; exact rfl) | ((with_reducible apply r_move_b); exact rfl) | ((with_reducible apply r_not_t); exact rfl; (with_reducible exact rfl)) | ((with_reducible apply r_not_f); exact rfl; (with_reducible exact rfl)) | ((with_reducible apply r_not); exact rfl) | ((with_reducible apply r_pick_t); exact rfl; (with_reducible exact rfl); exact rfl) | ((with_reducible apply r_pick_f); exact rfl; (with_reducible exact rfl); exact rfl) | ((with_reducible apply r_nilCheck); exact rfl) | ((with_reducible apply r_index); exact u_ok rfl; exact s_ok rfl; exact rfl; exact rfl; omega; omega) | ((with_reducible apply r_indexarr); exact u_ok rfl; exact s_ok rfl; exact rfl; exact rfl; omega; omega) | ((with_reducible apply r_len); exact u_ok rfl; exact rfl) | ((with_reducible apply r_assign_p); exact rfl) | ((with_reducible apply r_move_p); exact rfl)); (first | (with_reducible exact wnt_none) | ((with_reducible apply wnt_y); exact rfl; exact rfl; exact rfl; exact rfl; (with_reducible exact rfl)))))); exact h.out) : G := h ⟨k⟩

structure OpR where
  kind : Int
  a : Int
  b : Int
  c : Int
  e : Ed
def OpR.vals (o : OpR) : List Value := [I o.kind, I o.a, I o.b, I o.c, I o.e.kind, I o.e.node, I o.e.parent, I o.e.key, I o.e.prop, I o.e.value]
abbrev OpV (o : OpR) : Value := .agg o.vals.toArray
/-- The reasons lie below wp. -/
structure EI (w : World) (wp : Nat) (ea : List Addr) : Prop where
  errs : Errs w ea
  g : ∀ g ∈ errG, g < wp
  a : ∀ a ∈ ea, a.block < wp
theorem EI.frm {w w' : World} {wp : Nat} {ea : List Addr} {S : Nat → Prop} (h : EI w wp ea) (f : Frm S w w') (hs : ∀ b, S b → wp ≤ b) : EI w' wp ea :=
  ⟨h.errs.frm f (fun g hg hS => by have := h.g g hg; have := hs g hS; omega) (fun a ha hS => by have := h.a a ha; have := hs a.block hS; omega), h.g, h.a⟩
theorem EI.frm0 {w w' : World} {wp : Nat} {ea : List Addr} (h : EI w wp ea) (f : Frm0 w w') : EI w' wp ea := h.frm f (fun _ h => h.elim)

theorem pairs_set : ∀ {ts : List TP} {i : Nat} {x : TP} {l : List Nd}, ts[i]? = some x → pairs (ts.set i ⟨x.t, x.r, l⟩) = pairs ts
  | [], i, x, _, h => by simp at h
  | y :: ts, 0, x, _, h => by
    simp at h
    subst h
    rfl
  | y :: ts, i + 1, x, l, h => by
    simp only [List.set_cons_succ, pairs]
    rw [pairs_set (by simpa using h)]
/-- What a step leaves. -/
def TStep (PT : World → Nat → List Nd → (Nat → Prop) → Prop) (w w' : World) (wp : Nat) (tsv : Value) (col : Nat → Nat) (tail : List Value) (n : Nat) : Prop :=
  (∃ tsv' ts col', TI PT w' wp tsv' tail ts col' ∧ ts.length ≤ n ∧ (∀ b, b < w.heap.size → col' b = col b) ∧ ∀ b, InV tsv' b → InV tsv b ∨ w.heap.size ≤ b) ∧ Frm (TS wp tsv col) w w'

section
variable {PT : World → Nat → List Nd → (Nat → Prop) → Prop}
set_option maxHeartbeats 2000000 in
theorem one_apply (sp : TreeSpec PT) {w : World} {wp : Nat} {tsv : Value} {tail : List Value} {ts : List TP} {col : Nat → Nat} {ea : List Addr} {i : Nat} {x : TP} {o : OpR}
    (h : TI PT w wp tsv tail ts col) (hE : EI w wp ea) (hx : ts[i]? = some x) (hk : o.kind = 2) :
    Rets Tryz.prog 60 [Ptr wp, .agg [Ptr x.t, Ptr x.r].toArray, OpV o] w fun v w' => v = B true ∧ TStep PT w w' wp tsv col tail ts.length := by
  have hwp := at_lt h.head
  obtain ⟨hpt, ⟨rb, rcap, rrest, hR, cr, cb⟩, hW⟩ := h.each i x hx
  have hsm := hW.small
  have hrl := at_lt hR.head
  have hbl := at_lt hR.row
  have hwpr : wp < x.r := by rcases Nat.lt_or_ge wp x.r with h8 | h8; exact h8; have := h.col0 _ h8; omega
  have hwpb : wp < rb := by rcases Nat.lt_or_ge wp rb with h8 | h8; exact h8; have := h.col0 _ h8; omega
  refine rets_of Tryz.func60 (by kernel_rfl) rfl Tryz.ntmps60 (Nat.le_of_ble_eq_true rfl) ?_
  refine runWLaw50 ?_
  have f1 : Frm0 w ((w.alloc (cel [Ptr x.t, Ptr x.r] 131)).alloc (cel o.vals 81)) := ((Frm.refl _ w).alloc _).alloc _
  have hp1 : At ((w.alloc (cel [Ptr x.t, Ptr x.r] 131)).alloc (cel o.vals 81)) w.heap.size (cel [Ptr x.t, Ptr x.r] 131) := at_alloc _ (at_alloc_new _ _)
  have ho1 : At ((w.alloc (cel [Ptr x.t, Ptr x.r] 131)).alloc (cel o.vals 81)) (w.heap.size + 1) (cel o.vals 81) := by
    have := at_alloc_new (w.alloc (cel [Ptr x.t, Ptr x.r] 131)) (cel o.vals 81)
    rw [World.size_alloc] at this
    exact this
  have hs1 : ((w.alloc (cel [Ptr x.t, Ptr x.r] 131)).alloc (cel o.vals 81)).heap.size = w.heap.size + 2 := by rw [World.size_alloc, World.size_alloc]
  rw [show (w.alloc (cel [Ptr x.t, Ptr x.r] 131)).heap.size = w.heap.size + 1 from World.size_alloc _ _]
  generalize (w.alloc (cel [Ptr x.t, Ptr x.r] 131)).alloc (cel o.vals 81) = w1 at *
  have hE1 := hE.frm0 f1
  refine runWLaw50 ?_
  refine s_callf (sp.apply (ea := ea) o.e (sp.frm hpt f1 (fun _ _ h => h)) hW hE1.errs (fun g hg hs => by have := hE.g g hg; have := h.col0 g (by omega); omega) (fun a ha hs => by have := hE.a a ha; have := h.col0 a.block (by omega); omega)) rfl wnt_none ?_
  rintro v w2 ⟨hEr, hP2, f2, hfresh⟩
  have s2 := f2.size
  have hlt : ∀ y, col y ≠ 0 → wp < y ∧ y < w.heap.size := fun y hy => by
    constructor
    · rcases Nat.lt_or_ge wp y with h8 | h8
      · exact h8
      · exact absurd (h.col0 y h8) hy
    · rcases Nat.lt_or_ge y w.heap.size with h8 | h8
      · exact h8
      · exact absurd (h.high y h8) hy
  have hp2 := f2.at (fun h8 => by have := hlt w.heap.size (by omega); omega) hp1
  have ho2 := f2.at (fun h8 => by have := hlt (w.heap.size + 1) (by omega); omega) ho1
  have hR2 : RefT w2 x.r rb rcap rrest x.l := (hR.frm0 f1).frm f2 (fun h8 => by omega) (fun h8 => by omega)
  have fin : ∀ w3 : World, ErrIs ea w2 v (refused x.l o.e) o.e → (∃ b3 cap3 rest3, RefT w3 x.r b3 cap3 rest3 (applyL x.l o.e) ∧ (b3 = rb ∨ w2.heap.size ≤ b3)) → RFrm x.r rb w2 w3 →
      ErrIs ea w3 v (refused x.l o.e) o.e ∧ EI w3 wp ea ∧ ∀ w4, Frm0 w3 w4 → TStep PT w w4 wp tsv col tail ts.length := by
    intro w3 hEr ⟨b3, cap3, rest3, hR3, hb3⟩ f3
    have s3 := f3.size
    have hb3lt := at_lt hR3.row
    refine ⟨?_, ?_, ?_⟩
    · rcases hEr with h8 | ⟨h0, b8, a8, rfl, hA8, h9⟩
      · exact .inl h8
      · have := hfresh b8 rfl
        exact .inr ⟨h0, b8, a8, rfl, f3.at (by omega) hA8, h9⟩
    · exact (hE1.frm f2 (fun b hb => by have := hlt b (by omega); omega)).frm f3 (fun b hb => by omega)
    · intro w4 f4
      have s4 := f4.size
      have hcol : ∀ y, y < w.heap.size → (if w1.heap.size ≤ y ∧ y < w2.heap.size then 2 * i + 1 else if w2.heap.size ≤ y ∧ y = b3 then 2 * i + 2 else col y) = col y := fun y hy => by
        rw [if_neg (by omega), if_neg (by omega)]
      have hcol2 : ∀ y, col y ≠ 0 → (if w1.heap.size ≤ y ∧ y < w2.heap.size then 2 * i + 1 else if w2.heap.size ≤ y ∧ y = b3 then 2 * i + 2 else col y) = col y := fun y hy => hcol y (hlt y hy).2
      have F : Frm (fun b => col b = 2 * i + 1 ∨ col b = 2 * i + 2) w w4 := (((f1.mono (fun _ h => h.elim)).trans f2 (fun y hy => .inl (.inl hy))).trans f3 (fun y hy => .inl (by
        rcases hy with h8 | h8
        · subst h8; exact .inr cr
        · subst h8; exact .inr cb))).trans0 f4
      refine ⟨⟨tsv, ts.set i ⟨x.t, x.r, applyL x.l o.e⟩, fun y => if w1.heap.size ≤ y ∧ y < w2.heap.size then 2 * i + 1 else if w2.heap.size ≤ y ∧ y = b3 then 2 * i + 2 else col y, ⟨?_, ?_, ?_, ?_, ?_, ?_, h.tail4⟩, by rw [List.length_set]; exact Nat.le_refl _, hcol, fun b hb => .inl hb⟩, F.mono (fun y hy => .inl (.inr (.inr (by omega))))⟩
      · exact F.at (by have := h.col0 wp (Nat.le_refl _); omega) h.head
      · rw [pairs_set hx, List.length_set]
        exact h.row.frm F (fun y hy hs => by have := (h.rowc y hy).2; omega)
      · intro y hy
        obtain ⟨h8, h9⟩ := h.rowc y hy
        refine ⟨h8, ?_⟩
        have : y < w.heap.size := by
          rcases h.row with ⟨e1, _⟩ | ⟨b9, cap9, rest9, e1, hA9, _⟩
          · rw [e1] at hy
            obtain ⟨_, _, _, hv⟩ := hy
            cases hv
          · rw [e1] at hy
            obtain ⟨_, _, _, hv⟩ := hy
            cases hv
            exact at_lt hA9
        rw [hcol y this, h9]
      · intro j y hy
        by_cases hij : i = j
        · subst hij
          have hil := (List.getElem?_eq_some_iff.1 hx).1
          rw [List.getElem?_set_self hil] at hy
          cases hy
          refine ⟨?_, ⟨b3, cap3, rest3, hR3.frm0 f4, ?_, ?_⟩, hW.apply _⟩
          · have hP3 : PT w2 x.t (applyL x.l o.e) (fun y => col y = 2 * i + 1 ∨ (w1.heap.size ≤ y ∧ y < w2.heap.size)) := sp.weak hP2 (fun y h8 h9 => h8.imp id (fun h8 => ⟨h8, h9⟩))
            refine sp.weak (sp.frm (sp.frm hP3 f3 (fun y h8 h9 => ?_)) f4 (fun _ _ h => h)) (fun y h8 _ => ?_)
            · rcases h9 with h9 | h9
              · subst h9; omega
              · subst h9; omega
            · rcases h8 with h8 | h8
              · show (if _ then _ else _) = _
                rw [hcol2 y (by omega)]; exact h8
              · show (if _ then _ else _) = _
                rw [if_pos h8]
          · show (if _ then _ else _) = _
            rw [hcol2 x.r (by omega)]; exact cr
          · show (if _ then _ else _) = _
            rcases hb3 with h8 | h8
            · rw [hcol2 b3 (by rw [h8]; omega), h8]; exact cb
            · rw [if_neg (by omega), if_pos ⟨h8, rfl⟩]
        · rw [List.getElem?_set_ne hij] at hy
          have hT := (h.each j y hy).frm sp F (fun z hz hs => by omega)
          obtain ⟨jb, jc, jr, hRR, c1, c2⟩ := hT.rt
          exact ⟨sp.weak hT.pt (fun z hz _ => by show (if _ then _ else _) = _; rw [hcol2 z (by omega)]; exact hz), ⟨jb, jc, jr, hRR, by show (if _ then _ else _) = _; rw [hcol2 y.r (by omega)]; exact c1, by show (if _ then _ else _) = _; rw [hcol2 jb (by omega)]; exact c2⟩, hT.wf⟩
      · intro y hy
        show (if _ then _ else _) = _
        rw [hcol y (by omega)]
        exact h.col0 y hy
      · intro y hy
        show (if _ then _ else _) = _
        rw [if_neg (by omega), if_neg (by omega)]
        exact h.high y (by omega)
  have hEr0 := hEr
  obtain ⟨vv, hvv⟩ : ∃ vv, vv = v := ⟨v, rfl⟩
  rcases hEr with ⟨_, rfl⟩ | ⟨_, b8, a8, rfl, _, _⟩
  all_goals
    refine runWLaw50 ?_
    refine s_callf (RApply_ret hR2 (by omega) hW.clo hW.nodup hW.rootId o.e) rfl wnt_none ?_
    rintro v3 w3 ⟨rfl, hTo, f3⟩
    obtain ⟨hEr3, hE3, hend⟩ := fin w3 hEr0 hTo f3
    have hp3 := f3.at (b := w.heap.size) (by omega) hp2
    have ho3 := f3.at (b := w.heap.size + 1) (by omega) ho2
    refine runWLaw50 ?_
    refine s_callf (reason_ret hE3.errs hEr3) rfl wnt_none ?_
    rintro v4 w4 ⟨rfl, f4⟩
    refine runWLaw50 ?_
    exact ret_b rfl rfl ⟨rfl, hend w4 f4⟩
end
end Go.Proofs.YtbicffldggcdhaaGreatDoor
