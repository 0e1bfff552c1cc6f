/-
  WLaw5; WLaw6; WLaw7; WLaw8; WLaw9; WLaw10; WClone; LSeg; LRow; WRef7; LKids2; WRef8; WWk1; LParty; LMid.
-/
import Derived.Test.YtbicffldggcdhabGreatDoorB03
import Derived.Shelf.SlMaps.Clone
import Derived.Test.YtbicffldggcdhabGreatDoorB02
namespace Go.Proofs.YtbicffldggcdhabGreatDoor
open Go
theorem runG04 {G K : Prop} (k : K) (h : Wrap K → G := by intro h; (repeat (first | (with_reducible first | refine wpIn_seq ?_ | refine w_reg ?_ | refine s_nil ?_ | refine s_nilQ ?_ | refine wpIn_block ?_ | refine q_then ?_ | refine q_blk ?_ | refine q_then_ret ?_ | refine q_blk_ret ?_ | refine q_then_exit ?_ | refine q_blk_exit ?_ | refine wpIn_skip ?_ | refine wpIn_ret ?_ | refine wpIn_exit ?_ | refine y_nil ?_ | refine y_nilQ ?_ | refine x_late ?_) | ((with_reducible refine q_blk_other ?_ ?_); exact rfl) | ((with_reducible apply c_true); exact rfl; (with_reducible exact rfl)) | ((with_reducible apply c_false); exact rfl; (with_reducible exact rfl)) | ((with_reducible apply s_no); (first | ((with_reducible apply wnt_nt); exact rfl; exact rfl; exact rfl; exact rfl; (with_reducible exact rfl)) | ((with_reducible apply wnt_nf); exact rfl; exact rfl; exact rfl; exact rfl; (with_reducible exact rfl)))) | ((with_reducible apply x_qno); exact rfl; (first | ((with_reducible apply wnt_nt); exact rfl; exact rfl; exact rfl; exact rfl; (with_reducible exact rfl)) | ((with_reducible apply wnt_nf); exact rfl; exact rfl; exact rfl; exact rfl; (with_reducible exact rfl)))) | ((first | with_reducible apply s_val | ((with_reducible apply y_val); exact rfl) | ((with_reducible apply x_q); exact rfl; intro wq hq)); (first | ((with_reducible apply r_boxA); exact rfl) | ((with_reducible apply r_box1); exact rfl; exact rfl) | ((with_reducible apply r_assign_b); exact rfl) | ((with_reducible apply r_fld); exact fa_ok rfl; exact rfl) | ((with_reducible apply r_load); exact u_ok rfl; exact rfl; exact rfl; (first | exact Frm.at0 hq (by assumption) | exact Frm.at hq (by assumption) (by assumption) | (first | (with_reducible assumption) | assumption | exact at_alloc_new _ _ | (repeat (first | assumption | exact at_alloc_new _ _ | refine at_drew ?_ | refine at_alloc _ ?_)))); exact rfl) | ((with_reducible apply r_eql_t); exact rfl; exact rfl; omega) | ((with_reducible apply r_eql_f); exact rfl; exact rfl; omega) | ((with_reducible apply r_eql); exact rfl; exact rfl) | ((with_reducible apply r_loadA); exact u_ok rfl; exact rfl; exact s_ok rfl; exact rfl; (first | exact Frm.at0 hq (by assumption) | exact Frm.at hq (by assumption) (by assumption) | (first | (with_reducible assumption) | assumption | exact at_alloc_new _ _ | (repeat (first | assumption | exact at_alloc_new _ _ | refine at_drew ?_ | refine at_alloc _ ?_)))); exact Nat.le_of_ble_eq_true rfl) | ((with_reducible apply r_assign_if); exact rfl) | ((with_reducible apply r_assign_ni); exact rfl) | ((with_reducible apply r_assign_i); exact rfl) | ((with_reducible apply r_move_if); exact rfl) | ((with_reducible apply r_move_ni); exact rfl) | ((with_reducible apply r_move_i); exact rfl) | ((with_reducible apply r_move_t); exact rfl) | ((with_reducible apply r_extract); exact rfl; exact rfl) | ((with_reducible apply r_allocA); exact z_ok rfl) | ((with_reducible apply r_alloc1); exact z_ok rfl; exact rfl) | ((with_reducible apply r_lss_t); exact rfl; exact rfl; omega) | ((with_reducible apply r_lss_f); exact rfl; exact rfl; omega) | ((with_reducible apply r_lss); exact rfl; exact rfl) | ((with_reducible apply r_move_b); exact rfl) | ((with_reducible apply r_not_t); exact rfl; (with_reducible exact rfl)) | ((with_reducible apply r_not_f); exact rfl; (with_reducible exact rfl)) | ((with_reducible apply r_not); exact rfl) | ((with_reducible apply r_pick_t); exact rfl; (with_reducible exact rfl); exact rfl) | ((with_reducible apply r_pick_f); exact rfl; (with_reducible exact rfl); exact rfl) | ((with_reducible apply r_nilCheck); exact rfl) | ((with_reducible apply r_index); exact u_ok rfl; exact s_ok rfl; exact rfl; exact rfl; omega; omega) | ((with_reducible apply r_indexarr); exact u_ok rfl; exact s_ok rfl; exact rfl; exact rfl; omega; omega) | ((with_reducible apply r_len); exact u_ok rfl; exact rfl) | ((with_reducible apply r_assign_p); exact rfl) | ((with_reducible apply r_move_p); exact rfl) | ((with_reducible apply r_geq_t); exact rfl; exact rfl; omega) | ((with_reducible apply r_geq_f); exact rfl; exact rfl; omega) | ((with_reducible apply r_geq); exact rfl; exact rfl) | ((with_reducible apply r_leq_t); exact rfl; exact rfl; omega) | ((with_reducible apply r_leq_f); exact rfl; exact rfl; omega) | ((with_reducible apply r_leq); exact rfl; exact rfl) | ((with_reducible apply r_gtr_t); exact rfl; exact rfl; omega) | ((with_reducible apply r_gtr_f); exact rfl; exact rfl; omega) | ((with_reducible apply r_gtr); exact rfl; exact rfl) | ((with_reducible apply r_assign_s); exact rfl) | ((with_reducible apply r_move_s); exact rfl) | ((with_reducible apply r_add); exact rfl; exact rfl; omega; omega)); (first | (with_reducible exact wnt_none) | ((with_reducible apply wnt_y); exact rfl; exact rfl; exact rfl; exact rfl; (with_reducible exact rfl)))))); exact h.out) : G := h ⟨k⟩

structure OpR where
  kind : Int
  a : Int
  b : Int
  c : Int
  e : Ed
def OpR.vals (o : OpR) : List Value := [I o.kind, I o.a, I o.b, I o.c, I o.e.kind, I o.e.node, I o.e.parent, I o.e.key, I o.e.prop, I o.e.value]
abbrev OpV (o : OpR) : Value := .agg o.vals.toArray
/-- The reasons lie below wp. -/
structure EI (w : World) (wp : Nat) (ea : List Addr) : Prop where
  errs : Errs w ea
  g : ∀ g ∈ errG, g < wp
  a : ∀ a ∈ ea, a.block < wp
theorem EI.frm {w w' : World} {wp : Nat} {ea : List Addr} {S : Nat → Prop} (h : EI w wp ea) (f : Frm S w w') (hs : ∀ b, S b → wp ≤ b) : EI w' wp ea :=
  ⟨h.errs.frm f (fun g hg hS => by have := h.g g hg; have := hs g hS; omega) (fun a ha hS => by have := h.a a ha; have := hs a.block hS; omega), h.g, h.a⟩
theorem EI.frm0 {w w' : World} {wp : Nat} {ea : List Addr} (h : EI w wp ea) (f : Frm0 w w') : EI w' wp ea := h.frm f (fun _ h => h.elim)

theorem pairs_set : ∀ {ts : List TP} {i : Nat} {x : TP} {l : List Nd}, ts[i]? = some x → pairs (ts.set i ⟨x.t, x.r, l⟩) = pairs ts
  | [], i, x, _, h => by simp at h
  | y :: ts, 0, x, _, h => by
    simp at h
    subst h
    rfl
  | y :: ts, i + 1, x, l, h => by
    simp only [List.set_cons_succ, pairs]
    rw [pairs_set (by simpa using h)]
/-- What a step leaves. -/
def TStep (PT : World → Nat → List Nd → (Nat → Prop) → Prop) (w w' : World) (wp : Nat) (tsv : Value) (col : Nat → Nat) (tail : List Value) (n : Nat) : Prop :=
  (∃ tsv' ts col', TI PT w' wp tsv' tail ts col' ∧ ts.length ≤ n ∧ (∀ b, b < w.heap.size → col' b = col b) ∧ ∀ b, InV tsv' b → InV tsv b ∨ w.heap.size ≤ b) ∧ Frm (TS wp tsv col) w w'

section
variable {PT : World → Nat → List Nd → (Nat → Prop) → Prop}
set_option maxHeartbeats 2000000 in
theorem one_apply (sp : TreeSpec PT) {w : World} {wp : Nat} {tsv : Value} {tail : List Value} {ts : List TP} {col : Nat → Nat} {ea : List Addr} {i : Nat} {x : TP} {o : OpR}
    (h : TI PT w wp tsv tail ts col) (hE : EI w wp ea) (hx : ts[i]? = some x) (hk : o.kind = 2) :
    Rets Tryz.prog 13 [Ptr wp, .agg [Ptr x.t, Ptr x.r].toArray, OpV o] w fun v w' => v = B true ∧ TStep PT w w' wp tsv col tail ts.length := by
  have hwp := at_lt h.head
  obtain ⟨hpt, ⟨rb, rcap, rrest, hR, cr, cb⟩, hW⟩ := h.each i x hx
  have hsm := hW.small
  have hrl := at_lt hR.head
  have hbl := at_lt hR.row
  have hwpr : wp < x.r := by rcases Nat.lt_or_ge wp x.r with h8 | h8; exact h8; have := h.col0 _ h8; omega
  have hwpb : wp < rb := by rcases Nat.lt_or_ge wp rb with h8 | h8; exact h8; have := h.col0 _ h8; omega
  refine rets_of Tryz.func13 (by kernel_rfl) rfl Tryz.ntmps13 (Nat.le_of_ble_eq_true rfl) ?_
  refine runG04 ?_
  have f1 : Frm0 w ((w.alloc (cel [Ptr x.t, Ptr x.r] 51)).alloc (cel o.vals 40)) := ((Frm.refl _ w).alloc _).alloc _
  have hp1 : At ((w.alloc (cel [Ptr x.t, Ptr x.r] 51)).alloc (cel o.vals 40)) w.heap.size (cel [Ptr x.t, Ptr x.r] 51) := at_alloc _ (at_alloc_new _ _)
  have ho1 : At ((w.alloc (cel [Ptr x.t, Ptr x.r] 51)).alloc (cel o.vals 40)) (w.heap.size + 1) (cel o.vals 40) := by
    have := at_alloc_new (w.alloc (cel [Ptr x.t, Ptr x.r] 51)) (cel o.vals 40)
    rw [World.size_alloc] at this
    exact this
  have hs1 : ((w.alloc (cel [Ptr x.t, Ptr x.r] 51)).alloc (cel o.vals 40)).heap.size = w.heap.size + 2 := by rw [World.size_alloc, World.size_alloc]
  rw [show (w.alloc (cel [Ptr x.t, Ptr x.r] 51)).heap.size = w.heap.size + 1 from World.size_alloc _ _]
  generalize (w.alloc (cel [Ptr x.t, Ptr x.r] 51)).alloc (cel o.vals 40) = w1 at *
  have hE1 := hE.frm0 f1
  refine runG04 ?_
  refine s_callf (sp.apply (ea := ea) o.e (sp.frm hpt f1 (fun _ _ h => h)) hW hE1.errs (fun g hg hs => by have := hE.g g hg; have := h.col0 g (by omega); omega) (fun a ha hs => by have := hE.a a ha; have := h.col0 a.block (by omega); omega)) rfl wnt_none ?_
  rintro v w2 ⟨hEr, hP2, f2, hfresh⟩
  have s2 := f2.size
  have hlt : ∀ y, col y ≠ 0 → wp < y ∧ y < w.heap.size := fun y hy => by
    constructor
    · rcases Nat.lt_or_ge wp y with h8 | h8
      · exact h8
      · exact absurd (h.col0 y h8) hy
    · rcases Nat.lt_or_ge y w.heap.size with h8 | h8
      · exact h8
      · exact absurd (h.high y h8) hy
  have hp2 := f2.at (fun h8 => by have := hlt w.heap.size (by omega); omega) hp1
  have ho2 := f2.at (fun h8 => by have := hlt (w.heap.size + 1) (by omega); omega) ho1
  have hR2 : RefT w2 x.r rb rcap rrest x.l := (hR.frm0 f1).frm f2 (fun h8 => by omega) (fun h8 => by omega)
  have fin : ∀ w3 : World, ErrIs ea w2 v (refused x.l o.e) o.e → (∃ b3 cap3 rest3, RefT w3 x.r b3 cap3 rest3 (applyL x.l o.e) ∧ (b3 = rb ∨ w2.heap.size ≤ b3)) → RFrm x.r rb w2 w3 →
      ErrIs ea w3 v (refused x.l o.e) o.e ∧ EI w3 wp ea ∧ ∀ w4, Frm0 w3 w4 → TStep PT w w4 wp tsv col tail ts.length := by
    intro w3 hEr ⟨b3, cap3, rest3, hR3, hb3⟩ f3
    have s3 := f3.size
    have hb3lt := at_lt hR3.row
    refine ⟨?_, ?_, ?_⟩
    · rcases hEr with h8 | ⟨h0, b8, a8, rfl, hA8, h9⟩
      · exact .inl h8
      · have := hfresh b8 rfl
        exact .inr ⟨h0, b8, a8, rfl, f3.at (by omega) hA8, h9⟩
    · exact (hE1.frm f2 (fun b hb => by have := hlt b (by omega); omega)).frm f3 (fun b hb => by omega)
    · intro w4 f4
      have s4 := f4.size
      have hcol : ∀ y, y < w.heap.size → (if w1.heap.size ≤ y ∧ y < w2.heap.size then 2 * i + 1 else if w2.heap.size ≤ y ∧ y = b3 then 2 * i + 2 else col y) = col y := fun y hy => by
        rw [if_neg (by omega), if_neg (by omega)]
      have hcol2 : ∀ y, col y ≠ 0 → (if w1.heap.size ≤ y ∧ y < w2.heap.size then 2 * i + 1 else if w2.heap.size ≤ y ∧ y = b3 then 2 * i + 2 else col y) = col y := fun y hy => hcol y (hlt y hy).2
      have F : Frm (fun b => col b = 2 * i + 1 ∨ col b = 2 * i + 2) w w4 := (((f1.mono (fun _ h => h.elim)).trans f2 (fun y hy => .inl (.inl hy))).trans f3 (fun y hy => .inl (by
        rcases hy with h8 | h8
        · subst h8; exact .inr cr
        · subst h8; exact .inr cb))).trans0 f4
      refine ⟨⟨tsv, ts.set i ⟨x.t, x.r, applyL x.l o.e⟩, fun y => if w1.heap.size ≤ y ∧ y < w2.heap.size then 2 * i + 1 else if w2.heap.size ≤ y ∧ y = b3 then 2 * i + 2 else col y, ⟨?_, ?_, ?_, ?_, ?_, ?_, h.tail4⟩, by rw [List.length_set]; exact Nat.le_refl _, hcol, fun b hb => .inl hb⟩, F.mono (fun y hy => .inl (.inr (.inr (by omega))))⟩
      · exact F.at (by have := h.col0 wp (Nat.le_refl _); omega) h.head
      · rw [pairs_set hx, List.length_set]
        exact h.row.frm F (fun y hy hs => by have := (h.rowc y hy).2; omega)
      · intro y hy
        obtain ⟨h8, h9⟩ := h.rowc y hy
        refine ⟨h8, ?_⟩
        have : y < w.heap.size := by
          rcases h.row with ⟨e1, _⟩ | ⟨b9, cap9, rest9, e1, hA9, _⟩
          · rw [e1] at hy
            obtain ⟨_, _, _, hv⟩ := hy
            cases hv
          · rw [e1] at hy
            obtain ⟨_, _, _, hv⟩ := hy
            cases hv
            exact at_lt hA9
        rw [hcol y this, h9]
      · intro j y hy
        by_cases hij : i = j
        · subst hij
          have hil := (List.getElem?_eq_some_iff.1 hx).1
          rw [List.getElem?_set_self hil] at hy
          cases hy
          refine ⟨?_, ⟨b3, cap3, rest3, hR3.frm0 f4, ?_, ?_⟩, hW.apply _⟩
          · have hP3 : PT w2 x.t (applyL x.l o.e) (fun y => col y = 2 * i + 1 ∨ (w1.heap.size ≤ y ∧ y < w2.heap.size)) := sp.weak hP2 (fun y h8 h9 => h8.imp id (fun h8 => ⟨h8, h9⟩))
            refine sp.weak (sp.frm (sp.frm hP3 f3 (fun y h8 h9 => ?_)) f4 (fun _ _ h => h)) (fun y h8 _ => ?_)
            · rcases h9 with h9 | h9
              · subst h9; omega
              · subst h9; omega
            · rcases h8 with h8 | h8
              · show (if _ then _ else _) = _
                rw [hcol2 y (by omega)]; exact h8
              · show (if _ then _ else _) = _
                rw [if_pos h8]
          · show (if _ then _ else _) = _
            rw [hcol2 x.r (by omega)]; exact cr
          · show (if _ then _ else _) = _
            rcases hb3 with h8 | h8
            · rw [hcol2 b3 (by rw [h8]; omega), h8]; exact cb
            · rw [if_neg (by omega), if_pos ⟨h8, rfl⟩]
        · rw [List.getElem?_set_ne hij] at hy
          have hT := (h.each j y hy).frm sp F (fun z hz hs => by omega)
          obtain ⟨jb, jc, jr, hRR, c1, c2⟩ := hT.rt
          exact ⟨sp.weak hT.pt (fun z hz _ => by show (if _ then _ else _) = _; rw [hcol2 z (by omega)]; exact hz), ⟨jb, jc, jr, hRR, by show (if _ then _ else _) = _; rw [hcol2 y.r (by omega)]; exact c1, by show (if _ then _ else _) = _; rw [hcol2 jb (by omega)]; exact c2⟩, hT.wf⟩
      · intro y hy
        show (if _ then _ else _) = _
        rw [hcol y (by omega)]
        exact h.col0 y hy
      · intro y hy
        show (if _ then _ else _) = _
        rw [if_neg (by omega), if_neg (by omega)]
        exact h.high y (by omega)
  have hEr0 := hEr
  obtain ⟨vv, hvv⟩ : ∃ vv, vv = v := ⟨v, rfl⟩
  rcases hEr with ⟨_, rfl⟩ | ⟨_, b8, a8, rfl, _, _⟩
  all_goals
    refine runG04 ?_
    refine s_callf (RApply_ret hR2 (by omega) hW.clo hW.nodup hW.rootId o.e) rfl wnt_none ?_
    rintro v3 w3 ⟨rfl, hTo, f3⟩
    obtain ⟨hEr3, hE3, hend⟩ := fin w3 hEr0 hTo f3
    have hp3 := f3.at (b := w.heap.size) (by omega) hp2
    have ho3 := f3.at (b := w.heap.size + 1) (by omega) ho2
    refine runG04 ?_
    refine s_callf (reason_ret hE3.errs hEr3) rfl wnt_none ?_
    rintro v4 w4 ⟨rfl, f4⟩
    refine runG04 ?_
    exact ret_b rfl rfl ⟨rfl, hend w4 f4⟩
end
end Go.Proofs.YtbicffldggcdhabGreatDoor

namespace Go.Proofs.YtbicffldggcdhabGreatDoor
open Go
section
variable {PT : World → Nat → List Nd → (Nat → Prop) → Prop}
theorem TI.step0 {w w' : World} {wp : Nat} {tsv : Value} {tail : List Value} {ts : List TP} {col : Nat → Nat} (sp : TreeSpec PT) (h : TI PT w wp tsv tail ts col) (f : Frm0 w w') : TStep PT w w' wp tsv col tail ts.length :=
  ⟨⟨tsv, ts, col, h.frm0 sp f, Nat.le_refl _, fun _ _ => rfl, fun _ hb => .inl hb⟩, f.mono (fun _ h => h.elim)⟩

set_option maxHeartbeats 2000000 in
theorem one_find (sp : TreeSpec PT) {w : World} {wp : Nat} {tsv : Value} {tail : List Value} {ts : List TP} {col : Nat → Nat} {i : Nat} {x : TP} {o : OpR}
    (h : TI PT w wp tsv tail ts col) (hx : ts[i]? = some x) (hk : o.kind = 3) :
    Rets Tryz.prog 13 [Ptr wp, .agg [Ptr x.t, Ptr x.r].toArray, OpV o] w fun v w' => v = B true ∧ TStep PT w w' wp tsv col tail ts.length := by
  obtain ⟨hpt, ⟨rb, rcap, rrest, hR, cr, cb⟩, hW⟩ := h.each i x hx
  have hsm := hW.small
  have hroom := hR.room
  refine rets_of Tryz.func13 (by kernel_rfl) rfl Tryz.ntmps13 (Nat.le_of_ble_eq_true rfl) ?_
  refine runG04 ?_
  have f1 : Frm0 w ((w.alloc (cel [Ptr x.t, Ptr x.r] 51)).alloc (cel o.vals 40)) := ((Frm.refl _ w).alloc _).alloc _
  have hp1 : At ((w.alloc (cel [Ptr x.t, Ptr x.r] 51)).alloc (cel o.vals 40)) w.heap.size (cel [Ptr x.t, Ptr x.r] 51) := at_alloc _ (at_alloc_new _ _)
  have ho1 : At ((w.alloc (cel [Ptr x.t, Ptr x.r] 51)).alloc (cel o.vals 40)) (w.heap.size + 1) (cel o.vals 40) := by
    have := at_alloc_new (w.alloc (cel [Ptr x.t, Ptr x.r] 51)) (cel o.vals 40)
    rw [World.size_alloc] at this
    exact this
  rw [show (w.alloc (cel [Ptr x.t, Ptr x.r] 51)).heap.size = w.heap.size + 1 from World.size_alloc _ _]
  generalize (w.alloc (cel [Ptr x.t, Ptr x.r] 51)).alloc (cel o.vals 40) = w1 at *
  refine runG04 ?_
  refine s_callf (sp.find o.b (sp.frm hpt f1 (fun _ _ h => h)) hW) rfl wnt_none ?_
  rintro v w2 ⟨rfl, f2⟩
  have F2 : Frm0 w w2 := f1.trans0 f2
  have hp2 := f2.at0 hp1
  have ho2 := f2.at0 ho1
  cases hth : there x.l o.b with
  | true =>
    obtain ⟨j, n, hj, hid, hat, hfnd⟩ := there_spec hth
    have hfv : findV x.l o.b = .tuple [.agg n.vals.toArray, B true].toArray := by rw [findV, hfnd]
    have hjl := (List.getElem?_eq_some_iff.1 hj).1
    have hlen : x.l.length * 7 ≤ (flat x.l ++ rrest).length := by rw [List.length_append, flat_length]; omega
    rw [hfv]
    refine runG04 ?_
    refine s_skip (r_storeAll (vs := n.vals) (s_ok rfl) rfl rfl (node_one n) (at_alloc_new w2 _) rfl) wnt_none ?_
    have hn3 := at_setB (cel n.vals 71) (at_alloc_new w2 (cel [I 0, I 0, I 0, I 0, I 0, I 0, I 0] 71))
    have f3 : Frm0 w2 (setB (w2.alloc (cel [I 0, I 0, I 0, I 0, I 0, I 0, I 0] 71)) w2.heap.size (cel n.vals 71)) := (Frm.of_alloc w2 _).setB (.inr (Nat.le_refl _)) _
    generalize setB (w2.alloc (cel [I 0, I 0, I 0, I 0, I 0, I 0, I 0] 71)) w2.heap.size (cel n.vals 71) = w3 at *
    have F3 := F2.trans0 f3
    have hp3 := f3.at0 hp2
    have ho3 := f3.at0 ho2
    have hR3 := hR.frm0 F3
    have hh3 := hR3.head
    have hrow3 := hR3.row
    refine runG04 ?_
    refine s_callf (At_ret hR3 (by omega) _) rfl wnt_none ?_
    rintro v w4 ⟨rfl, rfl⟩
    rw [hat]
    refine runG04 ?_
    refine w_drawn ((0, false) :: (1, false) :: (2, false) :: (3, false) :: (4, false) :: (5, false) :: (6, false) :: (7, false) :: (8, false) :: (9, false) :: (10, false) :: (11, false) :: (12, false) :: (13, false) :: []) [] (fun wq => Frm0 w3 wq) mixed (by kernel_rfl) ?_ ?_
    · exact Frm.of_drew _
    · refine runG04 ?_
      refine x_q rfl (fun wq hq => r_loadV (vs := n.vals) (u_ok rfl) rfl (s_ok rfl) rfl (hq.at0 hrow3) (by omega) (by rw [show 0 + (j : Int).toNat * 7 = j * 7 by omega]; exact flat_sub x.l j n hj rrest)) (by (first | (with_reducible exact wnt_none) | ((with_reducible apply wnt_y); exact rfl; exact rfl; exact rfl; exact rfl; (with_reducible exact rfl)))) ?_
      refine x_q rfl (fun wq hq => r_eq_node (n := n) rfl rfl) (by (first | (with_reducible exact wnt_none) | ((with_reducible apply wnt_y); exact rfl; exact rfl; exact rfl; exact rfl; (with_reducible exact rfl)))) ?_
      refine runG04 ?_
      exact ret_b rfl rfl ⟨rfl, h.step0 sp F3.drew⟩
  | false =>
    obtain ⟨hat, hfnd⟩ := there_not hth
    have hfv : findV x.l o.b = .tuple [.agg root0.vals.toArray, B false].toArray := by rw [findV, hfnd]
    rw [hfv]
    refine runG04 ?_
    refine s_skip (r_storeAll (vs := root0.vals) (s_ok rfl) rfl rfl (node_one root0) (at_alloc_new w2 _) rfl) wnt_none ?_
    have hn3 := at_setB (cel root0.vals 71) (at_alloc_new w2 (cel [I 0, I 0, I 0, I 0, I 0, I 0, I 0] 71))
    have f3 : Frm0 w2 (setB (w2.alloc (cel [I 0, I 0, I 0, I 0, I 0, I 0, I 0] 71)) w2.heap.size (cel root0.vals 71)) := (Frm.of_alloc w2 _).setB (.inr (Nat.le_refl _)) _
    generalize setB (w2.alloc (cel [I 0, I 0, I 0, I 0, I 0, I 0, I 0] 71)) w2.heap.size (cel root0.vals 71) = w3 at *
    have F3 := F2.trans0 f3
    have hp3 := f3.at0 hp2
    have ho3 := f3.at0 ho2
    refine runG04 ?_
    refine s_callf (At_ret (hR.frm0 F3) (by omega) _) rfl wnt_none ?_
    rintro v w4 ⟨rfl, rfl⟩
    rw [hat]
    refine runG04 ?_
    refine s_val (r_build rfl (bld_node0 _)) (by (first | (with_reducible exact wnt_none) | ((with_reducible apply wnt_y); exact rfl; exact rfl; exact rfl; exact rfl; (with_reducible exact rfl)))) ?_
    refine s_val (r_eq_node (n := root0) rfl rfl) (by (first | (with_reducible exact wnt_none) | ((with_reducible apply wnt_y); exact rfl; exact rfl; exact rfl; exact rfl; (with_reducible exact rfl)))) ?_
    refine runG04 ?_
    exact ret_b rfl rfl ⟨rfl, h.step0 sp F3⟩

set_option maxHeartbeats 2000000 in
theorem one_len (sp : TreeSpec PT) {w : World} {wp : Nat} {tsv : Value} {tail : List Value} {ts : List TP} {col : Nat → Nat} {i : Nat} {x : TP} {o : OpR}
    (h : TI PT w wp tsv tail ts col) (hx : ts[i]? = some x) (hk : o.kind = 4) :
    Rets Tryz.prog 13 [Ptr wp, .agg [Ptr x.t, Ptr x.r].toArray, OpV o] w fun v w' => v = B true ∧ TStep PT w w' wp tsv col tail ts.length := by
  obtain ⟨hpt, ⟨rb, rcap, rrest, hR, cr, cb⟩, hW⟩ := h.each i x hx
  refine rets_of Tryz.func13 (by kernel_rfl) rfl Tryz.ntmps13 (Nat.le_of_ble_eq_true rfl) ?_
  refine runG04 ?_
  have f1 : Frm0 w ((w.alloc (cel [Ptr x.t, Ptr x.r] 51)).alloc (cel o.vals 40)) := ((Frm.refl _ w).alloc _).alloc _
  have hp1 : At ((w.alloc (cel [Ptr x.t, Ptr x.r] 51)).alloc (cel o.vals 40)) w.heap.size (cel [Ptr x.t, Ptr x.r] 51) := at_alloc _ (at_alloc_new _ _)
  have ho1 : At ((w.alloc (cel [Ptr x.t, Ptr x.r] 51)).alloc (cel o.vals 40)) (w.heap.size + 1) (cel o.vals 40) := by
    have := at_alloc_new (w.alloc (cel [Ptr x.t, Ptr x.r] 51)) (cel o.vals 40)
    rw [World.size_alloc] at this
    exact this
  rw [show (w.alloc (cel [Ptr x.t, Ptr x.r] 51)).heap.size = w.heap.size + 1 from World.size_alloc _ _]
  generalize (w.alloc (cel [Ptr x.t, Ptr x.r] 51)).alloc (cel o.vals 40) = w1 at *
  refine runG04 ?_
  refine s_callf (sp.len (sp.frm hpt f1 (fun _ _ h => h))) rfl wnt_none ?_
  rintro v w2 ⟨rfl, f2⟩
  have F2 : Frm0 w w2 := f1.trans0 f2
  have hp2 := f2.at0 hp1
  have hh2 := (hR.frm0 F2).head
  refine runG04 ?_
  exact ret_b rfl rfl ⟨rfl, h.step0 sp F2⟩
end
end Go.Proofs.YtbicffldggcdhabGreatDoor

namespace Go.Proofs.YtbicffldggcdhabGreatDoor
open Go
section
variable {PT : World → Nat → List Nd → (Nat → Prop) → Prop}
theorem TStep.of0 {w w1 w2 : World} {wp n : Nat} {tsv : Value} {col : Nat → Nat} {tail : List Value} (f : Frm0 w w1) (h : TStep PT w1 w2 wp tsv col tail n) : TStep PT w w2 wp tsv col tail n := by
  obtain ⟨⟨tsv', ts, col', h1, h2, h3, h4⟩, h5⟩ := h
  have hs := f.size
  exact ⟨⟨tsv', ts, col', h1, h2, fun b hb => h3 b (by omega), fun b hb => (h4 b hb).imp id (fun h => by omega)⟩, (f.mono (fun _ h => h.elim)).trans h5 (fun _ h => .inl h)⟩
theorem TStep.le {w w2 : World} {wp n m : Nat} {tsv : Value} {col : Nat → Nat} {tail : List Value} (h : TStep PT w w2 wp tsv col tail n) (hm : n ≤ m) : TStep PT w w2 wp tsv col tail m := by
  obtain ⟨⟨tsv', ts, col', h1, h2, h4⟩, h3⟩ := h
  exact ⟨⟨tsv', ts, col', h1, Nat.le_trans h2 hm, h4⟩, h3⟩

set_option maxHeartbeats 2000000 in
theorem step_new (sp : TreeSpec PT) {w : World} {wp : Nat} {tsv : Value} {tail : List Value} {ts : List TP} {col : Nat → Nat} {ea : List Addr} {o : OpR}
    (h : TI PT w wp tsv tail ts col) (hE : EI w wp ea) (hl : ts.length < 2000000000000) (hk : o.kind = 1) :
    Rets Tryz.prog 7 [Ptr wp, OpV o] w fun v w' => v = B true ∧ TStep PT w w' wp tsv col tail (ts.length + 1) := by
  have f1 : Frm0 w (w.alloc (cel o.vals 40)) := Frm.of_alloc _ _
  refine rets_of Tryz.func7 (by kernel_rfl) rfl Tryz.ntmps7 (Nat.le_of_ble_eq_true rfl) ?_
  refine runG04 ?_
  refine s_callf (sp.new _) rfl wnt_none ?_
  rintro v w2 ⟨t, rfl, hP2, f2⟩
  refine runG04 ?_
  refine s_callf (RNew_ret _) rfl wnt_none ?_
  rintro v w3 ⟨⟨r, b, cap, rest, rfl, hR3, _, _⟩, f3⟩
  refine s_callf (tree_ret sp (h.frm0 sp f1) (f2.trans0 f3) (hE.frm0 f1).errs (sp.frm hP2 f3 (fun _ _ h => h)) hR3 wf_root0 hl) rfl wnt_none ?_
  rintro v w4 ⟨rfl, ⟨tsv', col', o', hT, hT2⟩, f4⟩
  refine runG04 ?_
  exact ret_b rfl rfl ⟨rfl, TStep.of0 f1 ⟨⟨tsv', _, col', hT, by simp, hT2⟩, f4⟩⟩

set_option maxHeartbeats 2000000 in
theorem step_on (sp : TreeSpec PT) {w : World} {wp : Nat} {tsv : Value} {tail : List Value} {ts : List TP} {col : Nat → Nat} {ea : List Addr} {o : OpR}
    (h : TI PT w wp tsv tail ts col) (hE : EI w wp ea) (hl : ts.length < 2000000000000) (hk : o.kind = 2 ∨ o.kind = 3 ∨ o.kind = 4) (ha : -9223372036854775808 ≤ o.a) (ha2 : o.a ≤ 9223372036854775807) :
    Rets Tryz.prog 7 [Ptr wp, OpV o] w fun v w' => v = B true ∧ TStep PT w w' wp tsv col tail (ts.length + 1) := by
  have f1 : Frm0 w (w.alloc (cel o.vals 40)) := Frm.of_alloc _ _
  have hb1 := at_alloc_new w (cel o.vals 40)
  obtain ⟨av, nv, cv, rfl, hnv⟩ : ∃ av nv cv, tsv = .slice av nv cv ∧ nv = ts.length := by
    rcases h.row with ⟨e1, e2, _⟩ | ⟨b, cap, rest, e1, _⟩
    · exact ⟨_, _, _, e1, e2.symm⟩
    · exact ⟨_, _, _, e1, rfl⟩
  subst hnv
  have hh1 := f1.at0 h.head
  have h1 := h.frm0 sp f1
  have hE1 := hE.frm0 f1
  have hk2 : 2 ≤ o.kind ∧ o.kind ≤ 4 := by omega
  refine rets_of Tryz.func7 (by kernel_rfl) rfl Tryz.ntmps7 (Nat.le_of_ble_eq_true rfl) ?_
  by_cases h0 : 0 < ts.length
  · refine runG04 ?_
    generalize w.alloc (cel o.vals 40) = w1 at *
    rcases h1.row with ⟨_, e2, _⟩ | ⟨b, cap, rest, e1, hA, hpl, hroom, _⟩
    · omega
    · cases e1
      refine w_drawn ((0, false) :: (1, false) :: (2, false) :: (3, false) :: (4, false) :: (5, false) :: (6, false) :: (7, false) :: (8, false) :: (9, false) :: (10, false) :: (11, false) :: (15, false) :: (12, true) :: (13, false) :: (14, false) :: []) [16, 17] (fun wq => Frm0 w1 wq) mixed (by kernel_rfl) ?_ ?_
      · exact Frm.of_drew _
      · refine runG04 ?_
        refine x_callf rfl (pick_ret o.a ts.length ha ha2 (by omega) _) rfl wnt_none ?_
        rintro v w2 ⟨⟨i, rfl, hi⟩, rfl⟩
        refine ⟨Frm.of_drew _, ?_⟩
        obtain ⟨x, hx⟩ : ∃ x, ts[i]? = some x := ⟨ts[i], List.getElem?_eq_getElem (by omega)⟩
        refine runG04 ?_
        refine x_q rfl (fun wq hq => r_loadV (vs := [Ptr x.t, Ptr x.r]) (u_ok rfl) rfl (s_ok rfl) rfl (hq.at0 hA) (by rw [List.length_append, pairs_length]; omega) (by rw [show 0 + (i : Int).toNat * 2 = i * 2 by omega]; exact pairs_sub hx)) wnt_none ?_
        refine runG04 ?_
        have h1d := h1.frm0 sp (Frm.of_drew w1)
        have hE1d := hE1.frm0 (Frm.of_drew w1)
        have hone : Rets Tryz.prog 13 [Ptr wp, .agg [Ptr x.t, Ptr x.r].toArray, OpV o] w1.drew fun v w' => v = B true ∧ TStep PT w1.drew w' wp (.slice (some ⟨b, 0, none⟩) ts.length cv) col tail ts.length := by
          rcases hk with k | k | k
          · exact one_apply sp h1d hE1d hx k
          · exact one_find sp h1d hx k
          · exact one_len sp h1d hx k
        refine y_callf rfl hone rfl wnt_none ?_
        rintro v w3 ⟨rfl, hT⟩
        refine runG04 ?_
        exact ret_b rfl rfl ⟨rfl, (TStep.of0 f1.drew hT).le (by omega)⟩
  · refine runG04 ?_
    exact ret_b rfl rfl ⟨rfl, (h.step0 sp f1).le (by omega)⟩
end
end Go.Proofs.YtbicffldggcdhabGreatDoor

namespace Go.Proofs.YtbicffldggcdhabGreatDoor
open Go

def flatOp : List OpR → List Value
  | [] => []
  | x :: l => x.vals ++ flatOp l
theorem flatOp_length : ∀ l : List OpR, (flatOp l).length = l.length * 10
  | [] => rfl
  | x :: l => by simp [flatOp, flatOp_length l, OpR.vals]; omega
theorem flatOp_append : ∀ a b : List OpR, flatOp (a ++ b) = flatOp a ++ flatOp b
  | [], b => rfl
  | x :: a, b => by simp [flatOp, flatOp_append a b]
theorem flatOp_sub : ∀ (l : List OpR) (i : Nat) (x : OpR), l[i]? = some x → ∀ rest : List Value, sub (flatOp l ++ rest) (i * 10) 10 = x.vals
  | [], i, x, h, _ => by simp at h
  | y :: l, 0, x, h, rest => by
    simp at h
    subst h
    simp only [flatOp, Nat.zero_mul, List.append_assoc]
    rw [sub_append_left _ _ 10 (by simp [OpR.vals])]
    rfl
  | y :: l, i + 1, x, h, rest => by
    simp only [flatOp, List.append_assoc]
    rw [show (i + 1) * 10 = y.vals.length + i * 10 by simp [OpR.vals]; omega, sub_drop]
    exact flatOp_sub l i x (by simpa using h) rest
theorem op_one (o : OpR) : ∀ u ∈ o.vals, one u = true := by
  intro u h
  simp only [OpR.vals, List.mem_cons, List.not_mem_nil, or_false] at h
  rcases h with h | h | h | h | h | h | h | h | h | h <;> subst h <;> rfl
theorem flatOp_one (l : List OpR) : ∀ u ∈ flatOp l, one u = true := by
  induction l with
  | nil => intro u h; cases h
  | cons x l ih =>
    intro u h
    rcases List.mem_append.1 h with h | h
    · exact op_one x u h
    · exact ih u h

def z0 : Ed := ⟨0, 0, 0, 0, 0, 0⟩
def cE : Ed := ⟨1, 1, 0, 0, 0, 0⟩
def k0 (k : Int) : OpR := ⟨k, 0, 0, 0, z0⟩
theorem bld_c (w : World) : (Instr.build 38 [(0, I 1), (1, I 1)].toArray).run Tryz.prog w = .ok (EdV cE) w := by kernel_rfl
theorem bo1 (k : Int) (w : World) : (Instr.build 40 [(0, I k)].toArray).run Tryz.prog w = .ok (OpV (k0 k)) w := by kernel_rfl
theorem bo2 (k : Int) (w : World) : (Instr.build 40 [(0, I k), (4, EdV cE)].toArray).run Tryz.prog w = .ok (OpV ⟨k, 0, 0, 0, cE⟩) w := by kernel_rfl
theorem bo3 (k b : Int) (w : World) : (Instr.build 40 [(0, I k), (2, I b)].toArray).run Tryz.prog w = .ok (OpV ⟨k, 0, b, 0, z0⟩) w := by kernel_rfl
theorem bo4 (k a b : Int) (w : World) : (Instr.build 40 [(0, I k), (1, I a), (2, I b)].toArray).run Tryz.prog w = .ok (OpV ⟨k, a, b, 0, z0⟩) w := by kernel_rfl
def firstOps : List OpR := [k0 1, ⟨2, 0, 0, 0, cE⟩, ⟨3, 0, 1, 0, z0⟩, k0 4, k0 5, ⟨10, 2, 1, 0, z0⟩, ⟨11, 0, 0, 0, cE⟩, k0 16, k0 12, k0 14, k0 14, k0 21, k0 15, k0 17, k0 19, k0 20]
theorem bs_ops (w : World) : (Instr.buildSlice 22 16 [(0, OpV (k0 1)), (1, OpV ⟨2, 0, 0, 0, cE⟩), (2, OpV ⟨3, 0, 1, 0, z0⟩), (3, OpV (k0 4)), (4, OpV (k0 5)), (5, OpV ⟨10, 2, 1, 0, z0⟩), (6, OpV ⟨11, 0, 0, 0, cE⟩), (7, OpV (k0 16)), (8, OpV (k0 12)), (9, OpV (k0 14)), (10, OpV (k0 14)), (11, OpV (k0 21)), (12, OpV (k0 15)), (13, OpV (k0 17)), (14, OpV (k0 19)), (15, OpV (k0 20))].toArray).run Tryz.prog w =
    .ok (.slice (some ⟨w.heap.size, 0, none⟩) 16 16) (w.alloc (cel (flatOp firstOps) 40)) := by kernel_rfl

set_option maxHeartbeats 2000000 in
theorem first_ret (w : World) : Rets Tryz.prog 5 [] w fun v w' => ∃ b, v = .slice (some ⟨b, 0, none⟩) 16 16 ∧ At w' b (cel (flatOp firstOps) 40) ∧ w.heap.size ≤ b ∧ Frm0 w w' := by
  refine rets_of Tryz.func5 (by kernel_rfl) rfl Tryz.ntmps5 (Nat.le_of_ble_eq_true rfl) ?_
  refine runG04 ?_
  refine s_val (r_build rfl (bld_c _)) wnt_none ?_
  refine runG04 ?_
  refine s_skip (r_storeAll (vs := cE.vals) (s_ok rfl) rfl rfl (edit_one _) (at_alloc_new w _) rfl) wnt_none ?_
  have hx := at_setB (cel cE.vals 38) (at_alloc_new w (cel [I 0, I 0, I 0, I 0, I 0, I 0] 38))
  have f1 : Frm0 w (setB (w.alloc (cel [I 0, I 0, I 0, I 0, I 0, I 0] 38)) w.heap.size (cel cE.vals 38)) := (Frm.of_alloc w _).setB (.inr (Nat.le_refl _)) _
  generalize setB (w.alloc (cel [I 0, I 0, I 0, I 0, I 0, I 0] 38)) w.heap.size (cel cE.vals 38) = w1 at *
  refine runG04 ?_
  refine s_val (r_build rfl (bo1 _ _)) wnt_none ?_
  refine runG04 ?_
  refine s_val (r_build rfl (bo2 _ _)) wnt_none ?_
  refine s_val (r_build rfl (bo3 _ _ _)) wnt_none ?_
  refine s_val (r_build rfl (bo1 _ _)) wnt_none ?_
  refine s_val (r_build rfl (bo1 _ _)) wnt_none ?_
  refine s_val (r_build rfl (bo4 _ _ _ _)) wnt_none ?_
  refine runG04 ?_
  refine s_val (r_build rfl (bo2 _ _)) wnt_none ?_
  refine s_val (r_build rfl (bo1 _ _)) wnt_none ?_
  refine s_val (r_build rfl (bo1 _ _)) wnt_none ?_
  refine s_val (r_build rfl (bo1 _ _)) wnt_none ?_
  refine s_val (r_build rfl (bo1 _ _)) wnt_none ?_
  refine s_val (r_build rfl (bo1 _ _)) wnt_none ?_
  refine s_val (r_build rfl (bo1 _ _)) wnt_none ?_
  refine s_val (r_build rfl (bo1 _ _)) wnt_none ?_
  refine s_val (r_build rfl (bo1 _ _)) wnt_none ?_
  refine s_val (r_build rfl (bo1 _ _)) wnt_none ?_
  refine s_val (r_bs rfl (bs_ops _)) wnt_none ?_
  refine runG04 ?_
  exact ret_s rfl rfl ⟨_, rfl, at_alloc_new _ _, f1.size, f1.alloc _⟩
end Go.Proofs.YtbicffldggcdhabGreatDoor

namespace Go.Proofs.YtbicffldggcdhabGreatDoor
open Go

theorem run_append0 {P : Program} {w : World} {sT xT ty e sz n : Nat} {v : Value} {D : TypeDesc} {pre : List Value} (hu : P.underlying sT = some (.slice e)) (hx : P.underlying xT = some D) (hD : ∀ kk, D ≠ .int kk) (hs : szOf P e = some sz)
    (hrow : Row w v e sz n pre) (a : Option Addr) (c : Nat) : (Builtin.append_ #[sT, xT] ty #[v, .slice a 0 c]).run P w = .ok v w := by
  have h0 : (Builtin.firstCells sz 0 (.slice a 0 c)).run P w = .ok #[] w := by cases a <;> simp [Builtin.firstCells, loadCells, loadCellsFrom]
  have hD' : (match D with | .int _ => true | _ => false) = false := by cases D <;> first | rfl | exact absurd rfl (hD _)
  rcases hrow with ⟨rfl, rfl, rfl⟩ | ⟨b, cap, rest, rfl, hA, hpl, hroom, hnc⟩
  · simp [Builtin.append_, run_underlying hu, run_underlying hx, run_size hs, run_lenOf, h0]
  · simp [Builtin.append_, run_underlying hu, run_underlying hx, run_size hs, run_lenOf, h0, hnc, storeCells]

/-- A script in memory. -/
def Scr (w : World) (sv : Value) (script : List OpR) : Prop :=
  ((∃ a c, sv = .slice a 0 c) ∧ script = []) ∨ ∃ sb so sc X tx kk, sv = .slice (some ⟨sb, so, none⟩) script.length sc ∧ At w sb (.cells X.toArray tx kk) ∧ so + script.length * 10 ≤ X.length ∧ sub X so (script.length * 10) = flatOp script
def OpOk (o : OpR) : Prop := -9223372036854775808 ≤ o.a ∧ o.a ≤ 9223372036854775807
theorem first_ok : ∀ o ∈ firstOps, OpOk o := by
  intro o h
  simp only [firstOps, List.mem_cons, List.not_mem_nil, or_false] at h
  rcases h with h | h | h | h | h | h | h | h | h | h | h | h | h | h | h | h <;> subst h <;> exact ⟨by decide, by decide⟩
theorem bld_world (w : World) : (Instr.build 36 [].toArray).run Tryz.prog w = .ok (.agg [.slice none 0 0, .slice none 0 0, .slice none 0 0, .slice none 0 0, .slice none 0 0].toArray) w := by kernel_rfl
/-- What is asked of step, for the kinds that are played. -/
def StepC (PT : World → Nat → List Nd → (Nat → Prop) → Prop) (ks : List Int) : Prop :=
  ∀ {w : World} {wp : Nat} {tsv : Value} {tail : List Value} {ts : List TP} {col : Nat → Nat} {ea : List Addr} {o : OpR}, TI PT w wp tsv tail ts col → EI w wp ea → ts.length < 2000000000000 → o.kind ∈ ks → OpOk o →
    Rets Tryz.prog 7 [Ptr wp, OpV o] w fun v w' => v = B true ∧ TStep PT w w' wp tsv col tail (ts.length + 1)

section
variable {PT : World → Nat → List Nd → (Nat → Prop) → Prop}
theorem append_op {w : World} {v : Value} {n m bx ox cx tx ty : Nat} {k : Nat × Nat} {pre X : List Value} (hrow : Row w v 40 10 n pre) (hX : At w bx (.cells X.toArray tx k)) (hsub : ox + m * 10 ≤ X.length) (hone : ∀ u ∈ sub X ox (m * 10), one u = true) (hcap : 2 * (n + m) * 80 ≤ 2 ^ 48) :
    ∃ v' w', (Builtin.append_ #[22, 22] ty #[v, .slice (some ⟨bx, ox, none⟩) m cx]).run Tryz.prog w = .ok v' w' ∧ Row w' v' 40 10 (n + m) (pre ++ sub X ox (m * 10)) ∧ Frm (InV v) w w' ∧ ∀ b, InV v' b → InV v b ∨ w.heap.size ≤ b :=
  run_append (sz := 10) (by' := 80) (u_ok rfl) (u_ok rfl) (fun kk h => by cases h) (s_ok rfl) (b_ok rfl) (z_ok rfl) rfl hrow hX hsub hone (by omega) hcap

theorem Scr.frm0 {w w' : World} {sv : Value} {script : List OpR} (h : Scr w sv script) (f : Frm0 w w') : Scr w' sv script := by
  rcases h with h | ⟨sb, so, sc, X, tx, kk, e, hA, q⟩
  · exact .inl h
  · exact .inr ⟨sb, so, sc, X, tx, kk, e, f.at0 hA, q⟩
end
end Go.Proofs.YtbicffldggcdhabGreatDoor

namespace Go.Proofs.YtbicffldggcdhabGreatDoor
open Go

/-- What the law asks of Clone: a new tree, the same now. -/
def CloneSpec (PT : World → Nat → List Nd → (Nat → Prop) → Prop) : Prop :=
  ∀ {w : World} {t : Nat} {l : List Nd} {S : Nat → Prop}, PT w t l S → Rets Tryz.prog 26 [Ptr t] w fun v w' => ∃ t', v = Ptr t' ∧ PT w' t' l (fun b => w.heap.size ≤ b) ∧ Frm0 w w'

section
variable {PT : World → Nat → List Nd → (Nat → Prop) → Prop}
set_option maxHeartbeats 2000000 in
theorem one_clone (sp : TreeSpec PT) (cs : CloneSpec PT) {w : World} {wp : Nat} {tsv : Value} {tail : List Value} {ts : List TP} {col : Nat → Nat} {ea : List Addr} {i : Nat} {x : TP} {o : OpR}
    (h : TI PT w wp tsv tail ts col) (hE : EI w wp ea) (hx : ts[i]? = some x) (hk : o.kind = 5) (hl : ts.length < 2000000000000) :
    Rets Tryz.prog 13 [Ptr wp, .agg [Ptr x.t, Ptr x.r].toArray, OpV o] w fun v w' => v = B true ∧ TStep PT w w' wp tsv col tail (ts.length + 1) := by
  obtain ⟨hpt, ⟨rb, rcap, rrest, hR, cr, cb⟩, hW⟩ := h.each i x hx
  refine rets_of Tryz.func13 (by kernel_rfl) rfl Tryz.ntmps13 (Nat.le_of_ble_eq_true rfl) ?_
  refine runG04 ?_
  have f1 : Frm0 w ((w.alloc (cel [Ptr x.t, Ptr x.r] 51)).alloc (cel o.vals 40)) := ((Frm.refl _ w).alloc _).alloc _
  have hp1 : At ((w.alloc (cel [Ptr x.t, Ptr x.r] 51)).alloc (cel o.vals 40)) w.heap.size (cel [Ptr x.t, Ptr x.r] 51) := at_alloc _ (at_alloc_new _ _)
  have ho1 : At ((w.alloc (cel [Ptr x.t, Ptr x.r] 51)).alloc (cel o.vals 40)) (w.heap.size + 1) (cel o.vals 40) := by
    have := at_alloc_new (w.alloc (cel [Ptr x.t, Ptr x.r] 51)) (cel o.vals 40)
    rw [World.size_alloc] at this
    exact this
  rw [show (w.alloc (cel [Ptr x.t, Ptr x.r] 51)).heap.size = w.heap.size + 1 from World.size_alloc _ _]
  generalize (w.alloc (cel [Ptr x.t, Ptr x.r] 51)).alloc (cel o.vals 40) = w1 at *
  refine runG04 ?_
  refine s_callf (cs (sp.frm hpt f1 (fun _ _ h => h))) rfl wnt_none ?_
  rintro v w2 ⟨t, rfl, hP2, f2⟩
  have F2 : Frm0 w w2 := f1.trans0 f2
  have hp2 := f2.at0 hp1
  refine runG04 ?_
  refine s_callf (tree_ret sp (h.frm0 sp f1) f2 (hE.frm0 f1).errs hP2 (hR.frm0 F2) hW hl) rfl wnt_none ?_
  rintro v w4 ⟨rfl, ⟨tsv', col', o', hT, hT2⟩, f4⟩
  refine runG04 ?_
  exact ret_b rfl rfl ⟨rfl, TStep.of0 f1 ⟨⟨tsv', _, col', hT, by simp, hT2⟩, f4⟩⟩

set_option maxHeartbeats 2000000 in
theorem step_clone (sp : TreeSpec PT) (cs : CloneSpec PT) {w : World} {wp : Nat} {tsv : Value} {tail : List Value} {ts : List TP} {col : Nat → Nat} {ea : List Addr} {o : OpR}
    (h : TI PT w wp tsv tail ts col) (hE : EI w wp ea) (hl : ts.length < 2000000000000) (hk : o.kind = 5) (ha : -9223372036854775808 ≤ o.a) (ha2 : o.a ≤ 9223372036854775807) :
    Rets Tryz.prog 7 [Ptr wp, OpV o] w fun v w' => v = B true ∧ TStep PT w w' wp tsv col tail (ts.length + 1) := by
  have f1 : Frm0 w (w.alloc (cel o.vals 40)) := Frm.of_alloc _ _
  have hb1 := at_alloc_new w (cel o.vals 40)
  obtain ⟨av, nv, cv, rfl, hnv⟩ : ∃ av nv cv, tsv = .slice av nv cv ∧ nv = ts.length := by
    rcases h.row with ⟨e1, e2, _⟩ | ⟨b, cap, rest, e1, _⟩
    · exact ⟨_, _, _, e1, e2.symm⟩
    · exact ⟨_, _, _, e1, rfl⟩
  subst hnv
  have hh1 := f1.at0 h.head
  have h1 := h.frm0 sp f1
  have hE1 := hE.frm0 f1
  refine rets_of Tryz.func7 (by kernel_rfl) rfl Tryz.ntmps7 (Nat.le_of_ble_eq_true rfl) ?_
  by_cases h0 : 0 < ts.length
  · refine runG04 ?_
    generalize w.alloc (cel o.vals 40) = w1 at *
    rcases h1.row with ⟨_, e2, _⟩ | ⟨b, cap, rest, e1, hA, hpl, hroom, _⟩
    · omega
    · cases e1
      refine w_drawn ((0, false) :: (1, false) :: (2, false) :: (3, false) :: (4, false) :: (5, false) :: (6, false) :: (7, false) :: (8, false) :: (9, false) :: (10, false) :: (11, false) :: (15, false) :: (12, true) :: (13, false) :: (14, false) :: []) [16, 17] (fun wq => Frm0 w1 wq) mixed (by kernel_rfl) ?_ ?_
      · exact Frm.of_drew _
      · refine runG04 ?_
        refine x_callf rfl (pick_ret o.a ts.length ha ha2 (by omega) _) rfl wnt_none ?_
        rintro v w2 ⟨⟨i, rfl, hi⟩, rfl⟩
        refine ⟨Frm.of_drew _, ?_⟩
        obtain ⟨x, hx⟩ : ∃ x, ts[i]? = some x := ⟨ts[i], List.getElem?_eq_getElem (by omega)⟩
        refine runG04 ?_
        refine x_q rfl (fun wq hq => r_loadV (vs := [Ptr x.t, Ptr x.r]) (u_ok rfl) rfl (s_ok rfl) rfl (hq.at0 hA) (by rw [List.length_append, pairs_length]; omega) (by rw [show 0 + (i : Int).toNat * 2 = i * 2 by omega]; exact pairs_sub hx)) wnt_none ?_
        refine runG04 ?_
        refine y_callf rfl (one_clone sp cs (h1.frm0 sp (Frm.of_drew w1)) (hE1.frm0 (Frm.of_drew w1)) hx hk hl) rfl wnt_none ?_
        rintro v w3 ⟨rfl, hT⟩
        refine runG04 ?_
        exact ret_b rfl rfl ⟨rfl, TStep.of0 f1.drew hT⟩
  · refine runG04 ?_
    exact ret_b rfl rfl ⟨rfl, (h.step0 sp f1).le (by omega)⟩

theorem step_clones (sp : TreeSpec PT) (cs : CloneSpec PT) : StepC PT [1, 2, 3, 4, 5] := by
  intro w wp tsv tail ts col ea o hT hE hl hk hok
  by_cases h1 : o.kind = 1
  · exact step_new sp hT hE hl h1
  · by_cases h5 : o.kind = 5
    · exact step_clone sp cs hT hE hl h5 hok.1 hok.2
    · exact step_on sp hT hE hl (by simp at hk; omega) hok.1 hok.2
end
end Go.Proofs.YtbicffldggcdhabGreatDoor

namespace Go.Proofs.YtbicffldggcdhabGreatDoor
open Go

def cloneNd_ren : Go.Shelf.Ren := ⟨fun | 5 => 50 | 7 => 76 | n => n, fun | 23 => 72 | 25 => 3 | 3 => 71 | 4 => 4 | 20 => 20 | n => n, fun | n => n⟩
theorem cloneNd : Go.Proofs.SlLaysW.n5 Tryz.prog cloneNd_ren := {
  mixed := by kernel_rfl,
  f5 := ⟨Tryz.f50.name, by decide, Tryz.func50.trans (congrArg some (by kernel_rfl))⟩,
  f7 := Tryz.func76.trans (congrArg some (by kernel_rfl)),
  t4 := Tryz.underlying4,
  a4 := Tryz.isAgg4,
  z4 := Tryz.sizeOf4,
  v4 := Tryz.zeroValue4,
  t20 := Tryz.underlying20,
  a20 := Tryz.isAgg20,
  z20 := Tryz.sizeOf20,
  v20 := Tryz.zeroValue20,
  t23 := Tryz.underlying72,
  a23 := Tryz.isAgg72,
  z23 := Tryz.sizeOf72,
  v23 := Tryz.zeroValue72 }

theorem mapsClone_ret {w : World} {mb : Nat} {es : Array MapEntry} {cl : Nat} (hb : At w mb (.map es cl)) : Rets Tryz.prog 50 [.map (some mb)] w fun v w' => v = .map (some w.heap.size) ∧ w.alloc (.map es cl) = w' :=
  ⟨by kernel_rfl, (AnyW.maps_Clone cloneNd mb es cl w hb).mono fun _ _ ⟨he, hw⟩ => ⟨_, he, rfl, hw.symm⟩⟩
theorem Clone_ret {w : World} {t mb : Nat} {es : Array MapEntry} {cl : Nat} {m : List Nd} (h : TreeAt w t mb es cl m) : Rets Tryz.prog 26 [Ptr t] w fun v w' => ∃ t' mb', v = Ptr t' ∧ TreeAt w' t' mb' es cl m ∧ w.heap.size ≤ t' ∧ w.heap.size ≤ mb' ∧ Frm0 w w' := by
  have h1 := h.head
  have h2 := h.row
  refine rets_of Tryz.func26 (by kernel_rfl) rfl Tryz.ntmps26 (Nat.le_of_ble_eq_true rfl) ?_
  refine runG04 ?_
  refine s_callf (mapsClone_ret h2) rfl wnt_none ?_
  rintro v w1 ⟨rfl, rfl⟩
  refine s_val (r_build rfl (bld_treeM _ _)) wnt_none ?_
  refine runG04 ?_
  exact ret_p rfl rfl ⟨_, _, rfl, ⟨at_alloc_new _ _, at_alloc _ (at_alloc_new _ _), h.ents⟩, by simp, Nat.le_refl _, (Frm.of_alloc _ _).alloc _⟩
theorem cloneSpec : CloneSpec PT := fun ⟨_, es, cl, m, h, hp, _, _⟩ => (Clone_ret h).mono fun _ _ ⟨t', mb', hv, h', h1, h2, f⟩ => ⟨t', hv, ⟨mb', es, cl, m, h', hp, h1, h2⟩, f⟩
end Go.Proofs.YtbicffldggcdhabGreatDoor

namespace Go.Proofs.YtbicffldggcdhabGreatDoor
open Go

/-- A slice's value, and what it shows: n elements of so many cells. -/
def Seg (w : World) (v : Value) (sz n : Nat) (vs : List Value) : Prop :=
  ((∃ a c, v = .slice a 0 c) ∧ n = 0 ∧ vs = []) ∨ ∃ bx ox c X tx k, v = .slice (some ⟨bx, ox, none⟩) n c ∧ At w bx (.cells X.toArray tx k) ∧ ox + n * sz ≤ X.length ∧ sub X ox (n * sz) = vs
theorem Row.seg {w : World} {v : Value} {e sz n : Nat} {pre : List Value} (h : Row w v e sz n pre) : Seg w v sz n pre := by
  rcases h with ⟨rfl, rfl, rfl⟩ | ⟨b, cap, rest, rfl, hA, hl, hr, hc⟩
  · exact .inl ⟨⟨_, _, rfl⟩, rfl, rfl⟩
  · refine .inr ⟨b, 0, cap, pre ++ rest, e, (0, 0), rfl, hA, by rw [List.length_append]; omega, ?_⟩
    rw [← hl]
    exact sub_left pre rest
theorem append_seg {P : Program} {w : World} {sT ty e sz by' n m : Nat} {z v s : Value} {D : TypeDesc} {pre vs : List Value}
    (hu : P.underlying sT = some (.slice e)) (hx : P.underlying sT = some D) (hD : ∀ kk, D ≠ .int kk) (hs : szOf P e = some sz) (hb : byOf P e = some by') (hz : zrOf P e = some z) (hzc : z.cells.size = sz)
    (hrow : Row w v e sz n pre) (hseg : Seg w s sz m vs) (hone : ∀ u ∈ vs, one u = true) (hby : 0 < by') (hcap : 2 * (n + m) * by' ≤ 2 ^ 48) :
    ∃ v' w', (Builtin.append_ #[sT, sT] ty #[v, s]).run P w = .ok v' w' ∧ Row w' v' e sz (n + m) (pre ++ vs) ∧ Frm (InV v) w w' ∧ ∀ b, InV v' b → InV v b ∨ w.heap.size ≤ b := by
  rcases hseg with ⟨⟨a, c, rfl⟩, rfl, rfl⟩ | ⟨bx, ox, c, X, tx, k, rfl, hA, h1, h2⟩
  · refine ⟨v, w, run_append0 hu hx hD hs hrow a c, ?_, Frm.refl _ _, fun b hb => .inl hb⟩
    rw [List.append_nil, Nat.add_zero]
    exact hrow
  · obtain ⟨v', w', e1, r1, f1, n1⟩ := run_append (ty := ty) (cx := c) hu hx hD hs hb hz hzc hrow hA h1 (by rw [h2]; exact hone) hby hcap
    rw [h2] at r1
    exact ⟨v', w', e1, r1, f1, n1⟩
section
variable {P : Program} {w : World} {ty e sz : Nat} {a : Option Addr} {len cap : Nat}
theorem sliceTo_run {k : Nat} (hu : P.underlying ty = some (.slice e)) (hs : szOf P e = some sz) (hk : k ≤ cap) :
    (Instr.sliceAt ty (.slice a len cap) none (some (I k)) none).run P w = .ok (.slice (if cap = 0 then a else a.map (·.add (0 * sz))) k cap) w := by
  simp [Instr.sliceAt, Instr.slice, run_underlying hu, Instr.sliceBounds, Instr.sliceBound, asIntOf, run_size hs]
  omega
theorem sliceFrom_run {k : Nat} (hu : P.underlying ty = some (.slice e)) (hs : szOf P e = some sz) (hk : k ≤ len) :
    (Instr.sliceAt ty (.slice a len cap) (some (I k)) none none).run P w = .ok (.slice (if cap = k then a else a.map (·.add (k * sz))) (len - k) (cap - k)) w := by
  simp [Instr.sliceAt, Instr.slice, run_underlying hu, Instr.sliceBounds, Instr.sliceBound, asIntOf, run_size hs]
  omega
end
section
variable {P : Program} {w : World} {ρ : Operand → Value} {d : Option Nat} {t : Nat} {p : String} {af : Array Edge} {g : Option (Nat × Bool)}
theorem r_slTo {ty : Nat} {x y : Operand} {v k s : Value} (hx : ρ x = v) (hy : ρ y = k) (h : (Instr.sliceAt ty v none (some k) none).run P w = .ok s w) : (execOp ρ ⟨d, .slice ty x none (some y) none, t, p, af, g⟩).run P w = .ok (.value s) w := by
  simp [execOp, hx, hy, h]
theorem r_slFrom {ty : Nat} {x y : Operand} {v k s : Value} (hx : ρ x = v) (hy : ρ y = k) (h : (Instr.sliceAt ty v (some k) none none).run P w = .ok s w) : (execOp ρ ⟨d, .slice ty x (some y) none none, t, p, af, g⟩).run P w = .ok (.value s) w := by
  simp [execOp, hx, hy, h]
end
end Go.Proofs.YtbicffldggcdhabGreatDoor

namespace Go.Proofs.YtbicffldggcdhabGreatDoor
open Go

def RowO (w : World) (v : Value) (e sz n : Nat) (pre : List Value) : Prop :=
  (v = .slice none 0 0 ∧ n = 0 ∧ pre = []) ∨
  ∃ b skip cap rest, v = .slice (some ⟨b, List.length skip, none⟩) n cap ∧ At w b (cel (skip ++ (pre ++ rest)) e) ∧ pre.length = n * sz ∧ cap * sz ≤ n * sz + rest.length ∧ n ≤ cap
theorem Row.toO {w : World} {v : Value} {e sz n : Nat} {pre : List Value} (h : Row w v e sz n pre) : RowO w v e sz n pre := by
  rcases h with h | ⟨b, cap, rest, hv, hA, h1, h2, h3⟩
  · exact .inl h
  · exact .inr ⟨b, [], cap, rest, hv, hA, h1, by omega, h3⟩
theorem RowO.isSl {w : World} {v : Value} {e sz n : Nat} {pre : List Value} (h : RowO w v e sz n pre) : ∃ a c, v = .slice a n c := by
  rcases h with ⟨rfl, rfl, _⟩ | ⟨b, skip, cap, rest, rfl, _⟩
  · exact ⟨_, _, rfl⟩
  · exact ⟨_, _, rfl⟩
theorem RowO.frm {w w' : World} {v : Value} {e sz n : Nat} {pre : List Value} {S : Nat → Prop} (h : RowO w v e sz n pre) (f : Frm S w w') (hn : ∀ b, InV v b → ¬ S b) : RowO w' v e sz n pre := by
  rcases h with h | ⟨b, skip, cap, rest, rfl, hA, q⟩
  · exact .inl h
  · exact .inr ⟨b, skip, cap, rest, rfl, f.at (hn b ⟨_, _, _, rfl⟩) hA, q⟩
theorem RowO.lt {w : World} {v : Value} {e sz n : Nat} {pre : List Value} (h : RowO w v e sz n pre) {b : Nat} (hb : InV v b) : b < w.heap.size := by
  obtain ⟨_, _, _, hb⟩ := hb
  rcases h with ⟨h, _⟩ | ⟨b', skip, cap, rest, h, hA, _⟩
  · rw [hb] at h; cases h
  · rw [hb] at h
    cases h
    exact at_lt hA
theorem RowO.seg {w : World} {v : Value} {e sz n : Nat} {pre : List Value} (h : RowO w v e sz n pre) : Seg w v sz n pre := by
  rcases h with ⟨rfl, rfl, rfl⟩ | ⟨b, skip, cap, rest, rfl, hA, hl, hr, hc⟩
  · exact .inl ⟨⟨_, _, rfl⟩, rfl, rfl⟩
  · refine .inr ⟨b, skip.length, cap, skip ++ (pre ++ rest), e, (0, 0), rfl, hA, by rw [List.length_append, List.length_append]; omega, ?_⟩
    rw [show skip.length = skip.length + 0 from rfl, sub_drop, ← hl]
    exact sub_left pre rest
/-- The head is cut off. -/
theorem RowO.tail {P : Program} {w : World} {v : Value} {ty e sz n : Nat} {x pre : List Value} (hu : P.underlying ty = some (.slice e)) (hs : szOf P e = some sz) (h : RowO w v e sz (n + 1) (x ++ pre)) (hx : x.length = sz) :
    ∃ s, (∀ w0, (Instr.sliceAt ty v (some (I 1)) none none).run P w0 = .ok s w0) ∧ RowO w s e sz n pre ∧ ∀ b, InV s b → InV v b := by
  rcases h with ⟨_, h0, _⟩ | ⟨b, skip, cap, rest, rfl, hA, hl, hr, hc⟩
  · omega
  have hsl := fun w0 => sliceFrom_run (P := P) (w := w0) (a := some ⟨b, skip.length, none⟩) (len := n + 1) (cap := cap) (k := 1) hu hs (by omega)
  rw [List.length_append, Nat.add_mul, Nat.one_mul] at hl
  refine ⟨_, hsl, ?_, ?_⟩
  · by_cases h1 : cap = 1
    · have hn : n = 0 := by omega
      subst h1 hn
      have hp : pre = [] := List.length_eq_zero_iff.1 (by omega)
      subst hp
      rw [if_pos rfl]
      exact .inr ⟨b, skip, 0, x ++ rest, rfl, by simpa using hA, by simp, by omega, Nat.le_refl _⟩
    · rw [if_neg h1, Option.map_some, add_none, Nat.one_mul]
      refine .inr ⟨b, skip ++ x, cap - 1, rest, by rw [List.length_append, hx]; simp, by simpa using hA, by omega, ?_, by omega⟩
      obtain ⟨c, rfl⟩ : ∃ c, cap = c + 1 := ⟨cap - 1, by omega⟩
      rw [Nat.add_mul, Nat.add_mul, Nat.one_mul] at hr
      simp only [Nat.add_sub_cancel]
      omega
  · rintro b' ⟨off, l, c, hv⟩
    split at hv
    · injection hv with h1 _ _
      exact ⟨_, _, _, by rw [h1]⟩
    · rw [Option.map_some, add_none] at hv
      injection hv with h1 _ _
      injection h1 with h1
      injection h1 with h1 _ _
      exact ⟨_, _, _, by rw [h1]⟩
section
variable {P : Program} {w : World}
theorem appendO {sT ty e sz by' n m : Nat} {z v s : Value} {pre vs : List Value}
    (hu : P.underlying sT = some (.slice e)) (hs : szOf P e = some sz) (hb : byOf P e = some by') (hz : zrOf P e = some z) (hzc : z.cells.size = sz)
    (hrow : RowO w v e sz n pre) (hseg : Seg w s sz m vs) (hone : ∀ u ∈ vs, one u = true) (hby : 0 < by') (hcap : 2 * (n + m) * by' ≤ 2 ^ 48) :
    ∃ v' w', (Builtin.append_ #[sT, sT] ty #[v, s]).run P w = .ok v' w' ∧ RowO w' v' e sz (n + m) (pre ++ vs) ∧ Frm (InV v) w w' ∧ ∀ b, InV v' b → InV v b ∨ w.heap.size ≤ b := by
  obtain ⟨i, hi⟩ : ∃ i, P.info? e = some i := by
    cases h : P.info? e with
    | none => simp [szOf, h] at hs
    | some i => exact ⟨i, rfl⟩
  have hib : i.bytes = by' := by simpa [byOf, hi] using hb
  have hnx : ∀ cap, cap < n + m → ¬ (Builtin.nextslicecap (n + m) cap * i.bytes > 2 ^ 48) := fun cap hc => by
    have h1 := next_le (n + m) cap hc
    rw [hib]
    have h2 : Builtin.nextslicecap (n + m) cap * by' ≤ 2 * (n + m) * by' := Nat.mul_le_mul_right _ h1
    omega
  have hb0 : i.bytes ≠ 0 := by omega
  obtain ⟨sa, sc, hsv, hvl, hfc⟩ : ∃ sa sc, s = .slice sa m sc ∧ vs.length = m * sz ∧ ∀ w' : World, (∀ b o, At w b o → At w' b o) → (Builtin.firstCells sz m s).run P w' = .ok vs.toArray w' := by
    rcases hseg with ⟨⟨a, c, rfl⟩, rfl, rfl⟩ | ⟨bx, ox, c, X, tx, k, rfl, hA, h1, h2⟩
    · exact ⟨a, c, rfl, by simp, fun w' _ => by cases a <;> simp [Builtin.firstCells, loadCells, loadCellsFrom]⟩
    · exact ⟨_, _, rfl, by rw [← h2]; exact sub_length X ox (m * sz) h1, fun w' hw => by rw [← h2]; exact run_loadCells_at (hw _ _ hA) h1⟩
  subst hsv
  have grow : ∀ (base : Option Addr) (cap : Nat), v = .slice base n cap → ¬ n + m ≤ cap → pre.length = n * sz → (Builtin.firstCells sz n v).run P w.drew = .ok pre.toArray w.drew →
      ∃ v' w', (Builtin.append_ #[sT, sT] ty #[v, .slice sa m sc]).run P w = .ok v' w' ∧ RowO w' v' e sz (n + m) (pre ++ vs) ∧ Frm (InV v) w w' ∧ ∀ b, InV v' b → InV v b ∨ w.heap.size ≤ b := by
    intro base cap hv hfit hpl hold
    have hcut : ∃ cc, (Question.appendCap (n + m) cap e).cut (w.tape w.drawn (Question.appendCap (n + m) cap e)) = cc ∧ n + m ≤ cc := ⟨_, rfl, by simp only [Question.cut]; omega⟩
    obtain ⟨cc, hcc, hle⟩ := hcut
    have hfd := hfc w.drew (fun _ _ h => h)
    refine ⟨.slice (some ⟨w.heap.size, 0, none⟩) (n + m) cc, w.drew.alloc (cel (pre ++ vs ++ (Builtin.zeroCells z.cells (cc - (n + m))).toList) e), ?_, ?_, ?_, ?_⟩
    · subst hv
      have hfo : Question.forced (.appendCap (n + m) cap e) = false := rfl
      simp [Builtin.append_, run_underlying hu, run_size hs, run_lenOf, hfit, run_typeInfo hi, hnx cap (by omega), hb0, hfo, hcc]
      rw [hold]
      simp only [Result.andThen_ok]
      rw [hfd]
      simp only [Result.andThen_ok]
      rw [run_zero hz]
      have earr : pre.toArray ++ (vs.toArray ++ Builtin.zeroCells z.cells (cc - (n + m))) = (pre ++ (vs ++ (Builtin.zeroCells z.cells (cc - (n + m))).toList)).toArray := by
        apply Array.ext'
        simp
      simp only [Result.andThen_ok, newRow, Sem.run_bind, run_newObj, Sem.run_pure, earr]
      rfl
    · refine .inr ⟨w.heap.size, [], cc, (Builtin.zeroCells z.cells (cc - (n + m))).toList, rfl, by simpa using at_alloc_new w.drew (cel (pre ++ vs ++ (Builtin.zeroCells z.cells (cc - (n + m))).toList) e), ?_, ?_, hle⟩
      · rw [List.length_append, hpl, hvl, Nat.add_mul]
      · have : (Builtin.zeroCells z.cells (cc - (n + m))).toList.length = (cc - (n + m)) * sz := by simp [Builtin.zeroCells, hzc]
        rw [this, ← Nat.add_mul]
        exact Nat.mul_le_mul_right _ (by omega)
    · exact (Frm.of_drew w).alloc _
    · rintro b' ⟨off, l', c', he⟩
      cases he
      exact .inr (Nat.le_refl _)
  rcases hrow with ⟨rfl, rfl, rfl⟩ | ⟨b, skip, cap, rest, rfl, hA, hpl, hroom, hnc⟩
  · by_cases hm : m = 0
    · subst hm
      have hv0 : vs = [] := List.length_eq_zero_iff.1 (by omega)
      subst hv0
      refine ⟨.slice none 0 0, w, ?_, .inl ⟨rfl, rfl, rfl⟩, Frm.refl _ _, fun b h => .inl h⟩
      have h0 := hfc w (fun _ _ h => h)
      simp [Builtin.append_, run_underlying hu, run_size hs, run_lenOf, h0]
    · exact grow none 0 rfl (by omega) (by simp) rfl
  · by_cases hfit : n + m ≤ cap
    · have hle : vs.length ≤ rest.length := by
        have := Nat.mul_le_mul_right sz hfit
        rw [Nat.add_mul] at this
        omega
      have e1 : put (skip ++ (pre ++ rest)) (skip.length + n * sz) vs = skip ++ (pre ++ vs ++ rest.drop vs.length) := by
        have h1 := put_right (skip ++ pre) rest vs
        rw [List.length_append, hpl, put_head _ _ hle, List.append_assoc] at h1
        rw [h1]
        simp
      refine ⟨.slice (some ⟨b, skip.length, none⟩) (n + m) cap, setB w b (cel (skip ++ (pre ++ vs ++ rest.drop vs.length)) e), ?_, ?_, ?_, ?_⟩
      · have hst := run_storeCells_at (P := P) (off := skip.length + n * sz) vs 0 w (skip ++ (pre ++ rest)) hA (by
          rw [List.length_append, List.length_append]; omega) hone
        simp only [Nat.add_zero] at hst
        rw [e1] at hst
        simp [Builtin.append_, run_underlying hu, run_size hs, run_lenOf, hfit, hfc w (fun _ _ h => h), add_none, hst]
      · refine .inr ⟨b, skip, cap, rest.drop vs.length, rfl, at_setB _ hA, ?_, ?_, hfit⟩
        · rw [List.length_append, hpl, hvl, Nat.add_mul]
        · rw [List.length_drop, Nat.add_mul]
          omega
      · exact (Frm.refl _ w).setB (.inl ⟨_, n, cap, rfl⟩) _
      · rintro b' ⟨off, l', c', he⟩
        cases he
        exact .inl ⟨_, n, cap, rfl⟩
    · have hold : (Builtin.firstCells sz n (.slice (some ⟨b, skip.length, none⟩) n cap)).run P w.drew = .ok pre.toArray w.drew := by
        have h1 := run_loadCells_at (P := P) (w := w.drew) (off := skip.length) (n := n * sz) (k := (0, 0)) hA (by rw [List.length_append, List.length_append]; omega)
        rw [show skip.length = skip.length + 0 from rfl, sub_drop, ← hpl, sub_left] at h1
        simp only [Builtin.firstCells]
        rw [← hpl]
        exact h1
      exact grow _ cap rfl hfit hpl hold
end
end Go.Proofs.YtbicffldggcdhabGreatDoor

namespace Go.Proofs.YtbicffldggcdhabGreatDoor
open Go

def part (l : List Nd) (p : Int) (i : Nat) : List Nd := ((l.tail.take i).filter fun x => decide (x.par = p)).foldl (fun o x => ins x o) []
theorem Row.isSl {w : World} {v : Value} {e sz n : Nat} {pre : List Value} (h : Row w v e sz n pre) : ∃ a c, v = .slice a n c := by
  rcases h with ⟨rfl, rfl, _⟩ | ⟨b, cap, rest, rfl, _⟩
  · exact ⟨_, _, rfl⟩
  · exact ⟨_, _, rfl⟩
end Go.Proofs.YtbicffldggcdhabGreatDoor

namespace Go.Proofs.YtbicffldggcdhabGreatDoor
open Go

end Go.Proofs.YtbicffldggcdhabGreatDoor

namespace Go.Proofs.YtbicffldggcdhabGreatDoor
open Go

end Go.Proofs.YtbicffldggcdhabGreatDoor

namespace Go.Proofs.YtbicffldggcdhabGreatDoor
open Go

def appAll (l : List Nd) (es : List Ed) : List Nd := es.foldl applyL l
theorem appAll_step {l : List Nd} {es : List Ed} {i : Nat} {e : Ed} (h : es[i]? = some e) : appAll l (es.take (i + 1)) = applyL (appAll l (es.take i)) e := by
  unfold appAll
  rw [List.take_add_one, h, List.foldl_append]
  rfl
theorem wf_all : ∀ (es : List Ed) {l : List Nd}, Wf l → Wf (appAll l es)
  | [], _, h => h
  | e :: es, _, h => wf_all es (h.apply e)

section
variable {w w' : World} {N t mb r b : Nat} {l : List Nd}
end
section
variable {w w' : World} {b5 b6 b7 b8 b9 b10 b12 : Nat} {mv : Value} {p q : Int} {t r : Nat} {gv : Value}
end
section
variable {w W W' : World} {N b5 b6 b7 b8 b9 b10 b12 nb D ca cb t mb r c : Nat} {mv gv : Value} {p q : Int} {G : List (Nd × Int)} {rc : Loop} {l : List Nd} {k : Nat}
end
end Go.Proofs.YtbicffldggcdhabGreatDoor

namespace Go.Proofs.YtbicffldggcdhabGreatDoor
open Go

structure Ent where
  client : Int
  seq : Int
  e : Ed
  done : Bool
structure Ans where
  seq : Int
  done : Bool
structure Msg where
  hello : Bool
  seq : Int
  e : Ed
  ent : Ent
  tree : Option (List Nd)
  n : Int
  ans : List Ans
structure Cli where
  base : List Nd
  n : Int
  pend : List (Int × Ed)
  seq : Int
  ans : List Ans
  joined : Bool
  told : Bool
  up : List Msg
  down : List Msg
structure Par where
  clients : Int
  log : Int
  t : List Nd
  ents : List Ent
  cls : List Cli

def ed0 : Ed := ⟨0, 0, 0, 0, 0, 0⟩
def ent0 : Ent := ⟨0, 0, ed0, false⟩
def cli0 : Cli := ⟨[root0], 0, [], 0, [], false, false, [], []⟩
def msgE (seq : Int) (e : Ed) : Msg := ⟨false, seq, e, ent0, none, 0, []⟩
def msgH (n : Int) : Msg := ⟨true, n, ed0, ent0, none, 0, []⟩
def msgN (x : Ent) : Msg := ⟨false, 0, ed0, x, none, 0, []⟩
def msgS (t : List Nd) (n : Int) (ans : List Ans) : Msg := ⟨false, 0, ed0, ent0, some t, n, ans⟩

def newP (c l : Int) : Option Par := if c < 1 ∨ 4 < c ∨ l < 0 ∨ 8 < l then none else some ⟨c, l, [root0], [], List.replicate c.toNat cli0⟩
def Par.cl (P : Par) (i : Int) : Option Cli := if i < 0 then none else P.cls[i.toNat]?
def Par.set (P : Par) (i : Int) (c : Cli) : Par := { P with cls := P.cls.set i.toNat c }
def editC (c : Cli) (e : Ed) : Cli := { c with seq := c.seq + 1, pend := c.pend ++ [(c.seq + 1, e)], up := if c.joined then c.up ++ [msgE (c.seq + 1) e] else c.up }
def editP (P : Par) (i : Int) (e : Ed) : Nat × Par :=
  match P.cl i with
  | none => (1, P)
  | some c => if wrongB e then (1, P) else if 6 ≤ c.pend.length then (7, P) else (0, P.set i (editC c e))
def joinC (c : Cli) : Cli := { c with joined := true, up := msgH c.n :: c.pend.map fun q => msgE q.1 q.2 }
def joinP (P : Par) (i : Int) : Nat × Par :=
  match P.cl i with
  | none => (1, P)
  | some c => if c.joined then (8, P) else (0, P.set i (joinC c))
def dropC (c : Cli) : Cli := { c with joined := false, told := false, up := [], down := [] }
def dropP (P : Par) (i : Int) : Nat × Par :=
  match P.cl i with
  | none => (1, P)
  | some c => if c.joined then (0, P.set i (dropC c)) else (8, P)
def taken (l : List Ent) (i seq : Int) : Bool := l.any fun x => decide (x.client = i ∧ x.seq = seq)
def ansOf (l : List Ent) (i : Int) : List Ans := (l.filter fun x => decide (x.client = i)).map fun x => ⟨x.seq, x.done⟩
def helloC (P : Par) (i : Int) (c : Cli) (n : Int) : Cli :=
  { c with told := true, down := c.down ++ if (P.ents.length : Int) - n ≤ P.log then (P.ents.drop n.toNat).map msgN else [msgS P.t P.ents.length (ansOf P.ents i)] }
def tell (x : Ent) (c : Cli) : Cli := if c.told then { c with down := c.down ++ [msgN x] } else c
def takeP (P : Par) (i : Int) (m : Msg) : Par :=
  let x : Ent := ⟨i, m.seq, m.e, decide (refused P.t m.e = 0)⟩
  { P with t := applyL P.t m.e, ents := P.ents ++ [x], cls := P.cls.map (tell x) }
def upP (P : Par) (i : Int) : Nat × Par :=
  match P.cl i with
  | none => (1, P)
  | some c => match c.up with
    | [] => (9, P)
    | m :: us =>
      let Q := P.set i { c with up := us }
      if m.hello then (0, P.set i (helloC P i { c with up := us } m.seq)) else if taken P.ents i m.seq then (0, Q) else (0, takeP Q i m)
def answered (c : Cli) (a : Ans) : Cli :=
  if c.pend.any (fun q => decide (q.1 = a.seq)) then { c with pend := c.pend.eraseP fun q => decide (q.1 = a.seq), ans := c.ans ++ [a] } else c
def downC (i : Int) (c : Cli) (m : Msg) : Cli :=
  match m.tree with
  | some t => m.ans.foldl answered { c with base := t, n := m.n }
  | none =>
    let c1 := { c with base := if m.ent.done then applyL c.base m.ent.e else c.base, n := c.n + 1 }
    if m.ent.client = i then answered c1 ⟨m.ent.seq, m.ent.done⟩ else c1
def downP (P : Par) (i : Int) : Nat × Par :=
  match P.cl i with
  | none => (1, P)
  | some c => match c.down with
    | [] => (9, P)
    | m :: ds => (0, P.set i (downC i { c with down := ds } m))
def viewC (c : Cli) : List Nd := appAll c.base (c.pend.map (·.2))
def logP (P : Par) : List Ent := if (P.ents.length : Int) ≤ P.log then P.ents else P.ents.drop (P.ents.length - P.log.toNat)

/-! ### In memory -/
def Ent.vals (x : Ent) : List Value := [I x.client, I x.seq, I x.e.kind, I x.e.node, I x.e.parent, I x.e.key, I x.e.prop, I x.e.value, B x.done]
def Ans.vals (x : Ans) : List Value := [I x.seq, B x.done]
def pdV (q : Int × Ed) : List Value := [I q.1, I q.2.kind, I q.2.node, I q.2.parent, I q.2.key, I q.2.prop, I q.2.value]
def msgV (m : Msg) (tp av : Value) : List Value := [B m.hello, I m.seq] ++ m.e.vals ++ m.ent.vals ++ [tp, I m.n, av]
def fl {α : Type} (f : α → List Value) : List α → List Value
  | [] => []
  | x :: l => f x ++ fl f l
section
variable {α : Type} {f : α → List Value} {k : Nat}
theorem fl_append (f : α → List Value) : ∀ a b : List α, fl f (a ++ b) = fl f a ++ fl f b
  | [], b => rfl
  | x :: a, b => by simp [fl, fl_append f a b]
theorem fl_len (hf : ∀ x, (f x).length = k) : ∀ l : List α, (fl f l).length = l.length * k
  | [] => by simp [fl]
  | x :: l => by rw [fl, List.length_append, hf, fl_len hf l, List.length_cons, Nat.add_mul]; omega
theorem fl_one (hf : ∀ x, ∀ u ∈ f x, one u = true) : ∀ (l : List α), ∀ u ∈ fl f l, one u = true
  | [], u, h => by cases h
  | x :: l, u, h => by
    rcases List.mem_append.1 h with h | h
    · exact hf x u h
    · exact fl_one hf l u h
theorem fl_sub (hf : ∀ x, (f x).length = k) : ∀ (l : List α) (i : Nat) (x : α), l[i]? = some x → ∀ (skip rest : List Value), sub (skip ++ (fl f l ++ rest)) (skip.length + i * k) k = f x
  | [], i, x, h, _, _ => by simp at h
  | y :: l, 0, x, h, skip, rest => by
    simp at h
    subst h
    rw [Nat.zero_mul, sub_drop, fl, List.append_assoc]
    have := sub_left (f y) (fl f l ++ rest)
    rw [hf] at this
    exact this
  | y :: l, i + 1, x, h, skip, rest => by
    have ih := fl_sub hf l i x (by simpa using h) (skip ++ f y) rest
    rw [List.length_append, hf] at ih
    rw [fl]
    simp only [List.append_assoc] at ih ⊢
    rw [show skip.length + (i + 1) * k = skip.length + k + i * k by rw [Nat.add_mul]; omega]
    exact ih
theorem fl_get (hf : ∀ x, (f x).length = k) {l : List α} {i j : Nat} {x : α} {v : Value} (h : l[i]? = some x) (hv : (f x)[j]? = some v) (skip rest : List Value) : (skip ++ (fl f l ++ rest))[skip.length + i * k + j]? = some v := by
  induction l generalizing i skip with
  | nil => simp at h
  | cons y l ih =>
    cases i with
    | zero =>
      simp at h
      subst h
      have hj : j < (f y).length := (List.getElem?_eq_some_iff.1 hv).1
      rw [Nat.zero_mul, Nat.add_zero, List.getElem?_append_right (by omega), show skip.length + j - skip.length = j by omega, fl, List.append_assoc, List.getElem?_append_left hj]
      exact hv
    | succ i =>
      have := ih (by simpa using h) (skip ++ f y)
      rw [List.length_append, hf] at this
      rw [fl]
      simp only [List.append_assoc] at this ⊢
      rw [show skip.length + (i + 1) * k + j = skip.length + k + i * k + j by rw [Nat.add_mul]; omega]
      exact this
end
end Go.Proofs.YtbicffldggcdhabGreatDoor

namespace Go.Proofs.YtbicffldggcdhabGreatDoor
open Go

section
variable {pre x post : List Value} {k a b n : Nat} {v : Value}
theorem mid_get (h : x[k]? = some v) : (pre ++ (x ++ post))[pre.length + k]? = some v := by
  have hl := (List.getElem?_eq_some_iff.1 h).1
  rw [List.getElem?_append_right (by omega), show pre.length + k - pre.length = k by omega, List.getElem?_append_left hl]
  exact h
theorem mid_get0 (h : x[0]? = some v) : (pre ++ (x ++ post))[pre.length]? = some v := mid_get (k := 0) h
theorem mid_get2 (h : x[a + b]? = some v) : (pre ++ (x ++ post))[pre.length + a + b]? = some v := by
  rw [Nat.add_assoc]
  exact mid_get h
theorem mid_set (h : k < x.length) : (pre ++ (x ++ post)).set (pre.length + k) v = pre ++ (x.set k v ++ post) := by
  rw [List.set_append_right _ _ (by omega), show pre.length + k - pre.length = k by omega, List.set_append_left _ _ h]
theorem mid_set2 (h : a + b < x.length) : (pre ++ (x ++ post)).set (pre.length + a + b) v = pre ++ (x.set (a + b) v ++ post) := by
  rw [Nat.add_assoc]
  exact mid_set h
theorem mid_sub : ∀ (pre : List Value) (k : Nat), k + n ≤ x.length → sub (pre ++ (x ++ post)) (pre.length + k) n = sub x k n
  | [], k, h => by
    rw [List.nil_append, List.length_nil, Nat.zero_add]
    induction n generalizing k with
    | zero => rw [sub_zero, sub_zero]
    | succ n ih =>
      have hk : k < x.length := by omega
      have e : x[k]? = some x[k] := List.getElem?_eq_getElem hk
      rw [sub_succ x k n x[k] e, sub_succ (x ++ post) k n x[k] (by rw [List.getElem?_append_left hk]; exact e), ih (k + 1) (by omega)]
  | y :: pre, k, h => by
    rw [List.length_cons, List.cons_append, show pre.length + 1 + k = pre.length + k + 1 by omega]
    exact mid_sub pre k h
theorem mid_put : ∀ (vs x : List Value) (k : Nat), k + vs.length ≤ x.length → put (pre ++ (x ++ post)) (pre.length + k) vs = pre ++ (put x k vs ++ post)
  | [], x, k, _ => by rw [put_nil, put_nil]
  | v :: vs, x, k, h => by
    simp only [List.length_cons] at h
    rw [put_cons _ _ _ _ (by simp; omega), mid_set (by omega), put_cons _ _ _ _ (by omega), show pre.length + k + 1 = pre.length + (k + 1) by omega]
    exact mid_put vs _ (k + 1) (by rw [List.length_set]; omega)
end
theorem fl_take_drop {α : Type} (f : α → List Value) {l : List α} {i : Nat} {x : α} (h : l[i]? = some x) (rest : List Value) : fl f l ++ rest = fl f (l.take i) ++ (f x ++ (fl f (l.drop (i + 1)) ++ rest)) := by
  have hl := (List.getElem?_eq_some_iff.1 h).1
  have e : l = l.take i ++ x :: l.drop (i + 1) := by
    conv => lhs; rw [← List.take_append_drop i l, List.drop_eq_getElem_cons hl]
    have : l[i] = x := by rw [List.getElem?_eq_getElem hl] at h; exact Option.some.inj h
    rw [this]
  conv => lhs; rw [e, fl_append]
  simp only [fl, List.append_assoc]
theorem fl_set {α : Type} (f : α → List Value) {l : List α} {i : Nat} {x : α} (h : i < l.length) (rest : List Value) : fl f (l.set i x) ++ rest = fl f (l.take i) ++ (f x ++ (fl f (l.drop (i + 1)) ++ rest)) := by
  rw [fl_take_drop f (l := l.set i x) (i := i) (x := x) (List.getElem?_set_self h)]
  rw [List.take_set_of_le (Nat.le_refl _), List.drop_set_of_lt (by omega)]
end Go.Proofs.YtbicffldggcdhabGreatDoor
