/-
  WLay; WLay2; LRnd; WWalk; WTree6; WTree7; WTree8; WLaw2; WLaw3; WLaw4.
-/
import Derived.Test.YtbicffldggcdhaaGreatDoorB02
import Derived.Test.YtbicffldggcdhaaGreatDoorB00
import Derived.RangeFuncLeaves
import Derived.Test.YtbicffldggcdhaaGreatDoorB01
namespace Go.Proofs.YtbicffldggcdhaaGreatDoor
open Go

/-! ### Loops over a map -/
/-- How many entries a loop over a map has still to see. -/
def left (es : Array MapEntry) (r : Nat) (w : World) : Nat :=
  match w.heap[r]? with
  | some (.mapIter _ _ seen _) => (es.toList.filter fun e => !seen.contains e.born).length
  | _ => 0
theorem left_at {es : Array MapEntry} {r b c c' : Nat} {seen : Array Nat} {w : World} (h : At w r (.mapIter (some b) c seen c')) : left es r w = (es.toList.filter fun e => !seen.contains e.born).length := by
  have h' : w.heap[r]? = some (.mapIter (some b) c seen c') := h
  simp [left, h']
theorem filter_lt {α : Type} {p q : α → Bool} : ∀ {l : List α}, (∀ x ∈ l, q x = true → p x = true) → (∃ x ∈ l, p x = true ∧ q x = false) → (l.filter q).length < (l.filter p).length
  | [], _, ⟨x, hx, _⟩ => by cases hx
  | y :: l, h, ⟨x, hx, hp, hq⟩ => by
    have hle : ∀ {l : List α}, (∀ x ∈ l, q x = true → p x = true) → (l.filter q).length ≤ (l.filter p).length := by
      intro l
      induction l with
      | nil => intro _; exact Nat.le_refl _
      | cons z l ih =>
        intro h
        have := ih (fun x hx => h x (List.mem_cons_of_mem _ hx))
        have hz := h z List.mem_cons_self
        rw [List.filter_cons, List.filter_cons]
        cases hq : q z with
        | true => rw [hz hq]; simp; exact this
        | false => cases p z <;> simp <;> omega
    have hl := hle (fun x hx => h x (List.mem_cons_of_mem _ hx))
    rw [List.filter_cons, List.filter_cons]
    rcases List.mem_cons.1 hx with e | e
    · subst e
      simp [hp, hq]
      omega
    · have ih := filter_lt (fun x hx => h x (List.mem_cons_of_mem _ hx)) ⟨x, e, hp, hq⟩
      have hy := h y List.mem_cons_self
      cases hqy : q y with
      | true => rw [hy hqy]; simp; exact ih
      | false => cases p y <;> simp <;> omega
theorem left_push {es : Array MapEntry} {seen : Array Nat} {e : MapEntry} (he : e ∈ es.toList) (hn : e.born ∉ seen.toList) :
    (es.toList.filter fun x => !(seen.push e.born).contains x.born).length < (es.toList.filter fun x => !seen.contains x.born).length := by
  refine filter_lt (fun x _ hx => ?_) ⟨e, he, ?_, ?_⟩
  · simp at hx ⊢
    exact hx.1
  · simpa using hn
  · simp
section
variable {P : Program} {w : World} {ρ : Operand → Value} {d : Option Nat} {t : Nat} {p : String} {af : Array Edge} {g : Option (Nat × Bool)} {b cl : Nat} {es : Array MapEntry} {x : Operand}
theorem r_entryN {r : Nat} {seen : Array Nat} {e : MapEntry} {n : Nd} (hx : ρ x = .pointer (some ⟨r, 0, none⟩)) (hr : At w r (.mapIter (some b) cl (seen.push e.born) cl)) (hb : At w b (.map es cl)) (he : e ∈ es.toList) (hn : (es.toList.map (·.born)).Nodup) (hk : e.key = I n.id) (hv : e.val = NdV n) :
    (execOp ρ ⟨d, .entry x, t, p, af, g⟩).run P w = .ok (.value (.tuple [I n.id, NdV n].toArray)) w := by
  rw [r_entry hx hr hb he hn, hk, hv]
theorem r_entryG {r : Nat} {seen : Array Nat} {e : MapEntry} {k : Int} {v : Value} (hx : ρ x = .pointer (some ⟨r, 0, none⟩)) (hr : At w r (.mapIter (some b) cl (seen.push e.born) cl)) (hb : At w b (.map es cl)) (he : e ∈ es.toList) (hn : (es.toList.map (·.born)).Nodup) (hk : e.key = I k) (hv : e.val = v) :
    (execOp ρ ⟨d, .entry x, t, p, af, g⟩).run P w = .ok (.value (.tuple [I k, v].toArray)) w := by
  rw [r_entry hx hr hb he hn, hk, hv]
end
theorem nodup_map_inj {α β : Type} {f : α → β} : ∀ {l : List α}, (l.map f).Nodup → ∀ a ∈ l, ∀ b ∈ l, f a = f b → a = b
  | [], _, a, ha, _, _, _ => by cases ha
  | x :: l, h, a, ha, b, hb, e => by
    simp only [List.map_cons, List.nodup_cons] at h
    rcases List.mem_cons.1 ha with h1 | h1 <;> rcases List.mem_cons.1 hb with h2 | h2
    · rw [h1, h2]
    · subst h1
      exact absurd (by rw [e]; exact List.mem_map_of_mem h2) h.1
    · subst h2
      exact absurd (by rw [← e]; exact List.mem_map_of_mem h1) h.1
    · exact nodup_map_inj h.2 a h1 b h2 e
theorem Ents.keys {es : Array MapEntry} {cl : Nat} {m : List Nd} (h : Ents es cl m) (hn : (m.map (·.id)).Nodup) : (es.toList.map (·.key)).Nodup := by
  have h1 : es.toList.map (·.key) = (m.map (·.id)).map I := by
    have := congrArg (List.map Prod.fst) h.ents
    simpa [entOf, ndEnt, List.map_map, Function.comp_def] using this
  rw [h1]
  refine List.Pairwise.map _ (fun a b hab e => hab ?_) hn
  cases e
  rfl
theorem NdV_inj {x y : Nd} (h : NdV x = NdV y) : x = y := by
  obtain ⟨a1, a2, a3, a4, a5, a6, a7⟩ := x
  obtain ⟨b1, b2, b3, b4, b5, b6, b7⟩ := y
  simp [NdV, Nd.vals] at h
  obtain ⟨h1, h2, h3, h4, h5, h6, h7⟩ := h
  subst h1 h2 h3 h4 h5 h6 h7
  rfl

/-! ### Rows -/
theorem Row.keep {w w' : World} {v : Value} {e sz n : Nat} {pre : List Value} {S : Nat → Prop} (h : Row w v e sz n pre) (f : Frm S w w') (hn : ∀ b, InV v b → ¬ S b) : Row w' v e sz n pre := by
  rcases h with h | ⟨b, cap, rest, rfl, hA, h1, h2, h3⟩
  · exact .inl h
  · exact .inr ⟨b, cap, rest, rfl, f.at (hn b ⟨_, _, _, rfl⟩) hA, h1, h2, h3⟩
theorem Row.isCells {w : World} {v : Value} {e sz n : Nat} {pre : List Value} (h : Row w v e sz n pre) {b : Nat} (hb : InV v b) : ∃ l, At w b (cel l e) := by
  obtain ⟨off, l, c, hv⟩ := hb
  rcases h with ⟨h, _⟩ | ⟨b', cap, rest, h, hA, _⟩
  · rw [h] at hv; cases hv
  · rw [h] at hv
    cases hv
    exact ⟨_, hA⟩
theorem at_unique {w : World} {b : Nat} {o o' : Obj} (h : At w b o) (h' : At w b o') : o = o' := by
  have h1 : w.heap[b]? = some o := h
  have h2 : w.heap[b]? = some o' := h'
  rw [h1] at h2
  cases h2
  rfl

/-- A layout: a map of rows of nodes. -/
structure Lay (w : World) (lb base : Nat) (es : Array MapEntry) (cl : Nat) (M : List (Int × Value)) (K : Int → List Nd) : Prop where
  row : At w lb (.map es cl)
  ents : GEnts es cl M
  val : ∀ p, Row w (gor M p) 90 7 (K p).length (flat (K p))
  low : ∀ p b, InV (gor M p) b → base ≤ b
  apart : ∀ p q b, p ≠ q → InV (gor M p) b → ¬ InV (gor M q) b
  has : ∀ p v, gget p M = some v → K p ≠ []
section
variable {w w' w1 : World} {lb base : Nat} {es es' : Array MapEntry} {cl cl' : Nat} {M : List (Int × Value)} {K : Int → List Nd}
theorem Lay.frm {S : Nat → Prop} (h : Lay w lb base es cl M K) (f : Frm S w w') (hl : ¬ S lb) (hb : ∀ p b, InV (gor M p) b → ¬ S b) : Lay w' lb base es cl M K :=
  ⟨f.at hl h.row, h.ents, fun p => (h.val p).keep f (hb p), h.low, h.apart, h.has⟩
theorem Lay.frm0 (h : Lay w lb base es cl M K) (f : Frm0 w w') : Lay w' lb base es cl M K := h.frm f id (fun _ _ _ => id)
theorem Lay.ne (h : Lay w lb base es cl M K) {c : Nat} {o : Obj} (hc : At w c o) (ho : ∀ l e, o ≠ cel l e) : ∀ p b, InV (gor M p) b → ¬ b = c := fun p b hb e => by
  obtain ⟨l, hA⟩ := (h.val p).isCells hb
  subst e
  exact ho _ _ (at_unique hc hA)
theorem Lay.put {x : Nd} {p : Int} {v : Value} (h : Lay w lb base es cl M K) (hv : Row w1 v 90 7 ((K p).length + 1) (flat (K p) ++ x.vals)) (f : Frm (InV (gor M p)) w w1) (hn : ∀ b, InV v b → InV (gor M p) b ∨ w.heap.size ≤ b) (hlb : lb < base) (hbase : base ≤ w.heap.size) (hu : GEnts es' cl' (gput p v M)) :
    Lay (setB w1 lb (.map es' cl')) lb base es' cl' (gput p v M) (fun q => if q = p then K p ++ [x] else K q) := by
  have hlow : ∀ b, InV v b → base ≤ b := fun b hb => by
    rcases hn b hb with h1 | h1
    · exact h.low p b h1
    · omega
  have hF : Frm (fun b => b = lb) w1 (setB w1 lb (.map es' cl')) := (Frm.refl (fun b => b = lb) w1).setB (b := lb) (.inl rfl) _
  have hlt : ∀ q b, InV (gor M q) b → b < w.heap.size := fun q b hb => by
    obtain ⟨l, hA⟩ := (h.val q).isCells hb
    exact at_lt hA
  have hlb1 : At w1 lb (.map es cl) := f.at (fun hb => by have := h.low p lb hb; omega) h.row
  refine ⟨at_setB _ hlb1, hu, fun q => ?_, fun q b hb => ?_, fun q r b hqr hb hc => ?_, fun q u hq => ?_⟩
  · rw [gor_put]
    by_cases hq : q = p
    · rw [if_pos hq, if_pos hq, flat_append, List.length_append]
      simp only [flat, List.append_nil, List.length_cons, List.length_nil, Nat.zero_add]
      exact hv.keep hF (fun b hb e => by have := hlow b hb; omega)
    · rw [if_neg hq, if_neg hq]
      exact ((h.val q).keep f (fun b hb hc => h.apart q p b hq hb hc)).keep hF (fun b hb e => by have := h.low q b hb; omega)
  · rw [gor_put] at hb
    by_cases hq : q = p
    · rw [if_pos hq] at hb; exact hlow b hb
    · rw [if_neg hq] at hb; exact h.low q b hb
  · rw [gor_put] at hb hc
    by_cases hq : q = p
    · rw [if_pos hq] at hb
      rw [if_neg (fun e => hqr (hq.trans e.symm))] at hc
      rcases hn b hb with h1 | h1
      · exact h.apart p r b (hq ▸ hqr) h1 hc
      · have := hlt r b hc
        omega
    · rw [if_neg hq] at hb
      by_cases hr : r = p
      · rw [if_pos hr] at hc
        rcases hn b hc with h1 | h1
        · exact h.apart q p b hq hb h1
        · have := hlt q b hb
          omega
      · rw [if_neg hr] at hc
        exact h.apart q r b hqr hb hc
  · show (if q = p then K p ++ [x] else K q) ≠ []
    by_cases h1 : q = p
    · rw [if_pos h1]; simp
    · rw [if_neg h1]
      rw [gget_put, if_neg h1] at hq
      exact h.has q u hq
theorem Lay.sorted {p : Int} {b cap : Nat} {ys : List Nd} {rest : List Value} (h : Lay w lb base es cl M K) (hv : gor M p = .slice (some ⟨b, 0, none⟩) (K p).length cap) (hr : (K p).length * 7 + rest.length = cap * 7) (hc : (K p).length ≤ cap) (hy : ys.Perm (K p)) (hA : At w1 b (cel (flat ys ++ rest) 90)) (f : Frm (fun c => c = b) w w1) :
    Lay w1 lb base es cl M (fun q => if q = p then ys else K q) := by
  have hbb : InV (gor M p) b := ⟨_, _, _, hv⟩
  have hne : lb ≠ b := fun e => h.ne h.row (fun l e => by simp [cel]) p b hbb e.symm
  refine ⟨f.at hne h.row, h.ents, fun q => ?_, h.low, h.apart, fun q u hq => ?_⟩
  · by_cases hq : q = p
    · subst hq
      rw [if_pos rfl]
      refine .inr ⟨b, cap, rest, by rw [hv, hy.length_eq], hA, flat_length ys, by rw [hy.length_eq]; exact hr, by rw [hy.length_eq]; exact hc⟩
    · rw [if_neg hq]
      exact (h.val q).keep f (fun c hc e => h.apart q p c hq hc (e ▸ hbb))
  · show (if q = p then ys else K q) ≠ []
    by_cases h1 : q = p
    · rw [if_pos h1]
      intro e
      rw [e] at hy
      exact h.has p u (h1 ▸ hq) hy.symm.eq_nil
    · rw [if_neg h1]
      exact h.has q u hq
end
def chOf (l : List Nd) (p : Int) : List Nd := l.filter fun x => decide (x.id ≠ 0 ∧ x.par = p)
theorem chOf_root {l : List Nd} {x : Nd} (h : x.id = 0) : chOf (l ++ [x]) = chOf l := by
  funext p
  simp [chOf, List.filter_append, h]
theorem chOf_put {l : List Nd} {x : Nd} (h : x.id ≠ 0) : (fun q => if q = x.par then chOf l x.par ++ [x] else chOf l q) = chOf (l ++ [x]) := by
  funext q
  by_cases hq : q = x.par
  · subst hq
    simp [chOf, List.filter_append, h]
  · have : ¬ x.par = q := fun e => hq e.symm
    simp [chOf, List.filter_append, hq, this]
end Go.Proofs.YtbicffldggcdhaaGreatDoor

namespace Go.Proofs.YtbicffldggcdhaaGreatDoor
open Go
theorem runG03 {G K : Prop} (k : K) (h : Wrap K → G := by intro h; (repeat (first | (with_reducible first | refine wpIn_seq ?_ | refine w_reg ?_ | refine s_nil ?_ | refine s_nilQ ?_ | refine wpIn_block ?_ | refine q_then ?_ | refine q_blk ?_ | refine q_then_ret ?_ | refine q_blk_ret ?_ | refine q_then_exit ?_ | refine q_blk_exit ?_ | refine wpIn_skip ?_ | refine wpIn_ret ?_ | refine wpIn_exit ?_ | refine y_nil ?_ | refine y_nilQ ?_ | refine x_late ?_) | ((with_reducible refine q_blk_other ?_ ?_); exact rfl) | ((with_reducible apply c_true); exact rfl; (with_reducible exact rfl)) | ((with_reducible apply c_false); exact rfl; (with_reducible exact rfl)) | ((with_reducible apply s_no); (first | ((with_reducible apply wnt_nt); exact rfl; exact rfl; exact rfl; exact rfl; (with_reducible exact rfl)) | ((with_reducible apply wnt_nf); exact rfl; exact rfl; exact rfl; exact rfl; (with_reducible exact rfl)))) | ((with_reducible apply x_qno); exact rfl; (first | ((with_reducible apply wnt_nt); exact rfl; exact rfl; exact rfl; exact rfl; (with_reducible exact rfl)) | ((with_reducible apply wnt_nf); exact rfl; exact rfl; exact rfl; exact rfl; (with_reducible exact rfl)))) | ((first | with_reducible apply s_val | ((with_reducible apply y_val); exact rfl) | ((with_reducible apply x_q); exact rfl; intro wq hq)); (first | ((with_reducible apply r_assign_m); exact rfl) | ((with_reducible apply r_move_p); exact rfl) | ((with_reducible apply r_nilCheck); exact rfl) | ((with_reducible apply r_fld); exact fa_ok rfl; exact rfl) | ((with_reducible apply r_load); exact u_ok rfl; exact rfl; exact rfl; (first | exact Frm.at0 hq (by assumption) | exact Frm.at hq (by assumption) (by assumption) | (first | (with_reducible assumption) | assumption | exact at_alloc_new _ _ | (repeat (first | assumption | exact at_alloc_new _ _ | refine at_drew ?_ | refine at_alloc _ ?_)))); exact rfl) | ((with_reducible apply r_extract); exact rfl; exact rfl) | ((with_reducible apply r_allocA); exact z_ok rfl) | ((with_reducible apply r_alloc1); exact z_ok rfl; exact rfl) | ((with_reducible apply r_assign_i); exact rfl) | ((with_reducible apply r_move_i); exact rfl) | ((with_reducible apply r_neq_t); exact rfl; exact rfl; omega) | ((with_reducible apply r_neq_f); exact rfl; exact rfl; omega) | ((with_reducible apply r_neq); exact rfl; exact rfl) | ((with_reducible apply r_move_m); exact rfl) | ((with_reducible apply r_look); exact u_ok rfl; exact u_ok rfl; exact z_ok rfl; exact rfl; exact rfl; (first | exact Frm.at0 hq (by assumption) | exact Frm.at hq (by assumption) (by assumption) | (first | (with_reducible assumption) | assumption | exact at_alloc_new _ _ | (repeat (first | assumption | exact at_alloc_new _ _ | refine at_drew ?_ | refine at_alloc _ ?_)))); assumption) | ((with_reducible apply r_loadA); exact u_ok rfl; exact rfl; exact s_ok rfl; exact rfl; (first | exact Frm.at0 hq (by assumption) | exact Frm.at hq (by assumption) (by assumption) | (first | (with_reducible assumption) | assumption | exact at_alloc_new _ _ | (repeat (first | assumption | exact at_alloc_new _ _ | refine at_drew ?_ | refine at_alloc _ ?_)))); exact Nat.le_of_ble_eq_true rfl) | ((with_reducible apply r_assign_s); exact rfl) | ((with_reducible apply r_move_s); exact rfl) | ((with_reducible apply r_boxA); exact rfl) | ((with_reducible apply r_box1); exact rfl; exact rfl) | ((with_reducible apply r_assign_b); exact rfl) | ((with_reducible apply r_move_f); exact rfl) | ((with_reducible apply r_not_t); exact rfl; (with_reducible exact rfl)) | ((with_reducible apply r_not_f); exact rfl; (with_reducible exact rfl)) | ((with_reducible apply r_not); exact rfl) | ((with_reducible apply r_len); exact u_ok rfl; exact rfl) | ((with_reducible apply r_lss_t); exact rfl; exact rfl; omega) | ((with_reducible apply r_lss_f); exact rfl; exact rfl; omega) | ((with_reducible apply r_lss); exact rfl; exact rfl) | ((with_reducible apply r_index); exact u_ok rfl; exact s_ok rfl; exact rfl; exact rfl; omega; omega) | ((with_reducible apply r_indexarr); exact u_ok rfl; exact s_ok rfl; exact rfl; exact rfl; omega; omega) | ((with_reducible apply r_add); exact rfl; exact rfl; omega; omega) | ((with_reducible apply r_assign_f); exact rfl) | ((with_reducible apply r_assign_if); exact rfl) | ((with_reducible apply r_assign_ni); exact rfl) | ((with_reducible apply r_eql_t); exact rfl; exact rfl; omega) | ((with_reducible apply r_eql_f); exact rfl; exact rfl; omega) | ((with_reducible apply r_eql); exact rfl; exact rfl) | ((with_reducible apply r_move_if); exact rfl) | ((with_reducible apply r_move_ni); exact rfl) | ((with_reducible apply r_ifaceP); exact rfl; exact u_ok rfl) | ((with_reducible apply r_move_t); exact rfl) | ((with_reducible apply r_move_b); exact rfl) | ((with_reducible apply r_pick_t); exact rfl; (with_reducible exact rfl); exact rfl) | ((with_reducible apply r_pick_f); exact rfl; (with_reducible exact rfl); exact rfl) | ((with_reducible apply r_sub); exact rfl; exact rfl; omega; omega) | ((with_reducible apply r_assign_p); exact rfl) | ((with_reducible apply r_remE); exact rfl; exact rfl; omega; omega) | ((with_reducible apply r_rem); exact rfl; exact rfl; omega)); (first | (with_reducible exact wnt_none) | ((with_reducible apply wnt_y); exact rfl; exact rfl; exact rfl; exact rfl; (with_reducible exact rfl)))))); exact h.out) : G := h ⟨k⟩

set_option maxHeartbeats 1000000 in
theorem layOut_ret {w : World} {t mb : Nat} {es : Array MapEntry} {cl : Nat} {m l : List Nd} (h : TreeAt w t mb es cl m) (hp : m.Perm l) (hw : Wf l) :
    Rets Tryz.prog 118 [Ptr t] w fun v w' => ∃ lb es' cl' M, v = .map (some lb) ∧ Lay w' lb w.heap.size es' cl' M (kids l) ∧ w.heap.size ≤ lb ∧ Frm0 w w' := by
  have h1 := h.head
  have h2 := h.row
  have hE := h.ents
  have hmn := perm_nodup hp hw.nodup
  have hes : es.toList.length ≤ 32 := by
    have := hE.size
    have h3 := hp.length_eq
    have h4 := hw.small
    rw [Array.length_toList]
    omega
  have h1' := at_alloc (.map #[] 0) h1
  have h2' := at_alloc (.map #[] 0) h2
  obtain ⟨N, hN⟩ : ∃ N, w.heap.size = N := ⟨_, rfl⟩
  refine rets_of Tryz.func118 (by kernel_rfl) rfl Tryz.ntmps118 (Nat.le_of_ble_eq_true rfl) ?_
  refine runG03 ?_
  refine s_val r_mkmap wnt_none ?_
  refine runG03 ?_
  refine s_val (r_range (u_ok rfl) rfl h2') wnt_none ?_
  rw [World.size_alloc, hN]
  refine runG03 ?_
  refine lp (fun env w' => ∃ env0, ∃ (seen : Array Nat) (sn : List Nd) (es' : Array MapEntry) (cl' : Nat) (M : List (Int × Value)), env = setL env0 [(0, Ptr t), (3, .map (some N)), (13, Ptr (N + 1))] ∧ At w' (N + 1) (.mapIter (some mb) cl seen cl) ∧ Lay w' N (N + 2) es' cl' M (chOf sn) ∧ Frm0 w w' ∧ N + 2 ≤ w'.heap.size ∧
    (sn.map (·.id)).Nodup ∧ (∀ e ∈ es.toList, ∀ x : Nd, e.key = I x.id → e.val = NdV x → (x ∈ sn ↔ e.born ∈ seen.toList)) ∧ (∀ x ∈ sn, x ∈ m) ∧ sn.length + (es.toList.filter fun e => !seen.contains e.born).length ≤ es.toList.length) (fun _ w' => left es (N + 1) w') ?_ ?_
  · refine ⟨_, #[], [], #[], 0, [], fixL ⟨rfl, rfl, rfl, trivial⟩, ?_, ⟨?_, gents_nil, fun p => .inl ⟨rfl, rfl, rfl⟩, ?_, ?_, ?_⟩, (Frm.of_alloc _ _).alloc _, ?_, by simp, ?_, ?_, ?_⟩
    · have := at_alloc_new (w.alloc (.map #[] 0)) (.mapIter (some mb) cl #[] cl)
      rwa [World.size_alloc, hN] at this
    · rw [← hN]
      exact at_alloc _ (at_alloc_new _ _)
    · rintro p b ⟨_, _, _, hb⟩; cases hb
    · rintro p q b _ ⟨_, _, _, hb⟩; cases hb
    · intro p v hv; cases hv
    · simp; omega
    · intro e _ x _ _
      simp
    · intro x hx; cases hx
    · have := List.length_filter_le (fun e => !(#[] : Array Nat).contains e.born) es.toList
      simp only [List.length_nil]
      omega
  · rintro env w1 ⟨env0, seen, sn, es', cl', M, rfl, hit, hL, hF, hsz, hsn, hch, hsub, hlen⟩
    have h2w := hF.at0 h2
    have hl1 := left_at (es := es) hit
    rcases next_run (P := Tryz.prog) (t := 0) hit h2w hE.low with ⟨hall, hn⟩ | ⟨e, he, hns, w2, hw2, hn⟩
    · -- all nodes are laid down: now each row is sorted
      have hmem : ∀ x, x ∈ sn ↔ x ∈ m := fun x => ⟨hsub x, fun hx => by
        obtain ⟨j, hj⟩ := List.getElem?_of_mem hx
        obtain ⟨e, he, hk, hv⟩ := hE.get hj
        have he' := List.mem_of_getElem? he
        exact (hch e he' x hk hv).2 (hall e he')⟩
      refine runG03 ?_
      refine s_val (r_next rfl hn) wnt_none ?_
      refine runG03 ?_
      refine s_val (r_range (u_ok rfl) rfl hL.row) wnt_none ?_
      obtain ⟨it, hitN⟩ : ∃ it, w1.heap.size = it := ⟨_, rfl⟩
      rw [hitN]
      refine runG03 ?_
      refine lp (fun env w' => ∃ env0, ∃ (seen2 : Array Nat) (K : Int → List Nd), env = setL env0 [(3, .map (some N)), (32, Ptr it)] ∧ At w' it (.mapIter (some N) cl' seen2 cl') ∧ Lay w' N (N + 2) es' cl' M K ∧ (∀ p, (K p).Perm (chOf sn p)) ∧ (∀ e ∈ es'.toList, ∀ k, e.key = I k → e.born ∈ seen2.toList → Asc (K k)) ∧ Frm0 w w') (fun _ w' => left es' it w') ?_ ?_
      · refine ⟨_, #[], chOf sn, fixL ⟨rfl, rfl, trivial⟩, ?_, hL.frm0 (Frm.of_alloc _ _), fun _ => List.Perm.refl _, fun e _ k _ hb => (by simp at hb), hF.alloc _⟩
        rw [← hitN]
        exact at_alloc_new _ _
      · rintro env w3 ⟨env0, seen2, K, rfl, hit2, hL2, hK, hS, hF2⟩
        have hl2 := left_at (es := es') hit2
        rcases next_run (P := Tryz.prog) (t := 0) hit2 hL2.row hL2.ents.low with ⟨hall2, hn2⟩ | ⟨e, he, hns, w4, hw4, hn2⟩
        · have hKk : K = kids l := funext fun p => by
            refine kids_unique hw ?_ ?_ ?_
            · cases hg : gget p M with
              | some v =>
                obtain ⟨e, he, hk⟩ := hL2.ents.of hg
                exact hS e he p hk (hall2 e he)
              | none =>
                have hr := hL2.val p
                have hnil : gor M p = nilS := by rw [gor, hg]; rfl
                rw [hnil] at hr
                rcases hr with ⟨_, h0, _⟩ | ⟨b, cap, rest, h0, _⟩
                · rw [List.length_eq_zero_iff.1 h0]; exact List.Pairwise.nil
                · cases h0
            · exact ((hK p).map _).nodup_iff.2 ((List.filter_sublist.map _).nodup hsn)
            · intro x
              rw [(hK p).mem_iff, chOf, List.mem_filter, hmem, hp.mem_iff, decide_eq_true_eq]
          refine runG03 ?_
          refine s_val (r_next rfl hn2) wnt_none ?_
          refine runG03 ?_
          refine ret_m rfl rfl ⟨N, es', cl', M, rfl, ?_, Nat.le_refl _, hF2⟩
          rw [← hKk]
          exact ⟨hL2.row, hL2.ents, hL2.val, fun p b hb => by have := hL2.low p b hb; omega, hL2.apart, hL2.has⟩
        · obtain ⟨k, v, hk, hv, hg⟩ := hL2.ents.mem he
          have hgor : gor M k = v := by rw [gor, hg]; rfl
          have hrow := hL2.val k
          rw [hgor] at hrow
          rcases hrow with ⟨_, h0, _⟩ | ⟨b, cap, rest, rfl, hA, _, hr, hc⟩
          · exact absurd (List.length_eq_zero_iff.1 h0) (hL2.has k _ hg)
          have hbV : InV (gor M k) b := ⟨_, _, _, hgor⟩
          have hbit : ¬ b = it := hL2.ne hit2 (fun l e => by simp [cel]) k b hbV
          have hF34 : Frm0 w3 w4 := by rcases hw4 with rfl | rfl; exact Frm.refl _ _; exact Frm.of_drew _
          have hF35 : Frm (fun b => b = it) w3 (setB w4 it (.mapIter (some N) cl' (seen2.push e.born) cl')) := (hF34.mono (T := fun b => b = it) (fun _ h => h.elim)).setB (b := it) (.inl rfl) _
          have hit5 := at_setB (.mapIter (some N) cl' (seen2.push e.born) cl') (hF34.at0 hit2)
          have hs1 := hF.size
          have hF5 : Frm0 w (setB w4 it (.mapIter (some N) cl' (seen2.push e.born) cl')) := hF2.trans hF35 (fun b hb => .inr (by omega))
          have hL5 := hL2.frm hF35 (by omega) (hL2.ne hit2 (fun l e => by simp [cel]))
          have hA5 := hF35.at hbit hA
          have hpl := left_push he hns
          have hkeys := nodup_map_inj hL2.ents.keysN
          have hborn := nodup_map_inj hL2.ents.born
          rw [hk, hv] at hn2
          generalize setB w4 it (.mapIter (some N) cl' (seen2.push e.born) cl') = w5 at *
          have hkl : (K k).length < 1000000 := by
            have h1 := (hK k).length_eq
            have h2 := List.length_filter_le (fun x : Nd => decide (x.id ≠ 0 ∧ x.par = k)) sn
            unfold chOf at h1
            omega
          refine runG03 ?_
          refine s_val (r_next rfl hn2) wnt_none ?_
          refine runG03 ?_
          refine s_val (r_entryG rfl hit5 hL5.row he hL2.ents.born hk hv) wnt_none ?_
          refine runG03 ?_
          refine s_callf (sort_ret (cap := cap) hA5 hkl) rfl wnt_none ?_
          rintro v w6 ⟨rfl, ys, hy, hasc, hA6, f6⟩
          have hit6 := f6.at (fun e => hbit e.symm) hit5
          have hl6 := left_at (es := es') hit6
          refine runG03 ?_
          refine ⟨_, rfl, ⟨_, seen2.push e.born, fun q => if q = k then ys else K q, fixL ⟨rfl, rfl, trivial⟩, hit6, hL5.sorted hgor hr hc hy hA6 f6, fun p => ?_, fun e' he' k' hk' hb' => ?_, hF5.trans f6 (fun c hc => .inr ?_)⟩, by rw [hl2, hl6]; exact hpl⟩
          · show (if p = k then ys else K p).Perm (chOf sn p)
            by_cases hpk : p = k
            · rw [if_pos hpk, hpk]; exact hy.trans (hK k)
            · rw [if_neg hpk]; exact hK p
          · show Asc (if k' = k then ys else K k')
            by_cases hpk : k' = k
            · rw [if_pos hpk]; exact hasc
            · rw [if_neg hpk]
              refine hS e' he' k' hk' ?_
              simp only [Array.toList_push, List.mem_append, List.mem_singleton] at hb'
              rcases hb' with hb' | hb'
              · exact hb'
              · have := hborn e' he' e he hb'
                subst this
                rw [hk] at hk'
                injection hk' with _ h3
                exact absurd h3.symm hpk
          · have := hL2.low k b hbV
            omega
    · obtain ⟨x, hxm, hk, hv⟩ := hE.mem he
      rw [hk, hv] at hn
      have hF12 : Frm0 w1 w2 := by rcases hw2 with rfl | rfl; exact Frm.refl _ _; exact Frm.of_drew _
      have hF13 : Frm (fun b => b = N + 1) w1 (setB w2 (N + 1) (.mapIter (some mb) cl (seen.push e.born) cl)) := (hF12.mono (T := fun b => b = N + 1) (fun _ h => h.elim)).setB (b := N + 1) (.inl rfl) _
      have hit3 := at_setB (.mapIter (some mb) cl (seen.push e.born) cl) (hF12.at0 hit)
      have hF3 : Frm0 w (setB w2 (N + 1) (.mapIter (some mb) cl (seen.push e.born) cl)) := hF.trans hF13 (fun b hb => .inr (by omega))
      have hL3 := hL.frm hF13 (by omega) (hL.ne hit (fun l e => by simp [cel]))
      have hkeys := nodup_map_inj (hE.keys hmn)
      have hborn := nodup_map_inj hE.born
      have hpl := left_push he hns
      have hxsn : x ∉ sn := fun hx => hns ((hch e he x hk hv).1 hx)
      have hsn' : ((sn ++ [x]).map (·.id)).Nodup := by
        rw [List.map_append, List.nodup_append]
        refine ⟨hsn, by simp, ?_⟩
        intro a ha c hc hac
        simp at hc
        subst hc
        obtain ⟨y, hy, hye⟩ := List.mem_map.1 ha
        have hyx : y = x := by
          have h3 := fnd_mem hmn (hsub y hy)
          have h4 := fnd_mem hmn hxm
          rw [hye, hac, h4] at h3
          cases h3
          rfl
        exact hxsn (hyx ▸ hy)
      have hch' : ∀ e' ∈ es.toList, ∀ x' : Nd, e'.key = I x'.id → e'.val = NdV x' → (x' ∈ sn ++ [x] ↔ e'.born ∈ (seen.push e.born).toList) := by
        intro e' he' x' hk' hv'
        rw [List.mem_append, hch e' he' x' hk' hv']
        simp only [Array.toList_push, List.mem_append, List.mem_singleton]
        constructor
        · rintro (h1 | h1)
          · exact .inl h1
          · have : e' = e := hkeys e' he' e he (by rw [hk', hk, h1])
            exact .inr (by rw [this])
        · rintro (h1 | h1)
          · exact .inl h1
          · have : e' = e := hborn e' he' e he h1
            subst this
            rw [hv] at hv'
            exact .inr (NdV_inj hv').symm
      have hsub' : ∀ y ∈ sn ++ [x], y ∈ m := by
        intro y hy
        rcases List.mem_append.1 hy with h1 | h1
        · exact hsub y h1
        · simp at h1
          rw [h1]; exact hxm
      have hlen' : (sn ++ [x]).length + (es.toList.filter fun e' => !(seen.push e.born).contains e'.born).length ≤ es.toList.length := by
        rw [List.length_append]
        simp only [List.length_cons, List.length_nil]
        omega
      have hs3 := hF13.size
      generalize setB w2 (N + 1) (.mapIter (some mb) cl (seen.push e.born) cl) = w3 at *
      have h2w3 := hF3.at0 h2
      have hbox := at_alloc_new w3 (cel x.vals 90)
      have hF34 : Frm0 w3 (w3.alloc (cel x.vals 90)) := Frm.of_alloc _ _
      have hL4 := hL3.frm0 hF34
      have hF4 : Frm0 w (w3.alloc (cel x.vals 90)) := hF3.trans0 hF34
      have hit4 := hF34.at0 hit3
      have hnb : ¬ InV (gor M x.par) w3.heap.size := fun hb => by
        obtain ⟨l, hA⟩ := (hL3.val x.par).isCells hb
        have := at_lt hA
        omega
      have hnl : ¬ InV (gor M x.par) N := fun hb => by
        have := hL3.low x.par N hb
        omega
      have hnit : ¬ InV (gor M x.par) (N + 1) := fun hb => by
        have := hL3.low x.par (N + 1) hb
        omega
      have hl4 := left_at (es := es) hit4
      refine runG03 ?_
      refine s_val (r_next rfl hn) wnt_none ?_
      refine runG03 ?_
      refine s_val (r_entryN rfl hit3 h2w3 he hE.born hk hv) wnt_none ?_
      refine runG03 ?_
      refine s_skip (r_storeN (nx := x) (ny := ⟨0, 0, 0, 0, 0, 0, 0⟩) (s_ok rfl) rfl rfl (at_alloc_new _ _)) wnt_none ?_
      rw [setB_alloc]
      have hs4 := hF34.size
      generalize hB : w3.heap.size = B at *
      generalize w3.alloc (cel x.vals 90) = w4 at *
      have hlr := hL4.row
      by_cases h0 : x.id = 0
      · refine runG03 ?_
        refine ⟨_, rfl, ⟨_, seen.push e.born, sn ++ [x], es', cl', M, fixL ⟨rfl, rfl, rfl, trivial⟩, hit4, by rw [chOf_root h0]; exact hL4, hF4, by omega, hsn', hch', hsub', hlen'⟩, by rw [hl1, hl4]; exact hpl⟩
      · refine runG03 ?_
        refine w_drawn [(0, false), (1, false), (2, false), (3, false), (4, false), (5, false), (6, false), (7, false), (8, true), (9, true)] [10] (fun wq => Frm (InV (gor M x.par)) w4 wq) mixed (by kernel_rfl) ?_ ?_
        · exact Frm.of_drew _
        · refine runG03 ?_
          refine x_q rfl (fun wq hq => r_glook (id := x.par) (u_ok rfl) (u_ok rfl) (z_ok rfl) rfl rfl (hq.at hnl hlr) hL4.ents) wnt_none ?_
          refine runG03 ?_
          refine x_val rfl (r_bs rfl (bs_node x _)) wnt_none ((Frm.of_drew w4).alloc _) ?_
          have hF45 : Frm0 w4 (w4.drew.alloc (cel x.vals 90)) := (Frm.of_drew w4).alloc _
          have hL5 := hL4.frm0 hF45
          have hkl : (chOf sn x.par).length ≤ sn.length := List.length_filter_le _ _
          obtain ⟨v2, w6, e2, r2, f2, n2⟩ := append_node (ty := 154) (cx := 1) (m := 1) (ox := 0) (hL5.val x.par) (at_alloc_new w4.drew (cel x.vals 90)) (by simp [Nd.vals]) (vals_one x) (by omega)
          have f46 : Frm (InV (gor M x.par)) w4 w6 := (hF45.mono (fun _ h => h.elim)).trans f2 (fun _ h => .inl h)
          obtain ⟨es2, cl2, hu, hE2⟩ := gupd_run (P := Tryz.prog) (w := w6) (ty := 193) (id := x.par) (v := v2) (u_ok rfl) (u_ok rfl) (f46.at hnl hlr) hL4.ents
          refine x_val rfl (r_app rfl rfl e2) wnt_none f46 ?_
          refine runG03 ?_
          refine y_skip rfl (r_upd rfl rfl rfl hu) wnt_none ?_
          refine runG03 ?_
          have hs5 := hF45.size
          have hLp := hL5.put (x := x) r2 f2 n2 (by omega) (by omega) hE2
          rw [chOf_put h0] at hLp
          have hit6 := at_setB_ne (.map es2 cl2) (show N ≠ N + 1 by omega) (f46.at hnit hit4)
          have hl6 := left_at (es := es) hit6
          have hF6 : Frm0 w (setB w6 N (.map es2 cl2)) := (hF4.trans f46 (fun b hb => .inr (by have := hL4.low x.par b hb; omega))).setB (b := N) (.inr (by omega)) _
          refine ⟨_, rfl, ⟨_, seen.push e.born, sn ++ [x], es2, cl2, _, fixL ⟨rfl, rfl, rfl, trivial⟩, hit6, hLp, hF6, ?_, hsn', hch', hsub', hlen'⟩, by rw [hl1, hl6]; exact hpl⟩
          have := f46.size
          rw [size_setB]
          omega
end Go.Proofs.YtbicffldggcdhaaGreatDoor

namespace Go.Proofs.YtbicffldggcdhaaGreatDoor
open Go

section
variable {P : Program} {w w' : World} {n : Nat} {ds : List Deferred} {env : Env} {ops : Array Oper} {R : Option Nat} {Q : Exit → Act → World → Prop} {rest : List Oper} {v : Value} {d : Nat} {t : Nat} {p : String} {af : Array Edge} {g : Option (Nat × Bool)} {φ : Value → World → Prop}

/-- A call of yield that returns. -/
def Yld (P : Program) (l : Nat) (args : List Value) (w : World) (φ : Value → World → Prop) : Prop :=
  ∃ fn tmps assign body, (Instr.yield l args.toArray).run P w = .ok (.round l fn tmps assign body) w ∧ RoundIn Fence.wide 0 P l fn tmps assign body w (fun e w' => ∃ v, e = .returned v ∧ φ v w')
theorem s_yield {c : Operand} {l : Nat} {xs : List Operand} {tys : Array Nat} {args : List Value} (hc : ev n env c = .func (.yield l) #[] #[]) (ha : xs.map (ev n env) = args) (hy : Yld P l args w φ) (hw : Wnt n env ops g = true) (k : ∀ v w', φ v w' → WpS P ops Q rest (rep n ds (upd env d v)) w') : WpS P ops Q (⟨some d, .call { callee := .value c, args := xs.toArray, argTypes := tys }, t, p, af, g⟩ :: rest) (rep n ds env) w := by
  obtain ⟨fn, tmps, asn, bo, h1, h2⟩ := hy
  refine s_op hw (.inr (.inr (.inr ⟨l, fn, tmps, asn, bo, w, ?_, h2.mono ?_⟩)))
  · rw [rep_eval]
    subst ha
    simp [execOp, resolve, hc, Deferred.ofValue, invoke, h1]
  · rintro e w' ⟨v, rfl, hv⟩
    exact ⟨v, rfl, by rw [rep_put]; exact (k v w' hv).out⟩

abbrev mark (D : Nat) : Deferred := { target := .collected D, args := #[] }
def lrec (fn : Nat) (tm : Array Value) (ps : Array Nat) (asn bo : Code) (D : Nat) (st : LoopState) (pe : Option Code) : Loop := { state := st, pending := pe, fn := fn, tmps := tm, params := ps, assign := asn, body := bo, defers := D }
def inLoop (w : World) (rc : Loop) : World := (w.alloc (.deferred (some []))).alloc (.loop rc)
theorem inLoop_size (w : World) (rc : Loop) : (inLoop w rc).heap.size = w.heap.size + 2 := by simp [inLoop]
theorem inLoop_D (w : World) (rc : Loop) : At (inLoop w rc) w.heap.size (.deferred (some [])) := at_alloc _ (at_alloc_new _ _)
theorem inLoop_l (w : World) (rc : Loop) : At (inLoop w rc) (w.heap.size + 1) (.loop rc) := by
  have := at_alloc_new (w.alloc (.deferred (some []))) (.loop rc)
  rwa [World.size_alloc] at this
theorem inLoop_frm (w : World) (rc : Loop) : Frm0 w (inLoop w rc) := (Frm.of_alloc _ _).alloc _

/-- What is asked where the function that was ranged over has returned. -/
def rfQ (P : Program) (Q : Exit → Act → World → Prop) (a : Act) (l : Nat) (w3 : World) : Prop :=
  ∃ r, At w3 l (.loop r) ∧ r.state ≠ .busy ∧ (match r.pending with
    | none => Q .normal a (setB w3 l (.loop { r with state := .exhausted }))
    | some c => c.wpIn (fen none) 0 P Q a (setB w3 l (.loop { r with state := .exhausted })))

theorem rf {c : Operand} {ps : Array Nat} {asn bo : Code} {f : Nat} {caps : List Value} (hc : ev n env c = .func (.func f) #[] caps.toArray)
    (h : ∀ fn rc, rc = lrec fn (rep n ds env).tmps ps asn bo w.heap.size .ready none → Rets P f (.func (.yield (w.heap.size + 1)) #[] #[] :: caps) (inLoop w rc) (fun _ w3 => rfQ P Q (rep n (mark w.heap.size :: ds) env) (w.heap.size + 1) w3)) :
    (Code.rangeFunc c ps asn bo).wpIn (fen none) 0 P Q (rep n ds env) w := by
  refine wpIn_rangeFunc (F := fen none) fun fn _ => ?_
  obtain ⟨hcl, hh⟩ := h fn _ rfl
  obtain ⟨W1, hW1⟩ : ∃ W1, inLoop w (lrec fn (rep n ds env).tmps ps asn bo w.heap.size .ready none) = W1 := ⟨_, rfl⟩
  have he : (Instr.enterLoop fn (rep n ds env).tmps ps asn bo (fen none).round).run P w = .ok (w.heap.size + 1, [mark w.heap.size]) W1 := by
    rw [← hW1]
    exact run_enterLoop_outer fn _ ps asn bo
  have hd : (resolve (rep n ds env).eval (rangeCall c (w.heap.size + 1)) 0).run P W1 = .ok ⟨.fn (.func f) caps.toArray, #[.func (.yield (w.heap.size + 1)) #[] #[]]⟩ W1 := by
    rw [rep_eval]
    simp only [resolve, hc, Deferred.ofValue]
    simp [ev]
  have hi : (invoke (.fn (.func f) caps.toArray) #[.func (.yield (w.heap.size + 1)) #[] #[]]).run P W1 = .ok (.enter f (#[.func (.yield (w.heap.size + 1)) #[] #[]] ++ caps.toArray)) W1 := run_callFunc hcl _
  refine ⟨w.heap.size + 1, [mark w.heap.size], W1, _, W1, f, _, W1, he, hd, fun _ _ => trivial, hi, fun h => (by cases h), ?_⟩
  rw [hW1] at hh
  have h1 := (callsIn_wide (n := 0)).2 hh
  have h2 : CallsIn (fen none) 0 P f _ _ _ := h1
  rw [show #[Value.func (.yield (w.heap.size + 1)) #[] #[]] ++ caps.toArray = (Value.func (.yield (w.heap.size + 1)) #[] #[] :: caps).toArray by simp]
  refine h2.mono ?_
  rintro e w3 ⟨v, rfl, r, hr, hb, hq⟩
  refine ⟨r.pending, _, run_endLoop hr hb, ?_⟩
  cases hp : r.pending with
  | none => rw [hp] at hq; exact hq
  | some c => rw [hp] at hq; exact hq

abbrev rndQ (P : Program) (l : Nat) (φ : Value → World → Prop) : Exit → Act → World → Prop := roundPost P l (fun e w' => ∃ v, e = .returned v ∧ φ v w')
/-- A round of a loop with two variables. -/
theorem rnd2 {l fn D : Nat} {rc : Loop} {asn bo : Code} {p1 p2 : Nat} {a1 a2 : Value} (hr : At w l (.loop rc)) (hrc : rc = lrec fn (rep n ds env).tmps #[p1, p2] asn bo D .ready none)
    (h : asn.wpIn (fen (some l)) 0 P (Exit.then (fun a' w1 => At w1 l (.loop rc) ∧ bo.wpIn (fen (some l)) 0 P (rndQ P l φ) a' (setB w1 l (.loop { rc with state := .busy }))) (fun _ _ _ => False)) (rep n [] (upd (upd env p1 a1) p2 a2)) w) : Yld P l [a1, a2] w φ := by
  have hp : rc.params = #[p1, p2] := by rw [hrc]; rfl
  have htm : rc.tmps = (rep n ds env).tmps := by rw [hrc]; rfl
  have hst : rc.state = .ready := by rw [hrc]; rfl
  have hasn : rc.assign = asn := by rw [hrc]; rfl
  have hbo : rc.body = bo := by rw [hrc]; rfl
  refine ⟨rc.fn, _, rc.assign, rc.body, run_yield hr (by simp [hp]), roundIn_of_wpIn trivial ?_⟩
  have e1 : (Array.foldl (fun tmps (x : Nat × Value) => tmps.setIfInBounds x.1 x.2) rc.tmps (rc.params.zip [a1, a2].toArray)) = (rep n [] (upd (upd env p1 a1) p2 a2)).tmps := by
    have h1 := congrArg Act.tmps (rep_put n ds env (some p1) a1)
    have h2 := congrArg Act.tmps (rep_put n ds (upd env p1 a1) (some p2) a2)
    simp only [Act.put, updo] at h1 h2
    rw [hp, htm]
    simp only [List.zip_toArray, List.zip_cons_cons, List.zip_nil_right, List.foldl_toArray, List.foldl_cons, List.foldl_nil]
    rw [h1, h2]
    rfl
  rw [show ({ tmps := Array.foldl (fun tmps (x : Nat × Value) => tmps.setIfInBounds x.1 x.2) rc.tmps (rc.params.zip [a1, a2].toArray), defers := [] } : Act) = rep n [] (upd (upd env p1 a1) p2 a2) by rw [e1]; rfl, hasn, hbo]
  refine wpIn_mono h ?_
  intro e a' w1 hq
  cases e with
  | normal => exact ⟨_, run_beginRound hq.1 hst, hq.2⟩
  | _ => exact hq
theorem rnd_go {l : Nat} {rc : Loop} {a : Act} (hr : At w l (.loop { rc with state := .busy })) (h1 : rc.state = .ready) (h2 : rc.pending = none) (h : φ (.bool true) (setB w l (.loop rc))) : rndQ P l φ .normal a w := by
  refine ⟨_, _, run_endRound none hr, _, rfl, ?_⟩
  obtain ⟨st, pe, fn, tm, ps, asn, bo, D⟩ := rc
  simp only at h1 h2
  subst h1 h2
  exact h
theorem rf_on {l : Nat} {rc : Loop} {a : Act} (hr : At w l (.loop rc)) (h1 : rc.state = .ready) (h2 : rc.pending = none) (h : Q .normal a (setB w l (.loop { rc with state := .exhausted }))) : rfQ P Q a l w :=
  ⟨rc, hr, by rw [h1]; simp, by rw [h2] at h ⊢; exact h⟩
/-! ### The way out of a function that has ranged -/
abbrev bodyQM (P : Program) (fn : Func) (φ : Value → World → Prop) : Exit → Act → World → Prop := bodyPostM (fen none) 0 P fn (fun e w' => ∃ v, e = .returned v ∧ φ v w')
theorem args_rep {fn : Func} {args : List Value} (hn : fn.ntmps = n) (hargs : args.length ≤ n) : ({ tmps := args.toArray ++ Array.replicate (fn.ntmps - args.toArray.size) undef, defers := [] } : Act) = rep n [] (ini args) := by
  unfold rep
  congr 1
  have hini : ∀ (l : List Value) (i : Nat), ini l i = l.getD i undef := by
    intro l
    induction l with
    | nil => intro i; rfl
    | cons v r ih => intro i; cases i with
      | zero => rfl
      | succ k => show ini r k = _; simpa using ih k
  apply Array.ext
  · simp [hn]; omega
  · intro i h1 h2
    simp only [Array.getElem_ofFn, hini]
    simp only [Array.getElem_append]
    split
    · rename_i hlt
      have hlt' : i < args.length := by simpa using hlt
      simp [hlt']
    · rename_i hlt
      have hlt' : ¬ i < args.length := by simpa using hlt
      simp [hlt']
theorem rets_marks {f : Nat} {fn : Func} {c : Code} {args : List Value} (hf : P.funcs[f]? = some fn) (hcl : callable P f = true) (hb : fn.body = some c) (hn : fn.ntmps = n) (hargs : args.length ≤ n)
    (h : c.wpIn (fen none) 0 P (bodyQM P fn φ) (rep n [] (ini args)) w) : Rets P f args w φ := by
  refine ⟨hcl, (callsIn_wide (n := 0)).1 (callsIn_of_wp_marks (F := Fence.wide) hf hb trivial ?_)⟩
  rw [args_rep hn hargs]
  exact h
def shutL (w : World) : List Nat → World
  | [] => w
  | D :: r => shutL (setB w D (.deferred none)) r
theorem leave_ms {fn : Func} {tm : Array Value} : ∀ (Ds : List Nat) (w : World), Ds.Nodup → (∀ D ∈ Ds, At w D (.deferred (some []))) → (results fn tm).run P (shutL w Ds) = .ok v (shutL w Ds) → φ v (shutL w Ds) →
    LeavesInM (fen none) 0 P fn tm (fun e w' => ∃ v, e = .returned v ∧ φ v w') (Ds.map mark) .returning w
  | [], _, _, _, hr, h => ⟨v, hr, v, rfl, h⟩
  | D :: r, _, hd, hA, hr, h => by
    simp only [List.nodup_cons] at hd
    refine ⟨by simp, .inl ⟨D, _, rfl, run_takeDeferred (hA D List.mem_cons_self), leave_ms r _ hd.2 (fun x hx => at_setB_ne _ (fun e => hd.1 (e ▸ hx)) (hA x (List.mem_cons_of_mem _ hx))) hr h⟩⟩
theorem ret_ms {fn : Func} (Ds : List Nat) (hd : Ds.Nodup) (hA : ∀ D ∈ Ds, At w D (.deferred (some []))) (hr : (results fn (rep n (Ds.map mark) env).tmps).run P (shutL w Ds) = .ok v (shutL w Ds)) (h : φ v (shutL w Ds)) : bodyQM P fn φ .ret (rep n (Ds.map mark) env) w :=
  leave_ms Ds w hd hA hr h
theorem ret_ms0 {fn : Func} (hr : (results fn (rep n [] env).tmps).run P w = .ok v w) (h : φ v w) : bodyQM P fn φ .ret (rep n [] env) w := ret_ms [] (by simp) (by simp) hr h
end
end Go.Proofs.YtbicffldggcdhaaGreatDoor

namespace Go.Proofs.YtbicffldggcdhaaGreatDoor
open Go

section
variable {P : Program} {w : World} {ρ : Operand → Value} {d : Option Nat} {t : Nat} {p : String} {af : Array Edge} {g : Option (Nat × Bool)}
theorem r_lk {ty : Nat} {x y : Operand} {vm vk v : Value} {b : Bool} (hx : ρ x = vm) (hy : ρ y = vk) (h : (Instr.lookup ty vm vk b).run P w = .ok v w) : (execOp ρ ⟨d, .lookup ty x y b, t, p, af, g⟩).run P w = .ok (.value v) w := by
  simp [execOp, hx, hy, h]
theorem r_mkf {f : Nat} {xs : List Operand} {vs : List Value} (hx : xs.map ρ = vs) : (execOp ρ ⟨d, .makeFunc (.func f) #[] xs.toArray, t, p, af, g⟩).run P w = .ok (.value (.func (.func f) #[] vs.toArray)) w := by
  subst hx
  simp [execOp, Instr.makeFunc]
end
abbrev YF (l : Nat) : Value := .func (.yield l) #[] #[]
/-- What a ranging over the nodes is asked: J between two yields, Jx where a round has left; a round writes into T alone. -/
structure Rng (l base : Nat) (whole : List (Nd × Int)) (J Jx : List (Nd × Int) → World → Prop) (T : Nat → Prop) : Prop where
  stay : ∀ pre W W', J pre W → Frm0 W W' → J pre W'
  yield : ∀ pre x d W, J pre W → pre ++ [(x, d)] <+: whole → base ≤ W.heap.size → Yld Tryz.prog l [NdV x, I d] W fun v W' => (v = B true ∧ J (pre ++ [(x, d)]) W' ∧ Frm T W W') ∨ (v = B false ∧ Jx (pre ++ [(x, d)]) W')
  low : ∀ b, T b → b < base
section
variable {w w' : World} {lb base : Nat} {es : Array MapEntry} {cl : Nat} {M : List (Int × Value)} {K : Int → List Nd}
theorem Lay.frmT {T : Nat → Prop} (h : Lay w lb base es cl M K) (f : Frm T w w') (hT : ∀ b, T b → b < base) (hlb : base ≤ lb) : Lay w' lb base es cl M K :=
  h.frm f (fun ht => by have := hT _ ht; omega) (fun p b hb ht => by have := hT _ ht; have := h.low p b hb; omega)
end
theorem fm_take {α β : Type} (f : α → List β) : ∀ (L : List α) (j : Nat) (y : α), L[j]? = some y → (L.take j).flatMap f ++ f y = (L.take (j + 1)).flatMap f := by
  intro L j y h
  rw [List.take_add_one, h]
  simp [List.flatMap_append]
theorem fm_pre {α β : Type} (f : α → List β) (L : List α) (j : Nat) : (L.take j).flatMap f <+: L.flatMap f := by
  refine ⟨(L.drop j).flatMap f, ?_⟩
  rw [← List.flatMap_append, List.take_append_drop]
theorem pre_trans_left {α : Type} {a b c w : List α} (h : a ++ c <+: w) (hb : b <+: c) : a ++ b <+: w := ((List.prefix_append_right_inj a).2 hb).trans h

set_option maxHeartbeats 1000000 in
theorem walk_ret {l lb base : Nat} {es : Array MapEntry} {cl : Nat} {M : List (Int × Value)} {K : Int → List Nd} {whole : List (Nd × Int)} {J Jx : List (Nd × Int) → World → Prop} {T : Nat → Prop} (R : Rng l base whole J Jx T) (hlb : base ≤ lb) (hK : ∀ p, (K p).length ≤ 1000) :
    ∀ (n : Nat) (x : Nd) (d : Int) (pre : List (Nd × Int)) (w : World), Fits K n x → pre ++ go K n x d <+: whole → J pre w → Lay w lb base es cl M K → 0 ≤ d → d + n ≤ 1000 →
      Rets Tryz.prog 119 [.map (some lb), NdV x, I d, YF l] w fun v w' => (v = B true ∧ J (pre ++ go K n x d) w' ∧ Lay w' lb base es cl M K) ∨ (v = B false ∧ ∃ q, q <+: go K n x d ∧ Jx (pre ++ q) w')
  | 0, _, _, _, _, hf, _, _, _, _, _ => hf.elim
  | n + 1, x, d, pre, w, hf, hpre, hJ, hL, hd, hdn => by
    have hsz := at_lt hL.row
    have hbox := at_alloc_new w (cel x.vals 90)
    have hF1 : Frm0 w (w.alloc (cel x.vals 90)) := Frm.of_alloc _ _
    have hL1 := hL.frm0 hF1
    have hJ1 := R.stay _ _ _ hJ hF1
    have hs1 := hF1.size
    have hone : [(x, d)] <+: go K (n + 1) x d := ⟨_, rfl⟩
    obtain ⟨bx, hbx⟩ : ∃ bx, w.heap.size = bx := ⟨_, rfl⟩
    rw [hbx] at hbox
    refine rets_of Tryz.func119 (by kernel_rfl) rfl Tryz.ntmps119 (Nat.le_of_ble_eq_true rfl) ?_
    refine runG03 ?_
    rw [hbx]
    generalize w.alloc (cel x.vals 90) = w1 at *
    refine runG03 ?_
    refine s_yield rfl rfl (R.yield pre x d w1 hJ1 (pre_trans_left hpre hone) (by omega)) wnt_none ?_
    rintro v w2 (⟨rfl, hJ2, f2⟩ | ⟨rfl, hJx⟩)
    · have hL2 := hL1.frmT f2 R.low hlb
      have hbox2 := f2.at (fun ht => by have := R.low _ ht; omega) hbox
      obtain ⟨av, c, hgor⟩ : ∃ av c, gor M x.id = .slice av (K x.id).length c := by
        rcases hL2.val x.id with ⟨h1, h2, _⟩ | ⟨b, cap, rest, h1, _⟩
        · exact ⟨none, 0, by rw [h1, h2]⟩
        · exact ⟨_, _, h1⟩
      have hlr := hL2.row
      have hKx := hK x.id
      have hll := glook_run (P := Tryz.prog) (w := w2) (ty := 193) (id := x.id) (u_ok rfl) (u_ok rfl) (z_ok rfl) hlr hL2.ents
      rw [hgor] at hll
      (try simp only [Bool.not_false]); (try simp only [Bool.not_true])
      refine runG03 ?_
      refine s_val (r_lk rfl rfl hll) wnt_none ?_
      refine runG03 ?_
      have hgo : go K (n + 1) x d = [(x, d)] ++ (K x.id).flatMap fun y => go K n y (d + 1) := rfl
      refine lp (fun env w' => ∃ env0, ∃ (j : Nat), env = setL env0 [(0, .map (some lb)), (2, I d), (3, YF l), (19, .slice av (K x.id).length c), (20, I (K x.id).length), (21, I j)] ∧ j ≤ (K x.id).length ∧ J (pre ++ [(x, d)] ++ ((K x.id).take j).flatMap fun y => go K n y (d + 1)) w' ∧ Lay w' lb base es cl M K) (fun env _ => (K x.id).length - cnt (env 21)) ?_ ?_
      · refine ⟨_, 0, fixL ⟨rfl, rfl, rfl, rfl, rfl, rfl, trivial⟩, Nat.zero_le _, ?_, hL2⟩
        simpa using hJ2
      · rintro env w3 ⟨env0, j, rfl, hj, hJ3, hL3⟩
        by_cases hlt : j < (K x.id).length
        · obtain ⟨y, hy⟩ : ∃ y, (K x.id)[j]? = some y := ⟨_, List.getElem?_eq_getElem hlt⟩
          have hrow := hL3.val x.id
          rw [hgor] at hrow
          rcases hrow with ⟨_, h2, _⟩ | ⟨b, cap, rest, hv, hA, _, hroom, hcap⟩
          · omega
          injection hv with h7 h8 h9
          subst h7 h9
          have hsub : sub (flat (K x.id) ++ rest) (0 + (j : Int).toNat * 7) 7 = y.vals := by
            rw [Nat.zero_add, show (j : Int).toNat = j by omega]
            exact flat_sub _ j y hy rest
          have hlen : 0 + (j : Int).toNat * 7 + 7 ≤ (flat (K x.id) ++ rest).length := by
            rw [List.length_append, flat_length]
            omega
          have hF34 : Frm0 w3 (w3.alloc (cel y.vals 90)) := Frm.of_alloc _ _
          have hbox4 := at_alloc_new w3 (cel y.vals 90)
          have hJ4 := R.stay _ _ _ hJ3 hF34
          have hL4 := hL3.frm0 hF34
          have hym : y ∈ K x.id := List.mem_of_getElem? hy
          have hfy : Fits K n y := hf y hym
          have hpj : pre ++ [(x, d)] ++ ((K x.id).take j).flatMap (fun y => go K n y (d + 1)) ++ go K n y (d + 1) <+: whole := by
            rw [List.append_assoc, fm_take _ _ j y hy, List.append_assoc]
            refine pre_trans_left hpre ?_
            rw [hgo]
            exact (List.prefix_append_right_inj _).2 (fm_pre _ _ _)
          refine runG03 ?_
          refine s_val (r_loadV (u_ok rfl) rfl (s_ok rfl) rfl hA hlen hsub) wnt_none ?_
          refine runG03 ?_
          refine s_skip (r_storeN (nx := y) (ny := ⟨0, 0, 0, 0, 0, 0, 0⟩) (s_ok rfl) rfl rfl (at_alloc_new _ _)) wnt_none ?_
          rw [setB_alloc]
          generalize w3.heap.size = by' at *
          generalize w3.alloc (cel y.vals 90) = w4 at *
          refine runG03 ?_
          refine s_callf (walk_ret R hlb hK n y (d + 1) _ w4 hfy hpj hJ4 hL4 (by omega) (by omega)) rfl wnt_none ?_
          rintro v w5 (⟨rfl, hJ5, hL5⟩ | ⟨rfl, q, hq, hJx⟩)
          · (try simp only [Bool.not_false]); (try simp only [Bool.not_true])
            refine runG03 ?_
            refine ⟨_, rfl, ⟨_, j + 1, fixL ⟨rfl, rfl, rfl, rfl, rfl, rfl, trivial⟩, by omega, ?_, hL5⟩, ?_⟩
            · rw [← fm_take _ _ j y hy, ← List.append_assoc]
              exact hJ5
            · show (K x.id).length - ((j : Int) + 1).toNat < (K x.id).length - (j : Int).toNat
              omega
          · (try simp only [Bool.not_false]); (try simp only [Bool.not_true])
            refine runG03 ?_
            refine ret_b rfl rfl (.inr ⟨rfl, [(x, d)] ++ (((K x.id).take j).flatMap (fun y => go K n y (d + 1)) ++ q), ?_, ?_⟩)
            · rw [hgo]
              refine (List.prefix_append_right_inj _).2 (((List.prefix_append_right_inj _).2 hq).trans ?_)
              rw [fm_take _ _ j y hy]
              exact fm_pre _ _ _
            · rw [← List.append_assoc, ← List.append_assoc]
              exact hJx
        · refine runG03 ?_
          refine ret_b rfl rfl (.inl ⟨rfl, ?_, hL3⟩)
          rw [hgo, ← List.append_assoc]
          rw [List.take_of_length_le (by omega)] at hJ3
          exact hJ3
    · (try simp only [Bool.not_false]); (try simp only [Bool.not_true])
      refine runG03 ?_
      exact ret_b rfl rfl (.inr ⟨rfl, [(x, d)], hone, hJx⟩)
theorem kids_len {l : List Nd} (h : Wf l) (p : Int) : (kids l p).length ≤ 1000 := by
  have h1 := (kids_perm l p).length_eq
  have h2 := List.length_filter_le (fun x : Nd => decide (x.par = p)) l.tail
  have h3 := h.small
  rw [List.length_tail] at h2
  omega

set_option maxHeartbeats 1000000 in
theorem branch1_ret {w : World} {t mb bt bp l : Nat} {es : Array MapEntry} {cl : Nat} {m ls : List Nd} {x : Nd} {J Jx : List (Nd × Int) → World → Prop} {T : Nat → Prop} (h : TreeAt w t mb es cl m) (hp : m.Perm ls) (hw : Wf ls) (hx : x ∈ ls) (ht : At w bt (cel [Ptr t] 28)) (hb : At w bp (cel [I x.id] 3))
    (R : Rng l w.heap.size (go (kids ls) 34 x 0) J Jx T) (hJ : J [] w) :
    Rets Tryz.prog 117 [YF l, Ptr bt, Ptr bp] w fun _ w' => J (go (kids ls) 34 x 0) w' ∨ ∃ q, q <+: go (kids ls) 34 x 0 ∧ Jx q w' := by
  have h1 := h.head
  have h2 := h.row
  have hE := h.ents
  have hnd : ndOr m x.id = x := by rw [ndOr, fnd_perm hp hw.nodup, fnd_mem hw.nodup hx]; rfl
  refine rets_of Tryz.func117 (by kernel_rfl) rfl Tryz.ntmps117 (Nat.le_of_ble_eq_true rfl) ?_
  refine runG03 ?_
  refine w_drawn [(0, false), (2, false), (3, false), (4, false), (5, false), (6, false), (7, false), (8, false), (1, true)] [9] (fun wq => Frm0 w wq) mixed (by kernel_rfl) ?_ ?_
  · exact Frm.of_drew _
  · refine runG03 ?_
    rw [hnd]
    refine x_callf rfl (layOut_ret (h.frm0 (Frm.of_drew w)) hp hw) rfl wnt_none ?_
    rintro v w1 ⟨lb, es', cl', M, rfl, hL, hlb, hF⟩
    have hF1 : Frm0 w w1 := hF.drew0
    refine ⟨hF1, x_late ?_⟩
    refine y_callf rfl (walk_ret R hlb (kids_len hw) 34 x 0 [] w1 (fits_all hw hx) (List.prefix_refl _) (R.stay _ _ _ hJ hF1) hL (by omega) (by omega)) rfl wnt_none ?_
    rintro v w2 (⟨rfl, hJ2, _⟩ | ⟨rfl, q, hq, hJx⟩)
    · refine y_nilQ ?_
      exact end_0 rfl (.inl hJ2)
    · refine y_nilQ ?_
      exact end_0 rfl (.inr ⟨q, hq, hJx⟩)

/-- Going through a node and all below it: a closure of its own. -/
abbrev BrF (a b : Nat) : Value := .func (.func 117) #[] [Ptr a, Ptr b].toArray
theorem branch_ret {w : World} {t : Nat} {top : Int} : Rets Tryz.prog 103 [Ptr t, I top] w fun v w' => ∃ a b, v = BrF a b ∧ At w' a (cel [Ptr t] 28) ∧ At w' b (cel [I top] 3) ∧ w.heap.size ≤ a ∧ w.heap.size ≤ b ∧ Frm0 w w' := by
  refine rets_of Tryz.func103 (by kernel_rfl) rfl Tryz.ntmps103 (Nat.le_of_ble_eq_true rfl) ?_
  refine runG03 ?_
  refine s_val (r_assign rfl) wnt_none ?_
  refine runG03 ?_
  refine s_val (r_mkf (vs := [Ptr w.heap.size, Ptr (w.alloc (cel [Ptr t] 28)).heap.size]) rfl) wnt_none ?_
  refine runG03 ?_
  exact ret_f rfl rfl ⟨_, _, rfl, at_alloc _ (at_alloc_new _ _), at_alloc_new _ _, Nat.le_refl _, by simp, (Frm.of_alloc _ _).alloc _⟩
end Go.Proofs.YtbicffldggcdhaaGreatDoor

namespace Go.Proofs.YtbicffldggcdhaaGreatDoor
open Go

section
variable {P : Program} {w : World} {n : Nat} {env : Env} {v : Value} {φ : Value → World → Prop}
theorem rm_1 {fn : Func} {t : Nat} (hr : fn.results = #[.tmp t]) (hv : ev n env (.tmp t) = v) (h : φ v w) : bodyQM P fn φ .ret (rep n [] env) w := ret_ms0 (res_1 hr) (by rw [hv]; exact h)
theorem rm_m1 {fn : Func} {t D : Nat} (hd : At w D (.deferred (some []))) (hr : fn.results = #[.tmp t]) (hv : ev n env (.tmp t) = v) (h : φ v (setB w D (.deferred none))) : bodyQM P fn φ .ret (rep n [mark D] env) w :=
  ret_ms [D] (by simp) (fun x hx => by simp at hx; rw [hx]; exact hd) (res_1 hr) (by rw [hv]; exact h)
end
abbrev idsOf (pre : List (Nd × Int)) : List Int := pre.map fun p => p.1.id
theorem gone_one {m : List Nd} {pre : List (Nd × Int)} {x : Nd} {d : Int} : (m.filter fun y => !(idsOf pre).contains y.id).filter (fun y => !decide (y.id = x.id)) = m.filter fun y => !(idsOf (pre ++ [(x, d)])).contains y.id := by
  rw [List.filter_filter]
  refine List.filter_congr (fun y _ => ?_)
  rw [Bool.eq_iff_iff]
  simp [idsOf, and_comm]

set_option maxHeartbeats 1000000 in
theorem remove_ret {w : World} {t mb : Nat} {es : Array MapEntry} {cl : Nat} {m l : List Nd} {ea : List Addr} (h : TreeAt w t mb es cl m) (hp : m.Perm l) (hw : Wf l) (hE : Err6 w ea) (e : Ed) (hok : wrongB e = false) (k : e.kind = 3) :
    Rets Tryz.prog 73 [Ptr t, EdV e] w fun v w' => DoneL ea w w' t mb l e v := by
  have htm := at_lt h.head
  have hmm := at_lt h.row
  have hF0 : Frm0 w ((w.alloc (cel [Ptr t] 28)).alloc (cel e.vals 31)) := (Frm.of_alloc _ _).alloc _
  have hb0 := at_alloc (cel e.vals 31) (at_alloc_new w (cel [Ptr t] 28))
  have hb1 := at_alloc_new (w.alloc (cel [Ptr t] 28)) (cel e.vals 31)
  by_cases hz : e.node = 0
  · obtain ⟨ad, ty, kk, ha, hA⟩ := err_at (hE.frm0 hF0) 1 4 rfl
    refine rets_marks Tryz.func73 (by kernel_rfl) rfl Tryz.ntmps73 (Nat.le_of_ble_eq_true rfl) ?_
    refine runG03 ?_
    exact rm_1 rfl rfl (done_no h hp hF0 (rf23_root hok (.inr k) hz) ha)
  · refine rets_marks Tryz.func73 (by kernel_rfl) rfl Tryz.ntmps73 (Nat.le_of_ble_eq_true rfl) ?_
    refine runG03 ?_
    rw [show ev 30 (ini [Ptr t, EdV e]) (Operand.tmp 0) = Ptr t from rfl]
    refine s_callf (has_ret (h.frm0 hF0) _) rfl wnt_none ?_
    rintro v w1 ⟨rfl, hf1⟩
    rw [there_perm hp hw.nodup]
    have hbox0 := hf1.at0 hb0
    have hbox1 := hf1.at0 hb1
    have hF1 : Frm0 w w1 := hF0.trans0 hf1
    clear hf1 hb0 hb1 hF0
    have hs0 : w.heap.size < (w.alloc (cel [Ptr t] 28)).heap.size := by simp
    generalize (w.alloc (cel [Ptr t] 28)).heap.size = eb at *
    have hs1 := hF1.size
    cases a : there l e.node
    · (try simp only [Bool.not_false]); (try simp only [Bool.not_true])
      obtain ⟨ad, ty, kk, ha, hA⟩ := err_at (hE.frm0 hF1) 2 2 rfl
      refine runG03 ?_
      exact rm_1 rfl rfl (done_no h hp hF1 (rf_node hok (by omega) (.inr hz) a) ha)
    · (try simp only [Bool.not_false]); (try simp only [Bool.not_true])
      refine runG03 ?_
      refine s_callf (branch_ret (w := w1)) rfl wnt_none ?_
      rintro v w2 ⟨ca, cb, rfl, hca, hcb, hla, hlb, hf2⟩
      have hF2 : Frm0 w w2 := hF1.trans0 hf2
      have h2 := h.frm0 hF2
      have hbox2 := hf2.at0 hbox0
      obtain ⟨x, hx, hxe⟩ := there_mem.1 a
      rw [← hxe] at hcb
      have hs2 := hF2.size
      clear hf2 hbox0 hbox1
      refine runG03 ?_
      refine rf (caps := [Ptr ca, Ptr cb]) rfl fun fn rc hrc => ?_
      have hst : rc.state = .ready := by rw [hrc]; rfl
      have hpe : rc.pending = none := by rw [hrc]; rfl
      have hW1 := inLoop_frm w2 rc
      have hD1 := inLoop_D w2 rc
      have hl1 := inLoop_l w2 rc
      have hz1 := inLoop_size w2 rc
      have h1 := h2.frm0 hW1
      have hF1' : Frm0 w (inLoop w2 rc) := hF2.trans0 hW1
      have hbt1 := hW1.at0 hbox2
      have hca1 := hW1.at0 hca
      have hcb1 := hW1.at0 hcb
      obtain ⟨D, hD⟩ : ∃ D, w2.heap.size = D := ⟨_, rfl⟩
      rw [hD] at hrc hD1 hl1 hz1 ⊢
      have hDw : w.heap.size < D := by have := at_lt hbox2; omega
      generalize inLoop w2 rc = W1 at *
      have hR : Rng (D + 1) W1.heap.size (go (kids l) 34 x 0) (fun pre W => ∃ es', TreeAt W t mb es' cl (m.filter fun y => !(idsOf pre).contains y.id) ∧ At W (D + 1) (.loop rc) ∧ At W D (.deferred (some [])) ∧ At W w.heap.size (cel [Ptr t] 28) ∧ Frm (fun b => b = mb ∨ b = D + 1) W1 W) (fun _ _ => False) (fun b => b = mb ∨ b = D + 1) := by
        refine ⟨?_, ?_, ?_⟩
        · rintro pre W W' ⟨es', q1, q2, q3, q4, q5⟩ f
          exact ⟨es', q1.frm0 f, f.at0 q2, f.at0 q3, f.at0 q4, q5.trans0 f⟩
        · rintro pre y d W ⟨es', q1, q2, q3, q4, q5⟩ _ _
          have hsW := q5.size
          refine rnd2 q2 hrc ?_
          refine runG03 ?_
          refine s_skip (r_storeN (nx := y) (ny := ⟨0, 0, 0, 0, 0, 0, 0⟩) (s_ok rfl) rfl rfl (at_alloc_new _ _)) wnt_none ?_
          rw [setB_alloc]
          refine runG03 ?_
          refine ⟨at_alloc _ q2, ?_⟩
          have hFa : Frm (fun b => b = D + 1) W (setB (W.alloc (cel y.vals 90)) (D + 1) (.loop { rc with state := .busy })) := (Frm.of_alloc (S := fun b => b = D + 1) W _).setB (b := D + 1) (.inl rfl) _
          have hbz := at_setB (.loop { rc with state := .busy }) (at_alloc (cel y.vals 90) q2)
          have hby := at_setB_ne (.loop { rc with state := .busy }) (show D + 1 ≠ W.heap.size by omega) (at_alloc_new W (cel y.vals 90))
          generalize setB (W.alloc (cel y.vals 90)) (D + 1) (.loop { rc with state := .busy }) = W2 at *
          have p1 := q1.frm hFa (by omega) (by omega)
          have p1h := p1.head
          have p1r := p1.row
          have p3 := hFa.at (show ¬ D = D + 1 by omega) q3
          have p4 := hFa.at (show ¬ w.heap.size = D + 1 by omega) q4
          obtain ⟨es4, hd, hE4⟩ := del_run (P := Tryz.prog) (w := W2.drew) (ty := 91) (ty2 := 0) (tys := 3) (id := y.id) (u_ok rfl) (u_ok rfl) (at_drew p1r) p1.ents ((List.filter_sublist.map _).nodup (perm_nodup hp hw.nodup))
          generalize W.heap.size = yb at *
          refine runG03 ?_
          refine w_drawn [(0, false), (1, false), (2, false), (3, false), (4, false), (5, false)] [6] (fun wq => Frm0 W2 wq) mixed (by kernel_rfl) ?_ ?_
          · exact Frm.of_drew _
          · clear hrc
            refine x_q rfl (fun wq hq => r_load (u_ok rfl) rfl rfl (hq.at0 p4) rfl) wnt_none ?_
            refine x_q rfl (fun wq hq => r_nilCheck rfl) wnt_none ?_
            refine x_q rfl (fun wq hq => r_fld (fa_ok rfl) rfl) wnt_none ?_
            refine x_q rfl (fun wq hq => r_load (u_ok rfl) rfl rfl (hq.at0 p1h) rfl) wnt_none ?_
            refine x_q rfl (fun wq hq => r_fld (fa_ok rfl) rfl) wnt_none ?_
            refine x_q rfl (fun wq hq => r_load (u_ok rfl) rfl rfl (hq.at0 hby) rfl) wnt_none ?_
            refine runG03 ?_
            refine y_val0 rfl (r_del rfl rfl hd) wnt_none ?_
            refine runG03 ?_
            refine rnd_go (at_setB_ne _ (show mb ≠ D + 1 by omega) (at_drew hbz)) hst hpe (.inl ⟨rfl, ⟨es4, ?_, ?_, ?_, ?_, ?_⟩, ?_⟩)
            · rw [← gone_one]
              exact ⟨at_setB_ne _ (by omega) (at_setB_ne _ h.apart.symm (at_drew p1h)), at_setB_ne _ (by omega) (at_setB _ (at_drew p1r)), hE4⟩
            · exact at_setB _ (at_setB_ne _ (show mb ≠ D + 1 by omega) (at_drew hbz))
            · exact at_setB_ne _ (by omega) (at_setB_ne _ (by omega) (at_drew p3))
            · exact at_setB_ne _ (by omega) (at_setB_ne _ (by omega) (at_drew p4))
            · exact (((q5.trans hFa (fun b hb => .inl (.inr hb))).drew).setB (b := mb) (.inl (.inl rfl)) _).setB (b := D + 1) (.inl (.inr rfl)) _
            · exact (((hFa.mono (fun b hb => .inl (.inr hb))).drew).setB (b := mb) (.inl (.inl rfl)) _).setB (b := D + 1) (.inl (.inr rfl)) _
        · rintro b (rfl | rfl) <;> omega
      refine (branch1_ret h1 hp hw hx hca1 hcb1 hR ⟨es, by rw [List.filter_eq_self.2 (fun y _ => by simp)]; exact h1, hl1, hD1, hbt1, Frm.refl _ _⟩).mono ?_
      rintro v w3 (⟨es3, q1, q2, q3, q4, q5⟩ | ⟨q, _, hq⟩)
      · refine rf_on q2 hst hpe ?_
        have hr0 := rf34_ok hok (.inl k) (.inr hz) a
        have hF4 : Frm (fun b => b = mb) w (setB w3 (D + 1) (.loop { rc with state := .exhausted })) := ((hF1'.mono (fun _ h => h.elim)).trans q5 (fun b hb => by rcases hb with rfl | rfl; exact .inl rfl; exact .inr (by omega))).setB (b := D + 1) (.inr (by omega)) _
        have hD4 := at_setB_ne (.loop { rc with state := .exhausted }) (show D + 1 ≠ D by omega) q3
        have hT4 : TreeAt (setB w3 (D + 1) (.loop { rc with state := .exhausted })) t mb es3 cl (m.filter fun y => !(idsOf (go (kids l) 34 x 0)).contains y.id) := ⟨at_setB_ne _ (by omega) q1.head, at_setB_ne _ (by omega) q1.row, q1.ents⟩
        clear hrc
        generalize setB w3 (D + 1) (.loop { rc with state := .exhausted }) = w4 at *
        refine runG03 ?_
        refine rm_m1 hD4 rfl rfl ⟨.inl ⟨hr0, rfl⟩, ⟨es3, cl, _, ⟨at_setB_ne _ (by omega) hT4.head, at_setB_ne _ (by omega) hT4.row, hT4.ents⟩, ?_⟩, hF4.setB (b := D) (.inr (by omega)) _⟩
        rw [applyL, if_neg (by rw [hr0]; simp), if_neg (by omega), if_neg (by omega), if_neg (by omega)]
        have e1 : (m.filter fun y => !(idsOf (go (kids l) 34 x 0)).contains y.id) = m.filter fun y => !below l y.id e.node := by
          refine List.filter_congr (fun y hy => ?_)
          have := go_ids hw hx (hp.mem_iff.1 hy) (fits_all hw hx) 0
          rw [hxe] at this
          rw [Bool.eq_iff_iff]
          simp only [Bool.not_eq_true', List.contains_eq_mem, decide_eq_false_iff_not]
          rw [this]
          simp
        rw [e1]
        exact hp.filter _
      · exact hq.elim
end Go.Proofs.YtbicffldggcdhaaGreatDoor

namespace Go.Proofs.YtbicffldggcdhaaGreatDoor
open Go

section
variable {P : Program} {w : World} {n d t : Nat} {ds : List Deferred} {env : Env} {ops : Array Oper} {Q : Exit → Act → World → Prop} {p : String} {af : Array Edge} {g : Option (Nat × Bool)} {i : Nat} {l2 : List Nat}
theorem y_callv {c : Operand} {f : Nat} {xs : List Operand} {tys : Array Nat} {args : List Value} {φ : Value → World → Prop} (ho : ops.toList[i]? = some ⟨some d, .call { callee := .value c, args := xs.toArray, argTypes := tys }, t, p, af, g⟩) (hv : ev n env c = .func (.func f) #[] #[]) (hc : Rets P f args w φ) (ha : xs.map (ev n env) = args) (hw : Wnt n env ops g = true) (k : ∀ v w', φ v w' → WpX2 P ops Q l2 (rep n ds (upd env d v)) w') : WpX2 P ops Q (i :: l2) (rep n ds env) w :=
  ⟨x_op ho hw (ow_call hc (fun hf => by rw [r_callv hv hf, ha]; simp) fun v w' hv => (k v w' hv).out)⟩
end

theorem r_storeW {P : Program} {w : World} {ρ : Operand → Value} {d : Option Nat} {t : Nat} {p : String} {af : Array Edge} {g : Option (Nat × Bool)} {ty : Nat} {x y : Operand} {b m : Nat} {l vs : List Value} {e : Nat} (hz : szOf P ty = some m) (hx : ρ x = .pointer (some ⟨b, 0, none⟩)) (hy : ρ y = .agg vs.toArray) (hm : vs.length = m) (hv : ∀ v ∈ vs, one v = true) (hb : At w b (cel l e)) (hl : 0 + m ≤ l.length) (hp : put l 0 vs = vs) :
    (execOp ρ ⟨d, .store ty x y, t, p, af, g⟩).run P w = .ok .skip (setB w b (cel vs e)) := by
  have h := r_storeA (d := d) (t := t) (p := p) (af := af) (g := g) hz hx hy hm hv hb hl
  rw [hp] at h
  exact h
abbrev Fn0 (f : Nat) : Value := .func (.func f) #[] #[]
def deeds : List Value := [.nilFunc, Fn0 71, Fn0 72, Fn0 73, Fn0 74]
theorem bld_deeds (w : World) : (Instr.build 143 [(1, Fn0 71), (2, Fn0 72), (3, Fn0 73), (4, Fn0 74)].toArray).run Tryz.prog w = .ok (.agg deeds.toArray) w := by kernel_rfl
theorem deeds_one : ∀ v ∈ deeds, one v = true := by
  intro v hv
  simp only [deeds, List.mem_cons, List.not_mem_nil, or_false] at hv
  rcases hv with h | h | h | h | h <;> subst h <;> rfl
theorem DoneL.from {ea : List Addr} {w w1 w' : World} {t mb : Nat} {l : List Nd} {e : Ed} {v : Value} (hf : Frm0 w w1) (h : DoneL ea w1 w' t mb l e v) : DoneL ea w w' t mb l e v :=
  ⟨h.1, h.2.1, (hf.mono (T := fun b => b = mb) (fun _ h => h.elim)).trans h.2.2 (fun _ h => .inl h)⟩

theorem deed {w : World} {t mb : Nat} {es : Array MapEntry} {cl : Nat} {m l : List Nd} {ea : List Addr} (h : TreeAt w t mb es cl m) (hp : m.Perm l) (hw : Wf l) (hE : Err6 w ea) (e : Ed) (hok : wrongB e = false) :
    ∃ f, deeds[0 + e.kind.toNat * 1]? = some (Fn0 f) ∧ Rets Tryz.prog f [Ptr t, EdV e] w fun v w' => DoneL ea w w' t mb l e v := by
  rcases kinds_of hok with k | k | k | k
  · exact ⟨_, by rw [k]; rfl, create_ret h hp hw hE e hok k⟩
  · exact ⟨_, by rw [k]; rfl, move_ret h hp hw hE e hok k⟩
  · exact ⟨_, by rw [k]; rfl, remove_ret h hp hw hE e hok k⟩
  · exact ⟨_, by rw [k]; rfl, set_ret h hp hw hE e hok k⟩

set_option maxHeartbeats 1000000 in
theorem do_ret {w : World} {t mb : Nat} {es : Array MapEntry} {cl : Nat} {m l : List Nd} {ea : List Addr} (h : TreeAt w t mb es cl m) (hp : m.Perm l) (hw : Wf l) (hE : Err6 w ea) (e : Ed) :
    Rets Tryz.prog 44 [Ptr t, EdV e] w fun v w' => DoneL ea w w' t mb l e v := by
  refine rets_of Tryz.func44 (by kernel_rfl) rfl Tryz.ntmps44 (Nat.le_of_ble_eq_true rfl) ?_
  refine runG03 ?_
  refine s_callf (allowed_ret e _) rfl wnt_none ?_
  rintro v w1 ⟨rfl, hf1⟩
  have hbox1 : At w1 w.heap.size (cel e.vals 31) := hf1.at0 (at_alloc_new _ _)
  have hF1 : Frm0 w w1 := (Frm.of_alloc _ _).trans0 hf1
  clear hf1
  cases hok : wrongB e
  · (try simp only [Bool.not_false]); (try simp only [Bool.not_true])
    have hk := kinds_of hok
    refine runG03 ?_
    refine s_val (r_build rfl (bld_deeds _)) wnt_none ?_
    refine runG03 ?_
    refine s_skip (r_storeW (vs := deeds) (s_ok rfl) rfl rfl rfl deeds_one (at_alloc_new _ _) (by simp) rfl) wnt_none ?_
    rw [setB_alloc]
    have hT := at_alloc_new w1 (cel deeds 143)
    have hF2 := hF1.alloc (cel deeds 143)
    have hbox2 := at_alloc (cel deeds 143) hbox1
    generalize w1.alloc (cel deeds 143) = w2 at *
    obtain ⟨f, hf, hret⟩ := deed (h.frm0 hF2.drew) hp hw (hE.frm0 hF2.drew) e hok
    refine runG03 ?_
    refine w_drawn [(0, false), (1, false), (2, false), (3, false), (4, false), (5, false)] [6, 7] (fun wq => Frm0 w2 wq) mixed (by kernel_rfl) ?_ ?_
    · exact Frm.of_drew _
    · refine runG03 ?_
      refine x_q rfl (fun wq hq => r_load (u_ok rfl) rfl rfl (hq.at0 hT) hf) wnt_none ?_
      refine runG03 ?_
      refine y_callv rfl rfl hret rfl wnt_none ?_
      rintro v w3 hd
      have hd' := hd.from hF2.drew
      rcases hd.1 with ⟨_, rfl⟩ | ⟨_, ad, rfl, _⟩
      · refine runG03 ?_
        exact ret_ni rfl rfl hd'
      · refine runG03 ?_
        exact ret_if rfl rfl hd'
  · (try simp only [Bool.not_false]); (try simp only [Bool.not_true])
    obtain ⟨ad, ty, kk, ha, hA⟩ := err_at (hE.frm0 hF1) 0 0 rfl
    refine runG03 ?_
    exact ret_if rfl rfl (done_no h hp hF1 (rf_wrong hok) ha)
end Go.Proofs.YtbicffldggcdhaaGreatDoor

namespace Go.Proofs.YtbicffldggcdhaaGreatDoor
open Go

section
variable {w : World} {n : Nat} {env : Env} {d : Option Nat} {t ty2 : Nat} {p : String} {af : Array Edge} {g : Option (Nat × Bool)} {x y : Operand}
theorem r_nnF (hx : ev n env x = .nilIface) : (execOp (ev n env) ⟨d, .binOp .neq 34 x (.const .nilIface) ty2, t, p, af, g⟩).run Tryz.prog w = .ok (.value (.bool false)) w :=
  r_eq2 hx (show ev n env (.const .nilIface) = .nilIface from rfl) (by simp [eqGuard]) (by kernel_rfl)
theorem r_nnT {u : Nat} {v : Value} (hx : ev n env x = .iface u v) : (execOp (ev n env) ⟨d, .binOp .neq 34 x (.const .nilIface) ty2, t, p, af, g⟩).run Tryz.prog w = .ok (.value (.bool true)) w :=
  r_eq2 hx (show ev n env (.const .nilIface) = .nilIface from rfl) rfl (by kernel_rfl)
end
theorem bld_refusal (e : Ed) (a : Addr) (w : World) : (Instr.build 97 [(0, EdV e), (1, errV a)].toArray).run Tryz.prog w = .ok (.agg (e.vals ++ [errV a]).toArray) w := by kernel_rfl

theorem Apply_ret {w : World} {t mb : Nat} {es : Array MapEntry} {cl : Nat} {m l : List Nd} {ea : List Addr} (h : TreeAt w t mb es cl m) (hp : m.Perm l) (hw : Wf l) (hE : Err6 w ea) (e : Ed) :
    Rets Tryz.prog 18 [Ptr t, EdV e] w fun v w' => ErrIs ea w' v (refused l e) e ∧ TreeTo w' t mb (applyL l e) ∧ Frm (fun b => b = mb) w w' ∧ (∀ b, v = .iface 95 (Ptr b) → w.heap.size ≤ b) := by
  have hmm := at_lt h.row
  refine rets_of Tryz.func18 (by kernel_rfl) rfl Tryz.ntmps18 (Nat.le_of_ble_eq_true rfl) ?_
  refine runG03 ?_
  have hF1 : Frm0 w (w.alloc (cel e.vals 31)) := Frm.of_alloc _ _
  refine s_callf (do_ret (h.frm0 hF1) hp hw (hE.frm0 hF1) e) rfl wnt_none ?_
  rintro v w2 hd
  have hbox := hd.2.2.at (show ¬ w.heap.size = mb by omega) (at_alloc_new w (cel e.vals 31))
  obtain ⟨hr, hT, hF⟩ := hd.from hF1
  rcases hr with ⟨hr0, rfl⟩ | ⟨hr0, ad, rfl, ha⟩
  · refine runG03 ?_
    refine s_val (r_nnF rfl) wnt_none ?_
    refine runG03 ?_
    exact ret_ni rfl rfl ⟨.inl ⟨hr0, rfl⟩, hT, hF, fun b hb => by cases hb⟩
  · refine runG03 ?_
    refine s_val (r_nnT rfl) wnt_none ?_
    refine runG03 ?_
    refine s_val (r_build rfl (bld_refusal e ad _)) wnt_none ?_
    refine runG03 ?_
    refine ret_if rfl rfl ⟨.inr ⟨hr0, _, ad, rfl, at_alloc_new _ _, ha⟩, ?_, hF.alloc _, fun b hb => ?_⟩
    · obtain ⟨es', cl', m', h', hp'⟩ := hT
      exact ⟨es', cl', m', h'.frm0 (Frm.of_alloc _ _), hp'⟩
    · cases hb
      exact hF.size

/-- A tree at a pointer, and the blocks that it lies in. -/
def PT (w : World) (t : Nat) (l : List Nd) (S : Nat → Prop) : Prop := ∃ mb es cl m, TreeAt w t mb es cl m ∧ m.Perm l ∧ S t ∧ S mb
theorem treeSpec : TreeSpec PT where
  frm := fun ⟨mb, es, cl, m, h, hp, h1, h2⟩ f hs => ⟨mb, es, cl, m, h.frm f (hs _ h1) (hs _ h2), hp, h1, h2⟩
  weak := fun ⟨mb, es, cl, m, h, hp, h1, h2⟩ hs => ⟨mb, es, cl, m, h, hp, hs _ h1 (at_lt h.head), hs _ h2 (at_lt h.row)⟩
  new := fun w => (New_ret w).mono fun v w' ⟨t, mb, es, cl, hv, h, f, h1, h2⟩ => ⟨t, hv, ⟨mb, es, cl, _, h, List.Perm.refl _, h1, h2⟩, f⟩
  len := fun ⟨mb, es, cl, m, h, hp, _, _⟩ => (Len_ret h).mono fun v w' ⟨hv, hw⟩ => ⟨by rw [hv, hp.length_eq], by subst hw; exact Frm.refl _ _⟩
  find := fun id ⟨mb, es, cl, m, h, hp, _, _⟩ hw => (Find_ret h id).mono fun v w' ⟨hv, f⟩ => ⟨by rw [hv, findV, findV, fnd_perm hp hw.nodup], f⟩
  apply := fun {w t l S ea} e ⟨mb, es, cl, m, h, hp, h1, h2⟩ hw hE _ _ => (Apply_ret h hp hw hE.six e).mono fun v w' ⟨hv, ⟨es', cl', m', h', hp'⟩, f, hb⟩ =>
    ⟨hv, ⟨mb, es', cl', m', h', hp', .inl h1, .inl h2⟩, f.mono (fun b e => .inl (e ▸ h2)), hb⟩
end Go.Proofs.YtbicffldggcdhaaGreatDoor

namespace Go.Proofs.YtbicffldggcdhaaGreatDoor
open Go

theorem put_all : ∀ (z vs : List Value), z.length = vs.length → put z 0 vs = vs
  | [], [], _ => rfl
  | [], v :: vs, h => by simp at h
  | x :: z, [], h => by simp at h
  | x :: z, v :: vs, h => by
    simp only [put]
    rw [put_all z vs (by simpa using h)]
theorem node_one (n : Nd) : ∀ u ∈ n.vals, one u = true := fun u hu => flat_one [n] u (by simpa [flat] using hu)
theorem edit_one (e : Ed) : ∀ u ∈ e.vals, one u = true := by
  intro u h
  simp only [Ed.vals, List.mem_cons, List.not_mem_nil, or_false] at h
  rcases h with h | h | h | h | h | h <;> subst h <;> rfl
section
variable {P : Program} {w : World} {ρ : Operand → Value} {d : Option Nat} {t : Nat} {p : String} {af : Array Edge} {g : Option (Nat × Bool)}
theorem r_storeAll {ty : Nat} {x y : Operand} {b : Nat} {z vs : List Value} {e : Nat} (hz : szOf P ty = some vs.length) (hx : ρ x = .pointer (some ⟨b, 0, none⟩)) (hy : ρ y = .agg vs.toArray) (hv : ∀ v ∈ vs, one v = true) (hb : At w b (cel z e)) (hl : z.length = vs.length) :
    (execOp ρ ⟨d, .store ty x y, t, p, af, g⟩).run P w = .ok .skip (setB w b (cel vs e)) := by
  rw [r_storeA hz hx hy rfl hv hb (by omega), put_all z vs hl]
end
end Go.Proofs.YtbicffldggcdhaaGreatDoor

namespace Go.Proofs.YtbicffldggcdhaaGreatDoor
open Go

structure TP where
  t : Nat
  r : Nat
  l : List Nd
def pairs : List TP → List Value
  | [] => []
  | x :: ts => [Ptr x.t, Ptr x.r] ++ pairs ts
theorem Row.frm {w w' : World} {v : Value} {e sz n : Nat} {pre : List Value} {S : Nat → Prop} (h : Row w v e sz n pre) (f : Frm S w w') (hs : ∀ b, InV v b → ¬ S b) : Row w' v e sz n pre := by
  rcases h with h | ⟨b, cap, rest, rfl, hA, q⟩
  · exact .inl h
  · exact .inr ⟨b, cap, rest, rfl, f.at (hs b ⟨_, _, _, rfl⟩) hA, q⟩
section
variable {PT : World → Nat → List Nd → (Nat → Prop) → Prop}
end
end Go.Proofs.YtbicffldggcdhaaGreatDoor

namespace Go.Proofs.YtbicffldggcdhaaGreatDoor
open Go

theorem errs_lt {w : World} {ea : List Addr} (h : Errs w ea) : (∀ g ∈ errG, g < w.heap.size) ∧ ∀ a ∈ ea, a.block < w.heap.size := by
  constructor
  · intro g hg
    obtain ⟨i, hi⟩ := List.mem_iff_getElem?.1 hg
    have h9 : i < 9 := by have := (List.getElem?_eq_some_iff.1 hi).1; simpa [errG] using this
    obtain ⟨a, ha⟩ : ∃ a, ea[i]? = some a := ⟨_, List.getElem?_eq_getElem (by rw [h.len]; exact h9)⟩
    obtain ⟨ty, k, hv⟩ := (h.one i g a hi ha).var
    exact at_lt hv
  · intro a ha
    obtain ⟨i, hi⟩ := List.mem_iff_getElem?.1 ha
    obtain ⟨c, t, hb⟩ := errs_get_one h hi
    exact at_lt hb

section
variable {PT : World → Nat → List Nd → (Nat → Prop) → Prop}
end
end Go.Proofs.YtbicffldggcdhaaGreatDoor
