/-
  The program's tree, gone through: walk, the closures of branch and All, walked for every loop's body.
-/
import Derived.Test.YtbicffldggcdhaaDoorWLay2
import Derived.Test.YtbicffldggcdhaaDoorLRnd
namespace Go.Proofs.YtbicffldggcdhaaDoor
open Go
theorem runWWalk0 {G K : Prop} (k : K) (h : Wrap K → G := by intro h; (repeat (first | (with_reducible first | refine wpIn_seq ?_ | refine w_reg ?_ | refine s_nil ?_ | refine s_nilQ ?_ | refine wpIn_block ?_ | refine q_then ?_ | refine q_blk ?_ | refine q_then_ret ?_ | refine q_blk_ret ?_ | refine q_then_exit ?_ | refine q_blk_exit ?_ | refine wpIn_skip ?_ | refine wpIn_ret ?_ | refine wpIn_exit ?_) | ((with_reducible refine q_blk_other ?_ ?_); exact rfl) | ((with_reducible apply c_true); exact rfl; (with_reducible exact rfl)) | ((with_reducible apply c_false); exact rfl; (with_reducible exact rfl)) | ((with_reducible apply s_val); (first | ((with_reducible apply r_boxA); exact rfl) | ((with_reducible apply r_box1); exact rfl; exact rfl) | ((with_reducible apply r_assign_b); exact rfl) | ((with_reducible apply r_move_f); exact rfl) | ((with_reducible apply r_loadA); exact u_ok rfl; exact rfl; exact s_ok rfl; exact rfl; (first | (with_reducible assumption) | assumption | exact at_alloc_new _ _ | (repeat (first | assumption | exact at_alloc_new _ _ | refine at_drew ?_ | refine at_alloc _ ?_))); exact Nat.le_of_ble_eq_true rfl) | ((with_reducible apply r_move_i); exact rfl) | ((with_reducible apply r_not_t); exact rfl; (with_reducible exact rfl)) | ((with_reducible apply r_not_f); exact rfl; (with_reducible exact rfl)) | ((with_reducible apply r_not); exact rfl) | ((with_reducible apply r_move_m); exact rfl) | ((with_reducible apply r_fld); exact fa_ok rfl; exact rfl) | ((with_reducible apply r_load); exact u_ok rfl; exact rfl; exact rfl; (first | (with_reducible assumption) | assumption | exact at_alloc_new _ _ | (repeat (first | assumption | exact at_alloc_new _ _ | refine at_drew ?_ | refine at_alloc _ ?_))); exact rfl) | ((with_reducible apply r_look); exact u_ok rfl; exact u_ok rfl; exact z_ok rfl; exact rfl; exact rfl; (first | (with_reducible assumption) | assumption | exact at_alloc_new _ _ | (repeat (first | assumption | exact at_alloc_new _ _ | refine at_drew ?_ | refine at_alloc _ ?_))); assumption) | ((with_reducible apply r_len); exact u_ok rfl; exact rfl) | ((with_reducible apply r_lss_t); exact rfl; exact rfl; omega) | ((with_reducible apply r_lss_f); exact rfl; exact rfl; omega) | ((with_reducible apply r_lss); exact rfl; exact rfl) | ((with_reducible apply r_index); exact u_ok rfl; exact s_ok rfl; exact rfl; exact rfl; omega; omega) | ((with_reducible apply r_indexarr); exact u_ok rfl; exact s_ok rfl; exact rfl; exact rfl; omega; omega) | ((with_reducible apply r_allocA); exact z_ok rfl) | ((with_reducible apply r_alloc1); exact z_ok rfl; exact rfl) | ((with_reducible apply r_add); exact rfl; exact rfl; omega; omega)); (with_reducible exact wnt_none)))); exact h.out) : G := h ⟨k⟩
theorem runWWalk1 {G K : Prop} (k : K) (h : Wrap K → G := by intro h; (repeat (first | (with_reducible first | refine wpIn_seq ?_ | refine w_reg ?_ | refine s_nil ?_ | refine s_nilQ ?_ | refine wpIn_block ?_ | refine q_then ?_ | refine q_blk ?_ | refine q_then_ret ?_ | refine q_blk_ret ?_ | refine q_then_exit ?_ | refine q_blk_exit ?_ | refine wpIn_skip ?_ | refine wpIn_ret ?_ | refine wpIn_exit ?_ | refine y_nil ?_ | refine y_nilQ ?_ | refine x_late ?_) | ((with_reducible refine q_blk_other ?_ ?_); exact rfl) | ((with_reducible apply c_true); exact rfl; (with_reducible exact rfl)) | ((with_reducible apply c_false); exact rfl; (with_reducible exact rfl)) | ((first | with_reducible apply s_val | ((with_reducible apply y_val); exact rfl) | ((with_reducible apply x_q); exact rfl; intro wq hq)); (first | ((with_reducible apply r_load); exact u_ok rfl; exact rfl; exact rfl; (first | exact Frm.at0 hq (by assumption) | exact Frm.at hq (by assumption) (by assumption) | (first | (with_reducible assumption) | assumption | exact at_alloc_new _ _ | (repeat (first | assumption | exact at_alloc_new _ _ | refine at_drew ?_ | refine at_alloc _ ?_)))); exact rfl) | ((with_reducible apply r_nilCheck); exact rfl) | ((with_reducible apply r_fld); exact fa_ok rfl; exact rfl) | ((with_reducible apply r_look); exact u_ok rfl; exact u_ok rfl; exact z_ok rfl; exact rfl; exact rfl; (first | exact Frm.at0 hq (by assumption) | exact Frm.at hq (by assumption) (by assumption) | (first | (with_reducible assumption) | assumption | exact at_alloc_new _ _ | (repeat (first | assumption | exact at_alloc_new _ _ | refine at_drew ?_ | refine at_alloc _ ?_)))); assumption) | ((with_reducible apply r_move_f); exact rfl)); (with_reducible exact wnt_none)))); exact h.out) : G := h ⟨k⟩
theorem runWWalk2 {G K : Prop} (k : K) (h : Wrap K → G := by intro h; (repeat (first | (with_reducible first | refine wpIn_seq ?_ | refine w_reg ?_ | refine s_nil ?_ | refine s_nilQ ?_ | refine wpIn_block ?_ | refine q_then ?_ | refine q_blk ?_ | refine q_then_ret ?_ | refine q_blk_ret ?_ | refine q_then_exit ?_ | refine q_blk_exit ?_ | refine wpIn_skip ?_ | refine wpIn_ret ?_ | refine wpIn_exit ?_) | ((with_reducible refine q_blk_other ?_ ?_); exact rfl) | ((with_reducible apply c_true); exact rfl; (with_reducible exact rfl)) | ((with_reducible apply c_false); exact rfl; (with_reducible exact rfl)) | ((with_reducible apply s_val); (first | ((with_reducible apply r_boxA); exact rfl) | ((with_reducible apply r_box1); exact rfl; exact rfl) | ((with_reducible apply r_assign_f); exact rfl)); (with_reducible exact wnt_none)))); exact h.out) : G := h ⟨k⟩
theorem runWWalk3 {G K : Prop} (k : K) (h : Wrap K → G := by intro h; (repeat (first | (with_reducible first | refine wpIn_seq ?_ | refine w_reg ?_ | refine s_nil ?_ | refine s_nilQ ?_ | refine wpIn_block ?_ | refine q_then ?_ | refine q_blk ?_ | refine q_then_ret ?_ | refine q_blk_ret ?_ | refine q_then_exit ?_ | refine q_blk_exit ?_ | refine wpIn_skip ?_ | refine wpIn_ret ?_ | refine wpIn_exit ?_) | ((with_reducible refine q_blk_other ?_ ?_); exact rfl) | ((with_reducible apply c_true); exact rfl; (with_reducible exact rfl)) | ((with_reducible apply c_false); exact rfl; (with_reducible exact rfl)) | ((with_reducible apply s_val); (first | ((with_reducible apply r_assign_f); exact rfl) | ((with_reducible apply r_move_p); exact rfl)); (with_reducible exact wnt_none)))); exact h.out) : G := h ⟨k⟩

section
variable {P : Program} {w : World} {ρ : Operand → Value} {d : Option Nat} {t : Nat} {p : String} {af : Array Edge} {g : Option (Nat × Bool)}
theorem r_lk {ty : Nat} {x y : Operand} {vm vk v : Value} {b : Bool} (hx : ρ x = vm) (hy : ρ y = vk) (h : (Instr.lookup ty vm vk b).run P w = .ok v w) : (execOp ρ ⟨d, .lookup ty x y b, t, p, af, g⟩).run P w = .ok (.value v) w := by
  simp [execOp, hx, hy, h]
theorem r_mkf {f : Nat} {xs : List Operand} {vs : List Value} (hx : xs.map ρ = vs) : (execOp ρ ⟨d, .makeFunc (.func f) #[] xs.toArray, t, p, af, g⟩).run P w = .ok (.value (.func (.func f) #[] vs.toArray)) w := by
  subst hx
  simp [execOp, Instr.makeFunc]
end
abbrev YF (l : Nat) : Value := .func (.yield l) #[] #[]
/-- What a ranging over the nodes is asked: J between two yields, Jx where a round has left; a round writes into T alone. -/
structure Rng (l base : Nat) (whole : List (Nd × Int)) (J Jx : List (Nd × Int) → World → Prop) (T : Nat → Prop) : Prop where
  stay : ∀ pre W W', J pre W → Frm0 W W' → J pre W'
  yield : ∀ pre x d W, J pre W → pre ++ [(x, d)] <+: whole → base ≤ W.heap.size → Yld Tryd.prog l [NdV x, I d] W fun v W' => (v = B true ∧ J (pre ++ [(x, d)]) W' ∧ Frm T W W') ∨ (v = B false ∧ Jx (pre ++ [(x, d)]) W')
  low : ∀ b, T b → b < base
section
variable {w w' : World} {lb base : Nat} {es : Array MapEntry} {cl : Nat} {M : List (Int × Value)} {K : Int → List Nd}
theorem Lay.frmT {T : Nat → Prop} (h : Lay w lb base es cl M K) (f : Frm T w w') (hT : ∀ b, T b → b < base) (hlb : base ≤ lb) : Lay w' lb base es cl M K :=
  h.frm f (fun ht => by have := hT _ ht; omega) (fun p b hb ht => by have := hT _ ht; have := h.low p b hb; omega)
end
theorem fm_take {α β : Type} (f : α → List β) : ∀ (L : List α) (j : Nat) (y : α), L[j]? = some y → (L.take j).flatMap f ++ f y = (L.take (j + 1)).flatMap f := by
  intro L j y h
  rw [List.take_add_one, h]
  simp [List.flatMap_append]
theorem fm_pre {α β : Type} (f : α → List β) (L : List α) (j : Nat) : (L.take j).flatMap f <+: L.flatMap f := by
  refine ⟨(L.drop j).flatMap f, ?_⟩
  rw [← List.flatMap_append, List.take_append_drop]
theorem pre_trans_left {α : Type} {a b c w : List α} (h : a ++ c <+: w) (hb : b <+: c) : a ++ b <+: w := ((List.prefix_append_right_inj a).2 hb).trans h

set_option maxHeartbeats 1000000 in
theorem walk_ret {l lb base : Nat} {es : Array MapEntry} {cl : Nat} {M : List (Int × Value)} {K : Int → List Nd} {whole : List (Nd × Int)} {J Jx : List (Nd × Int) → World → Prop} {T : Nat → Prop} (R : Rng l base whole J Jx T) (hlb : base ≤ lb) (hK : ∀ p, (K p).length ≤ 1000) :
    ∀ (n : Nat) (x : Nd) (d : Int) (pre : List (Nd × Int)) (w : World), Fits K n x → pre ++ go K n x d <+: whole → J pre w → Lay w lb base es cl M K → 0 ≤ d → d + n ≤ 1000 →
      Rets Tryd.prog 30 [.map (some lb), NdV x, I d, YF l] w fun v w' => (v = B true ∧ J (pre ++ go K n x d) w' ∧ Lay w' lb base es cl M K) ∨ (v = B false ∧ ∃ q, q <+: go K n x d ∧ Jx (pre ++ q) w')
  | 0, _, _, _, _, hf, _, _, _, _, _ => hf.elim
  | n + 1, x, d, pre, w, hf, hpre, hJ, hL, hd, hdn => by
    have hsz := at_lt hL.row
    have hbox := at_alloc_new w (cel x.vals 40)
    have hF1 : Frm0 w (w.alloc (cel x.vals 40)) := Frm.of_alloc _ _
    have hL1 := hL.frm0 hF1
    have hJ1 := R.stay _ _ _ hJ hF1
    have hs1 := hF1.size
    have hone : [(x, d)] <+: go K (n + 1) x d := ⟨_, rfl⟩
    obtain ⟨bx, hbx⟩ : ∃ bx, w.heap.size = bx := ⟨_, rfl⟩
    rw [hbx] at hbox
    refine rets_of Tryd.func30 (by kernel_rfl) rfl Tryd.ntmps30 (Nat.le_of_ble_eq_true rfl) ?_
    refine runWWalk0 ?_
    rw [hbx]
    generalize w.alloc (cel x.vals 40) = w1 at *
    refine runWWalk0 ?_
    refine s_yield rfl rfl (R.yield pre x d w1 hJ1 (pre_trans_left hpre hone) (by omega)) wnt_none ?_
    rintro v w2 (⟨rfl, hJ2, f2⟩ | ⟨rfl, hJx⟩)
    · have hL2 := hL1.frmT f2 R.low hlb
      have hbox2 := f2.at (fun ht => by have := R.low _ ht; omega) hbox
      obtain ⟨av, c, hgor⟩ : ∃ av c, gor M x.id = .slice av (K x.id).length c := by
        rcases hL2.val x.id with ⟨h1, h2, _⟩ | ⟨b, cap, rest, h1, _⟩
        · exact ⟨none, 0, by rw [h1, h2]⟩
        · exact ⟨_, _, h1⟩
      have hlr := hL2.row
      have hKx := hK x.id
      have hll := glook_run (P := Tryd.prog) (w := w2) (ty := 69) (id := x.id) (u_ok rfl) (u_ok rfl) (z_ok rfl) hlr hL2.ents
      rw [hgor] at hll
      (try simp only [Bool.not_false]); (try simp only [Bool.not_true])
      refine runWWalk0 ?_
      refine s_val (r_lk rfl rfl hll) wnt_none ?_
      refine runWWalk0 ?_
      have hgo : go K (n + 1) x d = [(x, d)] ++ (K x.id).flatMap fun y => go K n y (d + 1) := rfl
      refine lp (fun env w' => ∃ env0, ∃ (j : Nat), env = setL env0 [(0, .map (some lb)), (2, I d), (3, YF l), (19, .slice av (K x.id).length c), (20, I (K x.id).length), (21, I j)] ∧ j ≤ (K x.id).length ∧ J (pre ++ [(x, d)] ++ ((K x.id).take j).flatMap fun y => go K n y (d + 1)) w' ∧ Lay w' lb base es cl M K) (fun env _ => (K x.id).length - cnt (env 21)) ?_ ?_
      · refine ⟨_, 0, fixL ⟨rfl, rfl, rfl, rfl, rfl, rfl, trivial⟩, Nat.zero_le _, ?_, hL2⟩
        simpa using hJ2
      · rintro env w3 ⟨env0, j, rfl, hj, hJ3, hL3⟩
        by_cases hlt : j < (K x.id).length
        · obtain ⟨y, hy⟩ : ∃ y, (K x.id)[j]? = some y := ⟨_, List.getElem?_eq_getElem hlt⟩
          have hrow := hL3.val x.id
          rw [hgor] at hrow
          rcases hrow with ⟨_, h2, _⟩ | ⟨b, cap, rest, hv, hA, _, hroom, hcap⟩
          · omega
          injection hv with h7 h8 h9
          subst h7 h9
          have hsub : sub (flat (K x.id) ++ rest) (0 + (j : Int).toNat * 7) 7 = y.vals := by
            rw [Nat.zero_add, show (j : Int).toNat = j by omega]
            exact flat_sub _ j y hy rest
          have hlen : 0 + (j : Int).toNat * 7 + 7 ≤ (flat (K x.id) ++ rest).length := by
            rw [List.length_append, flat_length]
            omega
          have hF34 : Frm0 w3 (w3.alloc (cel y.vals 40)) := Frm.of_alloc _ _
          have hbox4 := at_alloc_new w3 (cel y.vals 40)
          have hJ4 := R.stay _ _ _ hJ3 hF34
          have hL4 := hL3.frm0 hF34
          have hym : y ∈ K x.id := List.mem_of_getElem? hy
          have hfy : Fits K n y := hf y hym
          have hpj : pre ++ [(x, d)] ++ ((K x.id).take j).flatMap (fun y => go K n y (d + 1)) ++ go K n y (d + 1) <+: whole := by
            rw [List.append_assoc, fm_take _ _ j y hy, List.append_assoc]
            refine pre_trans_left hpre ?_
            rw [hgo]
            exact (List.prefix_append_right_inj _).2 (fm_pre _ _ _)
          refine runWWalk0 ?_
          refine s_val (r_loadV (u_ok rfl) rfl (s_ok rfl) rfl hA hlen hsub) wnt_none ?_
          refine runWWalk0 ?_
          refine s_skip (r_storeN (nx := y) (ny := ⟨0, 0, 0, 0, 0, 0, 0⟩) (s_ok rfl) rfl rfl (at_alloc_new _ _)) wnt_none ?_
          rw [setB_alloc]
          generalize w3.heap.size = by' at *
          generalize w3.alloc (cel y.vals 40) = w4 at *
          refine runWWalk0 ?_
          refine s_callf (walk_ret R hlb hK n y (d + 1) _ w4 hfy hpj hJ4 hL4 (by omega) (by omega)) rfl wnt_none ?_
          rintro v w5 (⟨rfl, hJ5, hL5⟩ | ⟨rfl, q, hq, hJx⟩)
          · (try simp only [Bool.not_false]); (try simp only [Bool.not_true])
            refine runWWalk0 ?_
            refine ⟨_, rfl, ⟨_, j + 1, fixL ⟨rfl, rfl, rfl, rfl, rfl, rfl, trivial⟩, by omega, ?_, hL5⟩, ?_⟩
            · rw [← fm_take _ _ j y hy, ← List.append_assoc]
              exact hJ5
            · show (K x.id).length - ((j : Int) + 1).toNat < (K x.id).length - (j : Int).toNat
              omega
          · (try simp only [Bool.not_false]); (try simp only [Bool.not_true])
            refine runWWalk0 ?_
            refine ret_b rfl rfl (.inr ⟨rfl, [(x, d)] ++ (((K x.id).take j).flatMap (fun y => go K n y (d + 1)) ++ q), ?_, ?_⟩)
            · rw [hgo]
              refine (List.prefix_append_right_inj _).2 (((List.prefix_append_right_inj _).2 hq).trans ?_)
              rw [fm_take _ _ j y hy]
              exact fm_pre _ _ _
            · rw [← List.append_assoc, ← List.append_assoc]
              exact hJx
        · refine runWWalk0 ?_
          refine ret_b rfl rfl (.inl ⟨rfl, ?_, hL3⟩)
          rw [hgo, ← List.append_assoc]
          rw [List.take_of_length_le (by omega)] at hJ3
          exact hJ3
    · (try simp only [Bool.not_false]); (try simp only [Bool.not_true])
      refine runWWalk0 ?_
      exact ret_b rfl rfl (.inr ⟨rfl, [(x, d)], hone, hJx⟩)
theorem kids_len {l : List Nd} (h : Wf l) (p : Int) : (kids l p).length ≤ 1000 := by
  have h1 := (kids_perm l p).length_eq
  have h2 := List.length_filter_le (fun x : Nd => decide (x.par = p)) l.tail
  have h3 := h.small
  rw [List.length_tail] at h2
  omega

set_option maxHeartbeats 1000000 in
theorem branch1_ret {w : World} {t mb bt bp l : Nat} {es : Array MapEntry} {cl : Nat} {m ls : List Nd} {x : Nd} {J Jx : List (Nd × Int) → World → Prop} {T : Nat → Prop} (h : TreeAt w t mb es cl m) (hp : m.Perm ls) (hw : Wf ls) (hx : x ∈ ls) (ht : At w bt (cel [Ptr t] 28)) (hb : At w bp (cel [I x.id] 3))
    (R : Rng l w.heap.size (go (kids ls) 34 x 0) J Jx T) (hJ : J [] w) :
    Rets Tryd.prog 28 [YF l, Ptr bt, Ptr bp] w fun _ w' => J (go (kids ls) 34 x 0) w' ∨ ∃ q, q <+: go (kids ls) 34 x 0 ∧ Jx q w' := by
  have h1 := h.head
  have h2 := h.row
  have hE := h.ents
  have hnd : ndOr m x.id = x := by rw [ndOr, fnd_perm hp hw.nodup, fnd_mem hw.nodup hx]; rfl
  refine rets_of Tryd.func28 (by kernel_rfl) rfl Tryd.ntmps28 (Nat.le_of_ble_eq_true rfl) ?_
  refine runWWalk1 ?_
  refine w_drawn [(0, false), (2, false), (3, false), (4, false), (5, false), (6, false), (7, false), (8, false), (1, true)] [9] (fun wq => Frm0 w wq) mixed (by kernel_rfl) ?_ ?_
  · exact Frm.of_drew _
  · refine runWWalk1 ?_
    rw [hnd]
    refine x_callf rfl (layOut_ret (h.frm0 (Frm.of_drew w)) hp hw) rfl wnt_none ?_
    rintro v w1 ⟨lb, es', cl', M, rfl, hL, hlb, hF⟩
    have hF1 : Frm0 w w1 := hF.drew0
    refine ⟨hF1, x_late ?_⟩
    refine y_callf rfl (walk_ret R hlb (kids_len hw) 34 x 0 [] w1 (fits_all hw hx) (List.prefix_refl _) (R.stay _ _ _ hJ hF1) hL (by omega) (by omega)) rfl wnt_none ?_
    rintro v w2 (⟨rfl, hJ2, _⟩ | ⟨rfl, q, hq, hJx⟩)
    · refine y_nilQ ?_
      exact end_0 rfl (.inl hJ2)
    · refine y_nilQ ?_
      exact end_0 rfl (.inr ⟨q, hq, hJx⟩)

/-- Going through a node and all below it: a closure of its own. -/
abbrev BrF (a b : Nat) : Value := .func (.func 28) #[] [Ptr a, Ptr b].toArray
theorem branch_ret {w : World} {t : Nat} {top : Int} : Rets Tryd.prog 19 [Ptr t, I top] w fun v w' => ∃ a b, v = BrF a b ∧ At w' a (cel [Ptr t] 28) ∧ At w' b (cel [I top] 3) ∧ w.heap.size ≤ a ∧ w.heap.size ≤ b ∧ Frm0 w w' := by
  refine rets_of Tryd.func19 (by kernel_rfl) rfl Tryd.ntmps19 (Nat.le_of_ble_eq_true rfl) ?_
  refine runWWalk2 ?_
  refine s_val (r_assign rfl) wnt_none ?_
  refine runWWalk2 ?_
  refine s_val (r_mkf (vs := [Ptr w.heap.size, Ptr (w.alloc (cel [Ptr t] 28)).heap.size]) rfl) wnt_none ?_
  refine runWWalk2 ?_
  exact ret_f rfl rfl ⟨_, _, rfl, at_alloc _ (at_alloc_new _ _), at_alloc_new _ _, Nat.le_refl _, by simp, (Frm.of_alloc _ _).alloc _⟩
theorem All_ret {w : World} {t : Nat} : Rets Tryd.prog 12 [Ptr t] w fun v w' => ∃ a b, v = BrF a b ∧ At w' a (cel [Ptr t] 28) ∧ At w' b (cel [I 0] 3) ∧ w.heap.size ≤ a ∧ w.heap.size ≤ b ∧ Frm0 w w' := by
  refine rets_of Tryd.func12 (by kernel_rfl) rfl Tryd.ntmps12 (Nat.le_of_ble_eq_true rfl) ?_
  refine runWWalk3 ?_
  refine s_val (r_assign rfl) wnt_none ?_
  refine runWWalk3 ?_
  refine s_callf branch_ret rfl wnt_none ?_
  rintro v w1 ⟨a, b, rfl, h1, h2, h3, h4, h5⟩
  refine runWWalk3 ?_
  exact ret_f rfl rfl ⟨a, b, rfl, h1, h2, h3, h4, h5⟩
end Go.Proofs.YtbicffldggcdhaaDoor
