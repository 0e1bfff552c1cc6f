/-
  The document's tree: New, Clone, Apply, walked.
-/
import Derived.Test.YtbicffldggcdhaaDoorWRef4
import Derived.Test.YtbicffldggcdhaaDoorLOp2
namespace Go.Proofs.YtbicffldggcdhaaDoor
open Go
theorem runWRef50 {G K : Prop} (k : K) (h : Wrap K → G := by intro h; (repeat (first | (with_reducible first | refine wpIn_seq ?_ | refine w_reg ?_ | refine s_nil ?_ | refine s_nilQ ?_ | refine wpIn_block ?_ | refine q_then ?_ | refine q_blk ?_ | refine q_then_ret ?_ | refine q_blk_ret ?_ | refine q_then_exit ?_ | refine q_blk_exit ?_ | refine wpIn_skip ?_ | refine wpIn_ret ?_ | refine wpIn_exit ?_) | ((with_reducible refine q_blk_other ?_ ?_); exact rfl) | ((with_reducible apply c_true); exact rfl; (with_reducible exact rfl)) | ((with_reducible apply c_false); exact rfl; (with_reducible exact rfl)) | ((with_reducible apply s_val); (first | ((with_reducible apply r_assign_p); exact rfl) | ((with_reducible apply r_boxA); exact rfl) | ((with_reducible apply r_box1); exact rfl; exact rfl)); (with_reducible exact wnt_none)))); exact h.out) : G := h ⟨k⟩

section
variable {P : Program} {w w' : World} {ρ : Operand → Value} {d : Option Nat} {t : Nat} {p : String} {af : Array Edge} {g : Option (Nat × Bool)}
theorem r_app {x y : Operand} {sT xT : Nat} {v u v' : Value} (hx : ρ x = v) (hy : ρ y = u) (h : (Builtin.append_ #[sT, xT] t #[v, u]).run P w = .ok v' w') :
    (execOp ρ ⟨d, .call { callee := .builtin .append, args := #[x, y], argTypes := #[sT, xT] }, t, p, af, g⟩).run P w = .ok (.value v') w' := by
  simp [execOp, resolve, invoke, builtin, hx, hy, h]
end

theorem flat_set : ∀ (l : List Nd) (i : Nat) (x x' : Nd) (rest : List Value) (j : Nat) (v : Value), l[i]? = some x → j < 7 → x'.vals = x.vals.set j v → (flat l ++ rest).set (i * 7 + j) v = flat (l.set i x') ++ rest
  | [], i, x, x', rest, j, v, h, _, _ => by simp at h
  | y :: l, 0, x, x', rest, j, v, h, hj, he => by
    simp at h
    subst h
    have h7 : y.vals.length = 7 := rfl
    simp only [flat, List.set_cons_zero, Nat.zero_mul, Nat.zero_add, List.append_assoc]
    rw [List.set_append_left _ _ (by omega), ← he]
  | y :: l, i + 1, x, x', rest, j, v, h, hj, he => by
    have h7 : y.vals.length = 7 := rfl
    simp only [flat, List.set_cons_succ, List.append_assoc]
    rw [List.set_append_right _ _ (by omega), h7, show (i + 1) * 7 + j - 7 = i * 7 + j by omega, flat_set l i x x' rest j v (by simpa using h) hj he]
theorem upAt_set {id : Int} {f : Nd → Nd} : ∀ {l : List Nd} {i : Nat} {x : Nd}, (l.map (·.id)).Nodup → l[i]? = some x → x.id = id → upAt id f l = l.set i (f x)
  | [], i, x, _, h, _ => by simp at h
  | y :: l, 0, x, hn, h, he => by
    simp at h
    subst h
    simp only [List.map_cons, List.nodup_cons] at hn
    simp only [upAt, List.map_cons, he, if_true, List.set_cons_zero, List.cons.injEq, true_and]
    have : ∀ z ∈ l, (if z.id = id then f z else z) = z := fun z hz => by
      rw [if_neg]
      intro e
      exact hn.1 (by rw [he, ← e]; exact List.mem_map.2 ⟨z, hz, rfl⟩)
    rw [List.map_congr_left this]
    simp
  | y :: l, i + 1, x, hn, h, he => by
    simp only [List.map_cons, List.nodup_cons] at hn
    have hx : x ∈ l := List.mem_of_getElem? (by simpa using h)
    have hy : y.id ≠ id := fun e => hn.1 (by rw [e, ← he]; exact List.mem_map.2 ⟨x, hx, rfl⟩)
    simp only [upAt, List.map_cons, hy, if_false, List.set_cons_succ]
    congr 1
    exact upAt_set hn.2 (by simpa using h) he
theorem flat_one (l : List Nd) : ∀ u ∈ flat l, one u = true := by
  induction l with
  | nil => intro u h; cases h
  | cons x l ih =>
    intro u h
    rcases List.mem_append.1 h with h | h
    · simp only [Nd.vals, List.mem_cons, List.not_mem_nil, or_false] at h
      rcases h with h | h | h | h | h | h | h <;> subst h <;> rfl
    · exact ih u h

theorem RefT.toRow {w : World} {r b cap : Nat} {rest : List Value} {l : List Nd} (h : RefT w r b cap rest l) : Row w (.slice (some ⟨b, 0, none⟩) l.length cap) 40 7 l.length (flat l) :=
  .inr ⟨b, cap, rest, rfl, h.row, flat_length l, h.room, by have := h.room; omega⟩

theorem bld_tree (a : Option Addr) (n c : Nat) (w : World) : (Instr.build 43 [(0, .slice a n c)].toArray).run Tryd.prog w = .ok (.agg [.slice a n c].toArray) w := by kernel_rfl
theorem bld_node0 (w : World) : (Instr.build 40 [].toArray).run Tryd.prog w = .ok (.agg (Nd.vals ⟨0, 0, 0, 0, 0, 0, 0⟩).toArray) w := by kernel_rfl
theorem bld_node (a b c : Int) (w : World) : (Instr.build 40 [(0, I a), (1, I b), (2, I c)].toArray).run Tryd.prog w = .ok (.agg (Nd.vals ⟨a, b, c, 0, 0, 0, 0⟩).toArray) w := by kernel_rfl
theorem bs_node (x : Nd) (w : World) : (Instr.buildSlice 41 1 [(0, .agg x.vals.toArray)].toArray).run Tryd.prog w = .ok (.slice (some ⟨w.heap.size, 0, none⟩) 1 1) (w.alloc (cel x.vals 40)) := by kernel_rfl

def root0 : Nd := ⟨0, 0, 0, 0, 0, 0, 0⟩
/-- A tree of the document's that is new since w. -/
def NewRef (w w' : World) (v : Value) (l : List Nd) : Prop := ∃ r b cap rest, v = Ptr r ∧ RefT w' r b cap rest l ∧ w.heap.size ≤ r ∧ w.heap.size ≤ b
theorem RNew_ret (w : World) : Rets Tryd.prog 7 [] w fun v w' => NewRef w w' v [root0] ∧ Frm0 w w' := by
  refine rets_of Tryd.func7 (by kernel_rfl) rfl Tryd.ntmps7 (Nat.le_of_ble_eq_true rfl) ?_
  refine runWRef50 ?_
  refine s_val (r_build rfl (bld_node0 w)) wnt_none ?_
  refine s_val (r_bs rfl (bs_node _ w)) wnt_none ?_
  refine s_val (r_build rfl (bld_tree _ _ _ _)) wnt_none ?_
  refine runWRef50 ?_
  refine ret_p rfl rfl ⟨⟨w.heap.size + 1, w.heap.size, 1, [], by simp, ⟨?_, ?_, rfl, by omega⟩, by omega, by omega⟩, ((Frm.refl _ w).alloc _).alloc _⟩
  · have := at_alloc_new (w.alloc (cel (Nd.vals ⟨0, 0, 0, 0, 0, 0, 0⟩) 40)) (cel [.slice (some ⟨w.heap.size, 0, none⟩) 1 1] 43)
    rw [World.size_alloc] at this
    exact this
  · exact at_alloc _ (at_alloc_new w _)

theorem append_node {w : World} {v : Value} {n m bx ox cx tx ty : Nat} {k : Nat × Nat} {pre X : List Value} (hrow : Row w v 40 7 n pre) (hX : At w bx (.cells X.toArray tx k)) (hsub : ox + m * 7 ≤ X.length) (hone : ∀ u ∈ sub X ox (m * 7), one u = true) (hcap : n + m < 2000000) :
    ∃ v' w', (Builtin.append_ #[41, 41] ty #[v, .slice (some ⟨bx, ox, none⟩) m cx]).run Tryd.prog w = .ok v' w' ∧ Row w' v' 40 7 (n + m) (pre ++ sub X ox (m * 7)) ∧ Frm (InV v) w w' ∧ ∀ b, InV v' b → InV v b ∨ w.heap.size ≤ b :=
  run_append (sz := 7) (by' := 56) (u_ok rfl) (u_ok rfl) (fun kk h => by cases h) (s_ok rfl) (b_ok rfl) (z_ok rfl) rfl hrow hX hsub hone (by omega) (by omega)

end Go.Proofs.YtbicffldggcdhaaDoor
