/-
  The document's tree as a list in memory; At, wrong, below, walked.
-/
import Derived.Test.YtbicffldggcdhaaDoorLMem
import Derived.Test.YtbicffldggcdhaaDoorWRef1
namespace Go.Proofs.YtbicffldggcdhaaDoor
open Go
theorem runWRef20 {G K : Prop} (k : K) (h : Wrap K → G := by intro h; (repeat (first | (with_reducible first | refine wpIn_seq ?_ | refine w_reg ?_ | refine s_nil ?_ | refine s_nilQ ?_ | refine wpIn_block ?_ | refine q_then ?_ | refine q_blk ?_ | refine q_then_ret ?_ | refine q_blk_ret ?_ | refine q_then_exit ?_ | refine q_blk_exit ?_ | refine wpIn_skip ?_ | refine wpIn_ret ?_ | refine wpIn_exit ?_) | ((with_reducible refine q_blk_other ?_ ?_); exact rfl) | ((with_reducible apply c_true); exact rfl; (with_reducible exact rfl)) | ((with_reducible apply c_false); exact rfl; (with_reducible exact rfl)) | ((with_reducible apply s_val); (first | ((with_reducible apply r_assign_i); exact rfl) | ((with_reducible apply r_move_i); exact rfl) | ((with_reducible apply r_move_p); exact rfl) | ((with_reducible apply r_nilCheck); exact rfl) | ((with_reducible apply r_fld); exact fa_ok rfl; exact rfl) | ((with_reducible apply r_load); exact u_ok rfl; exact rfl; exact rfl; (first | (with_reducible assumption) | assumption | exact at_alloc_new _ _ | (repeat (first | assumption | exact at_alloc_new _ _ | refine at_drew ?_ | refine at_alloc _ ?_))); exact rfl) | ((with_reducible apply r_len); exact u_ok rfl; exact rfl) | ((with_reducible apply r_lss_t); exact rfl; exact rfl; omega) | ((with_reducible apply r_lss_f); exact rfl; exact rfl; omega) | ((with_reducible apply r_lss); exact rfl; exact rfl) | ((with_reducible apply r_index); exact u_ok rfl; exact s_ok rfl; exact rfl; exact rfl; omega; omega) | ((with_reducible apply r_indexarr); exact u_ok rfl; exact s_ok rfl; exact rfl; exact rfl; omega; omega) | ((with_reducible apply r_eql_t); exact rfl; exact rfl; omega) | ((with_reducible apply r_eql_f); exact rfl; exact rfl; omega) | ((with_reducible apply r_eql); exact rfl; exact rfl) | ((with_reducible apply r_add); exact rfl; exact rfl; omega; omega)); (with_reducible exact wnt_none)))); exact h.out) : G := h ⟨k⟩

structure Nd where
  id : Int
  par : Int
  key : Int
  p0 : Int
  p1 : Int
  p2 : Int
  p3 : Int
def Nd.vals (x : Nd) : List Value := [I x.id, I x.par, I x.key, I x.p0, I x.p1, I x.p2, I x.p3]
def flat : List Nd → List Value
  | [] => []
  | x :: l => x.vals ++ flat l
theorem flat_length : ∀ l : List Nd, (flat l).length = l.length * 7
  | [] => rfl
  | x :: l => by simp [flat, flat_length l, Nd.vals]; omega
theorem flat_append : ∀ a b : List Nd, flat (a ++ b) = flat a ++ flat b
  | [], b => rfl
  | x :: a, b => by simp [flat, flat_append a b]
theorem flat_get : ∀ (l : List Nd) (i : Nat) (x : Nd), l[i]? = some x → ∀ (rest : List Value) (j : Nat), j < 7 → (flat l ++ rest)[i * 7 + j]? = x.vals[j]?
  | [], i, x, h, _, _, _ => by simp at h
  | y :: l, 0, x, h, rest, j, hj => by
    simp at h
    subst h
    simp only [flat, Nat.zero_mul, Nat.zero_add, List.append_assoc]
    exact List.getElem?_append_left (by simp [Nd.vals]; omega)
  | y :: l, i + 1, x, h, rest, j, hj => by
    have hy : y.vals.length = 7 := rfl
    simp only [flat, List.append_assoc]
    rw [List.getElem?_append_right (by rw [hy]; omega), hy, show (i + 1) * 7 + j - 7 = i * 7 + j by omega]
    exact flat_get l i x (by simpa using h) rest j hj
theorem sub_append_left : ∀ (a b : List Value) (n : Nat), n ≤ a.length → sub (a ++ b) 0 n = a.take n
  | a, b, 0, _ => by simp [sub_zero]
  | [], b, n + 1, h => by simp at h
  | x :: a, b, n + 1, h => by
    simp only [List.cons_append, sub, List.take_succ_cons]
    rw [sub_append_left a b n (by simpa using h)]
theorem sub_drop : ∀ (a b : List Value) (k n : Nat), sub (a ++ b) (a.length + k) n = sub b k n
  | [], b, k, n => by simp
  | x :: a, b, k, n => by
    simp only [List.cons_append, List.length_cons]
    rw [show a.length + 1 + k = (a.length + k) + 1 by omega]
    exact sub_drop a b k n
theorem flat_sub : ∀ (l : List Nd) (i : Nat) (x : Nd), l[i]? = some x → ∀ rest : List Value, sub (flat l ++ rest) (i * 7) 7 = x.vals
  | [], i, x, h, _ => by simp at h
  | y :: l, 0, x, h, rest => by
    simp at h
    subst h
    simp only [flat, Nat.zero_mul, List.append_assoc]
    rw [sub_append_left _ _ 7 (by simp [Nd.vals])]
    rfl
  | y :: l, i + 1, x, h, rest => by
    simp only [flat, List.append_assoc]
    rw [show (i + 1) * 7 = y.vals.length + i * 7 by simp [Nd.vals]; omega, sub_drop]
    exact flat_sub l i x (by simpa using h) rest

/-- The document's tree at a pointer: its header, its row of nodes with spare room behind. -/
structure RefT (w : World) (r b cap : Nat) (rest : List Value) (l : List Nd) : Prop where
  head : At w r (cel [.slice (some ⟨b, 0, none⟩) l.length cap] 43)
  row : At w b (cel (flat l ++ rest) 40)
  room : l.length * 7 + rest.length = cap * 7
  apart : r ≠ b
theorem RefT.frm {w w' : World} {S : Nat → Prop} {r b cap : Nat} {rest : List Value} {l : List Nd} (h : RefT w r b cap rest l) (f : Frm S w w') (hr : ¬ S r) (hb : ¬ S b) : RefT w' r b cap rest l :=
  ⟨f.at hr h.head, f.at hb h.row, h.room, h.apart⟩
theorem RefT.frm0 {w w' : World} {r b cap : Nat} {rest : List Value} {l : List Nd} (h : RefT w r b cap rest l) (f : Frm0 w w') : RefT w' r b cap rest l := h.frm f id id

def at_ (id : Int) : List Nd → Option Nat
  | [] => none
  | x :: l => if x.id = id then some 0 else (at_ id l).map (· + 1)
def atI (l : List Nd) (id : Int) : Int := match at_ id l with | some i => i | none => -1
theorem at_none {id : Int} : ∀ {l : List Nd}, at_ id l = none → ∀ x ∈ l, x.id ≠ id
  | [], _, x, hx => by cases hx
  | y :: l, h, x, hx => by
    unfold at_ at h
    split at h
    · cases h
    · rename_i hy
      rcases List.mem_cons.1 hx with e | e
      · subst e; exact hy
      · exact at_none (by simpa using h) x e
theorem at_some {id : Int} : ∀ {l : List Nd} {i : Nat}, at_ id l = some i → ∃ x, l[i]? = some x ∧ x.id = id ∧ ∀ j y, j < i → l[j]? = some y → y.id ≠ id
  | [], _, h => by cases h
  | y :: l, i, h => by
    unfold at_ at h
    split at h
    · rename_i hy
      cases h
      exact ⟨y, rfl, hy, fun j _ hj => by omega⟩
    · rename_i hy
      cases hl : at_ id l with
      | none => rw [hl] at h; cases h
      | some k =>
        rw [hl] at h
        simp at h
        subst h
        obtain ⟨x, hx, he, hn⟩ := at_some hl
        refine ⟨x, by simpa using hx, he, fun j z hj hz => ?_⟩
        cases j with
        | zero => simp at hz; subst hz; exact hy
        | succ j => exact hn j z (by omega) (by simpa using hz)
theorem at_first {id : Int} {l : List Nd} {i : Nat} {x : Nd} (hx : l[i]? = some x) (he : x.id = id) (hn : ∀ j y, j < i → l[j]? = some y → y.id ≠ id) : at_ id l = some i := by
  cases h : at_ id l with
  | none => exact absurd he (at_none h x (List.mem_of_getElem? hx))
  | some k =>
    obtain ⟨y, hy, hye, hyn⟩ := at_some h
    rcases Nat.lt_trichotomy i k with h1 | h1 | h1
    · exact absurd he (hyn i x h1 hx)
    · rw [h1]
    · exact absurd hye (hn k y h1 hy)

theorem node_get {l : List Nd} {rest : List Value} {i : Nat} {x : Nd} (h : l[i]? = some x) (j : Nat) (v : Value) (off : Nat) (ho : off = i * 7 + j) (hj : j < 7) (hv : x.vals[j]? = some v) : (flat l ++ rest)[off]? = some v := by
  rw [ho, flat_get l i x h rest j hj, hv]

set_option maxHeartbeats 1000000 in
theorem At_ret {w : World} {r b cap : Nat} {rest : List Value} {l : List Nd} (h : RefT w r b cap rest l) (hl : l.length < 1000000) (id : Int) :
    Rets Tryd.prog 16 [Ptr r, I id] w fun v w' => v = I (atI l id) ∧ w = w' := by
  obtain ⟨h1, h2, h3, h4⟩ := h
  refine rets_of Tryd.func16 (by kernel_rfl) rfl Tryd.ntmps16 (Nat.le_of_ble_eq_true rfl) ?_
  refine runWRef20 ?_
  refine lp (fun env w' => w' = w ∧ ∃ env0, ∃ k : Nat, env = setL env0 [(0, Ptr r), (1, I id), (5, I k)] ∧ k ≤ l.length ∧ ∀ j y, j < k → l[j]? = some y → y.id ≠ id) (fun env _ => l.length - cnt (env 5)) ?_ ?_
  · exact ⟨rfl, _, 0, fixL ⟨rfl, rfl, rfl, trivial⟩, Nat.zero_le _, fun j _ hj => by omega⟩
  · rintro env w' ⟨rfl, env0, k, rfl, hk, hn⟩
    refine runWRef20 ?_
    refine c_dec rfl (fun hlt => ?_) (fun hge => ?_)
    · have hlt' : k < l.length := by omega
      obtain ⟨x, hx⟩ : ∃ x, l[k]? = some x := ⟨l[k], List.getElem?_eq_getElem hlt'⟩
      refine runWRef20 ?_
      refine s_val (r_load (u_ok rfl) rfl rfl h2 (node_get hx 0 (I x.id) _ (by simp) (by decide) rfl)) wnt_none ?_
      refine runWRef20 ?_
      refine c_dec rfl (fun he => ?_) (fun he => ?_)
      · refine runWRef20 ?_
        refine ret_i rfl rfl ⟨?_, rfl⟩
        rw [atI, at_first hx he hn]
      · refine runWRef20 ?_
        refine ⟨_, rfl, ⟨rfl, _, k + 1, fixL ⟨rfl, rfl, rfl, trivial⟩, by omega, ?_⟩, ?_⟩
        · intro j y hj hy
          rcases Nat.lt_succ_iff_lt_or_eq.1 hj with h5 | h5
          · exact hn j y h5 hy
          · subst h5; rw [hx] at hy; cases hy; exact he
        · show l.length - (((k : Int) + 1).toNat) < l.length - ((k : Int).toNat)
          omega
    · refine runWRef20 ?_
      refine ret_i rfl rfl ⟨?_, rfl⟩
      have : at_ id l = none := by
        cases h5 : at_ id l with
        | none => rfl
        | some i =>
          obtain ⟨x, hx, he, _⟩ := at_some h5
          have := (List.getElem?_eq_some_iff.1 hx).1
          exact absurd he (hn i x (by omega) hx)
      rw [atI, this]
end Go.Proofs.YtbicffldggcdhaaDoor
