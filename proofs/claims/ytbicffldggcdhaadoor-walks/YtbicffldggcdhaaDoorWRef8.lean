/-
  The document's tree: All, walked.
-/
import Derived.Test.YtbicffldggcdhaaDoorWRef7
import Derived.Test.YtbicffldggcdhaaDoorLKids2
namespace Go.Proofs.YtbicffldggcdhaaDoor
open Go
theorem runWRef80 {G K : Prop} (k : K) (h : Wrap K → G := by intro h; (repeat (first | (with_reducible first | refine wpIn_seq ?_ | refine w_reg ?_ | refine s_nil ?_ | refine s_nilQ ?_ | refine wpIn_block ?_ | refine q_then ?_ | refine q_blk ?_ | refine q_then_ret ?_ | refine q_blk_ret ?_ | refine q_then_exit ?_ | refine q_blk_exit ?_ | refine wpIn_skip ?_ | refine wpIn_ret ?_ | refine wpIn_exit ?_) | ((with_reducible refine q_blk_other ?_ ?_); exact rfl) | ((with_reducible apply c_true); exact rfl; (with_reducible exact rfl)) | ((with_reducible apply c_false); exact rfl; (with_reducible exact rfl)) | ((with_reducible apply s_val); (first | ((with_reducible apply r_boxA); exact rfl) | ((with_reducible apply r_box1); exact rfl; exact rfl) | ((with_reducible apply r_assign_s); exact rfl) | ((with_reducible apply r_loadA); exact u_ok rfl; exact rfl; exact s_ok rfl; exact rfl; (first | (with_reducible assumption) | assumption | exact at_alloc_new _ _ | (repeat (first | assumption | exact at_alloc_new _ _ | refine at_drew ?_ | refine at_alloc _ ?_))); exact Nat.le_of_ble_eq_true rfl) | ((with_reducible apply r_move_i); exact rfl) | ((with_reducible apply r_move_p); exact rfl) | ((with_reducible apply r_fld); exact fa_ok rfl; exact rfl) | ((with_reducible apply r_load); exact u_ok rfl; exact rfl; exact rfl; (first | (with_reducible assumption) | assumption | exact at_alloc_new _ _ | (repeat (first | assumption | exact at_alloc_new _ _ | refine at_drew ?_ | refine at_alloc _ ?_))); exact rfl) | ((with_reducible apply r_assign_i); exact rfl) | ((with_reducible apply r_move_s); exact rfl) | ((with_reducible apply r_len); exact u_ok rfl; exact rfl) | ((with_reducible apply r_lss_t); exact rfl; exact rfl; omega) | ((with_reducible apply r_lss_f); exact rfl; exact rfl; omega) | ((with_reducible apply r_lss); exact rfl; exact rfl) | ((with_reducible apply r_index); exact u_ok rfl; exact s_ok rfl; exact rfl; exact rfl; omega; omega) | ((with_reducible apply r_indexarr); exact u_ok rfl; exact s_ok rfl; exact rfl; exact rfl; omega; omega) | ((with_reducible apply r_add); exact rfl; exact rfl; omega; omega)); (with_reducible exact wnt_none)))); exact h.out) : G := h ⟨k⟩

def PlV (q : Nd × Int) : List Value := [I q.1.id, I q.1.par, I q.1.key, I q.1.p0, I q.1.p1, I q.1.p2, I q.1.p3, I q.2]
def flatP : List (Nd × Int) → List Value
  | [] => []
  | x :: l => PlV x ++ flatP l
theorem flatP_length : ∀ l : List (Nd × Int), (flatP l).length = l.length * 8
  | [] => rfl
  | x :: l => by simp [flatP, flatP_length l, PlV]; omega
theorem flatP_append : ∀ a b : List (Nd × Int), flatP (a ++ b) = flatP a ++ flatP b
  | [], b => rfl
  | x :: a, b => by simp [flatP, flatP_append a b]
theorem flatP_one : ∀ (l : List (Nd × Int)), ∀ u ∈ flatP l, one u = true
  | [], u, h => by cases h
  | x :: l, u, h => by
    rcases List.mem_append.1 h with h | h
    · simp only [PlV, List.mem_cons, List.not_mem_nil, or_false] at h
      rcases h with h | h | h | h | h | h | h | h <;> subst h <;> rfl
    · exact flatP_one l u h
theorem flatP_get : ∀ (l : List (Nd × Int)) (i : Nat) (x : Nd × Int), l[i]? = some x → ∀ (rest : List Value) (j : Nat), j < 8 → (flatP l ++ rest)[i * 8 + j]? = (PlV x)[j]?
  | [], i, x, h, _, _, _ => by simp at h
  | y :: l, 0, x, h, rest, j, hj => by
    simp at h
    subst h
    simp only [flatP, Nat.zero_mul, Nat.zero_add, List.append_assoc]
    exact List.getElem?_append_left (by simp [PlV]; omega)
  | y :: l, i + 1, x, h, rest, j, hj => by
    have hy : (PlV y).length = 8 := rfl
    simp only [flatP, List.append_assoc]
    rw [List.getElem?_append_right (by rw [hy]; omega), hy, show (i + 1) * 8 + j - 8 = i * 8 + j by omega]
    exact flatP_get l i x (by simpa using h) rest j hj
theorem flatP_sub7 : ∀ (l : List (Nd × Int)) (i : Nat) (x : Nd × Int), l[i]? = some x → ∀ rest : List Value, sub (flatP l ++ rest) (i * 8) 7 = x.1.vals
  | [], i, x, h, _ => by simp at h
  | y :: l, 0, x, h, rest => by
    simp at h
    subst h
    rfl
  | y :: l, i + 1, x, h, rest => by
    simp only [flatP, List.append_assoc]
    rw [show (i + 1) * 8 = (PlV y).length + i * 8 by simp [PlV]; omega, sub_drop]
    exact flatP_sub7 l i x (by simpa using h) rest
theorem bld_place (x : Nd) (d : Int) (w : World) : (Instr.build 48 [(0, NdV x), (1, I d)].toArray).run Tryd.prog w = .ok (.agg (PlV (x, d)).toArray) w := by kernel_rfl
theorem bs_place (q : Nd × Int) (w : World) : (Instr.buildSlice 36 1 [(0, .agg (PlV q).toArray)].toArray).run Tryd.prog w = .ok (.slice (some ⟨w.heap.size, 0, none⟩) 1 1) (w.alloc (cel (PlV q) 48)) := by kernel_rfl
theorem append_pl {w : World} {v s : Value} {A C : List (Nd × Int)} {ty : Nat} (hrow : Row w v 48 8 A.length (flatP A)) (hseg : Seg w s 8 C.length (flatP C)) (hcap : A.length + C.length < 2000000) :
    ∃ v' w', (Builtin.append_ #[36, 36] ty #[v, s]).run Tryd.prog w = .ok v' w' ∧ Row w' v' 48 8 (A ++ C).length (flatP (A ++ C)) ∧ Frm (InV v) w w' ∧ ∀ b, InV v' b → InV v b ∨ w.heap.size ≤ b := by
  obtain ⟨v', w', h1, h2, h3, h4⟩ := append_seg (P := Tryd.prog) (sz := 8) (by' := 64) (ty := ty) (sT := 36) (u_ok rfl) (u_ok rfl) (fun kk h => by cases h) (s_ok rfl) (b_ok rfl) (z_ok rfl) rfl hrow hseg (flatP_one C) (by omega) (by omega)
  exact ⟨v', w', h1, by rw [flatP_append, List.length_append]; exact h2, h3, h4⟩
theorem rows_apart {w : World} {v u : Value} {e f sz sz' n n' : Nat} {pre pre' : List Value} (h : Row w v e sz n pre) (h' : Row w u f sz' n' pre') (hef : e ≠ f) : ∀ b, InV v b → ¬ InV u b := by
  intro b hb hc
  rcases h with ⟨hv, _⟩ | ⟨b1, c1, r1, hv, hA, _⟩
  · obtain ⟨_, _, _, hb⟩ := hb
    rw [hb] at hv; cases hv
  · obtain ⟨_, _, _, hb⟩ := hb
    rw [hb] at hv
    cases hv
    rcases h' with ⟨hv, _⟩ | ⟨b2, c2, r2, hv, hA', _⟩
    · obtain ⟨_, _, _, hc⟩ := hc
      rw [hc] at hv; cases hv
    · obtain ⟨_, _, _, hc⟩ := hc
      rw [hc] at hv
      cases hv
      have h1 : w.heap[b]? = some (cel (pre ++ r1) e) := hA
      have h2 : w.heap[b]? = some (cel (pre' ++ r2) f) := hA'
      rw [h1] at h2
      injection h2 with h2
      injection h2 with _ h2 _
      exact hef h2

set_option maxHeartbeats 2000000 in
theorem RAll_ret {r b cap : Nat} {rest : List Value} {l : List Nd} (hw : Wf l) : ∀ (n : Nat) (x : Nd) (d : Int) (w : World), x ∈ l → Fits (kids l) n x → RefT w r b cap rest l → 0 ≤ d → d + n ≤ 1000 →
    Rets Tryd.prog 10 [Ptr r, NdV x, I d] w fun v w' => Row w' v 48 8 (go (kids l) n x d).length (flatP (go (kids l) n x d)) ∧ (∀ b, InV v b → w.heap.size ≤ b) ∧ Frm0 w w'
  | 0, _, _, _, _, hf, _, _, _ => hf.elim
  | n + 1, x, d, w, hx, hf, h, hd, hdn => by
    have hbox := at_alloc_new w (cel x.vals 40)
    have hF1 : Frm0 w (w.alloc (cel x.vals 40)) := Frm.of_alloc _ _
    have hgl := go_len hw hx (n := n + 1) (d := d)
    have hgo : go (kids l) (n + 1) x d = [(x, d)] ++ (kids l x.id).flatMap fun y => go (kids l) n y (d + 1) := rfl
    have hs1 : w.heap.size < (w.alloc (cel x.vals 40)).heap.size := by simp
    refine rets_of Tryd.func10 (by kernel_rfl) rfl Tryd.ntmps10 (Nat.le_of_ble_eq_true rfl) ?_
    refine runWRef80 ?_
    obtain ⟨bx, hbx⟩ : ∃ bx, w.heap.size = bx := ⟨_, rfl⟩
    rw [hbx] at hbox ⊢
    generalize w.alloc (cel x.vals 40) = w1 at *
    refine runWRef80 ?_
    refine s_val (r_build rfl (bld_place x d _)) wnt_none ?_
    refine s_val (r_bs rfl (bs_place (x, d) _)) wnt_none ?_
    have hF12 : Frm0 w1 (w1.alloc (cel (PlV (x, d)) 48)) := Frm.of_alloc _ _
    have hP2 : Row (w1.alloc (cel (PlV (x, d)) 48)) (.slice (some ⟨w1.heap.size, 0, none⟩) 1 1) 48 8 1 (flatP [(x, d)]) := .inr ⟨_, 1, [], rfl, by simpa [flatP] using at_alloc_new w1 (cel (PlV (x, d)) 48), rfl, rfl, by omega⟩
    have hbox2 := hF12.at0 hbox
    have hF2 : Frm0 w (w1.alloc (cel (PlV (x, d)) 48)) := hF1.trans0 hF12
    generalize hpb : w1.heap.size = pb at *
    generalize w1.alloc (cel (PlV (x, d)) 48) = w2 at *
    refine runWRef80 ?_
    refine s_callf (children_ret (h.frm0 hF2) hw x.id) rfl wnt_none ?_
    rintro v w3 ⟨hK3, hown3, f3⟩
    obtain ⟨ka, kc, rfl⟩ := hK3.isSl
    have hP3 := hP2.frm f3 (fun _ _ h => h)
    have hF3 : Frm0 w w3 := hF2.trans0 f3
    have hs2 := hF2.size
    have hkl := kids_len' hw x.id
    refine runWRef80 ?_
    refine lp (fun env w' => ∃ env0, ∃ (a : Option Addr) (c j : Nat), env = setL env0 [(0, Ptr r), (2, I d), (7, .slice a ([(x, d)] ++ ((kids l x.id).take j).flatMap fun y => go (kids l) n y (d + 1)).length c), (8, .slice ka (kids l x.id).length kc), (9, I j)] ∧ j ≤ (kids l x.id).length ∧
      Row w' (.slice a ([(x, d)] ++ ((kids l x.id).take j).flatMap fun y => go (kids l) n y (d + 1)).length c) 48 8 ([(x, d)] ++ ((kids l x.id).take j).flatMap fun y => go (kids l) n y (d + 1)).length (flatP ([(x, d)] ++ ((kids l x.id).take j).flatMap fun y => go (kids l) n y (d + 1))) ∧
      (∀ b, InV (.slice a ([(x, d)] ++ ((kids l x.id).take j).flatMap fun y => go (kids l) n y (d + 1)).length c) b → w.heap.size ≤ b) ∧ Row w' (.slice ka (kids l x.id).length kc) 40 7 (kids l x.id).length (flat (kids l x.id)) ∧ Frm0 w w') (fun env _ => (kids l x.id).length - cnt (env 9)) ?_ ?_
    · refine ⟨_, some ⟨pb, 0, none⟩, 1, 0, fixL ⟨rfl, rfl, rfl, rfl, rfl, trivial⟩, Nat.zero_le _, hP3, ?_, hK3, hF3⟩
      rintro b ⟨_, _, _, hv⟩
      cases hv
      omega
    · rintro env w4 ⟨env0, a, c, j, rfl, hj, hP4, hown4, hK4, hF4⟩
      obtain ⟨cur, hcur⟩ : ∃ cur, [(x, d)] ++ ((kids l x.id).take j).flatMap (fun y => go (kids l) n y (d + 1)) = cur := ⟨_, rfl⟩
      rw [hcur] at hP4 hown4 ⊢
      have hcl : cur.length ≤ 32 := by
        have h1 : cur <+: go (kids l) (n + 1) x d := by rw [← hcur, hgo]; exact (List.prefix_append_right_inj _).2 (fm_pre' _ _ _)
        have := h1.length_le
        omega
      by_cases hlt : j < (kids l x.id).length
      · obtain ⟨y, hy⟩ : ∃ y, (kids l x.id)[j]? = some y := ⟨_, List.getElem?_eq_getElem hlt⟩
        have hym := List.mem_of_getElem? hy
        have hyl := ((mem_kids hw).1 hym).1
        rcases hK4 with ⟨_, h2, _⟩ | ⟨kb, kcap, krest, hv, hA, hkl1, hkl2, hkl3⟩
        · omega
        injection hv with h7 h8 h9
        subst h7 h9
        have hK4' : Row w4 (.slice (some ⟨kb, 0, none⟩) (kids l x.id).length kc) 40 7 (kids l x.id).length (flat (kids l x.id)) := .inr ⟨kb, kc, krest, rfl, hA, hkl1, hkl2, hkl3⟩
        have hsub : sub (flat (kids l x.id) ++ krest) (0 + (j : Int).toNat * 7) 7 = y.vals := by
          rw [Nat.zero_add, show (j : Int).toNat = j by omega]
          exact flat_sub _ j y hy krest
        have hlen : 0 + (j : Int).toNat * 7 + 7 ≤ (flat (kids l x.id) ++ krest).length := by
          rw [List.length_append, flat_length]
          omega
        refine runWRef80 ?_
        refine s_val (r_loadV (u_ok rfl) rfl (s_ok rfl) rfl hA hlen hsub) wnt_none ?_
        refine runWRef80 ?_
        refine s_callf (RAll_ret hw n y (d + 1) w4 hyl (hf y hym) (h.frm0 hF4) (by omega) (by omega)) rfl wnt_none ?_
        rintro v w5 ⟨hQ5, hown5, f5⟩
        obtain ⟨qa, qc, rfl⟩ := hQ5.isSl
        have hql := go_len hw hyl (n := n) (d := d + 1)
        refine runWRef80 ?_
        obtain ⟨v6, w6, e6, r6, f6, n6⟩ := append_pl (ty := 36) (hP4.frm f5 (fun _ _ h => h)) hQ5.seg (by omega)
        refine s_val (r_app rfl rfl e6) wnt_none ?_
        have hK6 := (hK4'.frm f5 (fun _ _ h => h)).frm f6 (rows_apart (hK4'.frm f5 (fun _ _ h => h)) (hP4.frm f5 (fun _ _ h => h)) (by decide))
        have hnew : cur ++ go (kids l) n y (d + 1) = [(x, d)] ++ ((kids l x.id).take (j + 1)).flatMap fun y => go (kids l) n y (d + 1) := by
          rw [← hcur, List.append_assoc, fm_take' _ _ j y hy]
        rw [hnew] at r6
        obtain ⟨a6, c6, rfl⟩ := r6.isSl
        refine runWRef80 ?_
        have hs4 := hF4.size
        have hs5 := f5.size
        refine ⟨_, rfl, ⟨_, a6, c6, j + 1, fixL ⟨rfl, rfl, rfl, rfl, rfl, trivial⟩, by omega, r6, fun b hb => ?_, hK6, (hF4.trans0 f5).trans f6 (fun b hb => .inr (hown4 b hb))⟩, ?_⟩
        · rcases n6 b hb with h | h
          · exact hown4 b h
          · omega
        · show (kids l x.id).length - ((j : Int) + 1).toNat < (kids l x.id).length - (j : Int).toNat
          omega
      · have htk : (kids l x.id).take j = kids l x.id := List.take_of_length_le (by omega)
        rw [htk] at hcur
        rw [← hgo] at hcur
        subst hcur
        refine runWRef80 ?_
        exact ret_s rfl rfl ⟨hP4, fun b hb => (by have := hown4 b hb; omega), hF4⟩
end Go.Proofs.YtbicffldggcdhaaDoor
