/-
  The law's Walks, walked.
-/
import Derived.Test.YtbicffldggcdhaaDoorWWk1
import Derived.Test.YtbicffldggcdhaaDoorLTwo
namespace Go.Proofs.YtbicffldggcdhaaDoor
open Go
theorem runWWalks0 {G K : Prop} (k : K) (h : Wrap K → G := by intro h; (repeat (first | (with_reducible first | refine wpIn_seq ?_ | refine w_reg ?_ | refine s_nil ?_ | refine s_nilQ ?_ | refine wpIn_block ?_ | refine q_then ?_ | refine q_blk ?_ | refine q_then_ret ?_ | refine q_blk_ret ?_ | refine q_then_exit ?_ | refine q_blk_exit ?_ | refine wpIn_skip ?_ | refine wpIn_ret ?_ | refine wpIn_exit ?_ | refine y_nil ?_ | refine y_nilQ ?_ | refine x_late ?_) | ((with_reducible refine q_blk_other ?_ ?_); exact rfl) | ((with_reducible apply c_true); exact rfl; (with_reducible exact rfl)) | ((with_reducible apply c_false); exact rfl; (with_reducible exact rfl)) | ((with_reducible apply s_no); (first | ((with_reducible apply wnt_nt); exact rfl; exact rfl; exact rfl; exact rfl; (with_reducible exact rfl)) | ((with_reducible apply wnt_nf); exact rfl; exact rfl; exact rfl; exact rfl; (with_reducible exact rfl)))) | ((with_reducible apply x_qno); exact rfl; (first | ((with_reducible apply wnt_nt); exact rfl; exact rfl; exact rfl; exact rfl; (with_reducible exact rfl)) | ((with_reducible apply wnt_nf); exact rfl; exact rfl; exact rfl; exact rfl; (with_reducible exact rfl)))) | ((first | with_reducible apply s_val | ((with_reducible apply y_val); exact rfl) | ((with_reducible apply x_q); exact rfl; intro wq hq)); (first | ((with_reducible apply r_boxA); exact rfl) | ((with_reducible apply r_box1); exact rfl; exact rfl) | ((with_reducible apply r_allocA); exact z_ok rfl) | ((with_reducible apply r_alloc1); exact z_ok rfl; exact rfl) | ((with_reducible apply r_load); exact u_ok rfl; exact rfl; exact rfl; (first | exact Frm.at0 hq (by assumption) | exact Frm.at hq (by assumption) (by assumption) | (first | (with_reducible assumption) | assumption | exact at_alloc_new _ _ | (repeat (first | assumption | exact at_alloc_new _ _ | refine at_drew ?_ | refine at_alloc _ ?_)))); exact rfl) | ((with_reducible apply r_eql_t); exact rfl; exact rfl; omega) | ((with_reducible apply r_eql_f); exact rfl; exact rfl; omega) | ((with_reducible apply r_eql); exact rfl; exact rfl) | ((with_reducible apply r_assign_i); exact rfl) | ((with_reducible apply r_move_i); exact rfl) | ((with_reducible apply r_move_s); exact rfl) | ((with_reducible apply r_len); exact u_ok rfl; exact rfl) | ((with_reducible apply r_lss_t); exact rfl; exact rfl; omega) | ((with_reducible apply r_lss_f); exact rfl; exact rfl; omega) | ((with_reducible apply r_lss); exact rfl; exact rfl) | ((with_reducible apply r_index); exact u_ok rfl; exact s_ok rfl; exact rfl; exact rfl; omega; omega) | ((with_reducible apply r_indexarr); exact u_ok rfl; exact s_ok rfl; exact rfl; exact rfl; omega; omega) | ((with_reducible apply r_loadA); exact u_ok rfl; exact rfl; exact s_ok rfl; exact rfl; (first | exact Frm.at0 hq (by assumption) | exact Frm.at hq (by assumption) (by assumption) | (first | (with_reducible assumption) | assumption | exact at_alloc_new _ _ | (repeat (first | assumption | exact at_alloc_new _ _ | refine at_drew ?_ | refine at_alloc _ ?_)))); exact Nat.le_of_ble_eq_true rfl) | ((with_reducible apply r_add); exact rfl; exact rfl; omega; omega) | ((with_reducible apply r_nilCheck); exact rfl) | ((with_reducible apply r_fld); exact fa_ok rfl; exact rfl) | ((with_reducible apply r_assign_f); exact rfl) | ((with_reducible apply r_move_f); exact rfl) | ((with_reducible apply r_geq_t); exact rfl; exact rfl; omega) | ((with_reducible apply r_geq_f); exact rfl; exact rfl; omega) | ((with_reducible apply r_geq); exact rfl; exact rfl) | ((with_reducible apply r_move_b); exact rfl) | ((with_reducible apply r_neq_t); exact rfl; exact rfl; omega) | ((with_reducible apply r_neq_f); exact rfl; exact rfl; omega) | ((with_reducible apply r_neq); exact rfl; exact rfl) | ((with_reducible apply r_pick_t); exact rfl; (with_reducible exact rfl); exact rfl) | ((with_reducible apply r_pick_f); exact rfl; (with_reducible exact rfl); exact rfl) | ((with_reducible apply r_assign_b); exact rfl)); (first | (with_reducible exact wnt_none) | ((with_reducible apply wnt_y); exact rfl; exact rfl; exact rfl; exact rfl; (with_reducible exact rfl)))))); exact h.out) : G := h ⟨k⟩

theorem r_eqfn {w : World} {n : Nat} {env : Env} {d : Option Nat} {t ty2 f : Nat} {p : String} {af : Array Edge} {g : Option (Nat × Bool)} {x : Operand} {vs : List Value} (hx : ev n env x = .func (.func f) #[] vs.toArray) : (execOp (ev n env) ⟨d, .binOp .eql 45 x (.const .nilFunc) ty2, t, p, af, g⟩).run Tryd.prog w = .ok (.value (.bool false)) w :=
  r_eq2 hx (show ev n env (.const .nilFunc) = .nilFunc from rfl) rfl (by kernel_rfl)

theorem branch1_retG {w : World} {t mb bt bp l : Nat} {es : Array MapEntry} {cl : Nat} {m ls : List Nd} {x : Nd} {G : List (Nd × Int)} {J Jx : List (Nd × Int) → World → Prop} {T : Nat → Prop} (hG : go (kids ls) 34 x 0 = G) (h : TreeAt w t mb es cl m) (hp : m.Perm ls) (hw : Wf ls) (hx : x ∈ ls) (ht : At w bt (cel [Ptr t] 28)) (hb : At w bp (cel [I x.id] 3))
    (R : Rng l w.heap.size G J Jx T) (hJ : J [] w) : Rets Tryd.prog 28 [YF l, Ptr bt, Ptr bp] w fun _ w' => J G w' ∨ ∃ q, q <+: G ∧ Jx q w' := by
  subst hG
  exact branch1_ret h hp hw hx ht hb R hJ
theorem r_min {P : Program} {w : World} {ρ : Operand → Value} {d : Option Nat} {t : Nat} {p : String} {af : Array Edge} {g : Option (Nat × Bool)} {x y : Operand} {a b : Int} {tys : Array Nat} (hx : ρ x = I a) (hy : ρ y = I b) : (execOp ρ ⟨d, .call { callee := .builtin .min, args := #[x, y], argTypes := tys }, t, p, af, g⟩).run P w = .ok (.value (I (if b < a then b else a))) w := by
  simp [execOp, resolve, invoke, builtin, Builtin.min_, Builtin.min2, hx, hy]
theorem res_c1 {P : Program} {w : World} {n : Nat} {ds : List Deferred} {env : Env} {fn : Func} {a ty b e : Nat} {D : TypeDesc} {v : Value} (hr : fn.results = #[.cell a ty]) (hu : P.underlying ty = some D) (hD : isAggD D = false) (ha : ev n env (.tmp a) = .pointer (some ⟨b, 0, none⟩)) (hb : At w b (cel [v] e)) :
    (results fn (rep n ds env).tmps).run P w = .ok v w := by
  rw [← tmp_getD n ds] at ha
  have h1 : (loadVar ty ⟨b, 0, none⟩).run P w = .ok v w := by
    have h0 := run_load_at (P := P) (off := 0) (v := v) hb rfl
    simp only [loadVar, Sem.run_bind, run_isAgg hu, Result.andThen_ok, hD]
    exact h0
  have ha' : (rep n ds env).tmps[a]?.getD undef = .pointer (some ⟨b, 0, none⟩) := by rw [← ha, Array.getD_eq_getD_getElem?]
  simp [results, hr, ha', asAddr, h1]

set_option maxHeartbeats 4000000 in
theorem Walks_ret {w : World} {uv mv : Value} {us ms : List Ed} {a0 s0 : Int} {ea : List Addr} (hU : EScr w uv us) (hM : EScr w mv ms) (hul : us.length < 4000000000000) (hml : ms.length < 4000000000000) (ha : -9223372036854775808 ≤ a0 ∧ a0 ≤ 9223372036854775807) (hs : -9223372036854775808 ≤ s0 ∧ s0 ≤ 9223372036854775807) (hE : Err6 w ea) :
    Rets Tryd.prog 4 [uv, mv, I a0, I s0] w fun v w' => v = B true ∧ Frm0 w w' := by
  obtain ⟨ua, uc, rfl⟩ := hU.isSl
  obtain ⟨ma, mc, rfl⟩ := hM.isSl
  refine rets_marks Tryd.func4 (by kernel_rfl) rfl Tryd.ntmps4 (Nat.le_of_ble_eq_true rfl) ?_
  refine wpIn_seq ?_
  refine w_reg ?_
  refine s_val (r_box1 (z := .slice ma ms.length mc) rfl rfl) wnt_none ?_
  refine s_val (r_box1 (z := I a0) rfl rfl) wnt_none ?_
  refine s_val (r_box1 (z := I s0) rfl rfl) wnt_none ?_
  have k5 := at_alloc (cel [I a0] 3) (at_alloc_new w (cel [.slice ma ms.length mc] 27))
  have k6 := at_alloc_new (w.alloc (cel [.slice ma ms.length mc] 27)) (cel [I a0] 3)
  have kF : Frm0 w ((w.alloc (cel [.slice ma ms.length mc] 27)).alloc (cel [I a0] 3)) := (Frm.of_alloc _ _).alloc _
  have kz : (w.alloc (cel [.slice ma ms.length mc] 27)).heap.size = w.heap.size + 1 := World.size_alloc _ _
  have kz2 : ((w.alloc (cel [.slice ma ms.length mc] 27)).alloc (cel [I a0] 3)).heap.size = w.heap.size + 2 := by rw [World.size_alloc, kz]
  generalize (w.alloc (cel [.slice ma ms.length mc] 27)).heap.size = b6 at *
  generalize (w.alloc (cel [.slice ma ms.length mc] 27)).alloc (cel [I a0] 3) = w0 at *
  generalize hb7 : w0.heap.size = b7 at *
  obtain ⟨b5, hb5⟩ : ∃ b5, w.heap.size = b5 := ⟨_, rfl⟩
  rw [hb5] at k5 kz kz2 ⊢
  have k5' := at_alloc (cel [I s0] 3) k5
  have k6' := at_alloc (cel [I s0] 3) k6
  have k7' := at_alloc_new w0 (cel [I s0] 3)
  rw [hb7] at k7'
  have kF' := kF.alloc (cel [I s0] 3)
  have kz3 : (w0.alloc (cel [I s0] 3)).heap.size = b5 + 3 := by rw [World.size_alloc]; omega
  generalize w0.alloc (cel [I s0] 3) = w1 at *
  clear k5 k6 kF
  refine runWWalks0 ?_
  have q5 := at_alloc (cel [B false] 4) k5'
  have q6 := at_alloc (cel [B false] 4) k6'
  have q7 := at_alloc (cel [B false] 4) k7'
  have q8 := at_alloc_new w1 (cel [B false] 4)
  have qF := kF'.alloc (cel [B false] 4)
  have qz : (w1.alloc (cel [B false] 4)).heap.size = b5 + 4 := by rw [World.size_alloc]; omega
  generalize w1.heap.size = b8 at *
  generalize w1.alloc (cel [B false] 4) = w2 at *
  clear k5' k6' k7' kF'
  -- the two trees
  refine s_callf (New_ret w2) rfl wnt_none ?_
  rintro v w3 ⟨t, mb, es, cl, rfl, hT, f3, ht, hm⟩
  have hs3 := f3.size
  refine runWWalks0 ?_
  refine s_skip (r_store_p (s_ok rfl) rfl rfl (at_alloc_new _ _) (by simp)) wnt_none ?_
  rw [setB_alloc, show [Value.pointer none].set 0 (Value.pointer (some ⟨t, 0, none⟩)) = [Ptr t] from rfl]
  have q9 := at_alloc_new w3 (cel [Ptr t] 28)
  have f23 : Frm0 w2 (w3.alloc (cel [Ptr t] 28)) := f3.alloc _
  have f34 : Frm0 w3 (w3.alloc (cel [Ptr t] 28)) := Frm.of_alloc _ _
  have hb9 : b5 + 4 ≤ w3.heap.size := by omega
  generalize w3.heap.size = b9 at *
  generalize w3.alloc (cel [Ptr t] 28) = w4 at *
  refine runWWalks0 ?_
  refine s_val (r_eqp rfl) wnt_none ?_
  refine runWWalks0 ?_
  refine s_callf (RNew_ret w4) rfl wnt_none ?_
  rintro v w5 ⟨⟨r, b, cap, rest, rfl, hR, hr, hb⟩, f45⟩
  have hs4 := f23.size
  have hs5 := f45.size
  refine runWWalks0 ?_
  refine s_skip (r_store_p (s_ok rfl) rfl rfl (at_alloc_new _ _) (by simp)) wnt_none ?_
  rw [setB_alloc, show [Value.pointer none].set 0 (Value.pointer (some ⟨r, 0, none⟩)) = [Ptr r] from rfl]
  have f56 : Frm0 w5 (w5.alloc (cel [Ptr r] 30)) := Frm.of_alloc _ _
  have f26 : Frm0 w2 (w5.alloc (cel [Ptr r] 30)) := (f23.trans0 f45).trans0 f56
  have p10 := at_alloc_new w5 (cel [Ptr r] 30)
  have p9 := f56.at0 (f45.at0 q9)
  have hW : WI (w5.alloc (cel [Ptr r] 30)) (b5 + 4) t mb r b [root0] := ⟨⟨es, cl, _, ((hT.frm0 f34).frm0 f45).frm0 f56, List.Perm.refl _⟩, ⟨cap, rest, hR.frm0 f56⟩, wf_root0, by omega, by omega, by omega, by omega⟩
  generalize w5.heap.size = b10 at *
  generalize w5.alloc (cel [Ptr r] 30) = w6 at *
  have p5 := f26.at0 q5
  have p6 := f26.at0 q6
  have p7 := f26.at0 q7
  have p8 := f26.at0 q8
  have hF6 : Frm0 w w6 := qF.trans0 f26
  have hs6 := f26.size
  clear q5 q6 q7 q8 q9 f23 f34 f45 f56 f26 qF f3
  refine runWWalks0 ?_
  refine lp (fun env w' => ∃ env0, ∃ (i b : Nat), env = setL env0 [(0, .slice ua us.length uc), (5, Ptr b5), (6, Ptr b6), (7, Ptr b7), (8, Ptr b8), (9, Ptr b9), (10, Ptr b10), (11, I i)] ∧ i ≤ us.length ∧ WI w' (b5 + 4) t mb r b (appAll [root0] (us.take i)) ∧ Kp w6 w' ∧ Frm0 w w') (fun env _ => us.length - cnt (env 11)) ?_ ?_
  · exact ⟨_, 0, b, fixL ⟨rfl, rfl, rfl, rfl, rfl, rfl, rfl, rfl, trivial⟩, Nat.zero_le _, hW, Kp.refl _, hF6⟩
  · rintro env y1 ⟨env0, i, c, rfl, hi, hY, kY, fY⟩
    have y9 := kY.same _ _ p9 (oth_cel (by decide) (by decide))
    have y10 := kY.same _ _ p10 (oth_cel (by decide) (by decide))
    have hsY := kY.size
    by_cases hlt : i < us.length
    · obtain ⟨e, he⟩ : ∃ e, us[i]? = some e := ⟨_, List.getElem?_eq_getElem hlt⟩
      rcases hU with ⟨⟨_, _, hv⟩, h0⟩ | ⟨sb, so, sc, X, tx, kk, hv, hA0, hX⟩
      · rw [h0] at hlt; exact absurd hlt (by simp)
      injection hv with h7 h8 h9
      subst h7 h9
      have hA := fY.at0 hA0
      obtain ⟨hX1, hX2⟩ := hX i e he
      have hX1' : so + (i : Int).toNat * 6 + 6 ≤ X.length := by rw [show (i : Int).toNat = i by omega]; exact hX1
      have hX2' : sub X (so + (i : Int).toNat * 6) 6 = e.vals := by rw [show (i : Int).toNat = i by omega]; exact hX2
      refine runWWalks0 ?_
      refine w_drawn [(0, false), (1, false), (2, false), (3, false), (4, false)] [5] (fun wq => Frm0 y1 wq) mixed (by kernel_rfl) ?_ ?_
      · exact Frm.of_drew _
      · refine runWWalks0 ?_
        refine x_q rfl (fun wq hq => r_loadV (u_ok rfl) rfl (s_ok rfl) rfl (hq.at0 hA) hX1' hX2') wnt_none ?_
        refine runWWalks0 ?_
        refine y_callf rfl ((hY.frm0 (Frm.of_drew y1)).applyT (hE.frm0 fY.drew) e) rfl wnt_none ?_
        rintro v y2 ⟨⟨es2, cl2, m2, hT2, hp2⟩, ⟨cap2, rest2, hR2⟩, k2, f2⟩
        have fY2 : Frm0 w y2 := fY.drew.trans f2 (fun x hx => .inr (by have := hY.nt; omega))
        have kY2 : Kp y1 y2 := (Kp.of0 (Frm.of_drew y1)).trans k2
        have z10 := kY2.same _ _ y10 (oth_cel (by decide) (by decide))
        have hA2 := fY2.at0 hA0
        refine runWWalks0 ?_
        refine w_drawn [(0, false), (1, false), (2, false), (3, false), (4, false)] [5] (fun wq => Frm0 y2 wq) mixed (by kernel_rfl) ?_ ?_
        · exact Frm.of_drew _
        · refine runWWalks0 ?_
          refine x_q rfl (fun wq hq => r_loadV (u_ok rfl) rfl (s_ok rfl) rfl (hq.at0 hA2) hX1' hX2') wnt_none ?_
          refine runWWalks0 ?_
          refine y_callf rfl (WI.applyR (N := b5 + 4) (hT2.frm0 (Frm.of_drew y2)) hp2 (hR2.frm0 (Frm.of_drew y2)) hY.wf e rfl hY.nt (by have h1 := k2.size; have h2 : y1.drew.heap.size = y1.heap.size := rfl; have h3 : y2.drew.heap.size = y2.heap.size := rfl; omega)) rfl wnt_none ?_
          rintro v y3 ⟨⟨c3, hY3, hc3⟩, k3, f3⟩
          refine runWWalks0 ?_
          refine ⟨_, rfl, ⟨_, i + 1, c3, fixL ⟨rfl, rfl, rfl, rfl, rfl, rfl, rfl, rfl, trivial⟩, by omega, by rw [appAll_step he]; exact hY3, (kY.trans kY2).trans ((Kp.of0 (Frm.of_drew y2)).trans k3), fY2.drew.trans f3 (fun x hx => .inr (by have := hY.nt; omega))⟩, ?_⟩
          show us.length - ((i : Int) + 1).toNat < us.length - (i : Int).toNat
          omega
    · rw [List.take_of_length_le (by omega)] at hY
      obtain ⟨l0, hl0⟩ : ∃ l0, appAll [root0] us = l0 := ⟨_, rfl⟩
      rw [hl0] at hY
      obtain ⟨⟨es1, cl1, m1, hT1, hp1⟩, ⟨cap1, rest1, hR1⟩, hwf, hnt⟩ := hY
      obtain ⟨x0, tl, hx0, hx0i, _⟩ := hwf.root
      have hx0m : x0 ∈ l0 := by rw [hx0]; exact List.mem_cons_self
      have hh1 := hR1.head
      have hrr1 := hR1.row
      have hsub0 : sub (flat l0 ++ rest1) (0 + (0 : Int).toNat * 7) 7 = x0.vals := flat_sub l0 0 x0 (by rw [hx0]; rfl) rest1
      have hlen0 : 0 + (0 : Int).toNat * 7 + 7 ≤ (flat l0 ++ rest1).length := by rw [List.length_append, flat_length, hx0]; simp; omega
      have hpos : 0 < l0.length := by rw [hx0]; simp
      have y5 := kY.same _ _ p5 (oth_cel (by decide) (by decide))
      have y6 := kY.same _ _ p6 (oth_cel (by decide) (by decide))
      have y7 := kY.same _ _ p7 (oth_cel (by decide) (by decide))
      have y8 := kY.same _ _ p8 (oth_cel (by decide) (by decide))
      obtain ⟨G, hG⟩ : ∃ G, go (kids l0) 34 x0 0 = G := ⟨_, rfl⟩
      have hGl : G.length ≤ 32 := by rw [← hG]; exact go_len hwf hx0m
      refine runWWalks0 ?_
      refine wpIn_mono (Q := fun e act w' => e = .normal ∧ ∃ (env' : Env) (b12 : Nat) (va : Option Addr) (vc : Nat), act = rep 167 [] env' ∧ AllL env' [(5, Ptr b5), (6, Ptr b6), (7, Ptr b7), (8, Ptr b8), (9, Ptr b9), (10, Ptr b10), (12, Ptr b12)] ∧ At w' b12 (cel [.slice va G.length vc] 36) ∧ Row w' (.slice va G.length vc) 48 8 G.length (flatP G) ∧ Frm0 y1 w' ∧ y1.heap.size ≤ b12) ?_ ?_
      · refine w_two [0, 1, 2, 3, 4, 5, 6] 7 8 [(8, true), (9, true)] [(7, true), (9, true)] (fun wq => Frm0 y1 wq) mixed (by kernel_rfl) ?_ ?_
        · exact Frm.of_drew _
        · show WpX _ _ _ _ _ [(0, false), (1, false), (2, false), (3, false), (4, false), (5, false), (6, false)] _ _
          refine runWWalks0 ?_
          refine x_q rfl (fun wq hq => r_loadV (u_ok rfl) rfl (s_ok rfl) rfl (hq.at0 hrr1) hlen0 hsub0) wnt_none ?_
          refine x_late (y_nilQ ⟨rfl, ?_, ?_⟩)
          · refine x_callf rfl (RAll_ret hwf 34 x0 0 y1.drew hx0m (fits_all hwf hx0m) (hR1.frm0 (Frm.of_drew y1)) (by omega) (by omega)) rfl wnt_none ?_
            rintro v z1 ⟨hrow, hown, f⟩
            rw [hG] at hrow
            obtain ⟨va, vc, rfl⟩ := hrow.isSl
            have fz : Frm0 y1 z1 := f.drew0
            refine ⟨fz, ?_⟩
            refine x_val rfl (r_alloc1 (z_ok rfl) rfl) wnt_none (fz.alloc _) ?_
            refine x_skip rfl (r_store_s (s_ok rfl) rfl rfl (at_alloc_new _ _) (by simp)) wnt_none ((fz.alloc _).setB (.inr fz.size) _) ?_
            refine x_late (y_nilQ ⟨rfl, _, z1.heap.size, va, vc, rfl, ⟨rfl, rfl, rfl, rfl, rfl, rfl, rfl, trivial⟩, at_setB _ (at_alloc_new _ _), ?_, (fz.alloc _).setB (.inr fz.size) _, fz.size⟩)
            rw [setB_alloc]
            exact hrow.frm (Frm.of_alloc (S := fun _ => False) z1 _) (fun _ _ h => h)
          · refine x_val rfl (r_alloc1 (z_ok rfl) rfl) wnt_none ((Frm.of_drew y1).alloc _) ?_
            have fA : Frm0 y1 (y1.drew.alloc (cel [Value.slice none 0 0] 36)) := (Frm.of_drew y1).alloc _
            refine x_callf rfl (RAll_ret hwf 34 x0 0 _ hx0m (fits_all hwf hx0m) (hR1.frm0 fA) (by omega) (by omega)) rfl wnt_none ?_
            rintro v z1 ⟨hrow, hown, f⟩
            rw [hG] at hrow
            obtain ⟨va, vc, rfl⟩ := hrow.isSl
            have fz : Frm0 y1 z1 := fA.trans0 f
            have hbx := f.at0 (at_alloc_new y1.drew (cel [Value.slice none 0 0] 36))
            refine ⟨fz, ?_⟩
            have hsd : y1.drew.heap.size = y1.heap.size := rfl
            refine x_skip rfl (r_store_s (s_ok rfl) rfl rfl hbx (by simp)) wnt_none (fz.setB (.inr (Nat.le_refl _)) _) ?_
            refine x_late (y_nilQ ⟨rfl, _, y1.drew.heap.size, va, vc, rfl, ⟨rfl, rfl, rfl, rfl, rfl, rfl, rfl, trivial⟩, at_setB _ hbx, ?_, fz.setB (.inr (Nat.le_refl _)) _, Nat.le_refl _⟩)
            refine hrow.frm (S := fun b => b = y1.drew.heap.size) ((Frm.refl (fun b => b = y1.drew.heap.size) z1).setB (b := y1.drew.heap.size) (.inl rfl) _) (fun b hb e => ?_)
            have := hown b hb
            have h2 : (y1.drew.alloc (cel [Value.slice none 0 0] 36)).heap.size = y1.drew.heap.size + 1 := World.size_alloc _ _
            omega
      · rintro e act z ⟨rfl, env', b12, va, vc, rfl, hall, z12, hGr, fz, hb12⟩
        rw [fixL hall]
        refine q_then ?_
        have hWz : WI z (b5 + 4) t mb r c l0 := (⟨⟨es1, cl1, m1, hT1, hp1⟩, ⟨cap1, rest1, hR1⟩, hwf, hnt⟩ : WI y1 (b5 + 4) t mb r c l0).frm0 fz
        have hB : Bx z b5 b6 b7 b8 b9 b10 b12 (.slice ma ms.length mc) a0 s0 t r (.slice va G.length vc) := ⟨fz.at0 y5, fz.at0 y6, fz.at0 y7, fz.at0 y8, fz.at0 y9, fz.at0 y10, z12⟩
        have fZ : Frm0 w z := fY.trans0 fz
        have h67 : b6 ≠ b7 := by omega
        have z6 := hB.m6
        refine runWWalks0 ?_
        refine s_callf (pick_ret a0 40 ha.1 ha.2 (by omega) z) rfl wnt_none ?_
        rintro v z' ⟨⟨at', rfl, hat⟩, rfl⟩
        refine runWWalks0 ?_
        refine s_skip (r_store_i (s_ok rfl) rfl rfl z6 (by simp)) wnt_none ?_
        rw [show [I a0].set 0 (Value.int .i64 (at' : Int)) = [I at'] from rfl]
        have hB1 := hB.set6 (p' := (at' : Int)) h67
        have hW1 := hWz.setB (o' := cel [I at'] 3) z6 (oth_cel (by decide) (by decide)) (fun _ => cel_ne (by decide))
        have hG1 := rowT (o' := cel [I at'] 3) z6 hGr (fun _ => cel_ne (by decide))
        have fZ1 : Frm0 w (setB z b6 (cel [I at'] 3)) := fZ.setB (b := b6) (.inr (by omega)) _
        generalize setB z b6 (cel [I at'] 3) = z1 at *
        have z7 := hB1.m7
        clear z6 z12 hWz hGr hB
        refine runWWalks0 ?_
        refine s_callf (pick_ret s0 40 hs.1 hs.2 (by omega) z1) rfl wnt_none ?_
        rintro v z' ⟨⟨st', rfl, hst⟩, rfl⟩
        refine runWWalks0 ?_
        refine s_skip (r_store_i (s_ok rfl) rfl rfl z7 (by simp)) wnt_none ?_
        rw [show [I s0].set 0 (Value.int .i64 (1 + (st' : Int))) = [I (1 + (st' : Int))] from rfl]
        have hB2 := hB1.set7 (q' := 1 + (st' : Int)) h67
        have hW2 := hW1.setB (o' := cel [I (1 + (st' : Int))] 3) z7 (oth_cel (by decide) (by decide)) (fun _ => cel_ne (by decide))
        have hG2 := rowT (o' := cel [I (1 + (st' : Int))] 3) z7 hG1 (fun _ => cel_ne (by decide))
        have fZ2 : Frm0 w (setB z1 b7 (cel [I (1 + (st' : Int))] 3)) := fZ1.setB (b := b7) (.inr (by omega)) _
        generalize setB z1 b7 (cel [I (1 + (st' : Int))] 3) = z2 at *
        have z9 := hB2.m9
        clear z7 hW1 hG1 hB1 fZ1 fZ
        refine runWWalks0 ?_
        refine s_callf (All_ret (w := z2)) rfl wnt_none ?_
        rintro v z3 ⟨ca, cb, rfl, hca, hcb, hla, hlb, f23⟩
        have fZ3 : Frm0 w z3 := fZ2.trans0 f23
        refine runWWalks0 ?_
        refine s_val (r_eqfn (vs := [Ptr ca, Ptr cb]) rfl) wnt_none ?_
        refine runWWalks0 ?_
        refine s_skip (r_store_i (s_ok rfl) rfl rfl (at_alloc_new _ _) (by simp)) wnt_none ?_
        rw [setB_alloc, show [Value.int .i64 0].set 0 (Value.int .i64 0) = [I 0] from rfl]
        have f34 : Frm0 z3 (z3.alloc (cel [I 0] 3)) := Frm.of_alloc _ _
        have f24 := f23.trans0 f34
        have hB4 := hB2.frm0 f24
        have hW4 := hW2.frm0 f24
        have hG4 := hG2.frm f24 (fun _ _ h => h)
        have hca4 := f34.at0 hca
        have hcb4 := f34.at0 hcb
        have fZ4 : Frm0 w (z3.alloc (cel [I 0] 3)) := fZ3.alloc _
        have hn4 := at_alloc_new z3 (cel [I 0] 3)
        have hs3' := f23.size
        have hb7z := at_lt hB2.m7
        have hb6z := at_lt hB2.m6
        have hcbn := at_lt hcb
        generalize hnb : z3.heap.size = nb at *
        generalize z3.alloc (cel [I 0] 3) = z4 at *
        clear hB2 hW2 hG2 hca hcb f23 f24 f34 fZ2 fZ3
        refine runWWalks0 ?_
        obtain ⟨l1, hl1⟩ : ∃ l1, appAll l0 ms = l1 := ⟨_, rfl⟩
        refine rf (caps := [Ptr ca, Ptr cb]) rfl fun fn rc hrc => ?_
        have hrs : rc.state = .ready := by rw [hrc]; rfl
        have hrp : rc.pending = none := by rw [hrc]; rfl
        have hW1 := inLoop_frm z4 rc
        obtain ⟨D, hD⟩ : ∃ D, z4.heap.size = D := ⟨_, rfl⟩
        have hJ0 : JB w (inLoop z4 rc) (b5 + 4) b5 b6 b7 b8 b9 b10 b12 nb D ca cb t mb r c (.slice ma ms.length mc) (.slice va G.length vc) at' (1 + (st' : Int)) G rc l0 0 :=
          ⟨hW4.frm0 hW1, hB4.frm0 hW1, hW1.at0 hn4, hG4.frm hW1 (fun _ _ h => h), by rw [← hD]; exact inLoop_l z4 rc, by rw [← hD]; exact inLoop_D z4 rc, hW1.at0 hca4, hW1.at0 hcb4, fZ4.trans0 hW1⟩
        have hz1 := inLoop_size z4 rc
        have hDn := at_lt hn4
        have hcbz := at_lt hcb4
        have hcaz := at_lt hca4
        rw [hD] at hrc hz1 hDn hcbz hcaz ⊢
        have hmz : mb < D ∧ r < D ∧ c < D := by
          obtain ⟨⟨es9, cl9, m9, hT9, _⟩, ⟨cap9, rest9, hR9⟩, _, _⟩ := hW4
          have h1 := at_lt hT9.row
          have h2 := at_lt hR9.head
          have h3 := at_lt hR9.row
          omega
        have hNw : w.heap.size ≤ D := by omega
        clear hW4 hB4 hn4 hG4 hca4 hcb4 fZ4
        generalize inLoop z4 rc = W1 at *
        have hR : Rng (D + 1) W1.heap.size G (fun pre W => ∃ c' l', JB w W (b5 + 4) b5 b6 b7 b8 b9 b10 b12 nb D ca cb t mb r c' (.slice ma ms.length mc) (.slice va G.length vc) at' (1 + (st' : Int)) G rc l' pre.length ∧ ((pre.length ≤ at' ∧ c' = c ∧ l' = l0) ∨ (at' < pre.length ∧ l' = l1))) (fun _ _ => False) (fun b => b = mb ∨ b = r ∨ b = c ∨ b = nb ∨ b = D + 1) := by
          refine ⟨?_, ?_, ?_⟩
          · rintro pre W W' ⟨c', l', hJ, hor⟩ f
            exact ⟨c', l', hJ.frm0 f, hor⟩
          · rintro pre x d W ⟨c', l', hJ, hor⟩ hpre hbase
            have hin : G[pre.length]? = some (x, d) := by
              obtain ⟨tl', htl⟩ := hpre
              rw [← htl, List.append_assoc, List.getElem?_append_right (Nat.le_refl _)]
              simp
            have hlt : pre.length < G.length := (List.getElem?_eq_some_iff.1 hin).1
            refine rnd2 hJ.lp hrc ?_
            clear hrc hJ0
            refine runWWalks0 ?_
            refine s_skip (r_storeN (nx := x) (ny := ⟨0, 0, 0, 0, 0, 0, 0⟩) (s_ok rfl) rfl rfl (at_alloc_new _ _)) wnt_none ?_
            rw [setB_alloc]
            refine runWWalks0 ?_
            refine ⟨at_alloc _ hJ.lp, ?_⟩
            have hJa := (hJ.frm0 (Frm.of_alloc (S := fun _ => False) W (cel x.vals 40))).setL (rc' := { rc with state := .busy }) hNw
            have hbx := at_setB_ne (.loop { rc with state := .busy }) (show D + 1 ≠ W.heap.size by omega) (at_alloc_new W (cel x.vals 40))
            have hfa : Frm (fun b => b = mb ∨ b = r ∨ b = c ∨ b = nb ∨ b = D + 1) W (setB (W.alloc (cel x.vals 40)) (D + 1) (.loop { rc with state := .busy })) := (Frm.of_alloc (S := fun b => b = mb ∨ b = r ∨ b = c ∨ b = nb ∨ b = D + 1) W _).setB (b := D + 1) (.inl (by omega)) _
            generalize setB (W.alloc (cel x.vals 40)) (D + 1) (.loop { rc with state := .busy }) = W2 at *
            have hsWW := hfa.size
            rcases hJa.g with ⟨_, h0, _⟩ | ⟨gb, gcap, grest, hv, hGA, hg4, hg5, hg6⟩
            · omega
            injection hv with h7 h8 h9
            subst h7 h9
            have hg1 : 0 + (pre.length : Int).toNat * 8 + 0 + 7 ≤ (flatP G ++ grest).length := by
              rw [List.length_append, flatP_length]
              omega
            have hg2 : sub (flatP G ++ grest) (0 + (pre.length : Int).toNat * 8 + 0) 7 = x.vals := by
              rw [Nat.zero_add, Nat.add_zero, show (pre.length : Int).toNat = pre.length by omega]
              exact flatP_sub7 G _ (x, d) hin grest
            have hg3 : (flatP G ++ grest)[0 + (pre.length : Int).toNat * 8 + 7]? = some (I d) := by
              rw [Nat.zero_add, show (pre.length : Int).toNat = pre.length by omega]
              exact flatP_get G _ (x, d) hin grest 7 (by omega)
            have hn2 := hJa.n
            have h12 := hJa.bx.m12
            have h6 := hJa.bx.m6
            generalize hxb : W.heap.size = xb at *
            clear hJ
            refine runWWalks0 ?_
            refine w_drawn ((0, false) :: (1, false) :: (2, false) :: (3, false) :: (4, false) :: (5, false) :: (6, false) :: (7, false) :: (8, false) :: (9, false) :: (10, false) :: (11, false) :: (12, false) :: (13, false) :: (14, false) :: (15, false) :: (16, false) :: (17, false) :: (18, false) :: (19, false) :: (20, false) :: (21, false) :: []) [] (fun wq => Frm0 W2 wq) mixed (by kernel_rfl) ?_ ?_
            · exact Frm.of_drew _
            · refine runWWalks0 ?_
              refine x_q rfl (fun wq hq => r_loadV (u_ok rfl) rfl (s_ok rfl) rfl (hq.at0 hGA) hg1 hg2) (by (first | (with_reducible exact wnt_none) | ((with_reducible apply wnt_y); exact rfl; exact rfl; exact rfl; exact rfl; (with_reducible exact rfl)))) ?_
              refine x_q rfl (fun wq hq => r_ne_node (n := x) rfl rfl) (by (first | (with_reducible exact wnt_none) | ((with_reducible apply wnt_y); exact rfl; exact rfl; exact rfl; exact rfl; (with_reducible exact rfl)))) ?_
              refine runWWalks0 ?_
              refine x_q rfl (fun wq hq => r_load (u_ok rfl) rfl rfl (hq.at0 hGA) hg3) (by (first | (with_reducible exact wnt_none) | ((with_reducible apply wnt_y); exact rfl; exact rfl; exact rfl; exact rfl; (with_reducible exact rfl)))) ?_
              have hpl : (pre ++ [(x, d)]).length = pre.length + 1 := by simp
              have hfin : ∀ (y : World) (c2 : Nat) (l2 : List Nd), JB w y (b5 + 4) b5 b6 b7 b8 b9 b10 b12 nb D ca cb t mb r c2 (.slice ma ms.length mc) (.slice (some ⟨gb, 0, none⟩) G.length vc) at' (1 + (st' : Int)) G { rc with state := .busy } l2 pre.length → Frm (fun b => b = mb ∨ b = r ∨ b = c ∨ b = nb ∨ b = D + 1) W y → ((pre.length + 1 ≤ at' ∧ c2 = c ∧ l2 = l0) ∨ (at' < pre.length + 1 ∧ l2 = l1)) →
                  At (setB y nb (cel [I ((pre.length : Int) + 1)] 3)) (D + 1) (.loop { rc with state := .busy }) ∧ (∃ c' l', JB w (setB (setB y nb (cel [I ((pre.length : Int) + 1)] 3)) (D + 1) (.loop rc)) (b5 + 4) b5 b6 b7 b8 b9 b10 b12 nb D ca cb t mb r c' (.slice ma ms.length mc) (.slice (some ⟨gb, 0, none⟩) G.length vc) at' (1 + (st' : Int)) G rc l' (pre ++ [(x, d)]).length ∧ (((pre ++ [(x, d)]).length ≤ at' ∧ c' = c ∧ l' = l0) ∨ (at' < (pre ++ [(x, d)]).length ∧ l' = l1))) ∧
                  Frm (fun b => b = mb ∨ b = r ∨ b = c ∨ b = nb ∨ b = D + 1) W (setB (setB y nb (cel [I ((pre.length : Int) + 1)] 3)) (D + 1) (.loop rc)) := by
                intro y c2 l2 hJy hfy hory
                have h1 := hJy.setN (k' := pre.length + 1) (by omega) (by omega) (by omega) (by omega)
                refine ⟨h1.lp, ⟨c2, l2, by rw [hpl]; exact h1.setL hNw, by rw [hpl]; exact hory⟩, (hfy.setB (b := nb) (.inl (by omega)) _).setB (b := D + 1) (.inl (by omega)) _⟩
              by_cases hna : pre.length = at'
              · obtain ⟨rfl, rfl⟩ : c' = c ∧ l' = l0 := by
                  rcases hor with h | h
                  · exact h.2
                  · omega
                refine runWWalks0 ?_
                refine lp (fun env y => ∃ env0, ∃ (i c2 : Nat), env = setL env0 [(5, Ptr b5), (9, Ptr b9), (10, Ptr b10), (14, Ptr nb), (17, I i)] ∧ i ≤ ms.length ∧ WI y (b5 + 4) t mb r c2 (appAll l' (ms.take i)) ∧ (c2 = c' ∨ W2.heap.size ≤ c2) ∧ Kp W2 y ∧ Frm0 w y ∧ Frm (fun b => b = mb ∨ b = r ∨ b = c') W2 y) (fun env _ => ms.length - cnt (env 17)) ?_ ?_
                · exact ⟨_, 0, c', fixL ⟨rfl, rfl, rfl, rfl, rfl, trivial⟩, Nat.zero_le _, hJa.wi.frm0 (Frm.of_drew W2), .inl rfl, Kp.of0 (Frm.of_drew W2), hJa.f.drew, Frm.of_drew W2⟩
                · rintro env y1 ⟨env0, i, c2, rfl, hi2, hY, hc2, kY, fY, fY2⟩
                  have y5 := kY.same _ _ hJa.bx.m5 (oth_cel (by decide) (by decide))
                  have y9 := kY.same _ _ hJa.bx.m9 (oth_cel (by decide) (by decide))
                  have y10 := kY.same _ _ hJa.bx.m10 (oth_cel (by decide) (by decide))
                  have yn := kY.same _ _ hJa.n (oth_cel (by decide) (by decide))
                  have hsY := kY.size
                  by_cases hlt2 : i < ms.length
                  · obtain ⟨e, he⟩ : ∃ e, ms[i]? = some e := ⟨_, List.getElem?_eq_getElem hlt2⟩
                    rcases hM with ⟨⟨_, _, hv⟩, h0⟩ | ⟨sb, so, sc, X, tx, kk, hv, hA0, hX⟩
                    · rw [h0] at hlt2; exact absurd hlt2 (by simp)
                    injection hv with h7 h8 h9
                    subst h7 h9
                    have hA := fY.at0 hA0
                    obtain ⟨hX1, hX2⟩ := hX i e he
                    have hX1' : so + (i : Int).toNat * 6 + 6 ≤ X.length := by rw [show (i : Int).toNat = i by omega]; exact hX1
                    have hX2' : sub X (so + (i : Int).toNat * 6) 6 = e.vals := by rw [show (i : Int).toNat = i by omega]; exact hX2
                    refine runWWalks0 ?_
                    refine w_drawn [(0, false), (1, false), (2, false), (3, false), (4, false)] [5] (fun wq => Frm0 y1 wq) mixed (by kernel_rfl) ?_ ?_
                    · exact Frm.of_drew _
                    · refine runWWalks0 ?_
                      refine x_q rfl (fun wq hq => r_loadV (u_ok rfl) rfl (s_ok rfl) rfl (hq.at0 hA) hX1' hX2') wnt_none ?_
                      refine runWWalks0 ?_
                      refine y_callf rfl ((hY.frm0 (Frm.of_drew y1)).applyT (hE.frm0 fY.drew) e) rfl wnt_none ?_
                      rintro v y2 ⟨⟨es2, cl2, m2, hT2, hp2⟩, ⟨cap2, rest2, hR2⟩, k2, f2⟩
                      have fYb : Frm0 w y2 := fY.drew.trans f2 (fun x hx => .inr (by have := hY.nt; omega))
                      have kYb : Kp y1 y2 := (Kp.of0 (Frm.of_drew y1)).trans k2
                      have u10 := kYb.same _ _ y10 (oth_cel (by decide) (by decide))
                      have u5 := kYb.same _ _ y5 (oth_cel (by decide) (by decide))
                      have hA2 := fYb.at0 hA0
                      have hsz2 : y1.heap.size ≤ y2.heap.size := kYb.size
                      refine runWWalks0 ?_
                      refine w_drawn [(0, false), (1, false), (2, false), (3, false), (4, false)] [5] (fun wq => Frm0 y2 wq) mixed (by kernel_rfl) ?_ ?_
                      · exact Frm.of_drew _
                      · refine runWWalks0 ?_
                        refine x_q rfl (fun wq hq => r_loadV (u_ok rfl) rfl (s_ok rfl) rfl (hq.at0 hA2) hX1' hX2') wnt_none ?_
                        refine runWWalks0 ?_
                        have hyd : y2.drew.heap.size = y2.heap.size := rfl
                        refine y_callf rfl (WI.applyR (N := b5 + 4) (hT2.frm0 (Frm.of_drew y2)) hp2 (hR2.frm0 (Frm.of_drew y2)) hY.wf e rfl hY.nt (by omega)) rfl wnt_none ?_
                        rintro v y3 ⟨⟨c3, hY3, hc3⟩, k3, f3⟩
                        refine runWWalks0 ?_
                        refine ⟨_, rfl, ⟨_, i + 1, c3, fixL ⟨rfl, rfl, rfl, rfl, rfl, trivial⟩, by omega, by rw [appAll_step he]; exact hY3, ?_, (kY.trans kYb).trans ((Kp.of0 (Frm.of_drew y2)).trans k3), fYb.drew.trans f3 (fun x hx => .inr (by have := hY.nt; omega)), ?_⟩, ?_⟩
                        · rcases hc3 with h | h
                          · rw [h]; exact hc2
                          · exact .inr (by omega)
                        · refine ((fY2.drew.trans f2 (fun b hb => .inl (.inl hb))).drew.trans f3 (fun b hb => ?_))
                          rcases hb with hb | hb
                          · exact .inl (.inr (.inl hb))
                          · rcases hc2 with h | h
                            · exact .inl (.inr (.inr (by rw [hb, h])))
                            · exact .inr (by omega)
                        · show ms.length - ((i : Int) + 1).toNat < ms.length - (i : Int).toNat
                          omega
                  · rw [List.take_of_length_le (by omega), hl1] at hY
                    have hJy := hJa.kp kY fY hY
                    obtain ⟨e1, e2, e3⟩ := hfin y1 c2 l1 hJy (hfa.trans fY2 (fun b hb => .inl (by omega))) (.inr ⟨by omega, rfl⟩)
                    refine runWWalks0 ?_
                    refine s_skip (r_store_i (s_ok rfl) rfl rfl yn (by simp)) wnt_none ?_
                    refine runWWalks0 ?_
                    exact rnd_go e1 hrs hrp (.inl ⟨rfl, e2, e3⟩)
              · obtain ⟨e1, e2, e3⟩ := hfin W2.drew c' l' (hJa.frm0 (Frm.of_drew W2)) hfa.drew (by
                  rcases hor with h | h
                  · exact .inl ⟨by omega, h.2⟩
                  · exact .inr ⟨by omega, h.2⟩)
                refine runWWalks0 ?_
                refine s_skip (r_store_i (s_ok rfl) rfl rfl (at_drew hn2) (by simp)) wnt_none ?_
                refine runWWalks0 ?_
                exact rnd_go e1 hrs hrp (.inl ⟨rfl, e2, e3⟩)
          · rintro b (rfl | rfl | rfl | rfl | rfl) <;> omega
        obtain ⟨⟨es9, cl9, m9, hT9, hp9⟩, _, _, _⟩ := hJ0.wi
        refine (branch1_retG hG hT9 hp9 hwf hx0m hJ0.a (by rw [hx0i]; exact hJ0.b) hR ⟨c, l0, hJ0, .inl ⟨Nat.zero_le _, rfl, rfl⟩⟩).mono ?_
        rintro v w7 (⟨c', l', hJ, _⟩ | ⟨q, _, hq⟩)
        rotate_left
        · exact hq.elim
        refine rf_on hJ.lp hrs hrp ?_
        have hJe := hJ.setL (rc' := { rc with state := .exhausted }) hNw
        generalize setB w7 (D + 1) (.loop { rc with state := .exhausted }) = u1 at *
        obtain ⟨⟨es1, cl1, m1, hT1, hp1⟩, ⟨cap1, rest1, hR1⟩, hwf', hnt'⟩ := hJe.wi
        clear hrc hR hJ hT9 hJ0
        obtain ⟨x1, tl1, hx1, hx1i, _⟩ := hwf'.root
        have hx1m : x1 ∈ l' := by rw [hx1]; exact List.mem_cons_self
        have v12 := hJe.bx.m12
        have vn := hJe.n
        have v10 := hJe.bx.m10
        have vh := hR1.head
        have vr := hR1.row
        have hsub1 : sub (flat l' ++ rest1) (0 + (0 : Int).toNat * 7) 7 = x1.vals := flat_sub l' 0 x1 (by rw [hx1]; rfl) rest1
        have hlen1 : 0 + (0 : Int).toNat * 7 + 7 ≤ (flat l' ++ rest1).length := by rw [List.length_append, flat_length, hx1]; simp; omega
        have hpos1 : 0 < l'.length := by rw [hx1]; simp
        refine runWWalks0 ?_
        refine w_drawn [(0, false), (1, false), (2, false), (3, false), (4, false), (5, false), (6, false)] [7, 8] (fun wq => Frm0 u1 wq) mixed (by kernel_rfl) ?_ ?_
        · exact Frm.of_drew _
        · refine runWWalks0 ?_
          refine x_q rfl (fun wq hq => r_loadV (u_ok rfl) rfl (s_ok rfl) rfl (hq.at0 vr) hlen1 hsub1) wnt_none ?_
          refine runWWalks0 ?_
          refine y_callf rfl (RAll_ret hwf' 34 x1 0 u1.drew hx1m (fits_all hwf' hx1m) (hR1.frm0 (Frm.of_drew u1)) (by omega) (by omega)) rfl wnt_none ?_
          rintro v u2 ⟨hrow, hown, f⟩
          obtain ⟨G2, hG2⟩ : ∃ G2, go (kids l') 34 x1 0 = G2 := ⟨_, rfl⟩
          have hGl2 : G2.length ≤ 32 := by rw [← hG2]; exact go_len hwf' hx1m
          rw [hG2] at hrow
          have f12 : Frm0 u1 u2 := f.drew0
          obtain ⟨va2, vc2, rfl⟩ := hrow.isSl
          have hJf := hJe.frm0 f12
          refine y_skip rfl (r_store_s (s_ok rfl) rfl rfl hJf.bx.m12 (by simp)) wnt_none ?_
          rw [show [Value.slice va G.length vc].set 0 (Value.slice va2 G2.length vc2) = [Value.slice va2 G2.length vc2] from rfl]
          have hb12w : w.heap.size ≤ b12 := by have := fY.size; omega
          have hJg : JB w (setB u2 b12 (cel [Value.slice va2 G2.length vc2] 36)) (b5 + 4) b5 b6 b7 b8 b9 b10 b12 nb D ca cb t mb r c' (.slice ma ms.length mc) (.slice va2 G2.length vc2) at' (1 + (st' : Int)) G2 { rc with state := .exhausted } l' G.length :=
            ⟨hJf.wi.setB hJf.bx.m12 (oth_cel (by decide) (by decide)) (fun _ => cel_ne (by decide)), hJf.bx.set12, keepT hJf.bx.m12 hJf.n (by decide), rowT hJf.bx.m12 hrow (fun _ => cel_ne (by decide)), at_setB_ne _ (at_ne hJf.bx.m12 hJf.lp (by simp [cel])) hJf.lp, at_setB_ne _ (at_ne hJf.bx.m12 hJf.d (by simp [cel])) hJf.d, keepT hJf.bx.m12 hJf.a (by decide), keepT hJf.bx.m12 hJf.b (by decide), hJf.f.setB (b := b12) (.inr hb12w) _⟩
          generalize setB u2 b12 (cel [Value.slice va2 G2.length vc2] 36) = u3 at *
          clear hJf hJe hT1 hR1 vh vr v12 vn v10 hrow hown f f12
          have vn := hJg.n
          refine runWWalks0 ?_
          refine s_skip (r_store_i (s_ok rfl) rfl rfl vn (by simp)) wnt_none ?_
          rw [show [I (G.length : Int)].set 0 (Value.int .i64 0) = [I ((0 : Nat) : Int)] from rfl]
          have hJh := hJg.setN (k' := 0) (by omega) (by omega) (by omega) (by omega)
          generalize setB u3 nb (cel [I ((0 : Nat) : Int)] 3) = u4 at *
          clear hJg vn
          refine runWWalks0 ?_
          refine rf (caps := [Ptr ca, Ptr cb]) rfl fun fn2 rc2 hrc2 => ?_
          have hrs2 : rc2.state = .ready := by rw [hrc2]; rfl
          have hrp2 : rc2.pending = none := by rw [hrc2]; rfl
          have hV1 := inLoop_frm u4 rc2
          obtain ⟨D2, hD2⟩ : ∃ D2, u4.heap.size = D2 := ⟨_, rfl⟩
          have hDD : D < D2 := by rw [← hD2]; exact at_lt hJh.d
          have hJ0 : JB w (inLoop u4 rc2) (b5 + 4) b5 b6 b7 b8 b9 b10 b12 nb D2 ca cb t mb r c' (.slice ma ms.length mc) (.slice va2 G2.length vc2) at' (1 + (st' : Int)) G2 rc2 l' 0 :=
            ⟨hJh.wi.frm0 hV1, hJh.bx.frm0 hV1, hV1.at0 hJh.n, hJh.g.frm hV1 (fun _ _ h => h), by rw [← hD2]; exact inLoop_l u4 rc2, by rw [← hD2]; exact inLoop_D u4 rc2, hV1.at0 hJh.a, hV1.at0 hJh.b, hJh.f.trans0 hV1⟩
          have hd0 := hV1.at0 hJh.d
          have hz2 := inLoop_size u4 rc2
          rw [hD2] at hrc2 hz2 ⊢
          have hNw2 : w.heap.size ≤ D2 := by omega
          clear hJh
          generalize inLoop u4 rc2 = V1 at *
          have hR2 : Rng (D2 + 1) V1.heap.size G2 (fun pre W => JB w W (b5 + 4) b5 b6 b7 b8 b9 b10 b12 nb D2 ca cb t mb r c' (.slice ma ms.length mc) (.slice va2 G2.length vc2) at' (1 + (st' : Int)) G2 rc2 l' pre.length ∧ pre.length < 1 + st' ∧ At W D (.deferred (some [])))
              (fun pre W => (∃ rc', JB w W (b5 + 4) b5 b6 b7 b8 b9 b10 b12 nb D2 ca cb t mb r c' (.slice ma ms.length mc) (.slice va2 G2.length vc2) at' (1 + (st' : Int)) G2 rc' l' pre.length ∧ rc'.state = .done ∧ rc'.pending = some (.exit 6)) ∧ pre.length = 1 + st' ∧ At W D (.deferred (some []))) (fun b => b = nb ∨ b = D2 + 1) := by
            refine ⟨?_, ?_, ?_⟩
            · rintro pre W W' ⟨hJ, hpl, hdd⟩ f
              exact ⟨hJ.frm0 f, hpl, f.at0 hdd⟩
            · rintro pre x d W ⟨hJ, hpl, hdd⟩ hpre hbase
              have hin : G2[pre.length]? = some (x, d) := by
                obtain ⟨tl', htl⟩ := hpre
                rw [← htl, List.append_assoc, List.getElem?_append_right (Nat.le_refl _)]
                simp
              have hlt : pre.length < G2.length := (List.getElem?_eq_some_iff.1 hin).1
              refine rnd2 hJ.lp hrc2 ?_
              clear hrc2 hJ0
              refine runWWalks0 ?_
              refine s_skip (r_storeN (nx := x) (ny := ⟨0, 0, 0, 0, 0, 0, 0⟩) (s_ok rfl) rfl rfl (at_alloc_new _ _)) wnt_none ?_
              rw [setB_alloc]
              refine runWWalks0 ?_
              refine ⟨at_alloc _ hJ.lp, ?_⟩
              have hJa := (hJ.frm0 (Frm.of_alloc (S := fun _ => False) W (cel x.vals 40))).setL (rc' := { rc2 with state := .busy }) hNw2
              have hbx := at_setB_ne (.loop { rc2 with state := .busy }) (show D2 + 1 ≠ W.heap.size by omega) (at_alloc_new W (cel x.vals 40))
              have hda := at_setB_ne (.loop { rc2 with state := .busy }) (show D2 + 1 ≠ D by omega) (at_alloc (cel x.vals 40) hdd)
              have hfa : Frm (fun b => b = nb ∨ b = D2 + 1) W (setB (W.alloc (cel x.vals 40)) (D2 + 1) (.loop { rc2 with state := .busy })) := (Frm.of_alloc (S := fun b => b = nb ∨ b = D2 + 1) W _).setB (b := D2 + 1) (.inl (by omega)) _
              generalize setB (W.alloc (cel x.vals 40)) (D2 + 1) (.loop { rc2 with state := .busy }) = W2 at *
              rcases hJa.g with ⟨_, h0, _⟩ | ⟨gb, gcap, grest, hv, hGA, hg4, hg5, hg6⟩
              · omega
              injection hv with h7 h8 h9
              subst h7 h9
              have hg1 : 0 + (pre.length : Int).toNat * 8 + 0 + 7 ≤ (flatP G2 ++ grest).length := by
                rw [List.length_append, flatP_length]
                omega
              have hg2 : sub (flatP G2 ++ grest) (0 + (pre.length : Int).toNat * 8 + 0) 7 = x.vals := by
                rw [Nat.zero_add, Nat.add_zero, show (pre.length : Int).toNat = pre.length by omega]
                exact flatP_sub7 G2 _ (x, d) hin grest
              have hg3 : (flatP G2 ++ grest)[0 + (pre.length : Int).toNat * 8 + 7]? = some (I d) := by
                rw [Nat.zero_add, show (pre.length : Int).toNat = pre.length by omega]
                exact flatP_get G2 _ (x, d) hin grest 7 (by omega)
              have hn2 := hJa.n
              have h12 := hJa.bx.m12
              have hst7 := hJa.bx.m7
              generalize hxb : W.heap.size = xb at *
              clear hJ
              refine runWWalks0 ?_
              refine w_drawn ((0, false) :: (1, false) :: (2, false) :: (3, false) :: (4, false) :: (5, false) :: (6, false) :: (7, false) :: (8, false) :: (9, false) :: (10, false) :: (11, false) :: (12, false) :: (13, false) :: (14, false) :: (15, false) :: (16, false) :: (17, false) :: (18, false) :: (19, false) :: (20, false) :: (21, false) :: (22, false) :: (23, false) :: (24, false) :: (25, false) :: (26, false) :: []) [] (fun wq => Frm0 W2 wq) mixed (by kernel_rfl) ?_ ?_
              · exact Frm.of_drew _
              · refine runWWalks0 ?_
                refine x_q rfl (fun wq hq => r_loadV (u_ok rfl) rfl (s_ok rfl) rfl (hq.at0 hGA) hg1 hg2) (by (first | (with_reducible exact wnt_none) | ((with_reducible apply wnt_y); exact rfl; exact rfl; exact rfl; exact rfl; (with_reducible exact rfl)))) ?_
                refine x_q rfl (fun wq hq => r_ne_node (n := x) rfl rfl) (by (first | (with_reducible exact wnt_none) | ((with_reducible apply wnt_y); exact rfl; exact rfl; exact rfl; exact rfl; (with_reducible exact rfl)))) ?_
                refine runWWalks0 ?_
                refine x_q rfl (fun wq hq => r_load (u_ok rfl) rfl rfl (hq.at0 hGA) hg3) (by (first | (with_reducible exact wnt_none) | ((with_reducible apply wnt_y); exact rfl; exact rfl; exact rfl; exact rfl; (with_reducible exact rfl)))) ?_
                have hpl1 : (pre ++ [(x, d)]).length = pre.length + 1 := by simp
                refine runWWalks0 ?_
                refine s_skip (r_store_i (s_ok rfl) rfl rfl (at_drew hn2) (by simp)) wnt_none ?_
                rw [show [I (pre.length : Int)].set 0 (Value.int .i64 ((pre.length : Int) + 1)) = [I ((pre.length + 1 : Nat) : Int)] from rfl]
                have hJn := (hJa.frm0 (Frm.of_drew W2)).setN (k' := pre.length + 1) (by omega) (by omega) (by omega) (by omega)
                have hfn : Frm (fun b => b = nb ∨ b = D2 + 1) W (setB W2.drew nb (cel [I ((pre.length + 1 : Nat) : Int)] 3)) := hfa.drew.setB (b := nb) (.inl (by omega)) _
                have hdn := at_setB_ne (cel [I ((pre.length + 1 : Nat) : Int)] 3) (at_ne (at_drew hn2) (at_drew hda) (by simp [cel])) (at_drew hda)
                generalize setB W2.drew nb (cel [I ((pre.length + 1 : Nat) : Int)] 3) = W3 at *
                have hn3 := hJn.n
                have hst3 := hJn.bx.m7
                clear hn2 h12 hst7 hbx hGA
                by_cases hstop : pre.length + 1 = 1 + st'
                · refine runWWalks0 ?_
                  refine rnd_exit hJn.lp (.inr ⟨rfl, ⟨_, by rw [hpl1]; exact hJn.setL hNw2, rfl, rfl⟩, by rw [hpl1]; exact hstop, at_setB_ne _ (by omega) hdn⟩)
                · refine runWWalks0 ?_
                  refine rnd_go hJn.lp hrs2 hrp2 (.inl ⟨rfl, ⟨by rw [hpl1]; exact hJn.setL hNw2, by omega, at_setB_ne _ (by omega) hdn⟩, hfn.setB (b := D2 + 1) (.inl (by omega)) _⟩)
            · rintro b (rfl | rfl) <;> omega
          obtain ⟨⟨es9, cl9, m9, hT9, hp9⟩, _, _, _⟩ := hJ0.wi
          refine (branch1_retG hG2 hT9 hp9 hwf' hx1m hJ0.a (by rw [hx1i]; exact hJ0.b) hR2 ⟨hJ0, by simp; omega, hd0⟩).mono ?_
          clear hrc2 hR2 hT9 hJ0
          rintro v w8 (⟨hJ8, hlt8, hd8⟩ | ⟨q, hq, ⟨rc', hJ8, hst8, hpe8⟩, hlen8, hd8⟩)
          · refine rf_on hJ8.lp hrs2 hrp2 ?_
            have hJ9 := hJ8.setL (rc' := { rc2 with state := .exhausted }) hNw2
            have hd9 := at_setB_ne (.loop { rc2 with state := .exhausted }) (show D2 + 1 ≠ D by omega) hd8
            generalize setB w8 (D2 + 1) (.loop { rc2 with state := .exhausted }) = s1 at *
            clear hJ8 hd8
            have h9 := hJ9.bx.m9
            have h10 := hJ9.bx.m10
            refine runWWalks0 ?_
            obtain ⟨⟨es5, cl5, m5, hT5, hp5⟩, ⟨cap5, rest5, hR5⟩, hwf5, _⟩ := hJ9.wi
            refine s_callf (same_ret (PT := PT) treeSpec (S := fun _ => True) ⟨mb, es5, cl5, m5, hT5, hp5, trivial, trivial⟩ hR5 hwf5) rfl wnt_none ?_
            rintro v o1 ⟨rfl, fo⟩
            have hJo := hJ9.frm0 fo
            have hdo := fo.at0 hd9
            clear hT5 hR5 h9 h10 hJ9 hd9
            have on := hJo.n
            have o7 := hJo.bx.m7
            have o12 := hJo.bx.m12
            have o8 := hJo.bx.m8
            refine runWWalks0 ?_
            refine s_val (r_min rfl rfl) (by (first | (with_reducible exact wnt_none) | ((with_reducible apply wnt_y); exact rfl; exact rfl; exact rfl; exact rfl; (with_reducible exact rfl)))) ?_
            have hmin : (if ((G2.length : Nat) : Int) < 1 + (st' : Int) then ((G2.length : Nat) : Int) else 1 + (st' : Int)) = ((G2.length : Nat) : Int) := by split <;> omega
            rw [hmin]
            refine runWWalks0 ?_
            refine s_skip (r_store_b (s_ok rfl) rfl rfl o8 (by simp)) wnt_none ?_
            refine runWWalks0 ?_
            refine ret_ms [D2, D] (by simp; omega) (fun X hX => ?_) (res_c1 rfl (u_ok rfl) rfl rfl (shutL_at _ _ (at_setB _ o8) ?_)) ⟨rfl, shutL_frm _ _ (hJo.f.setB (b := b8) (.inr (by omega)) _) (fun X hX => ?_)⟩
            · simp only [List.mem_cons, List.not_mem_nil, or_false] at hX
              rcases hX with rfl | rfl
              · exact at_setB_ne _ (at_ne o8 hJo.d (by simp [cel])) hJo.d
              · exact at_setB_ne _ (at_ne o8 hdo (by simp [cel])) hdo
            · simp only [List.mem_cons, List.not_mem_nil, or_false, not_or]
              exact ⟨at_ne o8 hJo.d (by simp [cel]), at_ne o8 hdo (by simp [cel])⟩
            · simp only [List.mem_cons, List.not_mem_nil, or_false] at hX
              omega
          · refine ⟨rc', hJ8.lp, by rw [hst8]; simp, ?_⟩
            have hJ9 := hJ8.setL (rc' := { rc' with state := .exhausted }) hNw2
            have hd9 := at_setB_ne (.loop { rc' with state := .exhausted }) (show D2 + 1 ≠ D by omega) hd8
            have hql := hq.length_le
            rw [hpe8] at hJ9 hd9 ⊢
            generalize setB w8 (D2 + 1) (.loop _) = s1 at *
            clear hJ8 hd8
            refine wpIn_exit ?_
            have h9 := hJ9.bx.m9
            have h10 := hJ9.bx.m10
            refine runWWalks0 ?_
            obtain ⟨⟨es5, cl5, m5, hT5, hp5⟩, ⟨cap5, rest5, hR5⟩, hwf5, _⟩ := hJ9.wi
            refine s_callf (same_ret (PT := PT) treeSpec (S := fun _ => True) ⟨mb, es5, cl5, m5, hT5, hp5, trivial, trivial⟩ hR5 hwf5) rfl wnt_none ?_
            rintro v o1 ⟨rfl, fo⟩
            have hJo := hJ9.frm0 fo
            have hdo := fo.at0 hd9
            clear hT5 hR5 h9 h10 hJ9 hd9
            have on := hJo.n
            have o7 := hJo.bx.m7
            have o12 := hJo.bx.m12
            have o8 := hJo.bx.m8
            refine runWWalks0 ?_
            refine s_val (r_min rfl rfl) (by (first | (with_reducible exact wnt_none) | ((with_reducible apply wnt_y); exact rfl; exact rfl; exact rfl; exact rfl; (with_reducible exact rfl)))) ?_
            have hmin : (if ((G2.length : Nat) : Int) < 1 + (st' : Int) then ((G2.length : Nat) : Int) else 1 + (st' : Int)) = ((q.length : Nat) : Int) := by split <;> omega
            rw [hmin]
            refine runWWalks0 ?_
            refine s_skip (r_store_b (s_ok rfl) rfl rfl o8 (by simp)) wnt_none ?_
            refine runWWalks0 ?_
            refine ret_ms [D2, D] (by simp; omega) (fun X hX => ?_) (res_c1 rfl (u_ok rfl) rfl rfl (shutL_at _ _ (at_setB _ o8) ?_)) ⟨rfl, shutL_frm _ _ (hJo.f.setB (b := b8) (.inr (by omega)) _) (fun X hX => ?_)⟩
            · simp only [List.mem_cons, List.not_mem_nil, or_false] at hX
              rcases hX with rfl | rfl
              · exact at_setB_ne _ (at_ne o8 hJo.d (by simp [cel])) hJo.d
              · exact at_setB_ne _ (at_ne o8 hdo (by simp [cel])) hdo
            · simp only [List.mem_cons, List.not_mem_nil, or_false, not_or]
              exact ⟨at_ne o8 hJo.d (by simp [cel]), at_ne o8 hdo (by simp [cel])⟩
            · simp only [List.mem_cons, List.not_mem_nil, or_false] at hX
              omega
end Go.Proofs.YtbicffldggcdhaaDoor
