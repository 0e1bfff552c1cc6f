/-
  The law's plays and Trees, walked.
-/
import Derived.Test.YtbicffldggcdhaaGreatDoorWLaw8
namespace Go.Proofs.YtbicffldggcdhaaGreatDoor
open Go
theorem runWLaw90 {G K : Prop} (k : K) (h : Wrap K → G := by intro h; (repeat (first | (with_reducible first | refine wpIn_seq ?_ | refine w_reg ?_ | refine s_nil ?_ | refine s_nilQ ?_ | refine wpIn_block ?_ | refine q_then ?_ | refine q_blk ?_ | refine q_then_ret ?_ | refine q_blk_ret ?_ | refine q_then_exit ?_ | refine q_blk_exit ?_ | refine wpIn_skip ?_ | refine wpIn_ret ?_ | refine wpIn_exit ?_) | ((with_reducible refine q_blk_other ?_ ?_); exact rfl) | ((with_reducible apply c_true); exact rfl; (with_reducible exact rfl)) | ((with_reducible apply c_false); exact rfl; (with_reducible exact rfl)) | ((with_reducible apply s_no); (first | ((with_reducible apply wnt_nt); exact rfl; exact rfl; exact rfl; exact rfl; (with_reducible exact rfl)) | ((with_reducible apply wnt_nf); exact rfl; exact rfl; exact rfl; exact rfl; (with_reducible exact rfl)))) | ((with_reducible apply s_val); (first | ((with_reducible apply r_assign_b); exact rfl) | ((with_reducible apply r_assign_s); exact rfl) | ((with_reducible apply r_move_s); exact rfl) | ((with_reducible apply r_boxA); exact rfl) | ((with_reducible apply r_box1); exact rfl; exact rfl) | ((with_reducible apply r_assign_p); exact rfl) | ((with_reducible apply r_assign_i); exact rfl) | ((with_reducible apply r_move_i); exact rfl) | ((with_reducible apply r_len); exact u_ok rfl; exact rfl) | ((with_reducible apply r_lss_t); exact rfl; exact rfl; omega) | ((with_reducible apply r_lss_f); exact rfl; exact rfl; omega) | ((with_reducible apply r_lss); exact rfl; exact rfl) | ((with_reducible apply r_move_b); exact rfl) | ((with_reducible apply r_pick_t); exact rfl; (with_reducible exact rfl); exact rfl) | ((with_reducible apply r_pick_f); exact rfl; (with_reducible exact rfl); exact rfl) | ((with_reducible apply r_index); exact u_ok rfl; exact s_ok rfl; exact rfl; exact rfl; omega; omega) | ((with_reducible apply r_indexarr); exact u_ok rfl; exact s_ok rfl; exact rfl; exact rfl; omega; omega) | ((with_reducible apply r_loadA); exact u_ok rfl; exact rfl; exact s_ok rfl; exact rfl; (first | (with_reducible assumption) | assumption | exact at_alloc_new _ _ | (repeat (first | assumption | exact at_alloc_new _ _ | refine at_drew ?_ | refine at_alloc _ ?_))); exact Nat.le_of_ble_eq_true rfl) | ((with_reducible apply r_allocA); exact z_ok rfl) | ((with_reducible apply r_alloc1); exact z_ok rfl; exact rfl) | ((with_reducible apply r_fld); exact fa_ok rfl; exact rfl) | ((with_reducible apply r_load); exact u_ok rfl; exact rfl; exact rfl; (first | (with_reducible assumption) | assumption | exact at_alloc_new _ _ | (repeat (first | assumption | exact at_alloc_new _ _ | refine at_drew ?_ | refine at_alloc _ ?_))); exact rfl) | ((with_reducible apply r_not_t); exact rfl; (with_reducible exact rfl)) | ((with_reducible apply r_not_f); exact rfl; (with_reducible exact rfl)) | ((with_reducible apply r_not); exact rfl) | ((with_reducible apply r_move_p); exact rfl) | ((with_reducible apply r_nilCheck); exact rfl) | ((with_reducible apply r_add); exact rfl; exact rfl; omega; omega)); (first | (with_reducible exact wnt_none) | ((with_reducible apply wnt_y); exact rfl; exact rfl; exact rfl; exact rfl; (with_reducible exact rfl)))))); exact h.out) : G := h ⟨k⟩
theorem runWLaw91 {G K : Prop} (k : K) (h : Wrap K → G := by intro h; (repeat (first | (with_reducible first | refine wpIn_seq ?_ | refine w_reg ?_ | refine s_nil ?_ | refine s_nilQ ?_ | refine wpIn_block ?_ | refine q_then ?_ | refine q_blk ?_ | refine q_then_ret ?_ | refine q_blk_ret ?_ | refine q_then_exit ?_ | refine q_blk_exit ?_ | refine wpIn_skip ?_ | refine wpIn_ret ?_ | refine wpIn_exit ?_) | ((with_reducible refine q_blk_other ?_ ?_); exact rfl) | ((with_reducible apply c_true); exact rfl; (with_reducible exact rfl)) | ((with_reducible apply c_false); exact rfl; (with_reducible exact rfl)) | ((with_reducible apply s_val); (first | ((with_reducible apply r_assign_b); exact rfl) | ((with_reducible apply r_move_s); exact rfl)); (with_reducible exact wnt_none)))); exact h.out) : G := h ⟨k⟩

theorem run_append0 {P : Program} {w : World} {sT xT ty e sz n : Nat} {v : Value} {D : TypeDesc} {pre : List Value} (hu : P.underlying sT = some (.slice e)) (hx : P.underlying xT = some D) (hD : ∀ kk, D ≠ .int kk) (hs : szOf P e = some sz)
    (hrow : Row w v e sz n pre) (a : Option Addr) (c : Nat) : (Builtin.append_ #[sT, xT] ty #[v, .slice a 0 c]).run P w = .ok v w := by
  have h0 : (Builtin.firstCells sz 0 (.slice a 0 c)).run P w = .ok #[] w := by cases a <;> simp [Builtin.firstCells, loadCells, loadCellsFrom]
  have hD' : (match D with | .int _ => true | _ => false) = false := by cases D <;> first | rfl | exact absurd rfl (hD _)
  rcases hrow with ⟨rfl, rfl, rfl⟩ | ⟨b, cap, rest, rfl, hA, hpl, hroom, hnc⟩
  · simp [Builtin.append_, run_underlying hu, run_underlying hx, run_size hs, run_lenOf, h0]
  · simp [Builtin.append_, run_underlying hu, run_underlying hx, run_size hs, run_lenOf, h0, hnc, storeCells]

/-- A script in memory. -/
def Scr (w : World) (sv : Value) (script : List OpR) : Prop :=
  ((∃ a c, sv = .slice a 0 c) ∧ script = []) ∨ ∃ sb so sc X tx kk, sv = .slice (some ⟨sb, so, none⟩) script.length sc ∧ At w sb (.cells X.toArray tx kk) ∧ so + script.length * 10 ≤ X.length ∧ sub X so (script.length * 10) = flatOp script
def OpOk (o : OpR) : Prop := -9223372036854775808 ≤ o.a ∧ o.a ≤ 9223372036854775807
theorem first_ok : ∀ o ∈ firstOps, OpOk o := by
  intro o h
  simp only [firstOps, List.mem_cons, List.not_mem_nil, or_false] at h
  rcases h with h | h | h | h | h | h | h | h | h | h | h | h | h | h | h | h <;> subst h <;> exact ⟨by decide, by decide⟩
theorem bld_world (w : World) : (Instr.build 79 [].toArray).run Tryz.prog w = .ok (.agg [.slice none 0 0, .slice none 0 0, .slice none 0 0, .slice none 0 0, .slice none 0 0].toArray) w := by kernel_rfl
def nil4 : List Value := [.slice none 0 0, .slice none 0 0, .slice none 0 0, .slice none 0 0]
/-- What is asked of step, for the kinds that are played. -/
def StepC (PT : World → Nat → List Nd → (Nat → Prop) → Prop) (ks : List Int) : Prop :=
  ∀ {w : World} {wp : Nat} {tsv : Value} {tail : List Value} {ts : List TP} {col : Nat → Nat} {ea : List Addr} {o : OpR}, TI PT w wp tsv tail ts col → EI w wp ea → ts.length < 2000000000000 → o.kind ∈ ks → OpOk o →
    Rets Tryz.prog 37 [Ptr wp, OpV o] w fun v w' => v = B true ∧ TStep PT w w' wp tsv col tail (ts.length + 1)

section
variable {PT : World → Nat → List Nd → (Nat → Prop) → Prop}
theorem append_op {w : World} {v : Value} {n m bx ox cx tx ty : Nat} {k : Nat × Nat} {pre X : List Value} (hrow : Row w v 81 10 n pre) (hX : At w bx (.cells X.toArray tx k)) (hsub : ox + m * 10 ≤ X.length) (hone : ∀ u ∈ sub X ox (m * 10), one u = true) (hcap : 2 * (n + m) * 80 ≤ 2 ^ 48) :
    ∃ v' w', (Builtin.append_ #[22, 22] ty #[v, .slice (some ⟨bx, ox, none⟩) m cx]).run Tryz.prog w = .ok v' w' ∧ Row w' v' 81 10 (n + m) (pre ++ sub X ox (m * 10)) ∧ Frm (InV v) w w' ∧ ∀ b, InV v' b → InV v b ∨ w.heap.size ≤ b :=
  run_append (sz := 10) (by' := 80) (u_ok rfl) (u_ok rfl) (fun kk h => by cases h) (s_ok rfl) (b_ok rfl) (z_ok rfl) rfl hrow hX hsub hone (by omega) hcap

set_option maxHeartbeats 2000000 in
theorem plays_ret (sp : TreeSpec PT) {ks : List Int} (hst : StepC PT ks) {w : World} {sv : Value} {script : List OpR} {pb pc pty : Nat} {pk : Nat × Nat} {ea : List Addr} (hS : Scr w sv script) (hok : ∀ o ∈ script, OpOk o) (hB : (16 + script.length) * 160 ≤ 2 ^ 48)
    (hpl : At w pb (.cells (ks.map I ++ []).toArray pty pk)) (hks : ks.length < 1000) (hE : Errs w ea) :
    Rets Tryz.prog 13 [sv, .slice (some ⟨pb, 0, none⟩) ks.length pc] w fun v w' => v = B true ∧ Frm0 w w' := by
  obtain ⟨sa, sl, sc, rfl, hsl⟩ : ∃ sa sl sc, sv = .slice sa sl sc ∧ sl = script.length := by
    rcases hS with ⟨⟨a, c, e⟩, e2⟩ | ⟨sb, so, sc, X, tx, kk, e, _⟩
    · exact ⟨a, 0, c, e, by rw [e2]; rfl⟩
    · exact ⟨_, _, _, e, rfl⟩
  refine rets_of Tryz.func13 (by kernel_rfl) rfl Tryz.ntmps13 (Nat.le_of_ble_eq_true rfl) ?_
  refine runWLaw90 ?_
  refine s_callf (first_ret _) rfl wnt_none ?_
  rintro v w1 ⟨fb, rfl, hF, hfb, f1⟩
  refine runWLaw90 ?_
  have happ : ∃ v2 w2, (Builtin.append_ #[22, 22] 22 #[.slice (some ⟨fb, 0, none⟩) 16 16, .slice sa sl sc]).run Tryz.prog w1 = .ok v2 w2 ∧ Row w2 v2 81 10 (16 + script.length) (flatOp (firstOps ++ script)) ∧ Frm (fun x => x = fb) w1 w2 := by
    have hrow1 : Row w1 (.slice (some ⟨fb, 0, none⟩) 16 16) 81 10 16 (flatOp firstOps) := .inr ⟨fb, 16, [], rfl, by rw [List.append_nil]; exact hF, rfl, rfl, by omega⟩
    rcases hS with ⟨⟨a, c, e⟩, e2⟩ | ⟨sb, so, sc', X, tx, kk, e, hA, hlen, hsub⟩
    · cases e
      subst e2
      refine ⟨_, w1, run_append0 (u_ok rfl) (u_ok rfl) (fun kk h => by cases h) (s_ok rfl) hrow1 _ _, ?_, Frm.refl _ _⟩
      rw [List.append_nil]
      exact hrow1
    · cases e
      obtain ⟨v2, w2, e2, r2, f2, _⟩ := append_op (ty := 22) (cx := sc) hrow1 (f1.at0 hA) hlen (by rw [hsub]; exact flatOp_one _) (by omega)
      refine ⟨v2, w2, e2, ?_, f2.mono (fun x hx => .inl (by obtain ⟨_, _, _, hv⟩ := hx; cases hv; rfl))⟩
      rw [hsub, ← flatOp_append] at r2
      exact r2
  obtain ⟨v2, w2, e2, r2, f2⟩ := happ
  refine s_val (r_app rfl rfl e2) wnt_none ?_
  rcases r2 with ⟨_, hz, _⟩ | ⟨ab, acap, arest, rfl, hA2, hl2, hr2, hc2⟩
  · omega
  · refine runWLaw90 ?_
    refine s_val (r_build rfl (bld_world _)) wnt_none ?_
    refine runWLaw90 ?_
    have s1 := f1.size
    have s2 := f2.size
    have F2 : Frm0 w w2 := by
      refine (f1.trans (T := fun x => x = fb) f2 (fun x hx => .inr (by omega)))
    have F3 : Frm0 w (w2.alloc (cel [.slice none 0 0, .slice none 0 0, .slice none 0 0, .slice none 0 0, .slice none 0 0] 79)) := F2.alloc _
    have hT3 : TI PT (w2.alloc (cel [.slice none 0 0, .slice none 0 0, .slice none 0 0, .slice none 0 0, .slice none 0 0] 79)) w2.heap.size (.slice none 0 0) nil4 [] (fun _ => 0) :=
      ⟨at_alloc_new _ _, .inl ⟨rfl, rfl, rfl⟩, (fun b hb => by obtain ⟨_, _, _, hv⟩ := hb; cases hv), (fun i x hx => by simp at hx), fun _ _ => rfl, fun _ _ => rfl, rfl⟩
    have hA3 := at_alloc (cel [.slice none 0 0, .slice none 0 0, .slice none 0 0, .slice none 0 0, .slice none 0 0] 79) hA2
    have hp3 := F3.at0 hpl
    have hE3 : EI (w2.alloc (cel [.slice none 0 0, .slice none 0 0, .slice none 0 0, .slice none 0 0, .slice none 0 0] 79)) w2.heap.size ea := by
      have := errs_lt hE
      exact ⟨hE.frm0 F3, fun g hg => by have := this.1 g hg; omega, fun a ha => by have := this.2 a ha; omega⟩
    have hab := at_lt hA2
    have hpb := at_lt hpl
    generalize w2.alloc (cel [.slice none 0 0, .slice none 0 0, .slice none 0 0, .slice none 0 0, .slice none 0 0] 79) = w3 at *
    generalize hwp : w2.heap.size = wp at *
    have hLl : (firstOps ++ script).length = 16 + script.length := by rw [List.length_append]; rfl
    have hop : ∀ o ∈ firstOps ++ script, OpOk o := fun o ho => (List.mem_append.1 ho).elim (first_ok o) (hok o)
    generalize firstOps ++ script = L at *
    refine lp (fun env w' => Frm (fun b => wp ≤ b) w3 w' ∧ ∃ env0 tsv ts col, ∃ i : Nat, env = setL env0 [(1, .slice (some ⟨pb, 0, none⟩) ks.length pc), (5, .slice (some ⟨ab, 0, none⟩) (16 + script.length) acap), (6, Ptr wp), (7, I i)] ∧ i ≤ L.length ∧ TI PT w' wp tsv nil4 ts col ∧ ts.length ≤ i) (fun env _ => L.length - cnt (env 7)) ?_ ?_
    · exact ⟨Frm.refl _ _, _, _, _, _, 0, fixL ⟨rfl, rfl, rfl, rfl, trivial⟩, by omega, hT3, by simp⟩
    · rintro env w' ⟨hf, env0, tsv, ts, col, i, rfl, hi, hT, hti⟩
      have hA' := hf.at (b := ab) (by omega) hA3
      have hp' := hf.at (b := pb) (by omega) hp3
      have hE' := hE3.frm hf (fun _ h => h)
      by_cases hlt : i < L.length
      · obtain ⟨o, ho⟩ : ∃ o, L[i]? = some o := ⟨L[i], List.getElem?_eq_getElem hlt⟩
        have hoo := hop o (List.mem_of_getElem? ho)
        refine runWLaw90 ?_
        refine s_val (r_loadV (vs := o.vals) (u_ok rfl) rfl (s_ok rfl) rfl hA' (by rw [List.length_append, flatOp_length]; omega) (by rw [show 0 + (i : Int).toNat * 10 = i * 10 by omega]; exact flatOp_sub L i o ho arest)) wnt_none ?_
        refine runWLaw90 ?_
        refine s_skip (r_storeAll (vs := o.vals) (s_ok rfl) rfl rfl (op_one _) (at_alloc_new w' _) rfl) wnt_none ?_
        have ho4 := at_setB (cel o.vals 81) (at_alloc_new w' (cel [I 0, I 0, I 0, I 0, I 0, I 0, I 0, I 0, I 0, I 0] 81))
        have f4 : Frm0 w' (setB (w'.alloc (cel [I 0, I 0, I 0, I 0, I 0, I 0, I 0, I 0, I 0, I 0] 81)) w'.heap.size (cel o.vals 81)) := (Frm.of_alloc w' _).setB (.inr (Nat.le_refl _)) _
        generalize setB (w'.alloc (cel [I 0, I 0, I 0, I 0, I 0, I 0, I 0, I 0, I 0, I 0] 81)) w'.heap.size (cel o.vals 81) = w4 at *
        have hT4 := hT.frm0 sp f4
        have hE4 := hE'.frm0 f4
        have hf4 : Frm (fun b => wp ≤ b) w3 w4 := hf.trans0 f4
        refine runWLaw90 ?_
        refine s_callf (among_ret (f4.at0 hp') rfl (by omega) o.kind) rfl wnt_none ?_
        rintro v w5 ⟨rfl, rfl⟩
        by_cases hk : o.kind ∈ ks
        · rw [decide_eq_true hk]
          refine runWLaw90 ?_
          refine s_callf (hst hT4 hE4 (by omega) hk hoo) rfl wnt_none ?_
          rintro v w6 ⟨rfl, ⟨tsv6, ts6, col6, hT6, hl6, _⟩, f6⟩
          have hh6 := hT6.head
          refine runWLaw90 ?_
          refine s_callf (looks_nil hh6) rfl wnt_none ?_
          rintro v w7 ⟨rfl, rfl⟩
          refine runWLaw90 ?_
          refine s_callf (trees_ret sp hT6 (by omega)) rfl wnt_none ?_
          rintro v w8 ⟨rfl, f8⟩
          have hf8 : Frm (fun b => wp ≤ b) w3 w8 := (hf4.trans f6 (fun _ h => .inl (hT4.ts h))).trans0 f8
          refine runWLaw90 ?_
          exact ⟨_, rfl, ⟨hf8, _, tsv6, ts6, col6, i + 1, fixL ⟨rfl, rfl, rfl, rfl, trivial⟩, by omega, hT6.frm0 sp f8, by omega⟩, by show L.length - ((i : Int) + 1).toNat < L.length - (i : Int).toNat; omega⟩
        · rw [decide_eq_false hk]
          refine runWLaw90 ?_
          exact ⟨_, rfl, ⟨hf4, _, tsv, ts, col, i + 1, fixL ⟨rfl, rfl, rfl, rfl, trivial⟩, by omega, hT4, by omega⟩, by show L.length - ((i : Int) + 1).toNat < L.length - (i : Int).toNat; omega⟩
      · refine runWLaw90 ?_
        refine ret_b rfl rfl ⟨rfl, F3.trans hf (fun b hb => .inr ?_)⟩
        omega
theorem step_trees (sp : TreeSpec PT) : StepC PT [1, 2, 3, 4] := by
  intro w wp tsv tail ts col ea o hT hE hl hk hok
  by_cases h1 : o.kind = 1
  · exact step_new sp hT hE hl h1
  · exact step_on sp hT hE hl (by simp at hk; omega) hok.1 hok.2

theorem bs_ks (w : World) : (Instr.buildSlice 24 4 [(0, I 1), (1, I 2), (2, I 3), (3, I 4)].toArray).run Tryz.prog w = .ok (.slice (some ⟨w.heap.size, 0, none⟩) 4 4) (w.alloc (cel (([1, 2, 3, 4] : List Int).map I ++ []) 3)) := by kernel_rfl
theorem Scr.frm0 {w w' : World} {sv : Value} {script : List OpR} (h : Scr w sv script) (f : Frm0 w w') : Scr w' sv script := by
  rcases h with h | ⟨sb, so, sc, X, tx, kk, e, hA, q⟩
  · exact .inl h
  · exact .inr ⟨sb, so, sc, X, tx, kk, e, f.at0 hA, q⟩
theorem Trees_ret (sp : TreeSpec PT) {w : World} {sv : Value} {script : List OpR} {ea : List Addr} (hS : Scr w sv script) (hok : ∀ o ∈ script, OpOk o) (hB : (16 + script.length) * 160 ≤ 2 ^ 48) (hE : Errs w ea) :
    Rets Tryz.prog 3 [sv] w fun v w' => v = B true ∧ Frm0 w w' := by
  obtain ⟨sa, sl, sc, rfl⟩ : ∃ sa sl sc, sv = .slice sa sl sc := by
    rcases hS with ⟨⟨a, c, e⟩, _⟩ | ⟨sb, so, sc, X, tx, kk, e, _⟩
    · exact ⟨_, _, _, e⟩
    · exact ⟨_, _, _, e⟩
  refine rets_of Tryz.func3 (by kernel_rfl) rfl Tryz.ntmps3 (Nat.le_of_ble_eq_true rfl) ?_
  refine runWLaw91 ?_
  refine s_val (r_bs rfl (bs_ks _)) wnt_none ?_
  refine s_callf (plays_ret sp (step_trees sp) (ks := [1, 2, 3, 4]) (hS.frm0 (Frm.of_alloc _ _)) hok hB (at_alloc_new w _) (by decide) (hE.frm0 (Frm.of_alloc _ _))) rfl wnt_none ?_
  rintro v w2 ⟨rfl, f2⟩
  refine runWLaw91 ?_
  exact ret_b rfl rfl ⟨rfl, (Frm.of_alloc w _).trans0 f2⟩
end
end Go.Proofs.YtbicffldggcdhaaGreatDoor
