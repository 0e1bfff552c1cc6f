/-
  The program's tree: branch (a loop over the map), walked.
-/
import Derived.Test.YtkediklhiaaijaaDoorWTree4
namespace Go.Proofs.YtkediklhiaaijaaDoor
open Go
theorem runWTree50 {G K : Prop} (k : K) (h : Wrap K → G := by intro h; (repeat (first | (with_reducible first | refine wp_seq ?_ | refine w_reg ?_ | refine s_nil ?_ | refine s_nilQ ?_ | refine wp_block ?_ | refine q_then ?_ | refine q_blk ?_ | refine q_then_ret ?_ | refine q_blk_ret ?_ | refine q_then_exit ?_ | refine q_blk_exit ?_ | refine wp_skip ?_ | refine wp_ret ?_ | refine wp_exit ?_) | ((with_reducible refine q_blk_other ?_ ?_); exact rfl) | ((with_reducible apply c_true); exact rfl; (with_reducible exact rfl)) | ((with_reducible apply c_false); exact rfl; (with_reducible exact rfl)) | ((with_reducible apply s_val); (first | ((with_reducible apply r_assign_s); exact rfl) | ((with_reducible apply r_move_p); exact rfl) | ((with_reducible apply r_nilCheck); exact rfl) | ((with_reducible apply r_fld); exact fa_ok rfl; exact rfl) | ((with_reducible apply r_load); exact u_ok rfl; exact rfl; exact rfl; (first | (with_reducible assumption) | assumption | exact at_alloc_new _ _ | (repeat (first | assumption | exact at_alloc_new _ _ | refine at_drew ?_ | refine at_alloc _ ?_))); exact rfl) | ((with_reducible apply r_extract); exact rfl; exact rfl) | ((with_reducible apply r_assign_i); exact rfl) | ((with_reducible apply r_move_i); exact rfl) | ((with_reducible apply r_move_s); exact rfl)); (with_reducible exact wnt_none)))); exact h.out) : G := h ⟨k⟩

theorem append_int {w : World} {v : Value} {n m bx ox cx tx ty : Nat} {k : Nat × Nat} {pre X : List Value} (hrow : Row w v 3 1 n pre) (hX : At w bx (.cells X.toArray tx k)) (hsub : ox + m * 1 ≤ X.length) (hone : ∀ u ∈ sub X ox (m * 1), one u = true) (hcap : n + m < 2000000) :
    ∃ v' w', (Builtin.append_ #[29, 29] ty #[v, .slice (some ⟨bx, ox, none⟩) m cx]).run Tryd.prog w = .ok v' w' ∧ Row w' v' 3 1 (n + m) (pre ++ sub X ox (m * 1)) ∧ Frm (InV v) w w' ∧ ∀ b, InV v' b → InV v b ∨ w.heap.size ≤ b :=
  run_append (sz := 1) (by' := 8) (u_ok rfl) (u_ok rfl) (fun kk h => by cases h) (s_ok rfl) (b_ok rfl) (z_ok rfl) rfl hrow hX hsub hone (by omega) (by omega)
theorem bs_int (a : Int) (w : World) : (Instr.buildSlice 29 1 [(0, I a)].toArray).run Tryd.prog w = .ok (.slice (some ⟨w.heap.size, 0, none⟩) 1 1) (w.alloc (cel [I a] 3)) := by kernel_rfl

/-- How many entries a loop over a map has still to see. -/
def left (es : Array MapEntry) (r : Nat) (w : World) : Nat :=
  match w.heap[r]? with
  | some (.mapIter _ _ seen _) => (es.toList.filter fun e => !seen.contains e.born).length
  | _ => 0
theorem left_at {es : Array MapEntry} {r b c c' : Nat} {seen : Array Nat} {w : World} (h : At w r (.mapIter (some b) c seen c')) : left es r w = (es.toList.filter fun e => !seen.contains e.born).length := by
  have h' : w.heap[r]? = some (.mapIter (some b) c seen c') := h
  simp [left, h']
theorem filter_lt {α : Type} {p q : α → Bool} : ∀ {l : List α}, (∀ x ∈ l, q x = true → p x = true) → (∃ x ∈ l, p x = true ∧ q x = false) → (l.filter q).length < (l.filter p).length
  | [], _, ⟨x, hx, _⟩ => by cases hx
  | y :: l, h, ⟨x, hx, hp, hq⟩ => by
    have hle : ∀ {l : List α}, (∀ x ∈ l, q x = true → p x = true) → (l.filter q).length ≤ (l.filter p).length := by
      intro l
      induction l with
      | nil => intro _; exact Nat.le_refl _
      | cons z l ih =>
        intro h
        have := ih (fun x hx => h x (List.mem_cons_of_mem _ hx))
        have hz := h z List.mem_cons_self
        rw [List.filter_cons, List.filter_cons]
        cases hq : q z with
        | true => rw [hz hq]; simp; exact this
        | false => cases p z <;> simp <;> omega
    have hl := hle (fun x hx => h x (List.mem_cons_of_mem _ hx))
    rw [List.filter_cons, List.filter_cons]
    rcases List.mem_cons.1 hx with e | e
    · subst e
      simp [hp, hq]
      omega
    · have ih := filter_lt (fun x hx => h x (List.mem_cons_of_mem _ hx)) ⟨x, e, hp, hq⟩
      have hy := h y List.mem_cons_self
      cases hqy : q y with
      | true => rw [hy hqy]; simp; exact ih
      | false => cases p y <;> simp <;> omega
theorem left_push {es : Array MapEntry} {seen : Array Nat} {e : MapEntry} (he : e ∈ es.toList) (hn : e.born ∉ seen.toList) :
    (es.toList.filter fun x => !(seen.push e.born).contains x.born).length < (es.toList.filter fun x => !seen.contains x.born).length := by
  refine filter_lt (fun x _ hx => ?_) ⟨e, he, ?_, ?_⟩
  · simp at hx ⊢
    exact hx.1
  · simpa using hn
  · simp

section
variable {P : Program} {w : World} {ρ : Operand → Value} {d : Option Nat} {t : Nat} {p : String} {af : Array Edge} {g : Option (Nat × Bool)} {b cl : Nat} {es : Array MapEntry} {x : Operand}
theorem r_entryN {r : Nat} {seen : Array Nat} {e : MapEntry} {n : Nd} (hx : ρ x = .pointer (some ⟨r, 0, none⟩)) (hr : At w r (.mapIter (some b) cl (seen.push e.born) cl)) (hb : At w b (.map es cl)) (he : e ∈ es.toList) (hn : (es.toList.map (·.born)).Nodup) (hk : e.key = I n.id) (hv : e.val = NdV n) :
    (execOp ρ ⟨d, .entry x, t, p, af, g⟩).run P w = .ok (.value (.tuple [I n.id, NdV n].toArray)) w := by
  rw [r_entry hx hr hb he hn, hk, hv]
end

theorem nodup_map_inj {α β : Type} {f : α → β} : ∀ {l : List α}, (l.map f).Nodup → ∀ a ∈ l, ∀ b ∈ l, f a = f b → a = b
  | [], _, a, ha, _, _, _ => by cases ha
  | x :: l, h, a, ha, b, hb, e => by
    simp only [List.map_cons, List.nodup_cons] at h
    rcases List.mem_cons.1 ha with h1 | h1 <;> rcases List.mem_cons.1 hb with h2 | h2
    · rw [h1, h2]
    · subst h1
      exact absurd (by rw [e]; exact List.mem_map_of_mem h2) h.1
    · subst h2
      exact absurd (by rw [← e]; exact List.mem_map_of_mem h1) h.1
    · exact nodup_map_inj h.2 a h1 b h2 e
theorem Ents.keys {es : Array MapEntry} {cl : Nat} {m : List Nd} (h : Ents es cl m) (hn : (m.map (·.id)).Nodup) : (es.toList.map (·.key)).Nodup := by
  have h1 : es.toList.map (·.key) = (m.map (·.id)).map I := by
    have := congrArg (List.map Prod.fst) h.ents
    simpa [entOf, ndEnt, List.map_map, Function.comp_def] using this
  rw [h1]
  refine List.Pairwise.map _ (fun a b hab e => hab ?_) hn
  cases e
  rfl
theorem Row.keep {w w' : World} {v : Value} {e sz n : Nat} {pre : List Value} {S : Nat → Prop} (h : Row w v e sz n pre) (f : Frm S w w') (hn : ∀ b, InV v b → ¬ S b) : Row w' v e sz n pre := by
  rcases h with h | ⟨b, cap, rest, rfl, hA, h1, h2, h3⟩
  · exact .inl h
  · exact .inr ⟨b, cap, rest, rfl, f.at (hn b ⟨_, _, _, rfl⟩) hA, h1, h2, h3⟩

set_option maxHeartbeats 1000000 in
theorem branch_ret {w : World} {t mb : Nat} {es : Array MapEntry} {cl : Nat} {m l : List Nd} (h : TreeAt w t mb es cl m) (hp : m.Perm l) (hw : Wf l) (top : Int) :
    Rets Tryd.prog 71 [Ptr t, I top] w fun v w' => ∃ (a : Option Addr) (c : Nat) (ids : List Int), v = .slice a ids.length c ∧ Row w' (.slice a ids.length c) 3 1 ids.length (ids.map I) ∧ (∀ b, InV (.slice a ids.length c) b → w.heap.size ≤ b) ∧ (∀ x ∈ l, x.id ∈ ids ↔ below l x.id top = true) ∧ Frm0 w w' ∧ ids.length ≤ 32 := by
  have htm := at_lt h.head
  have hmm := at_lt h.row
  have h1 := h.head
  have h2 := h.row
  have hE := h.ents
  have hes : es.toList.length ≤ 32 := by
    have := hE.size
    have h3 := hp.length_eq
    have h4 := hw.small
    rw [Array.length_toList]
    omega
  refine rets_of Tryd.func71 (by kernel_rfl) rfl Tryd.ntmps71 (Nat.le_of_ble_eq_true rfl) ?_
  refine runWTree50 ?_
  refine s_val (r_range (u_ok rfl) rfl h2) wnt_none ?_
  refine runWTree50 ?_
  refine lp (fun env w' => ∃ env0, ∃ (a : Option Addr) (c : Nat) (ids : List Int) (seen : Array Nat), env = setL env0 [(0, Ptr t), (1, I top), (5, .slice a ids.length c), (11, Ptr w.heap.size)] ∧ At w' w.heap.size (.mapIter (some mb) cl seen cl) ∧ Row w' (.slice a ids.length c) 3 1 ids.length (ids.map I) ∧ (∀ b, InV (.slice a ids.length c) b → w.heap.size < b) ∧ Frm0 w w' ∧
    (∀ e ∈ es.toList, ∀ x : Nd, e.key = I x.id → (x.id ∈ ids ↔ (e.born ∈ seen.toList ∧ below l x.id top = true))) ∧ ids.length + (es.toList.filter fun e => !seen.contains e.born).length ≤ es.toList.length) (fun _ w' => left es w.heap.size w') ?_ ?_
  · refine ⟨_, none, 0, [], #[], fixL ⟨rfl, rfl, rfl, rfl, trivial⟩, at_alloc_new _ _, .inl ⟨rfl, rfl, rfl⟩, ?_, Frm.of_alloc _ _, ?_, ?_⟩
    · rintro b ⟨_, _, _, hb⟩; cases hb
    · intro e _ x _
      simp
    · have := List.length_filter_le (fun e => !(#[] : Array Nat).contains e.born) es.toList
      simp only [List.length_nil]
      omega
  · rintro env w1 ⟨env0, a, c, ids, seen, rfl, hit, hrow, hown, hF, hch, hlen⟩
    have h2' := hF.at0 h2
    have hl1 := left_at (es := es) hit
    rcases next_run (P := Tryd.prog) (t := 0) hit h2' hE.low with ⟨hall, hn⟩ | ⟨e, he, hns, w2, hw2, hn⟩
    · refine runWTree50 ?_
      refine s_val (r_next rfl hn) wnt_none ?_
      refine runWTree50 ?_
      refine ret_s rfl rfl ⟨a, c, ids, rfl, hrow, fun b hb => Nat.le_of_lt (hown b hb), fun x hx => ?_, hF, by omega⟩
      obtain ⟨j, hj⟩ := List.getElem?_of_mem (hp.mem_iff.2 hx)
      obtain ⟨e, he, hk, _⟩ := hE.get hj
      have he' := List.mem_of_getElem? he
      rw [hch e he' x hk]
      exact ⟨fun h => h.2, fun h => ⟨hall e he', h⟩⟩
    · obtain ⟨x, hxm, hk, hv⟩ := hE.mem he
      rw [hk, hv] at hn
      have hxt : there l x.id = true := there_mem.2 ⟨x, hp.mem_iff.1 hxm, rfl⟩
      have hF12 : Frm0 w1 w2 := by rcases hw2 with rfl | rfl; exact Frm.refl _ _; exact Frm.of_drew _
      have hF13 : Frm (fun b => b = w.heap.size) w1 (setB w2 w.heap.size (.mapIter (some mb) cl (seen.push e.born) cl)) := (hF12.mono (T := fun b => b = w.heap.size) (fun _ h => h.elim)).setB (b := w.heap.size) (.inl rfl) _
      have hit3 := at_setB (.mapIter (some mb) cl (seen.push e.born) cl) (hF12.at0 hit)
      have hF3 : Frm0 w (setB w2 w.heap.size (.mapIter (some mb) cl (seen.push e.born) cl)) := hF.trans hF13 (fun b hb => .inr (by omega))
      have hrow3 := hrow.keep hF13 (fun b hb e => by have := hown b hb; omega)
      have hkeys := nodup_map_inj (hE.keys (perm_nodup hp hw.nodup))
      have hborn := nodup_map_inj hE.born
      have hpl := left_push he hns
      have step : ∀ (ids' : List Int), (∀ i, i ∈ ids' ↔ (i ∈ ids ∨ (i = x.id ∧ below l x.id top = true))) → ∀ e' ∈ es.toList, ∀ x' : Nd, e'.key = I x'.id → (x'.id ∈ ids' ↔ (e'.born ∈ (seen.push e.born).toList ∧ below l x'.id top = true)) := by
        intro ids' hi e' he' x' hk'
        rw [hi, hch e' he' x' hk']
        simp only [Array.toList_push, List.mem_append, List.mem_singleton]
        constructor
        · rintro (h1 | ⟨h1, h2⟩)
          · exact ⟨.inl h1.1, h1.2⟩
          · have : e' = e := hkeys e' he' e he (by rw [hk', hk, h1])
            exact ⟨.inr (by rw [this]), by rw [h1]; exact h2⟩
        · rintro ⟨h1 | h1, h2⟩
          · exact .inl ⟨h1, h2⟩
          · have : e' = e := hborn e' he' e he h1
            subst this
            rw [hk] at hk'
            injection hk' with _ h3
            exact .inr ⟨h3.symm, by rw [h3]; exact h2⟩
      generalize setB w2 w.heap.size (.mapIter (some mb) cl (seen.push e.born) cl) = w3 at *
      have h3 := h.frm0 hF3
      have hrow4 := h3.row
      have hl3 := left_at (es := es) hit3
      refine runWTree50 ?_
      refine s_val (r_next rfl hn) wnt_none ?_
      refine runWTree50 ?_
      refine s_val (r_entryN rfl hit3 hrow4 he hE.born hk hv) wnt_none ?_
      refine runWTree50 ?_
      refine s_callf (inBranch_ret h3 hp hw top x.id hxt) rfl wnt_none ?_
      rintro v w4 ⟨rfl, rfl⟩
      cases hb : below l x.id top
      · refine runWTree50 ?_
        refine ⟨_, rfl, ⟨_, a, c, ids, seen.push e.born, fixL ⟨rfl, rfl, rfl, rfl, trivial⟩, hit3, hrow3, hown, hF3, step ids (fun i => by simp [hb]), by omega⟩, by rw [hl1, hl3]; exact hpl⟩
      · refine runWTree50 ?_
        refine s_val (r_bs rfl (bs_int _ _)) wnt_none ?_
        have hFa : Frm0 w3 (w3.alloc (cel [I x.id] 3)) := Frm.of_alloc _ _
        obtain ⟨v2, w5, e2, r2, f2, n2⟩ := append_int (ty := 29) (cx := 1) (m := 1) (ox := 0) (hrow3.keep hFa (fun _ _ h => h)) (at_alloc_new w3 (cel [I x.id] 3)) (by simp) (by intro u hu; simp [sub] at hu; subst hu; rfl) (by omega)
        have f5 : Frm (InV (.slice a ids.length c)) w3 w5 := (hFa.mono (fun _ h => h.elim)).trans f2 (fun _ h => .inl h)
        have hF5 : Frm0 w w5 := hF3.trans f5 (fun b hb => .inr (Nat.le_of_lt (hown b hb)))
        have hit5 := f5.at (fun hb => by have := hown _ hb; omega) hit3
        refine s_val (r_app rfl rfl e2) wnt_none ?_
        rcases r2 with ⟨_, hz2, _⟩ | ⟨b2, cap2, rest2, rfl, hA2, hl2, hr2, hc2⟩
        · omega
        · refine runWTree50 ?_
          have hi := at_lt hit3
          have hl5 := left_at (es := es) hit5
          have hn2 : (ids ++ [x.id]).length = ids.length + 1 := by simp
          refine ⟨_, rfl, ⟨_, some ⟨b2, 0, none⟩, cap2, ids ++ [x.id], seen.push e.born, fixL ⟨rfl, rfl, by rw [hn2]; rfl, rfl, trivial⟩, hit5, .inr ⟨b2, cap2, rest2, rfl, ?_, ?_, ?_, ?_⟩, ?_, hF5, step _ (fun i => by simp [hb]), by rw [hn2]; omega⟩, by rw [hl1, hl5]; exact hpl⟩
          · rw [List.map_append]
            exact hA2
          · simp
          · rw [hn2]; exact hr2
          · rw [hn2]; exact hc2
          · rintro b ⟨_, _, _, hv⟩
            cases hv
            rcases n2 b2 ⟨_, _, _, rfl⟩ with h | h
            · exact hown _ h
            · simp at h
              omega
end Go.Proofs.YtkediklhiaaijaaDoor
