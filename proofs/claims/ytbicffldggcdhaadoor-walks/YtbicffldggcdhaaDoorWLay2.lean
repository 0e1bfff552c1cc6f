/-
  The program's tree: layOut, walked.
-/
import Derived.Test.YtbicffldggcdhaaDoorWLay
namespace Go.Proofs.YtbicffldggcdhaaDoor
open Go
theorem runWLay20 {G K : Prop} (k : K) (h : Wrap K → G := by intro h; (repeat (first | (with_reducible first | refine wpIn_seq ?_ | refine w_reg ?_ | refine s_nil ?_ | refine s_nilQ ?_ | refine wpIn_block ?_ | refine q_then ?_ | refine q_blk ?_ | refine q_then_ret ?_ | refine q_blk_ret ?_ | refine q_then_exit ?_ | refine q_blk_exit ?_ | refine wpIn_skip ?_ | refine wpIn_ret ?_ | refine wpIn_exit ?_ | refine y_nil ?_ | refine y_nilQ ?_ | refine x_late ?_) | ((with_reducible refine q_blk_other ?_ ?_); exact rfl) | ((with_reducible apply c_true); exact rfl; (with_reducible exact rfl)) | ((with_reducible apply c_false); exact rfl; (with_reducible exact rfl)) | ((first | with_reducible apply s_val | ((with_reducible apply y_val); exact rfl) | ((with_reducible apply x_q); exact rfl; intro wq hq)); (first | ((with_reducible apply r_assign_m); exact rfl) | ((with_reducible apply r_move_p); exact rfl) | ((with_reducible apply r_nilCheck); exact rfl) | ((with_reducible apply r_fld); exact fa_ok rfl; exact rfl) | ((with_reducible apply r_load); exact u_ok rfl; exact rfl; exact rfl; (first | exact Frm.at0 hq (by assumption) | exact Frm.at hq (by assumption) (by assumption) | (first | (with_reducible assumption) | assumption | exact at_alloc_new _ _ | (repeat (first | assumption | exact at_alloc_new _ _ | refine at_drew ?_ | refine at_alloc _ ?_)))); exact rfl) | ((with_reducible apply r_extract); exact rfl; exact rfl) | ((with_reducible apply r_allocA); exact z_ok rfl) | ((with_reducible apply r_alloc1); exact z_ok rfl; exact rfl) | ((with_reducible apply r_assign_i); exact rfl) | ((with_reducible apply r_move_i); exact rfl) | ((with_reducible apply r_neq_t); exact rfl; exact rfl; omega) | ((with_reducible apply r_neq_f); exact rfl; exact rfl; omega) | ((with_reducible apply r_neq); exact rfl; exact rfl) | ((with_reducible apply r_move_m); exact rfl) | ((with_reducible apply r_look); exact u_ok rfl; exact u_ok rfl; exact z_ok rfl; exact rfl; exact rfl; (first | exact Frm.at0 hq (by assumption) | exact Frm.at hq (by assumption) (by assumption) | (first | (with_reducible assumption) | assumption | exact at_alloc_new _ _ | (repeat (first | assumption | exact at_alloc_new _ _ | refine at_drew ?_ | refine at_alloc _ ?_)))); assumption) | ((with_reducible apply r_loadA); exact u_ok rfl; exact rfl; exact s_ok rfl; exact rfl; (first | exact Frm.at0 hq (by assumption) | exact Frm.at hq (by assumption) (by assumption) | (first | (with_reducible assumption) | assumption | exact at_alloc_new _ _ | (repeat (first | assumption | exact at_alloc_new _ _ | refine at_drew ?_ | refine at_alloc _ ?_)))); exact Nat.le_of_ble_eq_true rfl) | ((with_reducible apply r_assign_s); exact rfl) | ((with_reducible apply r_move_s); exact rfl)); (with_reducible exact wnt_none)))); exact h.out) : G := h ⟨k⟩

set_option maxHeartbeats 1000000 in
theorem layOut_ret {w : World} {t mb : Nat} {es : Array MapEntry} {cl : Nat} {m l : List Nd} (h : TreeAt w t mb es cl m) (hp : m.Perm l) (hw : Wf l) :
    Rets Tryd.prog 29 [Ptr t] w fun v w' => ∃ lb es' cl' M, v = .map (some lb) ∧ Lay w' lb w.heap.size es' cl' M (kids l) ∧ w.heap.size ≤ lb ∧ Frm0 w w' := by
  have h1 := h.head
  have h2 := h.row
  have hE := h.ents
  have hmn := perm_nodup hp hw.nodup
  have hes : es.toList.length ≤ 32 := by
    have := hE.size
    have h3 := hp.length_eq
    have h4 := hw.small
    rw [Array.length_toList]
    omega
  have h1' := at_alloc (.map #[] 0) h1
  have h2' := at_alloc (.map #[] 0) h2
  obtain ⟨N, hN⟩ : ∃ N, w.heap.size = N := ⟨_, rfl⟩
  refine rets_of Tryd.func29 (by kernel_rfl) rfl Tryd.ntmps29 (Nat.le_of_ble_eq_true rfl) ?_
  refine runWLay20 ?_
  refine s_val r_mkmap wnt_none ?_
  refine runWLay20 ?_
  refine s_val (r_range (u_ok rfl) rfl h2') wnt_none ?_
  rw [World.size_alloc, hN]
  refine runWLay20 ?_
  refine lp (fun env w' => ∃ env0, ∃ (seen : Array Nat) (sn : List Nd) (es' : Array MapEntry) (cl' : Nat) (M : List (Int × Value)), env = setL env0 [(0, Ptr t), (3, .map (some N)), (13, Ptr (N + 1))] ∧ At w' (N + 1) (.mapIter (some mb) cl seen cl) ∧ Lay w' N (N + 2) es' cl' M (chOf sn) ∧ Frm0 w w' ∧ N + 2 ≤ w'.heap.size ∧
    (sn.map (·.id)).Nodup ∧ (∀ e ∈ es.toList, ∀ x : Nd, e.key = I x.id → e.val = NdV x → (x ∈ sn ↔ e.born ∈ seen.toList)) ∧ (∀ x ∈ sn, x ∈ m) ∧ sn.length + (es.toList.filter fun e => !seen.contains e.born).length ≤ es.toList.length) (fun _ w' => left es (N + 1) w') ?_ ?_
  · refine ⟨_, #[], [], #[], 0, [], fixL ⟨rfl, rfl, rfl, trivial⟩, ?_, ⟨?_, gents_nil, fun p => .inl ⟨rfl, rfl, rfl⟩, ?_, ?_, ?_⟩, (Frm.of_alloc _ _).alloc _, ?_, by simp, ?_, ?_, ?_⟩
    · have := at_alloc_new (w.alloc (.map #[] 0)) (.mapIter (some mb) cl #[] cl)
      rwa [World.size_alloc, hN] at this
    · rw [← hN]
      exact at_alloc _ (at_alloc_new _ _)
    · rintro p b ⟨_, _, _, hb⟩; cases hb
    · rintro p q b _ ⟨_, _, _, hb⟩; cases hb
    · intro p v hv; cases hv
    · simp; omega
    · intro e _ x _ _
      simp
    · intro x hx; cases hx
    · have := List.length_filter_le (fun e => !(#[] : Array Nat).contains e.born) es.toList
      simp only [List.length_nil]
      omega
  · rintro env w1 ⟨env0, seen, sn, es', cl', M, rfl, hit, hL, hF, hsz, hsn, hch, hsub, hlen⟩
    have h2w := hF.at0 h2
    have hl1 := left_at (es := es) hit
    rcases next_run (P := Tryd.prog) (t := 0) hit h2w hE.low with ⟨hall, hn⟩ | ⟨e, he, hns, w2, hw2, hn⟩
    · -- all nodes are laid down: now each row is sorted
      have hmem : ∀ x, x ∈ sn ↔ x ∈ m := fun x => ⟨hsub x, fun hx => by
        obtain ⟨j, hj⟩ := List.getElem?_of_mem hx
        obtain ⟨e, he, hk, hv⟩ := hE.get hj
        have he' := List.mem_of_getElem? he
        exact (hch e he' x hk hv).2 (hall e he')⟩
      refine runWLay20 ?_
      refine s_val (r_next rfl hn) wnt_none ?_
      refine runWLay20 ?_
      refine s_val (r_range (u_ok rfl) rfl hL.row) wnt_none ?_
      obtain ⟨it, hitN⟩ : ∃ it, w1.heap.size = it := ⟨_, rfl⟩
      rw [hitN]
      refine runWLay20 ?_
      refine lp (fun env w' => ∃ env0, ∃ (seen2 : Array Nat) (K : Int → List Nd), env = setL env0 [(3, .map (some N)), (32, Ptr it)] ∧ At w' it (.mapIter (some N) cl' seen2 cl') ∧ Lay w' N (N + 2) es' cl' M K ∧ (∀ p, (K p).Perm (chOf sn p)) ∧ (∀ e ∈ es'.toList, ∀ k, e.key = I k → e.born ∈ seen2.toList → Asc (K k)) ∧ Frm0 w w') (fun _ w' => left es' it w') ?_ ?_
      · refine ⟨_, #[], chOf sn, fixL ⟨rfl, rfl, trivial⟩, ?_, hL.frm0 (Frm.of_alloc _ _), fun _ => List.Perm.refl _, fun e _ k _ hb => (by simp at hb), hF.alloc _⟩
        rw [← hitN]
        exact at_alloc_new _ _
      · rintro env w3 ⟨env0, seen2, K, rfl, hit2, hL2, hK, hS, hF2⟩
        have hl2 := left_at (es := es') hit2
        rcases next_run (P := Tryd.prog) (t := 0) hit2 hL2.row hL2.ents.low with ⟨hall2, hn2⟩ | ⟨e, he, hns, w4, hw4, hn2⟩
        · have hKk : K = kids l := funext fun p => by
            refine kids_unique hw ?_ ?_ ?_
            · cases hg : gget p M with
              | some v =>
                obtain ⟨e, he, hk⟩ := hL2.ents.of hg
                exact hS e he p hk (hall2 e he)
              | none =>
                have hr := hL2.val p
                have hnil : gor M p = nilS := by rw [gor, hg]; rfl
                rw [hnil] at hr
                rcases hr with ⟨_, h0, _⟩ | ⟨b, cap, rest, h0, _⟩
                · rw [List.length_eq_zero_iff.1 h0]; exact List.Pairwise.nil
                · cases h0
            · exact ((hK p).map _).nodup_iff.2 ((List.filter_sublist.map _).nodup hsn)
            · intro x
              rw [(hK p).mem_iff, chOf, List.mem_filter, hmem, hp.mem_iff, decide_eq_true_eq]
          refine runWLay20 ?_
          refine s_val (r_next rfl hn2) wnt_none ?_
          refine runWLay20 ?_
          refine ret_m rfl rfl ⟨N, es', cl', M, rfl, ?_, Nat.le_refl _, hF2⟩
          rw [← hKk]
          exact ⟨hL2.row, hL2.ents, hL2.val, fun p b hb => by have := hL2.low p b hb; omega, hL2.apart, hL2.has⟩
        · obtain ⟨k, v, hk, hv, hg⟩ := hL2.ents.mem he
          have hgor : gor M k = v := by rw [gor, hg]; rfl
          have hrow := hL2.val k
          rw [hgor] at hrow
          rcases hrow with ⟨_, h0, _⟩ | ⟨b, cap, rest, rfl, hA, _, hr, hc⟩
          · exact absurd (List.length_eq_zero_iff.1 h0) (hL2.has k _ hg)
          have hbV : InV (gor M k) b := ⟨_, _, _, hgor⟩
          have hbit : ¬ b = it := hL2.ne hit2 (fun l e => by simp [cel]) k b hbV
          have hF34 : Frm0 w3 w4 := by rcases hw4 with rfl | rfl; exact Frm.refl _ _; exact Frm.of_drew _
          have hF35 : Frm (fun b => b = it) w3 (setB w4 it (.mapIter (some N) cl' (seen2.push e.born) cl')) := (hF34.mono (T := fun b => b = it) (fun _ h => h.elim)).setB (b := it) (.inl rfl) _
          have hit5 := at_setB (.mapIter (some N) cl' (seen2.push e.born) cl') (hF34.at0 hit2)
          have hs1 := hF.size
          have hF5 : Frm0 w (setB w4 it (.mapIter (some N) cl' (seen2.push e.born) cl')) := hF2.trans hF35 (fun b hb => .inr (by omega))
          have hL5 := hL2.frm hF35 (by omega) (hL2.ne hit2 (fun l e => by simp [cel]))
          have hA5 := hF35.at hbit hA
          have hpl := left_push he hns
          have hkeys := nodup_map_inj hL2.ents.keysN
          have hborn := nodup_map_inj hL2.ents.born
          rw [hk, hv] at hn2
          generalize setB w4 it (.mapIter (some N) cl' (seen2.push e.born) cl') = w5 at *
          have hkl : (K k).length < 1000000 := by
            have h1 := (hK k).length_eq
            have h2 := List.length_filter_le (fun x : Nd => decide (x.id ≠ 0 ∧ x.par = k)) sn
            unfold chOf at h1
            omega
          refine runWLay20 ?_
          refine s_val (r_next rfl hn2) wnt_none ?_
          refine runWLay20 ?_
          refine s_val (r_entryG rfl hit5 hL5.row he hL2.ents.born hk hv) wnt_none ?_
          refine runWLay20 ?_
          refine s_callf (sort_ret (cap := cap) hA5 hkl) rfl wnt_none ?_
          rintro v w6 ⟨rfl, ys, hy, hasc, hA6, f6⟩
          have hit6 := f6.at (fun e => hbit e.symm) hit5
          have hl6 := left_at (es := es') hit6
          refine runWLay20 ?_
          refine ⟨_, rfl, ⟨_, seen2.push e.born, fun q => if q = k then ys else K q, fixL ⟨rfl, rfl, trivial⟩, hit6, hL5.sorted hgor hr hc hy hA6 f6, fun p => ?_, fun e' he' k' hk' hb' => ?_, hF5.trans f6 (fun c hc => .inr ?_)⟩, by rw [hl2, hl6]; exact hpl⟩
          · show (if p = k then ys else K p).Perm (chOf sn p)
            by_cases hpk : p = k
            · rw [if_pos hpk, hpk]; exact hy.trans (hK k)
            · rw [if_neg hpk]; exact hK p
          · show Asc (if k' = k then ys else K k')
            by_cases hpk : k' = k
            · rw [if_pos hpk]; exact hasc
            · rw [if_neg hpk]
              refine hS e' he' k' hk' ?_
              simp only [Array.toList_push, List.mem_append, List.mem_singleton] at hb'
              rcases hb' with hb' | hb'
              · exact hb'
              · have := hborn e' he' e he hb'
                subst this
                rw [hk] at hk'
                injection hk' with _ h3
                exact absurd h3.symm hpk
          · have := hL2.low k b hbV
            omega
    · obtain ⟨x, hxm, hk, hv⟩ := hE.mem he
      rw [hk, hv] at hn
      have hF12 : Frm0 w1 w2 := by rcases hw2 with rfl | rfl; exact Frm.refl _ _; exact Frm.of_drew _
      have hF13 : Frm (fun b => b = N + 1) w1 (setB w2 (N + 1) (.mapIter (some mb) cl (seen.push e.born) cl)) := (hF12.mono (T := fun b => b = N + 1) (fun _ h => h.elim)).setB (b := N + 1) (.inl rfl) _
      have hit3 := at_setB (.mapIter (some mb) cl (seen.push e.born) cl) (hF12.at0 hit)
      have hF3 : Frm0 w (setB w2 (N + 1) (.mapIter (some mb) cl (seen.push e.born) cl)) := hF.trans hF13 (fun b hb => .inr (by omega))
      have hL3 := hL.frm hF13 (by omega) (hL.ne hit (fun l e => by simp [cel]))
      have hkeys := nodup_map_inj (hE.keys hmn)
      have hborn := nodup_map_inj hE.born
      have hpl := left_push he hns
      have hxsn : x ∉ sn := fun hx => hns ((hch e he x hk hv).1 hx)
      have hsn' : ((sn ++ [x]).map (·.id)).Nodup := by
        rw [List.map_append, List.nodup_append]
        refine ⟨hsn, by simp, ?_⟩
        intro a ha c hc hac
        simp at hc
        subst hc
        obtain ⟨y, hy, hye⟩ := List.mem_map.1 ha
        have hyx : y = x := by
          have h3 := fnd_mem hmn (hsub y hy)
          have h4 := fnd_mem hmn hxm
          rw [hye, hac, h4] at h3
          cases h3
          rfl
        exact hxsn (hyx ▸ hy)
      have hch' : ∀ e' ∈ es.toList, ∀ x' : Nd, e'.key = I x'.id → e'.val = NdV x' → (x' ∈ sn ++ [x] ↔ e'.born ∈ (seen.push e.born).toList) := by
        intro e' he' x' hk' hv'
        rw [List.mem_append, hch e' he' x' hk' hv']
        simp only [Array.toList_push, List.mem_append, List.mem_singleton]
        constructor
        · rintro (h1 | h1)
          · exact .inl h1
          · have : e' = e := hkeys e' he' e he (by rw [hk', hk, h1])
            exact .inr (by rw [this])
        · rintro (h1 | h1)
          · exact .inl h1
          · have : e' = e := hborn e' he' e he h1
            subst this
            rw [hv] at hv'
            exact .inr (NdV_inj hv').symm
      have hsub' : ∀ y ∈ sn ++ [x], y ∈ m := by
        intro y hy
        rcases List.mem_append.1 hy with h1 | h1
        · exact hsub y h1
        · simp at h1
          rw [h1]; exact hxm
      have hlen' : (sn ++ [x]).length + (es.toList.filter fun e' => !(seen.push e.born).contains e'.born).length ≤ es.toList.length := by
        rw [List.length_append]
        simp only [List.length_cons, List.length_nil]
        omega
      have hs3 := hF13.size
      generalize setB w2 (N + 1) (.mapIter (some mb) cl (seen.push e.born) cl) = w3 at *
      have h2w3 := hF3.at0 h2
      have hbox := at_alloc_new w3 (cel x.vals 40)
      have hF34 : Frm0 w3 (w3.alloc (cel x.vals 40)) := Frm.of_alloc _ _
      have hL4 := hL3.frm0 hF34
      have hF4 : Frm0 w (w3.alloc (cel x.vals 40)) := hF3.trans0 hF34
      have hit4 := hF34.at0 hit3
      have hnb : ¬ InV (gor M x.par) w3.heap.size := fun hb => by
        obtain ⟨l, hA⟩ := (hL3.val x.par).isCells hb
        have := at_lt hA
        omega
      have hnl : ¬ InV (gor M x.par) N := fun hb => by
        have := hL3.low x.par N hb
        omega
      have hnit : ¬ InV (gor M x.par) (N + 1) := fun hb => by
        have := hL3.low x.par (N + 1) hb
        omega
      have hl4 := left_at (es := es) hit4
      refine runWLay20 ?_
      refine s_val (r_next rfl hn) wnt_none ?_
      refine runWLay20 ?_
      refine s_val (r_entryN rfl hit3 h2w3 he hE.born hk hv) wnt_none ?_
      refine runWLay20 ?_
      refine s_skip (r_storeN (nx := x) (ny := ⟨0, 0, 0, 0, 0, 0, 0⟩) (s_ok rfl) rfl rfl (at_alloc_new _ _)) wnt_none ?_
      rw [setB_alloc]
      have hs4 := hF34.size
      generalize hB : w3.heap.size = B at *
      generalize w3.alloc (cel x.vals 40) = w4 at *
      have hlr := hL4.row
      by_cases h0 : x.id = 0
      · refine runWLay20 ?_
        refine ⟨_, rfl, ⟨_, seen.push e.born, sn ++ [x], es', cl', M, fixL ⟨rfl, rfl, rfl, trivial⟩, hit4, by rw [chOf_root h0]; exact hL4, hF4, by omega, hsn', hch', hsub', hlen'⟩, by rw [hl1, hl4]; exact hpl⟩
      · refine runWLay20 ?_
        refine w_drawn [(0, false), (1, false), (2, false), (3, false), (4, false), (5, false), (6, false), (7, false), (8, true), (9, true)] [10] (fun wq => Frm (InV (gor M x.par)) w4 wq) mixed (by kernel_rfl) ?_ ?_
        · exact Frm.of_drew _
        · refine runWLay20 ?_
          refine x_q rfl (fun wq hq => r_glook (id := x.par) (u_ok rfl) (u_ok rfl) (z_ok rfl) rfl rfl (hq.at hnl hlr) hL4.ents) wnt_none ?_
          refine runWLay20 ?_
          refine x_val rfl (r_bs rfl (bs_node x _)) wnt_none ((Frm.of_drew w4).alloc _) ?_
          have hF45 : Frm0 w4 (w4.drew.alloc (cel x.vals 40)) := (Frm.of_drew w4).alloc _
          have hL5 := hL4.frm0 hF45
          have hkl : (chOf sn x.par).length ≤ sn.length := List.length_filter_le _ _
          obtain ⟨v2, w6, e2, r2, f2, n2⟩ := append_node (ty := 41) (cx := 1) (m := 1) (ox := 0) (hL5.val x.par) (at_alloc_new w4.drew (cel x.vals 40)) (by simp [Nd.vals]) (vals_one x) (by omega)
          have f46 : Frm (InV (gor M x.par)) w4 w6 := (hF45.mono (fun _ h => h.elim)).trans f2 (fun _ h => .inl h)
          obtain ⟨es2, cl2, hu, hE2⟩ := gupd_run (P := Tryd.prog) (w := w6) (ty := 69) (id := x.par) (v := v2) (u_ok rfl) (u_ok rfl) (f46.at hnl hlr) hL4.ents
          refine x_val rfl (r_app rfl rfl e2) wnt_none f46 ?_
          refine runWLay20 ?_
          refine y_skip rfl (r_upd rfl rfl rfl hu) wnt_none ?_
          refine runWLay20 ?_
          have hs5 := hF45.size
          have hLp := hL5.put (x := x) r2 f2 n2 (by omega) (by omega) hE2
          rw [chOf_put h0] at hLp
          have hit6 := at_setB_ne (.map es2 cl2) (show N ≠ N + 1 by omega) (f46.at hnit hit4)
          have hl6 := left_at (es := es) hit6
          have hF6 : Frm0 w (setB w6 N (.map es2 cl2)) := (hF4.trans f46 (fun b hb => .inr (by have := hL4.low x.par b hb; omega))).setB (b := N) (.inr (by omega)) _
          refine ⟨_, rfl, ⟨_, seen.push e.born, sn ++ [x], es2, cl2, _, fixL ⟨rfl, rfl, rfl, trivial⟩, hit6, hLp, hF6, ?_, hsn', hch', hsub', hlen'⟩, by rw [hl1, hl6]; exact hpl⟩
          have := f46.size
          rw [size_setB]
          omega
end Go.Proofs.YtbicffldggcdhaaDoor
