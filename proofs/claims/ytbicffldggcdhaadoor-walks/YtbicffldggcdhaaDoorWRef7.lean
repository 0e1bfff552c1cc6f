/-
  The document's tree: children, walked.
-/
import Derived.Test.YtbicffldggcdhaaDoorLSeg
namespace Go.Proofs.YtbicffldggcdhaaDoor
open Go
theorem runWRef70 {G K : Prop} (k : K) (h : Wrap K → G := by intro h; (repeat (first | (with_reducible first | refine wpIn_seq ?_ | refine w_reg ?_ | refine s_nil ?_ | refine s_nilQ ?_ | refine wpIn_block ?_ | refine q_then ?_ | refine q_blk ?_ | refine q_then_ret ?_ | refine q_blk_ret ?_ | refine q_then_exit ?_ | refine q_blk_exit ?_ | refine wpIn_skip ?_ | refine wpIn_ret ?_ | refine wpIn_exit ?_ | refine y_nil ?_ | refine y_nilQ ?_ | refine x_late ?_) | ((with_reducible refine q_blk_other ?_ ?_); exact rfl) | ((with_reducible apply c_true); exact rfl; (with_reducible exact rfl)) | ((with_reducible apply c_false); exact rfl; (with_reducible exact rfl)) | ((with_reducible apply s_no); (first | ((with_reducible apply wnt_nt); exact rfl; exact rfl; exact rfl; exact rfl; (with_reducible exact rfl)) | ((with_reducible apply wnt_nf); exact rfl; exact rfl; exact rfl; exact rfl; (with_reducible exact rfl)))) | ((with_reducible apply x_qno); exact rfl; (first | ((with_reducible apply wnt_nt); exact rfl; exact rfl; exact rfl; exact rfl; (with_reducible exact rfl)) | ((with_reducible apply wnt_nf); exact rfl; exact rfl; exact rfl; exact rfl; (with_reducible exact rfl)))) | ((first | with_reducible apply s_val | ((with_reducible apply y_val); exact rfl) | ((with_reducible apply x_q); exact rfl; intro wq hq)); (first | ((with_reducible apply r_assign_s); exact rfl) | ((with_reducible apply r_assign_i); exact rfl) | ((with_reducible apply r_move_i); exact rfl) | ((with_reducible apply r_move_p); exact rfl) | ((with_reducible apply r_nilCheck); exact rfl) | ((with_reducible apply r_fld); exact fa_ok rfl; exact rfl) | ((with_reducible apply r_load); exact u_ok rfl; exact rfl; exact rfl; (first | exact Frm.at0 hq (by assumption) | exact Frm.at hq (by assumption) (by assumption) | (first | (with_reducible assumption) | assumption | exact at_alloc_new _ _ | (repeat (first | assumption | exact at_alloc_new _ _ | refine at_drew ?_ | refine at_alloc _ ?_)))); exact rfl) | ((with_reducible apply r_len); exact u_ok rfl; exact rfl) | ((with_reducible apply r_lss_t); exact rfl; exact rfl; omega) | ((with_reducible apply r_lss_f); exact rfl; exact rfl; omega) | ((with_reducible apply r_lss); exact rfl; exact rfl) | ((with_reducible apply r_index); exact u_ok rfl; exact s_ok rfl; exact rfl; exact rfl; omega; omega) | ((with_reducible apply r_indexarr); exact u_ok rfl; exact s_ok rfl; exact rfl; exact rfl; omega; omega) | ((with_reducible apply r_loadA); exact u_ok rfl; exact rfl; exact s_ok rfl; exact rfl; (first | exact Frm.at0 hq (by assumption) | exact Frm.at hq (by assumption) (by assumption) | (first | (with_reducible assumption) | assumption | exact at_alloc_new _ _ | (repeat (first | assumption | exact at_alloc_new _ _ | refine at_drew ?_ | refine at_alloc _ ?_)))); exact Nat.le_of_ble_eq_true rfl) | ((with_reducible apply r_allocA); exact z_ok rfl) | ((with_reducible apply r_alloc1); exact z_ok rfl; exact rfl) | ((with_reducible apply r_neq_t); exact rfl; exact rfl; omega) | ((with_reducible apply r_neq_f); exact rfl; exact rfl; omega) | ((with_reducible apply r_neq); exact rfl; exact rfl) | ((with_reducible apply r_move_s); exact rfl) | ((with_reducible apply r_move_b); exact rfl) | ((with_reducible apply r_eql_t); exact rfl; exact rfl; omega) | ((with_reducible apply r_eql_f); exact rfl; exact rfl; omega) | ((with_reducible apply r_eql); exact rfl; exact rfl) | ((with_reducible apply r_pick_t); exact rfl; (with_reducible exact rfl); exact rfl) | ((with_reducible apply r_pick_f); exact rfl; (with_reducible exact rfl); exact rfl) | ((with_reducible apply r_add); exact rfl; exact rfl; omega; omega)); (first | (with_reducible exact wnt_none) | ((with_reducible apply wnt_y); exact rfl; exact rfl; exact rfl; exact rfl; (with_reducible exact rfl)))))); exact h.out) : G := h ⟨k⟩

def part (l : List Nd) (p : Int) (i : Nat) : List Nd := ((l.tail.take i).filter fun x => decide (x.par = p)).foldl (fun o x => ins x o) []
theorem part_all {l : List Nd} {p : Int} {i : Nat} (h : l.tail.length ≤ i) : part l p i = kids l p := by
  rw [part, kids, List.take_of_length_le h]
theorem part_step {l : List Nd} {p : Int} {i : Nat} {y : Nd} (h : l[i + 1]? = some y) : part l p (i + 1) = if y.par = p then ins y (part l p i) else part l p i := by
  have hy : l.tail[i]? = some y := by rw [List.getElem?_tail]; exact h
  unfold part
  rw [List.take_add_one, hy, List.filter_append, List.foldl_append]
  by_cases hp : y.par = p
  · simp [hp]
  · simp [hp]
theorem part_len {l : List Nd} {p : Int} {i : Nat} : (part l p i).length ≤ l.length := by
  have h1 := (fold_ins ((l.tail.take i).filter fun x => decide (x.par = p)) [] List.Pairwise.nil).2.length_eq
  have h2 := List.length_filter_le (fun x : Nd => decide (x.par = p)) (l.tail.take i)
  rw [List.length_append, List.length_nil] at h1
  unfold part
  have h4 : (l.tail.take i).length ≤ l.tail.length := List.length_take_le' _ _
  rw [List.length_tail] at h4
  omega
theorem append_nd {w : World} {v s : Value} {A C : List Nd} {ty : Nat} (hrow : Row w v 40 7 A.length (flat A)) (hseg : Seg w s 7 C.length (flat C)) (hcap : A.length + C.length < 2000000) :
    ∃ v' w', (Builtin.append_ #[41, 41] ty #[v, s]).run Tryd.prog w = .ok v' w' ∧ Row w' v' 40 7 (A ++ C).length (flat (A ++ C)) ∧ Frm (InV v) w w' ∧ ∀ b, InV v' b → InV v b ∨ w.heap.size ≤ b := by
  obtain ⟨v', w', h1, h2, h3, h4⟩ := append_seg (P := Tryd.prog) (sz := 7) (by' := 56) (ty := ty) (sT := 41) (u_ok rfl) (u_ok rfl) (fun kk h => by cases h) (s_ok rfl) (b_ok rfl) (z_ok rfl) rfl hrow hseg (flat_one C) (by omega) (by omega)
  exact ⟨v', w', h1, by rw [flat_append, List.length_append]; exact h2, h3, h4⟩
theorem Row.isSl {w : World} {v : Value} {e sz n : Nat} {pre : List Value} (h : Row w v e sz n pre) : ∃ a c, v = .slice a n c := by
  rcases h with ⟨rfl, rfl, _⟩ | ⟨b, cap, rest, rfl, _⟩
  · exact ⟨_, _, rfl⟩
  · exact ⟨_, _, rfl⟩
theorem wnt_nu {n : Nat} {env : Env} {ops : Array Oper} {j d : Nat} {b : Bool} {oj : Oper} (hj : ops.toList[j]? = some oj) (hd : oj.dst = some d) (hn : Nat.blt d n = true) (he : env d = undef) : Wnt n env ops (some (j, b)) = false := by
  simp only [Wnt, hj, hd, hn, he]
  rfl
def tst (o : List Nd) (y : Nd) (j : Nat) : Bool := match o[j]? with | some z => ltN z y | none => false

set_option maxHeartbeats 2000000 in
theorem children_ret {w : World} {r b cap : Nat} {rest : List Value} {l : List Nd} (h : RefT w r b cap rest l) (hw : Wf l) (p : Int) :
    Rets Tryd.prog 18 [Ptr r, I p] w fun v w' => Row w' v 40 7 (kids l p).length (flat (kids l p)) ∧ (∀ b, InV v b → w.heap.size ≤ b) ∧ Frm0 w w' := by
  obtain ⟨hh, hrow, hroom, hap⟩ := h
  have hsm := hw.small
  have hne : 1 ≤ l.length := by obtain ⟨x, q, e, _⟩ := hw.root; rw [e]; simp
  refine rets_of Tryd.func18 (by kernel_rfl) rfl Tryd.ntmps18 (Nat.le_of_ble_eq_true rfl) ?_
  refine runWRef70 ?_
  refine lp (fun env w' => ∃ env0, ∃ (a : Option Addr) (c i : Nat), env = setL env0 [(0, Ptr r), (1, I p), (5, .slice a (part l p i).length c), (6, I ((i : Int) + 1))] ∧ i + 1 ≤ l.length ∧ Row w' (.slice a (part l p i).length c) 40 7 (part l p i).length (flat (part l p i)) ∧ (∀ b, InV (.slice a (part l p i).length c) b → w.heap.size ≤ b) ∧ Frm0 w w') (fun env _ => l.length - cnt (env 6)) ?_ ?_
  · refine ⟨_, none, 0, 0, fixL ⟨rfl, rfl, rfl, rfl, trivial⟩, hne, .inl ⟨rfl, rfl, rfl⟩, ?_, Frm.refl _ _⟩
    rintro b ⟨_, _, _, hb⟩; cases hb
  · rintro env w1 ⟨env0, a, c, i, rfl, hi, hR, hown, hF⟩
    have hh1 := hF.at0 hh
    have hrow1 := hF.at0 hrow
    have hpl := part_len (l := l) (p := p) (i := i)
    by_cases hlt : i + 1 < l.length
    · obtain ⟨y, hy⟩ : ∃ y, l[i + 1]? = some y := ⟨_, List.getElem?_eq_getElem hlt⟩
      have hsub : sub (flat l ++ rest) (0 + ((i : Int) + 1).toNat * 7) 7 = y.vals := by
        rw [Nat.zero_add, show ((i : Int) + 1).toNat = i + 1 by omega]
        exact flat_sub _ _ y hy rest
      have hlen : 0 + ((i : Int) + 1).toNat * 7 + 7 ≤ (flat l ++ rest).length := by
        rw [List.length_append, flat_length]
        omega
      have hF2 : Frm0 w1 (w1.alloc (cel y.vals 40)) := Frm.of_alloc _ _
      have hbox := at_alloc_new w1 (cel y.vals 40)
      have hR2 := hR.frm hF2 (fun _ _ h => h)
      have hF02 := hF.trans0 hF2
      have hps := part_step (p := p) hy
      refine runWRef70 ?_
      refine s_val (r_loadV (u_ok rfl) rfl (s_ok rfl) rfl hrow1 hlen hsub) wnt_none ?_
      refine runWRef70 ?_
      refine s_skip (r_storeN (nx := y) (ny := ⟨0, 0, 0, 0, 0, 0, 0⟩) (s_ok rfl) rfl rfl (at_alloc_new _ _)) wnt_none ?_
      rw [setB_alloc]
      have hs1 := hF.size
      generalize hbx : w1.heap.size = bx at *
      generalize w1.alloc (cel y.vals 40) = w2 at *
      by_cases hpar : y.par = p
      · rw [if_pos hpar] at hps
        refine runWRef70 ?_
        obtain ⟨o, ho⟩ : ∃ o, part l p i = o := ⟨_, rfl⟩
        rw [ho] at hps hR hR2 hown hpl ⊢
        refine lp (fun env w' => ∃ env0, ∃ (j : Nat), env = setL env0 [(0, Ptr r), (1, I p), (5, .slice a o.length c), (6, I ((i : Int) + 1)), (7, Ptr bx), (8, I j)] ∧ j ≤ o.length ∧ (∀ z ∈ o.take j, ltN z y = true) ∧ Frm0 w2 w') (fun env _ => o.length - cnt (env 8)) ?_ ?_
        · exact ⟨_, 0, fixL ⟨rfl, rfl, rfl, rfl, rfl, rfl, trivial⟩, Nat.zero_le _, by simp, Frm.refl _ _⟩
        · rintro env w3 ⟨env1, j, rfl, hj, htk, hF3⟩
          have hbox3 := hF3.at0 hbox
          have hR3 := hR2.frm hF3 (fun _ _ h => h)
          refine wpIn_seq ?_
          refine wpIn_seq ?_
          refine wpIn_mono (Q := fun e act w' => e = .normal ∧ ∃ env', act = rep 81 [] env' ∧ AllL env' [(0, Ptr r), (1, I p), (5, .slice a o.length c), (6, I ((i : Int) + 1)), (7, Ptr bx), (8, I j), (63, B (tst o y j))] ∧ w' = w3.drew) ?_ ?_
          · by_cases hjl : j < o.length
            · obtain ⟨z, hz⟩ : ∃ z, o[j]? = some z := ⟨_, List.getElem?_eq_getElem hjl⟩
              rcases hR3 with ⟨_, h0, _⟩ | ⟨ob, ocap, orest, hv, hA, hol, hor, hoc⟩
              · omega
              injection hv with h7 h8 h9
              subst h7 h9
              have hzk : (flat o ++ orest)[0 + (j : Int).toNat * 7 + 2]? = some (I z.key) := by
                rw [Nat.zero_add, show (j : Int).toNat = j by omega]
                exact flat_get o j z hz orest 2 (by omega)
              have hzi : (flat o ++ orest)[0 + (j : Int).toNat * 7 + 0]? = some (I z.id) := by
                rw [Nat.zero_add, show (j : Int).toNat = j by omega]
                exact flat_get o j z hz orest 0 (by omega)
              have htst : tst o y j = ltN z y := by rw [tst, hz]
              rw [htst]
              refine w_drawn ((0, false) :: (1, false) :: (2, false) :: (3, false) :: (4, false) :: (5, false) :: (6, false) :: (7, false) :: (8, false) :: (9, false) :: (10, false) :: (11, false) :: (12, false) :: (13, false) :: (14, false) :: (15, false) :: (16, false) :: (17, false) :: (18, false) :: (19, false) :: (20, false) :: (21, false) :: (22, false) :: (23, false) :: (24, false) :: (25, false) :: (26, false) :: (27, false) :: (28, false) :: (29, false) :: (30, false) :: (31, false) :: (32, false) :: (33, false) :: []) [] (fun wq => Frm0 w3 wq) mixed (by kernel_rfl) ?_ ?_
              · exact Frm.of_drew _
              · by_cases h1 : z.key < y.key
                · have hlt' : ltN z y = true := by simp [ltN, h1]
                  rw [hlt']
                  refine runWRef70 ?_
                  refine x_q rfl (fun wq hq => r_load (u_ok rfl) rfl rfl (hq.at0 hA) hzk) (by (first | (with_reducible exact wnt_none) | ((with_reducible apply wnt_y); exact rfl; exact rfl; exact rfl; exact rfl; (with_reducible exact rfl)))) ?_
                  refine runWRef70 ?_
                  repeat (refine x_qno rfl (wnt_nu rfl rfl rfl rfl) ?_)
                  refine runWRef70 ?_
                  exact ⟨rfl, _, rfl, ⟨rfl, rfl, rfl, rfl, rfl, rfl, rfl, trivial⟩, rfl⟩
                · by_cases h2 : z.key = y.key
                  · by_cases h3 : z.id < y.id
                    · have hlt' : ltN z y = true := by simp [ltN, h2, h3]
                      rw [hlt']
                      refine runWRef70 ?_
                      refine x_q rfl (fun wq hq => r_load (u_ok rfl) rfl rfl (hq.at0 hA) hzk) (by (first | (with_reducible exact wnt_none) | ((with_reducible apply wnt_y); exact rfl; exact rfl; exact rfl; exact rfl; (with_reducible exact rfl)))) ?_
                      refine runWRef70 ?_
                      refine x_q rfl (fun wq hq => r_load (u_ok rfl) rfl rfl (hq.at0 hA) hzk) (by (first | (with_reducible exact wnt_none) | ((with_reducible apply wnt_y); exact rfl; exact rfl; exact rfl; exact rfl; (with_reducible exact rfl)))) ?_
                      refine runWRef70 ?_
                      refine x_q rfl (fun wq hq => r_load (u_ok rfl) rfl rfl (hq.at0 hA) hzi) (by (first | (with_reducible exact wnt_none) | ((with_reducible apply wnt_y); exact rfl; exact rfl; exact rfl; exact rfl; (with_reducible exact rfl)))) ?_
                      refine runWRef70 ?_
                      exact ⟨rfl, _, rfl, ⟨rfl, rfl, rfl, rfl, rfl, rfl, rfl, trivial⟩, rfl⟩
                    · have hlt' : ltN z y = false := by simp [ltN]; omega
                      rw [hlt']
                      refine runWRef70 ?_
                      refine x_q rfl (fun wq hq => r_load (u_ok rfl) rfl rfl (hq.at0 hA) hzk) (by (first | (with_reducible exact wnt_none) | ((with_reducible apply wnt_y); exact rfl; exact rfl; exact rfl; exact rfl; (with_reducible exact rfl)))) ?_
                      refine runWRef70 ?_
                      refine x_q rfl (fun wq hq => r_load (u_ok rfl) rfl rfl (hq.at0 hA) hzk) (by (first | (with_reducible exact wnt_none) | ((with_reducible apply wnt_y); exact rfl; exact rfl; exact rfl; exact rfl; (with_reducible exact rfl)))) ?_
                      refine runWRef70 ?_
                      refine x_q rfl (fun wq hq => r_load (u_ok rfl) rfl rfl (hq.at0 hA) hzi) (by (first | (with_reducible exact wnt_none) | ((with_reducible apply wnt_y); exact rfl; exact rfl; exact rfl; exact rfl; (with_reducible exact rfl)))) ?_
                      refine runWRef70 ?_
                      exact ⟨rfl, _, rfl, ⟨rfl, rfl, rfl, rfl, rfl, rfl, rfl, trivial⟩, rfl⟩
                  · have hlt' : ltN z y = false := by simp [ltN]; omega
                    rw [hlt']
                    refine runWRef70 ?_
                    refine x_q rfl (fun wq hq => r_load (u_ok rfl) rfl rfl (hq.at0 hA) hzk) (by (first | (with_reducible exact wnt_none) | ((with_reducible apply wnt_y); exact rfl; exact rfl; exact rfl; exact rfl; (with_reducible exact rfl)))) ?_
                    refine runWRef70 ?_
                    refine x_q rfl (fun wq hq => r_load (u_ok rfl) rfl rfl (hq.at0 hA) hzk) (by (first | (with_reducible exact wnt_none) | ((with_reducible apply wnt_y); exact rfl; exact rfl; exact rfl; exact rfl; (with_reducible exact rfl)))) ?_
                    refine runWRef70 ?_
                    exact ⟨rfl, _, rfl, ⟨rfl, rfl, rfl, rfl, rfl, rfl, rfl, trivial⟩, rfl⟩
            · have htst : tst o y j = false := by rw [tst, List.getElem?_eq_none (by omega)]
              rw [htst]
              refine w_drawn ((0, false) :: (1, false) :: (2, false) :: (3, false) :: (4, false) :: (5, false) :: (6, false) :: (7, false) :: (8, false) :: (9, false) :: (10, false) :: (11, false) :: (12, false) :: (13, false) :: (14, false) :: (15, false) :: (16, false) :: (17, false) :: (18, false) :: (19, false) :: (20, false) :: (21, false) :: (22, false) :: (23, false) :: (24, false) :: (25, false) :: (26, false) :: (27, false) :: (28, false) :: (29, false) :: (30, false) :: (31, false) :: (32, false) :: (33, false) :: []) [] (fun wq => Frm0 w3 wq) mixed (by kernel_rfl) ?_ ?_
              · exact Frm.of_drew _
              · refine runWRef70 ?_
                repeat (refine x_qno rfl (wnt_nu rfl rfl rfl rfl) ?_)
                refine runWRef70 ?_
                repeat (refine x_qno rfl (wnt_nu rfl rfl rfl rfl) ?_)
                refine runWRef70 ?_
                exact ⟨rfl, _, rfl, ⟨rfl, rfl, rfl, rfl, rfl, rfl, rfl, trivial⟩, rfl⟩
          · rintro e act w' ⟨rfl, env', rfl, hall, rfl⟩
            rw [fixL hall]
            refine q_then ?_
            cases htst : tst o y j
            · have hwh := while_at (x := y) htk (fun z hz => by rw [tst, hz] at htst; exact htst)
              obtain ⟨s1, hs1, hg1, hi1⟩ := seg_to (hR3.frm (Frm.of_drew w3) (fun _ _ h => h)) hj
              refine runWRef70 ?_
              refine s_val (r_slTo rfl rfl hs1) wnt_none ?_
              have hlt1 : (o.take j).length ≤ o.length := List.length_take_le' _ _
              obtain ⟨v4, w4, e4, r4, f4, n4⟩ := append_nd (ty := 41) (A := []) (.inl ⟨rfl, rfl, rfl⟩ : Row w3.drew (.slice none 0 0) _ 7 0 []) hg1 (by simp; omega)
              refine s_val (r_app rfl rfl e4) wnt_none ?_
              rw [List.nil_append] at r4
              obtain ⟨a4, c4, rfl⟩ := r4.isSl
              have f4' : Frm0 w3.drew w4 := f4.mono fun b hb => by obtain ⟨_, _, _, hv⟩ := hb; cases hv
              have hown4 : ∀ b, InV (.slice a4 (o.take j).length c4) b → w3.heap.size ≤ b := fun b hb => by
                rcases n4 b hb with ⟨_, _, _, hv⟩ | h
                · cases hv
                · exact h
              have hbox4 := f4'.at0 (at_drew hbox3)
              refine runWRef70 ?_
              refine s_val (r_bs rfl (bs_node y _)) wnt_none ?_
              obtain ⟨v5, w5, e5, r5, f5, n5⟩ := append_nd (ty := 41) (C := [y]) (r4.frm (Frm.of_alloc (S := fun _ => False) w4 (cel y.vals 40)) (fun _ _ h => h)) (.inr ⟨_, 0, 1, _, _, _, rfl, at_alloc_new w4 (cel y.vals 40), by simp [Nd.vals], by simp [flat, Nd.vals, sub]⟩) (by simp; omega)
              refine s_val (r_app rfl rfl e5) wnt_none ?_
              obtain ⟨a5, c5, rfl⟩ := r5.isSl
              have hs3 := hF3.size
              have hs2 := hF2.size
              have hs4 := f4'.size
              have hsd : w3.drew.heap.size = w3.heap.size := rfl
              have hw3 : w.heap.size ≤ w3.heap.size := by omega
              have F4a : Frm0 w3 (w4.alloc (cel y.vals 40)) := (f4'.drew0).alloc _
              have hown5 : ∀ b, InV (.slice a5 (o.take j ++ [y]).length c5) b → w3.heap.size ≤ b := fun b hb => by
                rcases n5 b hb with h | h
                · exact hown4 b h
                · simp at h; omega
              have F35 : Frm (fun b => w3.heap.size ≤ b) w3 w5 := (F4a.mono (fun _ h => h.elim)).trans f5 (fun b hb => .inl (hown4 b hb))
              have hR5 : Row w5 (.slice a o.length c) 40 7 o.length (flat o) := hR3.frm F35 (fun b hb hge => by
                rcases hR3 with ⟨hv, _⟩ | ⟨ob, ocap, orest, hv, hA, _⟩
                · obtain ⟨_, _, _, hv'⟩ := hb
                  rw [hv'] at hv; cases hv
                · obtain ⟨_, _, _, hv'⟩ := hb
                  rw [hv'] at hv
                  cases hv
                  have := at_lt hA
                  omega)
              obtain ⟨s6, hs6, hg6, hi6⟩ := seg_from hR5 hj
              refine runWRef70 ?_
              refine s_val (r_slFrom rfl rfl hs6) wnt_none ?_
              have hld : (o.drop j).length ≤ o.length := by rw [List.length_drop]; omega
              obtain ⟨v6, w6, e6, r6, f6, n6⟩ := append_nd (ty := 41) r5 hg6 (by rw [List.length_append]; simp only [List.length_cons, List.length_nil]; omega)
              refine s_val (r_app rfl rfl e6) wnt_none ?_
              have hins : o.take j ++ [y] ++ o.drop j = part l p (i + 1) := by
                rw [hps, ins, hwh.1, hwh.2]
                simp
              rw [hins] at r6
              obtain ⟨a6, c6, rfl⟩ := r6.isSl
              refine runWRef70 ?_
              have F06 : Frm0 w w6 := by
                have F03 : Frm0 w w3 := hF02.trans0 hF3
                refine (F03.trans F35 (fun b hb => .inr (by omega))).trans f6 (fun b hb => .inr ?_)
                have := hown5 b hb
                omega
              refine ⟨_, rfl, ⟨_, a6, c6, i + 1, fixL ⟨rfl, rfl, rfl, rfl, trivial⟩, by omega, r6, fun b hb => ?_, F06⟩, ?_⟩
              · rcases n6 b hb with h | h
                · have := hown5 b h; omega
                · have := F35.size; omega
              · show l.length - ((i : Int) + 1 + 1).toNat < l.length - ((i : Int) + 1).toNat
                omega
            · have hjl : j < o.length := by
                rcases Nat.lt_or_ge j o.length with h | h
                · exact h
                · rw [tst, List.getElem?_eq_none h] at htst; cases htst
              obtain ⟨z, hz⟩ : ∃ z, o[j]? = some z := ⟨_, List.getElem?_eq_getElem hjl⟩
              rw [tst, hz] at htst
              refine runWRef70 ?_
              refine ⟨_, rfl, ⟨_, j + 1, fixL ⟨rfl, rfl, rfl, rfl, rfl, rfl, trivial⟩, by omega, fun u hu => ?_, hF3.drew⟩, ?_⟩
              · rw [List.take_add_one, hz] at hu
                rcases List.mem_append.1 hu with h | h
                · exact htk u h
                · simp at h
                  rw [h]; exact htst
              · show o.length - ((j : Int) + 1).toNat < o.length - (j : Int).toNat
                omega
      · rw [if_neg hpar] at hps
        refine runWRef70 ?_
        refine ⟨_, rfl, ⟨_, a, c, i + 1, fixL ⟨rfl, rfl, by rw [hps]; rfl, rfl, trivial⟩, by omega, by rw [hps]; exact hR2, by rw [hps]; exact hown, hF02⟩, ?_⟩
        show l.length - ((i : Int) + 1 + 1).toNat < l.length - ((i : Int) + 1).toNat
        omega
    · refine runWRef70 ?_
      rw [part_all (by rw [List.length_tail]; omega)] at hR hown
      refine ret_s rfl rfl ?_
      rw [part_all (by rw [List.length_tail]; omega)]
      exact ⟨hR, hown, hF⟩
end Go.Proofs.YtbicffldggcdhaaDoor
