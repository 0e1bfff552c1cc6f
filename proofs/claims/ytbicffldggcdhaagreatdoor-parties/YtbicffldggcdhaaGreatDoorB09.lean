/-
  WQ21; WQ23; WRefP5; WRefP6; WRefP7; WRefP8; WRefP9.
-/
import Derived.Test.YtbicffldggcdhaaGreatDoorB08
import Derived.Test.YtbicffldggcdhaaGreatDoorB06
import Derived.Test.YtbicffldggcdhaaGreatDoorB07
namespace Go.Proofs.YtbicffldggcdhaaGreatDoor
open Go
theorem runG09 {G K : Prop} (k : K) (h : Wrap K → G := by intro h; (repeat (first | (with_reducible first | refine wpIn_seq ?_ | refine w_reg ?_ | refine s_nil ?_ | refine s_nilQ ?_ | refine wpIn_block ?_ | refine q_then ?_ | refine q_blk ?_ | refine q_then_ret ?_ | refine q_blk_ret ?_ | refine q_then_exit ?_ | refine q_blk_exit ?_ | refine wpIn_skip ?_ | refine wpIn_ret ?_ | refine wpIn_exit ?_ | refine y_nil ?_ | refine y_nilQ ?_ | refine x_late ?_) | ((with_reducible refine q_blk_other ?_ ?_); exact rfl) | ((with_reducible apply c_true); exact rfl; (with_reducible exact rfl)) | ((with_reducible apply c_false); exact rfl; (with_reducible exact rfl)) | ((with_reducible apply s_no); (first | ((with_reducible apply wnt_nt); exact rfl; exact rfl; exact rfl; exact rfl; (with_reducible exact rfl)) | ((with_reducible apply wnt_nf); exact rfl; exact rfl; exact rfl; exact rfl; (with_reducible exact rfl)))) | ((with_reducible apply x_qno); exact rfl; (first | ((with_reducible apply wnt_nt); exact rfl; exact rfl; exact rfl; exact rfl; (with_reducible exact rfl)) | ((with_reducible apply wnt_nf); exact rfl; exact rfl; exact rfl; exact rfl; (with_reducible exact rfl)))) | ((first | with_reducible apply s_val | ((with_reducible apply y_val); exact rfl) | ((with_reducible apply x_q); exact rfl; intro wq hq)); (first | ((with_reducible apply r_assign_if); exact rfl) | ((with_reducible apply r_assign_ni); exact rfl) | ((with_reducible apply r_move_p); exact rfl) | ((with_reducible apply r_nilCheck); exact rfl) | ((with_reducible apply r_load); exact u_ok rfl; exact rfl; exact rfl; (first | exact Frm.at0 hq (by assumption) | exact Frm.at hq (by assumption) (by assumption) | (first | (with_reducible assumption) | assumption | exact at_alloc_new _ _ | (repeat (first | assumption | exact at_alloc_new _ _ | refine at_drew ?_ | refine at_alloc _ ?_)))); (first | exact mid_get rfl | exact mid_get2 rfl | exact mid_get0 rfl | exact rfl)) | ((with_reducible apply r_len); exact u_ok rfl; exact rfl) | ((with_reducible apply r_eql_t); exact rfl; exact rfl; omega) | ((with_reducible apply r_eql_f); exact rfl; exact rfl; omega) | ((with_reducible apply r_eql); exact rfl; exact rfl) | ((with_reducible apply r_index); exact u_ok rfl; exact s_ok rfl; exact rfl; exact rfl; omega; omega) | ((with_reducible apply r_indexarr); exact u_ok rfl; exact s_ok rfl; exact rfl; exact rfl; omega; omega) | ((with_reducible apply r_move_if); exact rfl) | ((with_reducible apply r_move_ni); exact rfl) | ((with_reducible apply r_move_i); exact rfl) | ((with_reducible apply r_fld); exact fa_ok rfl; exact rfl) | ((with_reducible apply r_boxA); exact rfl) | ((with_reducible apply r_box1); exact rfl; exact rfl) | ((with_reducible apply r_mkf); exact rfl) | ((with_reducible apply r_assign_i); exact rfl) | ((with_reducible apply r_assign_p); exact rfl) | ((with_reducible apply r_loadA); exact u_ok rfl; exact rfl; exact s_ok rfl; exact rfl; (first | exact Frm.at0 hq (by assumption) | exact Frm.at hq (by assumption) (by assumption) | (first | (with_reducible assumption) | assumption | exact at_alloc_new _ _ | (repeat (first | assumption | exact at_alloc_new _ _ | refine at_drew ?_ | refine at_alloc _ ?_)))); exact Nat.le_of_ble_eq_true rfl) | ((with_reducible apply r_assign_b); exact rfl) | ((with_reducible apply r_move_b); exact rfl) | ((with_reducible apply r_geq_t); exact rfl; exact rfl; omega) | ((with_reducible apply r_geq_f); exact rfl; exact rfl; omega) | ((with_reducible apply r_geq); exact rfl; exact rfl) | ((with_reducible apply r_add); exact rfl; exact rfl; omega; omega) | ((with_reducible apply r_lss_t); exact rfl; exact rfl; omega) | ((with_reducible apply r_lss_f); exact rfl; exact rfl; omega) | ((with_reducible apply r_lss); exact rfl; exact rfl) | ((with_reducible apply r_pick_t); exact rfl; (with_reducible exact rfl); exact rfl) | ((with_reducible apply r_pick_f); exact rfl; (with_reducible exact rfl); exact rfl) | ((with_reducible apply r_sub); exact rfl; exact rfl; omega; omega) | ((with_reducible apply r_leq_t); exact rfl; exact rfl; omega) | ((with_reducible apply r_leq_f); exact rfl; exact rfl; omega) | ((with_reducible apply r_leq); exact rfl; exact rfl) | ((with_reducible apply r_allocA); exact z_ok rfl) | ((with_reducible apply r_alloc1); exact z_ok rfl; exact rfl)); (first | (with_reducible exact wnt_none) | ((with_reducible apply wnt_y); exact rfl; exact rfl; exact rfl; exact rfl; (with_reducible exact rfl)))))); exact h.out) : G := h ⟨k⟩

theorem methComing (v : Value) (w : World) : (Go.method (Tryz.prog.types.size + Made.depth) 176 v "orchard/party.reach").run Tryz.prog w = .ok (170, v) w := by kernel_rfl
theorem methReq (v : Value) (w : World) : (Go.method (Tryz.prog.types.size + Made.depth) 147 v "orchard/party.reach").run Tryz.prog w = .ok (164, v) w := by kernel_rfl
theorem methNews (v : Value) (w : World) : (Go.method (Tryz.prog.types.size + Made.depth) 262 v "orchard/party.reach").run Tryz.prog w = .ok (203, v) w := by kernel_rfl
theorem methSnap (v : Value) (w : World) : (Go.method (Tryz.prog.types.size + Made.depth) 266 v "orchard/party.reach").run Tryz.prog w = .ok (209, v) w := by kernel_rfl
/-- What an L is, with which a message that a client comes is met. -/
def LOk (Q : PPar) (i : Int) (L : List Ans) : Prop := ∀ n c us, Q.cl i = some c → c.up = .inl n :: us → (Q.log.length : Int) < Q.n - n → L.Perm (lack Q.vd i n) ∧ L.Pairwise fun a b => a.seq ≤ b.seq
theorem uV_one (u : UMsg) : one (uV u) = true := by cases u <;> rfl
theorem PPar.set_set {Q : PPar} {i : Int} {x y : PCli} : (Q.set i x).set i y = Q.set i y := by simp [PPar.set]
theorem PB.memc {PT : PTy} {w : World} {col : Nat → Nat} {k p t : Nat} {lv : Value} {mb cb cap : Nat} {rest : List Value} {ms : List CM} {Q : PPar} (h : PB PT w col k p t lv mb cb cap rest ms Q) {i : Nat} {m : CM} (hm : ms[i]? = some m) : m.c ∈ Q.cls := by
  rw [h.cls]
  exact List.mem_map_of_mem (List.mem_of_getElem? hm)
theorem lo_ext {k : Nat} {w w' : World} {col col' : Nat → Nat} {ea : List Addr} (hE : Errs w ea) (hlo : (∀ g ∈ errG, col g = 0) ∧ ∀ a ∈ ea, col a.block = 0) (x : Ext k w w' col col') : (∀ g ∈ errG, col' g = 0) ∧ ∀ a ∈ ea, col' a.block = 0 := by
  have h := errs_lt hE
  exact ⟨fun g hg => by rw [x.old g (h.1 g hg)]; exact hlo.1 g hg, fun a ha => by rw [x.old _ (h.2 a ha)]; exact hlo.2 a ha⟩
theorem errs_band {k : Nat} {w w' : World} {col : Nat → Nat} {ea : List Addr} (hE : Errs w ea) (hlo : (∀ g ∈ errG, col g = 0) ∧ ∀ a ∈ ea, col a.block = 0) (hk : 0 < k) (f : Frm (fun b => k ≤ col b ∧ col b < k + 100) w w') : Errs w' ea :=
  hE.frm f (fun g hg h9 => by have := hlo.1 g hg; omega) (fun a ha h9 => by have := hlo.2 a ha; omega)
section
variable {PT : PTy} (sp : TreeSpec PT) (cs : CloneSpec PT) {w w' : World} {col col' : Nat → Nat} {k p t : Nat} {lv lv' : Value} {mb cb cap : Nat} {rest : List Value} {ms : List CM} {Q Q' : PPar}
set_option maxRecDepth 4000 in
set_option maxHeartbeats 1000000 in
theorem bringUp_ret (sp : TreeSpec PT) (cs : CloneSpec PT) (h : PB PT w col k p t lv mb cb cap rest ms Q) {ea : List Addr} (hE : Errs w ea) (hlo : (∀ g ∈ errG, col g = 0) ∧ ∀ a ∈ ea, col a.block = 0) (hb : QB Q) {i : Int} {m : CM} (hi : 0 ≤ i) (hm : ms[i.toNat]? = some m) (hc : Q.cl i = some m.c) :
    Rets Tryz.prog 81 [Ptr p, I i, .pointer (some ⟨cb, (fl CM.vals (ms.take i.toNat)).length + 4 + 2, none⟩)] w fun v w' => ∃ L, LOk Q i L ∧ Bare ea v (upQ Q i L).1 ∧ QStep PT w w' col k p (upQ Q i L).2 := by
  have hA := h.at_ hm
  have hrow := hA.row
  have hmem := h.memc hm
  have hpos := h.pos
  have hk := hA.hk
  have hown := hA.own
  have hlt : i.toNat < ms.length := (List.getElem?_eq_some_iff.1 hm).1
  have hu := hA.m.ups
  have hcu := hA.m.cup
  obtain ⟨g9, ty, kk, hg9, hG⟩ := err9 hE 8 7 rfl
  cases hup : m.c.up with
  | nil =>
    rw [hup] at hu
    obtain ⟨ua, uc, hue⟩ := hu.isSl
    have hue0 : m.up = .slice ua 0 uc := hue
    rw [hue0] at hrow
    have hd : ∀ L, upQ Q i L = (9, Q) := fun L => by rw [upQ, hc]; simp only [hup]
    refine rets_of Tryz.func81 (by kernel_rfl) rfl Tryz.ntmps81 (Nat.le_of_ble_eq_true rfl) ?_
    refine runG09 ?_
    refine ret_if rfl rfl ⟨[], ?_, ?_, ?_⟩
    · intro n c us' hc' hu'
      rw [hc] at hc'
      cases hc'
      rw [hup] at hu'
      cases hu'
    · rw [hd]
      exact .inr ⟨Nat.succ_pos _, g9, rfl, hg9⟩
    · rw [hd]
      exact QStep.same sp ⟨_, _, _, _, _, _, _, h⟩ (Frm.refl _ _)
  | cons u us =>
    rw [hup] at hu
    rcases hu with ⟨_, h0, _⟩ | ⟨ub, ucap, urest, hue, hA1, hul, hur, huc⟩
    · cases h0
    have hue' : m.up = .slice (some ⟨ub, 0, none⟩) (us.length + 1) ucap := hue
    have hA1' : At w ub (cel (uV u :: (us.map uV ++ urest)) 172) := hA1
    rw [hue'] at hrow hcu
    have hnc : ¬ InV (.slice (some ⟨ub, 0, none⟩) (us.length + 1) ucap) cb := fun h9 => by have := hcu cb h9; omega
    have hur' : Row w (.slice (some ⟨ub, 0, none⟩) (us.length + 1) ucap) 172 1 (us.length + 1) ([uV u] ++ us.map uV) := .inr ⟨ub, ucap, urest, rfl, hA1, hul, hur, huc⟩
    have hA' := hA
    rw [hue'] at hA'
    generalize hpre : fl CM.vals (ms.take i.toNat) = pre at *
    generalize hpost : fl CM.vals (ms.drop (i.toNat + 1)) ++ rest = post at *
    refine rets_of Tryz.func81 (by kernel_rfl) rfl Tryz.ntmps81 (Nat.le_of_ble_eq_true rfl) ?_
    refine runG09 ?_
    have huv : ∃ T v, uV u = .iface T v := by cases u <;> exact ⟨_, _, rfl⟩
    obtain ⟨uT, uv, huv⟩ := huv
    rw [huv]
    refine runG09 ?_
    refine s_callf (DelMsg_ret hur' rfl (by intro x hx; obtain ⟨y, _, rfl⟩ := List.mem_map.1 hx; exact uV_one y)) rfl wnt_none ?_
    rintro v w2 ⟨r2, f2, n2⟩
    have hrow2 := f2.at hnc hrow
    have r2' : Row w2 v 172 1 us.length (us.map uV) := r2
    obtain ⟨h3, g3⟩ := hA'.reup sp f2 r2' (fun b hb => .inl (n2 b hb))
    obtain ⟨xa, xc, rfl⟩ := r2'.isSl
    refine runG09 ?_
    refine s_skip (r_store_s (s_ok rfl) rfl rfl hrow2 (by rw [Nat.add_assoc]; exact clt _ _ _ _ _ _ _ _ (by decide))) wnt_none ?_
    rw [set_up]
    subst hpre hpost
    have hB3 := h.client sp (m' := ⟨m.t, m.pd, m.an, .slice xa us.length xc, m.dn, m.bq, m.sq, { m.c with up := us }⟩) hm g3 h3
    generalize setB w2 cb (cel (fl CM.vals (ms.take i.toNat) ++ (cvals m.t m.c.n m.pd m.an m.c.joined m.c.told (.slice xa us.length xc) m.dn ++ (fl CM.vals (ms.drop (i.toNat + 1)) ++ rest))) 119) = w3 at *
    generalize paint col w.heap.size (.slice xa us.length xc) (k + 10 + 10 * i.toNat + 4) = col3 at *
    have G3 := g3.toQ (by omega)
    have hE3 := errs_band hE hlo hpos G3.frm
    have hlo3 := lo_ext hE hlo g3.ext
    have hm3 : (ms.set i.toNat ⟨m.t, m.pd, m.an, .slice xa us.length xc, m.dn, m.bq, m.sq, { m.c with up := us }⟩)[i.toNat]? = some ⟨m.t, m.pd, m.an, .slice xa us.length xc, m.dn, m.bq, m.sq, { m.c with up := us }⟩ := List.getElem?_set_self hlt
    have hcb := hb.cl _ hmem
    cases u with
    | inl n =>
      cases huv
      have hnb := hb.hello _ hmem n us hup
      have hno := hb.n
      refine runG09 ?_
      refine s_inv rfl (methComing _ _) (coming_ret sp cs hB3 hi hm3 n ⟨hnb.1, hnb.2, by show Q.n < _; omega⟩ hb.log hb.vd hcb.2.2.2.1) rfl wnt_none ?_
      rintro v w4 ⟨L, hL, hr⟩
      have hs4 := hB3.res sp hm3 hr
      refine runG09 ?_
      have hd : upQ Q i L = (0, Q.set i { m.c with up := us, told := true, down := m.c.down ++ behindQ Q n L }) := by rw [upQ, hc]; simp only [hup]
      refine ret_ni rfl rfl ⟨L, ?_, ?_, ?_⟩
      · intro n' c us' hc' hu' hlt'
        rw [hc] at hc'
        cases hc'
        rw [hup] at hu'
        cases hu'
        exact hL hlt'
      · rw [hd]; exact .inl ⟨rfl, rfl⟩
      · rw [hd]
        have : ({ Q with cls := Q.cls.set i.toNat { m.c with up := us } } : PPar).set i { m.c with up := us, told := true, down := m.c.down ++ behindQ Q n L } = Q.set i { m.c with up := us, told := true, down := m.c.down ++ behindQ Q n L } := PPar.set_set (x := { m.c with up := us })
        rw [← this]
        exact QStep.trans G3.ext G3.frm hs4
    | inr q9 =>
      obtain ⟨s, e⟩ := q9
      cases huv
      have hsb := hb.req _ hmem s e us hup
      have hno := hb.n
      refine runG09 ?_
      refine s_inv rfl (methReq _ _) (request_ret sp hB3 hE3 hlo3 i s e ⟨hno.1, by show Q.n < _; omega⟩ ⟨by omega, by omega⟩ hb.log (fun c' hc' => ?_)) rfl wnt_none ?_
      · have hc'' : c' ∈ Q.cls.set i.toNat { m.c with up := us } := hc'
        rcases List.mem_or_eq_of_mem_set hc'' with h9 | h9
        · have := (hb.cl _ h9).2.2.2.1; omega
        · subst h9
          show m.c.down.length < _
          omega
      intro v w4 hs4
      refine runG09 ?_
      refine ret_ni rfl rfl ⟨[], ?_, ?_, ?_⟩
      · intro n' c us' hc' hu'
        rw [hc] at hc'
        cases hc'
        rw [hup] at hu'
        cases hu'
      · rw [upQ, hc]
        simp only [hup]
        split <;> exact .inl ⟨rfl, rfl⟩
      · have hd : (upQ Q i []).2 = if hasT Q.vd i s then Q.set i { m.c with up := us } else takeQ (Q.set i { m.c with up := us }) i s e := by
          rw [upQ, hc]
          simp only [hup]
          split <;> rfl
        rw [hd]
        exact QStep.trans G3.ext G3.frm hs4
set_option maxRecDepth 4000 in
set_option maxHeartbeats 1000000 in
theorem bringDown_ret (sp : TreeSpec PT) (h : PB PT w col k p t lv mb cb cap rest ms Q) {ea : List Addr} (hE : Errs w ea) (hlo : (∀ g ∈ errG, col g = 0) ∧ ∀ a ∈ ea, col a.block = 0) (hb : QB Q) {i : Int} {m : CM} (hi : 0 ≤ i) (hm : ms[i.toNat]? = some m) (hc : Q.cl i = some m.c) :
    Rets Tryz.prog 81 [Ptr p, I i, .pointer (some ⟨cb, (fl CM.vals (ms.take i.toNat)).length + 4 + 3, none⟩)] w fun v w' => Bare ea v (downQ Q i).1 ∧ QStep PT w w' col k p (downQ Q i).2 := by
  have hA := h.at_ hm
  have hrow := hA.row
  have hmem := h.memc hm
  have hpos := h.pos
  have hk := hA.hk
  have hq := hA.m.q
  have hown := hA.own
  have hlt : i.toNat < ms.length := (List.getElem?_eq_some_iff.1 hm).1
  have hcu := hA.m.cdown
  have hcb := hb.cl _ hmem
  have hno := hb.n
  obtain ⟨xs, hu, hx⟩ := hA.m.down
  obtain ⟨g9, ty, kk, hg9, hG⟩ := err9 hE 8 7 rfl
  cases hup : m.c.down with
  | nil =>
    rw [hup] at hu
    obtain ⟨ua, uc, hue⟩ := hu.isSl
    have hue0 : m.dn = .slice ua 0 uc := hue
    rw [hue0] at hrow
    have hd : downQ Q i = (9, Q) := by rw [downQ, hc]; simp only [hup]
    rw [hd]
    refine rets_of Tryz.func81 (by kernel_rfl) rfl Tryz.ntmps81 (Nat.le_of_ble_eq_true rfl) ?_
    refine runG09 ?_
    exact ret_if rfl rfl ⟨.inr ⟨Nat.succ_pos _, g9, rfl, hg9⟩, QStep.same sp ⟨_, _, _, _, _, _, _, h⟩ (Frm.refl _ _)⟩
  | cons u us =>
    rw [hup] at hu hx
    rcases hu with ⟨_, h0, _⟩ | ⟨ub, ucap, urest, hue, hA1, hul, hur, huc⟩
    · cases h0
    have hue' : m.dn = .slice (some ⟨ub, 0, none⟩) (us.length + 1) ucap := hue
    obtain ⟨x, xs', hxs⟩ : ∃ x xs', xs = x :: xs' := by
      cases xs with
      | nil => simp at hul
      | cons x xs' => exact ⟨x, xs', rfl⟩
    subst hxs
    have hx0 := hx 0 x u rfl rfl
    have hxl : xs'.length = us.length := by simp at hul; exact hul
    have hA1' : At w ub (cel (x :: (xs' ++ urest)) 172) := hA1
    rw [hue'] at hrow hcu
    have hnc : ¬ InV (.slice (some ⟨ub, 0, none⟩) (us.length + 1) ucap) cb := fun h9 => by have := hcu cb h9; omega
    have hur' : Row w (.slice (some ⟨ub, 0, none⟩) (us.length + 1) ucap) 172 1 (us.length + 1) ([x] ++ xs') := .inr ⟨ub, ucap, urest, rfl, hA1, hul, hur, huc⟩
    have hones : ∀ y ∈ xs', one y = true := fun y hy => by
      obtain ⟨j, hj⟩ := List.getElem?_of_mem hy
      have hjl := (List.getElem?_eq_some_iff.1 hj).1
      exact (hx (j + 1) y _ hj (List.getElem?_eq_getElem (show j + 1 < (u :: us).length by simp; omega))).one
    have hA' := hA
    rw [hue'] at hA'
    generalize hpre : fl CM.vals (ms.take i.toNat) = pre at *
    generalize hpost : fl CM.vals (ms.drop (i.toNat + 1)) ++ rest = post at *
    refine rets_of Tryz.func81 (by kernel_rfl) rfl Tryz.ntmps81 (Nat.le_of_ble_eq_true rfl) ?_
    refine runG09 ?_
    have huv : ∃ T v, x = .iface T v := by
      cases u with
      | inl y => exact ⟨_, _, hx0⟩
      | inr q9 => obtain ⟨a, b, c⟩ := q9; obtain ⟨tp, av, h1, _⟩ := hx0; exact ⟨_, _, h1⟩
    obtain ⟨uT, uv, huv⟩ := huv
    rw [huv]
    refine runG09 ?_
    refine s_callf (DelMsg_ret hur' rfl hones) rfl wnt_none ?_
    rintro v w2 ⟨r2, f2, n2⟩
    have hrow2 := f2.at hnc hrow
    have r2' : DsAt PT w2 (fun b => col b = m.sq) (fun b => col b = k + 10 + 10 * i.toNat + 7) v us := by
      refine ⟨xs', r2, fun j y d hy hd => ?_⟩
      exact (hx (j + 1) y d hy hd).frm sp f2 (fun b hb h9 => by have := hcu b h9; omega) (fun b hb h9 => by have := hcu b h9; omega)
    have hx2 := hx0.frm sp f2 (fun b hb h9 => by have := hcu b h9; omega) (fun b hb h9 => by have := hcu b h9; omega)
    obtain ⟨h3, g3⟩ := hA'.redown sp f2 r2' (fun b hb => .inl (n2 b hb))
    obtain ⟨xa, xc, rfl⟩ := r2'.isSl
    refine runG09 ?_
    refine s_skip (r_store_s (s_ok rfl) rfl rfl hrow2 (by rw [Nat.add_assoc]; exact clt _ _ _ _ _ _ _ _ (by decide))) wnt_none ?_
    rw [set_dn]
    subst hpre hpost
    have hB3 := h.client sp (m' := ⟨m.t, m.pd, m.an, m.up, .slice xa us.length xc, m.bq, m.sq, { m.c with down := us }⟩) hm g3 h3
    have hx3 := hx2.frm sp (S := fun b => b = cb) ((Frm.refl (fun b => b = cb) w2).setB (b := cb) (.inl rfl) (cel (fl CM.vals (ms.take i.toNat) ++ (cvals m.t m.c.n m.pd m.an m.c.joined m.c.told m.up (.slice xa us.length xc) ++ (fl CM.vals (ms.drop (i.toNat + 1)) ++ rest))) 119)) (fun b hb e9 => by subst e9; omega) (fun b hb e9 => by subst e9; omega)
    have hszw : w.heap.size ≤ w2.heap.size := f2.size
    generalize setB w2 cb (cel (fl CM.vals (ms.take i.toNat) ++ (cvals m.t m.c.n m.pd m.an m.c.joined m.c.told m.up (.slice xa us.length xc) ++ (fl CM.vals (ms.drop (i.toNat + 1)) ++ rest))) 119) = w3 at *
    generalize paint col w.heap.size (.slice xa us.length xc) (k + 10 + 10 * i.toNat + 5) = col3 at *
    have G3 := g3.toQ (by omega)
    have hE3 := errs_band hE hlo hpos G3.frm
    have hlo3 := lo_ext hE hlo g3.ext
    have up3 : ∀ {b q}, col b = q → q ≠ 0 → col3 b = q := fun {b q} h2 h3 => by
      rcases Nat.lt_or_ge b w.heap.size with h4 | h4
      · rw [g3.ext.old b h4]; exact h2
      · have := h.high b h4; omega
    have hm3 : (ms.set i.toNat ⟨m.t, m.pd, m.an, m.up, .slice xa us.length xc, m.bq, m.sq, { m.c with down := us }⟩)[i.toNat]? = some ⟨m.t, m.pd, m.an, m.up, .slice xa us.length xc, m.bq, m.sq, { m.c with down := us }⟩ := List.getElem?_set_self hlt
    have hd : downQ Q i = (0, Q.set i (downD i { m.c with down := us } u)) := by rw [downQ, hc]; simp only [hup]
    rw [hd]
    have hss : ({ Q with cls := Q.cls.set i.toNat { m.c with down := us } } : PPar).set i (downD i { m.c with down := us } u) = Q.set i (downD i { m.c with down := us } u) := PPar.set_set (x := { m.c with down := us })
    cases u with
    | inl y =>
      have hy : x = .iface 262 (.agg y.vals.toArray) := hx0
      rw [hy] at huv
      cases huv
      refine runG09 ?_
      refine s_inv rfl (methNews _ _) (news_ret sp hB3 hE3 hlo3 hi hm3 y ⟨hcb.2.2.2.2.1, by show m.c.n < _; have := hcb.2.2.2.2.2; omega⟩ hcb.1 (by show m.c.ans.length < _; omega)) rfl wnt_none ?_
      intro v w4 hr
      have hs4 := hB3.res sp hm3 hr
      refine runG09 ?_
      refine ret_ni rfl rfl ⟨.inl ⟨rfl, rfl⟩, ?_⟩
      rw [← hss]
      exact QStep.trans G3.ext G3.frm hs4
    | inr q9 =>
      obtain ⟨l, n, L⟩ := q9
      obtain ⟨tp, av, hy, hT, hw, hR, hRc⟩ := hx3
      rw [hy] at huv
      cases huv
      have hsn := hb.snap _ hmem l n L us hup
      refine runG09 ?_
      refine s_inv rfl (methSnap _ _) (snapshot_ret sp hB3 hi hm3 (n := n) (sp.weak hT (fun b h1 _ => up3 (q := m.sq) h1 (by omega))) hw hR (fun b hb => up3 (q := k + 10 + 10 * i.toNat + 7) (hRc b hb) (by omega)) hsn.2 hcb.1 (by show m.c.ans.length + L.length < _; omega)) rfl wnt_none ?_
      intro v w4 hr
      have hs4 := hB3.res sp hm3 hr
      refine runG09 ?_
      refine ret_ni rfl rfl ⟨.inl ⟨rfl, rfl⟩, ?_⟩
      rw [← hss]
      exact QStep.trans G3.ext G3.frm hs4
end
end Go.Proofs.YtbicffldggcdhaaGreatDoor

namespace Go.Proofs.YtbicffldggcdhaaGreatDoor
open Go

section
variable {PT : PTy} (sp : TreeSpec PT) (cs : CloneSpec PT) {w w' w1 : World} {col : Nat → Nat} {k p t : Nat} {lv : Value} {mb cb cap : Nat} {rest : List Value} {ms : List CM} {Q Q' : PPar}
theorem up1_ret (sp : TreeSpec PT) (cs : CloneSpec PT) (h : PB PT w col k p t lv mb cb cap rest ms Q) {ea : List Addr} (hE : Errs w ea) (hlo : (∀ g ∈ errG, col g = 0) ∧ ∀ a ∈ ea, col a.block = 0) (hb : QB Q) {i : Int} {m : CM} (hi : 0 ≤ i) (hm : ms[i.toNat]? = some m) (hc : Q.cl i = some m.c) {pb ib : Nat} (hp : At w pb (cel [Ptr p] 45)) (hib : At w ib (cel [I i] 3)) :
    Rets Tryz.prog 80 [.pointer (some ⟨cb, (fl CM.vals (ms.take i.toNat)).length, none⟩), Ptr pb, Ptr ib] w fun v w' => (∃ L, LOk Q i L ∧ Bare ea v (upQ Q i L).1 ∧ QStep PT w w' col k p (upQ Q i L).2) ∧ (v = .nilIface ∨ ∃ a, v = errV a) := by
  refine rets_of Tryz.func80 (by kernel_rfl) rfl Tryz.ntmps80 (Nat.le_of_ble_eq_true rfl) ?_
  refine runG09 ?_
  refine w_drawn [(0, false), (1, false), (2, false), (3, false), (4, false), (5, false)] [6, 7] (fun wq => Frm0 w wq) mixed (by kernel_rfl) ?_ ?_
  · exact Frm.of_drew _
  · refine runG09 ?_
    have hf : Frm0 w w.drew := Frm.of_drew w
    refine y_callf rfl (bringUp_ret sp cs (h.frm0 sp hf) (hE.frm0 hf) hlo hb hi hm hc) rfl wnt_none ?_
    rintro v w2 ⟨L, hL, hv, hs⟩
    have hv' := hv.val
    have hs' := QStep.pre h.high hf hs
    rcases hv' with rfl | ⟨a, rfl⟩
    · refine runG09 ?_
      exact ret_ni rfl rfl ⟨⟨L, hL, hv, hs'⟩, .inl rfl⟩
    · refine runG09 ?_
      exact ret_if rfl rfl ⟨⟨L, hL, hv, hs'⟩, .inr ⟨a, rfl⟩⟩
theorem pup_ret (sp : TreeSpec PT) (cs : CloneSpec PT) (h : PB PT w col k p t lv mb cb cap rest ms Q) {ea : List Addr} (hE : Errs w ea) (hlo : (∀ g ∈ errG, col g = 0) ∧ ∀ a ∈ ea, col a.block = 0) (hb : QB Q) (i : Int) :
    Rets Tryz.prog 55 [Ptr p, I i] w fun v w' => (∃ L, LOk Q i L ∧ Bare ea v (upQ Q i L).1 ∧ QStep PT w w' col k p (upQ Q i L).2) ∧ (v = .nilIface ∨ ∃ a, v = errV a) := by
  have hF0 : Frm0 w ((w.alloc (cel [Ptr p] 45)).alloc (cel [I i] 3)) := ((Frm.refl _ w).alloc _).alloc _
  have hp1 : At ((w.alloc (cel [Ptr p] 45)).alloc (cel [I i] 3)) w.heap.size (cel [Ptr p] 45) := at_alloc _ (at_alloc_new _ _)
  have hi1 : At ((w.alloc (cel [Ptr p] 45)).alloc (cel [I i] 3)) (w.alloc (cel [Ptr p] 45)).heap.size (cel [I i] 3) := at_alloc_new _ _
  refine rets_of Tryz.func55 (by kernel_rfl) rfl Tryz.ntmps55 (Nat.le_of_ble_eq_true rfl) ?_
  refine runG09 ?_
  have h1 := h.frm0 sp hF0
  have hE1 := hE.frm0 hF0
  refine s_callf (let_ret (caps := [Ptr w.heap.size, Ptr (w.alloc (cel [Ptr p] 45)).heap.size]) (φ := fun v w' => (∃ L, LOk Q i L ∧ Bare ea v (upQ Q i L).1 ∧ QStep PT w w' col k p (upQ Q i L).2) ∧ (v = .nilIface ∨ ∃ a, v = errV a)) h1 hE1 i ?_ ?_ (fun v w' hv => hv.2)) rfl wnt_none ?_
  · intro hc w' a f ha
    have hd : upQ Q i [] = (1, Q) := by rw [upQ, hc]
    refine ⟨⟨[], ?_, ?_, ?_⟩, .inr ⟨a, rfl⟩⟩
    · intro n c us hc'
      rw [hc] at hc'
      cases hc'
    · rw [hd]; exact .inr ⟨Nat.succ_pos _, a, rfl, ha⟩
    · rw [hd]; exact QStep.same sp ⟨_, _, _, _, _, _, _, h⟩ (hF0.trans0 f)
  · intro m w' hm hc h0 f
    refine (up1_ret sp cs (h1.frm0 sp f) (hE1.frm0 f) hlo hb h0 hm hc (f.at0 hp1) (f.at0 hi1)).mono ?_
    rintro v w2 ⟨⟨L, hL, hv, hs⟩, hv2⟩
    exact ⟨⟨L, hL, hv, QStep.pre h.high (hF0.trans0 f) hs⟩, hv2⟩
  · intro v w2 hv
    rcases hv.2 with rfl | ⟨a, rfl⟩
    · refine runG09 ?_
      exact ret_ni rfl rfl hv
    · refine runG09 ?_
      exact ret_if rfl rfl hv
theorem PUp_ret (sp : TreeSpec PT) (cs : CloneSpec PT) (hP : PP PT w col k p Q) {ea : List Addr} (hE : Errs w ea) (hlo : (∀ g ∈ errG, col g = 0) ∧ ∀ a ∈ ea, col a.block = 0) (hb : QB Q) (i : Int) :
    Rets Tryz.prog 32 [Ptr p, I i] w fun v w' => ∃ L, LOk Q i L ∧ ErrN ea w w' v (upQ Q i L).1 ed0 ∧ QStep PT w w' col k p (upQ Q i L).2 := by
  obtain ⟨t, lv, mb, cb, cap, rest, ms, h⟩ := hP
  refine rets_of Tryz.func32 (by kernel_rfl) rfl Tryz.ntmps32 (Nat.le_of_ble_eq_true rfl) ?_
  refine runG09 ?_
  refine s_val (r_build rfl (bld_ed0 _)) wnt_none ?_
  refine runG09 ?_
  refine s_callf (pup_ret sp cs h hE hlo hb i) rfl wnt_none ?_
  rintro v w2 ⟨⟨L, hL, hv, hs⟩, _⟩
  refine s_callf (refusal_ret hv ed0) rfl wnt_none ?_
  rintro u w3 ⟨hu, f3, hfr⟩
  have hsz := hs.size
  have hs3 := hs.frm0 sp f3
  rcases hu with ⟨h0, rfl⟩ | ⟨h0, b, a, rfl, hA, ha⟩
  · refine runG09 ?_
    exact ret_ni rfl rfl ⟨L, hL, ⟨.inl ⟨h0, rfl⟩, fun b h => by cases h⟩, hs3⟩
  · refine runG09 ?_
    exact ret_if rfl rfl ⟨L, hL, ⟨.inr ⟨h0, b, a, rfl, hA, ha⟩, fun b' h => Nat.le_trans hsz (hfr b' h)⟩, hs3⟩
theorem down1_ret (sp : TreeSpec PT) (h : PB PT w col k p t lv mb cb cap rest ms Q) {ea : List Addr} (hE : Errs w ea) (hlo : (∀ g ∈ errG, col g = 0) ∧ ∀ a ∈ ea, col a.block = 0) (hb : QB Q) {i : Int} {m : CM} (hi : 0 ≤ i) (hm : ms[i.toNat]? = some m) (hc : Q.cl i = some m.c) {pb ib : Nat} (hp : At w pb (cel [Ptr p] 45)) (hib : At w ib (cel [I i] 3)) :
    Rets Tryz.prog 99 [.pointer (some ⟨cb, (fl CM.vals (ms.take i.toNat)).length, none⟩), Ptr pb, Ptr ib] w fun v w' => Bare ea v (downQ Q i).1 ∧ QStep PT w w' col k p (downQ Q i).2 := by
  refine rets_of Tryz.func99 (by kernel_rfl) rfl Tryz.ntmps99 (Nat.le_of_ble_eq_true rfl) ?_
  refine runG09 ?_
  refine w_drawn [(0, false), (1, false), (2, false), (3, false), (4, false), (5, false)] [6, 7] (fun wq => Frm0 w wq) mixed (by kernel_rfl) ?_ ?_
  · exact Frm.of_drew _
  · refine runG09 ?_
    have hf : Frm0 w w.drew := Frm.of_drew w
    refine y_callf rfl (bringDown_ret sp (h.frm0 sp hf) (hE.frm0 hf) hlo hb hi hm hc) rfl wnt_none ?_
    rintro v w2 ⟨hv, hs⟩
    have hv' := hv.val
    have hs' := QStep.pre h.high hf hs
    rcases hv' with rfl | ⟨a, rfl⟩
    · refine runG09 ?_
      exact ret_ni rfl rfl ⟨hv, hs'⟩
    · refine runG09 ?_
      exact ret_if rfl rfl ⟨hv, hs'⟩
theorem pdown_ret (sp : TreeSpec PT) (h : PB PT w col k p t lv mb cb cap rest ms Q) {ea : List Addr} (hE : Errs w ea) (hlo : (∀ g ∈ errG, col g = 0) ∧ ∀ a ∈ ea, col a.block = 0) (hb : QB Q) (i : Int) :
    Rets Tryz.prog 68 [Ptr p, I i] w fun v w' => Bare ea v (downQ Q i).1 ∧ QStep PT w w' col k p (downQ Q i).2 := by
  have hF0 : Frm0 w ((w.alloc (cel [Ptr p] 45)).alloc (cel [I i] 3)) := ((Frm.refl _ w).alloc _).alloc _
  have hp1 : At ((w.alloc (cel [Ptr p] 45)).alloc (cel [I i] 3)) w.heap.size (cel [Ptr p] 45) := at_alloc _ (at_alloc_new _ _)
  have hi1 : At ((w.alloc (cel [Ptr p] 45)).alloc (cel [I i] 3)) (w.alloc (cel [Ptr p] 45)).heap.size (cel [I i] 3) := at_alloc_new _ _
  refine rets_of Tryz.func68 (by kernel_rfl) rfl Tryz.ntmps68 (Nat.le_of_ble_eq_true rfl) ?_
  refine runG09 ?_
  have h1 := h.frm0 sp hF0
  have hE1 := hE.frm0 hF0
  refine s_callf (let_ret (caps := [Ptr w.heap.size, Ptr (w.alloc (cel [Ptr p] 45)).heap.size]) (φ := fun v w' => Bare ea v (downQ Q i).1 ∧ QStep PT w w' col k p (downQ Q i).2) h1 hE1 i ?_ ?_ (fun v w' hv => hv.1.val)) rfl wnt_none ?_
  · intro hc w' a f ha
    have hd : downQ Q i = (1, Q) := by rw [downQ, hc]
    rw [hd]
    exact ⟨.inr ⟨Nat.succ_pos _, a, rfl, ha⟩, QStep.same sp ⟨_, _, _, _, _, _, _, h⟩ (hF0.trans0 f)⟩
  · intro m w' hm hc h0 f
    refine (down1_ret sp (h1.frm0 sp f) (hE1.frm0 f) hlo hb h0 hm hc (f.at0 hp1) (f.at0 hi1)).mono ?_
    rintro v w2 ⟨hv, hs⟩
    exact ⟨hv, QStep.pre h.high (hF0.trans0 f) hs⟩
  · intro v w2 hv
    rcases hv.1.val with rfl | ⟨a, rfl⟩
    · refine runG09 ?_
      exact ret_ni rfl rfl hv
    · refine runG09 ?_
      exact ret_if rfl rfl hv
theorem PDown_ret (sp : TreeSpec PT) (hP : PP PT w col k p Q) {ea : List Addr} (hE : Errs w ea) (hlo : (∀ g ∈ errG, col g = 0) ∧ ∀ a ∈ ea, col a.block = 0) (hb : QB Q) (i : Int) :
    Rets Tryz.prog 42 [Ptr p, I i] w fun v w' => ErrN ea w w' v (downQ Q i).1 ed0 ∧ QStep PT w w' col k p (downQ Q i).2 := by
  obtain ⟨t, lv, mb, cb, cap, rest, ms, h⟩ := hP
  refine rets_of Tryz.func42 (by kernel_rfl) rfl Tryz.ntmps42 (Nat.le_of_ble_eq_true rfl) ?_
  refine runG09 ?_
  refine s_val (r_build rfl (bld_ed0 _)) wnt_none ?_
  refine runG09 ?_
  refine s_callf (pdown_ret sp h hE hlo hb i) rfl wnt_none ?_
  rintro v w2 ⟨hv, hs⟩
  refine s_callf (refusal_ret hv ed0) rfl wnt_none ?_
  rintro u w3 ⟨hu, f3, hfr⟩
  have hsz := hs.size
  have hs3 := hs.frm0 sp f3
  rcases hu with ⟨h0, rfl⟩ | ⟨h0, b, a, rfl, hA, ha⟩
  · refine runG09 ?_
    exact ret_ni rfl rfl ⟨⟨.inl ⟨h0, rfl⟩, fun b h => by cases h⟩, hs3⟩
  · refine runG09 ?_
    exact ret_if rfl rfl ⟨⟨.inr ⟨h0, b, a, rfl, hA, ha⟩, fun b' h => Nat.le_trans hsz (hfr b' h)⟩, hs3⟩
end
end Go.Proofs.YtbicffldggcdhaaGreatDoor

namespace Go.Proofs.YtbicffldggcdhaaGreatDoor
open Go

theorem PStep.of_frm0 {w w0 w' : World} {col : Nat → Nat} {k p : Nat} {Q : Par} (hh : ∀ b, w.heap.size ≤ b → col b = 0) (f : Frm0 w w0) (h : PStep w0 w' col k p Q) : PStep w w' col k p Q := by
  obtain ⟨col', h1, h2, h3⟩ := h
  refine ⟨col', h1, ⟨fun b hb => h2.old b (Nat.lt_of_lt_of_le hb f.size), h2.high, fun b hb => ?_⟩, (f.mono (fun _ h => h.elim)).trans h3 (fun b hb => .inl hb)⟩
  rcases Nat.lt_or_ge b w0.heap.size with h4 | h4
  · exact .inl (by rw [h2.old b h4]; exact hh b hb)
  · exact h2.new b h4

theorem MsgsAt.blk {w : World} {F : Nat → Prop} {v : Value} {ms : List Msg} (h : MsgsAt w F v ms) : ∀ b, blkOf v = some b → b < w.heap.size := by
  obtain ⟨css, h1, _⟩ := h
  exact h1.blk

set_option maxHeartbeats 1000000 in
theorem REdit_ret {w : World} {col : Nat → Nat} {k p : Nat} {P : Par} (hP : RefP w col k p P) (i : Int) (e : Ed) (hb : ∀ x, P.cl i = some x → x.up.length < 1000000 ∧ 0 ≤ x.seq ∧ x.seq < 1000000000000000) :
    Rets Tryz.prog 89 [Ptr p, I i, EdV e] w fun v w' => v = I (editP P i e).1 ∧ PStep w w' col k p (editP P i e).2 := by
  have hP' := hP
  obtain ⟨r, b, cap, rest, es, lb, lcap, lrest, cs, h⟩ := hP
  have hhi := h.high
  have hF0 : Frm0 w (w.alloc (cel e.vals 31)) := Frm.of_alloc _ _
  have hcl := RClient_ret (h.frm0 hF0) i
  refine rets_of Tryz.func89 (by kernel_rfl) rfl Tryz.ntmps89 (Nat.le_of_ble_eq_true rfl) ?_
  refine runG09 ?_
  refine s_callf hcl rfl wnt_none ?_
  rintro v w0 ⟨hv, rfl⟩
  have hbox : At (w.alloc (cel e.vals 31)) w.heap.size (cel e.vals 31) := at_alloc_new _ _
  cases hx : P.cl i with
  | none =>
    rw [hx] at hv
    subst hv
    have hd : editP P i e = (1, P) := by rw [editP, hx]
    rw [hd]
    refine runG09 ?_
    refine s_val (r_eqcn rfl) wnt_none ?_
    refine runG09 ?_
    exact ret_i rfl rfl ⟨rfl, PStep.same hP' hF0⟩
  | some x =>
    rw [hx] at hv
    obtain ⟨c, hc, rfl⟩ := hv
    obtain ⟨hi0, c2, hc2, hlt, hxc⟩ := h.ptr hx
    rw [hc] at hc2
    cases hc2
    obtain ⟨hup, hs0, hs1⟩ := hb x hx
    have hpos := h.pos
    have hlen := h.len
    have hfew := h.few
    refine runG09 ?_
    refine s_val (r_eqcl rfl) wnt_none ?_
    refine runG09 ?_
    refine s_callf (wrong_ret e _) rfl wnt_none ?_
    rintro v w1 ⟨rfl, hf1⟩
    have hF1 : Frm0 w w1 := hF0.trans0 hf1
    have hbox1 := hf1.at0 hbox
    have h1 := h.frm0 hF1
    cases hw : wrongB e with
    | true =>
      have hd : editP P i e = (1, P) := by rw [editP, hx]; simp [hw]
      rw [hd]
      refine runG09 ?_
      exact ret_i rfl rfl ⟨rfl, PStep.same hP' hF1⟩
    | false =>
      obtain ⟨br, bb, cap', rest', ps, as', us, ds, hB⟩ := h1.cli _ c x hc hxc
      have hh := hB.head
      obtain ⟨pa, pc, rfl⟩ := hB.pend.isSl
      by_cases hq : 6 ≤ x.pend.length
      · have hd : editP P i e = (7, P) := by rw [editP, hx]; simp [hw, hq]
        rw [hd]
        refine runG09 ?_
        exact ret_i rfl rfl ⟨rfl, PStep.same hP' hF1⟩
      · have hd : editP P i e = (0, P.set i (editC x e)) := by rw [editP, hx]; simp [hw, hq]
        rw [hd]
        refine runG09 ?_
        refine s_skip (r_store_i (s_ok rfl) rfl rfl hh (by simp)) wnt_none ?_
        have hc0 := hB.own
        have hcp := hB.cpend
        have hcu := hB.cup
        have hclt := at_lt hB.head
        have hpl := hB.pend
        have hsz1 := hF1.size
        have hszb : w.heap.size < w1.heap.size := at_lt hbox1
        have hcw : c < w.heap.size := by
          obtain ⟨_, _, _, _, _, _, _, _, hB0⟩ := h.cli _ c x hc hxc
          exact at_lt hB0.head
        obtain ⟨w2, e2⟩ : ∃ w2, w2 = setB w1 c (cel ([Ptr br, I x.n, .slice pa x.pend.length pc, I x.seq, as', B x.joined, B x.told, us, ds].set (0 + 3) (I (x.seq + 1))) 182) := ⟨_, rfl⟩
        rw [← e2]
        have hB2 : CliB w2 col (k + 10 + 10 * i.toNat) (k + 4) c br bb cap' rest' (.slice pa x.pend.length pc) as' us ds { x with seq := x.seq + 1 } := by
          rw [e2]
          exact hB.put (y := { x with seq := x.seq + 1 }) rfl hB.pend hB.cpend hB.ans hB.cans hB.up hB.cup hB.down hB.cdown (by omega)
        have g2 : CGo k (k + 10 + 10 * i.toNat) w1 w2 col col := by
          rw [e2]
          exact CGo.put h1.high hc0
        have hbox2 : At w2 w.heap.size (cel e.vals 31) := by
          rw [e2]
          exact at_setB_ne _ (by omega) hbox1
        have hsz2 : w2.heap.size = w1.heap.size := by rw [e2, size_setB]
        have hh2 : At w2 c (cel [Ptr br, I x.n, .slice pa x.pend.length pc, I (x.seq + 1), as', B x.joined, B x.told, us, ds] 182) := hB2.head
        have hnc : ¬ InV (.slice pa x.pend.length pc) c := fun h => by have := hcp c h; omega
        have hnx : ¬ InV (.slice pa x.pend.length pc) w.heap.size := fun h => by have := hcp _ h; have := hhi w.heap.size (Nat.le_refl _); omega
        have hi2 := g2.ext.high
        clear e2
        refine runG09 ?_
        refine w_drawn ((0, false) :: (1, false) :: (2, false) :: (3, false) :: (4, false) :: (5, false) :: (6, false) :: (7, false) :: (8, false) :: (9, false) :: (10, false) :: (11, true) :: (12, true) :: (13, false) :: (14, false) :: []) [15] (fun wq => Frm (InV (.slice pa x.pend.length pc)) w2 wq) mixed (by kernel_rfl) ?_ ?_
        · exact Frm.of_drew _
        · refine runG09 ?_
          refine x_q rfl (fun wq hq => r_build rfl (bld_pd _ _ wq)) wnt_none ?_
          refine x_val rfl (r_bs rfl (bs_pd _ _)) wnt_none ((Frm.of_drew w2).alloc _) ?_
          have hFa : Frm0 w2 (w2.drew.alloc (cel (pdV (x.seq + 1, e)) 184)) := (Frm.of_drew w2).alloc _
          obtain ⟨v3, w3, e3, r3, f3, n3⟩ := append_pd (ty := 179) (C := [(x.seq + 1, e)]) (hB2.pend.frm hFa (fun _ _ h => h)) (seg_new rfl) (by show x.pend.length + 1 < 1000000; omega)
          have f3' : Frm (InV (.slice pa x.pend.length pc)) w2 w3 := (hFa.mono (fun _ h => h.elim)).trans f3 (fun b hb => .inl hb)
          have n3' : ∀ b, InV v3 b → InV (.slice pa x.pend.length pc) b ∨ w2.heap.size ≤ b := fun b hb => (n3 b hb).imp id (fun h => Nat.le_trans hFa.size h)
          refine x_val rfl (r_app rfl rfl e3) wnt_none f3' ?_
          have hh3 := f3'.at hnc hh2
          have hB3 := hB2.repend (y := x.pend ++ [(x.seq + 1, e)]) (by omega) f3' r3 n3'
          have g3 := CGo.paint (k0 := k) (o := cel [Ptr br, I x.n, v3, I (x.seq + 1), as', B x.joined, B x.told, us, ds] 182) hi2 hc0 f3' hcp r3.blk (by omega) (by omega)
          have hbox3 := f3'.at hnx hbox2
          obtain ⟨va, vc, rfl⟩ := r3.isSl
          refine runG09 ?_
          refine y_skip rfl (r_store_s (s_ok rfl) rfl rfl hh3 (by simp)) wnt_none ?_
          obtain ⟨w4, e4⟩ : ∃ w4, w4 = setB w3 c (cel ([Ptr br, I x.n, .slice pa x.pend.length pc, I (x.seq + 1), as', B x.joined, B x.told, us, ds].set (0 + 2) (.slice va (x.pend ++ [(x.seq + 1, e)]).length vc)) 182) := ⟨_, rfl⟩
          rw [← e4]
          obtain ⟨col4, ec⟩ : ∃ col4, col4 = paint col w2.heap.size (.slice va (x.pend ++ [(x.seq + 1, e)]).length vc) (k + 10 + 10 * i.toNat + 2) := ⟨_, rfl⟩
          obtain ⟨x4, ex⟩ : ∃ x4 : Cli, x4 = { x with seq := x.seq + 1, pend := x.pend ++ [(x.seq + 1, e)] } := ⟨_, rfl⟩
          have hB4 : CliB w4 col4 (k + 10 + 10 * i.toNat) (k + 4) c br bb cap' rest' (.slice va (x.pend ++ [(x.seq + 1, e)]).length vc) as' us ds x4 := by
            rw [e4, ec, ex]
            exact hB3
          have g4 : CGo k (k + 10 + 10 * i.toNat) w2 w4 col col4 := by
            rw [e4, ec]
            exact g3
          have hbox4 : At w4 w.heap.size (cel e.vals 31) := by
            rw [e4]
            exact at_setB_ne _ (by omega) hbox3
          have g14 := g2.trans g4
          have hi4 := g14.ext.high
          have hc4 := hB4.own
          have hcu4 := hB4.cup
          have hh4 : At w4 c (cel [Ptr br, I x.n, .slice va (x.pend ++ [(x.seq + 1, e)]).length vc, I (x.seq + 1), as', B x.joined, B x.told, us, ds] 182) := by
            have := hB4.head
            rw [ex] at this
            exact this
          have hxl : w.heap.size < w2.heap.size := at_lt hbox2
          have hcx : col4 w.heap.size = 0 := by
            rw [g4.ext.old _ hxl]
            exact hhi _ (Nat.le_refl _)
          clear e4 ec hB3 g3
          cases hj : x.joined with
          | false =>
            have he : editC x e = x4 := by rw [ex, editC]; simp [hj]
            rw [hj] at hh4
            refine runG09 ?_
            rw [he]
            exact ret_i rfl rfl ⟨rfl, PStep.of_frm0 hhi hF1 (h1.go hc g14 ⟨_, _, _, _, _, _, _, _, hB4⟩)⟩
          | true =>
            have he : editC x e = { x4 with up := x4.up ++ [msgE (x.seq + 1) e] } := by rw [ex, editC]; simp [hj]
            have hul : x4.up.length = x.up.length := by rw [ex]
            rw [hj] at hh4
            obtain ⟨ua, uc, rfl⟩ := hB4.up.isSl
            have hnc4 : ¬ InV (.slice ua x4.up.length uc) c := fun h => by have := hcu4 c h; omega
            have hnx4 : ¬ InV (.slice ua x4.up.length uc) w.heap.size := fun h => by have := hcu4 _ h; omega
            refine runG09 ?_
            refine w_drawn ((0, false) :: (1, false) :: (2, false) :: (3, false) :: (4, false) :: (5, false) :: (6, false) :: (7, false) :: (8, false) :: (9, false) :: (10, false) :: (11, true) :: (12, true) :: (13, false) :: (14, false) :: []) [15] (fun wq => Frm (InV (.slice ua x4.up.length uc)) w4 wq) mixed (by kernel_rfl) ?_ ?_
            · exact Frm.of_drew _
            · refine runG09 ?_
              refine x_q rfl (fun wq hq => r_build rfl (bld_msgE _ _ wq)) wnt_none ?_
              refine x_val rfl (r_bs rfl (bs_msg _ _ _ _ _ _)) wnt_none ((Frm.of_drew w4).alloc _) ?_
              have hFa : Frm0 w4 (w4.drew.alloc (cel (msgV (msgE (x.seq + 1) e) (.pointer none) (.slice none 0 0)) 186)) := (Frm.of_drew w4).alloc _
              obtain ⟨v5, w5, e5, r5, f5, n5⟩ := append_msg (ty := 180) (m := msgE (x.seq + 1) e) (hB4.up.frm hFa (fun _ _ h => h) (fun _ _ h => h)) (seg_new rfl) (fun w' _ => plain_msg rfl rfl) (msg_one rfl rfl) (fun b hb hv => by have := hcu4 b hv; omega) (by omega)
              have f5' : Frm (InV (.slice ua x4.up.length uc)) w4 w5 := (hFa.mono (fun _ h => h.elim)).trans f5 (fun b hb => .inl hb)
              have n5' : ∀ b, InV v5 b → InV (.slice ua x4.up.length uc) b ∨ w4.heap.size ≤ b := fun b hb => (n5 b hb).imp id (fun h => Nat.le_trans hFa.size h)
              refine x_val rfl (r_app rfl rfl e5) wnt_none f5' ?_
              have hh5 := f5'.at hnc4 hh4
              have hB5 := hB4.reup (by omega) (by omega) hi4 f5' r5 n5'
              have g5 := CGo.paint (k0 := k) (o := cel [Ptr br, I x4.n, .slice va (x.pend ++ [(x.seq + 1, e)]).length vc, I x4.seq, as', B x4.joined, B x4.told, v5, ds] 182) hi4 hc4 f5' hcu4 (r5.blk) (by omega) (by omega)
              obtain ⟨sa, sc, rfl⟩ := r5.isSl
              refine runG09 ?_
              refine y_skip rfl (r_store_s (s_ok rfl) rfl rfl hh5 (by simp)) wnt_none ?_
              refine runG09 ?_
              have q1 : x4.n = x.n := by rw [ex]
              have q2 : x4.seq = x.seq + 1 := by rw [ex]
              have q3 : x4.joined = true := by rw [ex]; exact hj
              have q4 : x4.told = x.told := by rw [ex]
              have eh : [Ptr br, I x.n, .slice va (x.pend ++ [(x.seq + 1, e)]).length vc, I (x.seq + 1), as', B true, B x.told, .slice ua x4.up.length uc, ds].set (0 + 7) (.slice sa (x4.up ++ [msgE (x.seq + 1) e]).length sc) = [Ptr br, I x4.n, .slice va (x.pend ++ [(x.seq + 1, e)]).length vc, I x4.seq, as', B x4.joined, B x4.told, .slice sa (x4.up ++ [msgE (x.seq + 1) e]).length sc, ds] := by
                rw [q1, q2, q3, q4]
                rfl
              rw [he, eh]
              exact ret_i rfl rfl ⟨rfl, PStep.of_frm0 hhi hF1 (h1.go hc (g14.trans g5) ⟨_, _, _, _, _, _, _, _, hB5⟩)⟩
end Go.Proofs.YtbicffldggcdhaaGreatDoor

namespace Go.Proofs.YtbicffldggcdhaaGreatDoor
open Go

theorem sub_eq : ∀ (l : List Value) (k n : Nat), sub l k n = (l.drop k).take n
  | [], k, n => by simp [sub]
  | x :: l, 0, 0 => by simp [sub]
  | x :: l, 0, n + 1 => by simp [sub, sub_eq l 0 n]
  | x :: l, k + 1, n => by simp [sub, sub_eq l k n]
theorem sub_sub (l : List Value) (o k j m : Nat) (h : j + m ≤ k) : sub (sub l o k) j m = sub l (o + j) m := by
  rw [sub_eq, sub_eq, sub_eq, List.drop_take, List.take_take, List.drop_drop, Nat.min_eq_left (by omega)]
theorem fl_subAt {α : Type} {f : α → List Value} {k : Nat} (hf : ∀ x, (f x).length = k) {l : List α} {i j m : Nat} {x : α} (h : l[i]? = some x) (hj : j + m ≤ k) (skip rest : List Value) : sub (skip ++ (fl f l ++ rest)) (skip.length + i * k + j) m = sub (f x) j m := by
  rw [← fl_sub hf l i x h skip rest, sub_sub _ _ _ _ _ hj]
theorem pd_len (q : Int × Ed) : (pdV q).length = 7 := rfl
theorem msgs_new {w : World} {m : Msg} {F : Nat → Prop} (ht : m.tree = none) (ha : m.ans = []) : MsgsAt (w.alloc (cel (msgV m (.pointer none) (.slice none 0 0)) 186)) F (.slice (some ⟨w.heap.size, 0, none⟩) 1 1) [m] := by
  refine ⟨[msgV m (.pointer none) (.slice none 0 0)], .inr ⟨w.heap.size, [], 1, [], rfl, ?_, ?_, ?_, ?_⟩, rfl, fun i cs y h1 h2 => ?_⟩
  · simpa [fl] using at_alloc_new w (cel (msgV m (.pointer none) (.slice none 0 0)) 186)
  · simp [fl, msgV, Ed.vals, Ent.vals]
  · simp
  · simp
  · cases i with
    | zero =>
      simp at h1 h2
      subst h1 h2
      exact plain_msg ht ha
    | succ i => simp at h1
def joinAt (x : Cli) (j : Nat) : Cli := { x with joined := true, up := msgH x.n :: (x.pend.take j).map fun q => msgE q.1 q.2 }
set_option maxHeartbeats 1000000 in
theorem RJoin_ret {w : World} {col : Nat → Nat} {k p : Nat} {P : Par} (hP : RefP w col k p P) (i : Int) (hb : ∀ x, P.cl i = some x → x.pend.length < 1000000) :
    Rets Tryz.prog 90 [Ptr p, I i] w fun v w' => v = I (joinP P i).1 ∧ PStep w w' col k p (joinP P i).2 := by
  have hP' := hP
  obtain ⟨r, b, cap, rest, es, lb, lcap, lrest, cs, h⟩ := hP
  have hhi := h.high
  have hcl := RClient_ret h i
  refine rets_of Tryz.func90 (by kernel_rfl) rfl Tryz.ntmps90 (Nat.le_of_ble_eq_true rfl) ?_
  refine runG09 ?_
  refine s_callf hcl rfl wnt_none ?_
  rintro v w' ⟨hv, rfl⟩
  cases hx : P.cl i with
  | none =>
    rw [hx] at hv
    subst hv
    have hd : joinP P i = (1, P) := by rw [joinP, hx]
    rw [hd]
    refine runG09 ?_
    refine s_val (r_eqcn rfl) wnt_none ?_
    refine runG09 ?_
    exact ret_i rfl rfl ⟨rfl, PStep.same hP' (Frm.refl _ _)⟩
  | some x =>
    rw [hx] at hv
    obtain ⟨c, hc, rfl⟩ := hv
    obtain ⟨hi0, c2, hc2, hlt, hxc⟩ := h.ptr hx
    rw [hc] at hc2
    cases hc2
    have hpl := hb x hx
    have hpos := h.pos
    have hlen := h.len
    have hfew := h.few
    obtain ⟨br, bb, cap', rest', ps, as', us, ds, hB⟩ := h.cli _ c x hc hxc
    have hh := hB.head
    have hc0 := hB.own
    cases hj : x.joined with
    | true =>
      have hd : joinP P i = (8, P) := by rw [joinP, hx]; simp [hj]
      rw [hd]
      rw [hj] at hh
      refine runG09 ?_
      refine s_val (r_eqcl rfl) wnt_none ?_
      refine runG09 ?_
      exact ret_i rfl rfl ⟨rfl, PStep.same hP' (Frm.refl _ _)⟩
    | false =>
      have hd : joinP P i = (0, P.set i (joinC x)) := by rw [joinP, hx]; simp [hj]
      rw [hd]
      rw [hj] at hh
      refine runG09 ?_
      refine s_val (r_eqcl rfl) wnt_none ?_
      refine runG09 ?_
      refine s_skip (r_store_b (s_ok rfl) rfl rfl hh (by simp)) wnt_none ?_
      obtain ⟨w1, e1⟩ : ∃ w1, w1 = setB w c (cel ([Ptr br, I x.n, ps, I x.seq, as', B false, B x.told, us, ds].set (0 + 5) (B true)) 182) := ⟨_, rfl⟩
      rw [← e1]
      have hB1 : CliB w1 col (k + 10 + 10 * i.toNat) (k + 4) c br bb cap' rest' ps as' us ds { x with joined := true } := by
        rw [e1]
        exact hB.put (y := { x with joined := true }) rfl hB.pend hB.cpend hB.ans hB.cans hB.up hB.cup hB.down hB.cdown (by omega)
      have g1 : CGo k (k + 10 + 10 * i.toNat) w w1 col col := by
        rw [e1]
        exact CGo.put h.high hc0
      have hh1 : At w1 c (cel [Ptr br, I x.n, ps, I x.seq, as', B true, B x.told, us, ds] 182) := hB1.head
      have hi1 := g1.ext.high
      clear e1
      obtain ⟨pa, pc, rfl⟩ := hB.pend.isSl
      obtain ⟨ua, uc, rfl⟩ := hB.up.isSl
      refine runG09 ?_
      refine s_val (r_build rfl (bld_msgH _ _)) wnt_none ?_
      refine s_val (r_bs rfl (bs_msg _ _ _ _ _ _)) wnt_none ?_
      have hFa : Frm0 w1 (w1.alloc (cel (msgV (msgH x.n) (.pointer none) (.slice none 0 0)) 186)) := Frm.of_alloc _ _
      have hh2 := hFa.at0 hh1
      refine runG09 ?_
      refine s_skip (r_store_s (s_ok rfl) rfl rfl hh2 (by simp)) wnt_none ?_
      have hB2 := hB1.reup (v := .slice (some ⟨w1.heap.size, 0, none⟩) 1 1) (y := [msgH x.n]) (by omega) (by omega) hi1 (hFa.mono (fun _ h => h.elim)) (msgs_new rfl rfl) (fun b hb => by obtain ⟨_, _, _, hv⟩ := hb; cases hv; exact .inr (Nat.le_refl _))
      have g2 := CGo.paint (k0 := k) (q := k + 10 + 10 * i.toNat + 4) (u := .slice ua x.up.length uc) (v := .slice (some ⟨w1.heap.size, 0, none⟩) 1 1) (o := cel [Ptr br, I x.n, .slice pa x.pend.length pc, I x.seq, as', B true, B x.told, .slice (some ⟨w1.heap.size, 0, none⟩) 1 1, ds] 182) hi1 hc0 (hFa.mono (fun _ h => h.elim)) hB1.cup (fun b hb => by cases hb; simp) (by omega) (by omega)
      obtain ⟨w2, e2⟩ : ∃ w2, w2 = setB (w1.alloc (cel (msgV (msgH x.n) (.pointer none) (.slice none 0 0)) 186)) c (cel ([Ptr br, I x.n, .slice pa x.pend.length pc, I x.seq, as', B true, B x.told, .slice ua x.up.length uc, ds].set (0 + 7) (.slice (some ⟨w1.heap.size, 0, none⟩) 1 1)) 182) := ⟨_, rfl⟩
      rw [← e2]
      have hB3 : ∃ col2, CliB w2 col2 (k + 10 + 10 * i.toNat) (k + 4) c br bb cap' rest' (.slice pa x.pend.length pc) as' (.slice (some ⟨w1.heap.size, 0, none⟩) 1 1) ds (joinAt x 0) ∧ CGo k (k + 10 + 10 * i.toNat) w w2 col col2 := by
        rw [e2]
        exact ⟨_, hB2, g1.trans g2⟩
      obtain ⟨col2, hB3, g3⟩ := hB3
      clear e2 hB2 g2
      refine runG09 ?_
      refine lp (fun env w' => ∃ env0 col' ua uc, ∃ j : Nat, env = setL env0 [(5, Ptr c), (6, I j)] ∧ j ≤ x.pend.length ∧ CliB w' col' (k + 10 + 10 * i.toNat) (k + 4) c br bb cap' rest' (.slice pa x.pend.length pc) as' (.slice ua (j + 1) uc) ds (joinAt x j) ∧ CGo k (k + 10 + 10 * i.toNat) w w' col col') (fun env _ => x.pend.length - cnt (env 6)) ?_ ?_
      · exact ⟨_, col2, _, _, 0, fixL ⟨rfl, rfl, trivial⟩, by omega, hB3, g3⟩
      · rintro env w3 ⟨env0, col3, ua3, uc3, j, rfl, hj3, hB3, g3⟩
        have hh3 : At w3 c (cel [Ptr br, I x.n, .slice pa x.pend.length pc, I x.seq, as', B true, B x.told, .slice ua3 (j + 1) uc3, ds] 182) := hB3.head
        by_cases hlt3 : j < x.pend.length
        · obtain ⟨q, hq⟩ : ∃ q, x.pend[j]? = some q := ⟨_, List.getElem?_eq_getElem hlt3⟩
          have hrow := hB3.pend
          rcases hrow with ⟨_, h0, _⟩ | ⟨pb, skip, pcap, prest, hpv, hA, hpl2, hpr, hpc⟩
          · exact absurd h0 (by show ¬ x.pend.length = 0; omega)
          · cases hpv
            have hnc : ¬ InV (.slice ua3 (j + 1) uc3) c := fun h => by have := hB3.cup c h; have := hB3.own; omega
            have hnp : ¬ InV (.slice ua3 (j + 1) uc3) pb := fun h => by have := hB3.cup _ h; have := hB3.cpend pb ⟨_, _, _, rfl⟩; omega
            refine runG09 ?_
            refine w_drawn ((0, false) :: (1, false) :: (2, false) :: (3, false) :: (4, false) :: (5, false) :: (6, false) :: (7, false) :: (8, false) :: (9, false) :: (10, false) :: (11, false) :: (12, false) :: (13, false) :: (14, false) :: (15, false) :: (16, false) :: (17, false) :: (18, false) :: (19, false) :: (20, false) :: (21, false) :: (22, true) :: (23, true) :: (24, false) :: (25, false) :: []) [26] (fun wq => Frm (InV (.slice ua3 (j + 1) uc3)) w3 wq) mixed (by kernel_rfl) ?_ ?_
            · exact Frm.of_drew _
            · refine runG09 ?_
              have hg : (skip ++ (fl pdV x.pend ++ prest))[skip.length + (j : Int).toNat * 7]? = some (I q.1) := by
                have := fl_get pd_len hq (show (pdV q)[0]? = some (I q.1) from rfl) skip prest
                rw [Nat.add_zero] at this
                exact this
              refine x_q rfl (fun wq hwq => r_load (u_ok rfl) rfl rfl (hwq.at hnp hA) hg) wnt_none ?_
              refine runG09 ?_
              have hlA : skip.length + (j : Int).toNat * 7 + 1 + 6 ≤ (skip ++ (fl pdV x.pend ++ prest)).length := by
                rw [List.length_append, List.length_append, fl_len pd_len]
                omega
              have hsA : sub (skip ++ (fl pdV x.pend ++ prest)) (skip.length + (j : Int).toNat * 7 + 1) 6 = q.2.vals := by
                rw [show (j : Int).toNat = j by omega]
                exact fl_subAt pd_len hq (by omega) skip prest
              refine x_q rfl (fun wq hwq => r_loadV (vs := q.2.vals) (u_ok rfl) rfl (s_ok rfl) rfl (hwq.at hnp hA) hlA hsA) wnt_none ?_
              refine x_q rfl (fun wq hq => r_build rfl (bld_msgE _ _ wq)) wnt_none ?_
              refine x_val rfl (r_bs rfl (bs_msg _ _ _ _ _ _)) wnt_none ((Frm.of_drew w3).alloc _) ?_
              have hFb : Frm0 w3 (w3.drew.alloc (cel (msgV (msgE q.1 q.2) (.pointer none) (.slice none 0 0)) 186)) := (Frm.of_drew w3).alloc _
              have hul : (joinAt x j).up.length = j + 1 := by simp [joinAt]; omega
              have hcu3 := hB3.cup
              have hi3 := g3.ext.high
              obtain ⟨v5, w5, e5, r5, f5, n5⟩ := append_msg (ty := 180) (m := msgE q.1 q.2) (hB3.up.frm hFb (fun _ _ h => h) (fun _ _ h => h)) (seg_new rfl) (fun w' _ => plain_msg rfl rfl) (msg_one rfl rfl) (fun b hb hv => by have := hcu3 b hv; omega) (by omega)
              have f5' : Frm (InV (.slice ua3 (j + 1) uc3)) w3 w5 := (hFb.mono (fun _ h => h.elim)).trans f5 (fun b hb => .inl hb)
              have n5' : ∀ b, InV v5 b → InV (.slice ua3 (j + 1) uc3) b ∨ w3.heap.size ≤ b := fun b hb => (n5 b hb).imp id (fun h => Nat.le_trans hFb.size h)
              refine x_val rfl (r_app rfl rfl e5) wnt_none f5' ?_
              have hh5 := f5'.at hnc hh3
              have hB5 := hB3.reup (by omega) (by omega) hi3 f5' r5 n5'
              have g5 := CGo.paint (k0 := k) (o := cel [Ptr br, I x.n, .slice (some ⟨pb, skip.length, none⟩) x.pend.length pc, I x.seq, as', B true, B x.told, v5, ds] 182) hi3 hB3.own f5' hcu3 (r5.blk) (by omega) (by omega)
              have hlen5 : ((joinAt x j).up ++ [msgE q.1 q.2]).length = j + 1 + 1 := by simp [hul]
              obtain ⟨sa, sc, rfl⟩ := r5.isSl
              rw [hlen5] at *
              have hnx : { joinAt x j with up := (joinAt x j).up ++ [msgE q.1 q.2] } = joinAt x (j + 1) := by
                simp [joinAt, List.take_add_one, hq]
              rw [hnx] at hB5
              refine runG09 ?_
              refine y_skip rfl (r_store_s (s_ok rfl) rfl rfl hh5 (by simp)) wnt_none ?_
              refine runG09 ?_
              exact ⟨_, rfl, ⟨_, _, sa, sc, j + 1, fixL ⟨rfl, rfl, trivial⟩, by omega, hB5, g3.trans g5⟩, by show x.pend.length - ((j : Int) + 1).toNat < x.pend.length - (j : Int).toNat; omega⟩
        · have hjl : j = x.pend.length := by omega
          subst hjl
          have hnx : joinAt x x.pend.length = joinC x := by simp [joinAt, joinC]
          rw [hnx] at hB3
          refine runG09 ?_
          exact ret_i rfl rfl ⟨rfl, h.go hc g3 ⟨_, _, _, _, _, _, _, _, hB3⟩⟩
end Go.Proofs.YtbicffldggcdhaaGreatDoor

namespace Go.Proofs.YtbicffldggcdhaaGreatDoor
open Go

theorem ent_len (x : Ent) : x.vals.length = 9 := rfl
theorem taken_take {l : List Ent} {i s : Int} {j : Nat} {x : Ent} (hx : l[j]? = some x) (h : taken (l.take j) i s = false) : taken (l.take (j + 1)) i s = decide (x.client = i ∧ x.seq = s) := by
  unfold taken at *
  rw [List.take_add_one, hx, List.any_append, h]
  simp
theorem taken_mono {l : List Ent} {i s : Int} {j : Nat} (h : taken (l.take j) i s = true) : taken l i s = true := by
  unfold taken at *
  rw [List.any_eq_true] at *
  obtain ⟨x, hx, hp⟩ := h
  exact ⟨x, List.mem_of_mem_take hx, hp⟩

set_option maxHeartbeats 1000000 in
theorem taken_ret {w : World} {col : Nat → Nat} {k p r b cap : Nat} {rest : List Value} {es : Value} {lb lcap : Nat} {lrest : List Value} {cs : List Nat} {P : Par} (h : RefB w col k p r b cap rest es lb lcap lrest cs P) (i s : Int) (hb : P.ents.length < 1900000000000) :
    Rets Tryz.prog 112 [Ptr p, I i, I s] w fun v w' => ∃ q : Int, v = I q ∧ decide (0 ≤ q) = taken P.ents i s ∧ w = w' := by
  have h1 := h.head
  obtain ⟨ea, ec, rfl⟩ := h.ents.isSl
  refine rets_of Tryz.func112 (by kernel_rfl) rfl Tryz.ntmps112 (Nat.le_of_ble_eq_true rfl) ?_
  refine runG09 ?_
  refine lp (fun env w' => w = w' ∧ ∃ env0, ∃ j : Nat, env = setL env0 [(0, Ptr p), (1, I i), (2, I s), (7, I j)] ∧ j ≤ P.ents.length ∧ taken (P.ents.take j) i s = false) (fun env _ => P.ents.length - cnt (env 7)) ?_ ?_
  · exact ⟨rfl, _, 0, fixL ⟨rfl, rfl, rfl, rfl, trivial⟩, by omega, by simp [taken]⟩
  · rintro env _ ⟨rfl, env0, j, rfl, hj, hno⟩
    by_cases hlt : j < P.ents.length
    · obtain ⟨x, hx⟩ : ∃ x, P.ents[j]? = some x := ⟨_, List.getElem?_eq_getElem hlt⟩
      have htk := taken_take hx hno
      rcases h.ents with ⟨_, h0, _⟩ | ⟨eb, skip, ecap, erest, hev, hA, hel, her, hec⟩
      · omega
      · cases hev
        have hg0 : (skip ++ (fl Ent.vals P.ents ++ erest))[skip.length + (j : Int).toNat * 9]? = some (I x.client) := by
          have := fl_get ent_len hx (show x.vals[0]? = some (I x.client) from rfl) skip erest
          rw [Nat.add_zero] at this
          exact this
        have hg1 : (skip ++ (fl Ent.vals P.ents ++ erest))[skip.length + (j : Int).toNat * 9 + 1]? = some (I x.seq) := fl_get ent_len hx (show x.vals[1]? = some (I x.seq) from rfl) skip erest
        refine runG09 ?_
        refine s_val (r_load (u_ok rfl) rfl rfl hA hg0) wnt_none ?_
        by_cases hxc : x.client = i
        · refine runG09 ?_
          refine s_val (r_load (u_ok rfl) rfl rfl hA hg1) (by (first | (with_reducible exact wnt_none) | ((with_reducible apply wnt_y); exact rfl; exact rfl; exact rfl; exact rfl; (with_reducible exact rfl)))) ?_
          by_cases hxs : x.seq = s
          · refine runG09 ?_
            refine ret_i rfl rfl ⟨j, rfl, ?_, rfl⟩
            rw [taken_mono (j := j + 1) (by rw [htk]; simp [hxc, hxs])]
            simp
          · refine runG09 ?_
            exact ⟨_, rfl, ⟨rfl, _, j + 1, fixL ⟨rfl, rfl, rfl, rfl, trivial⟩, by omega, by rw [htk]; simp [hxs]⟩, by show P.ents.length - ((j : Int) + 1).toNat < P.ents.length - (j : Int).toNat; omega⟩
        · refine runG09 ?_
          exact ⟨_, rfl, ⟨rfl, _, j + 1, fixL ⟨rfl, rfl, rfl, rfl, trivial⟩, by omega, by rw [htk]; simp [hxc]⟩, by show P.ents.length - ((j : Int) + 1).toNat < P.ents.length - (j : Int).toNat; omega⟩
    · have hjl : j = P.ents.length := by omega
      subst hjl
      rw [List.take_length] at hno
      refine runG09 ?_
      exact ret_i rfl rfl ⟨-1, rfl, by rw [hno]; rfl, rfl⟩
end Go.Proofs.YtbicffldggcdhaaGreatDoor

namespace Go.Proofs.YtbicffldggcdhaaGreatDoor
open Go

def helloAt (P : Par) (x : Cli) (n j : Nat) : Cli := { x with told := true, down := x.down ++ ((P.ents.drop n).take (j - n)).map msgN }
theorem helloAt_succ {P : Par} {x : Cli} {n j : Nat} {y : Ent} (hn : n ≤ j) (hy : P.ents[j]? = some y) : { helloAt P x n j with down := (helloAt P x n j).down ++ [msgN y] } = helloAt P x n (j + 1) := by
  have : (P.ents.drop n)[j - n]? = some y := by rw [List.getElem?_drop, show n + (j - n) = j by omega]; exact hy
  simp [helloAt, show j + 1 - n = (j - n) + 1 by omega, List.take_add_one, this]

theorem ans_len (x : Ans) : x.vals.length = 2 := rfl
theorem ans_one (x : Ans) : ∀ u ∈ x.vals, one u = true := by
  intro u h
  simp only [Ans.vals, List.mem_cons, List.not_mem_nil, or_false] at h
  rcases h with h | h <;> subst h <;> rfl
theorem append_ans {w : World} {v s : Value} {A C : List Ans} {ty : Nat} (hrow : RowO w v 123 2 A.length (fl Ans.vals A)) (hseg : Seg w s 2 C.length (fl Ans.vals C)) (hcap : A.length + C.length < 8000000000000) :
    ∃ v' w', (Builtin.append_ #[114, 114] ty #[v, s]).run Tryz.prog w = .ok v' w' ∧ RowO w' v' 123 2 (A ++ C).length (fl Ans.vals (A ++ C)) ∧ Frm (InV v) w w' ∧ ∀ b, InV v' b → InV v b ∨ w.heap.size ≤ b := by
  obtain ⟨v', w', h1, h2, h3, h4⟩ := appendO (P := Tryz.prog) (sz := 2) (by' := 16) (ty := ty) (sT := 114) (u_ok rfl) (s_ok rfl) (b_ok rfl) (z_ok rfl) rfl hrow hseg (fl_one ans_one C) (by omega) (by omega)
  exact ⟨v', w', h1, by rw [fl_append, List.length_append]; exact h2, h3, h4⟩
theorem bld_ans (a : Int) (b : Bool) (w : World) : (Instr.build 123 [(0, I a), (1, B b)].toArray).run Tryz.prog w = .ok (.agg (Ans.vals ⟨a, b⟩).toArray) w := by kernel_rfl
theorem bs_ans (x : Ans) (w : World) : (Instr.buildSlice 114 1 [(0, .agg x.vals.toArray)].toArray).run Tryz.prog w = .ok (.slice (some ⟨w.heap.size, 0, none⟩) 1 1) (w.alloc (cel x.vals 123)) := by kernel_rfl
theorem bld_msgS (a : Option Addr) (n : Int) (w : World) : (Instr.build 186 [(4, .pointer a), (5, I n)].toArray).run Tryz.prog w = .ok (MsgV (msgS [] n []) (.pointer a) (.slice none 0 0)) w := by kernel_rfl
theorem ansOf_take {l : List Ent} {i : Int} {j : Nat} {y : Ent} (hy : l[j]? = some y) : ansOf (l.take (j + 1)) i = ansOf (l.take j) i ++ if y.client = i then [⟨y.seq, y.done⟩] else [] := by
  unfold ansOf
  rw [List.take_add_one, hy, List.filter_append, List.map_append]
  congr 1
  by_cases h : y.client = i <;> simp [h]
theorem ansOf_le (l : List Ent) (i : Int) : (ansOf l i).length ≤ l.length := by
  unfold ansOf
  rw [List.length_map]
  exact List.length_filter_le _ _
/-- A snapshot under way: its box, its tree, its answers, all new since w1. -/
structure Snap (w1 w' : World) (mb tr tb tcap : Nat) (trest : List Value) (av : Value) (t : List Nd) (n : Int) (l : List Ans) : Prop where
  box : At w' mb (cel (msgV (msgS [] n []) (Ptr tr) av) 186)
  tree : RefT w' tr tb tcap trest t
  row : RowO w' av 123 2 l.length (fl Ans.vals l)
  frm : Frm0 w1 w'
  nm : w1.heap.size ≤ mb
  nt : w1.heap.size ≤ tr
  nb : w1.heap.size ≤ tb
  mt : mb ≠ tr
  mtb : mb ≠ tb
  nv : ∀ b, InV av b → w1.heap.size ≤ b ∧ b ≠ mb ∧ b ≠ tr ∧ b ≠ tb
theorem Snap.put {w1 w' w2 : World} {mb tr tb tcap : Nat} {trest : List Value} {av v : Value} {t : List Nd} {n : Int} {l l2 : List Ans} (h : Snap w1 w' mb tr tb tcap trest av t n l) (f : Frm (InV av) w' w2) (r : RowO w2 v 123 2 l2.length (fl Ans.vals l2)) (nv : ∀ b, InV v b → InV av b ∨ w'.heap.size ≤ b) :
    Snap w1 (setB w2 mb (cel (msgV (msgS [] n []) (Ptr tr) v) 186)) mb tr tb tcap trest v t n l2 := by
  have hm := at_lt h.box
  have ht := at_lt h.tree.head
  have hb := at_lt h.tree.row
  have nv' : ∀ b, InV v b → w1.heap.size ≤ b ∧ b ≠ mb ∧ b ≠ tr ∧ b ≠ tb := fun b hv => by
    rcases nv b hv with h1 | h1
    · exact h.nv b h1
    · have := h.frm.size
      exact ⟨by omega, by omega, by omega, by omega⟩
  have hF : ∀ o, Frm (fun b => b = mb) w2 (setB w2 mb o) := fun o => (Frm.refl (fun b => b = mb) w2).setB (b := mb) (.inl rfl) o
  refine ⟨at_setB _ (f.at (fun hs => (h.nv _ hs).2.1 rfl) h.box), (h.tree.frm f (fun hs => (h.nv _ hs).2.2.1 rfl) (fun hs => (h.nv _ hs).2.2.2 rfl)).frm (hF _) (fun e => h.mt e.symm) (fun e => h.mtb e.symm), r.frm (hF _) (fun b hb e => (nv' b hb).2.1 e), ?_, h.nm, h.nt, h.nb, h.mt, h.mtb, nv'⟩
  exact (h.frm.trans f (fun b hb => .inr (h.nv b hb).1)).setB (.inr h.nm) _

theorem Snap.go {w1 w' : World} {mb tr tb tcap : Nat} {trest : List Value} {av : Value} {t : List Nd} {n : Int} {l : List Ans} {col : Nat → Nat} (k0 k : Nat) (h : Snap w1 w' mb tr tb tcap trest av t n l) (hh : ∀ b, w1.heap.size ≤ b → col b = 0) :
    ∃ col', CGo k0 k w1 w' col col' ∧ col' tr = k0 + 4 ∧ col' tb = k0 + 4 ∧ ∀ b, InV av b → col' b = k0 + 4 := by
  have ht := at_lt h.tree.head
  have hb := at_lt h.tree.row
  have hs := h.frm.size
  refine ⟨fun b => if w1.heap.size ≤ b ∧ (b = tr ∨ b = tb ∨ blkOf av = some b) then k0 + 4 else col b, ⟨⟨fun b hb => if_neg (by omega), fun b hb => ?_, fun b hb => ?_⟩, h.frm.mono (fun _ h => h.elim)⟩, if_pos ⟨h.nt, .inl rfl⟩, if_pos ⟨h.nb, .inr (.inl rfl)⟩, fun b hb => if_pos ⟨(h.nv b hb).1, .inr (.inr (inV_blk hb))⟩⟩
  · show (if _ then _ else _) = 0
    rw [if_neg]
    · exact hh b (by omega)
    · rintro ⟨_, h1 | h1 | h1⟩
      · omega
      · omega
      · have := h.row.blk b h1
        omega
  · show (if _ then _ else _) = 0 ∨ _
    split
    · exact .inr ⟨by omega, by omega⟩
    · exact .inl (hh b hb)

set_option maxRecDepth 4000 in
set_option maxHeartbeats 2000000 in
theorem hello_ret {w : World} {col : Nat → Nat} {k p : Nat} {P : Par} (hP : RefP w col k p P) (i n : Int) {x : Cli} (hx : P.cl i = some x) (hn : 0 ≤ n ∧ n ≤ P.ents.length) (hbe : P.ents.length < 1900000000000) (hbd : x.down.length < 790000000000) :
    Rets Tryz.prog 111 [Ptr p, I i, I n] w fun v w' => v = .tuple #[] ∧ PStep w w' col k p (P.set i (helloC P i x n)) := by
  obtain ⟨N, rfl⟩ := Int.eq_ofNat_of_zero_le hn.1
  obtain ⟨r, b, cap, rest, es, lb, lcap, lrest, cs, h⟩ := hP
  have hhi := h.high
  obtain ⟨hi0, c, hc, hlt, hxc⟩ := h.ptr hx
  have hpos := h.pos
  have hlen := h.len
  have hfew := h.few
  have hlog := h.log
  have hp1 := h.head
  have hp2 := h.row
  have hg : (cs.map Ptr ++ lrest)[0 + i.toNat * 1]? = some (Ptr c) := by
    rw [Nat.zero_add, Nat.mul_one, List.getElem?_append_left (by rw [List.length_map]; omega), List.getElem?_map, hc]
    rfl
  obtain ⟨br, bb, cap', rest', ps, as', us, ds, hB⟩ := h.cli _ c x hc hxc
  have hh := hB.head
  have hc0 := hB.own
  have hpo := h.own
  refine rets_of Tryz.func111 (by kernel_rfl) rfl Tryz.ntmps111 (Nat.le_of_ble_eq_true rfl) ?_
  refine runG09 ?_
  refine s_val (r_load (u_ok rfl) rfl rfl hp2 hg) wnt_none ?_
  refine runG09 ?_
  refine s_skip (r_store_b (s_ok rfl) rfl rfl hh (by simp)) wnt_none ?_
  obtain ⟨w1, e1⟩ : ∃ w1, w1 = setB w c (cel ([Ptr br, I x.n, ps, I x.seq, as', B x.joined, B x.told, us, ds].set (0 + 6) (B true)) 182) := ⟨_, rfl⟩
  rw [← e1]
  have hB1 : CliB w1 col (k + 10 + 10 * i.toNat) (k + 4) c br bb cap' rest' ps as' us ds { x with told := true } := by
    rw [e1]
    exact hB.put (y := { x with told := true }) rfl hB.pend hB.cpend hB.ans hB.cans hB.up hB.cup hB.down hB.cdown (by omega)
  have g1 : CGo k (k + 10 + 10 * i.toNat) w w1 col col := by
    rw [e1]
    exact CGo.put h.high hc0
  have hh1 : At w1 c (cel [Ptr br, I x.n, ps, I x.seq, as', B x.joined, B true, us, ds] 182) := hB1.head
  have hp3 := g1.frm.at (by omega) hp1
  have hi1 := g1.ext.high
  clear e1
  obtain ⟨ea, ec, rfl⟩ := h.ents.isSl
  obtain ⟨da, dc, rfl⟩ := hB.down.isSl
  by_cases hle : (P.ents.length : Int) - N ≤ P.log
  · have hh0 : helloC P i x N = helloAt P x N P.ents.length := by
      rw [helloC, if_pos hle, helloAt, List.take_of_length_le (by simp)]
      rfl
    rw [hh0]
    refine runG09 ?_
    refine w_drawn ((0, false) :: (1, false) :: (2, false) :: (3, false) :: (4, false) :: (5, false) :: (6, false) :: (7, false) :: (8, false) :: (9, false) :: (10, false) :: (11, false) :: (12, false) :: []) [] (fun wq => Frm0 w1 wq) mixed (by kernel_rfl) ?_ ?_
    · exact Frm.of_drew _
    · refine runG09 ?_
      refine lp (fun env w' => ∃ env0 col' da dc m, ∃ j : Nat, env = setL env0 [(0, Ptr p), (6, Ptr c), (7, I j)] ∧ N ≤ j ∧ j ≤ P.ents.length ∧ CliB w' col' (k + 10 + 10 * i.toNat) (k + 4) c br bb cap' rest' ps as' us (.slice da m dc) (helloAt P x N j) ∧ CGo k (k + 10 + 10 * i.toNat) w w' col col') (fun env _ => P.ents.length - cnt (env 7)) ?_ ?_
      · have e0 : helloAt P x N N = { x with told := true } := by simp [helloAt]
        exact ⟨_, col, _, _, _, N, fixL ⟨rfl, rfl, rfl, trivial⟩, Nat.le_refl _, by omega, by rw [e0]; exact hB1.frm (Frm.of_drew (S := fun _ => False) _) (fun _ _ h => h), g1.trans (CGo.frm0 hi1 (Frm.of_drew _))⟩
      · rintro env w3 ⟨env0, col3, da3, dc3, m3, j, rfl, hj3, hj4, hB3, g3⟩
        have hh3 : At w3 c (cel [Ptr br, I x.n, ps, I x.seq, as', B x.joined, B true, us, .slice da3 m3 dc3] 182) := hB3.head
        have hp5 := g3.frm.at (by omega) hp1
        by_cases hlt3 : j < P.ents.length
        · obtain ⟨y, hy⟩ : ∃ y, P.ents[j]? = some y := ⟨_, List.getElem?_eq_getElem hlt3⟩
          rcases h.ents with ⟨_, h0, _⟩ | ⟨eb, skip, ecap, erest, hev, hA, hel, her, hec⟩
          · omega
          · cases hev
            have hceb := h.cents eb ⟨_, _, _, rfl⟩
            have hA3 := g3.frm.at (by omega) hA
            have hlp := at_lt hp1
            have hle' := at_lt hA
            have hc3p := g3.ext.old p hlp
            have hc3e := g3.ext.old eb hle'
            have hcd3 := hB3.cdown
            have hi3 := g3.ext.high
            have hnc : ¬ InV (.slice da3 m3 dc3) c := fun h => by have := hcd3 c h; have := hB3.own; omega
            have hnp : ¬ InV (.slice da3 m3 dc3) p := fun h => by have := hcd3 p h; omega
            have hne : ¬ InV (.slice da3 m3 dc3) eb := fun h => by have := hcd3 _ h; omega
            have hlA : skip.length + (j : Int).toNat * 9 + 9 ≤ (skip ++ (fl Ent.vals P.ents ++ erest)).length := by
              rw [List.length_append, List.length_append, fl_len ent_len]
              omega
            have hsA : sub (skip ++ (fl Ent.vals P.ents ++ erest)) (skip.length + (j : Int).toNat * 9) 9 = y.vals := fl_sub ent_len _ j y hy skip erest
            refine runG09 ?_
            refine w_drawn ((0, false) :: (1, false) :: (2, false) :: (3, false) :: (4, false) :: (5, false) :: (6, false) :: (7, false) :: (8, false) :: (9, false) :: (10, false) :: (11, false) :: (12, false) :: (13, true) :: (14, true) :: (15, false) :: (16, false) :: []) [17] (fun wq => Frm (InV (.slice da3 m3 dc3)) w3 wq) mixed (by kernel_rfl) ?_ ?_
            · exact Frm.of_drew _
            · refine runG09 ?_
              refine x_q rfl (fun wq hwq => r_loadV (vs := y.vals) (u_ok rfl) rfl (s_ok rfl) rfl (hwq.at hne hA3) hlA hsA) wnt_none ?_
              refine x_q rfl (fun wq hq => r_build rfl (bld_msgN _ wq)) wnt_none ?_
              refine x_val rfl (r_bs rfl (bs_msg _ _ _ _ _ _)) wnt_none ((Frm.of_drew w3).alloc _) ?_
              have hFb : Frm0 w3 (w3.drew.alloc (cel (msgV (msgN y) (.pointer none) (.slice none 0 0)) 186)) := (Frm.of_drew w3).alloc _
              have hul : (helloAt P x N j).down.length < 799000000000 := by
                simp [helloAt]
                omega
              obtain ⟨v5, w5, e5, r5, f5, n5⟩ := append_msg (ty := 180) (m := msgN y) (hB3.down.frm hFb (fun _ _ h => h) (fun _ _ h => h)) (seg_new rfl) (fun w' _ => plain_msg rfl rfl) (msg_one rfl rfl) (fun b hb hv => by have := hcd3 b hv; omega) (by omega)
              have f5' : Frm (InV (.slice da3 m3 dc3)) w3 w5 := (hFb.mono (fun _ h => h.elim)).trans f5 (fun b hb => .inl hb)
              have n5' : ∀ b, InV v5 b → InV (.slice da3 m3 dc3) b ∨ w3.heap.size ≤ b := fun b hb => (n5 b hb).imp id (fun h => Nat.le_trans hFb.size h)
              refine x_val rfl (r_app rfl rfl e5) wnt_none f5' ?_
              have hh5 := f5'.at hnc hh3
              have hB5 := hB3.redown (by omega) (by omega) hi3 f5' r5 n5'
              have g5 := CGo.paint (k0 := k) (o := cel [Ptr br, I x.n, ps, I x.seq, as', B x.joined, B true, us, v5] 182) hi3 hB3.own f5' hcd3 (r5.blk) (by omega) (by omega)
              obtain ⟨sa, sc, rfl⟩ := r5.isSl
              rw [helloAt_succ hj3 hy] at hB5
              refine runG09 ?_
              refine y_skip rfl (r_store_s (s_ok rfl) rfl rfl hh5 (by simp)) wnt_none ?_
              refine runG09 ?_
              exact ⟨_, rfl, ⟨_, _, sa, sc, _, j + 1, fixL ⟨rfl, rfl, rfl, trivial⟩, by omega, by omega, hB5, g3.trans g5⟩, by show P.ents.length - ((j : Int) + 1).toNat < P.ents.length - (j : Int).toNat; omega⟩
        · have hjl : j = P.ents.length := by omega
          subst hjl
          refine runG09 ?_
          exact ret_0 rfl ⟨rfl, h.go hc g3 ⟨_, _, _, _, _, _, _, _, hB3⟩⟩
  · have hh0 : helloC P i x N = { x with told := true, down := x.down ++ [msgS P.t P.ents.length (ansOf P.ents i)] } := by rw [helloC, if_neg hle]
    rw [hh0]
    have hW := h.wf
    have hsm := hW.small
    have hT1 : RefT w1 r b cap rest P.t := h.tree.frm g1.frm (by have := h.ctr; omega) (by have := h.ctb; omega)
    refine runG09 ?_
    refine w_drawn ((0, false) :: (1, false) :: (2, false) :: (3, false) :: (4, false) :: (5, false) :: (6, false) :: (7, false) :: (8, false) :: (9, false) :: (10, false) :: (11, false) :: (12, false) :: []) [] (fun wq => Frm0 w1 wq) mixed (by kernel_rfl) ?_ ?_
    · exact Frm.of_drew _
    · refine runG09 ?_
      refine wpIn_mono (Q := fun e act w' => e = .normal ∧ ∃ (env' : Env) (mb tr tb tcap : Nat) (trest : List Value), act = rep 122 [] env' ∧ AllL env' [(0, Ptr p), (1, I i), (6, Ptr c), (8, Ptr mb)] ∧ Snap w1 w' mb tr tb tcap trest (.slice none 0 0) P.t P.ents.length []) ?_ ?_
      · refine w_two [0, 1, 2, 3, 5, 6, 7, 8, 9] 4 11 [(10, false), (11, true), (12, true)] [(4, true), (10, false), (12, true)] (fun wq => Frm0 w1 wq) mixed (by kernel_rfl) ?_ ?_
        · exact (Frm.of_drew _).drew
        · show WpX _ _ _ _ _ [(0, false), (1, false), (2, false), (3, false), (5, false), (6, false), (7, false), (8, false), (9, false)] _ _
          refine runG09 ?_
          have F0 : Frm0 w1 w1.drew.drew := (Frm.of_drew _).drew
          have hone : ∀ u ∈ msgV (msgS [] (P.ents.length : Int) []) (Ptr r) (.slice none 0 0), one u = true := msg_one rfl rfl
          refine ⟨rfl, ?_, ?_⟩
          · refine x_callf rfl (RClone_ret (hT1.frm0 F0) (by omega) hW.ne) rfl wnt_none ?_
            rintro v z1 ⟨⟨tr, tb, tcap, trest, rfl, hT, hntr, hntb⟩, fz⟩
            have F1 : Frm0 w1 z1 := F0.trans0 fz
            have hF1 := F1.size
            have l1 := at_lt hT.head
            have l2 := at_lt hT.row
            refine ⟨F1, ?_⟩
            refine x_q rfl (fun wq hq => r_build rfl (bld_msgS _ _ wq)) wnt_none ?_
            refine x_val rfl (r_allocA (z_ok rfl)) wnt_none (F1.alloc _) ?_
            refine x_skip rfl (r_storeAll (vs := msgV (msgS [] (P.ents.length : Int) []) (Ptr tr) (.slice none 0 0)) (s_ok rfl) rfl rfl (msg_one rfl rfl) (at_alloc_new z1 _) rfl) wnt_none ((F1.alloc _).setB (.inr hF1) _) ?_
            rw [setB_alloc]
            exact x_late (y_nilQ ⟨rfl, _, z1.heap.size, tr, tb, tcap, trest, rfl, ⟨rfl, rfl, rfl, rfl, trivial⟩, ⟨at_alloc_new z1 _, hT.frm0 (Frm.of_alloc _ _), .inl ⟨rfl, rfl, rfl⟩, F1.alloc _, hF1, Nat.le_trans F0.size hntr, Nat.le_trans F0.size hntb, by omega, by omega, fun b hb => (inv_none hb).elim⟩⟩)
          · refine x_val rfl (r_allocA (z_ok rfl)) wnt_none (F0.alloc _) ?_
            refine x_callf rfl (RClone_ret (hT1.frm0 (F0.alloc _)) (by omega) hW.ne) rfl wnt_none ?_
            rintro v z1 ⟨⟨tr, tb, tcap, trest, rfl, hT, hntr, hntb⟩, fz⟩
            have F1 : Frm0 w1 z1 := (F0.alloc _).trans0 fz
            rw [World.size_alloc] at hntr hntb
            have hF0 := F0.size
            have hbx := fz.at0 (at_alloc_new _ _)
            refine ⟨F1, ?_⟩
            refine x_q rfl (fun wq hq => r_build rfl (bld_msgS _ _ wq)) wnt_none ?_
            refine x_skip rfl (r_storeAll (vs := msgV (msgS [] (P.ents.length : Int) []) (Ptr tr) (.slice none 0 0)) (s_ok rfl) rfl rfl (msg_one rfl rfl) hbx rfl) wnt_none (F1.setB (.inr hF0) _) ?_
            exact x_late (y_nilQ ⟨rfl, _, w1.drew.drew.heap.size, tr, tb, tcap, trest, rfl, ⟨rfl, rfl, rfl, rfl, trivial⟩, ⟨at_setB _ hbx, hT.frm (S := fun b => b = w1.drew.drew.heap.size) ((Frm.refl (fun b => b = w1.drew.drew.heap.size) z1).setB (b := w1.drew.drew.heap.size) (.inl rfl) _) (by omega) (by omega), .inl ⟨rfl, rfl, rfl⟩, F1.setB (.inr hF0) _, hF0, by omega, by omega, by omega, by omega, fun b hb => (inv_none hb).elim⟩⟩)
      · rintro e act z ⟨rfl, env', mb, tr, tb, tcap, trest, rfl, hall, hS⟩
        rw [fixL hall]
        refine q_then ?_
        refine runG09 ?_
        refine lp (fun env w' => ∃ env0 aa am ac, ∃ j : Nat, env = setL env0 [(0, Ptr p), (1, I i), (6, Ptr c), (8, Ptr mb), (9, I j)] ∧ j ≤ P.ents.length ∧ Snap w1 w' mb tr tb tcap trest (.slice aa am ac) P.t P.ents.length (ansOf (P.ents.take j) i)) (fun env _ => P.ents.length - cnt (env 9)) ?_ ?_
        · exact ⟨_, _, _, _, 0, fixL ⟨rfl, rfl, rfl, rfl, rfl, trivial⟩, by omega, hS⟩
        · rintro env w3 ⟨env0, aa, am, ac, j, rfl, hj4, hS⟩
          have hp5 := hS.frm.at0 hp3
          have hbx := hS.box
          by_cases hlt3 : j < P.ents.length
          · obtain ⟨y, hy⟩ : ∃ y, P.ents[j]? = some y := ⟨_, List.getElem?_eq_getElem hlt3⟩
            have hat := ansOf_take (i := i) hy
            rcases h.ents with ⟨_, h0, _⟩ | ⟨eb, skip, ecap, erest, hev, hA, hel, her, hec⟩
            · omega
            · cases hev
              have hceb := h.cents eb ⟨_, _, _, rfl⟩
              have hA1 := g1.frm.at (by omega) hA
              have hA3 := hS.frm.at0 hA1
              have hlp := at_lt hp3
              have hle' := at_lt hA1
              have hg0 : (skip ++ (fl Ent.vals P.ents ++ erest))[skip.length + (j : Int).toNat * 9]? = some (I y.client) := by
                have := fl_get ent_len hy (show y.vals[0]? = some (I y.client) from rfl) skip erest
                rw [Nat.add_zero] at this
                exact this
              have hg1 : (skip ++ (fl Ent.vals P.ents ++ erest))[skip.length + (j : Int).toNat * 9 + 1]? = some (I y.seq) := fl_get ent_len hy (show y.vals[1]? = some (I y.seq) from rfl) skip erest
              have hg8 : (skip ++ (fl Ent.vals P.ents ++ erest))[skip.length + (j : Int).toNat * 9 + 8]? = some (B y.done) := fl_get ent_len hy (show y.vals[8]? = some (B y.done) from rfl) skip erest
              refine runG09 ?_
              refine s_val (r_load (u_ok rfl) rfl rfl hA3 hg0) wnt_none ?_
              by_cases hyc : y.client = i
              · rw [if_pos hyc] at hat
                have hnm : ¬ InV (.slice aa am ac) mb := fun h => (hS.nv _ h).2.1 rfl
                have hnp : ¬ InV (.slice aa am ac) p := fun h => by have := (hS.nv _ h).1; omega
                have hne : ¬ InV (.slice aa am ac) eb := fun h => by have := (hS.nv _ h).1; omega
                refine runG09 ?_
                refine w_drawn ((0, false) :: (1, false) :: (2, false) :: (3, false) :: (4, false) :: (5, false) :: (6, false) :: (7, false) :: (8, false) :: (9, false) :: (10, false) :: (11, false) :: (12, false) :: (13, false) :: (14, false) :: (15, false) :: (16, false) :: (17, false) :: (18, false) :: (19, true) :: []) [20, 21, 22] (fun wq => Frm (InV (.slice aa am ac)) w3 wq) mixed (by kernel_rfl) ?_ ?_
                · exact Frm.of_drew _
                · refine runG09 ?_
                  refine x_q rfl (fun wq hwq => r_load (u_ok rfl) rfl rfl (hwq.at hne hA3) hg1) wnt_none ?_
                  refine runG09 ?_
                  refine x_q rfl (fun wq hwq => r_load (u_ok rfl) rfl rfl (hwq.at hne hA3) hg8) wnt_none ?_
                  refine x_q rfl (fun wq hq => r_build rfl (bld_ans _ _ wq)) wnt_none ?_
                  refine x_val rfl (r_bs rfl (bs_ans _ _)) wnt_none ((Frm.of_drew w3).alloc _) ?_
                  have hFb : Frm0 w3 (w3.drew.alloc (cel (Ans.vals ⟨y.seq, y.done⟩) 123)) := (Frm.of_drew w3).alloc _
                  have hal : (ansOf (P.ents.take j) i).length ≤ P.ents.length := Nat.le_trans (ansOf_le _ _) (by rw [List.length_take]; omega)
                  obtain ⟨v5, w5, e5, r5, f5, n5⟩ := append_ans (ty := 114) (C := [⟨y.seq, y.done⟩]) (hS.row.frm hFb (fun _ _ h => h)) (seg_new rfl) (by show (ansOf (P.ents.take j) i).length + 1 < 8000000000000; omega)
                  have f5' : Frm (InV (.slice aa am ac)) w3 w5 := (hFb.mono (fun _ h => h.elim)).trans f5 (fun b hb => .inl hb)
                  have n5' : ∀ b, InV v5 b → InV (.slice aa am ac) b ∨ w3.heap.size ≤ b := fun b hb => (n5 b hb).imp id (fun h => Nat.le_trans hFb.size h)
                  refine x_late (y_val rfl (r_app rfl rfl e5) wnt_none ?_)
                  have hbx5 := f5'.at hnm hbx
                  have hS5 := hS.put f5' r5 n5'
                  obtain ⟨sa, sc, rfl⟩ := r5.isSl
                  rw [← hat] at *
                  refine runG09 ?_
                  refine y_skip rfl (r_store_s (s_ok rfl) rfl rfl hbx5 (show 0 + 19 < 20 by omega)) wnt_none ?_
                  refine runG09 ?_
                  exact ⟨_, rfl, ⟨_, _, _, _, j + 1, fixL ⟨rfl, rfl, rfl, rfl, rfl, trivial⟩, by omega, hS5⟩, by show P.ents.length - ((j : Int) + 1).toNat < P.ents.length - (j : Int).toNat; omega⟩
              · rw [if_neg hyc, List.append_nil] at hat
                refine runG09 ?_
                exact ⟨_, rfl, ⟨_, _, _, _, j + 1, fixL ⟨rfl, rfl, rfl, rfl, rfl, trivial⟩, by omega, by rw [hat]; exact hS⟩, by show P.ents.length - ((j : Int) + 1).toNat < P.ents.length - (j : Int).toNat; omega⟩
          · have hjl : j = P.ents.length := by omega
            subst hjl
            rw [List.take_length] at hS
            obtain ⟨col4, g4, c4t, c4b, c4v⟩ := hS.go k (k + 10 + 10 * i.toNat) hi1
            have hB4 := (hB1.recol g4.ext.old).frm hS.frm (fun _ _ h => h)
            have hi4 := g4.ext.high
            have hcd4 := hB4.cdown
            have hh4 := hS.frm.at0 hh1
            have hnc : ¬ InV (.slice da x.down.length dc) c := fun h => by have := hcd4 c h; have := hB4.own; omega
            have hnm : ¬ InV (.slice da x.down.length dc) mb := fun h => by have := hB1.down.lt h; have := hS.nm; omega
            refine runG09 ?_
            refine w_drawn [(0, false), (1, false), (2, false), (3, false), (4, false), (5, false), (6, true), (7, true), (8, false), (9, false)] [10] (fun wq => Frm (InV (.slice da x.down.length dc)) w3 wq) mixed (by kernel_rfl) ?_ ?_
            · exact Frm.of_drew _
            · refine runG09 ?_
              rw [show sub (msgV (msgS [] (P.ents.length : Int) []) (Ptr tr) (.slice aa am ac)) 0 20 = msgV (msgS P.t P.ents.length (ansOf P.ents i)) (Ptr tr) (.slice aa am ac) from rfl]
              refine x_val rfl (r_bs rfl (bs_msg _ _ _ _ _ _)) wnt_none ((Frm.of_drew w3).alloc _) ?_
              have hFb : Frm0 w3 (w3.drew.alloc (cel (msgV (msgS P.t P.ents.length (ansOf P.ents i)) (Ptr tr) (.slice aa am ac)) 186)) := (Frm.of_drew w3).alloc _
              obtain ⟨v5, w5, e5, r5, f5, n5⟩ := append_msg (ty := 180) (m := msgS P.t P.ents.length (ansOf P.ents i)) (hB4.down.frm hFb (fun _ _ h => h) (fun _ _ h => h)) (seg_new rfl) (fun w' f => ⟨Ptr tr, .slice aa am ac, rfl, ⟨tr, tb, tcap, trest, rfl, (hS.tree.frm0 hFb).frm f (fun hv => by have := hcd4 _ hv; omega) (fun hv => by have := hcd4 _ hv; omega), c4t, c4b, hW⟩, (hS.row.frm hFb (fun _ _ h => h)).frm f (fun b hb hv => by have := hcd4 _ hv; have := c4v b hb; omega), c4v⟩) (msg_one rfl rfl) (fun b hb hv => by have := hcd4 b hv; omega) (by show x.down.length < 799000000000; omega)
              have f5' : Frm (InV (.slice da x.down.length dc)) w3 w5 := (hFb.mono (fun _ h => h.elim)).trans f5 (fun b hb => .inl hb)
              have n5' : ∀ b, InV v5 b → InV (.slice da x.down.length dc) b ∨ w3.heap.size ≤ b := fun b hb => (n5 b hb).imp id (fun h => Nat.le_trans hFb.size h)
              refine x_val rfl (r_app rfl rfl e5) wnt_none f5' ?_
              have hh5 := f5'.at hnc hh4
              have hB5 := hB4.redown (by omega) (by omega) hi4 f5' r5 n5'
              have g5 := CGo.paint (k0 := k) (o := cel [Ptr br, I x.n, ps, I x.seq, as', B x.joined, B true, us, v5] 182) hi4 hB4.own f5' hcd4 (r5.blk) (by omega) (by omega)
              obtain ⟨sa, sc, rfl⟩ := r5.isSl
              refine runG09 ?_
              refine y_skip rfl (r_store_s (s_ok rfl) rfl rfl hh5 (by simp)) wnt_none ?_
              refine runG09 ?_
              exact end_0 rfl ⟨rfl, h.go hc ((g1.trans g4).trans g5) ⟨_, _, _, _, _, _, _, _, hB5⟩⟩
end Go.Proofs.YtbicffldggcdhaaGreatDoor

namespace Go.Proofs.YtbicffldggcdhaaGreatDoor
open Go

/-- A party goes on: colours grow, and only its own blocks change. -/
structure PGo (k : Nat) (w w' : World) (col col' : Nat → Nat) : Prop where
  ext : Ext k w w' col col'
  frm : Frm (fun b => k ≤ col b ∧ col b < k + 100) w w'
theorem PGo.trans {k : Nat} {w w1 w2 : World} {col col1 col2 : Nat → Nat} (h : PGo k w w1 col col1) (g : PGo k w1 w2 col1 col2) : PGo k w w2 col col2 :=
  ⟨h.ext.trans g.ext h.frm.size, h.frm.trans g.frm (fun b hb => by
    rcases Nat.lt_or_ge b w.heap.size with h1 | h1
    · rw [h.ext.old b h1] at hb; exact .inl hb
    · exact .inr h1)⟩
theorem PGo.frm0 {k : Nat} {w w1 : World} {col : Nat → Nat} (hh : ∀ b, w.heap.size ≤ b → col b = 0) (f : Frm0 w w1) : PGo k w w1 col col := ⟨⟨fun _ _ => rfl, fun b hb => hh b (Nat.le_trans f.size hb), fun b hb => .inl (hh b hb)⟩, f.mono (fun _ h => h.elim)⟩
theorem CGo.pgo {k0 k : Nat} {w w' : World} {col col' : Nat → Nat} (h : CGo k0 k w w' col col') (hk : k0 ≤ k ∧ k + 10 ≤ k0 + 100) : PGo k0 w w' col col' := ⟨h.ext, h.frm.mono (fun b hb => .inl (by omega))⟩
theorem PGo.step {k p : Nat} {w w1 w2 : World} {col col1 : Nat → Nat} {Q : Par} (h : PGo k w w1 col col1) (g : PStep w1 w2 col1 k p Q) : PStep w w2 col k p Q := by
  obtain ⟨col2, h1, h2, h3⟩ := g
  have := h.trans ⟨h2, h3⟩
  exact ⟨col2, h1, this.ext, this.frm⟩
theorem PGo.end {k p : Nat} {w w1 : World} {col col1 : Nat → Nat} {Q : Par} (h : PGo k w w1 col col1) (g : RefP w1 col1 k p Q) : PStep w w1 col k p Q := ⟨col1, g, h.ext, h.frm⟩

section
variable {w w' : World} {col col' : Nat → Nat} {k p r b cap : Nat} {rest : List Value} {es : Value} {lb lcap : Nat} {lrest : List Value} {cs : List Nat} {P : Par}
theorem RefB.core {es' : Value} {b' cap' : Nat} {rest' : List Value} {t' : List Nd} {ents' : List Ent} (h : RefB w col k p r b cap rest es lb lcap lrest cs P) (e : Ext k w w' col col') (f : Frm (fun b => k ≤ col b ∧ col b < k + 3) w w')
    (hd : At w' p (cel [I P.clients, I P.log, Ptr r, es', .slice (some ⟨lb, 0, none⟩) cs.length lcap] 163)) (ht : RefT w' r b' cap' rest' t') (cb : col' b' = k + 1) (wf : Wf t') (he : RowO w' es' 54 9 ents'.length (fl Ent.vals ents')) (ce : ∀ b, InV es' b → col' b = k + 2) :
    RefB w' col' k p r b' cap' rest' es' lb lcap lrest cs { P with t := t', ents := ents' } := by
  refine ⟨hd, by rw [e.old _ (at_lt h.head)]; exact h.own, ht, by rw [e.old _ (at_lt h.tree.head)]; exact h.ctr, cb, wf, he, ce, f.at (by have := h.crow; omega) h.row, by rw [e.old _ (at_lt h.row)]; exact h.crow, h.len, fun j d y hd hy => ?_, h.few, h.log, e.high, h.pos⟩
  obtain ⟨br, bb, cap', rest', ps, as', us, ds, hB⟩ := h.cli j d y hd hy
  exact ⟨br, bb, cap', rest', ps, as', us, ds, (hB.recol e.old).frm (S := fun b => b < w.heap.size ∧ k ≤ col b ∧ col b < k + 3) ⟨f.size, fun b o hb hn => f.same b o hb (fun hs => hn ⟨at_lt hb, hs⟩), f.tape, f.os, f.output⟩ (fun b hb hs => by rw [e.old b hs.1] at hb; omega)⟩
theorem RefB.retree {l' : List Nd} (h : RefB w col k p r b cap rest es lb lcap lrest cs P) (ht : RefTo w w' r b l') (f : RFrm r b w w') (wf : Wf l') :
    ∃ b' cap' rest' col', RefB w' col' k p r b' cap' rest' es lb lcap lrest cs { P with t := l' } ∧ PGo k w w' col col' := by
  obtain ⟨b', cap', rest', hT, hb'⟩ := ht
  have hpo := h.own
  have hcr := h.ctr
  have hcb := h.ctb
  have hlr := at_lt h.tree.head
  have f3 : Frm (fun b => k ≤ col b ∧ col b < k + 3) w w' := f.mono (fun x hx => .inl (by rcases hx with rfl | rfl <;> omega))
  have e : Ext k w w' col (fun x => if w.heap.size ≤ x ∧ x = b' then k + 1 else col x) := by
    refine ⟨fun x hx => if_neg (by omega), fun x hx => ?_, fun x hx => ?_⟩
    · show (if _ then _ else _) = 0
      rw [if_neg (by have := at_lt hT.row; omega)]
      exact h.high x (Nat.le_trans f.size hx)
    · show (if _ then _ else _) = 0 ∨ _
      split
      · exact .inr ⟨by omega, by omega⟩
      · exact .inl (h.high x hx)
  have cb : (if w.heap.size ≤ b' ∧ b' = b' then k + 1 else col b') = k + 1 := by
    rcases hb' with rfl | h1
    · split
      · rfl
      · exact hcb
    · exact if_pos ⟨h1, rfl⟩
  refine ⟨b', cap', rest', _, h.core e f3 (f.at (by rintro (h1 | h1) <;> rw [h1] at hpo <;> omega) h.head) hT cb wf (h.ents.frm f (fun x hx hs => by have := h.cents x hx; rcases hs with rfl | rfl <;> omega)) (fun x hx => by have := h.cents x hx; rw [← e.old x (h.ents.lt hx)] at this; exact this), e, f3.mono (fun x hx => .inl (by omega))⟩
theorem RefB.reents {v : Value} {y : List Ent} {w2 : World} (h : RefB w col k p r b cap rest es lb lcap lrest cs P) (f : Frm (InV es) w w2) (rr : RowO w2 v 54 9 y.length (fl Ent.vals y)) (n : ∀ b, InV v b → InV es b ∨ w.heap.size ≤ b) :
    ∃ col', RefB (setB w2 p (cel [I P.clients, I P.log, Ptr r, v, .slice (some ⟨lb, 0, none⟩) cs.length lcap] 163)) col' k p r b cap rest v lb lcap lrest cs { P with ents := y } ∧ PGo k w (setB w2 p (cel [I P.clients, I P.log, Ptr r, v, .slice (some ⟨lb, 0, none⟩) cs.length lcap] 163)) col col' := by
  have hpo := h.own
  have e : Ext k w (setB w2 p (cel [I P.clients, I P.log, Ptr r, v, .slice (some ⟨lb, 0, none⟩) cs.length lcap] 163)) col (paint col w.heap.size v (k + 2)) := (paint_ext h.high f.size rr.blk (by omega)).setB
  have f3 : Frm (fun b => k ≤ col b ∧ col b < k + 3) w (setB w2 p (cel [I P.clients, I P.log, Ptr r, v, .slice (some ⟨lb, 0, none⟩) cs.length lcap] 163)) := (f.mono (fun x hx => .inl (by have := h.cents x hx; omega))).setB (b := p) (.inl (by omega)) _
  have cv := paint_new n h.cents
  have hF : ∀ o, Frm (fun b => b = p) w2 (setB w2 p o) := fun o => (Frm.refl (fun b => b = p) w2).setB (b := p) (.inl rfl) o
  have hp2 := f.at (fun hv => by have := h.cents _ hv; omega) h.head
  refine ⟨_, h.core e f3 (at_setB _ hp2) ((h.tree.frm f (fun hv => by have := h.cents _ hv; have := h.ctr; omega) (fun hv => by have := h.cents _ hv; have := h.ctb; omega)).frm (hF _) (fun e => by have := h.ctr; rw [e] at this; omega) (fun e => by have := h.ctb; rw [e] at this; omega)) ?_ h.wf (rr.frm (hF _) ?_) cv, e, f3.mono (fun x hx => .inl (by omega))⟩
  · rw [paint_old (at_lt h.tree.row)]
    exact h.ctb
  · intro x hx ex
    have h1 := cv x hx
    rw [ex, paint_old (at_lt h.head)] at h1
    omega
theorem RefB.cgo {i c : Nat} {x' : Cli} (h : RefB w col k p r b cap rest es lb lcap lrest cs P) (hc : cs[i]? = some c) (g : CGo k (k + 10 + 10 * i) w w' col col') (hx : CliAt w' col' (k + 10 + 10 * i) (k + 4) c x') : RefB w' col' k p r b cap rest es lb lcap lrest cs { P with cls := P.cls.set i x' } ∧ PGo k w w' col col' := by
  have hl := (List.getElem?_eq_some_iff.1 hc).1
  have := h.len
  have := h.few
  exact ⟨h.client hc g.ext (g.frm.mono (fun b hb => .inl ⟨hb.1, by omega⟩)) hx, g.pgo (by omega)⟩
end
/-- The first message, and the rest. -/
theorem msgs_uncons {w : World} {F : Nat → Prop} {v : Value} {m : Msg} {ms : List Msg} (h : MsgsAt w F v (m :: ms)) :
    ∃ cs b skip cap X, v = .slice (some ⟨b, List.length skip, none⟩) (ms.length + 1) cap ∧ At w b (cel (skip ++ (cs ++ X)) 186) ∧ cs.length = 20 ∧ MsgIs w F cs m ∧
    ∃ s, (∀ w0, (Instr.sliceAt 180 v (some (I 1)) none none).run Tryz.prog w0 = .ok s w0) ∧ MsgsAt w F s ms ∧ ∀ b, InV s b → InV v b := by
  obtain ⟨css, h1, h2, h3⟩ := h
  cases css with
  | nil => simp at h2
  | cons cs css =>
    have hm := h3 0 cs m rfl rfl
    have hl := hm.len
    rcases h1 with ⟨_, h0, _⟩ | ⟨b, skip, cap, rest, hv, hA, q1, q2, q3⟩
    · simp at h0
    · obtain ⟨s, e1, e2, e3⟩ := RowO.tail (P := Tryz.prog) (ty := 180) (n := ms.length) (x := cs) (pre := fl id css) (u_ok rfl) (s_ok rfl) (.inr ⟨b, skip, cap, rest, hv, hA, q1, q2, q3⟩) hl
      refine ⟨cs, b, skip, cap, fl id css ++ rest, hv, by simpa [fl] using hA, hl, hm, s, e1, ⟨css, e2, by simpa using h2, fun i c y hc hy => h3 (i + 1) c y hc hy⟩, e3⟩
theorem bld_ent (a b : Int) (e : Ed) (d : Bool) (w : World) : (Instr.build 54 [(0, I a), (1, I b), (2, EdV e), (3, B d)].toArray).run Tryz.prog w = .ok (.agg (Ent.vals ⟨a, b, e, d⟩).toArray) w := by kernel_rfl
theorem bs_ent (x : Ent) (w : World) : (Instr.buildSlice 46 1 [(0, .agg x.vals.toArray)].toArray).run Tryz.prog w = .ok (.slice (some ⟨w.heap.size, 0, none⟩) 1 1) (w.alloc (cel x.vals 54)) := by kernel_rfl
theorem append_ent {w : World} {v s : Value} {A C : List Ent} {ty : Nat} (hrow : RowO w v 54 9 A.length (fl Ent.vals A)) (hseg : Seg w s 9 C.length (fl Ent.vals C)) (hcap : A.length + C.length < 1900000000001) :
    ∃ v' w', (Builtin.append_ #[46, 46] ty #[v, s]).run Tryz.prog w = .ok v' w' ∧ RowO w' v' 54 9 (A ++ C).length (fl Ent.vals (A ++ C)) ∧ Frm (InV v) w w' ∧ ∀ b, InV v' b → InV v b ∨ w.heap.size ≤ b := by
  obtain ⟨v', w', h1, h2, h3, h4⟩ := appendO (P := Tryz.prog) (sz := 9) (by' := 72) (ty := ty) (sT := 46) (u_ok rfl) (s_ok rfl) (b_ok rfl) (z_ok rfl) rfl hrow hseg (fl_one ent_one C) (by omega) (by omega)
  exact ⟨v', w', h1, by rw [fl_append, List.length_append]; exact h2, h3, h4⟩
/-- The clients of whom the first j were told. -/
def tellAt (x : Ent) (l : List Cli) (j : Nat) : List Cli := (l.take j).map (tell x) ++ l.drop j
theorem tellAt_get {x : Ent} {l : List Cli} {j : Nat} {c : Cli} (h : l[j]? = some c) : (tellAt x l j)[j]? = some c := by
  have hj := (List.getElem?_eq_some_iff.1 h).1
  rw [tellAt, List.getElem?_append_right (by simp; omega)]
  simp [show min j l.length = j by omega, h]
theorem tellAt_succ {x : Ent} {l : List Cli} {j : Nat} {c : Cli} (h : l[j]? = some c) : tellAt x l (j + 1) = (tellAt x l j).set j (tell x c) := by
  have hj := (List.getElem?_eq_some_iff.1 h).1
  have hd : l.drop j = c :: l.drop (j + 1) := by
    rw [List.drop_eq_getElem_cons hj]
    congr 1
    exact (List.getElem?_eq_some_iff.1 h).2
  rw [tellAt, tellAt, List.set_append_right _ _ (by simp; omega), hd, List.take_add_one, h]
  simp [show min j l.length = j by omega]
theorem tellAt_all (x : Ent) (l : List Cli) : tellAt x l l.length = l.map (tell x) := by simp [tellAt]
end Go.Proofs.YtbicffldggcdhaaGreatDoor
