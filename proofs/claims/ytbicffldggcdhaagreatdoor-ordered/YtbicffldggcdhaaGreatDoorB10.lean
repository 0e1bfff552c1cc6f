/-
  WQ21; WQ23; WQ24; WQ25; WRefP5; WRefP6; WRefP7.
-/
import Derived.Test.YtbicffldggcdhaaGreatDoorB09
import Derived.Test.YtbicffldggcdhaaGreatDoorB07
import Derived.Test.YtbicffldggcdhaaGreatDoorB08
import Derived.Test.YtbicffldggcdhaaGreatDoorB06
namespace Go.Proofs.YtbicffldggcdhaaGreatDoor
open Go
theorem runG10 {G K : Prop} (k : K) (h : Wrap K → G := by intro h; (repeat (first | (with_reducible first | refine wpIn_seq ?_ | refine w_reg ?_ | refine s_nil ?_ | refine s_nilQ ?_ | refine wpIn_block ?_ | refine q_then ?_ | refine q_blk ?_ | refine q_then_ret ?_ | refine q_blk_ret ?_ | refine q_then_exit ?_ | refine q_blk_exit ?_ | refine wpIn_skip ?_ | refine wpIn_ret ?_ | refine wpIn_exit ?_ | refine y_nil ?_ | refine y_nilQ ?_ | refine x_late ?_) | ((with_reducible refine q_blk_other ?_ ?_); exact rfl) | ((with_reducible apply c_true); exact rfl; (with_reducible exact rfl)) | ((with_reducible apply c_false); exact rfl; (with_reducible exact rfl)) | ((with_reducible apply s_no); (first | ((with_reducible apply wnt_nt); exact rfl; exact rfl; exact rfl; exact rfl; (with_reducible exact rfl)) | ((with_reducible apply wnt_nf); exact rfl; exact rfl; exact rfl; exact rfl; (with_reducible exact rfl)))) | ((with_reducible apply x_qno); exact rfl; (first | ((with_reducible apply wnt_nt); exact rfl; exact rfl; exact rfl; exact rfl; (with_reducible exact rfl)) | ((with_reducible apply wnt_nf); exact rfl; exact rfl; exact rfl; exact rfl; (with_reducible exact rfl)))) | ((first | with_reducible apply s_val | ((with_reducible apply y_val); exact rfl) | ((with_reducible apply x_q); exact rfl; intro wq hq)); (first | ((with_reducible apply r_assign_if); exact rfl) | ((with_reducible apply r_assign_ni); exact rfl) | ((with_reducible apply r_move_p); exact rfl) | ((with_reducible apply r_nilCheck); exact rfl) | ((with_reducible apply r_load); exact u_ok rfl; exact rfl; exact rfl; (first | exact Frm.at0 hq (by assumption) | exact Frm.at hq (by assumption) (by assumption) | (first | (with_reducible assumption) | assumption | exact at_alloc_new _ _ | (repeat (first | assumption | exact at_alloc_new _ _ | refine at_drew ?_ | refine at_alloc _ ?_)))); (first | exact mid_get rfl | exact mid_get2 rfl | exact mid_get0 rfl | exact rfl)) | ((with_reducible apply r_len); exact u_ok rfl; exact rfl) | ((with_reducible apply r_eql_t); exact rfl; exact rfl; omega) | ((with_reducible apply r_eql_f); exact rfl; exact rfl; omega) | ((with_reducible apply r_eql); exact rfl; exact rfl) | ((with_reducible apply r_index); exact u_ok rfl; exact s_ok rfl; exact rfl; exact rfl; omega; omega) | ((with_reducible apply r_indexarr); exact u_ok rfl; exact s_ok rfl; exact rfl; exact rfl; omega; omega) | ((with_reducible apply r_move_if); exact rfl) | ((with_reducible apply r_move_ni); exact rfl) | ((with_reducible apply r_move_i); exact rfl) | ((with_reducible apply r_fld); exact fa_ok rfl; exact rfl) | ((with_reducible apply r_boxA); exact rfl) | ((with_reducible apply r_box1); exact rfl; exact rfl) | ((with_reducible apply r_mkf); exact rfl) | ((with_reducible apply r_assign_s); exact rfl) | ((with_reducible apply r_move_s); exact rfl) | ((with_reducible apply r_assign_p); exact rfl) | ((with_reducible apply r_lss_t); exact rfl; exact rfl; omega) | ((with_reducible apply r_lss_f); exact rfl; exact rfl; omega) | ((with_reducible apply r_lss); exact rfl; exact rfl) | ((with_reducible apply r_loadA); exact u_ok rfl; exact rfl; exact s_ok rfl; exact rfl; (first | exact Frm.at0 hq (by assumption) | exact Frm.at hq (by assumption) (by assumption) | (first | (with_reducible assumption) | assumption | exact at_alloc_new _ _ | (repeat (first | assumption | exact at_alloc_new _ _ | refine at_drew ?_ | refine at_alloc _ ?_)))); exact Nat.le_of_ble_eq_true rfl) | ((with_reducible apply r_allocA); exact z_ok rfl) | ((with_reducible apply r_alloc1); exact z_ok rfl; exact rfl) | ((with_reducible apply r_add); exact rfl; exact rfl; omega; omega) | ((with_reducible apply r_move_t); exact rfl) | ((with_reducible apply r_extract); exact rfl; exact rfl) | ((with_reducible apply r_neq_t); exact rfl; exact rfl; omega) | ((with_reducible apply r_neq_f); exact rfl; exact rfl; omega) | ((with_reducible apply r_neq); exact rfl; exact rfl) | ((with_reducible apply r_assign_i); exact rfl) | ((with_reducible apply r_assign_b); exact rfl) | ((with_reducible apply r_move_b); exact rfl) | ((with_reducible apply r_geq_t); exact rfl; exact rfl; omega) | ((with_reducible apply r_geq_f); exact rfl; exact rfl; omega) | ((with_reducible apply r_geq); exact rfl; exact rfl) | ((with_reducible apply r_pick_t); exact rfl; (with_reducible exact rfl); exact rfl) | ((with_reducible apply r_pick_f); exact rfl; (with_reducible exact rfl); exact rfl)); (first | (with_reducible exact wnt_none) | ((with_reducible apply wnt_y); exact rfl; exact rfl; exact rfl; exact rfl; (with_reducible exact rfl)))))); exact h.out) : G := h ⟨k⟩

theorem methComing (v : Value) (w : World) : (Go.method (Tryz.prog.types.size + Made.depth) 176 v "orchard/party.reach").run Tryz.prog w = .ok (170, v) w := by kernel_rfl
theorem methReq (v : Value) (w : World) : (Go.method (Tryz.prog.types.size + Made.depth) 147 v "orchard/party.reach").run Tryz.prog w = .ok (164, v) w := by kernel_rfl
theorem methNews (v : Value) (w : World) : (Go.method (Tryz.prog.types.size + Made.depth) 262 v "orchard/party.reach").run Tryz.prog w = .ok (203, v) w := by kernel_rfl
theorem methSnap (v : Value) (w : World) : (Go.method (Tryz.prog.types.size + Made.depth) 266 v "orchard/party.reach").run Tryz.prog w = .ok (209, v) w := by kernel_rfl
/-- What an L is, with which a message that a client comes is met. -/
def LOk (Q : PPar) (i : Int) (L : List Ans) : Prop := ∀ n c us, Q.cl i = some c → c.up = .inl n :: us → (Q.log.length : Int) < Q.n - n → L.Perm (lack Q.vd i n) ∧ L.Pairwise fun a b => a.seq ≤ b.seq
theorem uV_one (u : UMsg) : one (uV u) = true := by cases u <;> rfl
theorem PPar.set_set {Q : PPar} {i : Int} {x y : PCli} : (Q.set i x).set i y = Q.set i y := by simp [PPar.set]
theorem PB.memc {PT : PTy} {w : World} {col : Nat → Nat} {k p t : Nat} {lv : Value} {mb cb cap : Nat} {rest : List Value} {ms : List CM} {Q : PPar} (h : PB PT w col k p t lv mb cb cap rest ms Q) {i : Nat} {m : CM} (hm : ms[i]? = some m) : m.c ∈ Q.cls := by
  rw [h.cls]
  exact List.mem_map_of_mem (List.mem_of_getElem? hm)
theorem lo_ext {k : Nat} {w w' : World} {col col' : Nat → Nat} {ea : List Addr} (hE : Errs w ea) (hlo : (∀ g ∈ errG, col g = 0) ∧ ∀ a ∈ ea, col a.block = 0) (x : Ext k w w' col col') : (∀ g ∈ errG, col' g = 0) ∧ ∀ a ∈ ea, col' a.block = 0 := by
  have h := errs_lt hE
  exact ⟨fun g hg => by rw [x.old g (h.1 g hg)]; exact hlo.1 g hg, fun a ha => by rw [x.old _ (h.2 a ha)]; exact hlo.2 a ha⟩
theorem errs_band {k : Nat} {w w' : World} {col : Nat → Nat} {ea : List Addr} (hE : Errs w ea) (hlo : (∀ g ∈ errG, col g = 0) ∧ ∀ a ∈ ea, col a.block = 0) (hk : 0 < k) (f : Frm (fun b => k ≤ col b ∧ col b < k + 100) w w') : Errs w' ea :=
  hE.frm f (fun g hg h9 => by have := hlo.1 g hg; omega) (fun a ha h9 => by have := hlo.2 a ha; omega)
section
variable {PT : PTy} (sp : TreeSpec PT) (cs : CloneSpec PT) {w w' : World} {col col' : Nat → Nat} {k p t : Nat} {lv lv' : Value} {mb cb cap : Nat} {rest : List Value} {ms : List CM} {Q Q' : PPar}
set_option maxRecDepth 4000 in
set_option maxHeartbeats 1000000 in
theorem bringUp_ret (sp : TreeSpec PT) (cs : CloneSpec PT) (h : PB PT w col k p t lv mb cb cap rest ms Q) {ea : List Addr} (hE : Errs w ea) (hlo : (∀ g ∈ errG, col g = 0) ∧ ∀ a ∈ ea, col a.block = 0) (hb : QB Q) {i : Int} {m : CM} (hi : 0 ≤ i) (hm : ms[i.toNat]? = some m) (hc : Q.cl i = some m.c) :
    Rets Tryz.prog 81 [Ptr p, I i, .pointer (some ⟨cb, (fl CM.vals (ms.take i.toNat)).length + 4 + 2, none⟩)] w fun v w' => ∃ L, LOk Q i L ∧ Bare ea v (upQ Q i L).1 ∧ QStep PT w w' col k p (upQ Q i L).2 := by
  have hA := h.at_ hm
  have hrow := hA.row
  have hmem := h.memc hm
  have hpos := h.pos
  have hk := hA.hk
  have hown := hA.own
  have hlt : i.toNat < ms.length := (List.getElem?_eq_some_iff.1 hm).1
  have hu := hA.m.ups
  have hcu := hA.m.cup
  obtain ⟨g9, ty, kk, hg9, hG⟩ := err9 hE 8 7 rfl
  cases hup : m.c.up with
  | nil =>
    rw [hup] at hu
    obtain ⟨ua, uc, hue⟩ := hu.isSl
    have hue0 : m.up = .slice ua 0 uc := hue
    rw [hue0] at hrow
    have hd : ∀ L, upQ Q i L = (9, Q) := fun L => by rw [upQ, hc]; simp only [hup]
    refine rets_of Tryz.func81 (by kernel_rfl) rfl Tryz.ntmps81 (Nat.le_of_ble_eq_true rfl) ?_
    refine runG10 ?_
    refine ret_if rfl rfl ⟨[], ?_, ?_, ?_⟩
    · intro n c us' hc' hu'
      rw [hc] at hc'
      cases hc'
      rw [hup] at hu'
      cases hu'
    · rw [hd]
      exact .inr ⟨Nat.succ_pos _, g9, rfl, hg9⟩
    · rw [hd]
      exact QStep.same sp ⟨_, _, _, _, _, _, _, h⟩ (Frm.refl _ _)
  | cons u us =>
    rw [hup] at hu
    rcases hu with ⟨_, h0, _⟩ | ⟨ub, ucap, urest, hue, hA1, hul, hur, huc⟩
    · cases h0
    have hue' : m.up = .slice (some ⟨ub, 0, none⟩) (us.length + 1) ucap := hue
    have hA1' : At w ub (cel (uV u :: (us.map uV ++ urest)) 172) := hA1
    rw [hue'] at hrow hcu
    have hnc : ¬ InV (.slice (some ⟨ub, 0, none⟩) (us.length + 1) ucap) cb := fun h9 => by have := hcu cb h9; omega
    have hur' : Row w (.slice (some ⟨ub, 0, none⟩) (us.length + 1) ucap) 172 1 (us.length + 1) ([uV u] ++ us.map uV) := .inr ⟨ub, ucap, urest, rfl, hA1, hul, hur, huc⟩
    have hA' := hA
    rw [hue'] at hA'
    generalize hpre : fl CM.vals (ms.take i.toNat) = pre at *
    generalize hpost : fl CM.vals (ms.drop (i.toNat + 1)) ++ rest = post at *
    refine rets_of Tryz.func81 (by kernel_rfl) rfl Tryz.ntmps81 (Nat.le_of_ble_eq_true rfl) ?_
    refine runG10 ?_
    have huv : ∃ T v, uV u = .iface T v := by cases u <;> exact ⟨_, _, rfl⟩
    obtain ⟨uT, uv, huv⟩ := huv
    rw [huv]
    refine runG10 ?_
    refine s_callf (DelMsg_ret hur' rfl (by intro x hx; obtain ⟨y, _, rfl⟩ := List.mem_map.1 hx; exact uV_one y)) rfl wnt_none ?_
    rintro v w2 ⟨r2, f2, n2⟩
    have hrow2 := f2.at hnc hrow
    have r2' : Row w2 v 172 1 us.length (us.map uV) := r2
    obtain ⟨h3, g3⟩ := hA'.reup sp f2 r2' (fun b hb => .inl (n2 b hb))
    obtain ⟨xa, xc, rfl⟩ := r2'.isSl
    refine runG10 ?_
    refine s_skip (r_store_s (s_ok rfl) rfl rfl hrow2 (by rw [Nat.add_assoc]; exact clt _ _ _ _ _ _ _ _ (by decide))) wnt_none ?_
    rw [set_up]
    subst hpre hpost
    have hB3 := h.client sp (m' := ⟨m.t, m.pd, m.an, .slice xa us.length xc, m.dn, m.bq, m.sq, { m.c with up := us }⟩) hm g3 h3
    generalize setB w2 cb (cel (fl CM.vals (ms.take i.toNat) ++ (cvals m.t m.c.n m.pd m.an m.c.joined m.c.told (.slice xa us.length xc) m.dn ++ (fl CM.vals (ms.drop (i.toNat + 1)) ++ rest))) 119) = w3 at *
    generalize paint col w.heap.size (.slice xa us.length xc) (k + 10 + 10 * i.toNat + 4) = col3 at *
    have G3 := g3.toQ (by omega)
    have hE3 := errs_band hE hlo hpos G3.frm
    have hlo3 := lo_ext hE hlo g3.ext
    have hm3 : (ms.set i.toNat ⟨m.t, m.pd, m.an, .slice xa us.length xc, m.dn, m.bq, m.sq, { m.c with up := us }⟩)[i.toNat]? = some ⟨m.t, m.pd, m.an, .slice xa us.length xc, m.dn, m.bq, m.sq, { m.c with up := us }⟩ := List.getElem?_set_self hlt
    have hcb := hb.cl _ hmem
    cases u with
    | inl n =>
      cases huv
      have hnb := hb.hello _ hmem n us hup
      have hno := hb.n
      refine runG10 ?_
      refine s_inv rfl (methComing _ _) (coming_ret sp cs hB3 hi hm3 n ⟨hnb.1, hnb.2, by show Q.n < _; omega⟩ hb.log hb.vd hcb.2.2.2.1) rfl wnt_none ?_
      rintro v w4 ⟨L, hL, hr⟩
      have hs4 := hB3.res sp hm3 hr
      refine runG10 ?_
      have hd : upQ Q i L = (0, Q.set i { m.c with up := us, told := true, down := m.c.down ++ behindQ Q n L }) := by rw [upQ, hc]; simp only [hup]
      refine ret_ni rfl rfl ⟨L, ?_, ?_, ?_⟩
      · intro n' c us' hc' hu' hlt'
        rw [hc] at hc'
        cases hc'
        rw [hup] at hu'
        cases hu'
        exact hL hlt'
      · rw [hd]; exact .inl ⟨rfl, rfl⟩
      · rw [hd]
        have : ({ Q with cls := Q.cls.set i.toNat { m.c with up := us } } : PPar).set i { m.c with up := us, told := true, down := m.c.down ++ behindQ Q n L } = Q.set i { m.c with up := us, told := true, down := m.c.down ++ behindQ Q n L } := PPar.set_set (x := { m.c with up := us })
        rw [← this]
        exact QStep.trans G3.ext G3.frm hs4
    | inr q9 =>
      obtain ⟨s, e⟩ := q9
      cases huv
      have hsb := hb.req _ hmem s e us hup
      have hno := hb.n
      refine runG10 ?_
      refine s_inv rfl (methReq _ _) (request_ret sp hB3 hE3 hlo3 i s e ⟨hno.1, by show Q.n < _; omega⟩ ⟨by omega, by omega⟩ hb.log (fun c' hc' => ?_)) rfl wnt_none ?_
      · have hc'' : c' ∈ Q.cls.set i.toNat { m.c with up := us } := hc'
        rcases List.mem_or_eq_of_mem_set hc'' with h9 | h9
        · have := (hb.cl _ h9).2.2.2.1; omega
        · subst h9
          show m.c.down.length < _
          omega
      intro v w4 hs4
      refine runG10 ?_
      refine ret_ni rfl rfl ⟨[], ?_, ?_, ?_⟩
      · intro n' c us' hc' hu'
        rw [hc] at hc'
        cases hc'
        rw [hup] at hu'
        cases hu'
      · rw [upQ, hc]
        simp only [hup]
        split <;> exact .inl ⟨rfl, rfl⟩
      · have hd : (upQ Q i []).2 = if hasT Q.vd i s then Q.set i { m.c with up := us } else takeQ (Q.set i { m.c with up := us }) i s e := by
          rw [upQ, hc]
          simp only [hup]
          split <;> rfl
        rw [hd]
        exact QStep.trans G3.ext G3.frm hs4
set_option maxRecDepth 4000 in
set_option maxHeartbeats 1000000 in
theorem bringDown_ret (sp : TreeSpec PT) (h : PB PT w col k p t lv mb cb cap rest ms Q) {ea : List Addr} (hE : Errs w ea) (hlo : (∀ g ∈ errG, col g = 0) ∧ ∀ a ∈ ea, col a.block = 0) (hb : QB Q) {i : Int} {m : CM} (hi : 0 ≤ i) (hm : ms[i.toNat]? = some m) (hc : Q.cl i = some m.c) :
    Rets Tryz.prog 81 [Ptr p, I i, .pointer (some ⟨cb, (fl CM.vals (ms.take i.toNat)).length + 4 + 3, none⟩)] w fun v w' => Bare ea v (downQ Q i).1 ∧ QStep PT w w' col k p (downQ Q i).2 := by
  have hA := h.at_ hm
  have hrow := hA.row
  have hmem := h.memc hm
  have hpos := h.pos
  have hk := hA.hk
  have hq := hA.m.q
  have hown := hA.own
  have hlt : i.toNat < ms.length := (List.getElem?_eq_some_iff.1 hm).1
  have hcu := hA.m.cdown
  have hcb := hb.cl _ hmem
  have hno := hb.n
  obtain ⟨xs, hu, hx⟩ := hA.m.down
  obtain ⟨g9, ty, kk, hg9, hG⟩ := err9 hE 8 7 rfl
  cases hup : m.c.down with
  | nil =>
    rw [hup] at hu
    obtain ⟨ua, uc, hue⟩ := hu.isSl
    have hue0 : m.dn = .slice ua 0 uc := hue
    rw [hue0] at hrow
    have hd : downQ Q i = (9, Q) := by rw [downQ, hc]; simp only [hup]
    rw [hd]
    refine rets_of Tryz.func81 (by kernel_rfl) rfl Tryz.ntmps81 (Nat.le_of_ble_eq_true rfl) ?_
    refine runG10 ?_
    exact ret_if rfl rfl ⟨.inr ⟨Nat.succ_pos _, g9, rfl, hg9⟩, QStep.same sp ⟨_, _, _, _, _, _, _, h⟩ (Frm.refl _ _)⟩
  | cons u us =>
    rw [hup] at hu hx
    rcases hu with ⟨_, h0, _⟩ | ⟨ub, ucap, urest, hue, hA1, hul, hur, huc⟩
    · cases h0
    have hue' : m.dn = .slice (some ⟨ub, 0, none⟩) (us.length + 1) ucap := hue
    obtain ⟨x, xs', hxs⟩ : ∃ x xs', xs = x :: xs' := by
      cases xs with
      | nil => simp at hul
      | cons x xs' => exact ⟨x, xs', rfl⟩
    subst hxs
    have hx0 := hx 0 x u rfl rfl
    have hxl : xs'.length = us.length := by simp at hul; exact hul
    have hA1' : At w ub (cel (x :: (xs' ++ urest)) 172) := hA1
    rw [hue'] at hrow hcu
    have hnc : ¬ InV (.slice (some ⟨ub, 0, none⟩) (us.length + 1) ucap) cb := fun h9 => by have := hcu cb h9; omega
    have hur' : Row w (.slice (some ⟨ub, 0, none⟩) (us.length + 1) ucap) 172 1 (us.length + 1) ([x] ++ xs') := .inr ⟨ub, ucap, urest, rfl, hA1, hul, hur, huc⟩
    have hones : ∀ y ∈ xs', one y = true := fun y hy => by
      obtain ⟨j, hj⟩ := List.getElem?_of_mem hy
      have hjl := (List.getElem?_eq_some_iff.1 hj).1
      exact (hx (j + 1) y _ hj (List.getElem?_eq_getElem (show j + 1 < (u :: us).length by simp; omega))).one
    have hA' := hA
    rw [hue'] at hA'
    generalize hpre : fl CM.vals (ms.take i.toNat) = pre at *
    generalize hpost : fl CM.vals (ms.drop (i.toNat + 1)) ++ rest = post at *
    refine rets_of Tryz.func81 (by kernel_rfl) rfl Tryz.ntmps81 (Nat.le_of_ble_eq_true rfl) ?_
    refine runG10 ?_
    have huv : ∃ T v, x = .iface T v := by
      cases u with
      | inl y => exact ⟨_, _, hx0⟩
      | inr q9 => obtain ⟨a, b, c⟩ := q9; obtain ⟨tp, av, h1, _⟩ := hx0; exact ⟨_, _, h1⟩
    obtain ⟨uT, uv, huv⟩ := huv
    rw [huv]
    refine runG10 ?_
    refine s_callf (DelMsg_ret hur' rfl hones) rfl wnt_none ?_
    rintro v w2 ⟨r2, f2, n2⟩
    have hrow2 := f2.at hnc hrow
    have r2' : DsAt PT w2 (fun b => col b = m.sq) (fun b => col b = k + 10 + 10 * i.toNat + 7) v us := by
      refine ⟨xs', r2, fun j y d hy hd => ?_⟩
      exact (hx (j + 1) y d hy hd).frm sp f2 (fun b hb h9 => by have := hcu b h9; omega) (fun b hb h9 => by have := hcu b h9; omega)
    have hx2 := hx0.frm sp f2 (fun b hb h9 => by have := hcu b h9; omega) (fun b hb h9 => by have := hcu b h9; omega)
    obtain ⟨h3, g3⟩ := hA'.redown sp f2 r2' (fun b hb => .inl (n2 b hb))
    obtain ⟨xa, xc, rfl⟩ := r2'.isSl
    refine runG10 ?_
    refine s_skip (r_store_s (s_ok rfl) rfl rfl hrow2 (by rw [Nat.add_assoc]; exact clt _ _ _ _ _ _ _ _ (by decide))) wnt_none ?_
    rw [set_dn]
    subst hpre hpost
    have hB3 := h.client sp (m' := ⟨m.t, m.pd, m.an, m.up, .slice xa us.length xc, m.bq, m.sq, { m.c with down := us }⟩) hm g3 h3
    have hx3 := hx2.frm sp (S := fun b => b = cb) ((Frm.refl (fun b => b = cb) w2).setB (b := cb) (.inl rfl) (cel (fl CM.vals (ms.take i.toNat) ++ (cvals m.t m.c.n m.pd m.an m.c.joined m.c.told m.up (.slice xa us.length xc) ++ (fl CM.vals (ms.drop (i.toNat + 1)) ++ rest))) 119)) (fun b hb e9 => by subst e9; omega) (fun b hb e9 => by subst e9; omega)
    have hszw : w.heap.size ≤ w2.heap.size := f2.size
    generalize setB w2 cb (cel (fl CM.vals (ms.take i.toNat) ++ (cvals m.t m.c.n m.pd m.an m.c.joined m.c.told m.up (.slice xa us.length xc) ++ (fl CM.vals (ms.drop (i.toNat + 1)) ++ rest))) 119) = w3 at *
    generalize paint col w.heap.size (.slice xa us.length xc) (k + 10 + 10 * i.toNat + 5) = col3 at *
    have G3 := g3.toQ (by omega)
    have hE3 := errs_band hE hlo hpos G3.frm
    have hlo3 := lo_ext hE hlo g3.ext
    have up3 : ∀ {b q}, col b = q → q ≠ 0 → col3 b = q := fun {b q} h2 h3 => by
      rcases Nat.lt_or_ge b w.heap.size with h4 | h4
      · rw [g3.ext.old b h4]; exact h2
      · have := h.high b h4; omega
    have hm3 : (ms.set i.toNat ⟨m.t, m.pd, m.an, m.up, .slice xa us.length xc, m.bq, m.sq, { m.c with down := us }⟩)[i.toNat]? = some ⟨m.t, m.pd, m.an, m.up, .slice xa us.length xc, m.bq, m.sq, { m.c with down := us }⟩ := List.getElem?_set_self hlt
    have hd : downQ Q i = (0, Q.set i (downD i { m.c with down := us } u)) := by rw [downQ, hc]; simp only [hup]
    rw [hd]
    have hss : ({ Q with cls := Q.cls.set i.toNat { m.c with down := us } } : PPar).set i (downD i { m.c with down := us } u) = Q.set i (downD i { m.c with down := us } u) := PPar.set_set (x := { m.c with down := us })
    cases u with
    | inl y =>
      have hy : x = .iface 262 (.agg y.vals.toArray) := hx0
      rw [hy] at huv
      cases huv
      refine runG10 ?_
      refine s_inv rfl (methNews _ _) (news_ret sp hB3 hE3 hlo3 hi hm3 y ⟨hcb.2.2.2.2.1, by show m.c.n < _; have := hcb.2.2.2.2.2; omega⟩ hcb.1 (by show m.c.ans.length < _; omega)) rfl wnt_none ?_
      intro v w4 hr
      have hs4 := hB3.res sp hm3 hr
      refine runG10 ?_
      refine ret_ni rfl rfl ⟨.inl ⟨rfl, rfl⟩, ?_⟩
      rw [← hss]
      exact QStep.trans G3.ext G3.frm hs4
    | inr q9 =>
      obtain ⟨l, n, L⟩ := q9
      obtain ⟨tp, av, hy, hT, hw, hR, hRc⟩ := hx3
      rw [hy] at huv
      cases huv
      have hsn := hb.snap _ hmem l n L us hup
      refine runG10 ?_
      refine s_inv rfl (methSnap _ _) (snapshot_ret sp hB3 hi hm3 (n := n) (sp.weak hT (fun b h1 _ => up3 (q := m.sq) h1 (by omega))) hw hR (fun b hb => up3 (q := k + 10 + 10 * i.toNat + 7) (hRc b hb) (by omega)) hsn.2 hcb.1 (by show m.c.ans.length + L.length < _; omega)) rfl wnt_none ?_
      intro v w4 hr
      have hs4 := hB3.res sp hm3 hr
      refine runG10 ?_
      refine ret_ni rfl rfl ⟨.inl ⟨rfl, rfl⟩, ?_⟩
      rw [← hss]
      exact QStep.trans G3.ext G3.frm hs4
end
end Go.Proofs.YtbicffldggcdhaaGreatDoor

namespace Go.Proofs.YtbicffldggcdhaaGreatDoor
open Go

section
variable {PT : PTy} (sp : TreeSpec PT) (cs : CloneSpec PT) {w w' w1 : World} {col : Nat → Nat} {k p t : Nat} {lv : Value} {mb cb cap : Nat} {rest : List Value} {ms : List CM} {Q Q' : PPar}
theorem up1_ret (sp : TreeSpec PT) (cs : CloneSpec PT) (h : PB PT w col k p t lv mb cb cap rest ms Q) {ea : List Addr} (hE : Errs w ea) (hlo : (∀ g ∈ errG, col g = 0) ∧ ∀ a ∈ ea, col a.block = 0) (hb : QB Q) {i : Int} {m : CM} (hi : 0 ≤ i) (hm : ms[i.toNat]? = some m) (hc : Q.cl i = some m.c) {pb ib : Nat} (hp : At w pb (cel [Ptr p] 45)) (hib : At w ib (cel [I i] 3)) :
    Rets Tryz.prog 80 [.pointer (some ⟨cb, (fl CM.vals (ms.take i.toNat)).length, none⟩), Ptr pb, Ptr ib] w fun v w' => (∃ L, LOk Q i L ∧ Bare ea v (upQ Q i L).1 ∧ QStep PT w w' col k p (upQ Q i L).2) ∧ (v = .nilIface ∨ ∃ a, v = errV a) := by
  refine rets_of Tryz.func80 (by kernel_rfl) rfl Tryz.ntmps80 (Nat.le_of_ble_eq_true rfl) ?_
  refine runG10 ?_
  refine w_drawn [(0, false), (1, false), (2, false), (3, false), (4, false), (5, false)] [6, 7] (fun wq => Frm0 w wq) mixed (by kernel_rfl) ?_ ?_
  · exact Frm.of_drew _
  · refine runG10 ?_
    have hf : Frm0 w w.drew := Frm.of_drew w
    refine y_callf rfl (bringUp_ret sp cs (h.frm0 sp hf) (hE.frm0 hf) hlo hb hi hm hc) rfl wnt_none ?_
    rintro v w2 ⟨L, hL, hv, hs⟩
    have hv' := hv.val
    have hs' := QStep.pre h.high hf hs
    rcases hv' with rfl | ⟨a, rfl⟩
    · refine runG10 ?_
      exact ret_ni rfl rfl ⟨⟨L, hL, hv, hs'⟩, .inl rfl⟩
    · refine runG10 ?_
      exact ret_if rfl rfl ⟨⟨L, hL, hv, hs'⟩, .inr ⟨a, rfl⟩⟩
theorem pup_ret (sp : TreeSpec PT) (cs : CloneSpec PT) (h : PB PT w col k p t lv mb cb cap rest ms Q) {ea : List Addr} (hE : Errs w ea) (hlo : (∀ g ∈ errG, col g = 0) ∧ ∀ a ∈ ea, col a.block = 0) (hb : QB Q) (i : Int) :
    Rets Tryz.prog 55 [Ptr p, I i] w fun v w' => (∃ L, LOk Q i L ∧ Bare ea v (upQ Q i L).1 ∧ QStep PT w w' col k p (upQ Q i L).2) ∧ (v = .nilIface ∨ ∃ a, v = errV a) := by
  have hF0 : Frm0 w ((w.alloc (cel [Ptr p] 45)).alloc (cel [I i] 3)) := ((Frm.refl _ w).alloc _).alloc _
  have hp1 : At ((w.alloc (cel [Ptr p] 45)).alloc (cel [I i] 3)) w.heap.size (cel [Ptr p] 45) := at_alloc _ (at_alloc_new _ _)
  have hi1 : At ((w.alloc (cel [Ptr p] 45)).alloc (cel [I i] 3)) (w.alloc (cel [Ptr p] 45)).heap.size (cel [I i] 3) := at_alloc_new _ _
  refine rets_of Tryz.func55 (by kernel_rfl) rfl Tryz.ntmps55 (Nat.le_of_ble_eq_true rfl) ?_
  refine runG10 ?_
  have h1 := h.frm0 sp hF0
  have hE1 := hE.frm0 hF0
  refine s_callf (let_ret (caps := [Ptr w.heap.size, Ptr (w.alloc (cel [Ptr p] 45)).heap.size]) (φ := fun v w' => (∃ L, LOk Q i L ∧ Bare ea v (upQ Q i L).1 ∧ QStep PT w w' col k p (upQ Q i L).2) ∧ (v = .nilIface ∨ ∃ a, v = errV a)) h1 hE1 i ?_ ?_ (fun v w' hv => hv.2)) rfl wnt_none ?_
  · intro hc w' a f ha
    have hd : upQ Q i [] = (1, Q) := by rw [upQ, hc]
    refine ⟨⟨[], ?_, ?_, ?_⟩, .inr ⟨a, rfl⟩⟩
    · intro n c us hc'
      rw [hc] at hc'
      cases hc'
    · rw [hd]; exact .inr ⟨Nat.succ_pos _, a, rfl, ha⟩
    · rw [hd]; exact QStep.same sp ⟨_, _, _, _, _, _, _, h⟩ (hF0.trans0 f)
  · intro m w' hm hc h0 f
    refine (up1_ret sp cs (h1.frm0 sp f) (hE1.frm0 f) hlo hb h0 hm hc (f.at0 hp1) (f.at0 hi1)).mono ?_
    rintro v w2 ⟨⟨L, hL, hv, hs⟩, hv2⟩
    exact ⟨⟨L, hL, hv, QStep.pre h.high (hF0.trans0 f) hs⟩, hv2⟩
  · intro v w2 hv
    rcases hv.2 with rfl | ⟨a, rfl⟩
    · refine runG10 ?_
      exact ret_ni rfl rfl hv
    · refine runG10 ?_
      exact ret_if rfl rfl hv
theorem PUp_ret (sp : TreeSpec PT) (cs : CloneSpec PT) (hP : PP PT w col k p Q) {ea : List Addr} (hE : Errs w ea) (hlo : (∀ g ∈ errG, col g = 0) ∧ ∀ a ∈ ea, col a.block = 0) (hb : QB Q) (i : Int) :
    Rets Tryz.prog 32 [Ptr p, I i] w fun v w' => ∃ L, LOk Q i L ∧ ErrN ea w w' v (upQ Q i L).1 ed0 ∧ QStep PT w w' col k p (upQ Q i L).2 := by
  obtain ⟨t, lv, mb, cb, cap, rest, ms, h⟩ := hP
  refine rets_of Tryz.func32 (by kernel_rfl) rfl Tryz.ntmps32 (Nat.le_of_ble_eq_true rfl) ?_
  refine runG10 ?_
  refine s_val (r_build rfl (bld_ed0 _)) wnt_none ?_
  refine runG10 ?_
  refine s_callf (pup_ret sp cs h hE hlo hb i) rfl wnt_none ?_
  rintro v w2 ⟨⟨L, hL, hv, hs⟩, _⟩
  refine s_callf (refusal_ret hv ed0) rfl wnt_none ?_
  rintro u w3 ⟨hu, f3, hfr⟩
  have hsz := hs.size
  have hs3 := hs.frm0 sp f3
  rcases hu with ⟨h0, rfl⟩ | ⟨h0, b, a, rfl, hA, ha⟩
  · refine runG10 ?_
    exact ret_ni rfl rfl ⟨L, hL, ⟨.inl ⟨h0, rfl⟩, fun b h => by cases h⟩, hs3⟩
  · refine runG10 ?_
    exact ret_if rfl rfl ⟨L, hL, ⟨.inr ⟨h0, b, a, rfl, hA, ha⟩, fun b' h => Nat.le_trans hsz (hfr b' h)⟩, hs3⟩
theorem down1_ret (sp : TreeSpec PT) (h : PB PT w col k p t lv mb cb cap rest ms Q) {ea : List Addr} (hE : Errs w ea) (hlo : (∀ g ∈ errG, col g = 0) ∧ ∀ a ∈ ea, col a.block = 0) (hb : QB Q) {i : Int} {m : CM} (hi : 0 ≤ i) (hm : ms[i.toNat]? = some m) (hc : Q.cl i = some m.c) {pb ib : Nat} (hp : At w pb (cel [Ptr p] 45)) (hib : At w ib (cel [I i] 3)) :
    Rets Tryz.prog 99 [.pointer (some ⟨cb, (fl CM.vals (ms.take i.toNat)).length, none⟩), Ptr pb, Ptr ib] w fun v w' => Bare ea v (downQ Q i).1 ∧ QStep PT w w' col k p (downQ Q i).2 := by
  refine rets_of Tryz.func99 (by kernel_rfl) rfl Tryz.ntmps99 (Nat.le_of_ble_eq_true rfl) ?_
  refine runG10 ?_
  refine w_drawn [(0, false), (1, false), (2, false), (3, false), (4, false), (5, false)] [6, 7] (fun wq => Frm0 w wq) mixed (by kernel_rfl) ?_ ?_
  · exact Frm.of_drew _
  · refine runG10 ?_
    have hf : Frm0 w w.drew := Frm.of_drew w
    refine y_callf rfl (bringDown_ret sp (h.frm0 sp hf) (hE.frm0 hf) hlo hb hi hm hc) rfl wnt_none ?_
    rintro v w2 ⟨hv, hs⟩
    have hv' := hv.val
    have hs' := QStep.pre h.high hf hs
    rcases hv' with rfl | ⟨a, rfl⟩
    · refine runG10 ?_
      exact ret_ni rfl rfl ⟨hv, hs'⟩
    · refine runG10 ?_
      exact ret_if rfl rfl ⟨hv, hs'⟩
theorem pdown_ret (sp : TreeSpec PT) (h : PB PT w col k p t lv mb cb cap rest ms Q) {ea : List Addr} (hE : Errs w ea) (hlo : (∀ g ∈ errG, col g = 0) ∧ ∀ a ∈ ea, col a.block = 0) (hb : QB Q) (i : Int) :
    Rets Tryz.prog 68 [Ptr p, I i] w fun v w' => Bare ea v (downQ Q i).1 ∧ QStep PT w w' col k p (downQ Q i).2 := by
  have hF0 : Frm0 w ((w.alloc (cel [Ptr p] 45)).alloc (cel [I i] 3)) := ((Frm.refl _ w).alloc _).alloc _
  have hp1 : At ((w.alloc (cel [Ptr p] 45)).alloc (cel [I i] 3)) w.heap.size (cel [Ptr p] 45) := at_alloc _ (at_alloc_new _ _)
  have hi1 : At ((w.alloc (cel [Ptr p] 45)).alloc (cel [I i] 3)) (w.alloc (cel [Ptr p] 45)).heap.size (cel [I i] 3) := at_alloc_new _ _
  refine rets_of Tryz.func68 (by kernel_rfl) rfl Tryz.ntmps68 (Nat.le_of_ble_eq_true rfl) ?_
  refine runG10 ?_
  have h1 := h.frm0 sp hF0
  have hE1 := hE.frm0 hF0
  refine s_callf (let_ret (caps := [Ptr w.heap.size, Ptr (w.alloc (cel [Ptr p] 45)).heap.size]) (φ := fun v w' => Bare ea v (downQ Q i).1 ∧ QStep PT w w' col k p (downQ Q i).2) h1 hE1 i ?_ ?_ (fun v w' hv => hv.1.val)) rfl wnt_none ?_
  · intro hc w' a f ha
    have hd : downQ Q i = (1, Q) := by rw [downQ, hc]
    rw [hd]
    exact ⟨.inr ⟨Nat.succ_pos _, a, rfl, ha⟩, QStep.same sp ⟨_, _, _, _, _, _, _, h⟩ (hF0.trans0 f)⟩
  · intro m w' hm hc h0 f
    refine (down1_ret sp (h1.frm0 sp f) (hE1.frm0 f) hlo hb h0 hm hc (f.at0 hp1) (f.at0 hi1)).mono ?_
    rintro v w2 ⟨hv, hs⟩
    exact ⟨hv, QStep.pre h.high (hF0.trans0 f) hs⟩
  · intro v w2 hv
    rcases hv.1.val with rfl | ⟨a, rfl⟩
    · refine runG10 ?_
      exact ret_ni rfl rfl hv
    · refine runG10 ?_
      exact ret_if rfl rfl hv
theorem PDown_ret (sp : TreeSpec PT) (hP : PP PT w col k p Q) {ea : List Addr} (hE : Errs w ea) (hlo : (∀ g ∈ errG, col g = 0) ∧ ∀ a ∈ ea, col a.block = 0) (hb : QB Q) (i : Int) :
    Rets Tryz.prog 42 [Ptr p, I i] w fun v w' => ErrN ea w w' v (downQ Q i).1 ed0 ∧ QStep PT w w' col k p (downQ Q i).2 := by
  obtain ⟨t, lv, mb, cb, cap, rest, ms, h⟩ := hP
  refine rets_of Tryz.func42 (by kernel_rfl) rfl Tryz.ntmps42 (Nat.le_of_ble_eq_true rfl) ?_
  refine runG10 ?_
  refine s_val (r_build rfl (bld_ed0 _)) wnt_none ?_
  refine runG10 ?_
  refine s_callf (pdown_ret sp h hE hlo hb i) rfl wnt_none ?_
  rintro v w2 ⟨hv, hs⟩
  refine s_callf (refusal_ret hv ed0) rfl wnt_none ?_
  rintro u w3 ⟨hu, f3, hfr⟩
  have hsz := hs.size
  have hs3 := hs.frm0 sp f3
  rcases hu with ⟨h0, rfl⟩ | ⟨h0, b, a, rfl, hA, ha⟩
  · refine runG10 ?_
    exact ret_ni rfl rfl ⟨⟨.inl ⟨h0, rfl⟩, fun b h => by cases h⟩, hs3⟩
  · refine runG10 ?_
    exact ret_if rfl rfl ⟨⟨.inr ⟨h0, b, a, rfl, hA, ha⟩, fun b' h => Nat.le_trans hsz (hfr b' h)⟩, hs3⟩
end
end Go.Proofs.YtbicffldggcdhaaGreatDoor

namespace Go.Proofs.YtbicffldggcdhaaGreatDoor
open Go

theorem bs0_ent (w : World) : (Instr.buildSlice 46 0 #[]).run Tryz.prog w = .ok (.slice (some ⟨w.heap.size, 0, none⟩) 0 0) (w.alloc (cel [] 54)) := by kernel_rfl
theorem bs_ed (e : Ed) (w : World) : (Instr.buildSlice 26 1 [(0, EdV e)].toArray).run Tryz.prog w = .ok (.slice (some ⟨w.heap.size, 0, none⟩) 1 1) (w.alloc (cel e.vals 31)) := by kernel_rfl
theorem append_edQ {w : World} {v s : Value} {A : List Ed} {q : Ed} {ty : Nat} (hrow : Row w v 31 6 A.length (fl Ed.vals A)) (hseg : Seg w s 6 1 q.vals) (hcap : A.length < 1000000) :
    ∃ v' w', (Builtin.append_ #[26, 26] ty #[v, s]).run Tryz.prog w = .ok v' w' ∧ Row w' v' 31 6 (A ++ [q]).length (fl Ed.vals (A ++ [q])) ∧ Frm (InV v) w w' ∧ ∀ b, InV v' b → InV v b ∨ w.heap.size ≤ b := by
  obtain ⟨v', w', h1, h2, h3, h4⟩ := append_seg (P := Tryz.prog) (sz := 6) (by' := 48) (ty := ty) (sT := 26) (u_ok rfl) (u_ok rfl) (fun kk h => by cases h) (s_ok rfl) (b_ok rfl) (z_ok rfl) rfl hrow hseg (edit_one q) (by omega) (by omega)
  exact ⟨v', w', h1, by rw [fl_append, List.length_append]; simpa [fl] using h2, h3, h4⟩
/-- A list that came out: its row is new. -/
def Out (w w' : World) (v : Value) (T sz n : Nat) (pre : List Value) : Prop := Row w' v T sz n pre ∧ (∀ b, InV v b → w.heap.size ≤ b) ∧ Frm0 w w'
section
variable {w : World} {n : Nat} {env : Env} {d : Option Nat} {t ty2 : Nat} {p : String} {af : Array Edge} {g : Option (Nat × Bool)} {x : Operand}
theorem r_slE {b m c : Nat} (hx : ev n env x = .slice (some ⟨b, 0, none⟩) m c) : (execOp (ev n env) ⟨d, .binOp .eql 46 x (.const (.slice none 0 0)) ty2, t, p, af, g⟩).run Tryz.prog w = .ok (.value (.bool false)) w :=
  r_eq2 hx (show ev n env (.const (.slice none 0 0)) = .slice none 0 0 from rfl) rfl (by kernel_rfl)
theorem r_slE0 (hx : ev n env x = .slice none 0 0) : (execOp (ev n env) ⟨d, .binOp .eql 46 x (.const (.slice none 0 0)) ty2, t, p, af, g⟩).run Tryz.prog w = .ok (.value (.bool true)) w :=
  r_eq2 hx (show ev n env (.const (.slice none 0 0)) = .slice none 0 0 from rfl) rfl (by kernel_rfl)
end
theorem row_none {w : World} {T sz : Nat} : Row (w.alloc (cel [] T)) (.slice (some ⟨w.heap.size, 0, none⟩) 0 0) T sz 0 [] := .inr ⟨w.heap.size, 0, [], rfl, at_alloc_new _ _, by simp, by simp, Nat.le_refl _⟩
theorem inv_new {b c n m : Nat} (h : InV (.slice (some ⟨c, 0, none⟩) n m) b) : b = c := by
  obtain ⟨_, _, _, h⟩ := h
  cases h
  rfl
set_option maxHeartbeats 1000000 in
theorem CloneEnt_ret {w : World} {v : Value} {l : List Ent} (h : Row w v 54 9 l.length (fl Ent.vals l)) (hl : l.length < 1000) : Rets Tryz.prog 76 [v] w fun u w' => Out w w' u 54 9 l.length (fl Ent.vals l) := by
  rcases h with ⟨rfl, h0, hp⟩ | ⟨b, cap, rest, rfl, hA, hpl, hr, hc⟩
  · refine rets_of Tryz.func76 (by kernel_rfl) rfl Tryz.ntmps76 (Nat.le_of_ble_eq_true rfl) ?_
    refine runG10 ?_
    refine s_val (r_slE0 rfl) wnt_none ?_
    refine runG10 ?_
    exact ret_s rfl rfl ⟨.inl ⟨rfl, h0, hp⟩, fun b hb => (inv_none hb).elim, Frm.refl _ _⟩
  · have hseg : Seg (w.alloc (cel [] 54)) (.slice (some ⟨b, 0, none⟩) l.length cap) 9 l.length (fl Ent.vals l) := (Row.frm (.inr ⟨b, cap, rest, rfl, hA, hpl, hr, hc⟩) (Frm.of_alloc (S := fun _ => False) w (cel [] 54)) (fun _ _ h => h)).seg
    obtain ⟨v', w', e1, r1, f1, n1⟩ := append_seg (P := Tryz.prog) (sz := 9) (by' := 72) (ty := 46) (sT := 46) (u_ok rfl) (u_ok rfl) (fun kk h => by cases h) (s_ok rfl) (b_ok rfl) (z_ok rfl) rfl (row_none (w := w)) hseg (fl_one ent_one l) (by omega) (by omega)
    rw [Nat.zero_add, List.nil_append] at r1
    obtain ⟨xa, xc, rfl⟩ := r1.isSl
    refine rets_of Tryz.func76 (by kernel_rfl) rfl Tryz.ntmps76 (Nat.le_of_ble_eq_true rfl) ?_
    refine runG10 ?_
    refine s_val (r_slE rfl) wnt_none ?_
    refine runG10 ?_
    refine s_val (r_bs rfl (bs0_ent _)) wnt_none ?_
    refine runG10 ?_
    refine s_val (r_app rfl rfl e1) wnt_none ?_
    refine runG10 ?_
    refine ret_s rfl rfl ⟨r1, fun c hc => ?_, (Frm.of_alloc w _).trans f1 (fun c hc => .inr (by rw [inv_new hc]; exact Nat.le_refl _))⟩
    rcases n1 c hc with h9 | h9
    · rw [inv_new h9]; exact Nat.le_refl _
    · rw [World.size_alloc] at h9; omega
section
variable {PT : PTy} (sp : TreeSpec PT) (cs : CloneSpec PT) {w : World} {col : Nat → Nat} {k0 k cb : Nat} {pre post : List Value} {bq sq t : Nat} {pd an up dn : Value} {c : PCli}
set_option maxHeartbeats 1000000 in
theorem cview_ret (sp : TreeSpec PT) (cs : CloneSpec PT) (h : CAt PT w col k0 k cb pre post bq sq t pd an up dn c) {ea : List Addr} (hE : Errs w ea) (hp : c.pend.length < 1000) :
    Rets Tryz.prog 52 [.pointer (some ⟨cb, pre.length, none⟩)] w fun v w' => ∃ t', v = Ptr t' ∧ PT w' t' (viewD c) (fun b => w.heap.size ≤ b) ∧ Frm0 w w' := by
  have hrow := h.row
  have hElt := errs_lt hE
  obtain ⟨pa, pc, rfl⟩ := h.m.pend.isSl
  refine rets_of Tryz.func52 (by kernel_rfl) rfl Tryz.ntmps52 (Nat.le_of_ble_eq_true rfl) ?_
  refine runG10 ?_
  refine s_callf (cs h.m.base) rfl wnt_none ?_
  rintro v w1 ⟨t', rfl, hT1, f1⟩
  have hrow1 := f1.at0 hrow
  refine runG10 ?_
  refine lp (fun env w' => Frm0 w w' ∧ ∃ env0, ∃ j : Nat, env = setL env0 [(3, Ptr t'), (15, .slice pa c.pend.length pc), (16, I c.pend.length), (17, I j)] ∧ j ≤ c.pend.length ∧ PT w' t' (appAll c.base ((c.pend.map (·.2)).take j)) (fun b => w.heap.size ≤ b)) (fun env _ => c.pend.length - cnt (env 17)) ?_ ?_
  · exact ⟨f1, _, 0, fixL ⟨rfl, rfl, rfl, rfl, trivial⟩, by omega, hT1⟩
  · rintro env w2 ⟨f2, env0, j, rfl, hj, hT2⟩
    by_cases hlt : j < c.pend.length
    · obtain ⟨q, hq⟩ : ∃ q, c.pend[j]? = some q := ⟨_, List.getElem?_eq_getElem hlt⟩
      rcases h.m.pend with ⟨_, h0, _⟩ | ⟨pb, pcap, prest, e9, hA, hpl, hpr, hpc⟩
      · omega
      cases e9
      have hA2 := f2.at0 hA
      have hW2 : Wf (appAll c.base ((c.pend.map (·.2)).take j)) := wf_all _ h.m.wf
      refine runG10 ?_
      refine s_val (r_loadV (vs := pdV q) (u_ok rfl) rfl (s_ok rfl) rfl hA2 (by rw [List.length_append, fl_len (f := pdV) (k := 7) (fun _ => rfl)]; omega) (by
        have := fl_sub (f := pdV) (k := 7) (fun _ => rfl) c.pend j q hq [] prest
        rw [List.nil_append, List.length_nil] at this
        rw [show 0 + (j : Int).toNat * 7 = 0 + j * 7 by omega]
        exact this)) wnt_none ?_
      refine runG10 ?_
      refine s_skip (r_storeAll (vs := pdV q) (s_ok rfl) rfl rfl (pd_one q) (at_alloc_new w2 _) rfl) wnt_none ?_
      have hv3 := at_setB (cel (pdV q) 147) (at_alloc_new w2 (cel [I 0, I 0, I 0, I 0, I 0, I 0, I 0] 147))
      have f3 : Frm0 w2 (setB (w2.alloc (cel [I 0, I 0, I 0, I 0, I 0, I 0, I 0] 147)) w2.heap.size (cel (pdV q) 147)) := (Frm.of_alloc w2 _).setB (.inr (Nat.le_refl _)) _
      generalize setB (w2.alloc (cel [I 0, I 0, I 0, I 0, I 0, I 0, I 0] 147)) w2.heap.size (cel (pdV q) 147) = w3 at *
      refine runG10 ?_
      rw [show sub (pdV q) (0 + 1) 6 = q.2.vals from rfl]
      refine s_callf (sp.apply (ea := ea) q.2 (sp.frm hT2 f3 (fun _ _ h => h)) hW2 (hE.frm0 (f2.trans0 f3)) (fun g hg hs => by have := hElt.1 g hg; omega) (fun a ha hs => by have := hElt.2 a ha; omega)) rfl wnt_none ?_
      rintro v w4 ⟨_, hT4, f4, _⟩
      have he : (c.pend.map (·.2))[j]? = some q.2 := by rw [List.getElem?_map, hq]; rfl
      have s2 := f2.size
      have s3 := f3.size
      refine runG10 ?_
      refine ⟨_, rfl, ⟨(f2.trans0 f3).trans f4 (fun b hb => .inr hb), _, j + 1, fixL ⟨rfl, rfl, rfl, rfl, trivial⟩, by omega, ?_⟩, by show c.pend.length - ((j : Int) + 1).toNat < c.pend.length - (j : Int).toNat; omega⟩
      rw [appAll_step he]
      exact sp.weak hT4 (fun b hb _ => by omega)
    · have hjl : j = c.pend.length := by omega
      have hall : appAll c.base ((c.pend.map (·.2)).take j) = viewD c := by
        rw [List.take_of_length_le (by rw [List.length_map]; omega)]
        rfl
      rw [hall] at hT2
      refine runG10 ?_
      exact ret_p rfl rfl ⟨t', rfl, hT2, f2⟩
set_option maxHeartbeats 1000000 in
theorem waiting_ret (_sp : TreeSpec PT) (h : CAt PT w col k0 k cb pre post bq sq t pd an up dn c) (hp : c.pend.length < 1000) :
    Rets Tryz.prog 53 [.pointer (some ⟨cb, pre.length, none⟩)] w fun v w' => Out w w' v 31 6 (c.pend.map (·.2)).length (fl Ed.vals (c.pend.map (·.2))) := by
  have hrow := h.row
  obtain ⟨pa, pc, rfl⟩ := h.m.pend.isSl
  refine rets_of Tryz.func53 (by kernel_rfl) rfl Tryz.ntmps53 (Nat.le_of_ble_eq_true rfl) ?_
  refine runG10 ?_
  refine lp (fun env w' => Frm0 w w' ∧ ∃ env0, ∃ j : Nat, ∃ va vc, env = setL env0 [(3, .slice va j vc), (9, .slice pa c.pend.length pc), (10, I c.pend.length), (11, I j)] ∧ j ≤ c.pend.length ∧ Row w' (.slice va j vc) 31 6 ((c.pend.map (·.2)).take j).length (fl Ed.vals ((c.pend.map (·.2)).take j)) ∧ ∀ b, InV (.slice va j vc) b → w.heap.size ≤ b) (fun env _ => c.pend.length - cnt (env 11)) ?_ ?_
  · exact ⟨Frm.refl _ _, _, 0, none, 0, fixL ⟨rfl, rfl, rfl, rfl, trivial⟩, by omega, Row.nil, fun b hb => (inv_none hb).elim⟩
  · rintro env w2 ⟨f2, env0, j, va, vc, rfl, hj, hR, hnew⟩
    have hjl : ((c.pend.map (·.2)).take j).length = j := by rw [List.length_take, List.length_map]; omega
    by_cases hlt : j < c.pend.length
    · obtain ⟨q, hq⟩ : ∃ q, c.pend[j]? = some q := ⟨_, List.getElem?_eq_getElem hlt⟩
      rcases h.m.pend with ⟨_, h0, _⟩ | ⟨pb, pcap, prest, e9, hA, hpl, hpr, hpc⟩
      · omega
      cases e9
      have hA2 := f2.at0 hA
      refine runG10 ?_
      refine s_val (r_loadV (vs := pdV q) (u_ok rfl) rfl (s_ok rfl) rfl hA2 (by rw [List.length_append, fl_len (f := pdV) (k := 7) (fun _ => rfl)]; omega) (by
        have := fl_sub (f := pdV) (k := 7) (fun _ => rfl) c.pend j q hq [] prest
        rw [List.nil_append, List.length_nil] at this
        rw [show 0 + (j : Int).toNat * 7 = 0 + j * 7 by omega]
        exact this)) wnt_none ?_
      refine runG10 ?_
      refine s_skip (r_storeAll (vs := pdV q) (s_ok rfl) rfl rfl (pd_one q) (at_alloc_new w2 _) rfl) wnt_none ?_
      have hv3 := at_setB (cel (pdV q) 147) (at_alloc_new w2 (cel [I 0, I 0, I 0, I 0, I 0, I 0, I 0] 147))
      have f3 : Frm0 w2 (setB (w2.alloc (cel [I 0, I 0, I 0, I 0, I 0, I 0, I 0] 147)) w2.heap.size (cel (pdV q) 147)) := (Frm.of_alloc w2 _).setB (.inr (Nat.le_refl _)) _
      generalize setB (w2.alloc (cel [I 0, I 0, I 0, I 0, I 0, I 0, I 0] 147)) w2.heap.size (cel (pdV q) 147) = w3 at *
      refine runG10 ?_
      rw [show sub (pdV q) (0 + 1) 6 = q.2.vals from rfl]
      refine s_val (r_bs rfl (bs_ed q.2 _)) wnt_none ?_
      have f4 : Frm0 w3 (w3.alloc (cel q.2.vals 31)) := Frm.of_alloc _ _
      obtain ⟨v5, w5, e5, r5, f5, n5⟩ := append_edQ (ty := 26) (A := (c.pend.map (·.2)).take j) (q := q.2) (hR.frm (f3.trans0 f4) (fun _ _ h => h)) (seg_new rfl) (by omega)
      have he : (c.pend.map (·.2))[j]? = some q.2 := by rw [List.getElem?_map, hq]; rfl
      rw [← take_snoc he] at r5
      obtain ⟨va5, vc5, e6⟩ := r5.isSl
      have hj5 : ((c.pend.map (·.2)).take (j + 1)).length = j + 1 := by rw [List.length_take, List.length_map]; omega
      rw [hj5] at e6
      subst e6
      refine s_val (r_app rfl rfl e5) wnt_none ?_
      have s2 := f2.size
      have s3 := (f3.trans0 f4).size
      refine runG10 ?_
      refine ⟨_, rfl, ⟨((f2.trans0 f3).trans0 f4).trans f5 (fun b hb => .inr (hnew b hb)), _, j + 1, va5, vc5, fixL ⟨rfl, rfl, rfl, rfl, trivial⟩, by omega, r5, fun b hb => ?_⟩, by show c.pend.length - ((j : Int) + 1).toNat < c.pend.length - (j : Int).toNat; omega⟩
      rcases n5 b hb with h9 | h9
      · exact hnew b h9
      · omega
    · have hje : j = c.pend.length := by omega
      rw [List.take_of_length_le (by rw [List.length_map]; omega)] at hR
      refine runG10 ?_
      exact ret_s rfl rfl ⟨hR, hnew, f2⟩
end
end Go.Proofs.YtbicffldggcdhaaGreatDoor

namespace Go.Proofs.YtbicffldggcdhaaGreatDoor
open Go

theorem res_3 {P : Program} {w : World} {n : Nat} {ds : List Deferred} {env : Env} {fn : Func} {t u s : Nat} (hr : fn.results = #[.tmp t, .tmp u, .tmp s]) : (results fn (rep n ds env).tmps).run P w = .ok (.tuple #[ev n env (.tmp t), ev n env (.tmp u), ev n env (.tmp s)]) w := by
  rw [← tmp_getD n ds, ← tmp_getD n ds, ← tmp_getD n ds]
  simp [results, hr]
theorem ret_3 {P : Program} {w : World} {n : Nat} {env : Env} {fn : Func} {t u s : Nat} {v1 v2 v3 : Value} {φ : Value → World → Prop} (hr : fn.results = #[.tmp t, .tmp u, .tmp s]) (hv1 : ev n env (.tmp t) = v1) (hv2 : ev n env (.tmp u) = v2) (hv3 : ev n env (.tmp s) = v3) (h : φ (.tuple #[v1, v2, v3]) w) : bodyPost P fn (fun e w' => ∃ v, e = .returned v ∧ φ v w') .ret (rep n [] env) w :=
  ret_run (res_3 hr) (by rw [hv1, hv2, hv3]; exact h)
theorem ErrIs.one1 {ea : List Addr} {w : World} {v : Value} {e : Ed} (h : ErrIs ea w v 1 e) : ∃ b a, v = .iface 95 (Ptr b) ∧ At w b (cel (e.vals ++ [errV a]) 97) ∧ ea[0]? = some a := by
  rcases h with ⟨h, _⟩ | ⟨_, b, a, h1, h2, h3⟩
  · cases h
  · exact ⟨b, a, h1, h2, h3⟩
section
variable {PT : PTy} (sp : TreeSpec PT) (cs : CloneSpec PT) {w : World} {col : Nat → Nat} {k p : Nat} {Q : PPar}
set_option maxHeartbeats 1000000 in
theorem PView_ret (sp : TreeSpec PT) (cs : CloneSpec PT) (hP : PP PT w col k p Q) {ea : List Addr} (hE : Errs w ea) (hb : QB Q) (i : Int) :
    Rets Tryz.prog 29 [Ptr p, I i] w fun v w' => (match Q.cl i with | none => ∃ u, v = .tuple #[.pointer none, u] ∧ ErrIs ea w' u 1 ed0 | some c => ∃ t, v = .tuple #[Ptr t, .nilIface] ∧ PT w' t (viewD c) (fun b => w.heap.size ≤ b) ∧ Wf (viewD c)) ∧ Frm0 w w' := by
  obtain ⟨t, lv, mb, cb, cap, rest, ms, h⟩ := hP
  have hcl := h.cl i
  refine rets_of Tryz.func29 (by kernel_rfl) rfl Tryz.ntmps29 (Nat.le_of_ble_eq_true rfl) ?_
  refine runG10 ?_
  refine s_callf (find_ret h hE i) rfl wnt_none ?_
  rintro v w1 ⟨hv, f1⟩
  cases hc : Q.cl i with
  | none =>
    rw [hc] at hv
    obtain ⟨a, rfl, ha⟩ := hv
    refine runG10 ?_
    refine s_val (r_nnT rfl) wnt_none ?_
    refine runG10 ?_
    refine s_val (r_build rfl (bld_ed0 _)) wnt_none ?_
    refine runG10 ?_
    refine s_callf (refusal_ret (n := 1) (.inr ⟨Nat.succ_pos _, a, rfl, ha⟩) ed0) rfl wnt_none ?_
    rintro u w2 ⟨hu, f2, _⟩
    obtain ⟨b, a2, rfl, _⟩ := hu.one1
    refine runG10 ?_
    exact ret_2 rfl rfl rfl ⟨⟨_, rfl, hu⟩, f1.trans0 f2⟩
  | some c =>
    rw [hc] at hv
    obtain ⟨m, hm, h0, rfl⟩ := hv
    have hcm : c = m.c := by
      rw [hcl, if_neg (by omega), hm] at hc
      exact (Option.some.inj hc).symm
    subst hcm
    have h1 := h.frm0 sp f1
    have hmem : m.c ∈ Q.cls := by rw [h.cls]; exact List.mem_map_of_mem (List.mem_of_getElem? hm)
    refine runG10 ?_
    refine s_val (r_nnF rfl) wnt_none ?_
    refine runG10 ?_
    refine s_callf (cview_ret sp cs (h1.at_ hm) (hE.frm0 f1) (hb.cl _ hmem).1) rfl wnt_none ?_
    rintro v w2 ⟨t', rfl, hT, f2⟩
    have s1 := f1.size
    refine runG10 ?_
    exact ret_2 rfl rfl rfl ⟨⟨t', rfl, sp.weak hT (fun b hb _ => by omega), wf_all _ (h1.at_ hm).m.wf⟩, f1.trans0 f2⟩
set_option maxHeartbeats 1000000 in
theorem PBase_ret (sp : TreeSpec PT) (cs : CloneSpec PT) (hP : PP PT w col k p Q) {ea : List Addr} (hE : Errs w ea) (i : Int) :
    Rets Tryz.prog 26 [Ptr p, I i] w fun v w' => (match Q.cl i with | none => ∃ u, v = .tuple #[.pointer none, I 0, u] ∧ ErrIs ea w' u 1 ed0 | some c => ∃ t, v = .tuple #[Ptr t, I c.n, .nilIface] ∧ PT w' t c.base (fun b => w.heap.size ≤ b) ∧ Wf c.base) ∧ Frm0 w w' := by
  obtain ⟨t, lv, mb, cb, cap, rest, ms, h⟩ := hP
  have hcl := h.cl i
  refine rets_of Tryz.func26 (by kernel_rfl) rfl Tryz.ntmps26 (Nat.le_of_ble_eq_true rfl) ?_
  refine runG10 ?_
  refine s_callf (find_ret h hE i) rfl wnt_none ?_
  rintro v w1 ⟨hv, f1⟩
  cases hc : Q.cl i with
  | none =>
    rw [hc] at hv
    obtain ⟨a, rfl, ha⟩ := hv
    refine runG10 ?_
    refine s_val (r_nnT rfl) wnt_none ?_
    refine runG10 ?_
    refine s_val (r_build rfl (bld_ed0 _)) wnt_none ?_
    refine runG10 ?_
    refine s_callf (refusal_ret (n := 1) (.inr ⟨Nat.succ_pos _, a, rfl, ha⟩) ed0) rfl wnt_none ?_
    rintro u w2 ⟨hu, f2, _⟩
    obtain ⟨b, a2, rfl, _⟩ := hu.one1
    refine runG10 ?_
    exact ret_3 rfl rfl rfl rfl ⟨⟨_, rfl, hu⟩, f1.trans0 f2⟩
  | some c =>
    rw [hc] at hv
    obtain ⟨m, hm, h0, rfl⟩ := hv
    have hcm : c = m.c := by
      rw [hcl, if_neg (by omega), hm] at hc
      exact (Option.some.inj hc).symm
    subst hcm
    have h1 := h.frm0 sp f1
    have hA := h1.at_ hm
    have hrow := hA.row
    generalize fl CM.vals (ms.take i.toNat) = pre at *
    generalize fl CM.vals (ms.drop (i.toNat + 1)) ++ rest = post at *
    refine runG10 ?_
    refine s_val (r_nnF rfl) wnt_none ?_
    refine runG10 ?_
    refine w_drawn ((0, false) :: (1, false) :: (2, false) :: (3, false) :: (4, false) :: (6, false) :: (7, false) :: (8, false) :: (9, false) :: (10, false) :: (5, true) :: (11, false) :: (12, false) :: (13, false) :: []) [] (fun wq => Frm0 w1 wq) mixed (by kernel_rfl) ?_ ?_
    · exact Frm.of_drew _
    · refine runG10 ?_
      refine x_callf rfl (cs (sp.frm hA.m.base (Frm.of_drew (S := fun _ => False) w1) (fun _ _ h => h))) rfl wnt_none ?_
      rintro v w2 ⟨t', rfl, hT, f2⟩
      have f12 : Frm0 w1 w2 := (Frm.of_drew w1).trans0 f2
      refine ⟨f12, ?_⟩
      have s1 := f1.size
      have hrow2 := f12.at0 hrow
      refine runG10 ?_
      exact ret_3 rfl rfl rfl rfl ⟨⟨t', rfl, sp.weak hT (fun b hb _ => Nat.le_trans s1 hb), hA.m.wf⟩, f1.trans0 f12⟩
set_option maxHeartbeats 1000000 in
theorem PPending_ret (sp : TreeSpec PT) (hP : PP PT w col k p Q) {ea : List Addr} (hE : Errs w ea) (hb : QB Q) (i : Int) :
    Rets Tryz.prog 30 [Ptr p, I i] w fun v w' => match Q.cl i with | none => (∃ u, v = .tuple #[.slice none 0 0, u] ∧ ErrIs ea w' u 1 ed0) ∧ Frm0 w w' | some c => ∃ l, v = .tuple #[l, .nilIface] ∧ Out w w' l 31 6 (c.pend.map (·.2)).length (fl Ed.vals (c.pend.map (·.2))) := by
  obtain ⟨t, lv, mb, cb, cap, rest, ms, h⟩ := hP
  have hcl := h.cl i
  refine rets_of Tryz.func30 (by kernel_rfl) rfl Tryz.ntmps30 (Nat.le_of_ble_eq_true rfl) ?_
  refine runG10 ?_
  refine s_callf (find_ret h hE i) rfl wnt_none ?_
  rintro v w1 ⟨hv, f1⟩
  cases hc : Q.cl i with
  | none =>
    rw [hc] at hv
    obtain ⟨a, rfl, ha⟩ := hv
    refine runG10 ?_
    refine s_val (r_nnT rfl) wnt_none ?_
    refine runG10 ?_
    refine s_val (r_build rfl (bld_ed0 _)) wnt_none ?_
    refine runG10 ?_
    refine s_callf (refusal_ret (n := 1) (.inr ⟨Nat.succ_pos _, a, rfl, ha⟩) ed0) rfl wnt_none ?_
    rintro u w2 ⟨hu, f2, _⟩
    obtain ⟨b, a2, rfl, _⟩ := hu.one1
    refine runG10 ?_
    exact ret_2 rfl rfl rfl ⟨⟨_, rfl, hu⟩, f1.trans0 f2⟩
  | some c =>
    rw [hc] at hv
    obtain ⟨m, hm, h0, rfl⟩ := hv
    have hcm : c = m.c := by
      rw [hcl, if_neg (by omega), hm] at hc
      exact (Option.some.inj hc).symm
    subst hcm
    have h1 := h.frm0 sp f1
    have hmem : m.c ∈ Q.cls := by rw [h.cls]; exact List.mem_map_of_mem (List.mem_of_getElem? hm)
    refine runG10 ?_
    refine s_val (r_nnF rfl) wnt_none ?_
    refine runG10 ?_
    refine s_callf (waiting_ret sp (h1.at_ hm) (hb.cl _ hmem).1) rfl wnt_none ?_
    rintro v w2 ⟨hR, hn, f2⟩
    have s1 := f1.size
    obtain ⟨xa, xc, rfl⟩ := hR.isSl
    refine runG10 ?_
    exact ret_2 rfl rfl rfl ⟨_, rfl, hR, fun b hb => Nat.le_trans s1 (hn b hb), f1.trans0 f2⟩
set_option maxHeartbeats 1000000 in
theorem PServer_ret (sp : TreeSpec PT) (cs : CloneSpec PT) (hP : PP PT w col k p Q) :
    Rets Tryz.prog 24 [Ptr p] w fun v w' => ∃ t, v = .tuple #[Ptr t, I Q.n] ∧ PT w' t Q.t (fun b => w.heap.size ≤ b) ∧ Wf Q.t ∧ Frm0 w w' := by
  obtain ⟨t, lv, mb, cb, cap, rest, ms, h⟩ := hP
  have hh := h.head
  refine rets_of Tryz.func24 (by kernel_rfl) rfl Tryz.ntmps24 (Nat.le_of_ble_eq_true rfl) ?_
  refine runG10 ?_
  refine w_drawn ((0, false) :: (1, false) :: (2, false) :: (3, false) :: (4, false) :: (5, false) :: (7, false) :: (8, false) :: (9, false) :: (10, false) :: (11, false) :: (12, false) :: (6, true) :: (13, false) :: (14, false) :: []) [] (fun wq => Frm0 w wq) mixed (by kernel_rfl) ?_ ?_
  · exact Frm.of_drew _
  · refine runG10 ?_
    refine x_callf rfl (cs (sp.frm h.tree (Frm.of_drew (S := fun _ => False) w) (fun _ _ h => h))) rfl wnt_none ?_
    rintro v w2 ⟨t', rfl, hT, f2⟩
    have f12 : Frm0 w w2 := (Frm.of_drew w).trans0 f2
    refine ⟨f12, ?_⟩
    have hh2 := f12.at0 hh
    refine runG10 ?_
    exact ret_2 rfl rfl rfl ⟨t', rfl, hT, h.wf, f12⟩
set_option maxHeartbeats 1000000 in
theorem PLog_ret (hP : PP PT w col k p Q) (hb : QB Q) :
    Rets Tryz.prog 51 [Ptr p] w fun v w' => Out w w' v 54 9 Q.log.length (fl Ent.vals Q.log) := by
  obtain ⟨t, lv, mb, cb, cap, rest, ms, h⟩ := hP
  have hh := h.head
  have hl := h.log
  have hbl := hb.log
  obtain ⟨la, lc, rfl⟩ := hl.isSl
  refine rets_of Tryz.func51 (by kernel_rfl) rfl Tryz.ntmps51 (Nat.le_of_ble_eq_true rfl) ?_
  refine runG10 ?_
  refine s_callf (CloneEnt_ret hl hbl) rfl wnt_none ?_
  rintro v w2 hR
  obtain ⟨xa, xc, rfl⟩ := hR.1.isSl
  refine runG10 ?_
  exact ret_s rfl rfl hR
end
end Go.Proofs.YtbicffldggcdhaaGreatDoor

namespace Go.Proofs.YtbicffldggcdhaaGreatDoor
open Go

end Go.Proofs.YtbicffldggcdhaaGreatDoor

namespace Go.Proofs.YtbicffldggcdhaaGreatDoor
open Go

end Go.Proofs.YtbicffldggcdhaaGreatDoor

namespace Go.Proofs.YtbicffldggcdhaaGreatDoor
open Go

end Go.Proofs.YtbicffldggcdhaaGreatDoor
