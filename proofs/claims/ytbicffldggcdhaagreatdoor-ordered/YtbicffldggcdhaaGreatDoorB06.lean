/-
  WRefP1; WRefP2; WRefP3; WRefP4; LPP; LPB; LOpQ; WQ1; LDel; WQ2; WQ3; WQ4; WQ5.
-/
import Derived.Test.YtbicffldggcdhaaGreatDoorB05
import Derived.Test.YtbicffldggcdhaaGreatDoorB04
import Derived.Test.YtbicffldggcdhaaGreatDoorB02
import Derived.Test.YtbicffldggcdhaaGreatDoorB03
import Derived.Stop.Asserts
namespace Go.Proofs.YtbicffldggcdhaaGreatDoor
open Go
theorem runG06 {G K : Prop} (k : K) (h : Wrap K → G := by intro h; (repeat (first | (with_reducible first | refine wpIn_seq ?_ | refine w_reg ?_ | refine s_nil ?_ | refine s_nilQ ?_ | refine wpIn_block ?_ | refine q_then ?_ | refine q_blk ?_ | refine q_then_ret ?_ | refine q_blk_ret ?_ | refine q_then_exit ?_ | refine q_blk_exit ?_ | refine wpIn_skip ?_ | refine wpIn_ret ?_ | refine wpIn_exit ?_ | refine y_nil ?_ | refine y_nilQ ?_ | refine x_late ?_) | ((with_reducible refine q_blk_other ?_ ?_); exact rfl) | ((with_reducible apply c_true); exact rfl; (with_reducible exact rfl)) | ((with_reducible apply c_false); exact rfl; (with_reducible exact rfl)) | ((with_reducible apply s_no); (first | ((with_reducible apply wnt_nt); exact rfl; exact rfl; exact rfl; exact rfl; (with_reducible exact rfl)) | ((with_reducible apply wnt_nf); exact rfl; exact rfl; exact rfl; exact rfl; (with_reducible exact rfl)))) | ((with_reducible apply x_qno); exact rfl; (first | ((with_reducible apply wnt_nt); exact rfl; exact rfl; exact rfl; exact rfl; (with_reducible exact rfl)) | ((with_reducible apply wnt_nf); exact rfl; exact rfl; exact rfl; exact rfl; (with_reducible exact rfl)))) | ((first | with_reducible apply s_val | ((with_reducible apply y_val); exact rfl) | ((with_reducible apply x_q); exact rfl; intro wq hq)); (first | ((with_reducible apply r_assign_p); exact rfl) | ((with_reducible apply r_move_i); exact rfl) | ((with_reducible apply r_lss_t); exact rfl; exact rfl; omega) | ((with_reducible apply r_lss_f); exact rfl; exact rfl; omega) | ((with_reducible apply r_lss); exact rfl; exact rfl) | ((with_reducible apply r_move_b); exact rfl) | ((with_reducible apply r_move_p); exact rfl) | ((with_reducible apply r_nilCheck); exact rfl) | ((with_reducible apply r_fld); exact fa_ok rfl; exact rfl) | ((with_reducible apply r_len); exact u_ok rfl; exact rfl) | ((with_reducible apply r_geq_t); exact rfl; exact rfl; omega) | ((with_reducible apply r_geq_f); exact rfl; exact rfl; omega) | ((with_reducible apply r_geq); exact rfl; exact rfl) | ((with_reducible apply r_pick_t); exact rfl; (with_reducible exact rfl); exact rfl) | ((with_reducible apply r_pick_f); exact rfl; (with_reducible exact rfl); exact rfl) | ((with_reducible apply r_index); exact u_ok rfl; exact s_ok rfl; exact rfl; exact rfl; omega; omega) | ((with_reducible apply r_indexarr); exact u_ok rfl; exact s_ok rfl; exact rfl; exact rfl; omega; omega) | ((with_reducible apply r_assign_i); exact rfl) | ((with_reducible apply r_eql_t); exact rfl; exact rfl; omega) | ((with_reducible apply r_eql_f); exact rfl; exact rfl; omega) | ((with_reducible apply r_eql); exact rfl; exact rfl) | ((with_reducible apply r_not_t); exact rfl; (with_reducible exact rfl)) | ((with_reducible apply r_not_f); exact rfl; (with_reducible exact rfl)) | ((with_reducible apply r_not); exact rfl) | ((with_reducible apply r_boxA); exact rfl) | ((with_reducible apply r_box1); exact rfl; exact rfl) | ((with_reducible apply r_assign_if); exact rfl) | ((with_reducible apply r_assign_ni); exact rfl) | ((with_reducible apply r_move_if); exact rfl) | ((with_reducible apply r_move_ni); exact rfl) | ((with_reducible apply r_loadA); exact u_ok rfl; exact rfl; exact s_ok rfl; exact rfl; (first | exact Frm.at0 hq (by assumption) | exact Frm.at hq (by assumption) (by assumption) | (first | (with_reducible assumption) | assumption | exact at_alloc_new _ _ | (repeat (first | assumption | exact at_alloc_new _ _ | refine at_drew ?_ | refine at_alloc _ ?_)))); exact Nat.le_of_ble_eq_true rfl) | ((with_reducible apply r_ifaceP); exact rfl; exact u_ok rfl) | ((with_reducible apply r_ifaceA); exact rfl; exact u_ok rfl) | ((with_reducible apply r_load); exact u_ok rfl; exact rfl; exact rfl; (first | exact Frm.at0 hq (by assumption) | exact Frm.at hq (by assumption) (by assumption) | (first | (with_reducible assumption) | assumption | exact at_alloc_new _ _ | (repeat (first | assumption | exact at_alloc_new _ _ | refine at_drew ?_ | refine at_alloc _ ?_)))); (first | exact mid_get rfl | exact mid_get2 rfl | exact mid_get0 rfl | exact rfl)) | ((with_reducible apply r_move_t); exact rfl) | ((with_reducible apply r_extract); exact rfl; exact rfl) | ((with_reducible apply r_neq_t); exact rfl; exact rfl; omega) | ((with_reducible apply r_neq_f); exact rfl; exact rfl; omega) | ((with_reducible apply r_neq); exact rfl; exact rfl) | ((with_reducible apply r_move_f); exact rfl) | ((with_reducible apply r_assign_s); exact rfl) | ((with_reducible apply r_move_s); exact rfl) | ((with_reducible apply r_assign_b); exact rfl) | ((with_reducible apply r_add); exact rfl; exact rfl; omega; omega)); (first | (with_reducible exact wnt_none) | ((with_reducible apply wnt_y); exact rfl; exact rfl; exact rfl; exact rfl; (with_reducible exact rfl)))))); exact h.out) : G := h ⟨k⟩

section
variable {w w' : World} {S F G : Nat → Prop} {cs : List Value} {m : Msg} {ms : List Msg} {v : Value}
end
theorem inv_none {b : Nat} : ¬ InV (.slice none 0 0) b := by
  rintro ⟨_, _, _, h⟩
  cases h

section
variable {w w' : World} {col col' : Nat → Nat} {k fz c br bb cap : Nat} {rest : List Value} {ps as' us ds : Value} {x : Cli} {S : Nat → Prop}
end
/-- How the colours grow. -/
structure Ext (k : Nat) (w w' : World) (col col' : Nat → Nat) : Prop where
  old : ∀ b, b < w.heap.size → col' b = col b
  high : ∀ b, w'.heap.size ≤ b → col' b = 0
  new : ∀ b, w.heap.size ≤ b → col' b = 0 ∨ (k ≤ col' b ∧ col' b < k + 100)
section
variable {w w' : World} {col col' : Nat → Nat} {k p r b cap : Nat} {rest : List Value} {es : Value} {lb lcap : Nat} {lrest : List Value} {cs : List Nat} {P : Par}
end

end Go.Proofs.YtbicffldggcdhaaGreatDoor

namespace Go.Proofs.YtbicffldggcdhaaGreatDoor
open Go

theorem Ext.refl {k : Nat} {w : World} {col : Nat → Nat} (h : ∀ b, w.heap.size ≤ b → col b = 0) : Ext k w w col col := ⟨fun _ _ => rfl, h, fun b hb => .inl (h b hb)⟩
theorem Ext.setB {k c : Nat} {w w' : World} {col col' : Nat → Nat} {o : Obj} (h : Ext k w w' col col') : Ext k w (setB w' c o) col col' := ⟨h.old, fun b hb => h.high b (by rw [size_setB] at hb; exact hb), h.new⟩
end Go.Proofs.YtbicffldggcdhaaGreatDoor

namespace Go.Proofs.YtbicffldggcdhaaGreatDoor
open Go

section
variable {w w' : World} {col col' : Nat → Nat} {k fz c br bb cap : Nat} {rest : List Value} {ps as' us ds : Value} {x : Cli} {hd hd' : List Value} {l : List Nd} {S : Nat → Prop}
end
/-- The block that a slice's value lies in. -/
def blkOf : Value → Option Nat
  | .slice (some a) _ _ => some a.block
  | _ => none
theorem inV_blk {v : Value} {b : Nat} (h : InV v b) : blkOf v = some b := by
  obtain ⟨_, _, _, rfl⟩ := h
  rfl
/-- What is new since n, and is this slice's block, gets this colour. -/
def paint (col : Nat → Nat) (n : Nat) (v : Value) (q : Nat) : Nat → Nat := fun b => if n ≤ b ∧ blkOf v = some b then q else col b
theorem paint_old {col : Nat → Nat} {n q : Nat} {v : Value} {b : Nat} (h : b < n) : paint col n v q b = col b := by
  rw [paint, if_neg (by omega)]
theorem paint_new {col : Nat → Nat} {n q : Nat} {v u : Value} (hn : ∀ b, InV v b → InV u b ∨ n ≤ b) (hu : ∀ b, InV u b → col b = q) : ∀ b, InV v b → paint col n v q b = q := fun b hb => by
  unfold paint
  by_cases h : n ≤ b
  · rw [if_pos ⟨h, inV_blk hb⟩]
  · rw [if_neg (by omega)]
    rcases hn b hb with h1 | h1
    · exact hu b h1
    · omega
theorem paint_ext {k : Nat} {w w' : World} {col : Nat → Nat} {v : Value} {q : Nat} (hh : ∀ b, w.heap.size ≤ b → col b = 0) (hs : w.heap.size ≤ w'.heap.size) (hv : ∀ b, blkOf v = some b → b < w'.heap.size) (hq : k ≤ q ∧ q < k + 100) : Ext k w w' col (paint col w.heap.size v q) := by
  refine ⟨fun b hb => paint_old hb, fun b hb => ?_, fun b hb => ?_⟩
  · unfold paint
    rw [if_neg (fun h => by have := hv b h.2; omega)]
    exact hh b (Nat.le_trans hs hb)
  · unfold paint
    split
    · exact .inr hq
    · exact .inl (hh b hb)
theorem RowO.blk {w : World} {v : Value} {e sz n : Nat} {pre : List Value} (h : RowO w v e sz n pre) : ∀ b, blkOf v = some b → b < w.heap.size := by
  intro b hb
  rcases h with ⟨rfl, _⟩ | ⟨b', skip, cap, rest, rfl, hA, _⟩
  · cases hb
  · cases hb
    exact at_lt hA
theorem Ext.trans {k : Nat} {w w1 w2 : World} {col col1 col2 : Nat → Nat} (h : Ext k w w1 col col1) (g : Ext k w1 w2 col1 col2) (hs : w.heap.size ≤ w1.heap.size) : Ext k w w2 col col2 :=
  ⟨fun b hb => by rw [g.old b (by omega)]; exact h.old b hb, g.high, fun b hb => by
    rcases Nat.lt_or_ge b w1.heap.size with h1 | h1
    · rw [g.old b h1]; exact h.new b hb
    · exact g.new b h1⟩
theorem Ext.frm0 {k : Nat} {w w1 w2 : World} {col col1 : Nat → Nat} (h : Ext k w w1 col col1) (f : Frm0 w1 w2) : Ext k w w2 col col1 := ⟨h.old, fun b hb => h.high b (Nat.le_trans f.size hb), h.new⟩
theorem ent_one (x : Ent) : ∀ u ∈ x.vals, one u = true := by
  intro u h
  simp only [Ent.vals, List.mem_cons, List.not_mem_nil, or_false] at h
  rcases h with h | h | h | h | h | h | h | h | h <;> subst h <;> rfl
theorem pd_one (q : Int × Ed) : ∀ u ∈ pdV q, one u = true := by
  intro u h
  simp only [pdV, List.mem_cons, List.not_mem_nil, or_false] at h
  rcases h with h | h | h | h | h | h | h <;> subst h <;> rfl
end Go.Proofs.YtbicffldggcdhaaGreatDoor

namespace Go.Proofs.YtbicffldggcdhaaGreatDoor
open Go

section
variable {w w2 : World} {col : Nat → Nat} {k fz c br bb cap : Nat} {rest : List Value} {ps as' us ds v : Value} {x : Cli}
end
theorem seg_new {w : World} {cs : List Value} {t n : Nat} (h : cs.length = n) : Seg (w.alloc (cel cs t)) (.slice (some ⟨w.heap.size, 0, none⟩) 1 1) n 1 cs :=
  .inr ⟨_, _, _, _, _, _, rfl, at_alloc_new w (cel cs t), by omega, by rw [Nat.one_mul, ← h]; exact sub_all cs⟩
end Go.Proofs.YtbicffldggcdhaaGreatDoor

namespace Go.Proofs.YtbicffldggcdhaaGreatDoor
open Go

theorem Row.lt {w : World} {v : Value} {e sz n : Nat} {pre : List Value} (h : Row w v e sz n pre) {b : Nat} (hb : InV v b) : b < w.heap.size := h.toO.lt hb
theorem Row.blk {w : World} {v : Value} {e sz n : Nat} {pre : List Value} (h : Row w v e sz n pre) : ∀ b, blkOf v = some b → b < w.heap.size := h.toO.blk
theorem Row.nil {w : World} {e sz : Nat} : Row w (.slice none 0 0) e sz 0 [] := .inl ⟨rfl, rfl, rfl⟩
def uV : UMsg → Value
  | .inl n => .iface 176 (.agg #[I n])
  | .inr (s, e) => .iface 147 (.agg (pdV (s, e)).toArray)
abbrev PTy := World → Nat → List Nd → (Nat → Prop) → Prop
/-- A message down, as a value. -/
def DIs (PT : PTy) (w : World) (F G : Nat → Prop) (u : Value) : DMsg → Prop
  | .inl x => u = .iface 262 (.agg x.vals.toArray)
  | .inr (t, n, ans) => ∃ tp av, u = .iface 266 (.agg #[Ptr tp, I n, av]) ∧ PT w tp t F ∧ Wf t ∧ Row w av 123 2 ans.length (fl Ans.vals ans) ∧ ∀ b, InV av b → G b
def DsAt (PT : PTy) (w : World) (F G : Nat → Prop) (v : Value) (ms : List DMsg) : Prop :=
  ∃ us : List Value, Row w v 172 1 ms.length us ∧ ∀ (i : Nat) u m, us[i]? = some u → ms[i]? = some m → DIs PT w F G u m
section
variable {PT : PTy} (sp : TreeSpec PT) {w w' : World} {S F G F' G' : Nat → Prop} {u v : Value} {m : DMsg} {ms : List DMsg}
theorem DIs.frm (sp : TreeSpec PT) (h : DIs PT w F G u m) (f : Frm S w w') (hF : ∀ b, F b → ¬ S b) (hG : ∀ b, G b → ¬ S b) : DIs PT w' F G u m := by
  cases m with
  | inl x => exact h
  | inr q9 =>
    obtain ⟨t, n, ans⟩ := q9
    obtain ⟨tp, av, h1, h2, h3, h4, h5⟩ := h
    exact ⟨tp, av, h1, sp.frm h2 f hF, h3, h4.frm f (fun b hb => hG b (h5 b hb)), h5⟩
theorem DIs.col (sp : TreeSpec PT) (h : DIs PT w F G u m) (hF : ∀ b, b < w.heap.size → F b → F' b) (hG : ∀ b, b < w.heap.size → G b → G' b) : DIs PT w F' G' u m := by
  cases m with
  | inl x => exact h
  | inr q9 =>
    obtain ⟨t, n, ans⟩ := q9
    obtain ⟨tp, av, h1, h2, h3, h4, h5⟩ := h
    exact ⟨tp, av, h1, sp.weak h2 (fun b hb hl => hF b hl hb), h3, h4, fun b hb => hG b (h4.lt hb) (h5 b hb)⟩
theorem DsAt.frm (sp : TreeSpec PT) (h : DsAt PT w F G v ms) (f : Frm S w w') (hF : ∀ b, F b → ¬ S b) (hG : ∀ b, G b → ¬ S b) (hv : ∀ b, InV v b → ¬ S b) : DsAt PT w' F G v ms := by
  obtain ⟨us, h1, h2⟩ := h
  exact ⟨us, h1.frm f hv, fun i u m a b => (h2 i u m a b).frm sp f hF hG⟩
theorem DsAt.col (sp : TreeSpec PT) (h : DsAt PT w F G v ms) (hF : ∀ b, b < w.heap.size → F b → F' b) (hG : ∀ b, b < w.heap.size → G b → G' b) : DsAt PT w F' G' v ms := by
  obtain ⟨us, h1, h2⟩ := h
  exact ⟨us, h1, fun i u m a b => (h2 i u m a b).col sp hF hG⟩
theorem DsAt.isSl (h : DsAt PT w F G v ms) : ∃ a c, v = .slice a ms.length c := by
  obtain ⟨us, h1, _⟩ := h
  exact h1.isSl
theorem DsAt.lt (h : DsAt PT w F G v ms) {b : Nat} (hb : InV v b) : b < w.heap.size := by
  obtain ⟨us, h1, _⟩ := h
  exact h1.lt hb
theorem DsAt.blk (h : DsAt PT w F G v ms) : ∀ b, blkOf v = some b → b < w.heap.size := by
  obtain ⟨us, h1, _⟩ := h
  exact h1.blk
theorem DsAt.none : DsAt PT w F G (.slice none 0 0) [] := ⟨[], Row.nil, fun i u m h => by simp at h⟩
end
def cvals (t : Nat) (n : Int) (pd an : Value) (jn tl : Bool) (up dn : Value) : List Value := [Ptr t, I n, pd, an, B jn, B tl, up, dn]
/-- A client's lists and its base, each in blocks of its own colour (bq: the base's, sq: a snapshot's: the one becomes the other's). -/
structure CliM (PT : PTy) (w : World) (col : Nat → Nat) (k bq sq t : Nat) (pd an up dn : Value) (c : PCli) : Prop where
  base : PT w t c.base (fun b => col b = bq)
  wf : Wf c.base
  pend : Row w pd 147 7 c.pend.length (fl pdV c.pend)
  cpend : ∀ b, InV pd b → col b = k + 2
  ans : Row w an 123 2 c.ans.length (fl Ans.vals c.ans)
  cans : ∀ b, InV an b → col b = k + 3
  ups : Row w up 172 1 c.up.length (c.up.map uV)
  cup : ∀ b, InV up b → col b = k + 4
  down : DsAt PT w (fun b => col b = sq) (fun b => col b = k + 7) dn c.down
  cdown : ∀ b, InV dn b → col b = k + 5
  q : (bq = k + 1 ∧ sq = k + 6) ∨ (bq = k + 6 ∧ sq = k + 1)
section
variable {PT : PTy} (sp : TreeSpec PT) {w w' : World} {col col' : Nat → Nat} {k bq sq t : Nat} {pd an up dn : Value} {c : PCli} {S : Nat → Prop}
theorem CliM.frm (sp : TreeSpec PT) (h : CliM PT w col k bq sq t pd an up dn c) (f : Frm S w w') (hs : ∀ b, k ≤ col b → col b < k + 10 → ¬ S b) : CliM PT w' col k bq sq t pd an up dn c := by
  have hq := h.q
  have hs' : ∀ {b q}, col b = q → k ≤ q → q < k + 10 → ¬ S b := fun h1 h2 h3 => hs _ (by omega) (by omega)
  exact ⟨sp.frm h.base f (fun b hb => hs' hb (by omega) (by omega)), h.wf, h.pend.frm f (fun b hb => hs' (h.cpend b hb) (by omega) (by omega)), h.cpend, h.ans.frm f (fun b hb => hs' (h.cans b hb) (by omega) (by omega)), h.cans,
   h.ups.frm f (fun b hb => hs' (h.cup b hb) (by omega) (by omega)), h.cup, h.down.frm sp f (fun b hb => hs' hb (by omega) (by omega)) (fun b hb => hs' hb (by omega) (by omega)) (fun b hb => hs' (h.cdown b hb) (by omega) (by omega)), h.cdown, h.q⟩
theorem CliM.recol (sp : TreeSpec PT) (h : CliM PT w col k bq sq t pd an up dn c) (hc : ∀ b, b < w.heap.size → col' b = col b) : CliM PT w col' k bq sq t pd an up dn c :=
  ⟨sp.weak h.base (fun b hb hl => by rw [hc b hl]; exact hb), h.wf, h.pend, fun b hb => by rw [hc _ (h.pend.lt hb)]; exact h.cpend b hb, h.ans, fun b hb => by rw [hc _ (h.ans.lt hb)]; exact h.cans b hb,
   h.ups, fun b hb => by rw [hc _ (h.ups.lt hb)]; exact h.cup b hb, h.down.col sp (fun b hb e => by rw [hc b hb]; exact e) (fun b hb e => by rw [hc b hb]; exact e), fun b hb => by rw [hc _ (h.down.lt hb)]; exact h.cdown b hb, h.q⟩
end
/-- A client in the midst of the row of clients. -/
structure CAt (PT : PTy) (w : World) (col : Nat → Nat) (k0 k cb : Nat) (pre post : List Value) (bq sq t : Nat) (pd an up dn : Value) (c : PCli) : Prop where
  row : At w cb (cel (pre ++ (cvals t c.n pd an c.joined c.told up dn ++ post)) 119)
  own : col cb = k0 + 4
  m : CliM PT w col k bq sq t pd an up dn c
  hk : k0 + 10 ≤ k ∧ k + 10 ≤ k0 + 100
  high : ∀ b, w.heap.size ≤ b → col b = 0
/-- A client goes on: colours grow, and only its own blocks change, and the row of clients. -/
structure CG (k0 k : Nat) (w w' : World) (col col' : Nat → Nat) : Prop where
  ext : Ext k0 w w' col col'
  frm : Frm (fun b => (k ≤ col b ∧ col b < k + 10) ∨ col b = k0 + 4) w w'
theorem CG.trans {k0 k : Nat} {w w1 w2 : World} {col col1 col2 : Nat → Nat} (h : CG k0 k w w1 col col1) (g : CG k0 k w1 w2 col1 col2) : CG k0 k w w2 col col2 :=
  ⟨h.ext.trans g.ext h.frm.size, h.frm.trans g.frm (fun b hb => by
    rcases Nat.lt_or_ge b w.heap.size with h1 | h1
    · rw [h.ext.old b h1] at hb; exact .inl hb
    · exact .inr h1)⟩
theorem CG.frm0 {k0 k : Nat} {w w1 : World} {col : Nat → Nat} (hh : ∀ b, w.heap.size ≤ b → col b = 0) (f : Frm0 w w1) : CG k0 k w w1 col col := ⟨⟨fun _ _ => rfl, fun b hb => hh b (Nat.le_trans f.size hb), fun b hb => .inl (hh b hb)⟩, f.mono (fun _ h => h.elim)⟩
theorem CG.put {k0 k c : Nat} {w : World} {col : Nat → Nat} {o : Obj} (hh : ∀ b, w.heap.size ≤ b → col b = 0) (hc : col c = k0 + 4) : CG k0 k w (setB w c o) col col := ⟨(Ext.refl hh).setB, (Frm.refl _ w).setB (b := c) (.inl (.inr hc)) _⟩
theorem CG.paint {k0 k q c : Nat} {w w2 : World} {col : Nat → Nat} {u v : Value} {o : Obj} (hh : ∀ b, w.heap.size ≤ b → col b = 0) (hc : col c = k0 + 4) (f : Frm (InV u) w w2) (hu : ∀ b, InV u b → col b = q) (hv : ∀ b, blkOf v = some b → b < w2.heap.size) (hq : k ≤ q ∧ q < k + 10) (hk : k0 ≤ k ∧ k + 10 ≤ k0 + 100) : CG k0 k w (setB w2 c o) col (paint col w.heap.size v q) :=
  ⟨(paint_ext hh f.size hv (by omega)).setB, (f.mono (fun b hb => .inl (.inl (by rw [hu b hb]; omega)))).setB (b := c) (.inl (.inr hc)) _⟩
section
variable {PT : PTy} (sp : TreeSpec PT) {w w' w2 : World} {col : Nat → Nat} {k0 k cb : Nat} {pre post : List Value} {bq sq t : Nat} {pd an up dn v : Value} {c : PCli}
theorem CAt.frm0 (sp : TreeSpec PT) (h : CAt PT w col k0 k cb pre post bq sq t pd an up dn c) (f : Frm0 w w') : CAt PT w' col k0 k cb pre post bq sq t pd an up dn c :=
  ⟨f.at0 h.row, h.own, h.m.frm sp f (fun _ _ _ h => h), h.hk, fun b hb => h.high b (Nat.le_trans f.size hb)⟩
theorem CAt.ofPut (sp : TreeSpec PT) {col' : Nat → Nat} {q : Nat} {x : PCli} {bq' sq' t' : Nat} {pd' an' up' dn' u : Value} (h : CAt PT w col k0 k cb pre post bq sq t pd an up dn c) (f : Frm (InV u) w w2) (hu : ∀ b, InV u b → col b = q) (hq : k ≤ q ∧ q < k + 10) (e : Ext k0 w w2 col col')
    (hm : CliM PT w2 col' k bq' sq' t' pd' an' up' dn' x) : CAt PT (setB w2 cb (cel (pre ++ (cvals t' x.n pd' an' x.joined x.told up' dn' ++ post)) 119)) col' k0 k cb pre post bq' sq' t' pd' an' up' dn' x := by
  have h0 := h.hk
  have hA : At w2 cb _ := f.at (b := cb) (fun hb => by have := hu cb hb; have := h.own; omega) h.row
  have hc : col' cb = k0 + 4 := by rw [e.old cb (at_lt h.row)]; exact h.own
  refine ⟨at_setB _ hA, hc, ?_, h.hk, fun b hb => ?_⟩
  · exact hm.frm sp (S := fun b => b = cb) ((Frm.refl (fun b => b = cb) w2).setB (b := cb) (.inl rfl) _) (fun b h1 h2 he => by subst he; omega)
  · rw [size_setB] at hb
    exact e.high b hb
theorem CAt.repend (sp : TreeSpec PT) {y : List (Int × Ed)} (h : CAt PT w col k0 k cb pre post bq sq t pd an up dn c) (f : Frm (InV pd) w w2) (r : Row w2 v 147 7 y.length (fl pdV y)) (n : ∀ b, InV v b → InV pd b ∨ w.heap.size ≤ b) :
    CAt PT (setB w2 cb (cel (pre ++ (cvals t c.n v an c.joined c.told up dn ++ post)) 119)) (paint col w.heap.size v (k + 2)) k0 k cb pre post bq sq t v an up dn { c with pend := y } ∧ CG k0 k w (setB w2 cb (cel (pre ++ (cvals t c.n v an c.joined c.told up dn ++ post)) 119)) col (paint col w.heap.size v (k + 2)) := by
  have h0 := h.hk
  have h1 := h.m.recol sp (col' := paint col w.heap.size v (k + 2)) (fun b hb => paint_old hb)
  have e : Ext k0 w w2 col (paint col w.heap.size v (k + 2)) := paint_ext h.high f.size r.blk (by omega)
  have hp : ∀ b, InV pd b → col b = k + 2 := h.m.cpend
  have cv := paint_new n h.m.cpend
  have hq := h.m.q
  have key : ∀ {b q}, paint col w.heap.size v (k + 2) b = q → b < w.heap.size → q ≠ k + 2 → ¬ InV pd b := fun h2 h3 h4 hb => by rw [paint_old h3, hp _ hb] at h2; omega
  refine ⟨h.ofPut sp (x := { c with pend := y }) f hp (by omega) e ⟨?_, h1.wf, r, cv, ?_, h1.cans, ?_, h1.cup, ?_, h1.cdown, h1.q⟩, CG.paint h.high h.own f hp r.blk (by omega) (by omega)⟩
  · exact sp.frm (sp.weak h1.base (fun b hb hl => ⟨hb, hl⟩) : PT w t c.base (fun b => paint col w.heap.size v (k + 2) b = bq ∧ b < w.heap.size)) f (fun b hb => key hb.1 hb.2 (by omega)) |> fun z => sp.weak z (fun b hb _ => hb.1)
  · exact h1.ans.frm f (fun b hb => key (h1.cans b hb) (h1.ans.lt hb) (by omega))
  · exact h1.ups.frm f (fun b hb => key (h1.cup b hb) (h1.ups.lt hb) (by omega))
  · have h2 : DsAt PT w (fun b => paint col w.heap.size v (k + 2) b = sq ∧ b < w.heap.size) (fun b => paint col w.heap.size v (k + 2) b = k + 7 ∧ b < w.heap.size) dn c.down := h1.down.col sp (fun b hl hb => ⟨hb, hl⟩) (fun b hl hb => ⟨hb, hl⟩)
    exact (h2.frm sp f (fun b hb => key hb.1 hb.2 (by omega)) (fun b hb => key hb.1 hb.2 (by omega)) (fun b hb => key (h1.cdown b hb) (h1.down.lt hb) (by omega))).col sp (fun b _ hb => hb.1) (fun b _ hb => hb.1)
theorem CAt.reans (sp : TreeSpec PT) {y : List Ans} (h : CAt PT w col k0 k cb pre post bq sq t pd an up dn c) (f : Frm (InV an) w w2) (r : Row w2 v 123 2 y.length (fl Ans.vals y)) (n : ∀ b, InV v b → InV an b ∨ w.heap.size ≤ b) :
    CAt PT (setB w2 cb (cel (pre ++ (cvals t c.n pd v c.joined c.told up dn ++ post)) 119)) (paint col w.heap.size v (k + 3)) k0 k cb pre post bq sq t pd v up dn { c with ans := y } ∧ CG k0 k w (setB w2 cb (cel (pre ++ (cvals t c.n pd v c.joined c.told up dn ++ post)) 119)) col (paint col w.heap.size v (k + 3)) := by
  have h0 := h.hk
  have h1 := h.m.recol sp (col' := paint col w.heap.size v (k + 3)) (fun b hb => paint_old hb)
  have e : Ext k0 w w2 col (paint col w.heap.size v (k + 3)) := paint_ext h.high f.size r.blk (by omega)
  have hp : ∀ b, InV an b → col b = k + 3 := h.m.cans
  have cv := paint_new n h.m.cans
  have hq := h.m.q
  have key : ∀ {b q}, paint col w.heap.size v (k + 3) b = q → b < w.heap.size → q ≠ k + 3 → ¬ InV an b := fun h2 h3 h4 hb => by rw [paint_old h3, hp _ hb] at h2; omega
  refine ⟨h.ofPut sp (x := { c with ans := y }) f hp (by omega) e ⟨?_, h1.wf, ?_, h1.cpend, r, cv, ?_, h1.cup, ?_, h1.cdown, h1.q⟩, CG.paint h.high h.own f hp r.blk (by omega) (by omega)⟩
  · exact sp.frm (sp.weak h1.base (fun b hb hl => ⟨hb, hl⟩) : PT w t c.base (fun b => paint col w.heap.size v (k + 3) b = bq ∧ b < w.heap.size)) f (fun b hb => key hb.1 hb.2 (by omega)) |> fun z => sp.weak z (fun b hb _ => hb.1)
  · exact h1.pend.frm f (fun b hb => key (h1.cpend b hb) (h1.pend.lt hb) (by omega))
  · exact h1.ups.frm f (fun b hb => key (h1.cup b hb) (h1.ups.lt hb) (by omega))
  · have h2 : DsAt PT w (fun b => paint col w.heap.size v (k + 3) b = sq ∧ b < w.heap.size) (fun b => paint col w.heap.size v (k + 3) b = k + 7 ∧ b < w.heap.size) dn c.down := h1.down.col sp (fun b hl hb => ⟨hb, hl⟩) (fun b hl hb => ⟨hb, hl⟩)
    exact (h2.frm sp f (fun b hb => key hb.1 hb.2 (by omega)) (fun b hb => key hb.1 hb.2 (by omega)) (fun b hb => key (h1.cdown b hb) (h1.down.lt hb) (by omega))).col sp (fun b _ hb => hb.1) (fun b _ hb => hb.1)
theorem CAt.reup (sp : TreeSpec PT) {y : List UMsg} (h : CAt PT w col k0 k cb pre post bq sq t pd an up dn c) (f : Frm (InV up) w w2) (r : Row w2 v 172 1 y.length (y.map uV)) (n : ∀ b, InV v b → InV up b ∨ w.heap.size ≤ b) :
    CAt PT (setB w2 cb (cel (pre ++ (cvals t c.n pd an c.joined c.told v dn ++ post)) 119)) (paint col w.heap.size v (k + 4)) k0 k cb pre post bq sq t pd an v dn { c with up := y } ∧ CG k0 k w (setB w2 cb (cel (pre ++ (cvals t c.n pd an c.joined c.told v dn ++ post)) 119)) col (paint col w.heap.size v (k + 4)) := by
  have h0 := h.hk
  have h1 := h.m.recol sp (col' := paint col w.heap.size v (k + 4)) (fun b hb => paint_old hb)
  have e : Ext k0 w w2 col (paint col w.heap.size v (k + 4)) := paint_ext h.high f.size r.blk (by omega)
  have hp : ∀ b, InV up b → col b = k + 4 := h.m.cup
  have cv := paint_new n h.m.cup
  have hq := h.m.q
  have key : ∀ {b q}, paint col w.heap.size v (k + 4) b = q → b < w.heap.size → q ≠ k + 4 → ¬ InV up b := fun h2 h3 h4 hb => by rw [paint_old h3, hp _ hb] at h2; omega
  refine ⟨h.ofPut sp (x := { c with up := y }) f hp (by omega) e ⟨?_, h1.wf, ?_, h1.cpend, ?_, h1.cans, r, cv, ?_, h1.cdown, h1.q⟩, CG.paint h.high h.own f hp r.blk (by omega) (by omega)⟩
  · exact sp.frm (sp.weak h1.base (fun b hb hl => ⟨hb, hl⟩) : PT w t c.base (fun b => paint col w.heap.size v (k + 4) b = bq ∧ b < w.heap.size)) f (fun b hb => key hb.1 hb.2 (by omega)) |> fun z => sp.weak z (fun b hb _ => hb.1)
  · exact h1.pend.frm f (fun b hb => key (h1.cpend b hb) (h1.pend.lt hb) (by omega))
  · exact h1.ans.frm f (fun b hb => key (h1.cans b hb) (h1.ans.lt hb) (by omega))
  · have h2 : DsAt PT w (fun b => paint col w.heap.size v (k + 4) b = sq ∧ b < w.heap.size) (fun b => paint col w.heap.size v (k + 4) b = k + 7 ∧ b < w.heap.size) dn c.down := h1.down.col sp (fun b hl hb => ⟨hb, hl⟩) (fun b hl hb => ⟨hb, hl⟩)
    exact (h2.frm sp f (fun b hb => key hb.1 hb.2 (by omega)) (fun b hb => key hb.1 hb.2 (by omega)) (fun b hb => key (h1.cdown b hb) (h1.down.lt hb) (by omega))).col sp (fun b _ hb => hb.1) (fun b _ hb => hb.1)
/-- The row of what comes down: its list may tell of blocks that are painted already. -/
theorem CAt.redown (sp : TreeSpec PT) {y : List DMsg} (h : CAt PT w col k0 k cb pre post bq sq t pd an up dn c) (f : Frm (InV dn) w w2) (r : DsAt PT w2 (fun b => col b = sq) (fun b => col b = k + 7) v y) (n : ∀ b, InV v b → InV dn b ∨ w.heap.size ≤ b) :
    CAt PT (setB w2 cb (cel (pre ++ (cvals t c.n pd an c.joined c.told up v ++ post)) 119)) (paint col w.heap.size v (k + 5)) k0 k cb pre post bq sq t pd an up v { c with down := y } ∧ CG k0 k w (setB w2 cb (cel (pre ++ (cvals t c.n pd an c.joined c.told up v ++ post)) 119)) col (paint col w.heap.size v (k + 5)) := by
  have h0 := h.hk
  have h1 := h.m.recol sp (col' := paint col w.heap.size v (k + 5)) (fun b hb => paint_old hb)
  have e : Ext k0 w w2 col (paint col w.heap.size v (k + 5)) := paint_ext h.high f.size r.blk (by omega)
  have hp : ∀ b, InV dn b → col b = k + 5 := h.m.cdown
  have cv := paint_new n h.m.cdown
  have hq := h.m.q
  have key : ∀ {b q}, paint col w.heap.size v (k + 5) b = q → b < w.heap.size → q ≠ k + 5 → ¬ InV dn b := fun h2 h3 h4 hb => by rw [paint_old h3, hp _ hb] at h2; omega
  have up' : ∀ {b q}, col b = q → q ≠ 0 → paint col w.heap.size v (k + 5) b = q := fun {b q} h2 h3 => by
    rcases Nat.lt_or_ge b w.heap.size with h4 | h4
    · rw [paint_old h4]; exact h2
    · have := h.high b h4; omega
  refine ⟨h.ofPut sp (x := { c with down := y }) f hp (by omega) e ⟨?_, h1.wf, ?_, h1.cpend, ?_, h1.cans, ?_, h1.cup, ?_, cv, h1.q⟩, CG.paint h.high h.own f hp r.blk (by omega) (by omega)⟩
  · exact sp.frm (sp.weak h1.base (fun b hb hl => ⟨hb, hl⟩) : PT w t c.base (fun b => paint col w.heap.size v (k + 5) b = bq ∧ b < w.heap.size)) f (fun b hb => key hb.1 hb.2 (by omega)) |> fun z => sp.weak z (fun b hb _ => hb.1)
  · exact h1.pend.frm f (fun b hb => key (h1.cpend b hb) (h1.pend.lt hb) (by omega))
  · exact h1.ans.frm f (fun b hb => key (h1.cans b hb) (h1.ans.lt hb) (by omega))
  · exact h1.ups.frm f (fun b hb => key (h1.cup b hb) (h1.ups.lt hb) (by omega))
  · exact r.col sp (fun b _ hb => up' hb (by omega)) (fun b _ hb => up' hb (by omega))
/-- Numbers and marks of the client are written. -/
theorem CAt.remark (sp : TreeSpec PT) {jn tl : Bool} {n : Int} (h : CAt PT w col k0 k cb pre post bq sq t pd an up dn c) :
    CAt PT (setB w cb (cel (pre ++ (cvals t n pd an jn tl up dn ++ post)) 119)) col k0 k cb pre post bq sq t pd an up dn { c with n := n, joined := jn, told := tl } ∧ CG k0 k w (setB w cb (cel (pre ++ (cvals t n pd an jn tl up dn ++ post)) 119)) col col := by
  have hm : CliM PT w col k bq sq t pd an up dn { c with n := n, joined := jn, told := tl } := ⟨h.m.base, h.m.wf, h.m.pend, h.m.cpend, h.m.ans, h.m.cans, h.m.ups, h.m.cup, h.m.down, h.m.cdown, h.m.q⟩
  exact ⟨h.ofPut sp (u := .slice none 0 0) (q := k) (Frm.refl _ _) (fun b hb => (inv_none hb).elim) (by omega) (Ext.refl h.high) hm, CG.put h.high h.own⟩
end
end Go.Proofs.YtbicffldggcdhaaGreatDoor

namespace Go.Proofs.YtbicffldggcdhaaGreatDoor
open Go

abbrev MkV (k : Int × Int) : Value := .agg #[I k.1, I k.2]
abbrev VdV (v : Int × Bool) : Value := .agg #[I v.1, B v.2]
def vEnt (x : (Int × Int) × (Int × Bool)) : Value × Value := (MkV x.1, VdV x.2)
structure VEnts (es : Array MapEntry) (cl : Nat) (M : VD) : Prop where
  ents : es.toList.map entOf = M.map vEnt
  born : (es.toList.map (·.born)).Nodup
  low : ∀ e ∈ es.toList, e.born < cl
  keys : (M.map (·.1)).Nodup
structure CM where
  t : Nat
  pd : Value
  an : Value
  up : Value
  dn : Value
  bq : Nat
  sq : Nat
  c : PCli
def CM.vals (m : CM) : List Value := cvals m.t m.c.n m.pd m.an m.c.joined m.c.told m.up m.dn
theorem CM.len (m : CM) : m.vals.length = 8 := rfl
structure PB (PT : PTy) (w : World) (col : Nat → Nat) (k p t : Nat) (lv : Value) (mb cb cap : Nat) (rest : List Value) (ms : List CM) (Q : PPar) : Prop where
  head : At w p (cel [Ptr t, I Q.n, I Q.keeps, lv, .map (some mb), .slice (some ⟨cb, 0, none⟩) ms.length cap] 108)
  own : col p = k
  tree : PT w t Q.t (fun b => col b = k + 1)
  wf : Wf Q.t
  log : Row w lv 54 9 Q.log.length (fl Ent.vals Q.log)
  clog : ∀ b, InV lv b → col b = k + 2
  map : ∃ es cl, At w mb (.map es cl) ∧ VEnts es cl Q.vd
  cmap : col mb = k + 3
  row : At w cb (cel (fl CM.vals ms ++ rest) 119)
  crow : col cb = k + 4
  cls : Q.cls = ms.map (·.c)
  cli : ∀ (i : Nat) m, ms[i]? = some m → CliM PT w col (k + 10 + 10 * i) m.bq m.sq m.t m.pd m.an m.up m.dn m.c
  few : ms.length ≤ 4
  high : ∀ b, w.heap.size ≤ b → col b = 0
  pos : 0 < k
def PP (PT : PTy) (w : World) (col : Nat → Nat) (k p : Nat) (Q : PPar) : Prop := ∃ t lv mb cb cap rest ms, PB PT w col k p t lv mb cb cap rest ms Q
/-- What a call leaves. -/
def QStep (PT : PTy) (w w' : World) (col : Nat → Nat) (k p : Nat) (Q : PPar) : Prop := ∃ col', PP PT w' col' k p Q ∧ Ext k w w' col col' ∧ Frm (fun b => k ≤ col b ∧ col b < k + 100) w w'
section
variable {PT : PTy} (sp : TreeSpec PT) {w w' : World} {col col' : Nat → Nat} {k p t : Nat} {lv : Value} {mb cb cap : Nat} {rest : List Value} {ms : List CM} {Q : PPar} {S : Nat → Prop}
theorem PB.frm (sp : TreeSpec PT) (h : PB PT w col k p t lv mb cb cap rest ms Q) (f : Frm S w w') (hs : ∀ b, k ≤ col b → col b < k + 100 → ¬ S b) (hh : ∀ b, w'.heap.size ≤ b → col b = 0) : PB PT w' col k p t lv mb cb cap rest ms Q := by
  have hs' : ∀ {b q}, col b = q → k ≤ q → q < k + 100 → ¬ S b := fun h1 h2 h3 => hs _ (by omega) (by omega)
  obtain ⟨es, cl, hm1, hm2⟩ := h.map
  refine ⟨f.at (hs' h.own (by omega) (by omega)) h.head, h.own, sp.frm h.tree f (fun b hb => hs' hb (by omega) (by omega)), h.wf, h.log.frm f (fun b hb => hs' (h.clog b hb) (by omega) (by omega)), h.clog, ⟨es, cl, f.at (hs' h.cmap (by omega) (by omega)) hm1, hm2⟩, h.cmap, f.at (hs' h.crow (by omega) (by omega)) h.row, h.crow, h.cls, fun i m hi => ?_, h.few, hh, h.pos⟩
  have hl : i < ms.length := (List.getElem?_eq_some_iff.1 hi).1
  have hf := h.few
  exact (h.cli i m hi).frm sp f (fun b h1 h2 => hs b (by omega) (by omega))
theorem PB.frm0 (sp : TreeSpec PT) (h : PB PT w col k p t lv mb cb cap rest ms Q) (f : Frm0 w w') : PB PT w' col k p t lv mb cb cap rest ms Q :=
  h.frm sp f (fun _ _ _ h => h) (fun b hb => h.high b (Nat.le_trans f.size hb))
theorem PB.at_ (h : PB PT w col k p t lv mb cb cap rest ms Q) {i : Nat} {m : CM} (hi : ms[i]? = some m) : CAt PT w col k (k + 10 + 10 * i) cb (fl CM.vals (ms.take i)) (fl CM.vals (ms.drop (i + 1)) ++ rest) m.bq m.sq m.t m.pd m.an m.up m.dn m.c := by
  have hl : i < ms.length := (List.getElem?_eq_some_iff.1 hi).1
  have hf := h.few
  refine ⟨?_, h.crow, h.cli i m hi, by omega, h.high⟩
  have := h.row
  rw [fl_take_drop CM.vals hi] at this
  exact this
theorem PB.off (_h : PB PT w col k p t lv mb cb cap rest ms Q) {i : Nat} {m : CM} (hi : ms[i]? = some m) : (fl CM.vals (ms.take i)).length = i * 8 := by
  have hl : i < ms.length := (List.getElem?_eq_some_iff.1 hi).1
  rw [fl_len CM.len, List.length_take, Nat.min_eq_left (by omega)]
/-- One client has changed, and nothing else. -/
theorem PB.client (sp : TreeSpec PT) (h : PB PT w col k p t lv mb cb cap rest ms Q) {i : Nat} {m m' : CM} (hi : ms[i]? = some m) (g : CG k (k + 10 + 10 * i) w w' col col')
    (hx : CAt PT w' col' k (k + 10 + 10 * i) cb (fl CM.vals (ms.take i)) (fl CM.vals (ms.drop (i + 1)) ++ rest) m'.bq m'.sq m'.t m'.pd m'.an m'.up m'.dn m'.c) : PB PT w' col' k p t lv mb cb cap rest (ms.set i m') { Q with cls := Q.cls.set i m'.c } := by
  have hl : i < ms.length := (List.getElem?_eq_some_iff.1 hi).1
  have hf := h.few
  have e := g.ext
  have hs' : ∀ {b q}, b < w.heap.size → col b = q → k ≤ q → q < k + 10 → q ≠ k + 4 → ¬ ((k + 10 + 10 * i ≤ col b ∧ col b < k + 10 + 10 * i + 10) ∨ col b = k + 4) := fun _ h1 h2 h3 h4 h5 => by omega
  obtain ⟨es, cl, hm1, hm2⟩ := h.map
  have hp := at_lt h.head
  refine ⟨?_, by rw [e.old p hp]; exact h.own, ?_, h.wf, h.log.frm g.frm (fun b hb => hs' (h.log.lt hb) (h.clog b hb) (by omega) (by omega) (by omega)), fun b hb => by rw [e.old b (h.log.lt hb)]; exact h.clog b hb, ⟨es, cl, g.frm.at (hs' (at_lt hm1) h.cmap (by omega) (by omega) (by omega)) hm1, hm2⟩, by rw [e.old mb (at_lt hm1)]; exact h.cmap, ?_, by rw [e.old cb (at_lt h.row)]; exact h.crow, ?_, fun j x hj => ?_, by simpa using h.few, e.high, h.pos⟩
  · rw [List.length_set]
    exact g.frm.at (hs' hp h.own (by omega) (by omega) (by omega)) h.head
  · exact sp.weak (sp.frm (sp.weak h.tree (fun b hb hl => ⟨hb, hl⟩) : PT w t Q.t (fun b => col b = k + 1 ∧ b < w.heap.size)) g.frm (fun b hb => hs' hb.2 hb.1 (by omega) (by omega) (by omega))) (fun b hb _ => by rw [e.old b hb.2]; exact hb.1)
  · rw [fl_set CM.vals hl]
    exact hx.row
  · show Q.cls.set i m'.c = (ms.set i m').map (·.c)
    rw [List.map_set, h.cls]
  · by_cases hij : i = j
    · subst hij
      rw [List.getElem?_set_self hl] at hj
      cases hj
      exact hx.m
    · rw [List.getElem?_set_ne hij] at hj
      have h1 := (h.cli j x hj).recol sp e.old
      refine h1.frm sp (S := fun b => b < w.heap.size ∧ ((k + 10 + 10 * i ≤ col b ∧ col b < k + 10 + 10 * i + 10) ∨ col b = k + 4)) ⟨g.frm.size, fun b o hb hn => g.frm.same b o hb (fun hs => hn ⟨at_lt hb, hs⟩), g.frm.tape, g.frm.os, g.frm.output⟩ (fun b h2 h3 h4 => ?_)
      rw [e.old b h4.1] at h2 h3
      omega
theorem PB.step (sp : TreeSpec PT) (h : PB PT w col k p t lv mb cb cap rest ms Q) {i : Nat} {m m' : CM} (hi : ms[i]? = some m) (g : CG k (k + 10 + 10 * i) w w' col col')
    (hx : CAt PT w' col' k (k + 10 + 10 * i) cb (fl CM.vals (ms.take i)) (fl CM.vals (ms.drop (i + 1)) ++ rest) m'.bq m'.sq m'.t m'.pd m'.an m'.up m'.dn m'.c) : QStep PT w w' col k p { Q with cls := Q.cls.set i m'.c } := by
  have hl : i < ms.length := (List.getElem?_eq_some_iff.1 hi).1
  have hf := h.few
  exact ⟨col', ⟨_, _, _, _, _, _, _, h.client sp hi g hx⟩, g.ext, g.frm.mono (fun b hb => .inl (by omega))⟩
theorem QStep.same (sp : TreeSpec PT) (h : PP PT w col k p Q) (f : Frm0 w w') : QStep PT w w' col k p Q := by
  obtain ⟨t, lv, mb, cb, cap, rest, ms, hB⟩ := h
  exact ⟨col, ⟨t, lv, mb, cb, cap, rest, ms, hB.frm0 sp f⟩, ⟨fun _ _ => rfl, fun b hb => hB.high b (Nat.le_trans f.size hb), fun b hb => .inl (hB.high b hb)⟩, f.mono (fun _ h => h.elim)⟩
theorem QStep.trans {w1 : World} {col1 : Nat → Nat} (e : Ext k w w1 col col1) (f : Frm (fun b => k ≤ col b ∧ col b < k + 100) w w1) (h : QStep PT w1 w' col1 k p Q) : QStep PT w w' col k p Q := by
  obtain ⟨col2, h1, h2, h3⟩ := h
  refine ⟨col2, h1, e.trans h2 f.size, f.trans h3 (fun b hb => ?_)⟩
  rcases Nat.lt_or_ge b w.heap.size with h4 | h4
  · rw [e.old b h4] at hb; exact .inl hb
  · exact .inr h4
theorem QStep.frm0 (sp : TreeSpec PT) (h : QStep PT w w' col k p Q) {w2 : World} (f : Frm0 w' w2) : QStep PT w w2 col k p Q := by
  obtain ⟨col2, ⟨t, lv, mb, cb, cap, rest, ms, hB⟩, h2, h3⟩ := h
  exact ⟨col2, ⟨t, lv, mb, cb, cap, rest, ms, hB.frm0 sp f⟩, h2.frm0 f, h3.trans0 f⟩
end
theorem PB.cl {PT : PTy} {w : World} {col : Nat → Nat} {k p t : Nat} {lv : Value} {mb cb cap : Nat} {rest : List Value} {ms : List CM} {Q : PPar} (h : PB PT w col k p t lv mb cb cap rest ms Q) (i : Int) : Q.cl i = if i < 0 then none else (ms[i.toNat]?).map (·.c) := by
  unfold PPar.cl
  split
  · rfl
  · rw [h.cls, List.getElem?_map]
end Go.Proofs.YtbicffldggcdhaaGreatDoor

namespace Go.Proofs.YtbicffldggcdhaaGreatDoor
open Go

section
variable {P : Program} {w : World} {ρ : Operand → Value} {d : Option Nat} {t : Nat} {p : String} {af : Array Edge} {g : Option (Nat × Bool)}
theorem r_ifaceA {ty : Nat} {x : Operand} {vs : Array Value} {fs : Array Field} (hx : ρ x = .agg vs) (hu : P.underlying ty = some (.struct fs)) : (execOp ρ ⟨d, .makeInterface ty x, t, p, af, g⟩).run P w = .ok (.value (.iface ty (.agg vs))) w := by
  simp [execOp, hx, Instr.makeInterface, run_underlying hu]
theorem r_inv {recv : Operand} {name : String} {xs : List Operand} {tys : Array Nat} {T f : Nat} {v : Value} (hr : ρ recv = .iface T v) (hm : (Go.method (P.types.size + Made.depth) T v name).run P w = .ok (f, v) w) (hf : callable P f = true) :
    (execOp ρ ⟨d, .call { callee := .invoke recv name, args := xs.toArray, argTypes := tys }, t, p, af, g⟩).run P w = .ok (.enter f (v :: xs.map ρ).toArray) w := by
  have he : ((#[Value.iface T v] ++ (xs.toArray.map ρ)).extract 1 (#[Value.iface T v] ++ (xs.toArray.map ρ)).size) = (xs.map ρ).toArray := by
    apply Array.ext'
    simp
    rw [List.take_of_length_le (by simp)]
  simp only [execOp, resolve, hr, Sem.run_bind, Sem.run_pure, Result.andThen_ok, invoke]
  have h0 : (#[Value.iface T v] ++ xs.toArray.map ρ)[0]? = some (.iface T v) := by simp
  rw [h0]
  simp only [he, callMethod, Sem.run_bind, run_program, Result.andThen_ok, hm]
  rw [run_callFunc hf]
  simp
theorem r_clear {x : Operand} {tT e : Nat} {b off m c : Nat} {l zs : List Value} {ty : Nat} {z : Value} (hx : ρ x = .slice (some ⟨b, off, none⟩) m c) (hm : 0 < m) (hu : P.underlying tT = some (.slice e)) (hz : zrOf P e = some z) (hzs : (Builtin.zeroCells z.cells m).toList = zs) (hb : At w b (cel l ty)) (hl : off + zs.length ≤ l.length) (ho : ∀ v ∈ zs, one v = true) :
    (execOp ρ ⟨d, .call { callee := .builtin .clear, args := #[x], argTypes := #[tT] }, t, p, af, g⟩).run P w = .ok (.value (.tuple #[])) (setB w b (cel (put l off zs) ty)) := by
  obtain ⟨k, rfl⟩ : ∃ k, m = k + 1 := ⟨m - 1, by omega⟩
  have h1 := run_storeCells_at (P := P) (off := off) zs 0 w l hb (by omega) ho
  simp only [execOp, resolve, Sem.run_bind, Sem.run_pure, Result.andThen_ok, invoke, builtin, Builtin.clear_, List.map_toArray, List.map_cons, List.map_nil, hx]
  simp [run_underlying hu, run_zero hz, hzs, h1]
theorem r_sl {ty : Nat} {x : Operand} {lo hi mx : Option Operand} {v s : Value} {a b c : Option Value} (hx : ρ x = v) (ha : lo.map ρ = a) (hb : hi.map ρ = b) (hc : mx.map ρ = c) (h : (Instr.sliceAt ty v a b c).run P w = .ok s w) : (execOp ρ ⟨d, .slice ty x lo hi mx, t, p, af, g⟩).run P w = .ok (.value s) w := by
  subst ha hb hc
  simp [execOp, hx, h]
end
section
variable {P : Program} {w : World} {ty e sz : Nat} {a : Addr} {len cap i j : Nat}
theorem sl3_run (hu : P.underlying ty = some (.slice e)) (hs : szOf P e = some sz) (h1 : i ≤ j) (h2 : j ≤ len) (h3 : len ≤ cap) :
    ∃ s, (Instr.sliceAt ty (.slice (some a) len cap) (some (I i)) (some (I j)) (some (I len))).run P w = .ok s w := by
  refine ⟨.slice (if len = i then some a else (some a).map (·.add (i * sz))) (j - i) (len - i), ?_⟩
  simp [Instr.sliceAt, Instr.slice, run_underlying hu, Instr.sliceBounds, Instr.sliceBound, asIntOf, run_size hs, h1, h2, h3]
theorem slMid_run (hu : P.underlying ty = some (.slice e)) (hs : szOf P e = some sz) (h1 : i ≤ j) (h2 : j ≤ cap) (h3 : i < cap) :
    (Instr.sliceAt ty (.slice (some a) len cap) (some (I i)) (some (I j)) none).run P w = .ok (.slice (some (a.add (i * sz))) (j - i) (cap - i)) w := by
  simp [Instr.sliceAt, Instr.slice, run_underlying hu, Instr.sliceBounds, Instr.sliceBound, asIntOf, run_size hs, h1, h2, show ¬ cap = i by omega]
end
section
variable {P : Program} {w : World} {n d t : Nat} {ds : List Deferred} {env : Env} {ops : Array Oper} {Q : Exit → Act → World → Prop} {p : String} {af : Array Edge} {g : Option (Nat × Bool)} {i : Nat} {l2 : List Nat} {rest : List Oper} {S : World → Prop} {late : List Nat} {r : List (Nat × Bool)}
theorem s_callv {c : Operand} {f : Nat} {xs : List Operand} {tys : Array Nat} {args caps : List Value} {φ : Value → World → Prop} (hv : ev n env c = .func (.func f) #[] caps.toArray) (hc : Rets P f (args ++ caps) w φ) (ha : xs.map (ev n env) = args) (hw : Wnt n env ops g = true) (k : ∀ v w', φ v w' → WpS P ops Q rest (rep n ds (upd env d v)) w') : WpS P ops Q (⟨some d, .call { callee := .value c, args := xs.toArray, argTypes := tys }, t, p, af, g⟩ :: rest) (rep n ds env) w :=
  s_call hc (fun hf => by rw [r_callv hv hf, ha]; simp) hw k
theorem s_inv {recv : Operand} {name : String} {xs : List Operand} {tys : Array Nat} {T f : Nat} {v : Value} {args : List Value} {φ : Value → World → Prop} (hr : ev n env recv = .iface T v) (hm : (Go.method (P.types.size + Made.depth) T v name).run P w = .ok (f, v) w) (hc : Rets P f (v :: args) w φ) (ha : xs.map (ev n env) = args) (hw : Wnt n env ops g = true) (k : ∀ v w', φ v w' → WpS P ops Q rest (rep n ds (upd env d v)) w') : WpS P ops Q (⟨some d, .call { callee := .invoke recv name, args := xs.toArray, argTypes := tys }, t, p, af, g⟩ :: rest) (rep n ds env) w :=
  s_call hc (fun hf => by rw [r_inv hr hm hf, ha]) hw k
end
/-- Appending in place what lies further on in the same block. -/
theorem append_in {P : Program} {w : World} {sT ty e sz n m b ox cap cx : Nat} {l vs : List Value} (hu : P.underlying sT = some (.slice e)) (hs : szOf P e = some sz) (hb : At w b (cel l e)) (hX : ox + m * sz ≤ l.length) (hv : sub l ox (m * sz) = vs) (hone : ∀ u ∈ vs, one u = true) (hfit : n + m ≤ cap) (hl : n * sz + m * sz ≤ l.length) :
    (Builtin.append_ #[sT, sT] ty #[.slice (some ⟨b, 0, none⟩) n cap, .slice (some ⟨b, ox, none⟩) m cx]).run P w = .ok (.slice (some ⟨b, 0, none⟩) (n + m) cap) (setB w b (cel (put l (n * sz) vs) e)) := by
  have hxl := sub_length l ox (m * sz) hX
  have hfc : (Builtin.firstCells sz m (.slice (some ⟨b, ox, none⟩) m cx)).run P w = .ok (sub l ox (m * sz)).toArray w := run_loadCells_at hb hX
  have hst := run_storeCells_at (P := P) (off := n * sz) (sub l ox (m * sz)) 0 w l hb (by omega) (by rw [hv]; exact hone)
  have ea : (⟨b, 0, none⟩ : Addr).add (n * sz) = ⟨b, n * sz, none⟩ := by rw [add_none, Nat.zero_add]
  subst hv
  simp only [Nat.add_zero] at hst
  simp [Builtin.append_, run_underlying hu, run_size hs, run_lenOf, hfit, hfc, ea, hst]
end Go.Proofs.YtbicffldggcdhaaGreatDoor

namespace Go.Proofs.YtbicffldggcdhaaGreatDoor
open Go

/-- A bare reason: none, or the one of that number. -/
def Bare (ea : List Addr) (v : Value) (n : Nat) : Prop := (n = 0 ∧ v = .nilIface) ∨ (0 < n ∧ ∃ a, v = errV a ∧ ea[n - 1]? = some a)
theorem refusal_ret {w : World} {ea : List Addr} {v : Value} {n : Nat} (h : Bare ea v n) (e : Ed) :
    Rets Tryz.prog 49 [EdV e, v] w fun u w' => ErrIs ea w' u n e ∧ Frm0 w w' ∧ ∀ b, u = .iface 95 (Ptr b) → w.heap.size ≤ b := by
  rcases h with ⟨rfl, rfl⟩ | ⟨hn, a, rfl, ha⟩
  · refine rets_of Tryz.func49 (by kernel_rfl) rfl Tryz.ntmps49 (Nat.le_of_ble_eq_true rfl) ?_
    refine runG06 ?_
    refine s_val (r_nn rfl) wnt_none ?_
    refine runG06 ?_
    exact ret_ni rfl rfl ⟨.inl ⟨rfl, rfl⟩, Frm.of_alloc _ _, fun b h => by cases h⟩
  · have hbox := at_alloc_new w (cel e.vals 31)
    refine rets_of Tryz.func49 (by kernel_rfl) rfl Tryz.ntmps49 (Nat.le_of_ble_eq_true rfl) ?_
    refine runG06 ?_
    refine s_val (r_in rfl) wnt_none ?_
    refine runG06 ?_
    refine s_val (r_build rfl (bld_refusal e a _)) wnt_none ?_
    refine runG06 ?_
    exact ret_if rfl rfl ⟨.inr ⟨hn, _, a, rfl, at_alloc_new _ _, ha⟩, ((Frm.refl _ w).alloc _).alloc _, fun b h => by cases h; rw [World.size_alloc]; omega⟩

theorem err9 {w : World} {ea : List Addr} (h : Errs w ea) (i g : Nat) (hg : errG[i]? = some g) : ∃ a ty kk, ea[i]? = some a ∧ At w g (.cells [errV a].toArray ty kk) := by
  have hi : i < 9 := by have := (List.getElem?_eq_some_iff.1 hg).1; simpa [errG] using this
  obtain ⟨a, ha⟩ : ∃ a, ea[i]? = some a := ⟨_, List.getElem?_eq_getElem (by rw [h.len]; exact hi)⟩
  obtain ⟨ty, k, hv⟩ := (h.one i g a hg ha).var
  exact ⟨a, ty, k, ha, hv⟩

section
variable {PT : PTy} {w : World} {col : Nat → Nat} {k p t : Nat} {lv : Value} {mb cb cap : Nat} {rest : List Value} {ms : List CM} {Q : PPar}
theorem find_ret (h : PB PT w col k p t lv mb cb cap rest ms Q) {ea : List Addr} (hE : Errs w ea) (i : Int) :
    Rets Tryz.prog 48 [Ptr p, I i] w fun v w' => (match Q.cl i with | none => ∃ a, v = .tuple #[.pointer none, errV a] ∧ ea[0]? = some a | some _ => ∃ m, ms[i.toNat]? = some m ∧ 0 ≤ i ∧ v = .tuple #[.pointer (some ⟨cb, (fl CM.vals (ms.take i.toNat)).length, none⟩), .nilIface]) ∧ Frm0 w w' := by
  have h1 := h.head
  have hf := h.few
  have hcl := h.cl i
  obtain ⟨a, ty, kk, ha, hg⟩ := err9 hE 0 0 rfl
  by_cases hneg : i < 0
  · rw [if_pos hneg] at hcl
    rw [hcl]
    refine rets_of Tryz.func48 (by kernel_rfl) rfl Tryz.ntmps48 (Nat.le_of_ble_eq_true rfl) ?_
    refine runG06 ?_
    refine w_drawn [(0, false), (1, false), (2, false)] [] (fun wq => Frm0 w wq) mixed (by kernel_rfl) ?_ ?_
    · exact Frm.of_drew _
    · refine runG06 ?_
      exact ret_2 rfl rfl rfl ⟨⟨a, rfl, ha⟩, Frm.of_drew _⟩
  · rw [if_neg hneg] at hcl
    by_cases hlt : i.toNat < ms.length
    · obtain ⟨m, hm⟩ : ∃ m, ms[i.toNat]? = some m := ⟨_, List.getElem?_eq_getElem hlt⟩
      have ho := h.off hm
      rw [hm] at hcl
      rw [hcl]
      refine rets_of Tryz.func48 (by kernel_rfl) rfl Tryz.ntmps48 (Nat.le_of_ble_eq_true rfl) ?_
      refine runG06 ?_
      exact ret_2 (v1 := .pointer (some ⟨cb, 0 + i.toNat * 8, none⟩)) (v2 := .nilIface) rfl rfl rfl ⟨⟨m, hm, by omega, by rw [ho, Nat.zero_add]⟩, Frm.refl _ _⟩
    · rw [List.getElem?_eq_none (by omega)] at hcl
      rw [hcl]
      refine rets_of Tryz.func48 (by kernel_rfl) rfl Tryz.ntmps48 (Nat.le_of_ble_eq_true rfl) ?_
      refine runG06 ?_
      refine w_drawn [(0, false), (1, false), (2, false)] [] (fun wq => Frm0 w wq) mixed (by kernel_rfl) ?_ ?_
      · exact Frm.of_drew _
      · refine runG06 ?_
        exact ret_2 rfl rfl rfl ⟨⟨a, rfl, ha⟩, Frm.of_drew _⟩
end
/-- let: the client is looked for first of all; then the function is called. -/
theorem let_ret {PT : PTy} {w : World} {col : Nat → Nat} {k p t : Nat} {lv : Value} {mb cb cap : Nat} {rest : List Value} {ms : List CM} {Q : PPar} (h : PB PT w col k p t lv mb cb cap rest ms Q) {ea : List Addr} (hE : Errs w ea) (i : Int) {f : Nat} {caps : List Value} {φ : Value → World → Prop}
    (hno : Q.cl i = none → ∀ w' a, Frm0 w w' → ea[0]? = some a → φ (errV a) w') (hyes : ∀ m w', ms[i.toNat]? = some m → Q.cl i = some m.c → 0 ≤ i → Frm0 w w' → Rets Tryz.prog f ([.pointer (some ⟨cb, (fl CM.vals (ms.take i.toNat)).length, none⟩)] ++ caps) w' φ) (hφ : ∀ v w', φ v w' → v = .nilIface ∨ ∃ a, v = errV a) :
    Rets Tryz.prog 77 [Ptr p, I i, .func (.func f) #[] caps.toArray] w φ := by
  have hcl := h.cl i
  refine rets_of Tryz.func77 (by kernel_rfl) rfl Tryz.ntmps77 (Nat.le_of_ble_eq_true rfl) ?_
  refine runG06 ?_
  refine s_callf (find_ret h hE i) rfl wnt_none ?_
  rintro v w1 ⟨hv, f1⟩
  cases hc : Q.cl i with
  | none =>
    rw [hc] at hv
    obtain ⟨a, rfl, ha⟩ := hv
    refine runG06 ?_
    refine s_val (r_nnT rfl) wnt_none ?_
    refine runG06 ?_
    exact ret_if rfl rfl (hno hc w1 a f1 ha)
  | some c =>
    rw [hc] at hv
    obtain ⟨m, hm, h0, rfl⟩ := hv
    refine runG06 ?_
    refine s_val (r_nnF rfl) wnt_none ?_
    refine runG06 ?_
    have hcm : Q.cl i = some m.c := by
      rw [hcl, if_neg (by omega), hm]
      rfl
    refine s_callv rfl (hyes m w1 hm hcm h0 f1) rfl wnt_none ?_
    intro v w2 hv
    rcases hφ v w2 hv with rfl | ⟨a, rfl⟩
    · refine runG06 ?_
      exact ret_ni rfl rfl hv
    · refine runG06 ?_
      exact ret_if rfl rfl hv
end Go.Proofs.YtbicffldggcdhaaGreatDoor

namespace Go.Proofs.YtbicffldggcdhaaGreatDoor
open Go

section
variable {P : Program} {ty e sz b n cap : Nat}
theorem slTo0 (hu : P.underlying ty = some (.slice e)) (hs : szOf P e = some sz) {len : Nat} (w : World) (hc : 0 < cap) :
    (Instr.sliceAt ty (.slice (some ⟨b, 0, none⟩) len cap) none (some (I 0)) none).run P w = .ok (.slice (some ⟨b, 0, none⟩) 0 cap) w := by
  have h := sliceTo_run (P := P) (w := w) (a := some ⟨b, 0, none⟩) (len := len) (k := 0) hu hs (Nat.zero_le cap)
  rw [if_neg (by omega)] at h
  simpa [add_none] using h
theorem slFrom1 (hu : P.underlying ty = some (.slice e)) (hs : szOf P e = some sz) (w : World) :
    (Instr.sliceAt ty (.slice (some ⟨b, 0, none⟩) (n + 1) cap) (some (I 1)) none none).run P w = .ok (.slice (some ⟨b, if cap = 1 then 0 else sz, none⟩) n (cap - 1)) w := by
  have h := sliceFrom_run (P := P) (w := w) (a := some ⟨b, 0, none⟩) (len := n + 1) (cap := cap) (k := 1) hu hs (by omega)
  have h' : (Instr.sliceAt ty (.slice (some ⟨b, 0, none⟩) (n + 1) cap) (some (I 1)) none none).run P w = .ok (.slice (if cap = 1 then some ⟨b, 0, none⟩ else (some (⟨b, 0, none⟩ : Addr)).map (·.add (1 * sz))) (n + 1 - 1) (cap - 1)) w := h
  rw [h']
  split
  · rfl
  · simp [add_none]
theorem slLast (hu : P.underlying ty = some (.slice e)) (hs : szOf P e = some sz) {len : Nat} (w : World) (hc : n < cap) :
    (Instr.sliceAt ty (.slice (some ⟨b, 0, none⟩) len cap) (some (I (n : Int))) (some (I ((n + 1 : Nat) : Int))) none).run P w = .ok (.slice (some ⟨b, n * sz, none⟩) 1 (cap - n)) w := by
  have h := slMid_run (P := P) (w := w) (a := ⟨b, 0, none⟩) (len := len) (cap := cap) (i := n) (j := n + 1) hu hs (by omega) (by omega) hc
  rw [add_none, Nat.zero_add, show n + 1 - n = 1 by omega] at h
  exact h
end
theorem put_back {x pre rest zs : List Value} : put (put (x ++ pre ++ rest) 0 pre) pre.length zs = pre ++ put ((x ++ pre ++ rest).drop pre.length) 0 zs := by
  rw [put_head _ _ (by simp; omega), put_right]
theorem sub_tail {x pre rest : List Value} {sz n ox : Nat} (hl : pre.length = n * sz) (h : ox = x.length ∨ n = 0) : sub (x ++ pre ++ rest) ox (n * sz) = pre := by
  rcases h with rfl | rfl
  · rw [List.append_assoc, ← hl]
    have := mid_sub (n := pre.length) (x := pre) (post := rest) x 0 (by omega)
    rw [Nat.add_zero] at this
    rw [this, sub_all]
  · rw [Nat.zero_mul] at hl ⊢
    rw [sub_zero, List.length_eq_zero_iff.1 hl]
end Go.Proofs.YtbicffldggcdhaaGreatDoor

namespace Go.Proofs.YtbicffldggcdhaaGreatDoor
open Go

set_option maxHeartbeats 1000000 in
theorem DelMsg_ret {w : World} {v : Value} {n : Nat} {x pre : List Value} (h : Row w v 172 1 (n + 1) (x ++ pre)) (hx : x.length = 1) (ho : ∀ u ∈ pre, one u = true) :
    Rets Tryz.prog 106 [v, I 0, I 1] w fun u w' => Row w' u 172 1 n pre ∧ Frm (InV v) w w' ∧ ∀ b, InV u b → InV v b := by
  rcases h with ⟨_, h0, _⟩ | ⟨b, cap, rest, rfl, hA, hl, hr, hc⟩
  · omega
  · have hpl : pre.length = n * 1 := by simp only [List.length_append] at hl; omega
    obtain ⟨s3, h3⟩ := sl3_run (P := Tryz.prog) (w := w) (ty := 115) (a := ⟨b, 0, none⟩) (len := n + 1) (cap := cap) (i := 0) (j := 1) (u_ok rfl) (s_ok rfl) (by omega) (by omega) hc
    have hox : ∀ q, (if cap = 1 then 0 else 1) = q → q = x.length ∨ n = 0 := fun q hq => by split at hq <;> omega
    have hap := append_in (P := Tryz.prog) (w := w.drew) (sT := 115) (ty := 115) (sz := 1) (n := 0) (m := n) (b := b) (ox := if cap = 1 then 0 else 1) (cap := cap) (cx := cap - 1) (u_ok rfl) (s_ok rfl) (at_drew hA) (by simp only [List.length_append]; split <;> omega) (sub_tail hpl (hox _ rfl)) ho (by omega) (by simp only [List.length_append]; omega)
    rw [Nat.zero_add, Nat.zero_mul] at hap
    refine rets_of Tryz.func106 (by kernel_rfl) rfl Tryz.ntmps106 (Nat.le_of_ble_eq_true rfl) ?_
    refine runG06 ?_
    refine s_val (r_sl rfl rfl rfl rfl h3) wnt_none ?_
    refine runG06 ?_
    refine w_drawn [(0, false), (1, false), (2, false), (3, false), (4, false), (5, false)] [6, 7] (fun wq => Frm0 w wq) mixed (by kernel_rfl) ?_ ?_
    · exact Frm.of_drew _
    · refine runG06 ?_
      refine x_q rfl (fun wq hq => r_sl rfl rfl rfl rfl (slTo0 (u_ok rfl) (s_ok rfl) wq (by omega))) wnt_none ?_
      refine runG06 ?_
      refine x_q rfl (fun wq hq => r_sl rfl rfl rfl rfl (slFrom1 (u_ok rfl) (s_ok rfl) wq)) wnt_none ?_
      refine runG06 ?_
      refine y_val rfl (r_app rfl rfl hap) wnt_none ?_
      refine runG06 ?_
      refine s_val (r_sl rfl rfl rfl rfl (slLast (u_ok rfl) (s_ok rfl) _ (by omega))) wnt_none ?_
      refine s_val0 (r_clear (zs := [.nilIface]) rfl (by omega) (u_ok rfl) (z_ok rfl) (by kernel_rfl) (at_setB _ (at_drew hA)) (by rw [put_length]; simp only [List.length_append, List.length_cons, List.length_nil]; omega) (by simp [one])) wnt_none ?_
      refine runG06 ?_
      refine ret_s rfl rfl ⟨.inr ⟨b, cap, put ((x ++ pre ++ rest).drop pre.length) 0 [.nilIface], rfl, ?_, hpl, ?_, by omega⟩, ?_, fun b' hb => ?_⟩
      · rw [setB_setB, show n * 1 = pre.length from hpl.symm, put_back]
        exact at_setB _ (at_drew hA)
      · rw [put_length, List.length_drop]
        simp only [List.length_append] at *
        omega
      · exact (((Frm.of_drew w).setB (b := b) (.inl ⟨_, _, _, rfl⟩) _).setB (b := b) (.inl ⟨_, _, _, rfl⟩) _)
      · obtain ⟨_, _, _, e⟩ := hb
        cases e
        exact ⟨_, _, _, rfl⟩
end Go.Proofs.YtbicffldggcdhaaGreatDoor

namespace Go.Proofs.YtbicffldggcdhaaGreatDoor
open Go

set_option maxHeartbeats 1000000 in
theorem DelEnt_ret {w : World} {v : Value} {n : Nat} {x pre : List Value} (h : Row w v 54 9 (n + 1) (x ++ pre)) (hx : x.length = 9) (ho : ∀ u ∈ pre, one u = true) :
    Rets Tryz.prog 168 [v, I 0, I 1] w fun u w' => Row w' u 54 9 n pre ∧ Frm (InV v) w w' ∧ ∀ b, InV u b → InV v b := by
  rcases h with ⟨_, h0, _⟩ | ⟨b, cap, rest, rfl, hA, hl, hr, hc⟩
  · omega
  · have hpl : pre.length = n * 9 := by simp only [List.length_append] at hl; omega
    obtain ⟨s3, h3⟩ := sl3_run (P := Tryz.prog) (w := w) (ty := 46) (a := ⟨b, 0, none⟩) (len := n + 1) (cap := cap) (i := 0) (j := 1) (u_ok rfl) (s_ok rfl) (by omega) (by omega) hc
    have hox : ∀ q, (if cap = 1 then 0 else 9) = q → q = x.length ∨ n = 0 := fun q hq => by split at hq <;> omega
    have hap := append_in (P := Tryz.prog) (w := w.drew) (sT := 46) (ty := 46) (sz := 9) (n := 0) (m := n) (b := b) (ox := if cap = 1 then 0 else 9) (cap := cap) (cx := cap - 1) (u_ok rfl) (s_ok rfl) (at_drew hA) (by simp only [List.length_append]; split <;> omega) (sub_tail hpl (hox _ rfl)) ho (by omega) (by simp only [List.length_append]; omega)
    rw [Nat.zero_add, Nat.zero_mul] at hap
    refine rets_of Tryz.func168 (by kernel_rfl) rfl Tryz.ntmps168 (Nat.le_of_ble_eq_true rfl) ?_
    refine runG06 ?_
    refine s_val (r_sl rfl rfl rfl rfl h3) wnt_none ?_
    refine runG06 ?_
    refine w_drawn [(0, false), (1, false), (2, false), (3, false), (4, false), (5, false)] [6, 7] (fun wq => Frm0 w wq) mixed (by kernel_rfl) ?_ ?_
    · exact Frm.of_drew _
    · refine runG06 ?_
      refine x_q rfl (fun wq hq => r_sl rfl rfl rfl rfl (slTo0 (u_ok rfl) (s_ok rfl) wq (by omega))) wnt_none ?_
      refine runG06 ?_
      refine x_q rfl (fun wq hq => r_sl rfl rfl rfl rfl (slFrom1 (u_ok rfl) (s_ok rfl) wq)) wnt_none ?_
      refine runG06 ?_
      refine y_val rfl (r_app rfl rfl hap) wnt_none ?_
      refine runG06 ?_
      refine s_val (r_sl rfl rfl rfl rfl (slLast (u_ok rfl) (s_ok rfl) _ (by omega))) wnt_none ?_
      refine s_val0 (r_clear (zs := [I 0, I 0, I 0, I 0, I 0, I 0, I 0, I 0, B false]) rfl (by omega) (u_ok rfl) (z_ok rfl) (by kernel_rfl) (at_setB _ (at_drew hA)) (by rw [put_length]; simp only [List.length_append, List.length_cons, List.length_nil]; omega) (by simp [one])) wnt_none ?_
      refine runG06 ?_
      refine ret_s rfl rfl ⟨.inr ⟨b, cap, put ((x ++ pre ++ rest).drop pre.length) 0 [I 0, I 0, I 0, I 0, I 0, I 0, I 0, I 0, B false], rfl, ?_, hpl, ?_, by omega⟩, ?_, fun b' hb => ?_⟩
      · rw [setB_setB, show n * 9 = pre.length from hpl.symm, put_back]
        exact at_setB _ (at_drew hA)
      · rw [put_length, List.length_drop]
        simp only [List.length_append] at *
        omega
      · exact (((Frm.of_drew w).setB (b := b) (.inl ⟨_, _, _, rfl⟩) _).setB (b := b) (.inl ⟨_, _, _, rfl⟩) _)
      · obtain ⟨_, _, _, e⟩ := hb
        cases e
        exact ⟨_, _, _, rfl⟩
end Go.Proofs.YtbicffldggcdhaaGreatDoor

namespace Go.Proofs.YtbicffldggcdhaaGreatDoor
open Go

theorem ext_typeOf (a : Addr) (w : World) : (callFunc 124 #[errV a]).run Tryz.prog w = .ok (.value (.iface 208 (.agg #[.pointer (some ⟨9, 236, none⟩)]))) w := by kernel_rfl
theorem ext_comp (w : World) : (callMethod (.iface 208 (.agg #[.pointer (some ⟨9, 236, none⟩)])) "Comparable" #[]).run Tryz.prog w = .ok (.value (.bool true)) w := by kernel_rfl
section
variable {w : World} {n d t : Nat} {env : Env} {p : String} {af : Array Edge} {g : Option (Nat × Bool)}
theorem r_typeOf {x : Operand} {tys : Array Nat} {a : Addr} (hx : ev n env x = errV a) : (execOp (ev n env) ⟨some d, .call { callee := .value (.func 124), args := #[x], argTypes := tys }, t, p, af, g⟩).run Tryz.prog w = .ok (.value (.iface 208 (.agg #[.pointer (some ⟨9, 236, none⟩)]))) w := by
  have hr : ev n env (.func 124) = .func (.func 124) #[] #[] := rfl
  simp [execOp, resolve, hr, hx, Deferred.ofValue, invoke, ext_typeOf]
theorem r_comp {x : Operand} {tys : Array Nat} (hx : ev n env x = .iface 208 (.agg #[.pointer (some ⟨9, 236, none⟩)])) : (execOp (ev n env) ⟨some d, .call { callee := .invoke x "Comparable", args := #[], argTypes := tys }, t, p, af, g⟩).run Tryz.prog w = .ok (.value (.bool true)) w := by
  simp [execOp, resolve, hx, invoke, ext_comp]
end
theorem noIsE (v : Value) (w : World) : (Instr.typeAssert (.iface 236 v) 34 210 true).run Tryz.prog w = .ok (.tuple #[.nilIface, .bool false]) w := run_typeAssert_lacksB (u_ok rfl) (by kernel_rfl) (by kernel_rfl) v _ w
theorem noUnwrapE (v : Value) (w : World) : (Instr.typeAssert (.iface 236 v) 34 213 true).run Tryz.prog w = .ok (.tuple #[.nilIface, .bool false]) w := run_typeAssert_lacksB (u_ok rfl) (by kernel_rfl) (by kernel_rfl) v _ w
theorem noUnwrapsE (v : Value) (w : World) : (Instr.typeAssert (.iface 236 v) 34 214 true).run Tryz.prog w = .ok (.tuple #[.nilIface, .bool false]) w := run_typeAssert_lacksB (u_ok rfl) (by kernel_rfl) (by kernel_rfl) v _ w
theorem noIsR (v : Value) (w : World) : (Instr.typeAssert (.iface 95 v) 34 210 true).run Tryz.prog w = .ok (.tuple #[.nilIface, .bool false]) w := run_typeAssert_lacksB (u_ok rfl) (by kernel_rfl) (by kernel_rfl) v _ w
theorem hasUnwrapR (v : Value) (w : World) : (Instr.typeAssert (.iface 95 v) 34 213 true).run Tryz.prog w = .ok (.tuple #[.iface 95 v, .bool true]) w := run_typeAssert_hasB (u_ok rfl) (by kernel_rfl) v _ w
theorem methUnwrap (v : Value) (w : World) : (Go.method (Tryz.prog.types.size + Made.depth) 95 v "Unwrap").run Tryz.prog w = .ok (163, v) w := by kernel_rfl
theorem Unwrap_ret {w : World} {b : Nat} {e : Ed} {a : Addr} (h : At w b (cel (e.vals ++ [errV a]) 97)) : Rets Tryz.prog 163 [Ptr b] w fun v w' => v = errV a ∧ w = w' := by
  refine rets_of Tryz.func163 (by kernel_rfl) rfl Tryz.ntmps163 (Nat.le_of_ble_eq_true rfl) ?_
  refine runG06 ?_
  exact ret_if rfl rfl ⟨rfl, rfl⟩
theorem r_eeT {w : World} {n d t ty2 : Nat} {env : Env} {p : String} {af : Array Edge} {g : Option (Nat × Bool)} {x y : Operand} {u : Value} {a : Addr} (hx : ev n env x = .iface 95 u) (hy : ev n env y = errV a) : (execOp (ev n env) ⟨some d, .binOp .eql 34 x y ty2, t, p, af, g⟩).run Tryz.prog w = .ok (.value (.bool false)) w :=
  r_eq2 hx hy rfl (run_eql_iface_types _ _ _ _ (u_ok rfl) (by decide) w)
theorem r_eeO {w : World} {n d t ty2 : Nat} {env : Env} {p : String} {af : Array Edge} {g : Option (Nat × Bool)} {x y : Operand} {a b : Addr} (hx : ev n env x = errV a) (hy : ev n env y = errV b) (hne : a ≠ b) (ha : ∃ c t, At w a.block (.cells c t (0, 0))) (hb : ∃ c t, At w b.block (.cells c t (0, 0))) : (execOp (ev n env) ⟨some d, .binOp .eql 34 x y ty2, t, p, af, g⟩).run Tryz.prog w = .ok (.value (.bool false)) w :=
  r_eq2 hx hy rfl (eq_other hne ha hb)
theorem nil_eq {w : World} (a : Addr) : (binOp .eql 34 .nilIface (errV a)).run Tryz.prog w = .ok (.bool false) w := by
  have h : ∀ d : Nat, (Op.equalIn (d + 1) 34 .nilIface (errV a)).run Tryz.prog w = .ok false w := fun d => by simp [Op.equalIn, errV, run_underlying Tryz.underlying34]
  unfold errV at *
  simp only [binOp]
  simp [Op.equal, Op.maxDepth, h 9999]
set_option maxHeartbeats 1000000 in
theorem is_ret {w : World} {b : Nat} {e : Ed} {a a1 : Addr} (h : At w b (cel (e.vals ++ [errV a]) 97)) (ha : ∃ c t, At w a.block (.cells c t (0, 0))) (hb : ∃ c t, At w a1.block (.cells c t (0, 0))) :
    Rets Tryz.prog 125 [.iface 95 (Ptr b), errV a1, B true] w fun v w' => v = B (decide (a = a1)) ∧ w = w' := by
  refine rets_of Tryz.func125 (by kernel_rfl) rfl Tryz.ntmps125 (Nat.le_of_ble_eq_true rfl) ?_
  refine runG06 ?_
  refine lp (fun env w' => w = w' ∧ ∃ env0, env = setL env0 [(0, .iface 95 (Ptr b)), (1, errV a1), (2, B true)] ∨ env = setL env0 [(0, errV a), (1, errV a1), (2, B true)]) (fun env _ => match env 0 with | .iface T _ => if T = 95 then 1 else 0 | _ => 0) ?_ ?_
  · exact ⟨rfl, _, .inl (fixL ⟨rfl, rfl, rfl, trivial⟩)⟩
  · rintro env w' ⟨rfl, env0, rfl | rfl⟩
    · refine runG06 ?_
      refine s_val (r_eeT rfl rfl) (by (first | (with_reducible exact wnt_none) | ((with_reducible apply wnt_y); exact rfl; exact rfl; exact rfl; exact rfl; (with_reducible exact rfl)))) ?_
      refine runG06 ?_
      refine s_val (r_ta rfl (noIsR _ w)) wnt_none ?_
      refine runG06 ?_
      refine s_val (r_ta rfl (hasUnwrapR _ w)) wnt_none ?_
      refine runG06 ?_
      refine s_inv rfl (methUnwrap _ w) (Unwrap_ret h) rfl wnt_none ?_
      rintro v w2 ⟨rfl, rfl⟩
      refine runG06 ?_
      refine s_val (r_in rfl) wnt_none ?_
      refine runG06 ?_
      exact ⟨_, rfl, ⟨rfl, _, .inr (fixL ⟨rfl, rfl, rfl, trivial⟩)⟩, show (0 : Nat) < 1 by decide⟩
    · by_cases hq : a = a1
      · subst hq
        refine runG06 ?_
        refine s_val (r_ees (a := a) rfl rfl) (by (first | (with_reducible exact wnt_none) | ((with_reducible apply wnt_y); exact rfl; exact rfl; exact rfl; exact rfl; (with_reducible exact rfl)))) ?_
        refine runG06 ?_
        exact ret_b rfl rfl ⟨by simp, rfl⟩
      · refine runG06 ?_
        refine s_val (r_eeO rfl rfl hq ha hb) (by (first | (with_reducible exact wnt_none) | ((with_reducible apply wnt_y); exact rfl; exact rfl; exact rfl; exact rfl; (with_reducible exact rfl)))) ?_
        refine runG06 ?_
        refine s_val (r_ta rfl (noIsE _ w)) wnt_none ?_
        refine runG06 ?_
        refine s_val (r_ta rfl (noUnwrapE _ w)) wnt_none ?_
        refine runG06 ?_
        refine s_val (r_ta rfl (noUnwrapsE _ w)) wnt_none ?_
        refine runG06 ?_
        exact ret_b rfl rfl ⟨by simp [hq], rfl⟩
theorem Is_ret {w : World} {ea : List Addr} {v : Value} {n : Nat} {e : Ed} {a1 : Addr} (hE : Errs w ea) (h : ErrIs ea w v n e) (h1 : ea[0]? = some a1) :
    Rets Tryz.prog 120 [v, errV a1] w fun u w' => u = B (decide (n = 1)) ∧ w = w' := by
  rcases h with ⟨rfl, rfl⟩ | ⟨hn, b, a, rfl, hb, ha⟩
  · refine rets_of Tryz.func120 (by kernel_rfl) rfl Tryz.ntmps120 (Nat.le_of_ble_eq_true rfl) ?_
    refine runG06 ?_
    refine s_val (r_nn rfl) wnt_none ?_
    refine runG06 ?_
    refine s_val (r_eq2 (a := .nilIface) (b := errV a1) (r := false) rfl rfl rfl (nil_eq a1)) wnt_none ?_
    refine runG06 ?_
    exact ret_b rfl rfl ⟨rfl, rfl⟩
  · have hi : (decide (a = a1)) = decide (n = 1) := by
      by_cases hq : n = 1
      · subst hq
        rw [h1] at ha
        cases ha
        simp
      · have : a ≠ a1 := fun e => by
          subst e
          have h9 := (List.getElem?_eq_some_iff.1 ha).1
          have h8 := (List.getElem?_eq_some_iff.1 h1).1
          refine (List.pairwise_iff_getElem.1 hE.nodup) 0 (n - 1) h8 h9 (by omega) ?_
          rw [List.getElem?_eq_getElem h9] at ha
          rw [List.getElem?_eq_getElem h8] at h1
          rw [Option.some.inj ha, Option.some.inj h1]
        simp [this, hq]
    refine rets_of Tryz.func120 (by kernel_rfl) rfl Tryz.ntmps120 (Nat.le_of_ble_eq_true rfl) ?_
    refine runG06 ?_
    refine s_val (r_in rfl) wnt_none ?_
    refine runG06 ?_
    refine s_val (r_in rfl) (by (first | (with_reducible exact wnt_none) | ((with_reducible apply wnt_y); exact rfl; exact rfl; exact rfl; exact rfl; (with_reducible exact rfl)))) ?_
    refine runG06 ?_
    refine s_val (r_typeOf rfl) wnt_none ?_
    refine s_val (r_comp rfl) wnt_none ?_
    refine runG06 ?_
    refine s_callf (is_ret hb (errs_get_one hE ha) (errs_get_one hE h1)) rfl wnt_none ?_
    rintro v w2 ⟨rfl, rfl⟩
    rw [hi]
    refine runG06 ?_
    exact ret_b rfl rfl ⟨rfl, rfl⟩
theorem wrong_root (e : Ed) : decide (refused [root0] e = 1) = wrongB e := by
  unfold refused
  cases wrongB e with
  | true => rfl
  | false =>
    simp only [Bool.false_eq_true, if_false]
    split
    · rfl
    · split
      · rfl
      · split
        · rfl
        · split
          · rfl
          · split
            · rfl
            · split <;> rfl
set_option maxHeartbeats 1000000 in
theorem outOfBounds_ret {PT : PTy} (sp : TreeSpec PT) {w : World} {ea : List Addr} (hE : Errs w ea) (hW : Wf [root0]) (e : Ed) :
    Rets Tryz.prog 104 [EdV e] w fun v w' => v = B (wrongB e) ∧ Frm0 w w' := by
  have hlt := errs_lt hE
  have hF1 : Frm0 w (w.alloc (cel e.vals 31)) := Frm.of_alloc _ _
  have hbox := at_alloc_new w (cel e.vals 31)
  refine rets_of Tryz.func104 (by kernel_rfl) rfl Tryz.ntmps104 (Nat.le_of_ble_eq_true rfl) ?_
  refine runG06 ?_
  generalize w.alloc (cel e.vals 31) = w1 at *
  obtain ⟨a, ty, kk, ha, hg⟩ := err9 (hE.frm0 hF1) 0 0 rfl
  have s1 := hF1.size
  refine w_drawn [(1, false), (3, false), (0, true), (2, true)] [4, 5] (fun wq => Frm0 w1 wq) mixed (by kernel_rfl) ?_ ?_
  · exact Frm.of_drew _
  · refine runG06 ?_
    refine x_callf rfl (sp.new w1.drew) rfl wnt_none ?_
    rintro v w2 ⟨t, rfl, hT, f2⟩
    refine ⟨(Frm.of_drew w1).trans0 f2, ?_⟩
    have hE2 : Errs w2 ea := hE.frm0 ((hF1.trans0 (Frm.of_drew w1)).trans0 f2)
    have hz : w1.drew.heap.size = w1.heap.size := rfl
    refine x_callf rfl (sp.apply (ea := ea) e hT hW hE2 (fun g hg hs => by have := hlt.1 g hg; omega) (fun a ha hs => by have := hlt.2 a ha; omega)) rfl wnt_none ?_
    rintro v w3 ⟨hEr, _, f3, _⟩
    have F3 : Frm0 w1.drew w3 := f2.trans f3 (fun b hb => .inr hb)
    refine ⟨(Frm.of_drew w1).trans0 F3, ?_⟩
    refine runG06 ?_
    refine y_callf rfl (Is_ret (hE.frm0 ((hF1.trans0 (Frm.of_drew w1)).trans0 F3)) hEr ha) rfl wnt_none ?_
    rintro v w4 ⟨rfl, rfl⟩
    refine runG06 ?_
    exact ret_b rfl rfl ⟨by rw [wrong_root], (hF1.trans0 (Frm.of_drew w1)).trans0 F3⟩
end Go.Proofs.YtbicffldggcdhaaGreatDoor

namespace Go.Proofs.YtbicffldggcdhaaGreatDoor
open Go

section
variable {pre post : List Value} {t : Nat} {n n' : Int} {pd an up dn v : Value} {jn tl b : Bool}
theorem set_n : (pre ++ (cvals t n pd an jn tl up dn ++ post)).set (pre.length + 0 + 1) (I n') = pre ++ (cvals t n' pd an jn tl up dn ++ post) := mid_set2 (a := 0) (b := 1) (show 1 < 8 by decide)
theorem set_pd : (pre ++ (cvals t n pd an jn tl up dn ++ post)).set (pre.length + 2) v = pre ++ (cvals t n v an jn tl up dn ++ post) := mid_set (k := 2) (show 2 < 8 by decide)
theorem set_an : (pre ++ (cvals t n pd an jn tl up dn ++ post)).set (pre.length + 3) v = pre ++ (cvals t n pd v jn tl up dn ++ post) := mid_set (k := 3) (show 3 < 8 by decide)
theorem set_jn : (pre ++ (cvals t n pd an jn tl up dn ++ post)).set (pre.length + 4 + 0) (B b) = pre ++ (cvals t n pd an b tl up dn ++ post) := mid_set2 (a := 4) (b := 0) (show 4 < 8 by decide)
theorem set_tl : (pre ++ (cvals t n pd an jn tl up dn ++ post)).set (pre.length + 4 + 1) (B b) = pre ++ (cvals t n pd an jn b up dn ++ post) := mid_set2 (a := 4) (b := 1) (show 5 < 8 by decide)
theorem set_up : (pre ++ (cvals t n pd an jn tl up dn ++ post)).set (pre.length + 4 + 2) v = pre ++ (cvals t n pd an jn tl v dn ++ post) := mid_set2 (a := 4) (b := 2) (show 6 < 8 by decide)
theorem set_dn : (pre ++ (cvals t n pd an jn tl up dn ++ post)).set (pre.length + 4 + 3) v = pre ++ (cvals t n pd an jn tl up v ++ post) := mid_set2 (a := 4) (b := 3) (show 7 < 8 by decide)
theorem mid_len {x : List Value} : (pre ++ (x ++ post)).length = pre.length + (x.length + post.length) := by rw [List.length_append, List.length_append]
theorem clt (t : Nat) (n : Int) (pd an up dn : Value) (jn tl : Bool) {k : Nat} (h : k < 8) : pre.length + k < (pre ++ (cvals t n pd an jn tl up dn ++ post)).length := by rw [mid_len]; simp only [cvals, List.length_cons, List.length_nil]; omega
end
theorem bld_req (q : Int) (e : Ed) (w : World) : (Instr.build 147 [(0, I q), (1, EdV e)].toArray).run Tryz.prog w = .ok (.agg (pdV (q, e)).toArray) w := by kernel_rfl
theorem bs_req (q : Int × Ed) (w : World) : (Instr.buildSlice 113 1 [(0, .agg (pdV q).toArray)].toArray).run Tryz.prog w = .ok (.slice (some ⟨w.heap.size, 0, none⟩) 1 1) (w.alloc (cel (pdV q) 147)) := by kernel_rfl
theorem bs_um (T : Nat) (v : Value) (w : World) : (Instr.buildSlice 115 1 [(0, .iface T v)].toArray).run Tryz.prog w = .ok (.slice (some ⟨w.heap.size, 0, none⟩) 1 1) (w.alloc (cel [.iface T v] 172)) := by kernel_rfl
theorem append_req {w : World} {v s : Value} {A : List (Int × Ed)} {q : Int × Ed} {ty : Nat} (hrow : Row w v 147 7 A.length (fl pdV A)) (hseg : Seg w s 7 1 (pdV q)) (hcap : A.length < 1000000) :
    ∃ v' w', (Builtin.append_ #[113, 113] ty #[v, s]).run Tryz.prog w = .ok v' w' ∧ Row w' v' 147 7 (A ++ [q]).length (fl pdV (A ++ [q])) ∧ Frm (InV v) w w' ∧ ∀ b, InV v' b → InV v b ∨ w.heap.size ≤ b := by
  obtain ⟨v', w', h1, h2, h3, h4⟩ := append_seg (P := Tryz.prog) (sz := 7) (by' := 56) (ty := ty) (sT := 113) (u_ok rfl) (u_ok rfl) (fun kk h => by cases h) (s_ok rfl) (b_ok rfl) (z_ok rfl) rfl hrow hseg (pd_one q) (by omega) (by omega)
  exact ⟨v', w', h1, by rw [fl_append, List.length_append]; simpa [fl] using h2, h3, h4⟩
theorem append_um {w : World} {v s : Value} {A : List UMsg} {m : UMsg} {ty : Nat} (hrow : Row w v 172 1 A.length (A.map uV)) (hseg : Seg w s 1 1 [uV m]) (hcap : A.length < 1000000) :
    ∃ v' w', (Builtin.append_ #[115, 115] ty #[v, s]).run Tryz.prog w = .ok v' w' ∧ Row w' v' 172 1 (A ++ [m]).length ((A ++ [m]).map uV) ∧ Frm (InV v) w w' ∧ ∀ b, InV v' b → InV v b ∨ w.heap.size ≤ b := by
  obtain ⟨v', w', h1, h2, h3, h4⟩ := append_seg (P := Tryz.prog) (sz := 1) (by' := 16) (ty := ty) (sT := 115) (u_ok rfl) (u_ok rfl) (fun kk h => by cases h) (s_ok rfl) (b_ok rfl) (z_ok rfl) rfl hrow hseg (by intro u hu; simp at hu; subst hu; cases m <;> rfl) (by omega) (by omega)
  exact ⟨v', w', h1, by rw [List.map_append, List.length_append]; exact h2, h3, h4⟩
/-- What a call on a client leaves. -/
def CRes (PT : PTy) (w w' : World) (col : Nat → Nat) (k0 k cb : Nat) (pre post : List Value) (c : PCli) : Prop := ∃ col' bq sq t pd an up dn, CAt PT w' col' k0 k cb pre post bq sq t pd an up dn c ∧ CG k0 k w w' col col'
section
variable {PT : PTy} (sp : TreeSpec PT) {w : World} {col : Nat → Nat} {k0 k cb : Nat} {pre post : List Value} {bq sq t : Nat} {pd an up dn : Value} {c : PCli}
theorem CRes.of0 (h : CAt PT w col k0 k cb pre post bq sq t pd an up dn c) {w' : World} (sp : TreeSpec PT) (f : Frm0 w w') : CRes PT w w' col k0 k cb pre post c := ⟨col, bq, sq, t, pd, an, up, dn, h.frm0 sp f, CG.frm0 h.high f⟩
theorem CRes.trans {w1 w2 : World} {col1 : Nat → Nat} {c' : PCli} (g : CG k0 k w w1 col col1) (h : CRes PT w1 w2 col1 k0 k cb pre post c') : CRes PT w w2 col k0 k cb pre post c' := by
  obtain ⟨col', bq', sq', t', pd', an', up', dn', h1, h2⟩ := h
  exact ⟨col', bq', sq', t', pd', an', up', dn', h1, g.trans h2⟩
theorem nextSeq_ret (h : CAt PT w col k0 k cb pre post bq sq t pd an up dn c) (hb : c.ans.length < 1000000000000000 ∧ c.pend.length < 1000000) :
    Rets Tryz.prog 105 [.pointer (some ⟨cb, pre.length, none⟩)] w fun v w' => v = I c.next ∧ Frm0 w w' := by
  have hrow := h.row
  obtain ⟨a1, c1, rfl⟩ := h.m.pend.isSl
  obtain ⟨a2, c2, rfl⟩ := h.m.ans.isSl
  refine rets_of Tryz.func105 (by kernel_rfl) rfl Tryz.ntmps105 (Nat.le_of_ble_eq_true rfl) ?_
  refine runG06 ?_
  refine w_drawn ((0, false) :: (1, false) :: (2, false) :: (3, false) :: (4, false) :: (5, false) :: (6, false) :: (7, false) :: (8, false) :: (9, false) :: (10, false) :: (11, false) :: (12, false) :: []) [] (fun wq => Frm0 w wq) mixed (by kernel_rfl) ?_ ?_
  · exact Frm.of_drew _
  · refine runG06 ?_
    exact ret_i rfl rfl ⟨rfl, Frm.of_drew _⟩
def editR (c : PCli) (e : Ed) : Nat × PCli := if wrongB e then (1, c) else if 6 ≤ c.pend.length then (7, c) else (0, editD c e)
end
end Go.Proofs.YtbicffldggcdhaaGreatDoor
