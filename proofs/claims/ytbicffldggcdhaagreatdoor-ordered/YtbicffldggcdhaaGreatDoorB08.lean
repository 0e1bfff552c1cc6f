/-
  LKeep3; LScr4; WK2; WK3; WQ22; WQ15; WQ16.
-/
import Derived.Test.YtbicffldggcdhaaGreatDoorB07
import Derived.Test.YtbicffldggcdhaaGreatDoorB02
import Derived.Test.YtbicffldggcdhaaGreatDoorB05
import Derived.Test.YtbicffldggcdhaaGreatDoorB03
namespace Go.Proofs.YtbicffldggcdhaaGreatDoor
open Go

structure Evt where
  kind : Int
  client : Int
  e : Ed
def Evt.vals (x : Evt) : List Value := [I x.kind, I x.client, I x.e.kind, I x.e.node, I x.e.parent, I x.e.key, I x.e.prop, I x.e.value]
def EvRaw (x : Evt) : Prop := Int64 x.kind ∧ Int64 x.client ∧ EdRaw x.e
def hapK (n : Int) (x : Evt) : Int := kpickF x.client n
def hapM (x : Evt) : Int := kpickF x.kind 10
def hapP (P : Par) (n : Int) (x : Evt) : Par :=
  if hapM x < 2 then (editP P (hapK n x) (keditF x.e)).2
  else if hapM x < 5 then (upP P (hapK n x)).2
  else if hapM x < 8 then (downP P (hapK n x)).2
  else if hapM x < 9 then (joinP P (hapK n x)).2
  else (dropP P (hapK n x)).2
def insE (ins : Nat → List Ed) (k : Nat) (z : Nat) (e : Ed) : Nat → List Ed := fun j => if j = k ∧ z = 0 then ins j ++ [e] else ins j
def hapI (P : Par) (ins : Nat → List Ed) (n : Int) (x : Evt) : Nat → List Ed :=
  if hapM x < 2 then insE ins (hapK n x).toNat (editP P (hapK n x) (keditF x.e)).1 (keditF x.e) else ins
section
variable {P : Par} {i : Int}
theorem editP_clients (e : Ed) : (editP P i e).2.clients = P.clients ∧ (editP P i e).2.ents = P.ents ∧ (editP P i e).2.log = P.log := by
  unfold editP
  repeat' split
  all_goals exact ⟨rfl, rfl, rfl⟩
theorem joinP_clients : (joinP P i).2.clients = P.clients ∧ (joinP P i).2.ents = P.ents ∧ (joinP P i).2.log = P.log := by
  unfold joinP
  repeat' split
  all_goals exact ⟨rfl, rfl, rfl⟩
theorem dropP_clients : (dropP P i).2.clients = P.clients ∧ (dropP P i).2.ents = P.ents ∧ (dropP P i).2.log = P.log := by
  unfold dropP
  repeat' split
  all_goals exact ⟨rfl, rfl, rfl⟩
theorem downP_clients : (downP P i).2.clients = P.clients ∧ (downP P i).2.ents = P.ents ∧ (downP P i).2.log = P.log := by
  unfold downP
  repeat' split
  all_goals exact ⟨rfl, rfl, rfl⟩
theorem upP_clients : (upP P i).2.clients = P.clients ∧ ((upP P i).2.ents = P.ents ∨ ∃ y, y.client = i ∧ (upP P i).2.ents = P.ents ++ [y]) ∧ (upP P i).2.log = P.log := by
  unfold upP
  cases P.cl i with
  | none => exact ⟨rfl, .inl rfl, rfl⟩
  | some c =>
    simp only
    cases c.up with
    | nil => exact ⟨rfl, .inl rfl, rfl⟩
    | cons m us =>
      simp only
      split
      · exact ⟨rfl, .inl rfl, rfl⟩
      · split
        · exact ⟨rfl, .inl rfl, rfl⟩
        · exact ⟨rfl, .inr ⟨_, rfl, rfl⟩, rfl⟩
end
/-- A party as orchardkeep plays with it. -/
structure PLP (n : Int) (P : Par) (ins : Nat → List Ed) : Prop where
  sp : SP P
  ok : POk P
  ip : IP P ins
  cl : P.clients = n
  nn : 1 ≤ n ∧ n ≤ 4
  lg : 1 ≤ P.log ∧ P.log ≤ 8
  sm : ∀ j, ∀ e ∈ ins j, 0 ≤ e.node ∧ e.node < 40
theorem keditF_sml {e : Ed} : 0 ≤ (keditF e).node ∧ (keditF e).node < 40 := kpickF_lt (c := e.node) (n := 40) (by omega)
section
variable {n : Int} {P : Par} {ins : Nat → List Ed}
theorem plp_new {l : Int} (hn : 1 ≤ n ∧ n ≤ 4) (hl : 1 ≤ l ∧ l ≤ 8) : PLP n ⟨n, l, [root0], [], List.replicate n.toNat cli0⟩ (fun _ => []) := by
  have h : newP n l = some ⟨n, l, [root0], [], List.replicate n.toNat cli0⟩ := by rw [newP, if_neg (by omega)]
  exact ⟨sp_new h, pok_new h, ip_new h, rfl, hn, hl, fun j e he => by cases he⟩
theorem PLP.len (h : PLP n P ins) : (P.cls.length : Int) = n := by rw [h.ok.len, h.cl]
theorem PLP.get (h : PLP n P ins) {k : Int} (h0 : 0 ≤ k) (h1 : k < n) : ∃ c, P.cl k = some c := by
  have := h.len
  have hk : k.toNat < P.cls.length := by omega
  exact ⟨P.cls[k.toNat], by rw [Par.cl, if_neg (by omega)]; exact List.getElem?_eq_getElem hk⟩
theorem PLP.edit (h : PLP n P ins) (k : Nat) {e : Ed} (he : 0 ≤ e.node ∧ e.node < 40) : PLP n (editP P k e).2 (insE ins k (editP P k e).1 e) := by
  have h1 := editP_clients (P := P) (i := k) e
  refine ⟨h.sp.edit k e, h.ok.edit k e, h.ip.edit, h1.1.trans h.cl, h.nn, by rw [h1.2.2]; exact h.lg, fun j x hx => ?_⟩
  unfold insE at hx
  split at hx
  · rcases List.mem_append.1 hx with h9 | h9
    · exact h.sm j x h9
    · simp at h9
      rw [h9]
      exact he
  · exact h.sm j x hx
theorem PLP.join (h : PLP n P ins) (k : Nat) : PLP n (joinP P k).2 ins :=
  have h1 := joinP_clients (P := P) (i := k)
  ⟨h.sp.join k, h.ok.join k, h.ip.join, h1.1.trans h.cl, h.nn, by rw [h1.2.2]; exact h.lg, h.sm⟩
theorem PLP.drop (h : PLP n P ins) (k : Nat) : PLP n (dropP P k).2 ins :=
  have h1 := dropP_clients (P := P) (i := k)
  ⟨h.sp.drop k, h.ok.drop k, h.ip.drop, h1.1.trans h.cl, h.nn, by rw [h1.2.2]; exact h.lg, h.sm⟩
theorem PLP.down (h : PLP n P ins) (k : Nat) : PLP n (downP P k).2 ins :=
  have h1 := downP_clients (P := P) (i := k)
  ⟨h.sp.down k, h.ok.down k, h.ip.down, h1.1.trans h.cl, h.nn, by rw [h1.2.2]; exact h.lg, h.sm⟩
theorem PLP.up (h : PLP n P ins) (k : Nat) : PLP n (upP P k).2 ins :=
  have h1 := upP_clients (P := P) (i := k)
  ⟨h.sp.up k, h.ok.up k, h.ip.up h.sp, h1.1.trans h.cl, h.nn, by rw [h1.2.2]; exact h.lg, h.sm⟩
theorem hapK_nat (hn : 1 ≤ n) (x : Evt) : ∃ k : Nat, hapK n x = k ∧ (k : Int) < n := by
  have h := kpickF_lt (c := x.client) (n := n) (by omega)
  refine ⟨(kpickF x.client n).toNat, ?_, ?_⟩
  · show kpickF x.client n = _
    omega
  · omega
theorem PInv.hap {N : Nat} (h : PInv N P) (x : Evt) : PInv (N + 1) (hapP P n x) := by
  unfold hapP
  repeat' split
  · exact h.edit _ _
  · exact h.up _
  · exact h.down _
  · exact h.join _
  · exact h.drop _
theorem hap_ents (x : Evt) : (hapP P n x).ents = P.ents ∨ ∃ y, y.client = hapK n x ∧ (hapP P n x).ents = P.ents ++ [y] := by
  unfold hapP
  repeat' split
  · exact .inl (editP_clients _).2.1
  · exact upP_clients.2.1
  · exact .inl downP_clients.2.1
  · exact .inl joinP_clients.2.1
  · exact .inl dropP_clients.2.1
/-- How many entries and edits there may be. -/
theorem PInv.few2 {N : Nat} (h : PInv N P) (hN : N ≤ 2200000000000) : P.ents.length ≤ 880000000005 := by
  have := h.paid.few h.ok
  omega
theorem PLP.ins_le (h : PLP n P ins) {k : Nat} (hk : (k : Int) < n) : (ins k).length ≤ P.ents.length + 6 := by
  obtain ⟨c, hc⟩ := h.get (k := k) (by omega) hk
  have h1 := h.sp.get hc
  have h2 := (h.ip.get hc).len
  have h3 := ans_few h1
  have h4 := h1.sq
  have h5 := h1.p6
  omega
theorem log_last {P : Par} {es : List Ent} {y : Ent} (hl : 1 ≤ P.log) (h : P.ents = es ++ [y]) : ∃ l, logP P = l ++ [y] := by
  unfold logP
  split
  · exact ⟨es, h⟩
  · rename_i hn
    rw [h] at hn ⊢
    simp only [List.length_append, List.length_cons, List.length_nil] at hn ⊢
    refine ⟨es.drop (es.length + (0 + 1) - P.log.toNat), ?_⟩
    rw [List.drop_append_of_le_length (by omega)]
/-- The newest entry: it is the client's next one, and what it had let in. -/
theorem PLP.newest (h : PLP n P ins) {es : List Ent} {y : Ent} (he : P.ents = es ++ [y]) : ∃ k : Nat, y.client = k ∧ (k : Int) < n ∧ y.seq = (mine es k).length + 1 ∧ (ins k)[(mine es k).length]? = some y.e ∧ y.done = decide (refused (foldE es) y.e = 0) := by
  have hm : y ∈ P.ents := by rw [he]; simp
  have hw := h.ok.who y hm
  rw [h.cl] at hw
  have hk : y.client = (y.client.toNat : Int) := by omega
  obtain ⟨c, hc⟩ := h.get (k := (y.client.toNat : Nat)) (by omega) (by omega)
  have h1 := h.sp.get hc
  have hmy : mine P.ents (y.client.toNat : Nat) = mine es (y.client.toNat : Nat) ++ [y] := by
    rw [he, mine_snoc, if_pos hk]
  have hs : y.seq = ((mine es (y.client.toNat : Nat)).length : Int) + 1 := by
    have := h1.es (mine es (y.client.toNat : Nat)).length y (by rw [hmy, List.getElem?_append_right (Nat.le_refl _), Nat.sub_self]; rfl)
    exact this
  obtain ⟨j, h2, h3⟩ := (h.ip.get hc).es y (by rw [hmy]; simp)
  have hj : j = (mine es (y.client.toNat : Nat)).length := by omega
  refine ⟨y.client.toNat, hk, by omega, hs, by rw [← hj]; exact h3, ?_⟩
  have := h.sp.dn es.length y (by rw [he, List.getElem?_append_right (Nat.le_refl _), Nat.sub_self]; rfl)
  rw [he, List.take_left' rfl] at this
  exact this
theorem foldE_apply {es : List Ent} {y : Ent} (h : y.done = decide (refused (foldE es) y.e = 0)) : applyL (foldE es) y.e = foldE (es ++ [y]) := by
  rw [foldE_snoc, stepE]
  split
  · rfl
  · rename_i hd
    rw [h] at hd
    have hz : refused (foldE es) y.e ≠ 0 := by simpa using hd
    rw [applyL, if_pos hz]
end
/-- A base is never made of fewer entries than before. -/
theorem answered_n (c : Cli) (a : Ans) : (answered c a).n = c.n := by
  unfold answered
  split <;> rfl
theorem fold_answered_n : ∀ (l : List Ans) (c : Cli), (l.foldl answered c).n = c.n
  | [], _ => rfl
  | a :: l, c => (fold_answered_n l _).trans (answered_n c a)
theorem downC_n {ents : List Ent} {i : Int} {c : Cli} {m : Msg} {ds : List Msg} (h : SC ents i c) (hd : c.down = m :: ds) : c.n ≤ (downC i { c with down := ds } m).n := by
  have ht : c.told = true := by
    cases h9 : c.told
    · rw [h.nd h9] at hd; cases hd
    · rfl
  unfold downC
  rcases h.dn ht with h1 | ⟨q, h1, h2, h3⟩
  · rw [hd] at h1
    have : m.tree = none := by
      cases h4 : ents.drop c.n.toNat with
      | nil => rw [h4] at h1; cases h1
      | cons x l =>
        rw [h4] at h1
        injection h1 with h5 h6
        rw [h5]
        rfl
    rw [this]
    simp only
    split
    · rw [answered_n]
      show c.n ≤ c.n + 1
      omega
    · show c.n ≤ c.n + 1
      omega
  · rw [hd] at h3
    injection h3 with h5 h6
    rw [h5]
    show c.n ≤ (List.foldl answered _ _).n
    rw [fold_answered_n]
    exact h1
section
variable {P : Par} {k : Int} {j : Nat} {c : Cli}
/-- What a step leaves of each client: its base is made of as many entries, or more. -/
def NLe (P P' : Par) : Prop := ∀ (j : Nat) c c', P.cls[j]? = some c → P'.cls[j]? = some c' → c.n ≤ c'.n
theorem nle_refl (P : Par) : NLe P P := fun j c c' h h' => by
  rw [h] at h'
  cases h'
  exact Int.le_refl _
theorem nle_set {y : Cli} (hc : P.cl k = some c) (hy : c.n ≤ y.n) : NLe P (P.set k y) := fun j d d' h h' => by
  obtain ⟨m, rfl, hm⟩ := Par.cl_nat hc
  simp only [Par.set, Int.toNat_natCast] at h'
  by_cases hj : m = j
  · subst hj
    rw [hm] at h
    cases h
    rw [List.getElem?_set_self (List.getElem?_eq_some_iff.1 hm).1] at h'
    cases h'
    exact hy
  · rw [List.getElem?_set_ne hj, h] at h'
    cases h'
    exact Int.le_refl _
theorem nle_hap (hs : SP P) (n : Int) (x : Evt) : NLe P (hapP P n x) := by
  unfold hapP
  repeat' split
  · unfold editP
    cases hc : P.cl (hapK n x) with
    | none => exact nle_refl P
    | some c =>
      simp only
      split
      · exact nle_refl P
      · split
        · exact nle_refl P
        · exact nle_set hc (Int.le_refl _)
  · unfold upP
    cases hc : P.cl (hapK n x) with
    | none => exact nle_refl P
    | some c =>
      simp only
      cases hu : c.up with
      | nil => exact nle_refl P
      | cons m us =>
        simp only
        split
        · exact nle_set hc (Int.le_refl _)
        · split
          · exact nle_set hc (Int.le_refl _)
          · intro j d d' h h'
            simp only [takeP, List.getElem?_map, Option.map_eq_some_iff] at h'
            obtain ⟨z, hz, rfl⟩ := h'
            rw [(tell_pend _ z).2.2.2]
            exact nle_set (y := { c with up := us }) hc (Int.le_refl _) j d z h hz
  · unfold downP
    cases hc : P.cl (hapK n x) with
    | none => exact nle_refl P
    | some c =>
      simp only
      cases hd : c.down with
      | nil => exact nle_refl P
      | cons m ds => exact nle_set hc (downC_n (hs.get hc) hd)
  · unfold joinP
    cases hc : P.cl (hapK n x) with
    | none => exact nle_refl P
    | some c =>
      simp only
      split
      · exact nle_refl P
      · exact nle_set hc (Int.le_refl _)
  · unfold dropP
    cases hc : P.cl (hapK n x) with
    | none => exact nle_refl P
    | some c =>
      simp only
      split
      · exact nle_set hc (Int.le_refl _)
      · exact nle_refl P
end
end Go.Proofs.YtbicffldggcdhaaGreatDoor

namespace Go.Proofs.YtbicffldggcdhaaGreatDoor
open Go Go.ChangeShapes Go.WideShapes

def VScr (w : World) (v : Value) (es : List Evt) : Prop :=
  ((∃ a c, v = .slice a 0 c) ∧ es = []) ∨ ∃ sb so sc X tx k, v = .slice (some ⟨sb, so, none⟩) es.length sc ∧ At w sb (.cells X.toArray tx k) ∧ ∀ (i : Nat) e, es[i]? = some e → so + i * 8 + 8 ≤ X.length ∧ sub X (so + i * 8) 8 = e.vals ∧ ∀ j, j < 8 → X[so + i * 8 + j]? = e.vals[j]?
theorem VScr.isSl {w : World} {v : Value} {es : List Evt} (h : VScr w v es) : ∃ a c, v = .slice a es.length c := by
  rcases h with ⟨⟨a, c, rfl⟩, rfl⟩ | ⟨sb, so, sc, X, tx, k, rfl, _⟩
  · exact ⟨a, c, rfl⟩
  · exact ⟨_, _, rfl⟩
theorem sub8 {X : List Value} {so : Nat} {e : Evt} (h : ∀ j, j < 8 → X[so + j]? = e.vals[j]?) : so + 8 ≤ X.length ∧ sub X so 8 = e.vals := by
  have g : ∀ k j v, k = so + j → j < 8 → e.vals[j]? = some v → X[k]? = some v := fun k j v hk hj hv => by
    rw [hk, h j hj, hv]
  refine ⟨?_, ?_⟩
  · have := (List.getElem?_eq_some_iff.1 (g (so + 7) 7 (I e.e.value) rfl (by decide) rfl)).1
    omega
  · rw [show (8 : Nat) = 0 + 1 + 1 + 1 + 1 + 1 + 1 + 1 + 1 from rfl, sub_succ X so _ _ (g _ 0 _ (by omega) (by decide) rfl), sub_succ X (so + 1) _ _ (g _ 1 _ (by omega) (by decide) rfl), sub_succ X (so + 1 + 1) _ _ (g _ 2 _ (by omega) (by decide) rfl), sub_succ X (so + 1 + 1 + 1) _ _ (g _ 3 _ (by omega) (by decide) rfl), sub_succ X (so + 1 + 1 + 1 + 1) _ _ (g _ 4 _ (by omega) (by decide) rfl), sub_succ X (so + 1 + 1 + 1 + 1 + 1) _ _ (g _ 5 _ (by omega) (by decide) rfl), sub_succ X (so + 1 + 1 + 1 + 1 + 1 + 1) _ _ (g _ 6 _ (by omega) (by decide) rfl), sub_succ X (so + 1 + 1 + 1 + 1 + 1 + 1 + 1) _ _ (g _ 7 _ (by omega) (by decide) rfl), sub_zero]
    rfl
theorem cellsEvent : Tryz.prog.cellsOf 52 = 8 := by kernel_rfl
theorem bytesEvent : Tryz.prog.bytesOf 52 = 64 := by kernel_rfl
theorem list8 {cs : List Value} {a0 a1 : Value} {e : Ed} (hl : cs.length = 8) (h0 : cs[0]? = some a0) (h1 : cs[1]? = some a1) (he : (cs.drop 2).take 6 = e.vals) : cs = [a0, a1, I e.kind, I e.node, I e.parent, I e.key, I e.prop, I e.value] := by
  match cs, hl with
  | [b0, b1, b4, b5, b6, b7, b8, b9], _ =>
    simp at h0 h1
    simp [Ed.vals] at he
    simp [h0, h1, he]
section
variable {H : Type} {enc : TypeId × Value → H} {W : World} {base : Nat} {sp : Nat → Bool} {held : Bool} {n : Nat}
theorem open_event {cs : List Value} {x : DataW H × List MemPlace} (h : DataW.trod enc Tryz.prog W base sp held n 52 cs = some x) : ∃ e : Evt, cs = e.vals ∧ EvRaw e := by
  obtain ⟨xs, m, _, _, hl, hn, hf⟩ := DataW.trod_struct (u_ok rfl) h
  rw [cellsEvent] at hl
  have hn' : xs.length = 3 := hn
  obtain ⟨z0, h0, q0⟩ := int_cell (hf 0 _ rfl) (by omega)
  obtain ⟨z1, h1, q1⟩ := int_cell (hf 1 _ rfl) (by omega)
  obtain ⟨e, he, hr⟩ := open_editR ((hf 2 _ rfl).trans (List.getElem?_eq_getElem (show 2 < xs.length by omega)))
  have he' : (cs.drop 2).take 6 = e.vals := by rw [← cellsEdit]; exact he
  exact ⟨⟨z0, z1, e⟩, list8 hl h0 h1 he', q0, q1, hr⟩
end
section
variable {H : Type} {enc : TypeId × Value → H} {W : World} {sp : Nat → Bool} {held : Bool}
theorem open_events {v : Value} {d : DataW H} {p : List MemPlace} (h : DataW.Trod enc Tryz.prog W 0 sp held 40 v d p) (hv : ∃ a len cap, v = .slice a len cap)
    (hw : ∀ elems spare, d = .slice elems spare → (elems.length + spare.length) * Tryz.prog.bytesOf 52 ≤ reachBytes) :
    ∃ es : List Evt, VScr W v es ∧ es.length ≤ 2199023255488 ∧ ∀ e ∈ es, EvRaw e := by
  obtain ⟨a0, len0, cap0, rfl⟩ := hv
  obtain ⟨fuel, hf⟩ := h
  rcases Deep.open_slice (u_ok rfl) hf with ⟨hcs, _⟩ | ⟨a, len, cap, m, k, D, Pl, hcs, _, hlc, _, hm, hx, hel⟩
  · simp [Value.cells] at hcs
    obtain ⟨rfl, rfl, rfl⟩ := hcs
    exact ⟨[], .inl ⟨⟨_, _, rfl⟩, rfl⟩, by decide, fun e he => (by cases he)⟩
  · simp [Value.cells] at hcs
    obtain ⟨rfl, rfl, rfl⟩ := hcs
    have hd := congrArg Prod.fst hx
    clear hx
    have hlm : len0 ≤ m := by rw [hm]; split <;> omega
    have hb := hw _ _ hd
    rw [bytesEvent] at hb
    have hr : reachBytes = 140737488351232 := by decide
    rw [hr] at hb
    simp only [List.length_map, List.length_range] at hb
    have hsz : len0 ≤ 2199023255488 := by omega
    have : Inhabited Evt := ⟨⟨0, 0, ⟨0, 0, 0, 0, 0, 0⟩⟩⟩
    obtain ⟨S, hS⟩ := Deep.choose_lt (α := Evt) (p := fun i o => EvRaw o ∧ ∀ j, j < 8 → W.cell? ((a.add (i * 8)).add j) = o.vals[j]?) (fun i (hi : i < m) => by
      obtain ⟨cs', h1, h2⟩ := hel i hi
      rw [cellsEvent] at h1
      obtain ⟨_, hlen, hc⟩ := World.cells?_some h1
      obtain ⟨o, ho, hraw⟩ := open_event h2
      exact ⟨o, hraw, fun j hj => by rw [hc j hj, ho]⟩)
    by_cases h0 : len0 = 0
    · subst h0
      exact ⟨[], .inl ⟨⟨_, _, rfl⟩, rfl⟩, by decide, fun e he => (by cases he)⟩
    · have hc0 : W.cell? a = some (I (S 0).kind) := by
        have := (hS 0 (by omega)).2 0 (by omega)
        simpa [Addr.add, Evt.vals] using this
      obtain ⟨sb, so, spot⟩ := a
      unfold World.cell? at hc0
      simp only at hc0
      split at hc0
      · rename_i C tx kk hB
        cases spot with
        | some q => simp at hc0
        | none =>
          have hA : At W sb (.cells C.toList.toArray tx kk) := by simpa using hB
          have hcell : ∀ i, i < m → ∀ j, j < 8 → C.toList[so + i * 8 + j]? = (S i).vals[j]? := fun i hi j hj => by
            have := (hS i hi).2 j hj
            rw [add_none, add_none, cell_at hA] at this
            exact this
          refine ⟨(List.range len0).map S, .inr ⟨sb, so, cap0, C.toList, tx, kk, by simp, hA, fun i o ho => ?_⟩, by simpa using hsz, fun e he => by
            obtain ⟨i, hi, rfl⟩ := List.mem_map.1 he
            exact (hS i (by have := List.mem_range.1 hi; omega)).1⟩
          simp only [List.getElem?_map] at ho
          have hi : i < len0 := by
            rcases Nat.lt_or_ge i len0 with h | h
            · exact h
            · rw [List.getElem?_eq_none (by simpa using h)] at ho; cases ho
          rw [List.getElem?_range hi] at ho
          simp at ho
          subst ho
          have h8 := sub8 (hcell i (by omega))
          exact ⟨h8.1, h8.2, hcell i (by omega)⟩
      · cases hc0
end
end Go.Proofs.YtbicffldggcdhaaGreatDoor

namespace Go.Proofs.YtbicffldggcdhaaGreatDoor
open Go
theorem runG08 {G K : Prop} (k : K) (h : Wrap K → G := by intro h; (repeat (first | (with_reducible first | refine wpIn_seq ?_ | refine w_reg ?_ | refine s_nil ?_ | refine s_nilQ ?_ | refine wpIn_block ?_ | refine q_then ?_ | refine q_blk ?_ | refine q_then_ret ?_ | refine q_blk_ret ?_ | refine q_then_exit ?_ | refine q_blk_exit ?_ | refine wpIn_skip ?_ | refine wpIn_ret ?_ | refine wpIn_exit ?_ | refine y_nil ?_ | refine y_nilQ ?_ | refine x_late ?_) | ((with_reducible refine q_blk_other ?_ ?_); exact rfl) | ((with_reducible apply c_true); exact rfl; (with_reducible exact rfl)) | ((with_reducible apply c_false); exact rfl; (with_reducible exact rfl)) | ((with_reducible apply s_no); (first | ((with_reducible apply wnt_nt); exact rfl; exact rfl; exact rfl; exact rfl; (with_reducible exact rfl)) | ((with_reducible apply wnt_nf); exact rfl; exact rfl; exact rfl; exact rfl; (with_reducible exact rfl)))) | ((with_reducible apply x_qno); exact rfl; (first | ((with_reducible apply wnt_nt); exact rfl; exact rfl; exact rfl; exact rfl; (with_reducible exact rfl)) | ((with_reducible apply wnt_nf); exact rfl; exact rfl; exact rfl; exact rfl; (with_reducible exact rfl)))) | ((first | with_reducible apply s_val | ((with_reducible apply y_val); exact rfl) | ((with_reducible apply x_q); exact rfl; intro wq hq)); (first | ((with_reducible apply r_assign_b); exact rfl) | ((with_reducible apply r_assign_i); exact rfl) | ((with_reducible apply r_move_i); exact rfl) | ((with_reducible apply r_leq_t); exact rfl; exact rfl; omega) | ((with_reducible apply r_leq_f); exact rfl; exact rfl; omega) | ((with_reducible apply r_leq); exact rfl; exact rfl) | ((with_reducible apply r_move_p); exact rfl) | ((with_reducible apply r_move_t); exact rfl) | ((with_reducible apply r_extract); exact rfl; exact rfl) | ((with_reducible apply r_allocA); exact z_ok rfl) | ((with_reducible apply r_alloc1); exact z_ok rfl; exact rfl) | ((with_reducible apply r_move_b); exact rfl) | ((with_reducible apply r_not_t); exact rfl; (with_reducible exact rfl)) | ((with_reducible apply r_not_f); exact rfl; (with_reducible exact rfl)) | ((with_reducible apply r_not); exact rfl) | ((with_reducible apply r_eql_t); exact rfl; exact rfl; omega) | ((with_reducible apply r_eql_f); exact rfl; exact rfl; omega) | ((with_reducible apply r_eql); exact rfl; exact rfl) | ((with_reducible apply r_pick_t); exact rfl; (with_reducible exact rfl); exact rfl) | ((with_reducible apply r_pick_f); exact rfl; (with_reducible exact rfl); exact rfl) | ((with_reducible apply r_fld); exact fa_ok rfl; exact rfl) | ((with_reducible apply r_add); exact rfl; exact rfl; omega; omega) | ((with_reducible apply r_lss_t); exact rfl; exact rfl; omega) | ((with_reducible apply r_lss_f); exact rfl; exact rfl; omega) | ((with_reducible apply r_lss); exact rfl; exact rfl) | ((with_reducible apply r_neq_t); exact rfl; exact rfl; omega) | ((with_reducible apply r_neq_f); exact rfl; exact rfl; omega) | ((with_reducible apply r_neq); exact rfl; exact rfl) | ((with_reducible apply r_gtr_t); exact rfl; exact rfl; omega) | ((with_reducible apply r_gtr_f); exact rfl; exact rfl; omega) | ((with_reducible apply r_gtr); exact rfl; exact rfl) | ((with_reducible apply r_geq_t); exact rfl; exact rfl; omega) | ((with_reducible apply r_geq_f); exact rfl; exact rfl; omega) | ((with_reducible apply r_geq); exact rfl; exact rfl) | ((with_reducible apply r_boxA); exact rfl) | ((with_reducible apply r_box1); exact rfl; exact rfl) | ((with_reducible apply r_loadA); exact u_ok rfl; exact rfl; exact s_ok rfl; exact rfl; (first | exact Frm.at0 hq (by assumption) | exact Frm.at hq (by assumption) (by assumption) | (first | (with_reducible assumption) | assumption | exact at_alloc_new _ _ | (repeat (first | assumption | exact at_alloc_new _ _ | refine at_drew ?_ | refine at_alloc _ ?_)))); exact Nat.le_of_ble_eq_true rfl) | ((with_reducible apply r_index); exact u_ok rfl; exact s_ok rfl; exact rfl; exact rfl; omega; omega) | ((with_reducible apply r_indexarr); exact u_ok rfl; exact s_ok rfl; exact rfl; exact rfl; omega; omega) | ((with_reducible apply r_assign_if); exact rfl) | ((with_reducible apply r_assign_ni); exact rfl) | ((with_reducible apply r_nilCheck); exact rfl) | ((with_reducible apply r_load); exact u_ok rfl; exact rfl; exact rfl; (first | exact Frm.at0 hq (by assumption) | exact Frm.at hq (by assumption) (by assumption) | (first | (with_reducible assumption) | assumption | exact at_alloc_new _ _ | (repeat (first | assumption | exact at_alloc_new _ _ | refine at_drew ?_ | refine at_alloc _ ?_)))); (first | exact mid_get rfl | exact mid_get2 rfl | exact mid_get0 rfl | exact rfl)) | ((with_reducible apply r_move_f); exact rfl) | ((with_reducible apply r_move_s); exact rfl) | ((with_reducible apply r_sub); exact rfl; exact rfl; omega; omega) | ((with_reducible apply r_len); exact u_ok rfl; exact rfl) | ((with_reducible apply r_assign_s); exact rfl)); (first | (with_reducible exact wnt_none) | ((with_reducible apply wnt_y); exact rfl; exact rfl; exact rfl; exact rfl; (with_reducible exact rfl)))))); exact h.out) : G := h ⟨k⟩

end Go.Proofs.YtbicffldggcdhaaGreatDoor

namespace Go.Proofs.YtbicffldggcdhaaGreatDoor
open Go

end Go.Proofs.YtbicffldggcdhaaGreatDoor

namespace Go.Proofs.YtbicffldggcdhaaGreatDoor
open Go

theorem bld_line (w : World) : (Instr.build 117 #[]).run Tryz.prog w = .ok (.agg #[B false, B false, .slice none 0 0, .slice none 0 0]) w := by kernel_rfl
def dropR (c : PCli) : Nat × PCli := if c.joined then (0, dropD c) else (8, c)
section
variable {PT : PTy} (sp : TreeSpec PT) {w : World} {col : Nat → Nat} {k0 k cb : Nat} {pre post : List Value} {bq sq t : Nat} {pd an up dn : Value} {c : PCli}
theorem CAt.reline (sp : TreeSpec PT) (h : CAt PT w col k0 k cb pre post bq sq t pd an up dn c) : CAt PT (setB w cb (cel (pre ++ (cvals t c.n pd an false false (.slice none 0 0) (.slice none 0 0) ++ post)) 119)) col k0 k cb pre post bq sq t pd an (.slice none 0 0) (.slice none 0 0) (dropD c) ∧ CG k0 k w (setB w cb (cel (pre ++ (cvals t c.n pd an false false (.slice none 0 0) (.slice none 0 0) ++ post)) 119)) col col := by
  have hm : CliM PT w col k bq sq t pd an (.slice none 0 0) (.slice none 0 0) (dropD c) := ⟨h.m.base, h.m.wf, h.m.pend, h.m.cpend, h.m.ans, h.m.cans, Row.nil, fun b hb => (inv_none hb).elim, DsAt.none, fun b hb => (inv_none hb).elim, h.m.q⟩
  exact ⟨h.ofPut sp (x := dropD c) (u := .slice none 0 0) (q := k) (Frm.refl _ _) (fun b hb => (inv_none hb).elim) (by omega) (Ext.refl h.high) hm, CG.put h.high h.own⟩
set_option maxHeartbeats 1000000 in
theorem cdrop_ret (sp : TreeSpec PT) (h : CAt PT w col k0 k cb pre post bq sq t pd an up dn c) {ea : List Addr} (hE : Errs w ea) :
    Rets Tryz.prog 83 [.pointer (some ⟨cb, pre.length, none⟩)] w fun v w' => Bare ea v (dropR c).1 ∧ CRes PT w w' col k0 k cb pre post (dropR c).2 := by
  have hrow := h.row
  obtain ⟨g9, ty, kk, hg9, hG⟩ := err9 hE 7 8 rfl
  refine rets_of Tryz.func83 (by kernel_rfl) rfl Tryz.ntmps83 (Nat.le_of_ble_eq_true rfl) ?_
  cases hj : c.joined with
  | false =>
    have hd : dropR c = (8, c) := by rw [dropR, hj]; rfl
    rw [hd]
    rw [hj] at hrow
    refine runG08 ?_
    exact ret_if rfl rfl ⟨.inr ⟨Nat.succ_pos _, g9, rfl, hg9⟩, CRes.of0 h sp (Frm.refl _ _)⟩
  | true =>
    have hd : dropR c = (0, dropD c) := by rw [dropR, hj]; rfl
    rw [hd]
    rw [hj] at hrow
    refine runG08 ?_
    refine s_val (r_build rfl (bld_line _)) wnt_none ?_
    refine runG08 ?_
    refine s_skip (r_storeA (vs := [B false, B false, .slice none 0 0, .slice none 0 0]) (s_ok rfl) rfl rfl rfl (by intro u hu; simp at hu; rcases hu with rfl | rfl <;> rfl) hrow (by have := clt (pre := pre) (post := post) t c.n pd an up dn true c.told (k := 7) (by decide); omega)) wnt_none ?_
    rw [show put (pre ++ (cvals t c.n pd an true c.told up dn ++ post)) (pre.length + 4) [B false, B false, .slice none 0 0, .slice none 0 0] = pre ++ (cvals t c.n pd an false false (.slice none 0 0) (.slice none 0 0) ++ post) from mid_put [B false, B false, .slice none 0 0, .slice none 0 0] (cvals t c.n pd an true c.told up dn) 4 (show 4 + 4 ≤ 8 by decide)]
    refine runG08 ?_
    obtain ⟨h2, g2⟩ := h.reline sp
    exact ret_ni rfl rfl ⟨.inl ⟨rfl, rfl⟩, _, _, _, _, _, _, _, _, h2, g2⟩
end
section
variable {PT : PTy} (sp : TreeSpec PT) {w w' w1 : World} {col : Nat → Nat} {k p t : Nat} {lv : Value} {mb cb cap : Nat} {rest : List Value} {ms : List CM} {Q Q' : PPar}
theorem pdrop_ret (sp : TreeSpec PT) (h : PB PT w col k p t lv mb cb cap rest ms Q) {ea : List Addr} (hE : Errs w ea) (i : Int) :
    Rets Tryz.prog 57 [Ptr p, I i] w fun v w' => Bare ea v (dropQ Q i).1 ∧ QStep PT w w' col k p (dropQ Q i).2 := by
  refine rets_of Tryz.func57 (by kernel_rfl) rfl Tryz.ntmps57 (Nat.le_of_ble_eq_true rfl) ?_
  refine runG08 ?_
  refine s_callf (let_ret (caps := []) (φ := fun v w' => Bare ea v (dropQ Q i).1 ∧ QStep PT w w' col k p (dropQ Q i).2) h hE i ?_ ?_ (fun v w' hv => hv.1.val)) rfl wnt_none ?_
  · intro hc w' a f ha
    have hd : dropQ Q i = (1, Q) := by rw [dropQ, hc]
    rw [hd]
    exact ⟨.inr ⟨Nat.succ_pos _, a, rfl, ha⟩, QStep.same sp ⟨_, _, _, _, _, _, _, h⟩ f⟩
  · intro m w' hm hc h0 f
    have h2 := h.frm0 sp f
    refine (cdrop_ret sp (h2.at_ hm) (hE.frm0 f)).mono ?_
    rintro v w2 ⟨hv, hr⟩
    have hd : dropQ Q i = ((dropR m.c).1, Q.set i (dropR m.c).2) := by
      rw [dropQ, hc]
      unfold dropR
      simp only
      split
      · rfl
      · rw [PPar.set_same hc]
    rw [hd]
    exact ⟨hv, QStep.pre h.high f (h2.res sp hm hr)⟩
  · intro v w2 hv
    rcases hv.1.val with rfl | ⟨a, rfl⟩
    · refine runG08 ?_
      exact ret_ni rfl rfl hv
    · refine runG08 ?_
      exact ret_if rfl rfl hv
theorem PDrop_ret (sp : TreeSpec PT) (hP : PP PT w col k p Q) {ea : List Addr} (hE : Errs w ea) (i : Int) :
    Rets Tryz.prog 34 [Ptr p, I i] w fun v w' => ErrN ea w w' v (dropQ Q i).1 ed0 ∧ QStep PT w w' col k p (dropQ Q i).2 := by
  obtain ⟨t, lv, mb, cb, cap, rest, ms, h⟩ := hP
  refine rets_of Tryz.func34 (by kernel_rfl) rfl Tryz.ntmps34 (Nat.le_of_ble_eq_true rfl) ?_
  refine runG08 ?_
  refine s_val (r_build rfl (bld_ed0 _)) wnt_none ?_
  refine runG08 ?_
  refine s_callf (pdrop_ret sp h hE i) rfl wnt_none ?_
  rintro v w2 ⟨hv, hs⟩
  refine s_callf (refusal_ret hv ed0) rfl wnt_none ?_
  rintro u w3 ⟨hu, f3, hfr⟩
  have hsz := hs.size
  have hs3 := hs.frm0 sp f3
  rcases hu with ⟨h0, rfl⟩ | ⟨h0, b, a, rfl, hA, ha⟩
  · refine runG08 ?_
    exact ret_ni rfl rfl ⟨⟨.inl ⟨h0, rfl⟩, fun b h => by cases h⟩, hs3⟩
  · refine runG08 ?_
    exact ret_if rfl rfl ⟨⟨.inr ⟨h0, b, a, rfl, hA, ha⟩, fun b' h => Nat.le_trans hsz (hfr b' h)⟩, hs3⟩
end
end Go.Proofs.YtbicffldggcdhaaGreatDoor

namespace Go.Proofs.YtbicffldggcdhaaGreatDoor
open Go

def sortAns_ren : Go.Shelf.Ren := ⟨fun | 6 => 174 | 15 => 127 | 14 => 176 | 28 => 138 | 29 => 139 | 20 => 177 | 21 => 178 | 22 => 179 | 23 => 180 | 24 => 181 | 25 => 182 | 26 => 183 | 27 => 184 | 46 => 185 | 47 => 142 | 48 => 143 | 49 => 186 | 50 => 187 | 57 => 188 | n => n, fun | 22 => 114 | 24 => 123 | 25 => 268 | 3 => 3 | 39 => 205 | 0 => 0 | 53 => 224 | 55 => 226 | 4 => 4 | 46 => 217 | 45 => 216 | 50 => 221 | 5 => 5 | 9 => 9 | 66 => 227 | 70 => 231 | 76 => 233 | 77 => 234 | n => n, fun | n => n⟩
theorem sortAns : Go.Proofs.SlLaysF0.n6 Tryz.prog sortAns_ren := {
  mixed := by kernel_rfl,
  f6 := ⟨Tryz.f174.name, by decide, Tryz.func174.trans (congrArg some (by kernel_rfl))⟩,
  f14 := ⟨Tryz.f176.name, by decide, Tryz.func176.trans (congrArg some (by kernel_rfl))⟩,
  f15 := Tryz.func127.trans (congrArg some (by kernel_rfl)),
  f20 := ⟨Tryz.f177.name, by decide, Tryz.func177.trans (congrArg some (by kernel_rfl))⟩,
  f21 := ⟨Tryz.f178.name, by decide, Tryz.func178.trans (congrArg some (by kernel_rfl))⟩,
  f22 := ⟨Tryz.f179.name, by decide, Tryz.func179.trans (congrArg some (by kernel_rfl))⟩,
  f23 := ⟨Tryz.f180.name, by decide, Tryz.func180.trans (congrArg some (by kernel_rfl))⟩,
  f24 := ⟨Tryz.f181.name, by decide, Tryz.func181.trans (congrArg some (by kernel_rfl))⟩,
  f25 := ⟨Tryz.f182.name, by decide, Tryz.func182.trans (congrArg some (by kernel_rfl))⟩,
  f26 := ⟨Tryz.f183.name, by decide, Tryz.func183.trans (congrArg some (by kernel_rfl))⟩,
  f27 := ⟨Tryz.f184.name, by decide, Tryz.func184.trans (congrArg some (by kernel_rfl))⟩,
  f28 := Tryz.func138.trans (congrArg some (by kernel_rfl)),
  f29 := Tryz.func139.trans (congrArg some (by kernel_rfl)),
  f46 := ⟨Tryz.f185.name, by decide, Tryz.func185.trans (congrArg some (by kernel_rfl))⟩,
  f47 := Tryz.func142.trans (congrArg some (by kernel_rfl)),
  f48 := Tryz.func143.trans (congrArg some (by kernel_rfl)),
  f49 := ⟨Tryz.f186.name, by decide, Tryz.func186.trans (congrArg some (by kernel_rfl))⟩,
  f50 := ⟨Tryz.f187.name, by decide, Tryz.func187.trans (congrArg some (by kernel_rfl))⟩,
  f57 := ⟨Tryz.f188.name, by decide, Tryz.func188.trans (congrArg some (by kernel_rfl))⟩,
  t0 := Tryz.underlying0,
  a0 := Tryz.isAgg0,
  z0 := Tryz.sizeOf0,
  v0 := Tryz.zeroValue0,
  t3 := Tryz.underlying3,
  a3 := Tryz.isAgg3,
  z3 := Tryz.sizeOf3,
  v3 := Tryz.zeroValue3,
  t4 := Tryz.underlying4,
  a4 := Tryz.isAgg4,
  z4 := Tryz.sizeOf4,
  v4 := Tryz.zeroValue4,
  t5 := Tryz.underlying5,
  a5 := Tryz.isAgg5,
  z5 := Tryz.sizeOf5,
  v5 := Tryz.zeroValue5,
  t9 := Tryz.underlying9,
  a9 := Tryz.isAgg9,
  z9 := Tryz.sizeOf9,
  v9 := Tryz.zeroValue9,
  t22 := Tryz.underlying114,
  a22 := Tryz.isAgg114,
  z22 := Tryz.sizeOf114,
  v22 := Tryz.zeroValue114,
  t25 := Tryz.underlying268,
  a25 := Tryz.isAgg268,
  z25 := Tryz.sizeOf268,
  v25 := Tryz.zeroValue268,
  t39 := Tryz.underlying205,
  a39 := Tryz.isAgg205,
  z39 := Tryz.sizeOf205,
  v39 := Tryz.zeroValue205,
  t45 := Tryz.underlying216,
  a45 := Tryz.isAgg216,
  z45 := Tryz.sizeOf216,
  v45 := Tryz.zeroValue216,
  t46 := Tryz.underlying217,
  a46 := Tryz.isAgg217,
  z46 := Tryz.sizeOf217,
  v46 := Tryz.zeroValue217,
  t50 := Tryz.underlying221,
  a50 := Tryz.isAgg221,
  z50 := Tryz.sizeOf221,
  v50 := Tryz.zeroValue221,
  t53 := Tryz.underlying224,
  a53 := Tryz.isAgg224,
  z53 := Tryz.sizeOf224,
  v53 := Tryz.zeroValue224,
  t55 := Tryz.underlying226,
  a55 := Tryz.isAgg226,
  z55 := Tryz.sizeOf226,
  v55 := Tryz.zeroValue226,
  t66 := Tryz.underlying227,
  a66 := Tryz.isAgg227,
  z66 := Tryz.sizeOf227,
  v66 := Tryz.zeroValue227,
  t70 := Tryz.underlying231,
  a70 := Tryz.isAgg231,
  z70 := Tryz.sizeOf231,
  v70 := Tryz.zeroValue231,
  t76 := Tryz.underlying233,
  a76 := Tryz.isAgg233,
  z76 := Tryz.sizeOf233,
  v76 := Tryz.zeroValue233,
  t77 := Tryz.underlying234,
  a77 := Tryz.isAgg234,
  z77 := Tryz.sizeOf234,
  v77 := Tryz.zeroValue234 }

theorem ans_lenQ (x : Ans) : x.vals.length = 2 := rfl
theorem ans_oneQ (x : Ans) : ∀ u ∈ x.vals, one u = true := by
  intro u hu
  simp only [Ans.vals, List.mem_cons, List.not_mem_nil, or_false] at hu
  rcases hu with rfl | rfl <;> rfl
theorem flatK_ans [Inhabited Ans] (l : List Ans) : Go.Sort.flatK Ans.vals 2 l.toArray = (fl Ans.vals l).toArray := by
  apply Array.ext'
  apply List.ext_getElem?
  intro t
  have hfl := fl_len (f := Ans.vals) ans_lenQ l
  by_cases ht : t < l.length * 2
  · have hi : t / 2 < l.length := by omega
    have hx : l[t / 2]? = some l[t / 2] := List.getElem?_eq_getElem hi
    have hv : (l[t / 2].vals)[t % 2]? = some (l[t / 2].vals)[t % 2]! := by
      have h7 : t % 2 < (l[t / 2].vals).length := by show t % 2 < 2; omega
      rw [List.getElem?_eq_getElem h7]
      simp [h7]
    have h1 := fl_get ans_lenQ hx hv [] []
    rw [List.append_nil, List.nil_append, List.length_nil, show 0 + t / 2 * 2 + t % 2 = t by omega] at h1
    rw [h1]
    simp [Go.Sort.flatK, ht, hi]
  · have h1 : (fl Ans.vals l)[t]? = none := List.getElem?_eq_none (by omega)
    rw [h1]
    simp [Go.Sort.flatK]
    omega
theorem holds_ans [Inhabited Ans] {w : World} {b : Nat} {xs : List Ans} {rest : List Value} {e : Nat} (hb : At w b (cel (fl Ans.vals xs ++ rest) e)) : Go.Sort.HoldsK Ans.vals 2 w b 0 xs.toArray := by
  unfold Go.Sort.HoldsK
  rw [flatK_ans]
  intro j hj
  refine ⟨?_, frozen_at hb _⟩
  have hj' : j < (fl Ans.vals xs).length := by simpa using hj
  rw [cell_at hb, Nat.zero_add, List.getElem?_append_left hj', List.getElem?_eq_getElem hj']
  simp [hj']
theorem row_ans [Inhabited Ans] {w : World} {b n : Nat} {xs ys : List Ans} {rest : List Value} {os : Array Obj} {e : Nat} (hb : At w b (cel (fl Ans.vals xs ++ rest) e)) (hl : ys.length = xs.length) :
    At (sortWorldK Ans.vals 2 w b 0 n ys.toArray os) b (cel (fl Ans.vals ys ++ rest) e) ∧ Frm (fun c => c = b) w (sortWorldK Ans.vals 2 w b 0 n ys.toArray os) := by
  have hb' : w.heap[b]? = some (cel (fl Ans.vals xs ++ rest) e) := hb
  have hlt := at_lt hb
  have hput : Go.Sort.putCells id 0 (fl Ans.vals ys).toArray (fl Ans.vals xs ++ rest).toArray = (fl Ans.vals ys ++ rest).toArray := by
    apply Array.ext'
    apply List.ext_getElem?
    intro t
    have h1 := fl_len ans_lenQ xs
    have h2 := fl_len ans_lenQ ys
    simp only [Go.Sort.putCells, Array.toList_mapIdx, List.getElem?_mapIdx, Nat.zero_le, true_and, Nat.zero_add, List.size_toArray, id]
    by_cases ht : t < (fl Ans.vals ys).length
    · rw [List.getElem?_append_left (by omega), List.getElem?_append_left ht, List.getElem?_eq_getElem (show t < (fl Ans.vals xs).length by omega), List.getElem?_eq_getElem ht]
      simp [ht]
    · rw [List.getElem?_append_right (by omega), List.getElem?_append_right (by omega), show t - (fl Ans.vals xs).length = t - (fl Ans.vals ys).length by omega]
      cases rest[t - (fl Ans.vals ys).length]? <;> simp [ht]
  have hheap : (Go.Sort.putRowK Ans.vals 2 (Go.Sort.ahead w n) b 0 ys.toArray).heap = w.heap.setIfInBounds b (cel (fl Ans.vals ys ++ rest) e) := by
    unfold Go.Sort.putRowK Go.Sort.putRow Go.Sort.mapBlock
    rw [flatK_ans]
    apply Array.ext_getElem?
    intro k
    simp only [Array.getElem?_modify, Go.Sort.ahead, Array.getElem?_setIfInBounds]
    by_cases hk : b = k
    · subst hk
      rw [if_pos rfl, if_pos rfl, if_pos hlt, hb']
      simp only [Option.map_some, Go.Sort.onCells, cel]
      rw [hput]
    · rw [if_neg hk, if_neg hk]
  have hh : (sortWorldK Ans.vals 2 w b 0 n ys.toArray os).heap = w.heap.setIfInBounds b (cel (fl Ans.vals ys ++ rest) e) ++ os := by
    unfold sortWorldK Go.Sort.grow
    rw [hheap]
  constructor
  · show (sortWorldK Ans.vals 2 w b 0 n ys.toArray os).heap[b]? = _
    rw [hh, Array.getElem?_append_left (by simpa using hlt), Array.getElem?_setIfInBounds_self, if_pos hlt]
  · refine ⟨by rw [hh]; simp, fun c o hc hn => ?_, rfl, rfl, rfl⟩
    have hc' : w.heap[c]? = some o := hc
    show (sortWorldK Ans.vals 2 w b 0 n ys.toArray os).heap[c]? = _
    rw [hh, Array.getElem?_append_left (by simpa using at_lt hc), Array.getElem?_setIfInBounds_ne (fun h => hn h.symm), hc']
def cmpA (x y : Ans) : Int := cmpI x.seq y.seq
theorem lack1_ret (x y : Ans) (w : World) : Rets Tryz.prog 175 [.agg x.vals.toArray, .agg y.vals.toArray] w fun v w' => v = I (cmpA x y) ∧ ∃ q os, w' = Go.Sort.grow (w.drewN q) os := by
  have hx1 := at_alloc (cel y.vals 123) (at_alloc_new w (cel x.vals 123))
  have hy1 := at_alloc_new (w.alloc (cel x.vals 123)) (cel y.vals 123)
  refine rets_of Tryz.func175 (by kernel_rfl) rfl Tryz.ntmps175 (Nat.le_of_ble_eq_true rfl) ?_
  refine runG08 ?_
  refine s_callf (Compare_ret x.seq y.seq _) rfl wnt_none ?_
  rintro v w2 ⟨rfl, rfl⟩
  refine runG08 ?_
  refine ret_i rfl rfl ⟨rfl, 0, #[cel x.vals 123, cel y.vals 123], ?_⟩
  simp only [Go.Sort.alloc_eq_grow, Go.Sort.grow_grow]
  rfl
def ltA (x y : Ans) : Bool := decide (x.seq < y.seq)
theorem ltOf_cmpA (x y : Ans) : ltOf cmpA x y = ltA x y := by
  unfold ltOf cmpA ltA
  exact decide_eq_decide.2 cmpI_neg
theorem swoA : Go.Sort.SWO (ltOf cmpA) where
  irrefl x := by rw [ltOf_cmpA]; simp [ltA]
  trans x y z h1 h2 := by rw [ltOf_cmpA] at *; simp [ltA] at *; omega
  ntrans x y z h1 h2 := by rw [ltOf_cmpA] at *; simp [ltA] at *; omega
theorem sortA_ret {w : World} {b cap : Nat} {xs : List Ans} {rest : List Value} (hb : At w b (cel (fl Ans.vals xs ++ rest) 123)) (hsz : xs.length < 1000000000000) :
    Rets Tryz.prog 174 [.slice (some ⟨b, 0, none⟩) xs.length cap, .func (.func 175) #[] #[]] w fun v w' => v = .tuple #[] ∧ ∃ ys, ys.Perm xs ∧ (ys.Pairwise fun a c => a.seq ≤ c.seq) ∧ At w' b (cel (fl Ans.vals ys ++ rest) 123) ∧ Frm (fun c => c = b) w w' := by
  refine ⟨by kernel_rfl, ?_⟩
  have hcf : callable Tryz.prog 175 = true := by kernel_rfl
  have : Inhabited Ans := ⟨⟨0, false⟩⟩
  have hcon := AnyQ.slices_SortFunc sortAns 2 Tryz.isAgg123 Tryz.sizeOf123 Ans.vals (fun _ => rfl) (fun x v hv => by
      have := ans_oneQ x v hv
      cases v <;> first | rfl | cases this) cmpA swoA 175 #[] b 0 cap xs.toArray w (fun args w => run_callFunc hcf args)
    (fun m os dk _ x y => (lack1_ret x y _).2.mono fun e w' he => by
      obtain ⟨v, rfl, rfl, q, os', rfl⟩ := he
      exact ⟨rfl, q, os', rfl⟩) (holds_ans hb) (at_lt hb) (by simp; omega)
  refine hcon.mono ?_
  rintro e w' ⟨rfl, d', n, os, hp, hs, rfl⟩
  obtain ⟨hsize, _, hperm⟩ := hp
  have hd : d' = d'.toList.toArray := rfl
  have hlen : d'.toList.length = xs.length := by simpa using hsize
  have hperm' : d'.toList.Perm xs := by
    have h1 : d'.extract 0 xs.toArray.size = d' := by rw [← hsize]; exact Array.extract_size
    have h2 : xs.toArray.extract 0 xs.toArray.size = xs.toArray := Array.extract_size
    rw [h1, h2] at hperm
    exact hperm
  refine ⟨_, rfl, rfl, d'.toList, hperm', ?_, ?_⟩
  · rw [List.pairwise_iff_getElem]
    intro i j hi hj hij
    have := hs i j (Nat.zero_le _) hij (by simpa [hlen] using hj)
    rw [ltOf_cmpA] at this
    simp only [Array.getElem_toList]
    rw [getElem!_pos d' j (by simpa using hj), getElem!_pos d' i (by simpa using hi)] at this
    simp [ltA] at this
    exact this
  · rw [hd]
    exact row_ans hb hlen
/-! Nothing to sort. -/
theorem ins0_ret (w : World) : Rets Tryz.prog 177 [.slice none 0 0, I 0, I 0, .func (.func 175) #[] #[]] w fun v w' => v = .tuple #[] ∧ w = w' := by
  refine rets_of Tryz.func177 (by kernel_rfl) rfl Tryz.ntmps177 (Nat.le_of_ble_eq_true rfl) ?_
  refine runG08 ?_
  refine lp (fun env w' => w = w' ∧ ∃ env0, env = setL env0 [(2, I 0), (8, I 1)]) (fun _ _ => 0) ⟨rfl, _, fixL ⟨rfl, rfl, trivial⟩⟩ ?_
  rintro env w' ⟨rfl, env0, rfl⟩
  refine runG08 ?_
  exact end_0 rfl ⟨rfl, rfl⟩
theorem pdq0_ret (n : Int) (w : World) : Rets Tryz.prog 176 [.slice none 0 0, I 0, I 0, I n, .func (.func 175) #[] #[]] w fun v w' => v = .tuple #[] ∧ w = w' := by
  refine rets_of Tryz.func176 (by kernel_rfl) rfl Tryz.ntmps176 (Nat.le_of_ble_eq_true rfl) ?_
  refine runG08 ?_
  refine lp (fun env w' => w = w' ∧ ∃ env0, env = setL env0 [(0, .slice none 0 0), (1, I 0), (2, I 0), (4, .func (.func 175) #[] #[])]) (fun _ _ => 0) ⟨rfl, _, fixL ⟨rfl, rfl, rfl, rfl, trivial⟩⟩ ?_
  rintro env w' ⟨rfl, env0, rfl⟩
  refine runG08 ?_
  refine s_callf (ins0_ret w) rfl wnt_none ?_
  rintro v w1 ⟨rfl, rfl⟩
  refine runG08 ?_
  exact ret_0 rfl ⟨rfl, rfl⟩
theorem len0_ret (w : World) : Rets Tryz.prog 127 [.int .u64 0] w fun v w' => v = I 0 ∧ w = w' := by
  refine ⟨by kernel_rfl, ?_⟩
  have h := Any.bits_Len (SlLaysF0.n15.bits { sortAns with }) 0 w (by omega) (by omega)
  refine h.mono ?_
  rintro e w' ⟨rfl, rfl⟩
  exact ⟨_, rfl, rfl, rfl⟩
section
variable {P : Program} {w : World} {ρ : Operand → Value} {d : Option Nat} {t : Nat} {p : String} {af : Array Edge} {g : Option (Nat × Bool)}
theorem r_conv {a b : Nat} {x : Operand} {v u : Value} (hx : ρ x = v) (h : (convert a b v).run P w = .ok u w) : (execOp ρ ⟨d, .convert a b x, t, p, af, g⟩).run P w = .ok (.value u) w := by
  simp [execOp, hx, h]
end
theorem conv0 (w : World) : (convert 3 205 (I 0)).run Tryz.prog w = .ok (.int .u64 0) w := by kernel_rfl
theorem sortA0_ret (w : World) : Rets Tryz.prog 174 [.slice none 0 0, .func (.func 175) #[] #[]] w fun v w' => v = .tuple #[] ∧ w = w' := by
  refine rets_of Tryz.func174 (by kernel_rfl) rfl Tryz.ntmps174 (Nat.le_of_ble_eq_true rfl) ?_
  refine runG08 ?_
  refine s_val (r_conv rfl (conv0 _)) wnt_none ?_
  refine s_callf (len0_ret w) rfl wnt_none ?_
  rintro v w1 ⟨rfl, rfl⟩
  refine runG08 ?_
  refine s_callf (pdq0_ret 0 w) rfl wnt_none ?_
  rintro v w1 ⟨rfl, rfl⟩
  refine runG08 ?_
  exact end_0 rfl ⟨rfl, rfl⟩
end Go.Proofs.YtbicffldggcdhaaGreatDoor

namespace Go.Proofs.YtbicffldggcdhaaGreatDoor
open Go

/-- What lacking gives: the answers that a client lacks, in a row of its own. -/
def LackSpec (w : World) (p : Nat) (i n : Int) (vd : VD) : Prop :=
  Rets Tryz.prog 173 [Ptr p, I i, I n] w fun v w' => ∃ L, L.Perm (lack vd i n) ∧ (L.Pairwise fun a b => a.seq ≤ b.seq) ∧ Row w' v 123 2 L.length (fl Ans.vals L) ∧ (∀ b, InV v b → w.heap.size ≤ b) ∧ Frm0 w w'
theorem nodup_of_map {α β : Type} {f : α → β} {l : List α} (h : (l.map f).Nodup) : l.Nodup := (List.pairwise_map.1 h).imp (fun h e => h (congrArg f e))
theorem nodup_map_of {α β : Type} {f : α → β} {l : List α} (hf : ∀ a b, f a = f b → a = b) (h : l.Nodup) : (l.map f).Nodup := List.pairwise_map.2 (List.Pairwise.imp (fun h e => h (hf _ _ e)) h)
section
variable {es : Array MapEntry} {cl : Nat} {M : VD}
theorem VEnts.mem (h : VEnts es cl M) {e : MapEntry} (he : e ∈ es.toList) : ∃ x ∈ M, e.key = MkV x.1 ∧ e.val = VdV x.2 := by
  have h1 : entOf e ∈ M.map vEnt := by rw [← h.ents]; exact List.mem_map_of_mem he
  obtain ⟨x, hx, hxe⟩ := List.mem_map.1 h1
  unfold vEnt entOf at hxe
  simp only [Prod.mk.injEq] at hxe
  exact ⟨x, hx, hxe.1.symm, hxe.2.symm⟩
theorem VEnts.of (h : VEnts es cl M) {x : (Int × Int) × (Int × Bool)} (hx : x ∈ M) : ∃ e ∈ es.toList, e.key = MkV x.1 ∧ e.val = VdV x.2 := by
  have h1 : vEnt x ∈ es.toList.map entOf := by rw [h.ents]; exact List.mem_map_of_mem hx
  obtain ⟨e, he, hxe⟩ := List.mem_map.1 h1
  unfold vEnt entOf at hxe
  simp only [Prod.mk.injEq] at hxe
  exact ⟨e, he, hxe.1, hxe.2⟩
theorem mk_inj {a b : Int × Int} (h : MkV a = MkV b) : a = b := by
  obtain ⟨a1, a2⟩ := a
  obtain ⟨b1, b2⟩ := b
  simp [MkV] at h
  rw [h.1, h.2]
theorem VEnts.keyN (h : VEnts es cl M) : (es.toList.map (·.key)).Nodup := by
  have h1 : es.toList.map (·.key) = (M.map (·.1)).map MkV := by
    have := congrArg (List.map Prod.fst) h.ents
    rw [List.map_map, List.map_map] at this
    rw [List.map_map]
    exact this
  rw [h1]
  exact nodup_map_of (fun a b => mk_inj) h.keys
end
section
variable {P : Program} {w : World} {ρ : Operand → Value} {d : Option Nat} {t b cl : Nat} {p : String} {af : Array Edge} {g : Option (Nat × Bool)} {x : Operand} {es : Array MapEntry}
theorem r_entryV {r : Nat} {seen : Array Nat} {e : MapEntry} {k v : Value} (hx : ρ x = .pointer (some ⟨r, 0, none⟩)) (hr : At w r (.mapIter (some b) cl (seen.push e.born) cl)) (hb : At w b (.map es cl)) (he : e ∈ es.toList) (hn : (es.toList.map (·.born)).Nodup) (hk : e.key = k) (hv : e.val = v) :
    (execOp ρ ⟨d, .entry x, t, p, af, g⟩).run P w = .ok (.value (.tuple [k, v].toArray)) w := by
  rw [r_entry hx hr hb he hn, hk, hv]
end
theorem bld_ansQ (a : Int) (b : Bool) (w : World) : (Instr.build 123 [(0, I a), (1, B b)].toArray).run Tryz.prog w = .ok (.agg (Ans.vals ⟨a, b⟩).toArray) w := by kernel_rfl
theorem bs_ansQ (x : Ans) (w : World) : (Instr.buildSlice 114 1 [(0, .agg x.vals.toArray)].toArray).run Tryz.prog w = .ok (.slice (some ⟨w.heap.size, 0, none⟩) 1 1) (w.alloc (cel x.vals 123)) := by kernel_rfl
theorem append_ansQ {w : World} {v s : Value} {A : List Ans} {q : Ans} {ty : Nat} (hrow : Row w v 123 2 A.length (fl Ans.vals A)) (hseg : Seg w s 2 1 q.vals) (hcap : A.length < 4000000000000) :
    ∃ v' w', (Builtin.append_ #[114, 114] ty #[v, s]).run Tryz.prog w = .ok v' w' ∧ Row w' v' 123 2 (A ++ [q]).length (fl Ans.vals (A ++ [q])) ∧ Frm (InV v) w w' ∧ ∀ b, InV v' b → InV v b ∨ w.heap.size ≤ b := by
  obtain ⟨v', w', h1, h2, h3, h4⟩ := append_seg (P := Tryz.prog) (sz := 2) (by' := 16) (ty := ty) (sT := 114) (u_ok rfl) (u_ok rfl) (fun kk h => by cases h) (s_ok rfl) (b_ok rfl) (z_ok rfl) rfl hrow hseg (ans_oneQ q) (by omega) (by omega)
  exact ⟨v', w', h1, by rw [fl_append, List.length_append]; simpa [fl] using h2, h3, h4⟩
theorem lack_append (a b : VD) (i n : Int) : lack (a ++ b) i n = lack a i n ++ lack b i n := by simp [lack]
set_option maxRecDepth 4000 in
set_option maxHeartbeats 4000000 in
theorem lacking_ret {PT : PTy} {w : World} {col : Nat → Nat} {k p t : Nat} {lv : Value} {mb cb cap : Nat} {rest : List Value} {ms : List CM} {Q : PPar} (h : PB PT w col k p t lv mb cb cap rest ms Q) (i n : Int) (hl : Q.vd.length < 1000000000000) : LackSpec w p i n Q.vd := by
  have hh := h.head
  obtain ⟨es, cl, hm, hE⟩ := h.map
  have hkeys := nodup_map_inj hE.keyN
  have hborn := nodup_map_inj hE.born
  obtain ⟨N, hN⟩ : ∃ N, w.heap.size = N := ⟨_, rfl⟩
  have hmN := at_lt hm
  unfold LackSpec
  refine rets_of Tryz.func173 (by kernel_rfl) rfl Tryz.ntmps173 (Nat.le_of_ble_eq_true rfl) ?_
  refine runG08 ?_
  refine s_val (r_range (u_ok rfl) rfl hm) wnt_none ?_
  rw [hN]
  refine runG08 ?_
  refine lp (fun env w' => ∃ env0, ∃ (seen : Array Nat) (sn : VD) (va : Option Addr) (vc : Nat), env = setL env0 [(1, I i), (2, I n), (7, .slice va (lack sn i n).length vc), (14, Ptr N)] ∧ At w' N (.mapIter (some mb) cl seen cl) ∧ Row w' (.slice va (lack sn i n).length vc) 123 2 (lack sn i n).length (fl Ans.vals (lack sn i n)) ∧ (∀ b, InV (.slice va (lack sn i n).length vc) b → N < b) ∧ Frm0 w w' ∧ N + 1 ≤ w'.heap.size ∧
    (sn.map (·.1)).Nodup ∧ (∀ e ∈ es.toList, ∀ x, e.key = MkV x.1 → e.val = VdV x.2 → (x ∈ sn ↔ e.born ∈ seen.toList)) ∧ (∀ x ∈ sn, x ∈ Q.vd)) (fun _ w' => left es N w') ?_ ?_
  · refine ⟨_, #[], [], none, 0, fixL ⟨rfl, rfl, rfl, rfl, trivial⟩, ?_, Row.nil, fun b hb => (inv_none hb).elim, Frm.of_alloc _ _, by rw [World.size_alloc]; omega, by simp, fun e _ x _ _ => by simp, fun x hx => by cases hx⟩
    have := at_alloc_new w (.mapIter (some mb) cl #[] cl)
    rwa [hN] at this
  · rintro env w1 ⟨env0, seen, sn, va, vc, rfl, hit, hrow, hnew, hF, hsz, hsn, hch, hsub⟩
    have hm1 := hF.at0 hm
    have hl1 := left_at (es := es) hit
    have hlen : (lack sn i n).length ≤ Q.vd.length := by
      have h1 : (lack sn i n).length ≤ sn.length := by
        unfold lack
        rw [List.length_map]
        exact List.length_filter_le _ _
      have h2 := nodup_sub (m := Q.vd.map (·.1)) hsn (fun x hx => by
        obtain ⟨y, hy, rfl⟩ := List.mem_map.1 hx
        exact List.mem_map_of_mem (hsub y hy))
      rw [List.length_map, List.length_map] at h2
      omega
    rcases next_run (P := Tryz.prog) (t := 0) hit hm1 hE.low with ⟨hall, hn⟩ | ⟨e, he, hns, w2, hw2, hn⟩
    · have hperm : sn.Perm Q.vd := by
        refine (List.perm_ext_iff_of_nodup (nodup_of_map hsn) (nodup_of_map hE.keys)).2 (fun x => ⟨hsub x, fun hx => ?_⟩)
        obtain ⟨e, he, h1, h2⟩ := hE.of hx
        exact (hch e he x h1 h2).2 (hall e he)
      have hlp : (lack sn i n).Perm (lack Q.vd i n) := (hperm.filter _).map _
      refine runG08 ?_
      refine s_val (r_next rfl hn) wnt_none ?_
      refine runG08 ?_
      rcases hrow with ⟨e1, e2, _⟩ | ⟨b, cap1, rest1, e1, hA, hpl, hr, hc⟩
      · have hnil : lack sn i n = [] := List.length_eq_zero_iff.1 e2
        rw [e1]
        refine s_callf (sortA0_ret _) rfl wnt_none ?_
        rintro v w3 ⟨rfl, rfl⟩
        refine runG08 ?_
        rw [hnil] at hlp
        exact ret_s rfl rfl ⟨[], hlp, List.Pairwise.nil, Row.nil, fun b hb => (inv_none hb).elim, hF⟩
      · cases e1
        refine s_callf (sortA_ret (cap := vc) hA (by omega)) rfl wnt_none ?_
        rintro v w3 ⟨rfl, ys, hy, ho, hA3, f3⟩
        refine runG08 ?_
        have hbN := hnew b ⟨_, _, _, rfl⟩
        refine ret_s rfl rfl ⟨ys, hy.trans hlp, ho, .inr ⟨b, vc, rest1, by rw [hy.length_eq], hA3, by rw [fl_len ans_lenQ], ?_, ?_⟩, ?_, hF.trans f3 (fun c hc => .inr (by omega))⟩
        · rw [hy.length_eq]; exact hr
        · rw [hy.length_eq]; exact hc
        · rintro c ⟨_, _, _, hv⟩
          cases hv
          omega
    · obtain ⟨x, hxm, hk, hv⟩ := hE.mem he
      obtain ⟨⟨xi, xs⟩, xn, xd⟩ := x
      rw [hk, hv] at hn
      have hF12 : Frm0 w1 w2 := by rcases hw2 with rfl | rfl; exact Frm.refl _ _; exact Frm.of_drew _
      have hF13 : Frm (fun b => b = N) w1 (setB w2 N (.mapIter (some mb) cl (seen.push e.born) cl)) := (hF12.mono (T := fun b => b = N) (fun _ h => h.elim)).setB (b := N) (.inl rfl) _
      have hit3 := at_setB (.mapIter (some mb) cl (seen.push e.born) cl) (hF12.at0 hit)
      have hF3 : Frm0 w (setB w2 N (.mapIter (some mb) cl (seen.push e.born) cl)) := hF.trans hF13 (fun b hb => .inr (by omega))
      have hrow3 := hrow.frm hF13 (fun b hb e9 => by have := hnew b hb; omega)
      have hpl := left_push he hns
      have hs3 := hF13.size
      have hm3 := hF3.at0 hm
      have hxsn : (((xi, xs), xn, xd) : (Int × Int) × Int × Bool) ∉ sn := fun hx => hns ((hch e he _ hk hv).1 hx)
      have hsn' : ((sn ++ [((xi, xs), xn, xd)]).map (·.1)).Nodup := by
        rw [List.map_append, List.nodup_append]
        refine ⟨hsn, by simp, ?_⟩
        intro a ha b hb e9
        simp at hb
        subst hb
        subst e9
        obtain ⟨y, hy, hye⟩ := List.mem_map.1 ha
        have hyM := hsub y hy
        have := nodup_map_inj hE.keys y hyM _ hxm hye
        subst this
        exact hxsn hy
      have hch' : ∀ e' ∈ es.toList, ∀ y : (Int × Int) × Int × Bool, e'.key = MkV y.1 → e'.val = VdV y.2 → (y ∈ sn ++ [((xi, xs), xn, xd)] ↔ e'.born ∈ (seen.push e.born).toList) := by
        intro e' he' y hk' hv'
        simp only [List.mem_append, List.mem_singleton, Array.toList_push]
        constructor
        · rintro (h1 | h1)
          · exact .inl ((hch e' he' y hk' hv').1 h1)
          · subst h1
            have := hkeys e' he' e he (by rw [hk', hk])
            subst this
            exact .inr rfl
        · rintro (h1 | h1)
          · exact .inl ((hch e' he' y hk' hv').2 h1)
          · have := hborn e' he' e he h1
            subst this
            obtain ⟨z, hz, hz1, hz2⟩ := hE.mem he
            have hyM : y ∈ Q.vd := by
              obtain ⟨y', hy', g1, g2⟩ := hE.mem he'
              have e1 : y.1 = y'.1 := mk_inj (hk'.symm.trans g1)
              have e2 : y.2 = y'.2 := by
                have := hv'.symm.trans g2
                obtain ⟨y1, y2, y3⟩ := y
                obtain ⟨z1, z2, z3⟩ := y'
                simp [VdV] at this
                simp [this.1, this.2]
              have : y = y' := Prod.ext e1 e2
              rw [this]; exact hy'
            right
            exact nodup_map_inj hE.keys y hyM _ hxm (mk_inj (hk'.symm.trans hk))
      have hsub' : ∀ y ∈ sn ++ [((xi, xs), xn, xd)], y ∈ Q.vd := by
        intro y hy
        rcases List.mem_append.1 hy with h1 | h1
        · exact hsub y h1
        · simp at h1
          subst h1
          exact hxm
      refine runG08 ?_
      refine s_val (r_next rfl hn) wnt_none ?_
      refine runG08 ?_
      refine s_val (r_entryV rfl hit3 hm3 he hE.born hk hv) wnt_none ?_
      generalize setB w2 N (.mapIter (some mb) cl (seen.push e.born) cl) = w3 at *
      refine runG08 ?_
      refine s_skip (r_storeAll (vs := [I xi, I xs]) (s_ok rfl) rfl rfl (by intro u hu; simp at hu; rcases hu with rfl | rfl <;> rfl) (at_alloc _ (at_alloc_new w3 _)) rfl) wnt_none ?_
      refine s_skip (r_storeAll (vs := [I xn, B xd]) (s_ok rfl) rfl rfl (by intro u hu; simp at hu; rcases hu with rfl | rfl <;> rfl) (at_setB_ne _ (by rw [World.size_alloc]; omega) (at_alloc_new _ _)) rfl) wnt_none ?_
      have hx4 : At (setB (setB ((w3.alloc (cel [I 0, I 0] 252)).alloc (cel [I 0, B false] 254)) w3.heap.size (cel [I xi, I xs] 252)) (w3.alloc (cel [I 0, I 0] 252)).heap.size (cel [I xn, B xd] 254)) w3.heap.size (cel [I xi, I xs] 252) := at_setB_ne _ (by rw [World.size_alloc]; omega) (at_setB _ (at_alloc _ (at_alloc_new w3 _)))
      have hy4 : At (setB (setB ((w3.alloc (cel [I 0, I 0] 252)).alloc (cel [I 0, B false] 254)) w3.heap.size (cel [I xi, I xs] 252)) (w3.alloc (cel [I 0, I 0] 252)).heap.size (cel [I xn, B xd] 254)) (w3.alloc (cel [I 0, I 0] 252)).heap.size (cel [I xn, B xd] 254) := at_setB _ (at_setB_ne _ (by rw [World.size_alloc]; omega) (at_alloc_new _ _))
      have f4 : Frm0 w3 (setB (setB ((w3.alloc (cel [I 0, I 0] 252)).alloc (cel [I 0, B false] 254)) w3.heap.size (cel [I xi, I xs] 252)) (w3.alloc (cel [I 0, I 0] 252)).heap.size (cel [I xn, B xd] 254)) := (((Frm.of_alloc w3 _).alloc _).setB (b := w3.heap.size) (.inr (Nat.le_refl _)) _).setB (.inr (by rw [World.size_alloc]; omega)) _
      generalize setB (setB ((w3.alloc (cel [I 0, I 0] 252)).alloc (cel [I 0, B false] 254)) w3.heap.size (cel [I xi, I xs] 252)) (w3.alloc (cel [I 0, I 0] 252)).heap.size (cel [I xn, B xd] 254) = w4 at *
      generalize (w3.alloc (cel [I 0, I 0] 252)).heap.size = z1 at *
      have F4 := hF3.trans0 f4
      have hit4 := f4.at0 hit3
      have hrow4 := hrow3.frm f4 (fun _ _ h => h)
      have s4 := f4.size
      have hl4 := left_at (es := es) hit4
      by_cases hc : xi = i ∧ n < xn
      · obtain ⟨hc1, hc2⟩ := hc
        have hlk : lack (sn ++ [((xi, xs), xn, xd)]) i n = lack sn i n ++ [⟨xs, xd⟩] := by
          rw [lack_append]
          congr 1
          simp [lack, hc1, hc2]
        refine runG08 ?_
        refine s_val (r_build rfl (bld_ansQ _ _ _)) wnt_none ?_
        refine s_val (r_bs rfl (bs_ansQ ⟨xs, xd⟩ _)) wnt_none ?_
        have f5 : Frm0 w4 (w4.alloc (cel (Ans.vals ⟨xs, xd⟩) 123)) := Frm.of_alloc _ _
        have s5 := f5.size
        obtain ⟨v6, w6, e6, r6, f6, n6⟩ := append_ansQ (ty := 114) (A := lack sn i n) (q := ⟨xs, xd⟩) (hrow4.frm f5 (fun _ _ h => h)) (seg_new rfl) (by omega)
        rw [← hlk] at r6
        obtain ⟨va6, vc6, rfl⟩ := r6.isSl
        refine s_val (r_app rfl rfl e6) wnt_none ?_
        have hit6 := f6.at (b := N) (fun hb => by have := hnew N hb; omega) (f5.at0 hit4)
        have hl6 := left_at (es := es) hit6
        have s6 := f6.size
        refine runG08 ?_
        refine ⟨_, rfl, ⟨_, seen.push e.born, sn ++ [((xi, xs), xn, xd)], va6, vc6, fixL ⟨rfl, rfl, rfl, rfl, trivial⟩, hit6, r6, fun b hb => ?_, (F4.trans0 f5).trans f6 (fun b hb => .inr (by have := hnew b hb; omega)), by omega, hsn', hch', hsub'⟩, by rw [hl1, hl6]; exact hpl⟩
        rcases n6 b hb with h9 | h9
        · exact hnew b h9
        · omega
      · have hlk : lack (sn ++ [((xi, xs), xn, xd)]) i n = lack sn i n := by
          rw [lack_append]
          have : lack [((xi, xs), xn, xd)] i n = [] := by
            unfold lack
            rw [List.filter_cons_of_neg (by simpa using hc)]
            rfl
          rw [this, List.append_nil]
        by_cases hc1 : xi = i
        · have hc2 : ¬ n < xn := fun h9 => hc ⟨hc1, h9⟩
          refine runG08 ?_
          refine ⟨_, rfl, ⟨_, seen.push e.born, sn ++ [((xi, xs), xn, xd)], va, vc, by rw [hlk]; exact fixL ⟨rfl, rfl, rfl, rfl, trivial⟩, hit4, by rw [hlk]; exact hrow4, by rw [hlk]; exact hnew, F4, by omega, hsn', hch', hsub'⟩, by rw [hl1, hl4]; exact hpl⟩
        · refine runG08 ?_
          refine ⟨_, rfl, ⟨_, seen.push e.born, sn ++ [((xi, xs), xn, xd)], va, vc, by rw [hlk]; exact fixL ⟨rfl, rfl, rfl, rfl, trivial⟩, hit4, by rw [hlk]; exact hrow4, by rw [hlk]; exact hnew, F4, by omega, hsn', hch', hsub'⟩, by rw [hl1, hl4]; exact hpl⟩
end Go.Proofs.YtbicffldggcdhaaGreatDoor
