/-
  The nine reasons: what the listed package-level variables hold, and that no two of them are one.
-/
import Derived.Test.YtbicffldggcdhaaDoorLMem
import Derived.Test.YtbicffldggcdhaaDoorWRef1
import Derived.Test.YtbicffldggcdhaaDoorRows
import Derived.ProofKit
import Derived.LaidMore
namespace Go.Proofs.YtbicffldggcdhaaDoor
open Go Go.ChangeShapes Go.WideShapes Go.RowKit

theorem star : "*" ++ "errors.errorString" = "*errors.errorString" := by decide
theorem rowErr (u : TypeId) (h : Tryd.prog.typeName? 3 u = some "*errors.errorString") : u = 101 :=
  typeName_ptr_named (nm := "errors.errorString") (by rw [star]; kernel_rfl) (by kernel_rfl) (by decide) u (by rw [star]; exact h)
theorem cellsES : Tryd.prog.cellsOf 117 = 1 := by kernel_rfl
theorem cellsStr : Tryd.prog.cellsOf 9 = 1 := by kernel_rfl

/-- One reason: what its variable holds, and that it points to a plain block. -/
structure ErrAt (w : World) (g : Nat) (a : Addr) : Prop where
  var : ∃ ty k, At w g (.cells [.iface 101 (.pointer (some a))].toArray ty k)
  blk : ∃ c t, At w a.block (.cells c t (0, 0))
def isErr (d : DataW Unit) : Bool := match d with | .iface n (.ptr (.agg [.lit (.string _)])) => n == "*errors.errorString" | _ => false
theorem of_isErr {d : DataW Unit} (h : isErr d = true) : ∃ text, d = .iface "*errors.errorString" (.ptr (.agg [.lit (.string text)])) := by
  unfold isErr at h
  split at h
  · rename_i n s
    exact ⟨s, by rw [beq_iff_eq.1 h]⟩
  · cases h

set_option maxRecDepth 100000 in
theorem laid_errs {W : World} : ∀ (l : List (String × DataW Unit)) (gs : List Nat) (ps : List MemPlace),
    l.map (fun x => Tryd.prog.globalNamed x.1) = gs.map some → (gs.all fun g => (Tryd.prog.globals[g]?).map (·.type) == some 25) = true → (l.all fun x => isErr x.2) = true →
    DataW.LaidVars Tryd.prog W l ps → ps.Nodup → (∀ b off, MemPlace.cell b off ∈ ps → (∃ c t, W.heap[b]? = some (.cells c t (0, 0))) ∧ ∀ u v, W.cell? ⟨b, off, none⟩ = some (.iface u v) → Value.okWide Tryd.prog W .any 0 u v) →
    ∃ ea : List Addr, ea.length = gs.length ∧ (∀ (i g : Nat) (a : Addr), gs[i]? = some g → ea[i]? = some a → ErrAt W g a) ∧ ea.Nodup ∧ ∀ a ∈ ea, a.spot = none ∧ MemPlace.cell a.block a.off ∈ ps
  | [], gs, ps, hg, _, _, _, _, _ => by
    cases gs with
    | nil => exact ⟨[], rfl, fun i g a h => by simp at h, List.nodup_nil, fun a h => by cases h⟩
    | cons g r => simp at hg
  | (n, d) :: l, [], ps, hg, _, _, _, _, _ => by simp at hg
  | (n, d) :: l, g :: gs, ps, hg, ht, he, hv, hn, hr => by
    simp only [List.map_cons, List.cons.injEq] at hg
    simp only [List.all_cons, Bool.and_eq_true, beq_iff_eq] at ht he
    obtain ⟨g0, t0, cs, fuel, p, q, hg0, ht0, hv0, hd0, hq, rfl⟩ := hv
    obtain rfl := Option.some.inj (hg.1.symm.trans hg0)
    obtain rfl := Option.some.inj (ht.1.symm.trans ht0)
    obtain ⟨text, rfl⟩ := of_isErr he.1
    obtain ⟨l0⟩ := cs
    have hn' := hn
    rw [List.nodup_append] at hn
    obtain ⟨hn1, hn2, hn3⟩ := hn
    have hsz : ∀ i, i < l0.length → MemPlace.cell g i ∈ MemPlace.row ⟨g, 0, none⟩ (Array.mk l0).size ++ p ++ q := fun i hi => by
      refine List.mem_append_left _ (List.mem_append_left _ ?_)
      simp [MemPlace.row]
      exact hi
    have ok0 : ∀ u v, l0 = [.iface u v] → Value.okWide Tryd.prog W .any 0 u v := fun u v e => by
      subst e
      exact (hr g 0 (hsz 0 (by simp))).2 u v (by simpa using World.var?_cell hg.1 hv0 0)
    obtain ⟨a, s, rfl, hc, _, _, rfl⟩ := errorString_of_trod Tryd.underlying25 rowErr Tryd.underlying101 Tryd.underlying117 rfl rfl Tryd.underlying9 cellsES cellsStr hd0 ok0
    obtain ⟨ea, h1, h2, h3, h4⟩ := laid_errs l gs q hg.2 ht.2 he.2 hq hn2 (fun b off hm => hr b off (List.mem_append_right _ hm))
    have hspot : a.spot = none := by
      cases hs : a.spot with
      | none => rfl
      | some x =>
        unfold World.cell? at hc
        split at hc
        · simp [hs] at hc
        · cases hc
    have hmem : MemPlace.cell a.block a.off ∈ MemPlace.row ⟨g, 0, none⟩ (Array.mk [Value.iface 101 (.pointer (some a))]).size ++ MemPlace.row a 1 := List.mem_append_right _ (by simp [MemPlace.row])
    refine ⟨a :: ea, by simp [h1], ?_, ?_, ?_⟩
    · intro i g' a' hi ha
      cases i with
      | zero =>
        simp at hi ha
        subst hi ha
        refine ⟨?_, ?_⟩
        · unfold World.var? at hv0
          rw [hg.1] at hv0
          simp only [Option.bind_some] at hv0
          split at hv0
          · rename_i c ty k hh
            cases hv0
            exact ⟨ty, k, hh⟩
          · cases hv0
        · exact (hr a.block a.off (List.mem_append_left _ hmem)).1
      | succ i => exact h2 i g' a' (by simpa using hi) (by simpa using ha)
    · refine List.nodup_cons.2 ⟨fun hm => ?_, h3⟩
      exact hn3 _ hmem _ (h4 a hm).2 rfl
    · intro x hx
      rcases List.mem_cons.1 hx with e | e
      · subst e
        exact ⟨hspot, List.mem_append_left _ hmem⟩
      · exact ⟨(h4 x e).1, List.mem_append_right _ (h4 x e).2⟩

/-- The reasons by their numbers, 0 being none. -/
def errG : List Nat := [0, 1, 2, 3, 4, 5, 6, 7, 8]
structure Errs (w : World) (ea : List Addr) : Prop where
  len : ea.length = 9
  one : ∀ (i g : Nat) (a : Addr), errG[i]? = some g → ea[i]? = some a → ErrAt w g a
  nodup : ea.Nodup
  spot : ∀ a ∈ ea, a.spot = none
def errV (a : Addr) : Value := .iface 101 (.pointer (some a))
theorem errs_of_laid {W : World} {l : List (String × DataW Unit)} (h : laidMetH Tryd.prog l W) (h1 : (l.all fun x => x.2.handleName?.isNone) = true) (h2 : l.map (fun x => Tryd.prog.globalNamed x.1) = errG.map some) (h3 : (l.all fun x => isErr x.2) = true) : ∃ ea, Errs W ea := by
  rw [MakeChecks.laidMetH_plain _ _ _ h1] at h
  obtain ⟨ps, hv, hn, hr⟩ := h
  obtain ⟨ea, e1, e2, e3, e4⟩ := laid_errs l errG ps h2 (by kernel_rfl) h3 hv hn hr
  exact ⟨ea, e1, e2, e3, fun a ha => (e4 a ha).1⟩
theorem Errs.frm {w w' : World} {ea : List Addr} {S : Nat → Prop} (h : Errs w ea) (f : Frm S w w') (hg : ∀ g ∈ errG, ¬ S g) (ha : ∀ a ∈ ea, ¬ S a.block) : Errs w' ea := by
  refine ⟨h.len, fun i g a hi hj => ?_, h.nodup, h.spot⟩
  obtain ⟨⟨ty, k, e1⟩, ⟨c, t, e2⟩⟩ := h.one i g a hi hj
  exact ⟨⟨ty, k, f.at (hg g (List.mem_of_getElem? hi)) e1⟩, ⟨c, t, f.at (ha a (List.mem_of_getElem? hj)) e2⟩⟩
theorem Errs.frm0 {w w' : World} {ea : List Addr} (h : Errs w ea) (f : Frm0 w w') : Errs w' ea := h.frm f (fun _ _ h => h) (fun _ _ h => h)
end Go.Proofs.YtbicffldggcdhaaDoor
