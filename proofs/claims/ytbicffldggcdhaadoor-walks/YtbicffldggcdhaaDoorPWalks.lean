/-
  Walks holds: called with any edits and numbers, at any time at which the six reasons hold what the program's text lays, it returns true, and the edits read as they did; the tied card of orchardlaw.Walks.
-/
import Derived.Test.YtbicffldggcdhaaDoorWWalks
import Derived.Test.YtbicffldggcdhaaDoorLScr2
import Derived.Test.YtbicffldggcdhaaDoorCards
import Derived.Test.YtbicffldggcdhaaDoorTie
import Derived.Stop.Joined
import Derived.Carry
namespace Go.Proofs.YtbicffldggcdhaaDoor
open Go Go.ChangeShapes Go.WideShapes Go.ChangeAt Go.WideMaps Go.WideElems Go.RowKit

theorem ownT : ownKnob Tryd.prog.godebug = none := by kernel_rfl
theorem laidOutT : laidOutB Tryd.prog = true := by kernel_rfl
theorem Frm.below {w w' : World} (h : Frm0 w w') : Below w.heap.size w w' :=
  ⟨h.os, h.tape, h.output, h.size, fun k hk => by
    have : w.heap[k]? = some w.heap[k] := Array.getElem?_eq_getElem hk
    rw [this]
    exact h.at0 this⟩

theorem err6_of_laid {W : World} {l : List (String × DataW Unit)} (h : laidMetH Tryd.prog l W) (h1 : (l.all fun x => x.2.handleName?.isNone) = true) (h2 : l.map (fun x => Tryd.prog.globalNamed x.1) = (errG.take 6).map some) (h3 : (l.all fun x => isErr x.2) = true) : ∃ ea, Err6 W ea := by
  rw [MakeChecks.laidMetH_plain _ _ _ h1] at h
  obtain ⟨ps, hv, hn, hr⟩ := h
  obtain ⟨ea, e1, e2, _, _⟩ := laid_errs l (errG.take 6) ps h2 (by kernel_rfl) h3 hv hn hr
  refine ⟨ea, ⟨fun i g hi hg => ?_⟩⟩
  have hl : i < ea.length := by rw [e1]; exact hi
  have hg6 : (errG.take 6)[i]? = some g := by rw [List.getElem?_take_of_lt hi]; exact hg
  obtain ⟨⟨ty, k, hA⟩, _⟩ := e2 i g ea[i] hg6 (List.getElem?_eq_getElem hl)
  exact ⟨ea[i], ty, k, List.getElem?_eq_getElem hl, hA⟩
theorem door_metT (os : Os) (args : Array Value) : laidMetH Tryd.prog Rows.walksRow.laid ((World.doorLaid Tryd.prog 400 os).forCall (fun _ _ => 0) ⟨#[], args, []⟩).memory :=
  laidMetH_of_parts3 (fuel := 8) (laidMet_of_run' 8 (by kernel_rfl) (by kernel_rfl)) (by kernel_rfl) (by kernel_rfl)

set_option maxRecDepth 100000 in
theorem walks_lifted (os : Os) (started : os.Started) (H : Type) (enc : TypeId × Value → H) :
    ReturnsInHanded {} Tryd.checked os 4 .any (fun w args => (Rows.walksSpec.pre enc Tryd.prog Tryd.f4 [] false w args ∧ laidMetH Tryd.prog Rows.walksRow.laid w) ∧ sizedMet enc Tryd.prog Tryd.f4 (OpenSpec.ofChange Rows.walksSpec) false w args)
      (Rows.walksSpec.post enc Tryd.prog Tryd.f4 false true false false) := by
  refine returnsInHanded_of_change_and (C := Tryd.checked) (X := fun w _ => laidMetH Tryd.prog Rows.walksRow.laid w) (fun _ _ _ hh h => h.of_heap hh) ownT started (by kernel_rfl) Tryd.func4
    (ChangeSpec.witness_shaped (enc := enc) (C := Tryd.checked) (os := os) (X := fun w _ => laidMetH Tryd.prog Rows.walksRow.laid w) false (World.doorLaid Tryd.prog 400 os) #[.slice none 0 0, .slice none 0 0, .int .i64 0, .int .i64 0] 8 rfl (World.shaped_of_RefB (by kernel_rfl) (by kernel_rfl)) (by kernel_rfl) (by kernel_rfl) (by kernel_rfl) (door_metT os _)) ?_
  intro W base args ds gs before hval0 hW _ hsz hL _
  have hval : ∀ (j : Nat) t v, Tryd.f4.params[j]? = some t → args[j]? = some v → Value.okWide Tryd.prog W .any base t v := hval0
  have hW' := hW
  obtain ⟨p, q, hA0, hV, rfl, hfz, hnd⟩ := hW
  have hA : DataW.TrodAll enc Tryd.prog W 0 (fun _ => true) true Tryd.f4.params.toList args.toList ds p := hA0
  rw [Tryd.params4] at hA hval
  obtain ⟨v0, v1, v2, v3, d0, d1, d2, d3, p0, p1, p2, p3, rfl, rfl, rfl, h0, h1, h2, h3⟩ := trodAll_four hA
  obtain ⟨rfl, rfl⟩ := trodVars_none hV
  have hs0 := okWide_slice (Tryd.underlying27) (hval 0 27 v0 rfl rfl)
  have hs1 := okWide_slice (Tryd.underlying27) (hval 1 27 v1 rfl rfl)
  obtain ⟨z2, rfl, rfl, rfl, hz2⟩ := open_int Tryd.underlying3 (hval 2 3 v2 rfl rfl) h2
  obtain ⟨z3, rfl, rfl, rfl, hz3⟩ := open_int Tryd.underlying3 (hval 3 3 v3 rfl rfl) h3
  obtain ⟨ea, hE⟩ := err6_of_laid hL (by kernel_rfl) (by kernel_rfl) (by kernel_rfl)
  clear hA0 hval0
  simp only [List.append_nil] at hW' hsz
  have hlt : ∀ x ∈ p0 ++ p1, x.block < W.heap.size := fun x hx => by simpa using hW'.lt x hx
  obtain ⟨us, hU, hul⟩ := open_edits h0 hs0 (fun elems spare hd => sized_slice (j := 0) (t := 27) hsz (by rw [Tryd.params4]; rfl) (by rw [hd]; rfl) (Tryd.underlying27))
  obtain ⟨ms, hM, hml⟩ := open_edits h1 hs1 (fun elems spare hd => sized_slice (j := 1) (t := 27) hsz (by rw [Tryd.params4]; rfl) (by rw [hd]; rfl) (Tryd.underlying27))
  refine (Walks_ret hU hM hul hml (wf64 hz2) (wf64 hz3) hE).2.mono ?_
  rintro e W' ⟨v, rfl, rfl, hf⟩
  refine ⟨_, rfl, [d0, d1, .lit (.int .i64 z2), .lit (.int .i64 z3)], [], p0 ++ p1, [], p0 ++ p1, [], hW', ?_, ?_, ?_, (Frm.below hf).frame _, fun h => by cases h⟩
  · exact trodAll_mk1 (shut_bool Tryd.underlying4 _)
  · rw [Tryd.params4]
    have q0 := Below.trod laidOutT (by kernel_rfl) (of_decide_eq_true (by kernel_rfl)) h0 (Frm.below hf) (fun x hx => hlt x (List.mem_append_left _ hx))
    have q1 := Below.trod laidOutT (by kernel_rfl) (of_decide_eq_true (by kernel_rfl)) h1 (Frm.below hf) (fun x hx => hlt x (List.mem_append_right _ hx))
    have q := trodAll_mk4 q0 q1 (shut_int (n := z2) Tryd.underlying3 hz2) (shut_int (n := z3) Tryd.underlying3 hz3)
    simp only [List.append_nil] at q
    exact q
  · rfl

theorem walks_said : Rows.WalksSaid :=
  OpenClaim.holds_of_wide 4 Tryd.f4 rfl rfl rfl rfl rfl rfl rfl ⟨rfl, rfl, rfl, rfl, rfl⟩ rfl rfl rfl rfl rfl (by kernel_rfl) Tryd.func4 (by kernel_rfl)
    (of_decide_eq_true (by kernel_rfl)) (by unfold Func.isWrapper; first | (rw [if_pos (by decide +kernel)]; kernel_rfl) | (rw [if_neg (by decide +kernel)]; exact ⟨rfl, rfl⟩))
    (fun os started H enc _ => walks_lifted os started H enc)

theorem walks_holds : Rows.WalksCardSaid :=
  Claim7.holds_tied_plain_at .later [] Rows.walksCard.laidKinds true Rows.walksCard.stood.harness true
    walks_said (fun _ h => by cases h) (by kernel_rfl) (fun _ h => by cases h) walks_row_tie rfl ⟨rfl, rfl⟩ (by kernel_rfl) rfl
    (fun f fn hf hfn => by
      obtain rfl : f = 4 := Option.some.inj ((show Tryd.prog.funcNamed Rows.walksRow.func = some 4 by kernel_rfl).symm.trans hf) |>.symm
      obtain rfl : fn = Tryd.f4 := (Option.some.inj (Tryd.func4.symm.trans hfn)).symm
      exact ⟨by kernel_rfl, fun j t ht => by
        rw [Tryd.params4] at ht
        have hm : t ∈ [27, 27, 3, 3] := by simpa using Array.mem_of_getElem? ht
        have hall : ([27, 27, 3, 3].all fun u => !Tryd.prog.wantsStandIn u) = true := by kernel_rfl
        exact (show Tryd.prog.wantsStandIn t = false by simpa using List.all_eq_true.1 hall t hm)⟩)
    (by kernel_rfl)
#print axioms walks_holds
end Go.Proofs.YtbicffldggcdhaaDoor
