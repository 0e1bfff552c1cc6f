/-
  Ordered holds: called with any numbers and any events, at any time at which the nine reasons hold what the program's text lays, it returns true, and the events read as they did; the tied card of orchardkeep.Ordered.
-/
import Derived.Test.YtbicffldggcdhaaGreatDoorB04
import Derived.Test.YtbicffldggcdhaaGreatDoorB08
import Derived.Test.YtbicffldggcdhaaGreatDoorB13
import Derived.Test.YtbicffldggcdhaaGreatDoorCards
import Derived.Test.YtbicffldggcdhaaGreatDoorTie
import Derived.Stop.Joined
import Derived.Carry

namespace Go.Proofs.YtbicffldggcdhaaGreatDoor
open Go Go.ChangeShapes Go.WideShapes Go.ChangeAt Go.WideMaps Go.WideElems Go.RowKit

theorem ownT : ownKnob Tryz.prog.godebug = none := by kernel_rfl
theorem laidOutT : laidOutB Tryz.prog = true := by kernel_rfl
theorem Frm.below {w w' : World} (h : Frm0 w w') : Below w.heap.size w w' :=
  ⟨h.os, h.tape, h.output, h.size, fun k hk => by
    have : w.heap[k]? = some w.heap[k] := Array.getElem?_eq_getElem hk
    rw [this]
    exact h.at0 this⟩

theorem door_metT (os : Os) (args : Array Value) : laidMetH Tryz.prog Rows.orderedRow.laid ((World.doorLaid Tryz.prog 400 os).forCall (fun _ _ => 0) ⟨#[], args, []⟩).memory :=
  laidMetH_of_parts3 (fuel := 8) (laidMet_of_run' 8 (by kernel_rfl) (by kernel_rfl)) (by kernel_rfl) (by kernel_rfl)

set_option maxRecDepth 100000 in
theorem ordered_lifted (os : Os) (started : os.Started) (H : Type) (enc : TypeId × Value → H) :
    ReturnsInHanded {} Tryz.checked os 8 .any (fun w args => (Rows.orderedSpec.pre enc Tryz.prog Tryz.f8 [] false w args ∧ laidMetH Tryz.prog Rows.orderedRow.laid w) ∧ sizedMet enc Tryz.prog Tryz.f8 (OpenSpec.ofChange Rows.orderedSpec) false w args)
      (Rows.orderedSpec.post enc Tryz.prog Tryz.f8 false true false false) := by
  refine returnsInHanded_of_change_and (C := Tryz.checked) (X := fun w _ => laidMetH Tryz.prog Rows.orderedRow.laid w) (fun _ _ _ hh h => h.of_heap hh) ownT started (by kernel_rfl) Tryz.func8
    (ChangeSpec.witness_shaped (enc := enc) (C := Tryz.checked) (os := os) (X := fun w _ => laidMetH Tryz.prog Rows.orderedRow.laid w) false (World.doorLaid Tryz.prog 400 os) #[.int .i64 0, .int .i64 0, .slice none 0 0] 8 rfl (World.shaped_of_RefB (by kernel_rfl) (by kernel_rfl)) (by kernel_rfl) (by kernel_rfl) (by kernel_rfl) (door_metT os _)) ?_
  intro W base args ds gs before hval0 hW _ hsz hL _
  have hval : ∀ (j : Nat) t v, Tryz.f8.params[j]? = some t → args[j]? = some v → Value.okWide Tryz.prog W .any base t v := hval0
  have hW' := hW
  obtain ⟨p, q, hA0, hV, rfl, hfz, hnd⟩ := hW
  have hA : DataW.TrodAll enc Tryz.prog W 0 (fun _ => true) true Tryz.f8.params.toList args.toList ds p := hA0
  rw [Tryz.params8] at hA hval
  obtain ⟨v0, v1, v2, d0, d1, d2, p0, p1, p2, rfl, rfl, rfl, h0, h1, h2⟩ := trodAll_three hA
  obtain ⟨rfl, rfl⟩ := trodVars_none hV
  have hs2 := okWide_slice (Tryz.underlying40) (hval 2 40 v2 rfl rfl)
  obtain ⟨z0, rfl, rfl, rfl, hz0⟩ := open_int Tryz.underlying3 (hval 0 3 v0 rfl rfl) h0
  obtain ⟨z1, rfl, rfl, rfl, hz1⟩ := open_int Tryz.underlying3 (hval 1 3 v1 rfl rfl) h1
  obtain ⟨ea, hE⟩ := errs_of_laid hL (by kernel_rfl) (by kernel_rfl) (by kernel_rfl)
  clear hA0 hval0
  simp only [List.append_nil, List.nil_append] at hW' hsz
  have hlt : ∀ x ∈ p2, x.block < W.heap.size := fun x hx => by simpa using hW'.lt x hx
  obtain ⟨us, hU, hul, hR⟩ := open_events h2 hs2 (fun elems spare hd => sized_slice (j := 2) (t := 40) hsz (by rw [Tryz.params8]; rfl) (by rw [hd]; rfl) (Tryz.underlying40))
  refine (Ordered_ret treeSpec cloneSpec (wf64 hz0) (wf64 hz1) hU hR hul hE).2.mono ?_
  rintro e W' ⟨v, rfl, rfl, hf⟩
  refine ⟨_, rfl, [.lit (.int .i64 z0), .lit (.int .i64 z1), d2], [], p2, [], p2, [], hW', ?_, ?_, ?_, (Frm.below hf).frame _, fun h => by cases h⟩
  · exact trodAll_mk1 (shut_bool Tryz.underlying4 _)
  · rw [Tryz.params8]
    have q2 := Below.trod laidOutT (by kernel_rfl) (of_decide_eq_true (by kernel_rfl)) h2 (Frm.below hf) hlt
    have q := trodAll_mk3 (shut_int (n := z0) Tryz.underlying3 hz0) (shut_int (n := z1) Tryz.underlying3 hz1) q2
    simp only [List.nil_append] at q
    exact q
  · rfl

theorem ordered_said : Rows.OrderedSaid :=
  OpenClaim.holds_of_wide 8 Tryz.f8 rfl rfl rfl rfl rfl rfl rfl ⟨rfl, rfl, rfl, rfl, rfl⟩ rfl rfl rfl rfl rfl (by kernel_rfl) Tryz.func8 (by kernel_rfl)
    (of_decide_eq_true (by kernel_rfl)) (by unfold Func.isWrapper; first | (rw [if_pos (by decide +kernel)]; kernel_rfl) | (rw [if_neg (by decide +kernel)]; exact ⟨rfl, rfl⟩))
    (fun os started H enc _ => ordered_lifted os started H enc)

theorem ordered_holds : Rows.OrderedCardSaid :=
  Claim7.holds_tied_plain_at .later [] Rows.orderedCard.laidKinds true Rows.orderedCard.stood.harness true
    ordered_said (fun _ h => by cases h) (by kernel_rfl) (fun _ h => by cases h) ordered_row_tie rfl ⟨rfl, rfl⟩ (by kernel_rfl) rfl
    (fun f fn hf hfn => by
      obtain rfl : f = 8 := Option.some.inj ((show Tryz.prog.funcNamed Rows.orderedRow.func = some 8 by kernel_rfl).symm.trans hf) |>.symm
      obtain rfl : fn = Tryz.f8 := (Option.some.inj (Tryz.func8.symm.trans hfn)).symm
      exact ⟨by kernel_rfl, fun j t ht => by
        rw [Tryz.params8] at ht
        have hm : t ∈ [3, 3, 40] := by simpa using Array.mem_of_getElem? ht
        have hall : ([3, 3, 40].all fun u => !Tryz.prog.wantsStandIn u) = true := by kernel_rfl
        exact (show Tryz.prog.wantsStandIn t = false by simpa using List.all_eq_true.1 hall t hm)⟩)
    (by kernel_rfl)
#print axioms ordered_holds
end Go.Proofs.YtbicffldggcdhaaGreatDoor
