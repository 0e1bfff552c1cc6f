/-
  A region in which two operations that do something may come up in either order.
-/
import Derived.Test.YtbicffldggcdhaaDoorLOp
namespace Go.Proofs.YtbicffldggcdhaaDoor
open Go

section
variable {P : Program} {ops : Array Oper} {Q : Exit → Act → World → Prop} {S : World → Prop} {R : Option Nat}
def chkT1 (ops : Array Oper) (fuel i j : Nat) (r1 r2 : List (Nat × Bool)) : List Nat → Array Bool → Bool
  | [], listed => Region.ready .any ops listed == [i, j] && chk1 ops [] fuel r1 (listed.setIfInBounds i true) && chk1 ops [] fuel r2 (listed.setIfInBounds j true)
  | q :: r, listed => (Region.ready .any ops listed).contains q && Region.free .any ops listed q && chkT1 ops fuel i j r1 r2 r (listed.setIfInBounds q true)
def chkT (ops : Array Oper) (ord : List Nat) (i j : Nat) (r1 r2 : List (Nat × Bool)) : Bool :=
  Region.noSelect ops && ord.length + 1 + r1.length == ops.size && r1.length == r2.length && chkT1 ops ops.size i j r1 r2 ord (Array.replicate ops.size false)

theorem wpE_two {fuel i j : Nat} {r1 r2 : List (Nat × Bool)} (hsel : Region.noSelect ops = true) (hl : r1.length = r2.length) : ∀ (l : List Nat) (listed : Array Bool) (a : Act) (w : World), Shut ops listed → S w → chkT1 ops fuel i j r1 r2 l listed = true →
    wpX P ops S (fun e a w => e = .normal ∧ wpX P ops S Q [] ((i, true) :: r1) a w ∧ wpX P ops S Q [] ((j, true) :: r2) a w) [] (l.map fun q => (q, false)) a w → wpE P ops Q S (fun i => !([] : List Nat).contains i) (l.length + (r1.length + 1)) listed a w
  | [], listed, a, w, hsh, hS, hc, h => by
    simp only [chkT1, Bool.and_eq_true, beq_iff_eq] at hc
    obtain ⟨⟨hr, h1⟩, h2⟩ := hc
    obtain ⟨_, k1, k2⟩ := h
    simp only [List.length_nil, Nat.zero_add]
    refine ⟨fun h0 => (by rw [hr] at h0; cases h0), fun q hq => ?_⟩
    have hq' := hq
    rw [hr] at hq
    simp only [List.mem_cons, List.not_mem_nil, or_false] at hq
    rcases hq with rfl | rfl
    · refine wpo_mono (fun a' w' h' => ⟨fun _ => h'.1, ?_⟩) k1
      have := wpE_ord (P := P) (Q := Q) (late := []) hsel r1 _ a' w' (hsh.step hq') h'.1 h1 h'.2
      simpa using this
    · refine wpo_mono (fun a' w' h' => ⟨fun _ => h'.1, ?_⟩) k2
      have := wpE_ord (P := P) (Q := Q) (late := []) hsel r2 _ a' w' (hsh.step hq') h'.1 h2 h'.2
      rw [hl]
      simpa using this
  | q :: l, listed, a, w, hsh, hS, hc, h => by
    simp only [chkT1, Bool.and_eq_true] at hc
    obtain ⟨⟨hr, hf⟩, hc'⟩ := hc
    obtain ⟨o, v, ho, hy, hk⟩ := h
    have hr' : q ∈ Region.ready .any ops listed := by simpa using hr
    rw [List.length_cons, show l.length + 1 + (r1.length + 1) = (l.length + (r1.length + 1)) + 1 by omega]
    exact wpE_first ho (Region.noSelect_spec hsel) (fun j hj => (by simp at hj)) _ listed a w hsh (Region.free_spec ho hf) hr' hy hS (wpE_two hsel hl l _ _ w (hsh.step hr') hS hc' hk)

theorem w_two {id : Nat} {l : List Oper} {a : Act} {w : World} (ord : List Nat) (i j : Nat) (r1 r2 : List (Nat × Bool)) (S : World → Prop) (hm : P.follows .mixedOrders = true) (hc : chkT l.toArray ord i j r1 r2 = true)
    (hS : S w.drew) (h : WpX P l.toArray S (fun e a w => e = .normal ∧ WpX P l.toArray S Q [] ((i, true) :: r1) a w ∧ WpX P l.toArray S Q [] ((j, true) :: r2) a w) [] (ord.map fun q => (q, false)) a w.drew) : (Code.region id l.toArray true).wpIn (fen R) 0 P Q a w := by
  simp only [chkT, Bool.and_eq_true, beq_iff_eq] at hc
  obtain ⟨⟨⟨hs, hz⟩, hl⟩, hc⟩ := hc
  refine wpIn_region_any hm (wpAny_of_wpE (S := S) (early := fun i => !([] : List Nat).contains i) _ _ _ _ ?_)
  rw [← hz, show ord.length + 1 + r1.length = ord.length + (r1.length + 1) by omega]
  refine wpE_two (i := i) (j := j) (r2 := r2) hs hl ord _ a _ (fun j o ho hl => ?_) hS (by rw [show ord.length + (r1.length + 1) = l.toArray.size by omega]; exact hc) ?_
  · simp only [Array.getD_eq_getD_getElem?, Array.getElem?_replicate] at hl
    split at hl <;> simp at hl
  · have hx := h.out
    have mono : ∀ (o : List (Nat × Bool)) (a : Act) (w : World), wpX P l.toArray S (fun e a w => e = .normal ∧ WpX P l.toArray S Q [] ((i, true) :: r1) a w ∧ WpX P l.toArray S Q [] ((j, true) :: r2) a w) [] o a w → wpX P l.toArray S (fun e a w => e = .normal ∧ wpX P l.toArray S Q [] ((i, true) :: r1) a w ∧ wpX P l.toArray S Q [] ((j, true) :: r2) a w) [] o a w := by
      intro o
      induction o with
      | nil => intro a w h; exact ⟨h.1, h.2.1.out, h.2.2.out⟩
      | cons q o ih =>
        intro a w h
        obtain ⟨q, fl⟩ := q
        cases fl with
        | false =>
          obtain ⟨o', v, h1, h2, h3⟩ := h
          exact ⟨o', v, h1, h2, ih _ _ h3⟩
        | true => exact wpo_mono (fun a' w' h' => ⟨h'.1, ih _ _ h'.2⟩) h
    exact mono _ _ _ hx
end
end Go.Proofs.YtbicffldggcdhaaDoor
