/-
  What a call leaves alone: blocks outside a set are as they were.
-/
import Derived.Test.YtbicffldggcdhaaDoorLTab
namespace Go.Proofs.YtbicffldggcdhaaDoor
open Go

structure Frm (S : Nat → Prop) (w w' : World) : Prop where
  size : w.heap.size ≤ w'.heap.size
  same : ∀ b o, At w b o → ¬ S b → At w' b o
  tape : w'.tape = w.tape
  os : w'.os = w.os
  output : w'.output = w.output
abbrev Frm0 (w w' : World) : Prop := Frm (fun _ => False) w w'
section
variable {S T : Nat → Prop} {w w1 w2 : World}
theorem Frm.refl (S : Nat → Prop) (w : World) : Frm S w w := ⟨Nat.le_refl _, fun _ _ h _ => h, rfl, rfl, rfl⟩
theorem Frm.trans (h : Frm S w w1) (k : Frm T w1 w2) (hs : ∀ b, T b → S b ∨ w.heap.size ≤ b) : Frm S w w2 :=
  ⟨Nat.le_trans h.size k.size, fun b o hb hn => k.same b o (h.same b o hb hn) (fun ht => by
    rcases hs b ht with h1 | h1
    · exact hn h1
    · have := at_lt hb; omega), k.tape.trans h.tape, k.os.trans h.os, k.output.trans h.output⟩
theorem Frm.trans0 (h : Frm S w w1) (k : Frm0 w1 w2) : Frm S w w2 := h.trans k (fun _ h => h.elim)
theorem Frm.mono (h : Frm S w w1) (hs : ∀ b, S b → T b ∨ w.heap.size ≤ b) : Frm T w w1 := (Frm.refl T w).trans h hs
theorem Frm.alloc (h : Frm S w w1) (o : Obj) : Frm S w (w1.alloc o) :=
  h.trans0 ⟨by simp, fun b x hb _ => at_alloc o hb, rfl, rfl, rfl⟩
theorem Frm.drew (h : Frm S w w1) : Frm S w w1.drew := ⟨h.size, h.same, h.tape, h.os, h.output⟩
theorem Frm.drew0 (h : Frm S w.drew w1) : Frm S w w1 := ⟨h.size, h.same, h.tape, h.os, h.output⟩
theorem Frm.setB (h : Frm S w w1) {b : Nat} (hb : S b ∨ w.heap.size ≤ b) (o : Obj) : Frm S w (setB w1 b o) :=
  h.trans (T := fun x => x = b) ⟨by rw [size_setB]; exact Nat.le_refl _, fun c x hc hne => at_setB_ne o (fun e => hne e.symm) hc, rfl, rfl, rfl⟩ (fun _ e => e ▸ hb)
theorem Frm.at0 (h : Frm0 w w1) {b : Nat} {o : Obj} (hb : At w b o) : At w1 b o := h.same b o hb id
theorem Frm.at (h : Frm S w w1) {b : Nat} {o : Obj} (hn : ¬ S b) (hb : At w b o) : At w1 b o := h.same b o hb hn
theorem Frm.of_alloc (w : World) (o : Obj) : Frm S w (w.alloc o) := (Frm.refl S w).alloc o
theorem Frm.of_drew (w : World) : Frm S w w.drew := (Frm.refl S w).drew
end
end Go.Proofs.YtbicffldggcdhaaDoor
