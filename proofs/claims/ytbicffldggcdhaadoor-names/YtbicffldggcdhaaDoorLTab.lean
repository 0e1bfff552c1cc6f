/-
  The program's types as tables that reduce: what is under a type, its cells, its bytes, its zero.
-/
import Derived.Test.YtbicffldggcdhaaDoorProg
import Derived.Test.YtbicffldggcdhaaDoorLOp
namespace Go.Proofs.YtbicffldggcdhaaDoor
open Go
def zU : Nat → Option TypeDesc
  | 2 => some (.int .i64)
  | 3 => some (.int .i64)
  | 4 => some (.bool)
  | 5 => some (.int .u8)
  | 12 => some (.int .u64)
  | 20 => some (.interface #[])
  | 21 => some (.int .i32)
  | 22 => some (.slice 25)
  | 24 => some (.interface #[("Error", 102)])
  | 25 => some (.interface #[("Error", 102)])
  | 27 => some (.slice 34)
  | 28 => some (.pointer 53)
  | 30 => some (.pointer 43)
  | 33 => some (.struct #[⟨ "Kind", 3, 0, false, "", "", 0⟩, ⟨ "Node", 3, 1, false, "", "", 8⟩, ⟨ "Parent", 3, 2, false, "", "", 16⟩, ⟨ "Key", 3, 3, false, "", "", 24⟩, ⟨ "Prop", 3, 4, false, "", "", 32⟩, ⟨ "Value", 3, 5, false, "", "", 40⟩])
  | 34 => some (.struct #[⟨ "Kind", 3, 0, false, "", "", 0⟩, ⟨ "Node", 3, 1, false, "", "", 8⟩, ⟨ "Parent", 3, 2, false, "", "", 16⟩, ⟨ "Key", 3, 3, false, "", "", 24⟩, ⟨ "Prop", 3, 4, false, "", "", 32⟩, ⟨ "Value", 3, 5, false, "", "", 40⟩])
  | 36 => some (.slice 48)
  | 38 => some (.array 4 3)
  | 39 => some (.struct #[⟨ "ID", 3, 0, false, "", "", 0⟩, ⟨ "Parent", 3, 1, false, "", "", 8⟩, ⟨ "Key", 3, 2, false, "", "", 16⟩, ⟨ "Props", 38, 3, false, "", "", 24⟩])
  | 40 => some (.struct #[⟨ "ID", 3, 0, false, "", "", 0⟩, ⟨ "Parent", 3, 1, false, "", "", 8⟩, ⟨ "Key", 3, 2, false, "", "", 16⟩, ⟨ "Props", 38, 3, false, "", "", 24⟩])
  | 41 => some (.slice 40)
  | 42 => some (.struct #[⟨ "L", 41, 0, false, "", "", 0⟩])
  | 43 => some (.struct #[⟨ "L", 41, 0, false, "", "", 0⟩])
  | 47 => some (.struct #[⟨ "Node", 40, 0, false, "", "", 0⟩, ⟨ "Deep", 3, 7, false, "", "", 56⟩])
  | 48 => some (.struct #[⟨ "Node", 40, 0, false, "", "", 0⟩, ⟨ "Deep", 3, 7, false, "", "", 56⟩])
  | 51 => some (.map 3 40)
  | 52 => some (.struct #[⟨ "nodes", 51, 0, false, "", "orchard/tree", 0⟩])
  | 53 => some (.struct #[⟨ "nodes", 51, 0, false, "", "orchard/tree", 0⟩])
  | 54 => some (.pointer 56)
  | 55 => some (.struct #[⟨ "Edit", 34, 0, false, "", "", 0⟩, ⟨ "Err", 25, 6, false, "", "", 48⟩])
  | 56 => some (.struct #[⟨ "Edit", 34, 0, false, "", "", 0⟩, ⟨ "Err", 25, 6, false, "", "", 48⟩])
  | 65 => some (.func #[28, 34] #[25] false)
  | 66 => some (.array 5 65)
  | 68 => some (.map 3 41)
  | 69 => some (.map 3 41)
  | 77 => some (.int .u64)
  | 80 => some (.int .i64)
  | 88 => some (.int .u32)
  | 90 => some (.int .u64)
  | 91 => some (.slice 3)
  | 92 => some (.int .u64)
  | 96 => some (.pointer 3)
  | 98 => some (.pointer 92)
  | 101 => some (.pointer 117)
  | 111 => some (.pointer 5)
  | _ => none
def zS : Nat → Option Nat
  | 2 => some 1
  | 3 => some 1
  | 4 => some 1
  | 5 => some 1
  | 12 => some 1
  | 20 => some 1
  | 21 => some 1
  | 22 => some 1
  | 24 => some 1
  | 25 => some 1
  | 27 => some 1
  | 28 => some 1
  | 30 => some 1
  | 33 => some 6
  | 34 => some 6
  | 36 => some 1
  | 38 => some 4
  | 39 => some 7
  | 40 => some 7
  | 41 => some 1
  | 42 => some 1
  | 43 => some 1
  | 47 => some 8
  | 48 => some 8
  | 51 => some 1
  | 52 => some 1
  | 53 => some 1
  | 54 => some 1
  | 55 => some 7
  | 56 => some 7
  | 65 => some 1
  | 66 => some 5
  | 68 => some 1
  | 69 => some 1
  | 77 => some 1
  | 80 => some 1
  | 88 => some 1
  | 90 => some 1
  | 91 => some 1
  | 92 => some 1
  | 96 => some 1
  | 98 => some 1
  | 101 => some 1
  | 111 => some 1
  | _ => none
def zB : Nat → Option Nat
  | 2 => some 8
  | 3 => some 8
  | 4 => some 1
  | 5 => some 1
  | 12 => some 8
  | 20 => some 16
  | 21 => some 4
  | 22 => some 24
  | 24 => some 16
  | 25 => some 16
  | 27 => some 24
  | 28 => some 8
  | 30 => some 8
  | 33 => some 48
  | 34 => some 48
  | 36 => some 24
  | 38 => some 32
  | 39 => some 56
  | 40 => some 56
  | 41 => some 24
  | 42 => some 24
  | 43 => some 24
  | 47 => some 64
  | 48 => some 64
  | 51 => some 8
  | 52 => some 8
  | 53 => some 8
  | 54 => some 8
  | 55 => some 64
  | 56 => some 64
  | 65 => some 8
  | 66 => some 40
  | 68 => some 8
  | 69 => some 8
  | 77 => some 8
  | 80 => some 8
  | 88 => some 4
  | 90 => some 8
  | 91 => some 24
  | 92 => some 8
  | 96 => some 8
  | 98 => some 8
  | 101 => some 8
  | 111 => some 8
  | _ => none
def zZ : Nat → Option Value
  | 2 => some (.int .i64 0)
  | 3 => some (.int .i64 0)
  | 4 => some (.bool false)
  | 5 => some (.int .u8 0)
  | 12 => some (.int .u64 0)
  | 20 => some .nilIface
  | 21 => some (.int .i32 0)
  | 22 => some (.slice none 0 0)
  | 24 => some .nilIface
  | 25 => some .nilIface
  | 27 => some (.slice none 0 0)
  | 28 => some (.pointer none)
  | 30 => some (.pointer none)
  | 33 => some (.agg [(.int .i64 0), (.int .i64 0), (.int .i64 0), (.int .i64 0), (.int .i64 0), (.int .i64 0)].toArray)
  | 34 => some (.agg [(.int .i64 0), (.int .i64 0), (.int .i64 0), (.int .i64 0), (.int .i64 0), (.int .i64 0)].toArray)
  | 36 => some (.slice none 0 0)
  | 38 => some (.agg [(.int .i64 0), (.int .i64 0), (.int .i64 0), (.int .i64 0)].toArray)
  | 39 => some (.agg [(.int .i64 0), (.int .i64 0), (.int .i64 0), (.int .i64 0), (.int .i64 0), (.int .i64 0), (.int .i64 0)].toArray)
  | 40 => some (.agg [(.int .i64 0), (.int .i64 0), (.int .i64 0), (.int .i64 0), (.int .i64 0), (.int .i64 0), (.int .i64 0)].toArray)
  | 41 => some (.slice none 0 0)
  | 42 => some (.agg [(.slice none 0 0)].toArray)
  | 43 => some (.agg [(.slice none 0 0)].toArray)
  | 47 => some (.agg [(.int .i64 0), (.int .i64 0), (.int .i64 0), (.int .i64 0), (.int .i64 0), (.int .i64 0), (.int .i64 0), (.int .i64 0)].toArray)
  | 48 => some (.agg [(.int .i64 0), (.int .i64 0), (.int .i64 0), (.int .i64 0), (.int .i64 0), (.int .i64 0), (.int .i64 0), (.int .i64 0)].toArray)
  | 51 => some (.map none)
  | 52 => some (.agg [(.map none)].toArray)
  | 53 => some (.agg [(.map none)].toArray)
  | 54 => some (.pointer none)
  | 55 => some (.agg [(.int .i64 0), (.int .i64 0), (.int .i64 0), (.int .i64 0), (.int .i64 0), (.int .i64 0), .nilIface].toArray)
  | 56 => some (.agg [(.int .i64 0), (.int .i64 0), (.int .i64 0), (.int .i64 0), (.int .i64 0), (.int .i64 0), .nilIface].toArray)
  | 65 => some .nilFunc
  | 66 => some (.agg [.nilFunc, .nilFunc, .nilFunc, .nilFunc, .nilFunc].toArray)
  | 68 => some (.map none)
  | 69 => some (.map none)
  | 77 => some (.int .u64 0)
  | 80 => some (.int .i64 0)
  | 88 => some (.int .u32 0)
  | 90 => some (.int .u64 0)
  | 91 => some (.slice none 0 0)
  | 92 => some (.int .u64 0)
  | 96 => some (.pointer none)
  | 98 => some (.pointer none)
  | 101 => some (.pointer none)
  | 111 => some (.pointer none)
  | _ => none
def zFL : List (Nat × Nat × Nat) := [(33, 0, 0), (33, 1, 1), (33, 2, 2), (33, 3, 3), (33, 4, 4), (33, 5, 5), (34, 0, 0), (34, 1, 1), (34, 2, 2), (34, 3, 3), (34, 4, 4), (34, 5, 5), (39, 0, 0), (39, 1, 1), (39, 2, 2), (39, 3, 3), (40, 0, 0), (40, 1, 1), (40, 2, 2), (40, 3, 3), (42, 0, 0), (43, 0, 0), (47, 0, 0), (47, 1, 7), (48, 0, 0), (48, 1, 7), (52, 0, 0), (53, 0, 0), (55, 0, 0), (55, 1, 6), (56, 0, 0), (56, 1, 6)]
def zF1 : Nat → List (Nat × Nat)
  | 33 => [(0, 0), (1, 1), (2, 2), (3, 3), (4, 4), (5, 5)]
  | 34 => [(0, 0), (1, 1), (2, 2), (3, 3), (4, 4), (5, 5)]
  | 39 => [(0, 0), (1, 1), (2, 2), (3, 3)]
  | 40 => [(0, 0), (1, 1), (2, 2), (3, 3)]
  | 42 => [(0, 0)]
  | 43 => [(0, 0)]
  | 47 => [(0, 0), (1, 7)]
  | 48 => [(0, 0), (1, 7)]
  | 52 => [(0, 0)]
  | 53 => [(0, 0)]
  | 55 => [(0, 0), (1, 6)]
  | 56 => [(0, 0), (1, 6)]
  | _ => []
theorem zU_all : [2, 3, 4, 5, 12, 20, 21, 22, 24, 25, 27, 28, 30, 33, 34, 36, 38, 39, 40, 41, 42, 43, 47, 48, 51, 52, 53, 54, 55, 56, 65, 66, 68, 69, 77, 80, 88, 90, 91, 92, 96, 98, 101, 111].all (fun t => (Tryd.prog.info? t).isSome) = true := by kernel_rfl
theorem u_ok {t : Nat} {D : TypeDesc} (h : zU t = some D) : Tryd.prog.underlying t = some D := by
  unfold zU at h
  split at h <;> first | (cases h; done) | (rw [← h]; kernel_rfl)
theorem s_ok {t m : Nat} (h : zS t = some m) : szOf Tryd.prog t = some m := by
  unfold zS at h
  split at h <;> first | (cases h; done) | (rw [← h]; kernel_rfl)
theorem b_ok {t m : Nat} (h : zB t = some m) : byOf Tryd.prog t = some m := by
  unfold zB at h
  split at h <;> first | (cases h; done) | (rw [← h]; kernel_rfl)
theorem z_ok {t : Nat} {v : Value} (h : zZ t = some v) : zrOf Tryd.prog t = some v := by
  unfold zZ at h
  split at h <;> first | (cases h; done) | (rw [← h]; kernel_rfl)
def look : List (Nat × Nat) → Nat → Option Nat
  | [], _ => none
  | (a, c) :: r, f => bif Nat.beq a f then some c else look r f
def zF (s f : Nat) : Option Nat := look (zF1 s) f
def fieldB (P : Program) (s f k : Nat) : Bool :=
  match P.underlying s with
  | some (.struct fs) => match fs[f]? with
    | some fi => fi.offset == k && (match szOf P fi.type with | some (_ + 1) => true | _ => false)
    | none => false
  | _ => false
theorem field_of {P : Program} {s f k : Nat} (h : fieldB P s f k = true) : FieldAt P s f k := by
  unfold fieldB at h
  split at h
  · rename_i fs hu
    split at h
    · rename_i fi hf
      simp only [Bool.and_eq_true, beq_iff_eq] at h
      obtain ⟨ho, hz⟩ := h
      split at hz
      · rename_i m hm
        exact ⟨fs, fi, m, hu, hf, ho, hm⟩
      · cases hz
    · cases h
  · cases h
theorem look_mem : ∀ {l : List (Nat × Nat)} {f c : Nat}, look l f = some c → (f, c) ∈ l
  | [], _, _, h => by cases h
  | (a, x) :: r, f, c, h => by
    unfold look at h
    cases hb : Nat.beq a f with
    | true =>
      rw [hb] at h
      have := Nat.eq_of_beq_eq_true hb
      cases h
      subst this
      exact List.mem_cons_self
    | false =>
      rw [hb] at h
      exact List.mem_cons_of_mem _ (look_mem h)
def zFok (P : Program) (s : Nat) : Bool := (zF1 s).all fun x => fieldB P s x.1 x.2
theorem zF_all {s : Nat} : zFok Tryd.prog s = true := by
  by_cases h : s < 300
  · have hall : (List.range 300).all (zFok Tryd.prog) = true := by kernel_rfl
    exact List.all_eq_true.1 hall s (List.mem_range.2 h)
  · unfold zFok zF1
    split <;> first | omega | rfl
theorem fa_ok {s f k : Nat} (h : zF s f = some k) : FieldAt Tryd.prog s f k :=
  field_of (List.all_eq_true.1 zF_all (f, k) (look_mem h))
theorem mixed : Tryd.prog.follows .mixedOrders = true := by kernel_rfl
end Go.Proofs.YtbicffldggcdhaaDoor
