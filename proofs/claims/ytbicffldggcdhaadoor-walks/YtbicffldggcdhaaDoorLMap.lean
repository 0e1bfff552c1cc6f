/-
  Maps whose keys are numbers and whose values are nodes: their entries as a list of nodes, and what the operations on maps do with it.
-/
import Derived.Test.YtbicffldggcdhaaDoorLTree3
import Derived.Test.YtbicffldggcdhaaDoorWRef6
import Derived.MapKept
namespace Go.Proofs.YtbicffldggcdhaaDoor
open Go

abbrev NdV (x : Nd) : Value := .agg x.vals.toArray
def ndEnt (x : Nd) : Value × Value := (I x.id, NdV x)
def entOf (e : MapEntry) : Value × Value := (e.key, e.val)
structure Ents (es : Array MapEntry) (cl : Nat) (m : List Nd) : Prop where
  ents : es.toList.map entOf = m.map ndEnt
  born : (es.toList.map (·.born)).Nodup
  low : ∀ e ∈ es.toList, e.born < cl
theorem Ents.size {es : Array MapEntry} {cl : Nat} {m : List Nd} (h : Ents es cl m) : es.size = m.length := by
  have := congrArg List.length h.ents
  simpa using this
theorem Ents.get {es : Array MapEntry} {cl : Nat} {m : List Nd} (h : Ents es cl m) {j : Nat} {x : Nd} (hx : m[j]? = some x) : ∃ e, es.toList[j]? = some e ∧ e.key = I x.id ∧ e.val = NdV x := by
  have h1 := congrArg (fun l => l[j]?) h.ents
  simp only [List.getElem?_map, hx, Option.map_some] at h1
  cases he : es.toList[j]? with
  | none => rw [he] at h1; cases h1
  | some e =>
    rw [he] at h1
    simp only [Option.map_some, Option.some.injEq, entOf, ndEnt, Prod.mk.injEq] at h1
    exact ⟨e, rfl, h1.1, h1.2⟩
theorem Ents.mem {es : Array MapEntry} {cl : Nat} {m : List Nd} (h : Ents es cl m) {e : MapEntry} (he : e ∈ es.toList) : ∃ x ∈ m, e.key = I x.id ∧ e.val = NdV x := by
  have h1 : entOf e ∈ m.map ndEnt := by rw [← h.ents]; exact List.mem_map_of_mem he
  obtain ⟨x, hx, hxe⟩ := List.mem_map.1 h1
  simp only [entOf, ndEnt, Prod.mk.injEq] at hxe
  exact ⟨x, hx, hxe.1.symm, hxe.2.symm⟩
theorem ents_nil : Ents #[] 0 [] := ⟨rfl, by simp, by simp⟩

theorem find_nd (id : Int) : ∀ (m : List Nd) (es : List MapEntry) (i : Nat), es.map entOf = m.map ndEnt →
    Instr.findNow (.int .i64) (I id) es i = some ((at_ id m).bind fun j => (m[j]?).map fun x => (i + j, NdV x))
  | [], [], i, _ => rfl
  | [], e :: es, i, h => by simp at h
  | x :: m, [], i, h => by simp at h
  | x :: m, e :: es, i, h => by
    simp only [List.map_cons, List.cons.injEq, entOf, ndEnt, Prod.mk.injEq] at h
    obtain ⟨⟨hk, hv⟩, hr⟩ := h
    unfold Instr.findNow at_
    rw [hk]
    by_cases hx : x.id = id
    · subst hx
      simp [Instr.sameNow, hv]
    · have hx' : ¬ id = x.id := fun e => hx e.symm
      simp only [Instr.sameNow, if_true, if_neg hx, beq_eq_false_iff_ne.2 hx']
      rw [find_nd id m es (i + 1) hr]
      cases at_ id m with
      | none => rfl
      | some j => simp only [Option.bind_some, Option.map_some, List.getElem?_cons_succ]; rw [show i + 1 + j = i + (j + 1) by omega]
theorem isK {id : Int} : MapKept.IsKey (.int .i64) (I id) := by simp [MapKept.IsKey]
theorem isKey_nd {es : Array MapEntry} {cl : Nat} {m : List Nd} (h : Ents es cl m) : ∀ x ∈ es.toList, MapKept.IsKey (.int .i64) x.key := fun e he => by
  obtain ⟨x, _, hk, _⟩ := h.mem he
  rw [hk]
  exact isK

theorem eraseIdx_mapL {α β : Type} (f : α → β) : ∀ (l : List α) (j : Nat), (l.eraseIdx j).map f = (l.map f).eraseIdx j
  | [], _ => rfl
  | _ :: _, 0 => rfl
  | x :: l, j + 1 => by simp [eraseIdx_mapL f l j]
def ndOr (m : List Nd) (id : Int) : Nd := (fnd id m).getD ⟨0, 0, 0, 0, 0, 0, 0⟩
section
variable {P : Program} {w : World} {ty kt et b : Nat} {id : Int} {es : Array MapEntry} {cl : Nat} {m : List Nd}
theorem find_run (hk : P.underlying kt = some (.int .i64)) (hE : Ents es cl m) : (Instr.findKey kt (I id) es.toList).run P w = .ok ((at_ id m).bind fun j => (m[j]?).map fun x => (j, NdV x)) w := by
  have h1 := find_nd id m es.toList 0 hE.ents
  simp only [Nat.zero_add] at h1
  exact MapKept.run_findKey hk h1
theorem look_run (hu : P.underlying ty = some (.map kt et)) (hk : P.underlying kt = some (.int .i64)) (hz : zrOf P et = some (NdV ⟨0, 0, 0, 0, 0, 0, 0⟩)) (hb : At w b (.map es cl)) (hE : Ents es cl m) (ok : Bool) :
    (Instr.lookup ty (.map (some b)) (I id) ok).run P w = .ok (if ok then .tuple [NdV (ndOr m id), .bool (there m id)].toArray else NdV (ndOr m id)) w := by
  have hf := find_run (w := w) (id := id) hk hE
  have hc : ∀ e, (Instr.checkKey e 10000 kt (I id)).run P w = .ok () w := fun e => MapKept.run_checkKey (k := I id) hk isK e 9999
  simp only [Instr.lookup, Sem.run_bind, run_underlying hu, MapKept.run_getObj_map hb, Result.andThen_ok, Sem.run_pure, hc, hf]
  unfold ndOr there
  rw [fnd_at]
  cases ha : at_ id m with
  | none => simp [run_zero hz]
  | some j =>
    obtain ⟨x, hx, _⟩ := at_some ha
    simp [hx]
def putM (x : Nd) (m : List Nd) : List Nd := if there m x.id then upAt x.id (fun _ => x) m else m ++ [x]
theorem upd_run {x : Nd} (hu : P.underlying ty = some (.map kt et)) (hk : P.underlying kt = some (.int .i64)) (hb : At w b (.map es cl)) (hE : Ents es cl m) (hn : (m.map (·.id)).Nodup) (hx : x.id = id) :
    ∃ es' cl', (Instr.mapUpdate ty (.map (some b)) (I id) (NdV x)).run P w = .ok () (setB w b (.map es' cl')) ∧ Ents es' cl' (putM x m) := by
  subst hx
  have hf := find_run (w := w) (id := x.id) hk hE
  have hc : ∀ e, (Instr.checkKey e 10000 kt (I x.id)).run P w = .ok () w := fun e => MapKept.run_checkKey (k := I x.id) hk isK e 9999
  cases ha : at_ x.id m with
  | none =>
    rw [ha] at hf
    refine ⟨es.push ⟨I x.id, NdV x, cl⟩, cl + 1, ?_, ?_⟩
    · simp [Instr.mapUpdate, run_underlying hu, MapKept.run_getObj_map hb, hc, hf, MapKept.run_setObj_map _ hb, setB]
    · have hp : putM x m = m ++ [x] := by simp [putM, there, ha]
      rw [hp]
      refine ⟨?_, ?_, ?_⟩
      · simp [hE.ents, entOf, ndEnt]
      · simp only [Array.toList_push, List.map_append, List.map_cons, List.map_nil]
        refine List.nodup_append.2 ⟨hE.born, by simp, ?_⟩
        intro a h1 c h2
        obtain ⟨e, he, rfl⟩ := List.mem_map.1 h1
        have := hE.low e he
        simp at h2
        omega
      · intro e he
        simp only [Array.toList_push, List.mem_append, List.mem_singleton] at he
        rcases he with he | rfl
        · have := hE.low e he; omega
        · exact Nat.lt_succ_self _
  | some j =>
    obtain ⟨y, hy, hyi, _⟩ := at_some ha
    rw [ha] at hf
    simp only [Option.bind_some, hy, Option.map_some] at hf
    obtain ⟨e, he, hek, hev⟩ := hE.get hy
    have he' : es[j]? = some e := by simpa using he
    refine ⟨es.modify j fun e => { e with key := I x.id, val := NdV x }, cl, ?_, ?_⟩
    · have hks : (Instr.keyThatStays (I x.id) (I x.id)).run P w = .ok (I x.id) w := MapKept.run_keyThatStays (d := .int .i64) isK
      have hek' : e.key = I x.id := by rw [hek, hyi]
      simp [Instr.mapUpdate, run_underlying hu, MapKept.run_getObj_map hb, hc, hf, he', hek', hks, MapKept.run_setObj_map _ hb, setB]
    · have hp : putM x m = m.set j x := by
        have : there m x.id = true := by simp [there, ha]
        rw [putM, if_pos this, upAt_set hn hy hyi]
      rw [hp]
      have hl : (es.modify j fun e => { e with key := I x.id, val := NdV x }).toList = es.toList.set j { e with key := I x.id, val := NdV x } := by
        rw [Array.toList_modify]
        apply List.ext_getElem?
        intro k
        rw [List.getElem?_modify, List.getElem?_set]
        by_cases hjk : j = k
        · subst hjk
          have hlt := (List.getElem?_eq_some_iff.1 he).1
          simp only [he, hlt, if_true]
          rfl
        · simp [hjk]
      refine ⟨?_, ?_, ?_⟩
      · rw [hl, List.map_set, hE.ents, List.map_set]
        rfl
      · rw [hl, List.map_set]
        have : es.toList.map (·.born) = (es.toList.map (·.born)).set j e.born := by
          apply List.ext_getElem?
          intro k
          rw [List.getElem?_set]
          by_cases hjk : j = k
          · subst hjk
            have hlt := (List.getElem?_eq_some_iff.1 he).1
            rw [if_pos rfl, List.length_map, if_pos hlt, List.getElem?_map, he]; rfl
          · rw [if_neg hjk]
        show ((es.toList.map (·.born)).set j e.born).Nodup
        rw [← this]
        exact hE.born
      · intro e' he2
        rw [hl] at he2
        rcases List.mem_or_eq_of_mem_set he2 with h | h
        · exact hE.low e' h
        · subst h
          exact hE.low e (List.mem_of_getElem? he)
theorem del_run {ty2 : Nat} {tys : Nat} (hu : P.underlying ty = some (.map kt et)) (hk : P.underlying kt = some (.int .i64)) (hb : At w b (.map es cl)) (hE : Ents es cl m) (hn : (m.map (·.id)).Nodup) :
    ∃ es', (Builtin.delete_ #[ty, tys] ty2 #[.map (some b), I id]).run P w = .ok (.tuple #[]) (setB w b (.map es' cl)) ∧ Ents es' cl (m.filter fun x => !decide (x.id = id)) := by
  have hf := find_run (w := w) (id := id) hk hE
  have hc : ∀ e, (Instr.checkKey e 10000 kt (I id)).run P w = .ok () w := fun e => MapKept.run_checkKey (k := I id) hk isK e 9999
  cases ha : at_ id m with
  | none =>
    rw [ha] at hf
    refine ⟨es, ?_, ?_⟩
    · simp [Builtin.delete_, run_underlying hu, MapKept.run_getObj_map hb, hc, hf, MapKept.run_setObj_map _ hb, setB]
    · rw [List.filter_eq_self.2 (fun x hx => by simpa using at_none ha x hx)]
      exact hE
  | some j =>
    obtain ⟨y, hy, hyi, _⟩ := at_some ha
    rw [ha] at hf
    simp only [Option.bind_some, hy, Option.map_some] at hf
    have hjm := (List.getElem?_eq_some_iff.1 hy).1
    have hje : j < es.size := by rw [hE.size]; exact hjm
    refine ⟨es.eraseIdxIfInBounds j, ?_, ?_⟩
    · simp [Builtin.delete_, run_underlying hu, MapKept.run_getObj_map hb, hc, hf, MapKept.run_setObj_map _ hb, setB]
    · have hl : (es.eraseIdxIfInBounds j).toList = es.toList.eraseIdx j := by
        unfold Array.eraseIdxIfInBounds
        rw [dif_pos hje, Array.toList_eraseIdx]
      have hsub : (es.toList.eraseIdx j).Sublist es.toList := List.eraseIdx_sublist _ _
      have hfe : ∀ (l : List Nd) (j : Nat) (y : Nd), (l.map (·.id)).Nodup → l[j]? = some y → y.id = id → l.filter (fun x => !decide (x.id = id)) = l.eraseIdx j := by
        intro l
        induction l with
        | nil => intro j y _ h; simp at h
        | cons z l ih =>
          intro j y hn h he
          simp only [List.map_cons, List.nodup_cons] at hn
          cases j with
          | zero =>
            simp at h
            subst h
            rw [List.filter_cons, if_neg (by simp [he]), List.eraseIdx_cons_zero]
            refine List.filter_eq_self.2 (fun x hx => ?_)
            have : x.id ≠ id := fun e => hn.1 (by rw [he, ← e]; exact List.mem_map_of_mem hx)
            simpa using this
          | succ j =>
            simp only [List.getElem?_cons_succ] at h
            have hz : z.id ≠ id := fun e => hn.1 (by rw [e, ← he]; exact List.mem_map_of_mem (List.mem_of_getElem? h))
            rw [List.filter_cons, if_pos (by simp [hz]), List.eraseIdx_cons_succ, ih j y hn.2 h he]
      rw [hfe m j y hn hy hyi]
      refine ⟨?_, ?_, ?_⟩
      · rw [hl, eraseIdx_mapL, hE.ents, eraseIdx_mapL]
      · rw [hl]
        exact (hsub.map _).nodup hE.born
      · intro e he
        rw [hl] at he
        exact hE.low e (hsub.subset he)
end

section
variable {P : Program} {w w' : World} {ρ : Operand → Value} {d : Option Nat} {t : Nat} {p : String} {af : Array Edge} {g : Option (Nat × Bool)} {ty kt et b : Nat} {id : Int} {es : Array MapEntry} {cl : Nat} {m : List Nd} {x y z : Operand}
theorem r_look (hu : P.underlying ty = some (.map kt et)) (hk : P.underlying kt = some (.int .i64)) (hz : zrOf P et = some (NdV ⟨0, 0, 0, 0, 0, 0, 0⟩)) (hx : ρ x = .map (some b)) (hy : ρ y = I id) (hb : At w b (.map es cl)) (hE : Ents es cl m) :
    (execOp ρ ⟨d, .lookup ty x y false, t, p, af, g⟩).run P w = .ok (.value (NdV (ndOr m id))) w := by
  simp [execOp, hx, hy, look_run hu hk hz hb hE false]
theorem r_look2 (hu : P.underlying ty = some (.map kt et)) (hk : P.underlying kt = some (.int .i64)) (hz : zrOf P et = some (NdV ⟨0, 0, 0, 0, 0, 0, 0⟩)) (hx : ρ x = .map (some b)) (hy : ρ y = I id) (hb : At w b (.map es cl)) (hE : Ents es cl m) :
    (execOp ρ ⟨d, .lookup ty x y true, t, p, af, g⟩).run P w = .ok (.value (.tuple [NdV (ndOr m id), .bool (there m id)].toArray)) w := by
  simp [execOp, hx, hy, look_run hu hk hz hb hE true]
theorem r_upd {vm vk vv : Value} (hx : ρ x = vm) (hy : ρ y = vk) (hz : ρ z = vv) (h : (Instr.mapUpdate ty vm vk vv).run P w = .ok () w') : (execOp ρ ⟨d, .mapUpdate ty x y z, t, p, af, g⟩).run P w = .ok .skip w' := by
  simp [execOp, hx, hy, hz, h]
theorem r_ins {vm vk vv : Value} (hx : ρ x = vm) (hy : ρ y = vk) (hz : ρ z = vv) (h : (Instr.mapUpdate ty vm vk vv).run P w = .ok () w') : (execOp ρ ⟨d, .insert ty x y z, t, p, af, g⟩).run P w = .ok .skip w' := by
  simp [execOp, hx, hy, hz, h]
theorem r_del {tys : Nat} {vm vk v : Value} (hx : ρ x = vm) (hy : ρ y = vk) (h : (Builtin.delete_ #[ty, tys] t #[vm, vk]).run P w = .ok v w') :
    (execOp ρ ⟨d, .call { callee := .builtin .delete, args := #[x, y], argTypes := #[ty, tys] }, t, p, af, g⟩).run P w = .ok (.value v) w' := by
  simp [execOp, resolve, invoke, builtin, hx, hy, h]
theorem r_mkmap : (execOp ρ ⟨d, .makeMap ty none, t, p, af, g⟩).run P w = .ok (.value (.map (some w.heap.size))) (w.alloc (.map #[] 0)) := by
  simp [execOp, Instr.makeMap]
theorem r_fieldV {f : Nat} {vs : List Value} {v : Value} {fs : Array Field} {fi : Field} {D : TypeDesc} (hu : P.underlying ty = some (.struct fs)) (hx : ρ x = .agg vs.toArray) (hf : fs[f]? = some fi) (hD : P.underlying fi.type = some D) (ha : isAggD D = false) (hv : vs[fi.offset]? = some v) :
    (execOp ρ ⟨d, .field ty x f, t, p, af, g⟩).run P w = .ok (.value v) w := by
  simp [execOp, Instr.field, run_underlying hu, hf, hx, asAgg, part, run_isAgg hD, ha, hv]
theorem r_range (hu : P.underlying ty = some (.map kt et)) (hx : ρ x = .map (some b)) (hb : At w b (.map es cl)) :
    (execOp ρ ⟨d, .range ty x, t, p, af, g⟩).run P w = .ok (.value (.pointer (some ⟨w.heap.size, 0, none⟩))) (w.alloc (.mapIter (some b) cl #[] cl)) := by
  simp [execOp, Instr.range, run_underlying hu, hx, MapKept.run_getObj_map hb]
theorem run_get {o : Obj} {r : Nat} (h : At w r o) (hc : ∀ c e f, o ≠ .cells c e f) : (getObj r).run P w = .ok o w := by
  have h' : w.heap[r]? = some o := h
  cases o <;> first | exact absurd rfl (hc _ _ _) | simp [getObj, Sem.run, h']
theorem run_set {o o' : Obj} {r : Nat} (h : At w r o) (hc : ∀ c e f, o ≠ .cells c e f) : (setObj r o').run P w = .ok () (setB w r o') := by
  have h' : w.heap[r]? = some o := h
  cases o <;> first | exact absurd rfl (hc _ _ _) | simp [setObj, Sem.run, h', setB]
/-- A step of a loop over a map that nobody changes meanwhile: it is over when all were seen, or comes to one that was not. -/
theorem next_run {r : Nat} {seen : Array Nat} (hr : At w r (.mapIter (some b) cl seen cl)) (hb : At w b (.map es cl)) (hlow : ∀ e ∈ es.toList, e.born < cl) :
    ((∀ e ∈ es.toList, e.born ∈ seen.toList) ∧ (Instr.next (.pointer (some ⟨r, 0, none⟩)) false t).run P w = .ok (.tuple [.bool false].toArray) w) ∨
    ∃ e ∈ es.toList, e.born ∉ seen.toList ∧ ∃ w1, (w1 = w ∨ w1 = w.drew) ∧ (Instr.next (.pointer (some ⟨r, 0, none⟩)) false t).run P w = .ok (.tuple [.bool true, e.key, e.val].toArray) (setB w1 r (.mapIter (some b) cl (seen.push e.born) cl)) := by
  have hg := run_get (P := P) hr (by intros; simp)
  have hgb := run_get (P := P) hb (by intros; simp)
  have hnot : (!seen.isEmpty && !es.isEmpty && es.all (·.born ≥ cl)) = false := by
    cases hem : es.isEmpty with
    | true => simp
    | false =>
      have : es.all (·.born ≥ cl) = false := by
        have h0 : 0 < es.size := by
          rcases Nat.eq_zero_or_pos es.size with h | h
          · rw [Array.isEmpty_iff_size_eq_zero.2 h] at hem; cases hem
          · exact h
        cases ha : es.all (·.born ≥ cl) with
        | false => rfl
        | true =>
          have h1 := (Array.all_eq_true.1 ha) 0 h0
          have h2 := hlow es[0] (by simp)
          simp at h1
          omega
      simp [this]
  have hnew : ((es.filter fun e => !seen.contains e.born).filter (·.born ≥ cl)) = #[] := by
    apply Array.ext'
    simp only [Array.toList_filter]
    refine List.filter_eq_nil_iff.2 (fun e he => ?_)
    have := hlow e (List.mem_filter.1 he).1
    simp; omega
  have hold : ((es.filter fun e => !seen.contains e.born).filter (·.born < cl)) = (es.filter fun e => !seen.contains e.born) := by
    apply Array.ext'
    simp only [Array.toList_filter]
    refine List.filter_eq_self.2 (fun e he => ?_)
    have := hlow e (List.mem_filter.1 he).1
    simpa using this
  by_cases hall : ∀ e ∈ es.toList, e.born ∈ seen.toList
  · left
    refine ⟨hall, ?_⟩
    have hleft : (es.filter fun e => !seen.contains e.born) = #[] := by
      apply Array.ext'
      simp only [Array.toList_filter]
      refine List.filter_eq_nil_iff.2 (fun e he => ?_)
      have := hall e he
      simpa using this
    rw [hleft] at hnew hold
    simp only [Instr.next, Sem.run_bind, hg, hgb, Result.andThen_ok, hnot, hleft, hnew, hold]
    simp [choose, Sem.run, Question.forced]
  · right
    generalize hL : (es.filter fun e => !seen.contains e.born) = left at *
    have hne : 0 < left.size := by
      rcases Nat.eq_zero_or_pos left.size with h | h
      · exfalso
        refine hall (fun e he => ?_)
        have h0 : left.toList = [] := by
          have : left = #[] := Array.eq_empty_of_size_eq_zero h
          rw [this]
        rw [← hL, Array.toList_filter] at h0
        have := List.filter_eq_nil_iff.1 h0 e he
        simpa using this
      · exact h
    have hem : left.isEmpty = false := by
      cases hx : left.isEmpty with
      | false => rfl
      | true => have := Array.isEmpty_iff_size_eq_zero.1 hx; omega
    have hmem : ∀ e ∈ left.toList, e ∈ es.toList ∧ e.born ∉ seen.toList := by
      intro e he
      rw [← hL, Array.toList_filter] at he
      have h2 := List.mem_filter.1 he
      exact ⟨h2.1, by simpa using h2.2⟩
    have fin : ∀ i w1, i < left.size → (w1 = w ∨ w1 = w.drew) → ((choose (.mapNext left.size)).run P w = .ok i w1) →
        ∃ e ∈ es.toList, e.born ∉ seen.toList ∧ ∃ w1, (w1 = w ∨ w1 = w.drew) ∧ (Instr.next (.pointer (some ⟨r, 0, none⟩)) false t).run P w = .ok (.tuple [.bool true, e.key, e.val].toArray) (setB w1 r (.mapIter (some b) cl (seen.push e.born) cl)) := by
      intro i w1 hi hw hch
      obtain ⟨h1, h2⟩ := hmem left[i] (by simp)
      refine ⟨left[i], h1, h2, w1, hw, ?_⟩
      have hr1 : At w1 r (.mapIter (some b) cl seen cl) := by rcases hw with rfl | rfl <;> exact hr
      have hset := run_set (P := P) (o' := .mapIter (some b) cl (seen.push left[i].born) cl) hr1 (by intros; simp)
      simp only [Instr.next, Sem.run_bind, hg, hgb, Result.andThen_ok, hnot, hL, hnew, hold, hem]
      simp [-run_choose_drew, hch, hi, hset]
    by_cases h1 : left.size ≤ 1
    · exact fin 0 w hne (.inl rfl) (by simp [choose, Sem.run, Question.forced, h1])
    · refine fin (w.tape w.drawn (.mapNext left.size) % left.size) w.drew (Nat.mod_lt _ hne) (.inr rfl) ?_
      have hfo : (Question.mapNext left.size).forced = false := by simp only [Question.forced]; simpa using h1
      simp only [choose, Sem.run]
      rw [hfo]
      rfl
theorem r_next {v : Value} (hx : ρ x = v) {u : Value} (h : (Instr.next v false t).run P w = .ok u w') : (execOp ρ ⟨d, .next x false, t, p, af, g⟩).run P w = .ok (.value u) w' := by
  simp [execOp, hx, h]
theorem r_entry {r : Nat} {seen : Array Nat} {e : MapEntry} (hx : ρ x = .pointer (some ⟨r, 0, none⟩)) (hr : At w r (.mapIter (some b) cl (seen.push e.born) cl)) (hb : At w b (.map es cl)) (he : e ∈ es.toList) (hn : (es.toList.map (·.born)).Nodup) :
    (execOp ρ ⟨d, .entry x, t, p, af, g⟩).run P w = .ok (.value (.tuple [e.key, e.val].toArray)) w := by
  have hg := run_get (P := P) hr (by intros; simp)
  have hgb := run_get (P := P) hb (by intros; simp)
  have hfind : es.find? (·.born == e.born) = some e := by
    rw [← Array.find?_toList]
    have key : ∀ l : List MapEntry, (l.map (·.born)).Nodup → e ∈ l → l.find? (·.born == e.born) = some e := by
      intro l
      induction l with
      | nil => intro _ h; cases h
      | cons a l ih =>
        intro hn hm
        simp only [List.map_cons, List.nodup_cons] at hn
        rcases List.mem_cons.1 hm with h | h
        · subst h; simp
        · have : a.born ≠ e.born := fun q => hn.1 (by rw [q]; exact List.mem_map_of_mem h)
          rw [List.find?_cons, beq_eq_false_iff_ne.2 this]
          exact ih hn.2 h
    exact key _ hn he
  simp only [execOp, Instr.entry, hx, Sem.run_bind, hg, Result.andThen_ok]
  simp [hgb, hfind]
end
end Go.Proofs.YtbicffldggcdhaaDoor
