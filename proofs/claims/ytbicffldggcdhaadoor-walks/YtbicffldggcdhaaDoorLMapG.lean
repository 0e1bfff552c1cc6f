/-
  Maps whose keys are numbers, of whatever values: their entries as a list of pairs.
-/
import Derived.Test.YtbicffldggcdhaaDoorLMap
namespace Go.Proofs.YtbicffldggcdhaaDoor
open Go

def gEnt (x : Int × Value) : Value × Value := (I x.1, x.2)
structure GEnts (es : Array MapEntry) (cl : Nat) (M : List (Int × Value)) : Prop where
  ents : es.toList.map entOf = M.map gEnt
  born : (es.toList.map (·.born)).Nodup
  low : ∀ e ∈ es.toList, e.born < cl
  keys : (M.map (·.1)).Nodup
theorem gents_nil : GEnts #[] 0 [] := ⟨rfl, by simp, by simp, by simp⟩
def gget (id : Int) : List (Int × Value) → Option Value
  | [] => none
  | x :: l => if x.1 = id then some x.2 else gget id l
def gput (id : Int) (v : Value) : List (Int × Value) → List (Int × Value)
  | [] => [(id, v)]
  | x :: l => if x.1 = id then (id, v) :: l else x :: gput id v l
def gfind (id : Int) : List (Int × Value) → Nat → Option (Nat × Value)
  | [], _ => none
  | x :: l, i => if x.1 = id then some (i, x.2) else gfind id l (i + 1)
theorem gfind_get (id : Int) : ∀ (l : List (Int × Value)) (i : Nat), (gfind id l i).map (·.2) = gget id l
  | [], _ => rfl
  | x :: l, i => by
    unfold gfind gget
    split
    · rfl
    · exact gfind_get id l (i + 1)
theorem gfind_some {id : Int} (v : Value) : ∀ {l : List (Int × Value)} {i k : Nat} {u : Value}, gfind id l i = some (k, u) → ∃ j, k = i + j ∧ l[j]? = some (id, u) ∧ gput id v l = l.set j (id, v)
  | [], _, _, _, h => by cases h
  | x :: l, i, k, u, h => by
    unfold gfind at h
    by_cases hx : x.1 = id
    · rw [if_pos hx] at h
      cases h
      refine ⟨0, rfl, ?_, by rw [gput, if_pos hx]; rfl⟩
      rw [← hx]
      rfl
    · rw [if_neg hx] at h
      obtain ⟨j, h1, h2, h3⟩ := gfind_some v h
      exact ⟨j + 1, by omega, h2, by rw [gput, if_neg hx, h3]; rfl⟩
theorem gfind_none {id : Int} (v : Value) : ∀ {l : List (Int × Value)} {i : Nat}, gfind id l i = none → gput id v l = l ++ [(id, v)] ∧ id ∉ l.map (·.1)
  | [], _, _ => ⟨rfl, by simp⟩
  | x :: l, i, h => by
    unfold gfind at h
    by_cases hx : x.1 = id
    · rw [if_pos hx] at h; cases h
    · rw [if_neg hx] at h
      obtain ⟨h1, h2⟩ := gfind_none v h
      refine ⟨by rw [gput, if_neg hx, h1]; rfl, ?_⟩
      simp only [List.map_cons, List.mem_cons, not_or]
      exact ⟨fun e => hx e.symm, h2⟩
theorem gget_put (id : Int) (v : Value) (q : Int) : ∀ l : List (Int × Value), gget q (gput id v l) = if q = id then some v else gget q l
  | [] => by
    unfold gput gget
    by_cases h : q = id
    · rw [if_pos h, if_pos h.symm]
    · rw [if_neg h, if_neg (fun e => h e.symm)]
      rfl
  | x :: l => by
    unfold gput
    by_cases hx : x.1 = id
    · rw [if_pos hx, gget, gget]
      by_cases h : q = id
      · rw [if_pos h, if_pos h.symm]
      · rw [if_neg h, if_neg (fun e => h e.symm), hx, if_neg (fun e => h e.symm)]
    · rw [if_neg hx, gget, gget, gget_put id v q l]
      by_cases h : q = id
      · subst h
        rw [if_neg hx, if_pos rfl, if_pos rfl]
      · rw [if_neg h, if_neg h]
theorem gget_mem {k : Int} {v : Value} : ∀ {l : List (Int × Value)}, (l.map (·.1)).Nodup → (k, v) ∈ l → gget k l = some v
  | [], _, h => by cases h
  | x :: l, hn, h => by
    simp only [List.map_cons, List.nodup_cons] at hn
    unfold gget
    rcases List.mem_cons.1 h with e | e
    · subst e
      rw [if_pos rfl]
    · rw [if_neg (fun q => hn.1 (by rw [q]; exact List.mem_map_of_mem (f := Prod.fst) e))]
      exact gget_mem hn.2 e
theorem gget_in {k : Int} {v : Value} : ∀ {l : List (Int × Value)}, gget k l = some v → (k, v) ∈ l
  | [], h => by cases h
  | x :: l, h => by
    unfold gget at h
    by_cases hx : x.1 = k
    · rw [if_pos hx] at h
      cases h
      rw [← hx]
      exact List.mem_cons_self
    · rw [if_neg hx] at h
      exact List.mem_cons_of_mem _ (gget_in h)
abbrev nilS : Value := .slice none 0 0
def gor (M : List (Int × Value)) (p : Int) : Value := (gget p M).getD nilS
theorem gor_put (id : Int) (v : Value) (q : Int) (M : List (Int × Value)) : gor (gput id v M) q = if q = id then v else gor M q := by
  unfold gor
  rw [gget_put]
  split <;> rfl
theorem GEnts.mem {es : Array MapEntry} {cl : Nat} {M : List (Int × Value)} (h : GEnts es cl M) {e : MapEntry} (he : e ∈ es.toList) : ∃ k v, e.key = I k ∧ e.val = v ∧ gget k M = some v := by
  have h1 : entOf e ∈ M.map gEnt := by rw [← h.ents]; exact List.mem_map_of_mem he
  obtain ⟨⟨k, v⟩, hx, hxe⟩ := List.mem_map.1 h1
  simp only [entOf, gEnt, Prod.mk.injEq] at hxe
  exact ⟨k, v, hxe.1.symm, hxe.2.symm, gget_mem h.keys hx⟩
theorem GEnts.of {es : Array MapEntry} {cl : Nat} {M : List (Int × Value)} (h : GEnts es cl M) {k : Int} {v : Value} (hk : gget k M = some v) : ∃ e ∈ es.toList, e.key = I k := by
  have h1 : gEnt (k, v) ∈ es.toList.map entOf := by rw [h.ents]; exact List.mem_map_of_mem (gget_in hk)
  obtain ⟨e, he, hee⟩ := List.mem_map.1 h1
  simp only [entOf, gEnt, Prod.mk.injEq] at hee
  exact ⟨e, he, hee.1⟩
theorem GEnts.keysN {es : Array MapEntry} {cl : Nat} {M : List (Int × Value)} (h : GEnts es cl M) : (es.toList.map (·.key)).Nodup := by
  have h1 : es.toList.map (·.key) = (M.map (·.1)).map I := by
    have := congrArg (List.map Prod.fst) h.ents
    simpa [entOf, gEnt, List.map_map, Function.comp_def] using this
  rw [h1]
  refine List.Pairwise.map _ (fun a b hab e => hab ?_) h.keys
  cases e
  rfl
theorem gfind_run (id : Int) : ∀ (M : List (Int × Value)) (es : List MapEntry) (i : Nat), es.map entOf = M.map gEnt → Instr.findNow (.int .i64) (I id) es i = some (gfind id M i)
  | [], [], i, _ => rfl
  | [], e :: es, i, h => by simp at h
  | x :: m, [], i, h => by simp at h
  | x :: m, e :: es, i, h => by
    simp only [List.map_cons, List.cons.injEq, entOf, gEnt, Prod.mk.injEq] at h
    obtain ⟨⟨hk, hv⟩, hr⟩ := h
    unfold Instr.findNow gfind
    rw [hk]
    by_cases hx : x.1 = id
    · subst hx
      simp [Instr.sameNow, hv]
    · have hx' : ¬ id = x.1 := fun e => hx e.symm
      simp only [Instr.sameNow, if_true, if_neg hx, beq_eq_false_iff_ne.2 hx']
      rw [gfind_run id m es (i + 1) hr]
section
variable {P : Program} {w : World} {ty kt et b : Nat} {id : Int} {es : Array MapEntry} {cl : Nat} {M : List (Int × Value)}
theorem gfindKey (hk : P.underlying kt = some (.int .i64)) (hE : GEnts es cl M) : (Instr.findKey kt (I id) es.toList).run P w = .ok (gfind id M 0) w :=
  MapKept.run_findKey hk (gfind_run id M es.toList 0 hE.ents)
theorem glook_run (hu : P.underlying ty = some (.map kt et)) (hk : P.underlying kt = some (.int .i64)) (hz : zrOf P et = some nilS) (hb : At w b (.map es cl)) (hE : GEnts es cl M) :
    (Instr.lookup ty (.map (some b)) (I id) false).run P w = .ok (gor M id) w := by
  have hf := gfindKey (w := w) (id := id) hk hE
  have hc : ∀ e, (Instr.checkKey e 10000 kt (I id)).run P w = .ok () w := fun e => MapKept.run_checkKey (k := I id) hk isK e 9999
  simp only [Instr.lookup, Sem.run_bind, run_underlying hu, MapKept.run_getObj_map hb, Result.andThen_ok, Sem.run_pure, hc, hf]
  unfold gor
  rw [← gfind_get id M 0]
  cases gfind id M 0 with
  | none => simp [run_zero hz]
  | some j => simp
theorem gupd_run {v : Value} (hu : P.underlying ty = some (.map kt et)) (hk : P.underlying kt = some (.int .i64)) (hb : At w b (.map es cl)) (hE : GEnts es cl M) :
    ∃ es' cl', (Instr.mapUpdate ty (.map (some b)) (I id) v).run P w = .ok () (setB w b (.map es' cl')) ∧ GEnts es' cl' (gput id v M) := by
  have hf := gfindKey (w := w) (id := id) hk hE
  have hc : ∀ e, (Instr.checkKey e 10000 kt (I id)).run P w = .ok () w := fun e => MapKept.run_checkKey (k := I id) hk isK e 9999
  cases ha : gfind id M 0 with
  | none =>
    rw [ha] at hf
    obtain ⟨hp, hnew⟩ := gfind_none v ha
    refine ⟨es.push ⟨I id, v, cl⟩, cl + 1, ?_, ?_⟩
    · simp [Instr.mapUpdate, run_underlying hu, MapKept.run_getObj_map hb, hc, hf, MapKept.run_setObj_map _ hb, setB]
    · rw [hp]
      refine ⟨?_, ?_, ?_, ?_⟩
      · simp [hE.ents, entOf, gEnt]
      · simp only [Array.toList_push, List.map_append, List.map_cons, List.map_nil]
        refine List.nodup_append.2 ⟨hE.born, by simp, ?_⟩
        intro a h1 c h2
        obtain ⟨e, he, rfl⟩ := List.mem_map.1 h1
        have := hE.low e he
        simp at h2
        omega
      · intro e he
        simp only [Array.toList_push, List.mem_append, List.mem_singleton] at he
        rcases he with he | rfl
        · have := hE.low e he; omega
        · exact Nat.lt_succ_self _
      · rw [List.map_append, List.nodup_append]
        refine ⟨hE.keys, by simp, ?_⟩
        intro a h1 c h2 e
        simp at h2
        subst h2
        exact hnew (e ▸ h1)
  | some ju =>
    obtain ⟨j', u⟩ := ju
    obtain ⟨j, hj, hy, hp⟩ := gfind_some v ha
    rw [Nat.zero_add] at hj
    subst hj
    rw [ha] at hf
    obtain ⟨e, he, hek⟩ : ∃ e, es.toList[j']? = some e ∧ e.key = I id := by
      have h1 := congrArg (fun l => l[j']?) hE.ents
      simp only [List.getElem?_map, hy, Option.map_some] at h1
      cases he : es.toList[j']? with
      | none => rw [he] at h1; cases h1
      | some e =>
        rw [he] at h1
        simp only [Option.map_some, Option.some.injEq, entOf, gEnt, Prod.mk.injEq] at h1
        exact ⟨e, rfl, h1.1⟩
    have he' : es[j']? = some e := by simpa using he
    refine ⟨es.modify j' fun e => { e with key := I id, val := v }, cl, ?_, ?_⟩
    · have hks : (Instr.keyThatStays (I id) (I id)).run P w = .ok (I id) w := MapKept.run_keyThatStays (d := .int .i64) isK
      simp [Instr.mapUpdate, run_underlying hu, MapKept.run_getObj_map hb, hc, hf, he', hek, hks, MapKept.run_setObj_map _ hb, setB]
    · rw [hp]
      have hl : (es.modify j' fun e => { e with key := I id, val := v }).toList = es.toList.set j' { e with key := I id, val := v } := by
        rw [Array.toList_modify]
        apply List.ext_getElem?
        intro k
        rw [List.getElem?_modify, List.getElem?_set]
        by_cases hjk : j' = k
        · subst hjk
          have hlt := (List.getElem?_eq_some_iff.1 he).1
          simp only [he, hlt, if_true]
          rfl
        · simp [hjk]
      refine ⟨?_, ?_, ?_, ?_⟩
      · rw [hl, List.map_set, hE.ents, List.map_set]
        rfl
      · rw [hl, List.map_set]
        have : es.toList.map (·.born) = (es.toList.map (·.born)).set j' e.born := by
          apply List.ext_getElem?
          intro k
          rw [List.getElem?_set]
          by_cases hjk : j' = k
          · subst hjk
            have hlt := (List.getElem?_eq_some_iff.1 he).1
            rw [if_pos rfl, List.length_map, if_pos hlt, List.getElem?_map, he]; rfl
          · rw [if_neg hjk]
        show ((es.toList.map (·.born)).set j' e.born).Nodup
        rw [← this]
        exact hE.born
      · intro e' he2
        rw [hl] at he2
        rcases List.mem_or_eq_of_mem_set he2 with h | h
        · exact hE.low e' h
        · subst h
          exact hE.low e (List.mem_of_getElem? he)
      · rw [List.map_set]
        have : M.map (·.1) = (M.map (·.1)).set j' id := by
          apply List.ext_getElem?
          intro k
          rw [List.getElem?_set]
          by_cases hjk : j' = k
          · subst hjk
            have hlt := (List.getElem?_eq_some_iff.1 hy).1
            rw [if_pos rfl, List.length_map, if_pos hlt, List.getElem?_map, hy]; rfl
          · rw [if_neg hjk]
        show ((M.map (·.1)).set j' id).Nodup
        rw [← this]
        exact hE.keys
end
section
variable {P : Program} {w : World} {ρ : Operand → Value} {d : Option Nat} {t : Nat} {p : String} {af : Array Edge} {g : Option (Nat × Bool)} {ty kt et b : Nat} {id : Int} {es : Array MapEntry} {cl : Nat} {M : List (Int × Value)} {x y : Operand}
theorem r_glook (hu : P.underlying ty = some (.map kt et)) (hk : P.underlying kt = some (.int .i64)) (hz : zrOf P et = some nilS) (hx : ρ x = .map (some b)) (hy : ρ y = I id) (hb : At w b (.map es cl)) (hE : GEnts es cl M) :
    (execOp ρ ⟨d, .lookup ty x y false, t, p, af, g⟩).run P w = .ok (.value (gor M id)) w := by
  simp [execOp, hx, hy, glook_run hu hk hz hb hE]
end
end Go.Proofs.YtbicffldggcdhaaDoor
