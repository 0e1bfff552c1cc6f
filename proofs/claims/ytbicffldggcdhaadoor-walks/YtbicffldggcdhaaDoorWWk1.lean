/-
  What the law's Walks leans on: lists of edits in memory, two trees that are the same, what an edit of both leaves alone.
-/
import Derived.Test.YtbicffldggcdhaaDoorWTree8
import Derived.Test.YtbicffldggcdhaaDoorWRef8
namespace Go.Proofs.YtbicffldggcdhaaDoor
open Go

/-- A list of edits in memory. -/
def EScr (w : World) (v : Value) (es : List Ed) : Prop :=
  ((∃ a c, v = .slice a 0 c) ∧ es = []) ∨ ∃ sb so sc X tx kk, v = .slice (some ⟨sb, so, none⟩) es.length sc ∧ At w sb (.cells X.toArray tx kk) ∧ ∀ (i : Nat) (e : Ed), es[i]? = some e → so + i * 6 + 6 ≤ X.length ∧ sub X (so + i * 6) 6 = e.vals
theorem EScr.frm0 {w w' : World} {v : Value} {es : List Ed} (h : EScr w v es) (f : Frm0 w w') : EScr w' v es := by
  rcases h with h | ⟨sb, so, sc, X, tx, kk, hv, hA, q⟩
  · exact .inl h
  · exact .inr ⟨sb, so, sc, X, tx, kk, hv, f.at0 hA, q⟩
theorem EScr.isSl {w : World} {v : Value} {es : List Ed} (h : EScr w v es) : ∃ a c, v = .slice a es.length c := by
  rcases h with ⟨⟨a, c, h⟩, h0⟩ | ⟨sb, so, sc, X, tx, kk, hv, _⟩
  · exact ⟨a, c, by rw [h, h0]; rfl⟩
  · exact ⟨_, _, hv⟩
def appAll (l : List Nd) (es : List Ed) : List Nd := es.foldl applyL l
theorem appAll_step {l : List Nd} {es : List Ed} {i : Nat} {e : Ed} (h : es[i]? = some e) : appAll l (es.take (i + 1)) = applyL (appAll l (es.take i)) e := by
  unfold appAll
  rw [List.take_add_one, h, List.foldl_append]
  rfl
theorem wf_all : ∀ (es : List Ed) {l : List Nd}, Wf l → Wf (appAll l es)
  | [], _, h => h
  | e :: es, _, h => wf_all es (h.apply e)

/-- What no edit touches: all but nodes' rows, the document's trees and maps. -/
def Oth (o : Obj) : Prop := (∀ l, o ≠ cel l 40) ∧ (∀ l, o ≠ cel l 43) ∧ ∀ es cl, o ≠ .map es cl
theorem oth_cel {l : List Value} {e : Nat} (h1 : e ≠ 40) (h2 : e ≠ 43) : Oth (cel l e) :=
  ⟨fun _ h => (by injection h with _ h _; exact h1 h), fun _ h => (by injection h with _ h _; exact h2 h), fun _ _ h => (by cases h)⟩
theorem oth_loop (r : Loop) : Oth (.loop r) := ⟨fun _ h => (by cases h), fun _ h => (by cases h), fun _ _ h => (by cases h)⟩
theorem oth_def (r : Option (List Deferred)) : Oth (.deferred r) := ⟨fun _ h => (by cases h), fun _ h => (by cases h), fun _ _ h => (by cases h)⟩
structure Kp (w w' : World) : Prop where
  size : w.heap.size ≤ w'.heap.size
  same : ∀ b o, At w b o → Oth o → At w' b o
theorem Kp.refl (w : World) : Kp w w := ⟨Nat.le_refl _, fun _ _ h _ => h⟩
theorem Kp.trans {a b c : World} (h : Kp a b) (k : Kp b c) : Kp a c := ⟨Nat.le_trans h.size k.size, fun x o hx ho => k.same x o (h.same x o hx ho) ho⟩
theorem Kp.of0 {w w' : World} (f : Frm0 w w') : Kp w w' := ⟨f.size, fun _ _ h _ => f.at0 h⟩
theorem Kp.ofMap {w w' : World} {mb : Nat} {es : Array MapEntry} {cl : Nat} (f : Frm (fun b => b = mb) w w') (hm : At w mb (.map es cl)) : Kp w w' :=
  ⟨f.size, fun b o hb ho => f.at (fun e => ho.2.2 _ _ (by
    subst e
    have h1 : w.heap[b]? = some o := hb
    have h2 : w.heap[b]? = some (.map es cl) := hm
    rw [h1] at h2
    cases h2
    rfl)) hb⟩
theorem Kp.ofRef {w w' : World} {r b cap : Nat} {rest : List Value} {l : List Nd} (f : RFrm r b w w') (h : RefT w r b cap rest l) : Kp w w' :=
  ⟨f.size, fun c o hc ho => f.at (fun e => by
    have h1 : w.heap[c]? = some o := hc
    rcases e with e | e
    · subst e
      have h2 : w.heap[c]? = some _ := h.head
      rw [h1] at h2
      cases h2
      exact ho.2.1 _ rfl
    · subst e
      have h2 : w.heap[c]? = some _ := h.row
      rw [h1] at h2
      cases h2
      exact ho.1 _ rfl) hc⟩

/-- The program's tree and the document's, with these nodes, in memory that is new since N. -/
structure WI (w : World) (N t mb r b : Nat) (l : List Nd) : Prop where
  tr : ∃ es cl m, TreeAt w t mb es cl m ∧ m.Perm l
  rf : ∃ cap rest, RefT w r b cap rest l
  wf : Wf l
  nt : N ≤ t ∧ N ≤ mb ∧ N ≤ r ∧ N ≤ b
section
variable {w w' : World} {N t mb r b : Nat} {l : List Nd}
theorem WI.frm0 (h : WI w N t mb r b l) (f : Frm0 w w') : WI w' N t mb r b l := by
  obtain ⟨⟨es, cl, m, h1, h2⟩, ⟨cap, rest, h3⟩, h4, h5⟩ := h
  exact ⟨⟨es, cl, m, h1.frm0 f, h2⟩, ⟨cap, rest, h3.frm0 f⟩, h4, h5⟩
theorem WI.setB {c : Nat} {o o' : Obj} (h : WI w N t mb r b l) (hc : At w c o) (ho : Oth o) (ht : ∀ l, o ≠ cel l 53) : WI (setB w c o') N t mb r b l := by
  obtain ⟨⟨es, cl, m, h1, h2⟩, ⟨cap, rest, h3⟩, h4, h5⟩ := h
  have hu : ∀ x p, At w x p → c = x → o = p := fun x p hx e => by
    subst e
    have a1 : w.heap[c]? = some o := hc
    have a2 : w.heap[c]? = some p := hx
    rw [a1] at a2
    cases a2
    rfl
  refine ⟨⟨es, cl, m, ⟨at_setB_ne _ (fun e => ht _ (hu _ _ h1.head e)) h1.head, at_setB_ne _ (fun e => ho.2.2 _ _ (hu _ _ h1.row e)) h1.row, h1.ents⟩, h2⟩, ⟨cap, rest, ⟨at_setB_ne _ (fun e => ho.2.1 _ (hu _ _ h3.head e)) h3.head, at_setB_ne _ (fun e => ho.1 _ (hu _ _ h3.row e)) h3.row, h3.room, h3.apart⟩⟩, h4, h5⟩
/-- The program's tree is edited. -/
theorem WI.applyT {ea : List Addr} (h : WI w N t mb r b l) (hE : Err6 w ea) (e : Ed) :
    Rets Tryd.prog 8 [Ptr t, EdV e] w fun _ w' => (∃ es cl m, TreeAt w' t mb es cl m ∧ m.Perm (applyL l e)) ∧ (∃ cap rest, RefT w' r b cap rest l) ∧ Kp w w' ∧ Frm (fun x => x = mb) w w' := by
  obtain ⟨⟨es, cl, m, h1, h2⟩, ⟨cap, rest, h3⟩, h4, h5⟩ := h
  refine (Apply_ret h1 h2 h4 hE e).mono ?_
  rintro v w' ⟨_, h6, f, _⟩
  have hne : ∀ x l' ty, At w x (cel l' ty) → ¬ x = mb := fun x l' ty hx e => by
    subst e
    have a1 : w.heap[x]? = some (cel l' ty) := hx
    have a2 : w.heap[x]? = some (.map es cl) := h1.row
    rw [a1] at a2
    cases a2
  exact ⟨h6, ⟨cap, rest, h3.frm f (hne _ _ _ h3.head) (hne _ _ _ h3.row)⟩, Kp.ofMap f h1.row, f⟩
theorem WI.applyR {es : Array MapEntry} {cl cap : Nat} {m l' : List Nd} {rest : List Value} (h1 : TreeAt w t mb es cl m) (hp : m.Perm l') (h3 : RefT w r b cap rest l) (hw : Wf l) (e : Ed) (hl : l' = applyL l e) (hn : N ≤ t ∧ N ≤ mb ∧ N ≤ r ∧ N ≤ b) (hN : N ≤ w.heap.size) :
    Rets Tryd.prog 9 [Ptr r, EdV e] w fun _ w' => (∃ b', WI w' N t mb r b' l' ∧ (b' = b ∨ w.heap.size ≤ b')) ∧ Kp w w' ∧ Frm (fun x => x = r ∨ x = b) w w' := by
  have hsm := hw.small
  refine (RApply_ret h3 (by omega) hw.clo hw.nodup hw.rootId e).mono ?_
  rintro v w' ⟨_, ⟨b', cap', rest', h6, h7⟩, f⟩
  have hu : ∀ x p q, At w x p → At w x q → p = q := fun x p q a1 a2 => by
    have a1 : w.heap[x]? = some p := a1
    have a2 : w.heap[x]? = some q := a2
    rw [a1] at a2
    cases a2
    rfl
  have ht : ¬ (t = r ∨ t = b) := fun e => by
    rcases e with e | e
    · subst e; have := hu _ _ _ h1.head h3.head; injection this with _ h8 _; exact absurd h8 (by decide)
    · subst e; have := hu _ _ _ h1.head h3.row; injection this with _ h8 _; exact absurd h8 (by decide)
  have hm : ¬ (mb = r ∨ mb = b) := fun e => by
    rcases e with e | e
    · subst e; have := hu _ _ _ h1.row h3.head; cases this
    · subst e; have := hu _ _ _ h1.row h3.row; cases this
  refine ⟨⟨b', ⟨⟨es, cl, m, h1.frm f ht hm, hp⟩, ⟨cap', rest', by rw [hl]; exact h6⟩, by rw [hl]; exact hw.apply e, hn.1, hn.2.1, hn.2.2.1, ?_⟩, h7⟩, Kp.ofRef f h3, f⟩
  rcases h7 with h7 | h7
  · rw [h7]; exact hn.2.2.2
  · omega
end
theorem at_ne {w : World} {c x : Nat} {o p : Obj} (hc : At w c o) (hx : At w x p) (h : o ≠ p) : c ≠ x := fun e => by
  subst e
  have a1 : w.heap[c]? = some o := hc
  have a2 : w.heap[c]? = some p := hx
  rw [a1] at a2
  cases a2
  exact h rfl
theorem cel_ne {l l' : List Value} {e e' : Nat} (h : e ≠ e') : cel l e ≠ cel l' e' := fun q => by injection q with _ q _; exact h q
theorem keepT {w : World} {c x : Nat} {l l' : List Value} {e e' : Nat} {o' : Obj} (hc : At w c (cel l e)) (hx : At w x (cel l' e')) (h : e ≠ e') : At (setB w c o') x (cel l' e') := at_setB_ne _ (at_ne hc hx (cel_ne h)) hx
theorem rowT {w : World} {c : Nat} {o o' : Obj} {v : Value} {f sz n : Nat} {pre : List Value} (hc : At w c o) (hr : Row w v f sz n pre) (h : ∀ l, o ≠ cel l f) : Row (setB w c o') v f sz n pre := by
  rcases hr with hr | ⟨b, cap, rest, hv, hA, q⟩
  · exact .inl hr
  · exact .inr ⟨b, cap, rest, hv, at_setB_ne _ (at_ne hc hA (h _)) hA, q⟩
/-- The law's own boxes. -/
structure Bx (w : World) (b5 b6 b7 b8 b9 b10 b12 : Nat) (mv : Value) (p q : Int) (t r : Nat) (gv : Value) : Prop where
  m5 : At w b5 (cel [mv] 27)
  m6 : At w b6 (cel [I p] 3)
  m7 : At w b7 (cel [I q] 3)
  m8 : At w b8 (cel [B false] 4)
  m9 : At w b9 (cel [Ptr t] 28)
  m10 : At w b10 (cel [Ptr r] 30)
  m12 : At w b12 (cel [gv] 36)
section
variable {w w' : World} {b5 b6 b7 b8 b9 b10 b12 : Nat} {mv : Value} {p q : Int} {t r : Nat} {gv : Value}
theorem Bx.kp (h : Bx w b5 b6 b7 b8 b9 b10 b12 mv p q t r gv) (k : Kp w w') : Bx w' b5 b6 b7 b8 b9 b10 b12 mv p q t r gv :=
  ⟨k.same _ _ h.m5 (oth_cel (by decide) (by decide)), k.same _ _ h.m6 (oth_cel (by decide) (by decide)), k.same _ _ h.m7 (oth_cel (by decide) (by decide)), k.same _ _ h.m8 (oth_cel (by decide) (by decide)), k.same _ _ h.m9 (oth_cel (by decide) (by decide)), k.same _ _ h.m10 (oth_cel (by decide) (by decide)), k.same _ _ h.m12 (oth_cel (by decide) (by decide))⟩
theorem Bx.frm0 (h : Bx w b5 b6 b7 b8 b9 b10 b12 mv p q t r gv) (f : Frm0 w w') : Bx w' b5 b6 b7 b8 b9 b10 b12 mv p q t r gv := h.kp (Kp.of0 f)
theorem Bx.setI {c : Nat} {l : List Value} {o' : Obj} (h : Bx w b5 b6 b7 b8 b9 b10 b12 mv p q t r gv) (hc : At w c (cel l 3)) (h6 : c ≠ b6) (h7 : c ≠ b7) : Bx (setB w c o') b5 b6 b7 b8 b9 b10 b12 mv p q t r gv :=
  ⟨keepT hc h.m5 (by decide), at_setB_ne _ h6 h.m6, at_setB_ne _ h7 h.m7, keepT hc h.m8 (by decide), keepT hc h.m9 (by decide), keepT hc h.m10 (by decide), keepT hc h.m12 (by decide)⟩
theorem Bx.set6 {p' : Int} (h : Bx w b5 b6 b7 b8 b9 b10 b12 mv p q t r gv) (h7 : b6 ≠ b7) : Bx (setB w b6 (cel [I p'] 3)) b5 b6 b7 b8 b9 b10 b12 mv p' q t r gv :=
  ⟨keepT h.m6 h.m5 (by decide), at_setB _ h.m6, at_setB_ne _ h7 h.m7, keepT h.m6 h.m8 (by decide), keepT h.m6 h.m9 (by decide), keepT h.m6 h.m10 (by decide), keepT h.m6 h.m12 (by decide)⟩
theorem Bx.set7 {q' : Int} (h : Bx w b5 b6 b7 b8 b9 b10 b12 mv p q t r gv) (h7 : b6 ≠ b7) : Bx (setB w b7 (cel [I q'] 3)) b5 b6 b7 b8 b9 b10 b12 mv p q' t r gv :=
  ⟨keepT h.m7 h.m5 (by decide), at_setB_ne _ (fun e => h7 e.symm) h.m6, at_setB _ h.m7, keepT h.m7 h.m8 (by decide), keepT h.m7 h.m9 (by decide), keepT h.m7 h.m10 (by decide), keepT h.m7 h.m12 (by decide)⟩
theorem Bx.set12 {gv' : Value} (h : Bx w b5 b6 b7 b8 b9 b10 b12 mv p q t r gv) : Bx (setB w b12 (cel [gv'] 36)) b5 b6 b7 b8 b9 b10 b12 mv p q t r gv' :=
  ⟨keepT h.m12 h.m5 (by decide), keepT h.m12 h.m6 (by decide), keepT h.m12 h.m7 (by decide), keepT h.m12 h.m8 (by decide), keepT h.m12 h.m9 (by decide), keepT h.m12 h.m10 (by decide), at_setB _ h.m12⟩
theorem Bx.setL {c : Nat} {rc : Loop} {o' : Obj} (h : Bx w b5 b6 b7 b8 b9 b10 b12 mv p q t r gv) (hc : At w c (.loop rc)) : Bx (setB w c o') b5 b6 b7 b8 b9 b10 b12 mv p q t r gv :=
  ⟨at_setB_ne _ (at_ne hc h.m5 (by simp [cel])) h.m5, at_setB_ne _ (at_ne hc h.m6 (by simp [cel])) h.m6, at_setB_ne _ (at_ne hc h.m7 (by simp [cel])) h.m7, at_setB_ne _ (at_ne hc h.m8 (by simp [cel])) h.m8, at_setB_ne _ (at_ne hc h.m9 (by simp [cel])) h.m9, at_setB_ne _ (at_ne hc h.m10 (by simp [cel])) h.m10, at_setB_ne _ (at_ne hc h.m12 (by simp [cel])) h.m12⟩
end
/-- All that the law holds between two rounds. -/
structure JB (w W : World) (N b5 b6 b7 b8 b9 b10 b12 nb D ca cb t mb r c : Nat) (mv gv : Value) (p q : Int) (G : List (Nd × Int)) (rc : Loop) (l : List Nd) (k : Nat) : Prop where
  wi : WI W N t mb r c l
  bx : Bx W b5 b6 b7 b8 b9 b10 b12 mv p q t r gv
  n : At W nb (cel [I k] 3)
  g : Row W gv 48 8 G.length (flatP G)
  lp : At W (D + 1) (.loop rc)
  d : At W D (.deferred (some []))
  a : At W ca (cel [Ptr t] 28)
  b : At W cb (cel [I 0] 3)
  f : Frm0 w W
section
variable {w W W' : World} {N b5 b6 b7 b8 b9 b10 b12 nb D ca cb t mb r c : Nat} {mv gv : Value} {p q : Int} {G : List (Nd × Int)} {rc : Loop} {l : List Nd} {k : Nat}
theorem JB.frm0 (h : JB w W N b5 b6 b7 b8 b9 b10 b12 nb D ca cb t mb r c mv gv p q G rc l k) (f : Frm0 W W') : JB w W' N b5 b6 b7 b8 b9 b10 b12 nb D ca cb t mb r c mv gv p q G rc l k :=
  ⟨h.wi.frm0 f, h.bx.frm0 f, f.at0 h.n, h.g.frm f (fun _ _ h => h), f.at0 h.lp, f.at0 h.d, f.at0 h.a, f.at0 h.b, h.f.trans0 f⟩
theorem JB.setL {rc' : Loop} (h : JB w W N b5 b6 b7 b8 b9 b10 b12 nb D ca cb t mb r c mv gv p q G rc l k) (hD : w.heap.size ≤ D) : JB w (setB W (D + 1) (.loop rc')) N b5 b6 b7 b8 b9 b10 b12 nb D ca cb t mb r c mv gv p q G rc' l k :=
  ⟨h.wi.setB h.lp (oth_loop _) (fun _ => by simp [cel]), h.bx.setL h.lp, at_setB_ne _ (at_ne h.lp h.n (by simp [cel])) h.n, rowT h.lp h.g (fun _ => by simp [cel]), at_setB _ h.lp, at_setB_ne _ (by omega) h.d, at_setB_ne _ (at_ne h.lp h.a (by simp [cel])) h.a, at_setB_ne _ (at_ne h.lp h.b (by simp [cel])) h.b, h.f.setB (b := D + 1) (.inr (by omega)) _⟩
theorem JB.setN {k' : Nat} (h : JB w W N b5 b6 b7 b8 b9 b10 b12 nb D ca cb t mb r c mv gv p q G rc l k) (h6 : nb ≠ b6) (h7 : nb ≠ b7) (hb : nb ≠ cb) (hN : w.heap.size ≤ nb) : JB w (setB W nb (cel [I k'] 3)) N b5 b6 b7 b8 b9 b10 b12 nb D ca cb t mb r c mv gv p q G rc l k' :=
  ⟨h.wi.setB h.n (oth_cel (by decide) (by decide)) (fun _ => cel_ne (by decide)), h.bx.setI h.n h6 h7, at_setB _ h.n, rowT h.n h.g (fun _ => cel_ne (by decide)), at_setB_ne _ (at_ne h.n h.lp (by simp [cel])) h.lp, at_setB_ne _ (at_ne h.n h.d (by simp [cel])) h.d, keepT h.n h.a (by decide), at_setB_ne _ hb h.b, h.f.setB (b := nb) (.inr hN) _⟩
theorem JB.kp {c' : Nat} {l' : List Nd} (h : JB w W N b5 b6 b7 b8 b9 b10 b12 nb D ca cb t mb r c mv gv p q G rc l k) (k1 : Kp W W') (f : Frm0 w W') (hw : WI W' N t mb r c' l') : JB w W' N b5 b6 b7 b8 b9 b10 b12 nb D ca cb t mb r c' mv gv p q G rc l' k := by
  refine ⟨hw, h.bx.kp k1, k1.same _ _ h.n (oth_cel (by decide) (by decide)), ?_, k1.same _ _ h.lp (oth_loop _), k1.same _ _ h.d (oth_def _), k1.same _ _ h.a (oth_cel (by decide) (by decide)), k1.same _ _ h.b (oth_cel (by decide) (by decide)), f⟩
  rcases h.g with hr | ⟨b, cap, rest, hv, hA, e⟩
  · exact .inl hr
  · exact .inr ⟨b, cap, rest, hv, k1.same _ _ hA (oth_cel (by decide) (by decide)), e⟩
end
end Go.Proofs.YtbicffldggcdhaaDoor
