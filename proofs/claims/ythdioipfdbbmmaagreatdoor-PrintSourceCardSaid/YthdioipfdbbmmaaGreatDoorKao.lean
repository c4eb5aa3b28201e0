/- Contracts on the way to the laws of layer 5: LexQ, ParseFr, ParseRa, ParseWc, PrintN, PrintShelf, PrintA, ParseWd. -/
import Derived.Test.YthdioipfdbbmmaaGreatDoorKag
import Derived.Test.YthdioipfdbbmmaaGreatDoorKai
import Derived.Test.YthdioipfdbbmmaaGreatDoorKam
import Derived.Test.YthdioipfdbbmmaaGreatDoorKan
import Derived.Lib.ItoaLen
import Derived.Shelf.Strings.Builder1
import Derived.Shelf.Strings.Builder2
import Derived.Shelf.Strings.BuilderF
import Derived.Shelf.Strings.BuilderK
import Derived.Shelf.Strconv.Itoa0
import Derived.Shelf.Strconv.Itoa1
import Derived.Shelf.LaysM
import Derived.Shelf.Strconv.Itoa2
import Derived.Shelf.Strconv.Itoa3
import Derived.Shelf.Strconv.Itoa4
import Derived.Shelf.Strings.Search1
import Derived.Shelf.Strings.Prefix
import Derived.Shelf.Bits.Mul64
import Derived.Shelf.Strings.Repeat
import Derived.Ground.SlbNamesProg
import Derived.Test.YthdioipfdbbmmaaGreatDoorProg
import Derived.Lib.AppendIntMem
set_option linter.all false
set_option maxRecDepth 1000000
set_option maxHeartbeats 16000000
namespace Go.Proofs.YthdioipfdbbmmaaGreatDoor
section
theorem step_head {l : List Int} {k n : Int} {len : Nat} (h : step l = .tok k len n) : isBlank (l.getD 0 0) = false ∧ l.getD 0 0 ≠ 35 := by
 cases l with
 | nil => simp [step] at h
 | cons c r =>
  simp only [step] at h
  simp only [List.getD_cons_zero]
  split at h
  · rename_i hc
    exact letter_plain hc
  · split at h
    · rename_i hd
      simp only [isDigit, Bool.and_eq_true, decide_eq_true_eq] at hd
      refine ⟨?_, by omega⟩
      simp only [isBlank, Bool.or_eq_false_iff, beq_eq_false_iff_ne]
      omega
    · split at h
      · rename_i hm
        rcases mark_cases hm with rfl | rfl | rfl | rfl | rfl | rfl | rfl | rfl | rfl | rfl | rfl | rfl | rfl | rfl <;> decide
      · simp at h
def again : List Tok → (Nat → List Int) → List Int
 | [], _ => []
 | t :: r, f => t.text ++ (f 0 ++ again r fun i => f (i + 1))
end
section
theorem lexN_shape (f p : Nat) (l : List Int) (ts : List Tok) (hf : l.length < f) (h : lexN f p l = .ok ts) : ∃ vs, ts = vs ++ [Tok.endAt (p + l.length)] ∧ ∀ t ∈ vs, t.kind ≠ 4 ∧ t.at' ≤ p + l.length := by
 induction f generalizing p l ts with
 | zero => omega
 | succ f ih =>
  simp only [lexN] at h
  have hb := blk_le false l
  split at h
  · rename_i hd
    simp only [Except.ok.injEq] at h
    subst h
    have h2 := congrArg List.length hd
    rw [List.length_drop, List.length_nil] at h2
    exact ⟨[], by rw [show p + blk false l = p + l.length by omega]; rfl, fun t ht => by simp at ht⟩
  · rename_i c r hd
    have hcr : (c :: r).length = l.length - blk false l := by rw [← hd, List.length_drop]
    split at h
    · simp at h
    · rename_i k len n hs
      have hl := step_len hs
      cases hu : lexN f (p + blk false l + len) ((c :: r).drop len) with
      | error e => rw [hu] at h; simp [pre] at h
      | ok us =>
       rw [hu] at h
       simp only [pre, Except.ok.injEq, List.singleton_append] at h
       subst h
       obtain ⟨vs, e, hv⟩ := ih _ _ us (by rw [List.length_drop]; omega) hu
       have e2 : p + blk false l + len + ((c :: r).drop len).length = p + l.length := by rw [List.length_drop]; omega
       rw [e2] at e hv
       refine ⟨_ :: vs, by rw [e]; rfl, fun t ht => ?_⟩
       rcases List.mem_cons.1 ht with rfl | ht
       · exact ⟨by show k ≠ 4; rcases hl.2.2 with h3 | h3 | h3 <;> omega, by simp only; omega⟩
       · exact hv t ht
theorem lexS_shape {xs : List Int} {ts : List Tok} (h : lexS xs = .ok ts) : ∃ vs, ts = vs ++ [Tok.endAt xs.length] ∧ ∀ t ∈ vs, t.kind ≠ 4 ∧ t.at' ≤ xs.length := by
 have := lexN_shape (xs.length + 1) 0 xs ts (Nat.lt_succ_self _) h
 rwa [Nat.zero_add] at this
theorem ended_snoc (l : List PT) (e : PT) (he : e.kind = 4 ∧ e.txt = none0) : Ended (l ++ [e]) := by
 induction l with
 | nil => exact he
 | cons t r ih =>
  cases r with
  | nil => exact he
  | cons u r => exact ih
theorem end_pt (p : Nat) : (ptOf (Tok.endAt p)).kind = 4 ∧ (ptOf (Tok.endAt p)).txt = none0 := ⟨rfl, by simp [ptOf, Tok.endAt, strOfNums]⟩
def parseS (xs : List Int) : Except (Nat × Int) (List Nd) := match lexS xs with
 | .error e => .error e
 | .ok ts => match programP (ts.map ptOf) with
  | .err p c => .error (p, c)
  | .ok a _ => .ok (flat 0 a)
end
section
open Go.RowKit
def openN (p : List Nd) (k : Int) (a : Nat) (t : ByteArray) (n : Int) (ks : List Ast) : List Nd := p ++ ⟨k, a, t, n, heads (p.length + 1) ks⟩ :: flatL (p.length + 1) ks
theorem run_pos {p : Int → Bool} {c : Int} {r : List Int} (h : p c = true) : run p (c :: r) = run p r + 1 := by simp [run, h]
end
section
open Tr Par
def nodeRW (k : Int) (s : ByteArray) (n : Int) (l : List Int) : Bool := decide (1 ≤ k) && (decide (k ≤ 26) && (wordsR ⟨k, 0, s, n, []⟩ && kidsR k l))
theorem kinds_row (l : List Int) : kindsOf (l.map fun k => (⟨k, 0, ⟨#[]⟩, 0, []⟩ : Nd)) ⟨0, 0, ⟨#[]⟩, 0, (List.range l.length).map fun i : Nat => (i : Int)⟩ = l := by
 unfold kindsOf
 simp only [List.map_map]
 refine List.ext_getElem (by simp) fun i h1 h2 => ?_
 simp only [List.getElem_map, List.getElem_range, Function.comp, Int.toNat_natCast]
 unfold kindAt
 simp only [List.length_map, List.length_range] at h1
 simp [List.getD, h2]
theorem nodeW_eq (k : Int) (s : ByteArray) (n : Int) (l : List Int) (hl : l.length ≤ 9223372036854775807) : nodeW k s n l = nodeRW k s n l := by
 have h := nodeOk_eq (l.map fun k => (⟨k, 0, ⟨#[]⟩, 0, []⟩ : Nd)) ⟨k, 0, s, n, (List.range l.length).map fun i : Nat => (i : Int)⟩ (by simpa using hl)
 have hk : kindsOf (l.map fun k => (⟨k, 0, ⟨#[]⟩, 0, []⟩ : Nd)) ⟨k, 0, s, n, (List.range l.length).map fun i : Nat => (i : Int)⟩ = l := kinds_row l
 unfold nodeOk nodeR at h
 rw [hk] at h
 exact h
mutual
def wfR : Ast → Prop
 | .mk k _ s n ks => (nodeRW k s n (ks.map Ast.kind) = true ∧ s.size ≤ 70000) ∧ wfRL ks
def wfRL : List Ast → Prop
 | [] => True
 | x :: r => wfR x ∧ wfRL r
end
theorem wfRL_mem {l : List Ast} (h : wfRL l) : ∀ x ∈ l, wfR x := by
 induction l with
 | nil => intro x hx; simp at hx
 | cons y r ih =>
  intro x hx
  rcases List.mem_cons.1 hx with rfl | hx
  · exact h.1
  · exact ih h.2 x hx
theorem wfRL_of {l : List Ast} (h : ∀ x ∈ l, wfR x) : wfRL l := by
 induction l with
 | nil => trivial
 | cons y r ih => exact ⟨h y (by simp), ih fun x hx => h x (by simp [hx])⟩
theorem len_sizeL (l : List Ast) : l.length ≤ sizeL l := by
 induction l with
 | nil => simp [sizeL]
 | cons x r ih => have := ast_pos x; simp only [List.length_cons, sizeL]; omega
mutual
theorem wf_of : ∀ a : Ast, a.size ≤ 70000 → wfR a → wf a
 | .mk k p s n ks, h, hw => by
  simp only [Ast.size] at h
  have h1 := len_sizeL ks
  exact ⟨by rw [nodeW_eq k s n (ks.map Ast.kind) (by simp; omega)]; exact hw.1.1, wf_ofL ks (by omega) hw.2⟩
theorem wf_ofL : ∀ l : List Ast, sizeL l ≤ 70000 → wfRL l → wfL l
 | [], _, _ => trivial
 | x :: r, h, hw => by
  simp only [sizeL] at h
  exact ⟨wf_of x (by omega) hw.1, wf_ofL r (by omega) hw.2⟩
end
mutual
theorem texts_few (o : Nat) : ∀ a : Ast, wfR a → ∀ nd ∈ flat o a, nd.text.size ≤ 70000
 | .mk k p s n ks, h, nd, hnd => by
  simp only [flat, List.mem_cons] at hnd
  rcases hnd with rfl | hnd
  · exact h.1.2
  · exact texts_fewL (o + 1) ks h.2 nd hnd
theorem texts_fewL (o : Nat) : ∀ l : List Ast, wfRL l → ∀ nd ∈ flatL o l, nd.text.size ≤ 70000
 | [], _, nd, hnd => by simp [flatL] at hnd
 | x :: r, h, nd, hnd => by
  simp only [flatL, List.mem_append] at hnd
  rcases hnd with hnd | hnd
  · exact texts_few o x h.1 nd hnd
  · exact texts_fewL _ r h.2 nd hnd
end
theorem right_flatR (a : Ast) (h : a.size ≤ 70000) (hk : a.kind = 1) (hw : wfR a) : rightP (flat 0 a) = true := (right_flat a).2 ⟨hk, wf_of a h hw⟩
structure GoodP (t : PT) : Prop where
 name : t.kind = 1 → namesF (bytesI t.txt) = true ∧ t.txt.size ≤ 70000
 num : t.kind = 2 → 0 ≤ t.n ∧ t.n ≤ 2147483647
def GL (l : List PT) : Prop := ∀ t ∈ l, GoodP t
theorem GL.tail {t : PT} {l : List PT} (h : GL (t :: l)) : GL l := fun u hu => h u (by simp [hu])
def Gd {α : Type} (f : Par α) (P : α → Prop) : Prop := ∀ l, GL l → ∀ a l', f l = .ok a l' → P a ∧ GL l'
section
variable {α β : Type}
theorem Gd.pure {a : α} {P : α → Prop} (h : P a) : Gd (Par.pure a) P := fun l hl b l' e => by
 simp only [Par.pure, Res.ok.injEq] at e
 obtain ⟨rfl, rfl⟩ := e
 exact ⟨h, hl⟩
theorem Gd.bind {f : Par α} {g : α → Par β} {P : α → Prop} {Q : β → Prop} (hf : Gd f P) (hg : ∀ a, P a → Gd (g a) Q) : Gd (Par.bind f g) Q := fun l hl b l' e => by
 simp only [Par.bind] at e
 cases hfl : f l with
 | err p c => rw [hfl] at e; simp at e
 | ok a l1 =>
  rw [hfl] at e
  obtain ⟨h1, h2⟩ := hf l hl a l1 hfl
  exact hg a h1 l1 h2 b l' e
theorem Gd.mono {f : Par α} {P Q : α → Prop} (hf : Gd f P) (h : ∀ a, P a → Q a) : Gd f Q := fun l hl a l' e => ⟨h a (hf l hl a l' e).1, (hf l hl a l' e).2⟩
theorem Gd.loop {step : α → Par (Option α)} {P : α → Prop} (hs : ∀ a, P a → Gd (step a) fun o => ∀ b, o = some b → P b) : ∀ (m : Nat) (a : α), P a → Gd (Par.loop step m a) P
 | 0, a, _ => fun l _ b l' e => by simp [Par.loop] at e
 | m + 1, a, ha => by
  refine Gd.bind (hs a ha) fun o ho => ?_
  cases o with
  | none => exact Gd.pure ha
  | some b => exact Gd.loop hs m b (ho b rfl)
theorem Gd.many {step : α → Par (Option α)} {P : α → Prop} (hs : ∀ a, P a → Gd (step a) fun o => ∀ b, o = some b → P b) (a : α) (ha : P a) : Gd (Par.many step a) P := fun l => Gd.loop hs (l.length + 1) a ha l
theorem gd_isNext (s : ByteArray) : Gd (isNextP s) fun _ => True := fun l hl b l' e => by
 cases l with
 | nil => simp [isNextP] at e
 | cons t l => simp only [isNextP, Res.ok.injEq] at e; rw [← e.2]; exact ⟨trivial, hl⟩
theorem gd_skip (s : ByteArray) : Gd (skipP s) fun _ => True := fun l hl b l' e => by
 cases l with
 | nil => simp [skipP] at e
 | cons t l =>
  simp only [skipP] at e
  split at e
  · simp only [Res.ok.injEq] at e; rw [← e.2]; exact ⟨trivial, hl.tail⟩
  · simp only [Res.ok.injEq] at e; rw [← e.2]; exact ⟨trivial, hl⟩
theorem gd_expect (s : ByteArray) : Gd (expectP s) fun _ => True := fun l hl b l' e => by
 cases l with
 | nil => simp [expectP] at e
 | cons t l =>
  simp only [expectP] at e
  split at e
  · simp only [Res.ok.injEq] at e; rw [← e.2]; exact ⟨trivial, hl.tail⟩
  · simp at e
theorem gd_take (k : Int) : Gd (takeP k) fun t => t.kind = k ∧ GoodP t := fun l hl b l' e => by
 cases l with
 | nil => simp [takeP] at e
 | cons t l =>
  simp only [takeP] at e
  split at e
  · rename_i hk
    simp only [Res.ok.injEq] at e
    obtain ⟨rfl, rfl⟩ := e
    exact ⟨⟨hk, hl _ (by simp)⟩, hl.tail⟩
  · simp at e
theorem gd_peek : Gd peekP GoodP := fun l hl b l' e => by
 cases l with
 | nil => simp [peekP] at e
 | cons t l =>
  simp only [peekP, Res.ok.injEq] at e
  obtain ⟨rfl, rfl⟩ := e
  exact ⟨hl _ (by simp), hl⟩
theorem gd_enter (s : ByteArray) (r : Nat) : Gd (enterP s r) fun _ => True := fun l hl b l' e => by
 cases l with
 | nil => simp [enterP] at e
 | cons t l =>
  simp only [enterP] at e
  split at e
  · split at e
    · simp at e
    · simp only [Res.ok.injEq] at e; rw [← e.2]; exact ⟨trivial, hl.tail⟩
  · simp at e
theorem gd_fail {P : α → Prop} : Gd (failP : Par α) P := fun l hl b l' e => by cases l <;> simp [failP] at e
end
def isE (a : Ast) : Prop := wfR a ∧ isExprK a.kind = true
def isK (k : Int) (a : Ast) : Prop := wfR a ∧ a.kind = k
def isSt (a : Ast) : Prop := wfR a ∧ isStmtK a.kind = true
theorem none_named : namesF (bytesI none0) = false := by decide
theorem wf_plain {k n : Int} {p : Nat} {ks : List Ast} (h1 : 1 ≤ k) (h2 : k ≤ 26) (hn : namedR k = false) (h0 : 0 ≤ n) (hm : n ≤ mostR k) (hk : kidsR k (ks.map Ast.kind) = true) (hs : ∀ x ∈ ks, wfR x) : wfR (.mk k p none0 n ks) := by
 refine ⟨⟨?_, by decide⟩, wfRL_of hs⟩
 simp only [nodeRW, wordsR, hn, none_named, hk, decide_eq_true h1, decide_eq_true h2, decide_eq_true h0, decide_eq_true hm, show decide (none0.size = 0) = true by decide]
 rfl
theorem wf_named {k n : Int} {p : Nat} {s : ByteArray} {ks : List Ast} (h1 : 1 ≤ k) (h2 : k ≤ 26) (hn : namedR k = true) (ht : namesF (bytesI s) = true ∧ s.size ≤ 70000) (h0 : 0 ≤ n) (hm : n ≤ mostR k) (hk : kidsR k (ks.map Ast.kind) = true) (hs : ∀ x ∈ ks, wfR x) : wfR (.mk k p s n ks) := by
 refine ⟨⟨?_, ht.2⟩, wfRL_of hs⟩
 simp only [nodeRW, wordsR, hn, ht.1, hk, decide_eq_true h1, decide_eq_true h2, decide_eq_true h0, decide_eq_true hm]
 simp
end
section
open Tr
def On (ns : List Nd) (o : Nat) (x : Ast) : Prop := ∃ t, t.map noAt = ns.map noAt ∧ Lies t o x
theorem Lies.kid {t : List Nd} : ∀ (ks : List Ast) (o : Nat), LiesL t o ks → ∀ j (hj : j < ks.length), ∃ q : Nat, (heads o ks).getD j 0 = (q : Int) ∧ Lies t q ks[j]
 | [], _, _, j, hj => absurd hj (by simp)
 | x :: r, o, h, j, hj => by
  obtain ⟨h1, h2⟩ := h.head
  cases j with
  | zero => exact ⟨o, by simp [heads], h1⟩
  | succ j =>
   obtain ⟨q, e, hl⟩ := Lies.kid r _ h2 j (by simpa using hj)
   exact ⟨q, by simpa [heads] using e, hl⟩
theorem Lies.lt {t : List Nd} {o : Nat} {x : Ast} (h : Lies t o x) : o < t.length := by
 cases x with
 | mk k a s n ks => exact h.node.2
theorem noAt_len {t ns : List Nd} (h : t.map noAt = ns.map noAt) : t.length = ns.length := by
 have := congrArg List.length h
 simpa using this
theorem noAt_at {t ns : List Nd} (h : t.map noAt = ns.map noAt) (i : Nat) : noAt (t.getD i default) = noAt (ns.getD i default) := by
 rw [← noAt_get, ← noAt_get, h]
section
variable {ns : List Nd} {o : Nat} {x : Ast} {k : Int} {a : Nat} {s : ByteArray} {n : Int} {ks : List Ast}
theorem On.lt (h : On ns o x) : o < ns.length := by
 obtain ⟨t, e, hl⟩ := h
 rw [← noAt_len e]; exact hl.lt
theorem On.node (h : On ns o (.mk k a s n ks)) : ∃ a', ns.getD o default = ⟨k, a', s, n, heads (o + 1) ks⟩ := by
 obtain ⟨t, e, hl⟩ := h
 have := noAt_at e o
 rw [hl.node.1] at this
 refine ⟨(ns.getD o default).at', ?_⟩
 generalize ns.getD o default = nd at *
 cases nd
 simp only [noAt, Tr.Nd.mk.injEq] at this ⊢
 obtain ⟨h1, _, h2, h3, h4⟩ := this
 exact ⟨h1.symm, trivial, h2.symm, h3.symm, h4.symm⟩
theorem On.kid (h : On ns o (.mk k a s n ks)) (j : Nat) (hj : j < ks.length) : ∃ q : Nat, (heads (o + 1) ks).getD j 0 = (q : Int) ∧ q < ns.length ∧ On ns q ks[j] := by
 obtain ⟨t, e, hl⟩ := h
 obtain ⟨q, h1, h2⟩ := Lies.kid ks (o + 1) hl.kids j hj
 exact ⟨q, h1, by rw [← noAt_len e]; exact h2.lt, t, e, h2⟩
theorem On.size (h : On ns o x) : o + x.size ≤ ns.length := by
 obtain ⟨t, e, pre, post, rfl, rfl⟩ := h
 rw [← noAt_len e]
 simp only [List.length_append, flat_length]
 omega
theorem On.kind (h : On ns o x) : (ns.getD o default).kind = x.kind := by
 cases x with
 | mk k a s n ks => obtain ⟨a', e⟩ := h.node; rw [e]; rfl
end
mutual
theorem wfR_wfA (o : Nat) : ∀ a : Ast, a.size ≤ 70000 → (∀ nd ∈ flat o a, nd.text.size ≤ 70000) → wf a → wfR a
 | .mk k p s n ks, h, ht, hw => by
  simp only [Ast.size] at h
  have h1 := len_sizeL ks
  refine ⟨⟨by rw [← nodeW_eq _ _ _ _ (by rw [List.length_map]; omega)]; exact hw.1, ht _ (by simp only [flat]; exact List.mem_cons_self)⟩, wfR_wfL ks (o + 1) (by omega) (fun nd hm => ht nd (by simp only [flat]; exact List.mem_cons_of_mem _ hm)) hw.2⟩
theorem wfR_wfL : ∀ (l : List Ast) (o : Nat), sizeL l ≤ 70000 → (∀ nd ∈ flatL o l, nd.text.size ≤ 70000) → wfL l → wfRL l
 | [], _, _, _, _ => trivial
 | x :: r, o, h, ht, hw => by
  simp only [sizeL] at h
  exact ⟨wfR_wfA o x (by omega) (fun nd hm => ht nd (by simp only [flatL]; exact List.mem_append_left _ hm)) hw.1, wfR_wfL r _ (by omega) (fun nd hm => ht nd (by simp only [flatL]; exact List.mem_append_right _ hm)) hw.2⟩
end
theorem wfR.kids {k : Int} {a : Nat} {s : ByteArray} {n : Int} {ks : List Ast} (h : wfR (.mk k a s n ks)) {j : Nat} (hj : j < ks.length) : wfR ks[j] := wfRL_mem h.2 _ (List.getElem_mem hj)
theorem wfR.parts {k : Int} {a : Nat} {s : ByteArray} {n : Int} {ks : List Ast} (h : wfR (.mk k a s n ks)) : (1 ≤ k ∧ k ≤ 26) ∧ (0 ≤ n ∧ n ≤ mostR k) ∧ s.size ≤ 70000 ∧ kidsR k (ks.map Ast.kind) = true := by
 have h1 := h.1.1
 simp only [nodeRW, Bool.and_eq_true, decide_eq_true_eq, wordsR] at h1
 exact ⟨⟨h1.1, h1.2.1⟩, ⟨h1.2.2.1.2.2.1, h1.2.2.1.2.2.2⟩, h.1.2, h1.2.2.2⟩
theorem sizeL_mem {x : Ast} : ∀ {l : List Ast}, x ∈ l → x.size ≤ sizeL l
 | y :: r, h => by
  simp only [sizeL]
  rcases List.mem_cons.1 h with rfl | h
  · omega
  · have := sizeL_mem h; omega
theorem mostR_le (k : Int) : mostR k ≤ 2147483647 := by
 unfold mostR; split
 · omega
 · split <;> omega
theorem isExprK_iff (k : Int) : isExprK k = true ↔ 21 ≤ k ∧ k ≤ 26 := by simp [isExprK]
section
variable {ks : List Ast}
theorem shape1 (h : isR (ks.map Ast.kind) [0] = true) : ∃ x, ks = [x] ∧ isExprK x.kind = true := by
 rcases ks with _ | ⟨x, _ | ⟨y, r⟩⟩
 · simp [isR] at h
 · exact ⟨x, rfl, by simpa [isR] using h⟩
 · simp [isR] at h
theorem shape2 (h : isR (ks.map Ast.kind) [0, 0] = true) : ∃ x y, ks = [x, y] ∧ isExprK x.kind = true ∧ isExprK y.kind = true := by
 rcases ks with _ | ⟨x, _ | ⟨y, _ | ⟨z, r⟩⟩⟩
 · simp [isR] at h
 · simp [isR] at h
 · exact ⟨x, y, rfl, by simpa [isR] using h⟩
 · simp [isR] at h
theorem shape0 (h : decide ((ks.map Ast.kind).length = 0) = true) : ks = [] := by
 rcases ks with _ | ⟨x, r⟩
 · rfl
 · simp at h
end
theorem get_le : ∀ (l : List ByteArray) (i : Nat), (l.getD i none0).size ≤ (l.map ByteArray.size).sum
 | [], i => by simp [List.getD]; rfl
 | x :: r, 0 => by simp
 | x :: r, i + 1 => by have := get_le r i; simp only [List.getD_cons_succ, List.map_cons, List.sum_cons]; omega
theorem get2_le : ∀ (l : List ByteArray) (i j : Nat), i < j → (l.getD i none0).size + (l.getD j none0).size ≤ (l.map ByteArray.size).sum
 | [], i, j, _ => by simp [List.getD]; rfl
 | x :: r, 0, j + 1, _ => by have := get_le r j; simp only [List.getD_cons_zero, List.getD_cons_succ, List.map_cons, List.sum_cons]; omega
 | x :: r, i + 1, j + 1, h => by have := get2_le r i j (by omega); simp only [List.getD_cons_succ, List.map_cons, List.sum_cons]; omega
mutual
theorem exL_size (k : Int) (j : Nat) : ∀ l : List Ast, wfRL l → ((exL k j l).map ByteArray.size).sum ≤ 70100 * sizeL l
 | [], _ => by simp [exL, sizeL]
 | x :: r, h => by
  have h2 := exL_size k (j + 1) r h.2
  have h3 := ast_pos x
  simp only [exL, List.map_cons, List.sum_cons, sizeL]
  have h4 : (inB (br k (j == 1) x.kind) (exT x)).size ≤ (exT x).size + 2 := by
   unfold inB; split
   · simp only [ByteArray.size_append]
     show 1 + (exT x).size + 1 ≤ _
     omega
   · omega
  have h5 := exT_low x h.1
  omega
theorem exT_low : ∀ x : Ast, wfR x → (exT x).size + 2 ≤ 70100 * x.size
 | .mk k a s n ks, h => by
  have hp := h.parts
  have hl := exL_size k 0 ks h.2
  simp only [exT, Ast.size]
  have h01 : ((exL k 0 ks).getD 0 none0).size + ((exL k 0 ks).getD 1 none0).size ≤ 70100 * sizeL ks := Nat.le_trans (get2_le _ 0 1 (by omega)) hl
  have hnum : (numT n).size ≤ 21 := by
   unfold numT
   have := Lib.itoa_length_le n (by omega) (by have := mostR_le k; omega)
   show (Lib.itoa n).toArray.size ≤ 21
   simpa using this
  have e1 : (⟨#[91]⟩ : ByteArray).size = 1 := rfl
  have e2 : (⟨#[93]⟩ : ByteArray).size = 1 := rfl
  have e3 : (⟨#[45]⟩ : ByteArray).size = 1 := rfl
  have e4 : (markT k).size = 3 := by
   unfold markT
   split
   · rfl
   · split <;> rfl
  unfold nodeT
  split
  · simp only [ByteArray.size_append]; omega
  · split
    · omega
    · split
      · simp only [ByteArray.size_append]; omega
      · split
        · simp only [ByteArray.size_append]; omega
        · omega
end
theorem exT_size (x : Ast) (h : wfR x) : (exT x).size + 2 ≤ 70100 * x.size := exT_low x h
end
end Go.Proofs.YthdioipfdbbmmaaGreatDoor
section
namespace Go.Proofs
open Go.Shelf
def Tryz.laysM173_ren : Go.Shelf.Ren := ⟨fun | 173 => 66 | 246 => 113 | 283 => 180 | 284 => 181 | 285 => 182 | 286 => 183 | 129 => 230 | 317 => 229 | 318 => 231 | 319 => 232 | 320 => 233 | 337 => 266 | 338 => 267 | n => n, fun | 2 => 2 | 3 => 3 | 9 => 9 | 4 => 4 | 171 => 248 | 0 => 0 | 53 => 249 | 37 => 22 | 5 => 5 | 173 => 252 | 212 => 281 | 51 => 282 | 20 => 20 | 213 => 283 | 46 => 266 | 232 => 320 | 233 => 321 | n => n, fun | 17 => 2 | 18 => 3 | 19 => 4 | n => n⟩
theorem Tryz.laysM173 : Go.Proofs.LaysM.n173 Tryz.prog Tryz.laysM173_ren := {
 mixed := by kernel_rfl
 f129 := Tryz.func230.trans (congrArg some (by kernel_rfl))
 f173 := Tryz.func66.trans (congrArg some (by kernel_rfl))
 f246 := Tryz.func113.trans (congrArg some (by kernel_rfl))
 f283 := Tryz.func180.trans (congrArg some (by kernel_rfl))
 f284 := Tryz.func181.trans (congrArg some (by kernel_rfl))
 f285 := Tryz.func182.trans (congrArg some (by kernel_rfl))
 f286 := Tryz.func183.trans (congrArg some (by kernel_rfl))
 f317 := Tryz.func229.trans (congrArg some (by kernel_rfl))
 f318 := Tryz.func231.trans (congrArg some (by kernel_rfl))
 f319 := Tryz.func232.trans (congrArg some (by kernel_rfl))
 f320 := Tryz.func233.trans (congrArg some (by kernel_rfl))
 f337 := Tryz.func266.trans (congrArg some (by kernel_rfl))
 f338 := Tryz.func267.trans (congrArg some (by kernel_rfl))
 t0 := Tryz.underlying0
 a0 := Tryz.isAgg0
 z0 := Tryz.sizeOf0
 v0 := Tryz.zeroValue0
 t2 := Tryz.underlying2
 a2 := Tryz.isAgg2
 z2 := Tryz.sizeOf2
 v2 := Tryz.zeroValue2
 t3 := Tryz.underlying3
 a3 := Tryz.isAgg3
 z3 := Tryz.sizeOf3
 v3 := Tryz.zeroValue3
 t4 := Tryz.underlying4
 a4 := Tryz.isAgg4
 z4 := Tryz.sizeOf4
 v4 := Tryz.zeroValue4
 t5 := Tryz.underlying5
 a5 := Tryz.isAgg5
 z5 := Tryz.sizeOf5
 v5 := Tryz.zeroValue5
 t9 := Tryz.underlying9
 a9 := Tryz.isAgg9
 z9 := Tryz.sizeOf9
 v9 := Tryz.zeroValue9
 t20 := Tryz.underlying20
 a20 := Tryz.isAgg20
 z20 := Tryz.sizeOf20
 v20 := Tryz.zeroValue20
 t37 := Tryz.underlying22
 a37 := Tryz.isAgg22
 z37 := Tryz.sizeOf22
 v37 := Tryz.zeroValue22
 t46 := Tryz.underlying266
 a46 := Tryz.isAgg266
 z46 := Tryz.sizeOf266
 v46 := Tryz.zeroValue266
 t51 := Tryz.underlying282
 a51 := Tryz.isAgg282
 z51 := Tryz.sizeOf282
 v51 := Tryz.zeroValue282
 t53 := Tryz.underlying249
 a53 := Tryz.isAgg249
 z53 := Tryz.sizeOf249
 v53 := Tryz.zeroValue249
 t171 := Tryz.underlying248
 a171 := Tryz.isAgg248
 z171 := Tryz.sizeOf248
 v171 := Tryz.zeroValue248
 t173 := Tryz.underlying252
 a173 := Tryz.isAgg252
 z173 := Tryz.sizeOf252
 v173 := Tryz.zeroValue252
 t212 := Tryz.underlying281
 a212 := Tryz.isAgg281
 z212 := Tryz.sizeOf281
 v212 := Tryz.zeroValue281
 t213 := Tryz.underlying283
 a213 := Tryz.isAgg283
 z213 := Tryz.sizeOf283
 t232 := Tryz.underlying320
 a232 := Tryz.isAgg320
 z232 := Tryz.sizeOf320
 v232 := Tryz.zeroValue320
 t233 := Tryz.underlying321
 a233 := Tryz.isAgg321
 z233 := Tryz.sizeOf321
 v233 := Tryz.zeroValue321
 g17 := by kernel_rfl
 g18 := by kernel_rfl
 g19 := by kernel_rfl
 i0 := by kernel_rfl
 i2 := by kernel_rfl
 i3 := by kernel_rfl
 i4 := by kernel_rfl
 i5 := by kernel_rfl
 i9 := by kernel_rfl
 i20 := by kernel_rfl
 i37 := by kernel_rfl
 i46 := by kernel_rfl
 i51 := by kernel_rfl
 i53 := by kernel_rfl
 i171 := by kernel_rfl
 i173 := by kernel_rfl
 i212 := by kernel_rfl
 i232 := by kernel_rfl
 i233 := by kernel_rfl
 m17 := by kernel_rfl
 m18 := by kernel_rfl
 m19 := by kernel_rfl }
open Go.RowKit Go.Sort Go.Lib in
theorem Tryz.strconv_FormatInt_10 (n : Int) (h0 : -9223372036854775808 ≤ n) (h1 : n ≤ 9223372036854775807) (w : World) (htab : Lib.TabIs Tryz.prog w "internal/strconv.uint64pow10" .u64 Lib.pow10Tab) :
 Calls Tryz.prog 66 #[.int .i64 n, .int .i64 10] w fun e w' => e = .returned (.string ⟨(Lib.itoa n).toArray⟩) ∧ ∃ k os, w' = grow (w.drewN k) os := Any.strconv_FormatInt_10 Tryz.laysM173 n h0 h1 w htab
def Tryz.lays105_ren : Go.Shelf.Ren := ⟨fun | 105 => 224 | 212 => 209 | 99 => 261 | 165 => 262 | 166 => 263 | 170 => 264 | 169 => 265 | 263 => 244 | 264 => 245 | 206 => 285 | 240 => 286 | 241 => 287 | 276 => 291 | 277 => 292 | n => n, fun | 9 => 9 | 3 => 3 | 4 => 4 | 20 => 20 | 0 => 0 | 46 => 266 | 109 => 267 | 5 => 5 | 72 => 308 | 76 => 309 | 51 => 282 | 146 => 292 | 53 => 249 | 148 => 294 | 70 => 306 | 37 => 22 | 75 => 25 | 127 => 291 | 164 => 169 | 80 => 222 | n => n, fun | n => n⟩
theorem Tryz.lays105 : Go.Proofs.Lays.n105 Tryz.prog Tryz.lays105_ren := {
 mixed := by kernel_rfl
 f99 := Tryz.func261.trans (congrArg some (by kernel_rfl))
 f105 := Tryz.func224.trans (congrArg some (by kernel_rfl))
 f165 := Tryz.func262.trans (congrArg some (by kernel_rfl))
 f166 := Tryz.func263.trans (congrArg some (by kernel_rfl))
 f169 := Tryz.func265.trans (congrArg some (by kernel_rfl))
 f170 := Tryz.func264.trans (congrArg some (by kernel_rfl))
 f206 := Tryz.func285.trans (congrArg some (by kernel_rfl))
 f212 := Tryz.func209.trans (congrArg some (by kernel_rfl))
 f240 := Tryz.func286.trans (congrArg some (by kernel_rfl))
 f241 := Tryz.func287.trans (congrArg some (by kernel_rfl))
 f263 := Tryz.func244.trans (congrArg some (by kernel_rfl))
 f264 := Tryz.func245.trans (congrArg some (by kernel_rfl))
 f276 := Tryz.func291.trans (congrArg some (by kernel_rfl))
 f277 := Tryz.func292.trans (congrArg some (by kernel_rfl))
 t0 := Tryz.underlying0
 a0 := Tryz.isAgg0
 z0 := Tryz.sizeOf0
 v0 := Tryz.zeroValue0
 t3 := Tryz.underlying3
 a3 := Tryz.isAgg3
 z3 := Tryz.sizeOf3
 v3 := Tryz.zeroValue3
 t4 := Tryz.underlying4
 a4 := Tryz.isAgg4
 z4 := Tryz.sizeOf4
 v4 := Tryz.zeroValue4
 t5 := Tryz.underlying5
 a5 := Tryz.isAgg5
 z5 := Tryz.sizeOf5
 v5 := Tryz.zeroValue5
 t9 := Tryz.underlying9
 a9 := Tryz.isAgg9
 z9 := Tryz.sizeOf9
 v9 := Tryz.zeroValue9
 t20 := Tryz.underlying20
 a20 := Tryz.isAgg20
 z20 := Tryz.sizeOf20
 v20 := Tryz.zeroValue20
 t37 := Tryz.underlying22
 a37 := Tryz.isAgg22
 z37 := Tryz.sizeOf22
 v37 := Tryz.zeroValue22
 t46 := Tryz.underlying266
 a46 := Tryz.isAgg266
 z46 := Tryz.sizeOf266
 v46 := Tryz.zeroValue266
 t51 := Tryz.underlying282
 a51 := Tryz.isAgg282
 z51 := Tryz.sizeOf282
 v51 := Tryz.zeroValue282
 t53 := Tryz.underlying249
 a53 := Tryz.isAgg249
 z53 := Tryz.sizeOf249
 v53 := Tryz.zeroValue249
 t70 := Tryz.underlying306
 a70 := Tryz.isAgg306
 z70 := Tryz.sizeOf306
 v70 := Tryz.zeroValue306
 t72 := Tryz.underlying308
 a72 := Tryz.isAgg308
 z72 := Tryz.sizeOf308
 v72 := Tryz.zeroValue308
 t75 := Tryz.underlying25
 a75 := Tryz.isAgg25
 z75 := Tryz.sizeOf25
 v75 := Tryz.zeroValue25
 t76 := Tryz.underlying309
 a76 := Tryz.isAgg309
 z76 := Tryz.sizeOf309
 v76 := Tryz.zeroValue309
 t109 := Tryz.underlying267
 a109 := Tryz.isAgg267
 z109 := Tryz.sizeOf267
 v109 := Tryz.zeroValue267
 t127 := Tryz.underlying291
 a127 := Tryz.isAgg291
 z127 := Tryz.sizeOf291
 v127 := Tryz.zeroValue291
 t146 := Tryz.underlying292
 a146 := Tryz.isAgg292
 z146 := Tryz.sizeOf292
 v146 := Tryz.zeroValue292
 t148 := Tryz.underlying294
 a148 := Tryz.isAgg294
 z148 := Tryz.sizeOf294
 v148 := Tryz.zeroValue294
 t164 := Tryz.underlying169
 a164 := Tryz.isAgg169
 z164 := Tryz.sizeOf169
 v164 := Tryz.zeroValue169 }
theorem Tryz.Builder_Extra_105 : Builder.Extra Tryz.prog Tryz.lays105_ren := {
 sizeBuilder := by kernel_rfl
 liesBuilder := by kernel_rfl
 t5 := Tryz.underlying5
 a5 := Tryz.isAgg5
 z5 := Tryz.sizeOf5
 v5 := Tryz.zeroValue5
 infoByte := by kernel_rfl
 cellsByte := by kernel_rfl
 sizeByte := by kernel_rfl
 neB5 := by decide }
open Go.RowKit Go.Lib in
theorem Tryz.strings_Repeat (s : ByteArray) (c : Nat) (w : World) (hc : c ≤ 9223372036854775807) (hlen : s.size * c ≤ 140737488355328) :
 Calls Tryz.prog 224 #[.string s, .int .i64 c] w fun e w' => e = .returned (.string ⟨(Lib.repeatL s.data.toList c).toArray⟩) ∧ Below w.heap.size w w' := Any.strings_Repeat Tryz.lays105 Tryz.Builder_Extra_105 s c w hc hlen
end Go.Proofs
end
namespace Go.Proofs.YthdioipfdbbmmaaGreatDoor
section
open Go.RowKit Tr
def PT10 (w : World) : Prop := Lib.TabIs Tryz.prog w "internal/strconv.uint64pow10" .u64 Lib.pow10Tab
theorem fmt_at (w : World) (n : Int) (h0 : 0 ≤ n) (h1 : n ≤ 2147483647) (ht : PT10 w) : Calls Tryz.prog 66 #[.int .i64 n, .int .i64 10] w fun e w' => e = .returned (.string (numT n)) ∧ Below w.heap.size w w' :=
 (Tryz.strconv_FormatInt_10 n (by omega) (by omega) w ht).mono fun e w' ⟨h, k, os, e'⟩ => ⟨h, by rw [e']; exact Lib.below_grow _ _ (Nat.le_refl _) _ _⟩
end
section
open Tr Par
theorem gd_some {α : Type} {a : α} {P : α → Prop} (h : P a) : Gd (Par.pure (some a)) fun o => ∀ b, o = some b → P b := Gd.pure fun b e => by cases e; exact h
theorem gd_none {α : Type} {P : α → Prop} : Gd (Par.pure (none : Option α)) fun o => ∀ b, o = some b → P b := Gd.pure fun b e => by cases e
theorem mem_snoc {P : Ast → Prop} {ks : List Ast} {x : Ast} (h : ∀ y ∈ ks, P y) (hx : P x) : ∀ y ∈ ks ++ [x], P y := fun y hy => by
 rcases List.mem_append.1 hy with hy | hy
 · exact h y hy
 · rw [List.mem_singleton.1 hy]; exact hx
theorem gd_word : Gd wordP (isK 5) := Gd.bind (gd_take 1) fun t ht => Gd.pure ⟨wf_named (by decide) (by decide) rfl (ht.2.name ht.1) (by decide) (by decide) rfl (by simp), rfl⟩
theorem gd_number : Gd numberP (isK 21) := Gd.bind (gd_take 2) fun t ht => Gd.pure ⟨wf_plain (by decide) (by decide) rfl (ht.2.num ht.1).1 (ht.2.num ht.1).2 rfl (by simp), rfl⟩
theorem isE_num {a : Ast} (h : isK 21 a) : isE a := ⟨h.1, by rw [h.2]; rfl⟩
theorem isE_both {k : Int} (hk : k = 23 ∨ k = 24 ∨ k = 25) {a b : Ast} (ha : isE a) (hb : isE b) : isE (bothA k a b) := by
 have hks : kidsR k ([a, b].map Ast.kind) = true := by
  rcases hk with rfl | rfl | rfl <;> simp [kidsR, isR, ha.2, hb.2]
 refine ⟨wf_plain (by omega) (by omega) (by rcases hk with rfl | rfl | rfl <;> rfl) (by omega) (by rcases hk with rfl | rfl | rfl <;> decide) hks (by simp [ha.1, hb.1]), ?_⟩
 rcases hk with rfl | rfl | rfl <;> rfl
theorem gd_times {fac : Par Ast} (h : Gd fac isE) (a : Ast) (ha : isE a) : Gd (timesStep fac a) fun o => ∀ b, o = some b → isE b := Gd.bind (gd_skip _) fun b _ => by
 cases b with
 | true => exact Gd.bind h fun b hb => Gd.pure fun x e => by simp only [Option.some.injEq] at e; subst e; exact isE_both (by decide) ha hb
 | false => exact Gd.pure fun x e => by simp at e
theorem gd_term {fac : Par Ast} (h : Gd fac isE) : Gd (termP fac) isE := Gd.bind h fun a ha => Gd.many (fun a ha => gd_times h a ha) a ha
theorem gd_sum {fac : Par Ast} (h : Gd fac isE) (a : Ast) (ha : isE a) : Gd (sumStep fac a) fun o => ∀ b, o = some b → isE b := Gd.bind (gd_skip _) fun b _ => by
 cases b with
 | true => exact Gd.bind (gd_term h) fun b hb => Gd.pure fun x e => by simp only [Option.some.injEq] at e; subst e; exact isE_both (by decide) ha hb
 | false =>
  refine Gd.bind (gd_skip _) fun b _ => ?_
  cases b with
  | true => exact Gd.bind (gd_term h) fun b hb => Gd.pure fun x e => by simp only [Option.some.injEq] at e; subst e; exact isE_both (by decide) ha hb
  | false => exact Gd.pure fun x e => by simp at e
theorem gd_exprP {fac : Par Ast} (h : Gd fac isE) : Gd (exprP fac) isE := Gd.bind (gd_term h) fun a ha => Gd.many (fun a ha => gd_sum h a ha) a ha
theorem gd_peeked {β : Type} {g : PT → Par β} {P : β → Prop} (h : ∀ u l, GL (u :: l) → ∀ a l', g u (u :: l) = .ok a l' → P a ∧ GL l') : Gd (Par.bind peekP g) P := fun l hl a l' e => by
 cases l with
 | nil => simp [Par.bind, peekP] at e
 | cons u l => exact h u l hl a l' e
theorem gd_factorOf {r : Nat} {fac : Par Ast} (h : Gd fac isE) : Gd (factorOf r fac) isE := gd_peeked fun u l hl a l' e => by
 split at e
 · exact (Gd.mono gd_number fun a ha => isE_num ha) _ hl a l' e
 · split at e
   · rename_i hk
     simp only [Par.bind, nextP, Par.pure, Res.ok.injEq] at e
     obtain ⟨rfl, rfl⟩ := e
     exact ⟨⟨wf_named (by decide) (by decide) rfl ((hl u (by simp)).name hk) (by decide) (by decide) rfl (by simp), rfl⟩, hl.tail⟩
   · split at e
     · exact (show Gd (bracketP r (exprP fac)) isE from Gd.bind (gd_enter _ _) fun _ _ => Gd.bind (gd_exprP h) fun a ha => Gd.bind (gd_expect _) fun _ _ => Gd.pure ha) _ hl a l' e
     · split at e
       · exact (show Gd (negP r fac) isE from Gd.bind (gd_enter _ _) fun p _ => Gd.bind h fun a ha => Gd.pure ⟨wf_plain (by decide) (by decide) rfl (by decide) (by decide) (by simp [kidsR, isR, ha.2]) (by simp [ha.1]), rfl⟩) _ hl a l' e
       · exact gd_fail _ hl a l' e
theorem gd_factor : ∀ r, Gd (factorP r) isE
 | 0 => gd_factorOf gd_fail
 | r + 1 => gd_factorOf (gd_factor r)
theorem gd_expr (r : Nat) : Gd (exprR r) isE := gd_exprP (gd_factor r)
def isW (ks : List Ast) : Prop := (∀ x ∈ ks, isK 5 x) ∧ 0 < ks.length
theorem gd_words : Gd wordsP isW := Gd.bind gd_word fun w hw => Gd.many (fun ks hk => Gd.bind (gd_skip _) fun b _ => match b with
 | true => Gd.bind gd_word fun w hw => gd_some ⟨mem_snoc hk.1 hw, by simp⟩
 | false => gd_none) [w] ⟨fun y hy => by rw [List.mem_singleton.1 hy]; exact hw, by simp⟩
theorem gd_rowOf (r : Nat) {t : PT} (ht : t.kind = 1 ∧ GoodP t) : Gd (rowOfP r t) (isK 20) := Gd.bind (gd_enter _ _) fun _ _ => Gd.bind (gd_expr _) fun k hk => Gd.bind (gd_expect _) fun _ _ =>
 Gd.pure ⟨wf_named (by decide) (by decide) rfl (ht.2.name ht.1) (by decide) (by decide) (by simp [kidsR, isR, hk.2]) (by simp [hk.1]), rfl⟩
theorem gd_row (r : Nat) : Gd (rowP r) (isK 20) := Gd.bind (gd_take 1) fun t ht => gd_rowOf r ht
theorem gd_cell (r : Nat) : Gd (cellP r) fun x => isK 20 x.1 ∧ isK 5 x.2 := Gd.bind (gd_row r) fun a ha => Gd.bind (gd_expect _) fun _ _ => Gd.bind gd_word fun b hb => Gd.pure ⟨ha, hb⟩
theorem gd_end {a : Ast} {P : Ast → Prop} (h : P a) : Gd (endP a) P := Gd.bind (gd_expect _) fun _ _ => Gd.pure h
theorem gd_read (r p : Nat) : Gd (readP r p) isSt := Gd.bind (gd_take 1) fun t ht => Gd.bind (gd_expect _) fun _ _ => Gd.bind (gd_cell r) fun rc hc => Gd.bind (gd_skip _) fun b _ => by
 have hk : kidsR 7 ([rc.1, rc.2].map Ast.kind) = true := by simp [kidsR, isR, hc.1.2, hc.2.2]
 cases b with
 | true => exact Gd.bind (gd_expect _) fun _ _ => gd_end ⟨wf_named (by decide) (by decide) rfl (ht.2.name ht.1) (by decide) (by decide) hk (by simp [hc.1.1, hc.2.1]), rfl⟩
 | false => exact gd_end ⟨wf_named (by decide) (by decide) rfl (ht.2.name ht.1) (by decide) (by decide) hk (by simp [hc.1.1, hc.2.1]), rfl⟩
theorem gd_set (r p : Nat) : Gd (setP r p) isSt := Gd.bind (gd_cell r) fun rc hc => Gd.bind (gd_expect _) fun _ _ => Gd.bind (gd_expr r) fun v hv =>
 gd_end ⟨wf_plain (by decide) (by decide) rfl (by decide) (by decide) (by simp [kidsR, isR, hc.1.2, hc.2.2, hv.2]) (by simp [hc.1.1, hc.2.1, hv.1]), rfl⟩
def isPut (ks : List Ast) : Prop := ∃ a b es, ks = a :: b :: es ∧ isK 20 a ∧ isE b ∧ ∀ x ∈ es, isE x
theorem put_snoc {ks : List Ast} {w : Ast} (hk : isPut ks) (hw : isE w) : isPut (ks ++ [w]) := by
 obtain ⟨a, b, es, rfl, h1, h2, h3⟩ := hk
 exact ⟨a, b, es ++ [w], rfl, h1, h2, mem_snoc h3 hw⟩
theorem gd_put (r p : Nat) : Gd (putP r p) isSt := Gd.bind (gd_row r) fun a ha => Gd.bind (gd_expect _) fun _ _ => Gd.bind (gd_expr r) fun e he =>
 Gd.bind (P := isPut) (Gd.many (P := isPut) (step := putStep r) (fun ks hk => Gd.bind (gd_skip ⟨#[44]⟩) fun b _ => match b with
  | true => Gd.bind (gd_expr r) fun w hw => gd_some (put_snoc hk hw)
  | false => gd_none) [a, e] ⟨a, e, [], rfl, ha, he, by simp⟩)
 fun ks hk => Gd.bind (gd_expect _) fun _ _ => by
  obtain ⟨a, b, es, rfl, h1, h2, h3⟩ := hk
  refine gd_end ⟨wf_plain (by decide) (by decide) rfl (by decide) (by decide) ?_ ?_, rfl⟩
  · simp only [kidsR, List.map_cons, List.length_cons, List.length_map]
    have : (es.map Ast.kind).all isExprK = true := by
     rw [List.all_eq_true]
     intro k hk
     obtain ⟨x, hx, rfl⟩ := List.mem_map.1 hk
     exact (h3 x hx).2
    simp [h1.2, h2.2]
    intro x hx
    exact (h3 x hx).2
  · intro x hx
    simp only [List.mem_cons] at hx
    rcases hx with rfl | rfl | hx
    · exact h1.1
    · exact h2.1
    · exact (h3 x hx).1
theorem gd_delete (r p : Nat) : Gd (deleteP r p) isSt := Gd.bind (gd_row r) fun a ha => gd_end ⟨wf_plain (by decide) (by decide) rfl (by decide) (by decide) (by simp [kidsR, isR, ha.2]) (by simp [ha.1]), rfl⟩
theorem gd_scan (p : Nat) : Gd (scanP p) isSt := Gd.bind (gd_take 1) fun t ht => Gd.bind (gd_expect _) fun _ _ => Gd.bind gd_word fun a ha => Gd.bind (gd_expect _) fun _ _ => Gd.bind gd_word fun b hb =>
 gd_end ⟨wf_named (by decide) (by decide) rfl (ht.2.name ht.1) (by decide) (by decide) (by simp [kidsR, isR, ha.2, hb.2]) (by simp [ha.1, hb.1]), rfl⟩
theorem gd_lock (p : Nat) : Gd (lockP p) isSt := Gd.bind gd_word fun a ha => Gd.bind (gd_skip _) fun b _ => by
 have hk : kidsR 12 ([a].map Ast.kind) = true := by simp [kidsR, isR, ha.2]
 cases b with
 | true => exact gd_end ⟨wf_plain (by decide) (by decide) rfl (by decide) (by decide) hk (by simp [ha.1]), rfl⟩
 | false => exact Gd.bind (gd_expect _) fun _ _ => gd_end ⟨wf_plain (by decide) (by decide) rfl (by decide) (by decide) hk (by simp [ha.1]), rfl⟩
theorem gd_release (r p : Nat) : Gd (releaseP r p) isSt := Gd.bind (gd_take 1) fun t ht => Gd.bind (gd_isNext _) fun b _ => by
 cases b with
 | true => exact Gd.bind (gd_rowOf r ht) fun a ha => gd_end ⟨wf_plain (by decide) (by decide) rfl (by decide) (by decide) (by simp [kidsR, isR, ha.2]) (by simp [ha.1]), rfl⟩
 | false =>
  have hw : isK 5 (wordA t) := ⟨wf_named (by decide) (by decide) rfl (ht.2.name ht.1) (by decide) (by decide) rfl (by simp), rfl⟩
  exact gd_end ⟨wf_plain (by decide) (by decide) rfl (by decide) (by decide) (by simp [kidsR, isR, hw.2]) (by simp [hw.1]), rfl⟩
theorem gd_ifTail {B : Par Ast} (hB : Gd B (isK 6)) (p : Nat) {n : Int} (hn : n = 0 ∨ n = 1) {a b : Ast} (ha : isE a) (hb : isE b) : Gd (ifTail B p n a b) isSt := Gd.bind hB fun c hc => Gd.bind (gd_skip _) fun q _ => by
 have h0 : 0 ≤ n := by omega
 have h1 : n ≤ mostR 14 := by show n ≤ 1; omega
 cases q with
 | true => exact Gd.bind hB fun d hd => Gd.pure ⟨wf_plain (by decide) (by decide) rfl h0 h1 (by simp [kidsR, isR, ha.2, hb.2, hc.2, hd.2]) (by simp [ha.1, hb.1, hc.1, hd.1]), rfl⟩
 | false => exact Gd.pure ⟨wf_plain (by decide) (by decide) rfl h0 h1 (by simp [kidsR, isR, ha.2, hb.2, hc.2]) (by simp [ha.1, hb.1, hc.1]), rfl⟩
theorem gd_if (r : Nat) {B : Par Ast} (hB : Gd B (isK 6)) (p : Nat) : Gd (ifP r B p) isSt := Gd.bind (gd_expr r) fun a ha => Gd.bind (gd_skip _) fun b _ => by
 cases b with
 | true => exact Gd.bind (gd_expr r) fun b hb => gd_ifTail hB p (Or.inr rfl) ha hb
 | false => exact Gd.bind (gd_expect _) fun _ _ => Gd.bind (gd_expr r) fun b hb => gd_ifTail hB p (Or.inl rfl) ha hb
theorem gd_for {B : Par Ast} (hB : Gd B (isK 6)) (p : Nat) : Gd (forP B p) isSt := Gd.bind (gd_take 1) fun t ht => Gd.bind (gd_expect _) fun _ _ => Gd.bind gd_number fun a ha => Gd.bind (gd_expect _) fun _ _ => Gd.bind gd_number fun b hb => Gd.bind hB fun c hc =>
 Gd.pure ⟨wf_named (by decide) (by decide) rfl (ht.2.name ht.1) (by decide) (by decide) (by simp [kidsR, isR, ha.2, hb.2, hc.2]) (by simp [ha.1, hb.1, hc.1]), rfl⟩
theorem gd_let (r p : Nat) : Gd (letP r p) isSt := Gd.bind (gd_take 1) fun t ht => Gd.bind (gd_expect _) fun _ _ => Gd.bind (gd_expr r) fun v hv =>
 gd_end ⟨wf_named (by decide) (by decide) rfl (ht.2.name ht.1) (by decide) (by decide) (by simp [kidsR, isR, hv.2]) (by simp [hv.1]), rfl⟩
theorem gd_emit (r p : Nat) : Gd (emitP r p) isSt := Gd.bind (gd_expr r) fun v hv => gd_end ⟨wf_plain (by decide) (by decide) rfl (by decide) (by decide) (by simp [kidsR, isR, hv.2]) (by simp [hv.1]), rfl⟩
theorem gd_rest (r : Nat) {B : Par Ast} (hB : Gd B (isK 6)) (j p : Nat) : Gd (restP r B j p) isSt := by
 unfold restP
 split
 · exact gd_read r p
 · exact gd_set r p
 · exact gd_put r p
 · exact gd_delete r p
 · exact gd_scan p
 · exact gd_lock p
 · exact gd_release r p
 · exact gd_if r hB p
 · exact gd_for hB p
 · exact gd_let r p
 · exact gd_emit r p
 · exact gd_end ⟨wf_plain (by decide) (by decide) rfl (by decide) (by decide) rfl (by simp), rfl⟩
 · exact gd_end ⟨wf_plain (by decide) (by decide) rfl (by decide) (by decide) rfl (by simp), rfl⟩
 · exact gd_fail
theorem gd_stmt (r : Nat) {B : Par Ast} (hB : Gd B (isK 6)) : Gd (stmtP r B) isSt := gd_peeked fun u l hl a l' e => by
 split at e
 · simp only [Par.bind, nextP] at e
   exact gd_rest r hB _ _ l hl.tail a l' e
 · exact gd_fail _ hl a l' e
theorem gd_blockOf {r : Nat} {st : Par Ast} (h : Gd st isSt) : Gd (blockOf r st) (isK 6) := Gd.bind (gd_enter _ _) fun p _ =>
 Gd.bind (P := fun ks => ∀ x ∈ ks, isSt x) (Gd.many (fun ks hk => Gd.bind (gd_isNext _) fun b _ => match b with
  | true => gd_none
  | false => Gd.bind h fun s hs => gd_some (mem_snoc hk hs)) [] (by simp))
 fun ks hk => Gd.bind (gd_expect _) fun _ _ => Gd.pure ⟨wf_plain (by decide) (by decide) rfl (by decide) (by decide) (by
  simp only [kidsR]
  simp
  exact fun x hx => (hk x hx).2) (fun x hx => (hk x hx).1), rfl⟩
theorem gd_block : ∀ r, Gd (blockP r) (isK 6)
 | 0 => gd_blockOf gd_fail
 | r + 1 => gd_blockOf (gd_stmt r (gd_block r))
theorem all5 {ks : List Ast} (h : ∀ x ∈ ks, isK 5 x) : (ks.map Ast.kind).all (· == 5) = true := by
 rw [List.all_eq_true]
 intro k hk
 obtain ⟨x, hx, rfl⟩ := List.mem_map.1 hk
 simp [(h x hx).2]
theorem gd_names : Gd namesP (isK 4) := Gd.bind gd_peek fun t _ => Gd.bind (gd_isNext _) fun b _ => by
 cases b with
 | true => exact Gd.pure ⟨wf_plain (by decide) (by decide) rfl (by decide) (by decide) rfl (by simp), rfl⟩
 | false => exact Gd.bind gd_words fun ks hk => Gd.pure ⟨wf_plain (by decide) (by decide) rfl (by decide) (by decide) (by simp only [kidsR]; exact all5 hk.1) (fun x hx => (hk.1 x hx).1), rfl⟩
def isPart (a : Ast) : Prop := wfR a ∧ (a.kind = 2 ∨ a.kind = 3)
theorem gd_table : Gd tableP isPart := Gd.bind (gd_expect _) fun p _ => Gd.bind (gd_take 1) fun t ht => Gd.bind (gd_expect _) fun _ _ => Gd.bind gd_words fun ks hk => Gd.bind (gd_expect _) fun _ _ =>
 gd_end ⟨wf_named (by decide) (by decide) rfl (ht.2.name ht.1) (by decide) (by decide) (by
  have h1 := all5 hk.1
  have h2 : 0 < (ks.map Ast.kind).length := by simpa using hk.2
  show (decide (0 < (ks.map Ast.kind).length) && (ks.map Ast.kind).all (· == 5)) = true
  rw [h1, decide_eq_true h2]; rfl) (fun x hx => (hk.1 x hx).1), Or.inl rfl⟩
theorem gd_proc : Gd procP isPart := Gd.bind (gd_expect _) fun p _ => Gd.bind (gd_take 1) fun t ht => Gd.bind (gd_expect _) fun _ _ => Gd.bind gd_names fun ns hn => Gd.bind (gd_expect _) fun _ _ => Gd.bind (gd_skip _) fun b _ => by
 cases b with
 | true => exact Gd.bind (gd_block 64) fun b hb => Gd.pure ⟨wf_named (by decide) (by decide) rfl (ht.2.name ht.1) (by decide) (by decide) (by simp [kidsR, isR, hn.2, hb.2]) (by simp [hn.1, hb.1]), Or.inr rfl⟩
 | false => exact Gd.bind (gd_block 64) fun b hb => Gd.pure ⟨wf_named (by decide) (by decide) rfl (ht.2.name ht.1) (by decide) (by decide) (by simp [kidsR, isR, hn.2, hb.2]) (by simp [hn.1, hb.1]), Or.inr rfl⟩
theorem gd_progStep {ks : List Ast} (hk : ∀ x ∈ ks, isPart x) : Gd (progStep ks) fun o => ∀ b, o = some b → ∀ x ∈ b, isPart x := gd_peeked fun u l hl a l' e => by
 split at e
 · exact (gd_none (P := fun b : List Ast => ∀ x ∈ b, isPart x)) _ hl a l' e
 · have h1 : ∀ b : Bool, Gd (match b with | true => Par.bind tableP fun a => Par.pure (some (ks ++ [a])) | false => Par.bind procP fun a => Par.pure (some (ks ++ [a]))) fun o => ∀ b, o = some b → ∀ x ∈ b, isPart x := fun b => match b with
    | true => Gd.bind gd_table fun a ha => gd_some (mem_snoc hk ha)
    | false => Gd.bind gd_proc fun a ha => gd_some (mem_snoc hk ha)
   exact (Gd.bind (gd_isNext _) fun b _ => h1 b) _ hl a l' e
theorem gd_program : Gd programP fun a => wfR a ∧ a.kind = 1 := Gd.bind gd_peek fun t _ =>
 Gd.bind (P := fun ks => ∀ x ∈ ks, isPart x) (Gd.many (fun ks hk => gd_progStep hk) [] (by simp))
 fun ks hk => Gd.pure ⟨wf_plain (by decide) (by decide) rfl (by decide) (by decide) (by
  simp only [kidsR]
  simp
  exact fun x hx => (hk x hx).2) (fun x hx => (hk x hx).1), rfl⟩
end
end Go.Proofs.YthdioipfdbbmmaaGreatDoor
