/- Contracts on the way to the laws of layer 5: LexQ, ParseFr, ParseRa, ParseWc, PrintN, PrintShelf, PrintA. -/
import Derived.Test.YthdioipfdbbmmaaGreatDoorKag
import Derived.Test.YthdioipfdbbmmaaGreatDoorKai
import Derived.Test.YthdioipfdbbmmaaGreatDoorKam
import Derived.Lib.ItoaLen
import Derived.Shelf.Strings.Builder1
import Derived.Shelf.Strings.Builder2
import Derived.Shelf.Strings.BuilderF
import Derived.Shelf.Strings.BuilderK
import Derived.Shelf.Strconv.Itoa0
import Derived.Shelf.Strconv.Itoa1
import Derived.Shelf.LaysM
import Derived.Shelf.Strconv.Itoa2
import Derived.Shelf.Strconv.Itoa3
import Derived.Shelf.Strconv.Itoa4
import Derived.Shelf.Strings.Search1
import Derived.Shelf.Strings.Prefix
import Derived.Shelf.Bits.Mul64
import Derived.Shelf.Strings.Repeat
import Derived.Ground.SlbNamesProg
import Derived.Test.YthdioipfdbbmmaaGreatDoorProg
import Derived.Lib.AppendIntMem
set_option linter.all false
set_option maxRecDepth 1000000
set_option maxHeartbeats 16000000
namespace Go.Proofs.YthdioipfdbbmmaaGreatDoor
section
theorem step_head {l : List Int} {k n : Int} {len : Nat} (h : step l = .tok k len n) : isBlank (l.getD 0 0) = false ∧ l.getD 0 0 ≠ 35 := by
 cases l with
 | nil => simp [step] at h
 | cons c r =>
  simp only [step] at h
  simp only [List.getD_cons_zero]
  split at h
  · rename_i hc
    exact letter_plain hc
  · split at h
    · rename_i hd
      simp only [isDigit, Bool.and_eq_true, decide_eq_true_eq] at hd
      refine ⟨?_, by omega⟩
      simp only [isBlank, Bool.or_eq_false_iff, beq_eq_false_iff_ne]
      omega
    · split at h
      · rename_i hm
        rcases mark_cases hm with rfl | rfl | rfl | rfl | rfl | rfl | rfl | rfl | rfl | rfl | rfl | rfl | rfl | rfl <;> decide
      · simp at h
end
section
theorem lexN_shape (f p : Nat) (l : List Int) (ts : List Tok) (hf : l.length < f) (h : lexN f p l = .ok ts) : ∃ vs, ts = vs ++ [Tok.endAt (p + l.length)] ∧ ∀ t ∈ vs, t.kind ≠ 4 ∧ t.at' ≤ p + l.length := by
 induction f generalizing p l ts with
 | zero => omega
 | succ f ih =>
  simp only [lexN] at h
  have hb := blk_le false l
  split at h
  · rename_i hd
    simp only [Except.ok.injEq] at h
    subst h
    have h2 := congrArg List.length hd
    rw [List.length_drop, List.length_nil] at h2
    exact ⟨[], by rw [show p + blk false l = p + l.length by omega]; rfl, fun t ht => by simp at ht⟩
  · rename_i c r hd
    have hcr : (c :: r).length = l.length - blk false l := by rw [← hd, List.length_drop]
    split at h
    · simp at h
    · rename_i k len n hs
      have hl := step_len hs
      cases hu : lexN f (p + blk false l + len) ((c :: r).drop len) with
      | error e => rw [hu] at h; simp [pre] at h
      | ok us =>
       rw [hu] at h
       simp only [pre, Except.ok.injEq, List.singleton_append] at h
       subst h
       obtain ⟨vs, e, hv⟩ := ih _ _ us (by rw [List.length_drop]; omega) hu
       have e2 : p + blk false l + len + ((c :: r).drop len).length = p + l.length := by rw [List.length_drop]; omega
       rw [e2] at e hv
       refine ⟨_ :: vs, by rw [e]; rfl, fun t ht => ?_⟩
       rcases List.mem_cons.1 ht with rfl | ht
       · exact ⟨by show k ≠ 4; rcases hl.2.2 with h3 | h3 | h3 <;> omega, by simp only; omega⟩
       · exact hv t ht
theorem lexS_shape {xs : List Int} {ts : List Tok} (h : lexS xs = .ok ts) : ∃ vs, ts = vs ++ [Tok.endAt xs.length] ∧ ∀ t ∈ vs, t.kind ≠ 4 ∧ t.at' ≤ xs.length := by
 have := lexN_shape (xs.length + 1) 0 xs ts (Nat.lt_succ_self _) h
 rwa [Nat.zero_add] at this
theorem ended_snoc (l : List PT) (e : PT) (he : e.kind = 4 ∧ e.txt = none0) : Ended (l ++ [e]) := by
 induction l with
 | nil => exact he
 | cons t r ih =>
  cases r with
  | nil => exact he
  | cons u r => exact ih
theorem end_pt (p : Nat) : (ptOf (Tok.endAt p)).kind = 4 ∧ (ptOf (Tok.endAt p)).txt = none0 := ⟨rfl, by simp [ptOf, Tok.endAt, strOfNums]⟩
def parseS (xs : List Int) : Except (Nat × Int) (List Nd) := match lexS xs with
 | .error e => .error e
 | .ok ts => match programP (ts.map ptOf) with
  | .err p c => .error (p, c)
  | .ok a _ => .ok (flat 0 a)
end
section
open Go.RowKit
def openN (p : List Nd) (k : Int) (a : Nat) (t : ByteArray) (n : Int) (ks : List Ast) : List Nd := p ++ ⟨k, a, t, n, heads (p.length + 1) ks⟩ :: flatL (p.length + 1) ks
end
section
open Tr Par
def nodeRW (k : Int) (s : ByteArray) (n : Int) (l : List Int) : Bool := decide (1 ≤ k) && (decide (k ≤ 26) && (wordsR ⟨k, 0, s, n, []⟩ && kidsR k l))
theorem kinds_row (l : List Int) : kindsOf (l.map fun k => (⟨k, 0, ⟨#[]⟩, 0, []⟩ : Nd)) ⟨0, 0, ⟨#[]⟩, 0, (List.range l.length).map fun i : Nat => (i : Int)⟩ = l := by
 unfold kindsOf
 simp only [List.map_map]
 refine List.ext_getElem (by simp) fun i h1 h2 => ?_
 simp only [List.getElem_map, List.getElem_range, Function.comp, Int.toNat_natCast]
 unfold kindAt
 simp only [List.length_map, List.length_range] at h1
 simp [List.getD, h2]
theorem nodeW_eq (k : Int) (s : ByteArray) (n : Int) (l : List Int) (hl : l.length ≤ 9223372036854775807) : nodeW k s n l = nodeRW k s n l := by
 have h := nodeOk_eq (l.map fun k => (⟨k, 0, ⟨#[]⟩, 0, []⟩ : Nd)) ⟨k, 0, s, n, (List.range l.length).map fun i : Nat => (i : Int)⟩ (by simpa using hl)
 have hk : kindsOf (l.map fun k => (⟨k, 0, ⟨#[]⟩, 0, []⟩ : Nd)) ⟨k, 0, s, n, (List.range l.length).map fun i : Nat => (i : Int)⟩ = l := kinds_row l
 unfold nodeOk nodeR at h
 rw [hk] at h
 exact h
mutual
def wfR : Ast → Prop
 | .mk k _ s n ks => (nodeRW k s n (ks.map Ast.kind) = true ∧ s.size ≤ 70000) ∧ wfRL ks
def wfRL : List Ast → Prop
 | [] => True
 | x :: r => wfR x ∧ wfRL r
end
theorem wfRL_mem {l : List Ast} (h : wfRL l) : ∀ x ∈ l, wfR x := by
 induction l with
 | nil => intro x hx; simp at hx
 | cons y r ih =>
  intro x hx
  rcases List.mem_cons.1 hx with rfl | hx
  · exact h.1
  · exact ih h.2 x hx
theorem wfRL_of {l : List Ast} (h : ∀ x ∈ l, wfR x) : wfRL l := by
 induction l with
 | nil => trivial
 | cons y r ih => exact ⟨h y (by simp), ih fun x hx => h x (by simp [hx])⟩
theorem len_sizeL (l : List Ast) : l.length ≤ sizeL l := by
 induction l with
 | nil => simp [sizeL]
 | cons x r ih => have := ast_pos x; simp only [List.length_cons, sizeL]; omega
structure GoodP (t : PT) : Prop where
 name : t.kind = 1 → namesF (bytesI t.txt) = true ∧ t.txt.size ≤ 70000
 num : t.kind = 2 → 0 ≤ t.n ∧ t.n ≤ 2147483647
def GL (l : List PT) : Prop := ∀ t ∈ l, GoodP t
theorem GL.tail {t : PT} {l : List PT} (h : GL (t :: l)) : GL l := fun u hu => h u (by simp [hu])
def Gd {α : Type} (f : Par α) (P : α → Prop) : Prop := ∀ l, GL l → ∀ a l', f l = .ok a l' → P a ∧ GL l'
section
variable {α β : Type}
theorem Gd.pure {a : α} {P : α → Prop} (h : P a) : Gd (Par.pure a) P := fun l hl b l' e => by
 simp only [Par.pure, Res.ok.injEq] at e
 obtain ⟨rfl, rfl⟩ := e
 exact ⟨h, hl⟩
theorem Gd.bind {f : Par α} {g : α → Par β} {P : α → Prop} {Q : β → Prop} (hf : Gd f P) (hg : ∀ a, P a → Gd (g a) Q) : Gd (Par.bind f g) Q := fun l hl b l' e => by
 simp only [Par.bind] at e
 cases hfl : f l with
 | err p c => rw [hfl] at e; simp at e
 | ok a l1 =>
  rw [hfl] at e
  obtain ⟨h1, h2⟩ := hf l hl a l1 hfl
  exact hg a h1 l1 h2 b l' e
theorem Gd.mono {f : Par α} {P Q : α → Prop} (hf : Gd f P) (h : ∀ a, P a → Q a) : Gd f Q := fun l hl a l' e => ⟨h a (hf l hl a l' e).1, (hf l hl a l' e).2⟩
theorem Gd.loop {step : α → Par (Option α)} {P : α → Prop} (hs : ∀ a, P a → Gd (step a) fun o => ∀ b, o = some b → P b) : ∀ (m : Nat) (a : α), P a → Gd (Par.loop step m a) P
 | 0, a, _ => fun l _ b l' e => by simp [Par.loop] at e
 | m + 1, a, ha => by
  refine Gd.bind (hs a ha) fun o ho => ?_
  cases o with
  | none => exact Gd.pure ha
  | some b => exact Gd.loop hs m b (ho b rfl)
theorem Gd.many {step : α → Par (Option α)} {P : α → Prop} (hs : ∀ a, P a → Gd (step a) fun o => ∀ b, o = some b → P b) (a : α) (ha : P a) : Gd (Par.many step a) P := fun l => Gd.loop hs (l.length + 1) a ha l
end
end
section
open Tr
def On (ns : List Nd) (o : Nat) (x : Ast) : Prop := ∃ t, t.map noAt = ns.map noAt ∧ Lies t o x
theorem Lies.kid {t : List Nd} : ∀ (ks : List Ast) (o : Nat), LiesL t o ks → ∀ j (hj : j < ks.length), ∃ q : Nat, (heads o ks).getD j 0 = (q : Int) ∧ Lies t q ks[j]
 | [], _, _, j, hj => absurd hj (by simp)
 | x :: r, o, h, j, hj => by
  obtain ⟨h1, h2⟩ := h.head
  cases j with
  | zero => exact ⟨o, by simp [heads], h1⟩
  | succ j =>
   obtain ⟨q, e, hl⟩ := Lies.kid r _ h2 j (by simpa using hj)
   exact ⟨q, by simpa [heads] using e, hl⟩
theorem Lies.lt {t : List Nd} {o : Nat} {x : Ast} (h : Lies t o x) : o < t.length := by
 cases x with
 | mk k a s n ks => exact h.node.2
theorem noAt_len {t ns : List Nd} (h : t.map noAt = ns.map noAt) : t.length = ns.length := by
 have := congrArg List.length h
 simpa using this
theorem noAt_at {t ns : List Nd} (h : t.map noAt = ns.map noAt) (i : Nat) : noAt (t.getD i default) = noAt (ns.getD i default) := by
 rw [← noAt_get, ← noAt_get, h]
section
variable {ns : List Nd} {o : Nat} {x : Ast} {k : Int} {a : Nat} {s : ByteArray} {n : Int} {ks : List Ast}
theorem On.lt (h : On ns o x) : o < ns.length := by
 obtain ⟨t, e, hl⟩ := h
 rw [← noAt_len e]; exact hl.lt
theorem On.node (h : On ns o (.mk k a s n ks)) : ∃ a', ns.getD o default = ⟨k, a', s, n, heads (o + 1) ks⟩ := by
 obtain ⟨t, e, hl⟩ := h
 have := noAt_at e o
 rw [hl.node.1] at this
 refine ⟨(ns.getD o default).at', ?_⟩
 generalize ns.getD o default = nd at *
 cases nd
 simp only [noAt, Tr.Nd.mk.injEq] at this ⊢
 obtain ⟨h1, _, h2, h3, h4⟩ := this
 exact ⟨h1.symm, trivial, h2.symm, h3.symm, h4.symm⟩
theorem On.kid (h : On ns o (.mk k a s n ks)) (j : Nat) (hj : j < ks.length) : ∃ q : Nat, (heads (o + 1) ks).getD j 0 = (q : Int) ∧ q < ns.length ∧ On ns q ks[j] := by
 obtain ⟨t, e, hl⟩ := h
 obtain ⟨q, h1, h2⟩ := Lies.kid ks (o + 1) hl.kids j hj
 exact ⟨q, h1, by rw [← noAt_len e]; exact h2.lt, t, e, h2⟩
theorem On.size (h : On ns o x) : o + x.size ≤ ns.length := by
 obtain ⟨t, e, pre, post, rfl, rfl⟩ := h
 rw [← noAt_len e]
 simp only [List.length_append, flat_length]
 omega
theorem On.kind (h : On ns o x) : (ns.getD o default).kind = x.kind := by
 cases x with
 | mk k a s n ks => obtain ⟨a', e⟩ := h.node; rw [e]; rfl
end
mutual
theorem wfR_wfA (o : Nat) : ∀ a : Ast, a.size ≤ 70000 → (∀ nd ∈ flat o a, nd.text.size ≤ 70000) → wf a → wfR a
 | .mk k p s n ks, h, ht, hw => by
  simp only [Ast.size] at h
  have h1 := len_sizeL ks
  refine ⟨⟨by rw [← nodeW_eq _ _ _ _ (by rw [List.length_map]; omega)]; exact hw.1, ht _ (by simp only [flat]; exact List.mem_cons_self)⟩, wfR_wfL ks (o + 1) (by omega) (fun nd hm => ht nd (by simp only [flat]; exact List.mem_cons_of_mem _ hm)) hw.2⟩
theorem wfR_wfL : ∀ (l : List Ast) (o : Nat), sizeL l ≤ 70000 → (∀ nd ∈ flatL o l, nd.text.size ≤ 70000) → wfL l → wfRL l
 | [], _, _, _, _ => trivial
 | x :: r, o, h, ht, hw => by
  simp only [sizeL] at h
  exact ⟨wfR_wfA o x (by omega) (fun nd hm => ht nd (by simp only [flatL]; exact List.mem_append_left _ hm)) hw.1, wfR_wfL r _ (by omega) (fun nd hm => ht nd (by simp only [flatL]; exact List.mem_append_right _ hm)) hw.2⟩
end
theorem right_ast {ns : List Nd} (h : rightP ns = true) (hl : ns.length ≤ 70000) (ht : ∀ nd ∈ ns, nd.text.size ≤ 70000) : ∃ a, wfR a ∧ a.kind = 1 ∧ a.size = ns.length ∧ On ns 0 a := by
 obtain ⟨a, h1, h2, h3, h4⟩ := tree_of_right h
 refine ⟨a, wfR_wfA 0 a (by omega) (fun nd hm => ?_) h1, h2, h3, flat 0 a, h4, Lies.whole a⟩
 have h5 : noAt nd ∈ ns.map noAt := by rw [← h4]; exact List.mem_map_of_mem hm
 obtain ⟨md, h6, h7⟩ := List.mem_map.1 h5
 have h8 : nd.text = md.text := (show (noAt nd).text = (noAt md).text by rw [h7])
 rw [h8]
 exact ht md h6
theorem wfR.kids {k : Int} {a : Nat} {s : ByteArray} {n : Int} {ks : List Ast} (h : wfR (.mk k a s n ks)) {j : Nat} (hj : j < ks.length) : wfR ks[j] := wfRL_mem h.2 _ (List.getElem_mem hj)
theorem wfR.parts {k : Int} {a : Nat} {s : ByteArray} {n : Int} {ks : List Ast} (h : wfR (.mk k a s n ks)) : (1 ≤ k ∧ k ≤ 26) ∧ (0 ≤ n ∧ n ≤ mostR k) ∧ s.size ≤ 70000 ∧ kidsR k (ks.map Ast.kind) = true := by
 have h1 := h.1.1
 simp only [nodeRW, Bool.and_eq_true, decide_eq_true_eq, wordsR] at h1
 exact ⟨⟨h1.1, h1.2.1⟩, ⟨h1.2.2.1.2.2.1, h1.2.2.1.2.2.2⟩, h.1.2, h1.2.2.2⟩
theorem sizeL_mem {x : Ast} : ∀ {l : List Ast}, x ∈ l → x.size ≤ sizeL l
 | y :: r, h => by
  simp only [sizeL]
  rcases List.mem_cons.1 h with rfl | h
  · omega
  · have := sizeL_mem h; omega
theorem mostR_le (k : Int) : mostR k ≤ 2147483647 := by
 unfold mostR; split
 · omega
 · split <;> omega
theorem isExprK_iff (k : Int) : isExprK k = true ↔ 21 ≤ k ∧ k ≤ 26 := by simp [isExprK]
section
variable {ks : List Ast}
theorem shape1 (h : isR (ks.map Ast.kind) [0] = true) : ∃ x, ks = [x] ∧ isExprK x.kind = true := by
 rcases ks with _ | ⟨x, _ | ⟨y, r⟩⟩
 · simp [isR] at h
 · exact ⟨x, rfl, by simpa [isR] using h⟩
 · simp [isR] at h
theorem shape2 (h : isR (ks.map Ast.kind) [0, 0] = true) : ∃ x y, ks = [x, y] ∧ isExprK x.kind = true ∧ isExprK y.kind = true := by
 rcases ks with _ | ⟨x, _ | ⟨y, _ | ⟨z, r⟩⟩⟩
 · simp [isR] at h
 · simp [isR] at h
 · exact ⟨x, y, rfl, by simpa [isR] using h⟩
 · simp [isR] at h
theorem shape0 (h : decide ((ks.map Ast.kind).length = 0) = true) : ks = [] := by
 rcases ks with _ | ⟨x, r⟩
 · rfl
 · simp at h
end
theorem get_le : ∀ (l : List ByteArray) (i : Nat), (l.getD i none0).size ≤ (l.map ByteArray.size).sum
 | [], i => by simp [List.getD]; rfl
 | x :: r, 0 => by simp
 | x :: r, i + 1 => by have := get_le r i; simp only [List.getD_cons_succ, List.map_cons, List.sum_cons]; omega
theorem get2_le : ∀ (l : List ByteArray) (i j : Nat), i < j → (l.getD i none0).size + (l.getD j none0).size ≤ (l.map ByteArray.size).sum
 | [], i, j, _ => by simp [List.getD]; rfl
 | x :: r, 0, j + 1, _ => by have := get_le r j; simp only [List.getD_cons_zero, List.getD_cons_succ, List.map_cons, List.sum_cons]; omega
 | x :: r, i + 1, j + 1, h => by have := get2_le r i j (by omega); simp only [List.getD_cons_succ, List.map_cons, List.sum_cons]; omega
mutual
theorem exL_size (k : Int) (j : Nat) : ∀ l : List Ast, wfRL l → ((exL k j l).map ByteArray.size).sum ≤ 70100 * sizeL l
 | [], _ => by simp [exL, sizeL]
 | x :: r, h => by
  have h2 := exL_size k (j + 1) r h.2
  have h3 := ast_pos x
  simp only [exL, List.map_cons, List.sum_cons, sizeL]
  have h4 : (inB (br k (j == 1) x.kind) (exT x)).size ≤ (exT x).size + 2 := by
   unfold inB; split
   · simp only [ByteArray.size_append]
     show 1 + (exT x).size + 1 ≤ _
     omega
   · omega
  have h5 := exT_low x h.1
  omega
theorem exT_low : ∀ x : Ast, wfR x → (exT x).size + 2 ≤ 70100 * x.size
 | .mk k a s n ks, h => by
  have hp := h.parts
  have hl := exL_size k 0 ks h.2
  simp only [exT, Ast.size]
  have h01 : ((exL k 0 ks).getD 0 none0).size + ((exL k 0 ks).getD 1 none0).size ≤ 70100 * sizeL ks := Nat.le_trans (get2_le _ 0 1 (by omega)) hl
  have hnum : (numT n).size ≤ 21 := by
   unfold numT
   have := Lib.itoa_length_le n (by omega) (by have := mostR_le k; omega)
   show (Lib.itoa n).toArray.size ≤ 21
   simpa using this
  have e1 : (⟨#[91]⟩ : ByteArray).size = 1 := rfl
  have e2 : (⟨#[93]⟩ : ByteArray).size = 1 := rfl
  have e3 : (⟨#[45]⟩ : ByteArray).size = 1 := rfl
  have e4 : (markT k).size = 3 := by
   unfold markT
   split
   · rfl
   · split <;> rfl
  unfold nodeT
  split
  · simp only [ByteArray.size_append]; omega
  · split
    · omega
    · split
      · simp only [ByteArray.size_append]; omega
      · split
        · simp only [ByteArray.size_append]; omega
        · omega
end
theorem exT_size (x : Ast) (h : wfR x) : (exT x).size + 2 ≤ 70100 * x.size := exT_low x h
end
end Go.Proofs.YthdioipfdbbmmaaGreatDoor
section
namespace Go.Proofs
open Go.Shelf
def Tryz.laysM173_ren : Go.Shelf.Ren := ⟨fun | 173 => 66 | 246 => 113 | 283 => 180 | 284 => 181 | 285 => 182 | 286 => 183 | 129 => 230 | 317 => 229 | 318 => 231 | 319 => 232 | 320 => 233 | 337 => 266 | 338 => 267 | n => n, fun | 2 => 2 | 3 => 3 | 9 => 9 | 4 => 4 | 171 => 248 | 0 => 0 | 53 => 249 | 37 => 22 | 5 => 5 | 173 => 252 | 212 => 281 | 51 => 282 | 20 => 20 | 213 => 283 | 46 => 266 | 232 => 320 | 233 => 321 | n => n, fun | 17 => 2 | 18 => 3 | 19 => 4 | n => n⟩
theorem Tryz.laysM173 : Go.Proofs.LaysM.n173 Tryz.prog Tryz.laysM173_ren := {
 mixed := by kernel_rfl
 f129 := Tryz.func230.trans (congrArg some (by kernel_rfl))
 f173 := Tryz.func66.trans (congrArg some (by kernel_rfl))
 f246 := Tryz.func113.trans (congrArg some (by kernel_rfl))
 f283 := Tryz.func180.trans (congrArg some (by kernel_rfl))
 f284 := Tryz.func181.trans (congrArg some (by kernel_rfl))
 f285 := Tryz.func182.trans (congrArg some (by kernel_rfl))
 f286 := Tryz.func183.trans (congrArg some (by kernel_rfl))
 f317 := Tryz.func229.trans (congrArg some (by kernel_rfl))
 f318 := Tryz.func231.trans (congrArg some (by kernel_rfl))
 f319 := Tryz.func232.trans (congrArg some (by kernel_rfl))
 f320 := Tryz.func233.trans (congrArg some (by kernel_rfl))
 f337 := Tryz.func266.trans (congrArg some (by kernel_rfl))
 f338 := Tryz.func267.trans (congrArg some (by kernel_rfl))
 t0 := Tryz.underlying0
 a0 := Tryz.isAgg0
 z0 := Tryz.sizeOf0
 v0 := Tryz.zeroValue0
 t2 := Tryz.underlying2
 a2 := Tryz.isAgg2
 z2 := Tryz.sizeOf2
 v2 := Tryz.zeroValue2
 t3 := Tryz.underlying3
 a3 := Tryz.isAgg3
 z3 := Tryz.sizeOf3
 v3 := Tryz.zeroValue3
 t4 := Tryz.underlying4
 a4 := Tryz.isAgg4
 z4 := Tryz.sizeOf4
 v4 := Tryz.zeroValue4
 t5 := Tryz.underlying5
 a5 := Tryz.isAgg5
 z5 := Tryz.sizeOf5
 v5 := Tryz.zeroValue5
 t9 := Tryz.underlying9
 a9 := Tryz.isAgg9
 z9 := Tryz.sizeOf9
 v9 := Tryz.zeroValue9
 t20 := Tryz.underlying20
 a20 := Tryz.isAgg20
 z20 := Tryz.sizeOf20
 v20 := Tryz.zeroValue20
 t37 := Tryz.underlying22
 a37 := Tryz.isAgg22
 z37 := Tryz.sizeOf22
 v37 := Tryz.zeroValue22
 t46 := Tryz.underlying266
 a46 := Tryz.isAgg266
 z46 := Tryz.sizeOf266
 v46 := Tryz.zeroValue266
 t51 := Tryz.underlying282
 a51 := Tryz.isAgg282
 z51 := Tryz.sizeOf282
 v51 := Tryz.zeroValue282
 t53 := Tryz.underlying249
 a53 := Tryz.isAgg249
 z53 := Tryz.sizeOf249
 v53 := Tryz.zeroValue249
 t171 := Tryz.underlying248
 a171 := Tryz.isAgg248
 z171 := Tryz.sizeOf248
 v171 := Tryz.zeroValue248
 t173 := Tryz.underlying252
 a173 := Tryz.isAgg252
 z173 := Tryz.sizeOf252
 v173 := Tryz.zeroValue252
 t212 := Tryz.underlying281
 a212 := Tryz.isAgg281
 z212 := Tryz.sizeOf281
 v212 := Tryz.zeroValue281
 t213 := Tryz.underlying283
 a213 := Tryz.isAgg283
 z213 := Tryz.sizeOf283
 t232 := Tryz.underlying320
 a232 := Tryz.isAgg320
 z232 := Tryz.sizeOf320
 v232 := Tryz.zeroValue320
 t233 := Tryz.underlying321
 a233 := Tryz.isAgg321
 z233 := Tryz.sizeOf321
 v233 := Tryz.zeroValue321
 g17 := by kernel_rfl
 g18 := by kernel_rfl
 g19 := by kernel_rfl
 i0 := by kernel_rfl
 i2 := by kernel_rfl
 i3 := by kernel_rfl
 i4 := by kernel_rfl
 i5 := by kernel_rfl
 i9 := by kernel_rfl
 i20 := by kernel_rfl
 i37 := by kernel_rfl
 i46 := by kernel_rfl
 i51 := by kernel_rfl
 i53 := by kernel_rfl
 i171 := by kernel_rfl
 i173 := by kernel_rfl
 i212 := by kernel_rfl
 i232 := by kernel_rfl
 i233 := by kernel_rfl
 m17 := by kernel_rfl
 m18 := by kernel_rfl
 m19 := by kernel_rfl }
open Go.RowKit Go.Sort Go.Lib in
theorem Tryz.strconv_FormatInt_10 (n : Int) (h0 : -9223372036854775808 ≤ n) (h1 : n ≤ 9223372036854775807) (w : World) (htab : Lib.TabIs Tryz.prog w "internal/strconv.uint64pow10" .u64 Lib.pow10Tab) :
 Calls Tryz.prog 66 #[.int .i64 n, .int .i64 10] w fun e w' => e = .returned (.string ⟨(Lib.itoa n).toArray⟩) ∧ ∃ k os, w' = grow (w.drewN k) os := Any.strconv_FormatInt_10 Tryz.laysM173 n h0 h1 w htab
def Tryz.lays105_ren : Go.Shelf.Ren := ⟨fun | 105 => 224 | 212 => 209 | 99 => 261 | 165 => 262 | 166 => 263 | 170 => 264 | 169 => 265 | 263 => 244 | 264 => 245 | 206 => 285 | 240 => 286 | 241 => 287 | 276 => 291 | 277 => 292 | n => n, fun | 9 => 9 | 3 => 3 | 4 => 4 | 20 => 20 | 0 => 0 | 46 => 266 | 109 => 267 | 5 => 5 | 72 => 308 | 76 => 309 | 51 => 282 | 146 => 292 | 53 => 249 | 148 => 294 | 70 => 306 | 37 => 22 | 75 => 25 | 127 => 291 | 164 => 169 | 80 => 222 | n => n, fun | n => n⟩
theorem Tryz.lays105 : Go.Proofs.Lays.n105 Tryz.prog Tryz.lays105_ren := {
 mixed := by kernel_rfl
 f99 := Tryz.func261.trans (congrArg some (by kernel_rfl))
 f105 := Tryz.func224.trans (congrArg some (by kernel_rfl))
 f165 := Tryz.func262.trans (congrArg some (by kernel_rfl))
 f166 := Tryz.func263.trans (congrArg some (by kernel_rfl))
 f169 := Tryz.func265.trans (congrArg some (by kernel_rfl))
 f170 := Tryz.func264.trans (congrArg some (by kernel_rfl))
 f206 := Tryz.func285.trans (congrArg some (by kernel_rfl))
 f212 := Tryz.func209.trans (congrArg some (by kernel_rfl))
 f240 := Tryz.func286.trans (congrArg some (by kernel_rfl))
 f241 := Tryz.func287.trans (congrArg some (by kernel_rfl))
 f263 := Tryz.func244.trans (congrArg some (by kernel_rfl))
 f264 := Tryz.func245.trans (congrArg some (by kernel_rfl))
 f276 := Tryz.func291.trans (congrArg some (by kernel_rfl))
 f277 := Tryz.func292.trans (congrArg some (by kernel_rfl))
 t0 := Tryz.underlying0
 a0 := Tryz.isAgg0
 z0 := Tryz.sizeOf0
 v0 := Tryz.zeroValue0
 t3 := Tryz.underlying3
 a3 := Tryz.isAgg3
 z3 := Tryz.sizeOf3
 v3 := Tryz.zeroValue3
 t4 := Tryz.underlying4
 a4 := Tryz.isAgg4
 z4 := Tryz.sizeOf4
 v4 := Tryz.zeroValue4
 t5 := Tryz.underlying5
 a5 := Tryz.isAgg5
 z5 := Tryz.sizeOf5
 v5 := Tryz.zeroValue5
 t9 := Tryz.underlying9
 a9 := Tryz.isAgg9
 z9 := Tryz.sizeOf9
 v9 := Tryz.zeroValue9
 t20 := Tryz.underlying20
 a20 := Tryz.isAgg20
 z20 := Tryz.sizeOf20
 v20 := Tryz.zeroValue20
 t37 := Tryz.underlying22
 a37 := Tryz.isAgg22
 z37 := Tryz.sizeOf22
 v37 := Tryz.zeroValue22
 t46 := Tryz.underlying266
 a46 := Tryz.isAgg266
 z46 := Tryz.sizeOf266
 v46 := Tryz.zeroValue266
 t51 := Tryz.underlying282
 a51 := Tryz.isAgg282
 z51 := Tryz.sizeOf282
 v51 := Tryz.zeroValue282
 t53 := Tryz.underlying249
 a53 := Tryz.isAgg249
 z53 := Tryz.sizeOf249
 v53 := Tryz.zeroValue249
 t70 := Tryz.underlying306
 a70 := Tryz.isAgg306
 z70 := Tryz.sizeOf306
 v70 := Tryz.zeroValue306
 t72 := Tryz.underlying308
 a72 := Tryz.isAgg308
 z72 := Tryz.sizeOf308
 v72 := Tryz.zeroValue308
 t75 := Tryz.underlying25
 a75 := Tryz.isAgg25
 z75 := Tryz.sizeOf25
 v75 := Tryz.zeroValue25
 t76 := Tryz.underlying309
 a76 := Tryz.isAgg309
 z76 := Tryz.sizeOf309
 v76 := Tryz.zeroValue309
 t109 := Tryz.underlying267
 a109 := Tryz.isAgg267
 z109 := Tryz.sizeOf267
 v109 := Tryz.zeroValue267
 t127 := Tryz.underlying291
 a127 := Tryz.isAgg291
 z127 := Tryz.sizeOf291
 v127 := Tryz.zeroValue291
 t146 := Tryz.underlying292
 a146 := Tryz.isAgg292
 z146 := Tryz.sizeOf292
 v146 := Tryz.zeroValue292
 t148 := Tryz.underlying294
 a148 := Tryz.isAgg294
 z148 := Tryz.sizeOf294
 v148 := Tryz.zeroValue294
 t164 := Tryz.underlying169
 a164 := Tryz.isAgg169
 z164 := Tryz.sizeOf169
 v164 := Tryz.zeroValue169 }
theorem Tryz.Builder_Extra_105 : Builder.Extra Tryz.prog Tryz.lays105_ren := {
 sizeBuilder := by kernel_rfl
 liesBuilder := by kernel_rfl
 t5 := Tryz.underlying5
 a5 := Tryz.isAgg5
 z5 := Tryz.sizeOf5
 v5 := Tryz.zeroValue5
 infoByte := by kernel_rfl
 cellsByte := by kernel_rfl
 sizeByte := by kernel_rfl
 neB5 := by decide }
open Go.RowKit Go.Lib in
theorem Tryz.strings_Repeat (s : ByteArray) (c : Nat) (w : World) (hc : c ≤ 9223372036854775807) (hlen : s.size * c ≤ 140737488355328) :
 Calls Tryz.prog 224 #[.string s, .int .i64 c] w fun e w' => e = .returned (.string ⟨(Lib.repeatL s.data.toList c).toArray⟩) ∧ Below w.heap.size w w' := Any.strings_Repeat Tryz.lays105 Tryz.Builder_Extra_105 s c w hc hlen
end Go.Proofs
end
namespace Go.Proofs.YthdioipfdbbmmaaGreatDoor
section
open Go.RowKit Tr
def PT10 (w : World) : Prop := Lib.TabIs Tryz.prog w "internal/strconv.uint64pow10" .u64 Lib.pow10Tab
theorem fmt_at (w : World) (n : Int) (h0 : 0 ≤ n) (h1 : n ≤ 2147483647) (ht : PT10 w) : Calls Tryz.prog 66 #[.int .i64 n, .int .i64 10] w fun e w' => e = .returned (.string (numT n)) ∧ Below w.heap.size w w' :=
 (Tryz.strconv_FormatInt_10 n (by omega) (by omega) w ht).mono fun e w' ⟨h, k, os, e'⟩ => ⟨h, by rw [e']; exact Lib.below_grow _ _ (Nat.le_refl _) _ _⟩
end
end Go.Proofs.YthdioipfdbbmmaaGreatDoor
