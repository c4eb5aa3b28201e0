/- Contracts on the way to the laws of layer 5: ParseFl, TreeO, ParseWa, ParseWb, PrintM, ParsePa, ParsePb, ParsePc, TreeV, TreeA. -/
import Derived.Test.YthdioipfdbbmmaaGreatDoorKaa
import Derived.Test.YthdioipfdbbmmaaGreatDoorKag
import Derived.Test.YthdioipfdbbmmaaGreatDoorKah
import Derived.Lib.ItoaNum
import Derived.Test.YthdioipfdbbmmaaGreatDoorProg
import Derived.WalkKit
import Derived.Handy
import Derived.Below
import Derived.Carry
import Derived.Deep.QuietTactic
import Derived.BigQuiet
import Derived.Laws.EntriesVeiled
set_option linter.all false
set_option maxRecDepth 1000000
set_option maxHeartbeats 16000000
namespace Go.Proofs.YthdioipfdbbmmaaGreatDoor
section
mutual
def flat (o : Nat) : Ast → List Nd
 | .mk k a t n ks => ⟨k, a, t, n, heads (o + 1) ks⟩ :: flatL (o + 1) ks
def flatL (o : Nat) : List Ast → List Nd
 | [] => []
 | x :: r => flat o x ++ flatL (o + x.size) r
def heads (o : Nat) : List Ast → List Int
 | [] => []
 | x :: r => (o : Int) :: heads (o + x.size) r
end
mutual
def raw (b : Nat) : Ast → List (Nat × Nd)
 | .mk k a t n ks => (b + sizeL ks, ⟨k, a, t, n, roots b ks⟩) :: rawL b ks
def rawL (b : Nat) : List Ast → List (Nat × Nd)
 | [] => []
 | x :: r => raw b x ++ rawL (b + x.size) r
end
mutual
theorem raw_length (b : Nat) : ∀ a : Ast, (raw b a).length = a.size
 | .mk k a t n ks => by simp only [raw, List.length_cons, rawL_length b ks, Ast.size]
theorem rawL_length (b : Nat) : ∀ l : List Ast, (rawL b l).length = sizeL l
 | [] => by simp [rawL, sizeL]
 | x :: r => by simp only [rawL, List.length_append, raw_length b x, rawL_length (b + x.size) r, sizeL]
end
mutual
theorem flat_length (b : Nat) : ∀ a : Ast, (flat b a).length = a.size
 | .mk k a t n ks => by simp only [flat, List.length_cons, flatL_length (b + 1) ks, Ast.size]
theorem flatL_length (b : Nat) : ∀ l : List Ast, (flatL b l).length = sizeL l
 | [] => by simp [flatL, sizeL]
 | x :: r => by simp only [flatL, List.length_append, flat_length b x, flatL_length (b + x.size) r, sizeL]
end
theorem heads_length (b : Nat) (l : List Ast) : (heads b l).length = l.length := by
 induction l generalizing b with
 | nil => simp [heads]
 | cons x r ih => simp only [heads, List.length_cons, ih]
theorem raw_head (b : Nat) (a : Ast) : ∃ nd rest, raw b a = (b + a.size - 1, nd) :: rest := by
 cases a with
 | mk k a t n ks => exact ⟨_, _, by simp only [raw, Ast.size]; rw [show b + (sizeL ks + 1) - 1 = b + sizeL ks by omega]⟩
mutual
theorem raw_range (b : Nat) : ∀ (a : Ast) (x : Nat × Nd), x ∈ raw b a → b ≤ x.1 ∧ x.1 < b + a.size
 | .mk k a t n ks, x, hx => by
  simp only [raw, List.mem_cons] at hx
  simp only [Ast.size]
  rcases hx with rfl | hx
  · simp only; omega
  · have := rawL_range b ks x hx
    omega
theorem rawL_range (b : Nat) : ∀ (l : List Ast) (x : Nat × Nd), x ∈ rawL b l → b ≤ x.1 ∧ x.1 < b + sizeL l
 | [], x, hx => by simp [rawL] at hx
 | y :: r, x, hx => by
  simp only [rawL, List.mem_append] at hx
  simp only [sizeL]
  rcases hx with hx | hx
  · have := raw_range b y x hx
    omega
  · have := rawL_range (b + y.size) r x hx
    omega
end
mutual
theorem raw_nodup (b : Nat) : ∀ a : Ast, ((raw b a).map (·.1)).Nodup
 | .mk k a t n ks => by
  simp only [raw, List.map_cons, List.nodup_cons]
  refine ⟨fun h => ?_, rawL_nodup b ks⟩
  obtain ⟨x, hx, e⟩ := List.mem_map.1 h
  have := rawL_range b ks x hx
  omega
theorem rawL_nodup (b : Nat) : ∀ l : List Ast, ((rawL b l).map (·.1)).Nodup
 | [] => by simp [rawL]
 | y :: r => by
  simp only [rawL, List.map_append]
  refine List.nodup_append.2 ⟨raw_nodup b y, rawL_nodup (b + y.size) r, fun p hp q hq e => ?_⟩
  obtain ⟨x, hx, e1⟩ := List.mem_map.1 hp
  obtain ⟨z, hz, e2⟩ := List.mem_map.1 hq
  have h1 := raw_range b y x hx
  have h2 := rawL_range (b + y.size) r z hz
  omega
end
mutual
theorem raw_post (b : Nat) : ∀ (a : Ast) (x : Nat × Nd), x ∈ raw b a → (post b a)[x.1 - b]? = some x.2
 | .mk k a t n ks, x, hx => by
  simp only [raw, List.mem_cons] at hx
  simp only [post]
  rcases hx with rfl | hx
  · simp only
    rw [List.getElem?_append_right (by rw [postL_length]; omega), postL_length, show b + sizeL ks - b - sizeL ks = 0 by omega]
    rfl
  · have h1 := rawL_range b ks x hx
    rw [List.getElem?_append_left (by rw [postL_length]; omega)]
    exact rawL_post b ks x hx
theorem rawL_post (b : Nat) : ∀ (l : List Ast) (x : Nat × Nd), x ∈ rawL b l → (postL b l)[x.1 - b]? = some x.2
 | [], x, hx => by simp [rawL] at hx
 | y :: r, x, hx => by
  simp only [rawL, List.mem_append] at hx
  simp only [postL]
  rcases hx with hx | hx
  · have h1 := raw_range b y x hx
    rw [List.getElem?_append_left (by rw [post_length]; omega)]
    exact raw_post b y x hx
  · have h1 := rawL_range (b + y.size) r x hx
    rw [List.getElem?_append_right (by rw [post_length]; omega), post_length, show x.1 - b - y.size = x.1 - (b + y.size) by omega]
    exact rawL_post (b + y.size) r x hx
end
def placed (g : Int → Int) (x : Nat × Nd) : Nd := { x.2 with kids := x.2.kids.map g }
theorem roots_heads (g : Int → Int) (b o : Nat) (l : List Ast) (hg : ∀ i x, (rawL b l)[i]? = some x → g x.1 = ((o + i : Nat) : Int)) : (roots b l).map g = heads o l := by
 induction l generalizing b o with
 | nil => simp [roots, heads]
 | cons y r ih =>
  obtain ⟨nd, rest, hr⟩ := raw_head b y
  have hs := size_pos y
  simp only [roots, heads, List.map_cons]
  refine congr (congrArg List.cons ?_) ?_
  · have := hg 0 (b + y.size - 1, nd) (by simp [rawL, hr])
    rw [show ((b + y.size : Nat) : Int) - 1 = ((b + y.size - 1 : Nat) : Int) by omega]
    simpa using this
  · refine ih (b + y.size) (o + y.size) fun i x hx => ?_
    have := hg (y.size + i) x (by
     simp only [rawL]
     rw [List.getElem?_append_right (by rw [raw_length]; omega), raw_length, show y.size + i - y.size = i by omega]
     exact hx)
    rw [this]
    omega
mutual
theorem raw_flat (g : Int → Int) (b o : Nat) : ∀ (a : Ast) (_ : ∀ i x, (raw b a)[i]? = some x → g x.1 = ((o + i : Nat) : Int)), (raw b a).map (placed g) = flat o a
 | .mk k a t n ks, hg => by
  have h1 : ∀ i x, (rawL b ks)[i]? = some x → g x.1 = ((o + 1 + i : Nat) : Int) := fun i x hx => by
   have := hg (i + 1) x (by simp only [raw, List.getElem?_cons_succ]; exact hx)
   rw [this]; omega
  simp only [raw, flat, List.map_cons, placed, roots_heads g b (o + 1) ks h1]
  exact congrArg _ (rawL_flat g b (o + 1) ks h1)
theorem rawL_flat (g : Int → Int) (b o : Nat) : ∀ (l : List Ast) (_ : ∀ i x, (rawL b l)[i]? = some x → g x.1 = ((o + i : Nat) : Int)), (rawL b l).map (placed g) = flatL o l
 | [], _ => by simp [rawL, flatL]
 | y :: r, hg => by
  simp only [rawL, flatL, List.map_append]
  rw [raw_flat g b o y fun i x hx => hg i x (by
   simp only [rawL]
   have hi : i < (raw b y).length := (List.getElem?_eq_some_iff.1 hx).1
   rw [List.getElem?_append_left hi]
   exact hx), rawL_flat g (b + y.size) (o + y.size) r fun i x hx => by
   have := hg (y.size + i) x (by
    simp only [rawL]
    rw [List.getElem?_append_right (by rw [raw_length]; omega), raw_length, show y.size + i - y.size = i by omega]
    exact hx)
   rw [this]; omega]
end
def rawS : List (Nat × Ast) → List (Nat × Nd)
 | [] => []
 | (b, a) :: r => raw b a ++ rawS r
def tops : List (Nat × Ast) → List Int
 | [] => []
 | (b, a) :: r => (((b + a.size : Nat) : Int) - 1) :: tops r
def pairsOf (b : Nat) : List Ast → List (Nat × Ast)
 | [] => []
 | x :: r => (b, x) :: pairsOf (b + x.size) r
theorem rawS_append (x y : List (Nat × Ast)) : rawS (x ++ y) = rawS x ++ rawS y := by
 induction x with
 | nil => simp [rawS]
 | cons p r ih => obtain ⟨b, a⟩ := p; simp only [List.cons_append, rawS, ih, List.append_assoc]
theorem tops_append (x y : List (Nat × Ast)) : tops (x ++ y) = tops x ++ tops y := by
 induction x with
 | nil => simp [tops]
 | cons p r ih => obtain ⟨b, a⟩ := p; simp only [List.cons_append, tops, ih]
theorem tops_length (x : List (Nat × Ast)) : (tops x).length = x.length := by
 induction x with
 | nil => simp [tops]
 | cons p r ih => obtain ⟨b, a⟩ := p; simp only [List.length_cons, tops, ih]
theorem rawS_pairs (b : Nat) (l : List Ast) : rawS (pairsOf b l) = rawL b l := by
 induction l generalizing b with
 | nil => simp [rawS, rawL, pairsOf]
 | cons x r ih => simp only [rawS, rawL, pairsOf, ih]
theorem tops_pairs (b : Nat) (l : List Ast) : tops (pairsOf b l) = roots b l := by
 induction l generalizing b with
 | nil => simp [tops, roots, pairsOf]
 | cons x r ih => simp only [tops, roots, pairsOf, ih]
theorem rawS_cons (b : Nat) (k : Int) (a : Nat) (t : ByteArray) (n : Int) (ks : List Ast) (r : List (Nat × Ast)) :
 rawS ((b, .mk k a t n ks) :: r) = (b + sizeL ks, ⟨k, a, t, n, roots b ks⟩) :: rawS (pairsOf b ks ++ r) := by
 rw [rawS_append, rawS_pairs]
 simp only [rawS, raw, List.cons_append]
end
namespace Tr
theorem rowsOf_getD (t : List Nd) (i : Nat) : (rowsOf t).getD i [] = kidsAt t i := by
 unfold rowsOf kidsAt
 by_cases h : i < t.length
 · simp [List.getD, h]
 · simp [List.getD, List.getElem?_eq_none (Nat.le_of_not_lt h)]
   rfl
theorem rowsOf_fun (t : List Nd) : (fun i => (rowsOf t).getD i []) = kidsAt t := funext (rowsOf_getD t)
theorem rowsOf_length (t : List Nd) : (rowsOf t).length = t.length := by simp [rowsOf]
structure SizesOk (t : List Nd) (s : List Nat) : Prop where
 right : RightSz (kidsAt t) (fun i => s.getD i 0) t.length
 len : s.length = t.length
 pos : 0 < t.length
 whole : s.getD 0 0 = t.length
theorem sizesP_some {t : List Nd} {s : List Nat} (h : sizesP t = some s) : SizesOk t s := by
 unfold sizesP at h
 split at h
 · simp at h
 · rename_i s1 h1
   split at h
   · rename_i h2
     simp only [Option.some.injEq] at h
     subst h
     have hl := sizesL_len _ _ _ h1
     rw [rowsOf_length] at hl
     have hr := sizesL_right h1
     rw [rowsOf_fun, rowsOf_length] at hr
     exact ⟨hr, hl, by omega, by omega⟩
   · simp at h
theorem right_sizes {t : List Nd} (h : rightP t = true) : ∃ s, sizesP t = some s ∧ kindAt t 0 = 1 ∧ ruledP t = true := by
 unfold rightP at h
 split at h
 · simp at h
 · rename_i s hs
   simp only [Bool.and_eq_true, beq_iff_eq] at h
   exact ⟨s, hs, h.1, h.2⟩
theorem sizeP_at {t : List Nd} {s : List Nat} (hr : rightP t = true) (hs : sizesP t = some s) {i : Nat} (hi : i < t.length) : sizeP t i = (s.getD i 0 : Nat) := by
 unfold sizeP
 rw [if_pos ⟨by omega, by omega, hr⟩, hs]
 simp
theorem chain_sum {S : Nat → Nat} {n : Nat} (ks : List Int) (a e : Nat) (h : Chain S n ks a e) : a + (ks.map fun k => S k.toNat).sum = e := by
 induction ks generalizing a with
 | nil => obtain rfl : a = e := h; simp
 | cons k ks ih =>
  obtain ⟨p1, p2, p3⟩ := h
  have := ih _ p3
  simp only [List.map_cons, List.sum_cons, p1, Int.toNat_natCast]
  omega
theorem RightSz.sum {K : Nat → List Int} {S : Nat → Nat} {n : Nat} (h : RightSz K S n) {i : Nat} (hi : i < n) : 1 + ((K i).map fun k => S k.toNat).sum = S i := by
 have := chain_sum _ _ _ (h.chain i hi)
 omega
end Tr
section
open Tr
def Ast.kind : Ast → Int | .mk k _ _ _ _ => k
def Ast.txt : Ast → ByteArray | .mk _ _ t _ _ => t
def Ast.num : Ast → Int | .mk _ _ _ n _ => n
def Ast.kids : Ast → List Ast | .mk _ _ _ _ ks => ks
mutual
def szs : Ast → List Nat
 | .mk _ _ _ _ ks => (sizeL ks + 1) :: szsL ks
def szsL : List Ast → List Nat
 | [] => []
 | x :: r => szs x ++ szsL r
end
mutual
theorem szs_length : ∀ a : Ast, (szs a).length = a.size
 | .mk k a t n ks => by simp only [szs, List.length_cons, szsL_length ks, Ast.size]
theorem szsL_length : ∀ l : List Ast, (szsL l).length = sizeL l
 | [] => by simp [szsL, sizeL]
 | x :: r => by simp only [szsL, List.length_append, szs_length x, szsL_length r, sizeL]
end
theorem szs_head (a : Ast) : ∃ r, szs a = a.size :: r := by
 cases a with
 | mk k p t n ks => exact ⟨_, rfl⟩
theorem ast_pos (a : Ast) : 0 < a.size := by cases a with | mk k p t n ks => simp [Ast.size]
theorem step_heads (b : Nat) (s : List Nat) : ∀ (ks : List Ast) (pre : List Nat), stepS (pre ++ szsL ks ++ s) b (heads (b + pre.length) ks) (b + pre.length) = some (b + pre.length + sizeL ks)
 | [], pre => by simp [heads, stepS, sizeL]
 | x :: r, pre => by
  obtain ⟨q, hq⟩ := szs_head x
  have hp := ast_pos x
  have hl := szs_length x
  simp only [heads, stepS, szsL, sizeL]
  rw [if_pos ⟨trivial, by simp only [List.length_append, hl]; omega⟩]
  have hg : (pre ++ (szs x ++ szsL r) ++ s).getD (b + pre.length - b) 0 = x.size := by
   rw [Nat.add_sub_cancel_left, hq]
   simp [List.getD]
  rw [hg]
  have := step_heads b s r (pre ++ szs x)
  rw [List.length_append, hl] at this
  rw [show pre ++ (szs x ++ szsL r) ++ s = pre ++ szs x ++ szsL r ++ s by simp only [List.append_assoc], show b + pre.length + x.size = b + (pre.length + x.size) by omega]
  rw [this]
  congr 1; omega
mutual
theorem sizes_flat (s : List Nat) (rs : List (List Int)) : ∀ (a : Ast) (o : Nat), sizesL rs (o + a.size) = some s → sizesL ((flat o a).map (·.kids) ++ rs) o = some (szs a ++ s)
 | .mk k p t n ks, o, h => by
  simp only [Ast.size] at h
  have h1 := sizes_flatL s rs ks (o + 1) (by rw [show o + 1 + sizeL ks = o + (sizeL ks + 1) by omega]; exact h)
  simp only [flat, List.map_cons, List.cons_append, sizesL, h1]
  have h2 := step_heads (o + 1) s ks []
  simp only [List.nil_append, List.length_nil, Nat.add_zero] at h2
  simp only [h2, szs, List.cons_append]
  congr 2; omega
theorem sizes_flatL (s : List Nat) (rs : List (List Int)) : ∀ (l : List Ast) (o : Nat), sizesL rs (o + sizeL l) = some s → sizesL ((flatL o l).map (·.kids) ++ rs) o = some (szsL l ++ s)
 | [], o, h => by simpa [flatL, szsL, sizeL] using h
 | x :: r, o, h => by
  simp only [sizeL] at h
  simp only [flatL, List.map_append, List.append_assoc, szsL]
  exact sizes_flat _ _ x o (sizes_flatL s rs r (o + x.size) (by rw [Nat.add_assoc]; exact h))
end
theorem sizesP_flat (a : Ast) : sizesP (flat 0 a) = some (szs a) := by
 have h := sizes_flat [] [] a 0 (by simp [sizesL])
 simp only [List.append_nil] at h
 unfold sizesP
 rw [show rowsOf (flat 0 a) = (flat 0 a).map (·.kids) from rfl, h]
 simp only
 obtain ⟨r, hr⟩ := szs_head a
 have hl := szs_length a
 have hp := ast_pos a
 rw [if_pos ⟨by omega, by rw [hl, hr]; rfl⟩]
def Lies (t : List Nd) (o : Nat) (x : Ast) : Prop := ∃ pre post, t = pre ++ flat o x ++ post ∧ pre.length = o
def LiesL (t : List Nd) (o : Nat) (l : List Ast) : Prop := ∃ pre post, t = pre ++ flatL o l ++ post ∧ pre.length = o
theorem Lies.whole (a : Ast) : Lies (flat 0 a) 0 a := ⟨[], [], by simp, rfl⟩
theorem Lies.node {t : List Nd} {o : Nat} {k : Int} {a : Nat} {s : ByteArray} {n : Int} {ks : List Ast} (h : Lies t o (.mk k a s n ks)) : t.getD o default = ⟨k, a, s, n, heads (o + 1) ks⟩ ∧ o < t.length := by
 obtain ⟨pre, post, rfl, rfl⟩ := h
 simp [flat, List.getD]
theorem Lies.kids {t : List Nd} {o : Nat} {k : Int} {a : Nat} {s : ByteArray} {n : Int} {ks : List Ast} (h : Lies t o (.mk k a s n ks)) : LiesL t (o + 1) ks := by
 obtain ⟨pre, post, rfl, rfl⟩ := h
 exact ⟨pre ++ [⟨k, a, s, n, heads (pre.length + 1) ks⟩], post, by simp [flat], by simp⟩
theorem LiesL.head {t : List Nd} {o : Nat} {x : Ast} {r : List Ast} (h : LiesL t o (x :: r)) : Lies t o x ∧ LiesL t (o + x.size) r := by
 obtain ⟨pre, post, rfl, rfl⟩ := h
 refine ⟨⟨pre, flatL (pre.length + x.size) r ++ post, by simp [flatL], rfl⟩, ⟨pre ++ flat pre.length x, post, by simp [flatL], by simp [flat_length]⟩⟩
theorem Lies.kindAt {t : List Nd} {o : Nat} {x : Ast} (h : Lies t o x) : kindAt t o = x.kind := by
 cases x with
 | mk k a s n ks => unfold Tr.kindAt; rw [h.node.1]; rfl
theorem kinds_heads {t : List Nd} : ∀ (ks : List Ast) (o : Nat), LiesL t o ks → (heads o ks).map (fun k => Tr.kindAt t k.toNat) = ks.map Ast.kind
 | [], o, _ => rfl
 | x :: r, o, h => by
  obtain ⟨h1, h2⟩ := h.head
  simp only [heads, List.map_cons, Int.toNat_natCast, h1.kindAt, kinds_heads r _ h2]
def nodeW (k : Int) (s : ByteArray) (n : Int) (l : List Int) : Bool := match ruleOf k with
 | none => false
 | some r => textOk r.named s && (decide (0 ≤ n) && (decide (n ≤ r.most) && inTurnP r.parts l))
mutual
def wf : Ast → Prop
 | .mk k _ s n ks => nodeW k s n (ks.map Ast.kind) = true ∧ wfL ks
def wfL : List Ast → Prop
 | [] => True
 | x :: r => wf x ∧ wfL r
end
theorem nodeOk_iff {t : List Nd} {o : Nat} {k : Int} {a : Nat} {s : ByteArray} {n : Int} {ks : List Ast} (h : Lies t o (.mk k a s n ks)) : nodeOk t ⟨k, a, s, n, heads (o + 1) ks⟩ = nodeW k s n (ks.map Ast.kind) := by
 have hk : kindsOf t ⟨k, a, s, n, heads (o + 1) ks⟩ = ks.map Ast.kind := kinds_heads ks (o + 1) h.kids
 unfold nodeOk nodeW
 rw [hk]
 cases ruleOf k with
 | none => rfl
 | some r => rfl
mutual
theorem wf_nodes {t : List Nd} : ∀ (x : Ast) (o : Nat), Lies t o x → (wf x ↔ ∀ nd ∈ flat o x, nodeOk t nd = true)
 | .mk k a s n ks, o, h => by
  have h1 := wf_nodesL ks (o + 1) h.kids
  simp only [wf, flat, List.mem_cons, forall_eq_or_imp, nodeOk_iff h, h1]
theorem wf_nodesL {t : List Nd} : ∀ (l : List Ast) (o : Nat), LiesL t o l → (wfL l ↔ ∀ nd ∈ flatL o l, nodeOk t nd = true)
 | [], o, _ => by simp [wfL, flatL]
 | x :: r, o, h => by
  obtain ⟨h1, h2⟩ := h.head
  have e1 := wf_nodes x o h1
  have e2 := wf_nodesL r _ h2
  simp only [wfL, flatL, List.mem_append, e1, e2]
  constructor
  · rintro ⟨g1, g2⟩ nd (hm | hm)
    · exact g1 nd hm
    · exact g2 nd hm
  · exact fun g => ⟨fun nd hm => g nd (Or.inl hm), fun nd hm => g nd (Or.inr hm)⟩
end
theorem right_flat (a : Ast) : rightP (flat 0 a) = true ↔ a.kind = 1 ∧ wf a := by
 unfold rightP
 rw [sizesP_flat]
 have h0 := (Lies.whole a).kindAt
 have h1 := wf_nodes a 0 (Lies.whole a)
 simp only [h0, Bool.and_eq_true, beq_iff_eq, ruledP, List.all_eq_true, h1]
end
section
open Tr
def noAt (nd : Nd) : Nd := { nd with at' := 0 }
theorem noAt_get (t : List Nd) (i : Nat) : (t.map noAt).getD i default = noAt (t.getD i default) := by
 by_cases h : i < t.length
 · simp [List.getD, h]
 · simp only [List.getD, List.getElem?_map, List.getElem?_eq_none (Nat.le_of_not_lt h)]
   rfl
theorem rowsOf_noAt (t : List Nd) : rowsOf (t.map noAt) = rowsOf t := by simp [rowsOf, noAt]
theorem kindAt_noAt (t : List Nd) (i : Nat) : kindAt (t.map noAt) i = kindAt t i := by unfold kindAt; rw [noAt_get]; rfl
theorem nodeOk_noAt (t : List Nd) (nd : Nd) : nodeOk (t.map noAt) (noAt nd) = nodeOk t nd := by
 have hk : kindsOf (t.map noAt) (noAt nd) = kindsOf t nd := by
  unfold kindsOf
  simp only [kindAt_noAt]
  rfl
 unfold nodeOk
 rw [hk]
 rfl
theorem ruledP_noAt (t : List Nd) : ruledP (t.map noAt) = ruledP t := by
 unfold ruledP
 rw [List.all_map]
 congr 1
 funext nd
 exact nodeOk_noAt t nd
theorem rightP_noAt (t : List Nd) : rightP (t.map noAt) = rightP t := by
 have h : sizesP (t.map noAt) = sizesP t := by unfold sizesP; rw [rowsOf_noAt]
 unfold rightP
 rw [h, kindAt_noAt, ruledP_noAt]
theorem take_add {α : Type} (l : List α) (a b : Nat) : l.take (a + b) = l.take a ++ (l.drop a).take b := by rw [List.take_add]
section
variable {ns : List Nd} {S : Nat → Nat}
def Sub (ns : List Nd) (i m : Nat) (x : Ast) : Prop := x.size = m ∧ (flat i x).map noAt = ((ns.drop i).take m).map noAt
theorem kids_of (hS : ∀ i, i < ns.length → 1 ≤ S i ∧ i + S i ≤ ns.length) (e : Nat) : ∀ (ks : List Int) (a : Nat), Chain S ns.length ks a e → (∀ i, a ≤ i → i < ns.length → ∃ x, Sub ns i (S i) x) → a ≤ ns.length → ∃ xs, heads a xs = ks ∧ sizeL xs = e - a ∧ a ≤ e ∧ (flatL a xs).map noAt = ((ns.drop a).take (e - a)).map noAt
 | [], a, h, _, _ => by
  obtain rfl : a = e := h
  exact ⟨[], rfl, by simp [sizeL], Nat.le_refl _, by simp [flatL]⟩
 | k :: ks, a, h, ih, ha => by
  obtain ⟨h1, h2, h3⟩ := h
  obtain ⟨x, x1, x2⟩ := ih a (Nat.le_refl _) h2
  have hs := hS a h2
  obtain ⟨xs, e1, e2, e3, e4⟩ := kids_of hS e ks (a + S a) h3 (fun i hi hn => ih i (by omega) hn) hs.2
  refine ⟨x :: xs, by simp only [heads, x1, e1, h1], by simp only [sizeL, x1, e2]; omega, by omega, ?_⟩
  simp only [flatL, List.map_append, x1, x2, e4]
  rw [show e - a = S a + (e - (a + S a)) by omega, take_add, List.drop_drop, List.map_append]
theorem sub_of (h : RightSz (kidsAt ns) S ns.length) : ∀ (d i : Nat), ns.length - i = d → i < ns.length → ∃ x, Sub ns i (S i) x := by
 intro d
 induction d using Nat.strongRecOn with
 | ind d ih =>
  intro i hd hi
  have hs := h.size i hi
  obtain ⟨xs, e1, e2, e3, e4⟩ := kids_of h.size (i + S i) (kidsAt ns i) (i + 1) (h.chain i hi) (fun j hj hn => ih (ns.length - j) (by omega) j rfl hn) (by omega)
  refine ⟨.mk (kindAt ns i) 0 (ns.getD i default).text (ns.getD i default).n xs, by simp only [Ast.size]; omega, ?_⟩
  have hg : ns.drop i = ns.getD i default :: ns.drop (i + 1) := by
   rw [List.drop_eq_getElem_cons hi]
   simp [List.getD, hi]
  obtain ⟨m, hm⟩ : ∃ m, S i = m + 1 := ⟨S i - 1, by omega⟩
  rw [show i + S i - (i + 1) = m by omega] at e4
  simp only [flat, List.map_cons, e1, e4]
  rw [hg, hm, List.take_succ_cons, List.map_cons]
  rfl
end
theorem tree_of_right {ns : List Nd} (h : rightP ns = true) : ∃ a, wf a ∧ a.kind = 1 ∧ a.size = ns.length ∧ (flat 0 a).map noAt = ns.map noAt := by
 obtain ⟨s, hs, _, _⟩ := right_sizes h
 have ho := sizesP_some hs
 obtain ⟨a, h1, h2⟩ := sub_of ho.right _ 0 rfl ho.pos
 have hw : s.getD 0 0 = ns.length := ho.whole
 simp only [hw] at h1 h2
 rw [List.drop_zero, List.take_length] at h2
 have hr : rightP (flat 0 a) = true := by rw [← rightP_noAt, h2, rightP_noAt]; exact h
 obtain ⟨k1, k2⟩ := (right_flat a).1 hr
 exact ⟨a, k2, k1, h1, h2⟩
end
section
open Tr
def br (whole : Int) (second : Bool) (part : Int) : Bool :=
 if part = 23 ∨ part = 24 then second || (whole == 26 || whole == 25)
 else if part = 25 then whole == 26 || (whole == 25 && second)
 else false
def markT (k : Int) : ByteArray := if k = 23 then ⟨#[32, 43, 32]⟩ else if k = 24 then ⟨#[32, 45, 32]⟩ else ⟨#[32, 42, 32]⟩
def numT (n : Int) : ByteArray := ⟨(Lib.itoa n).toArray⟩
def nodeT (k : Int) (t : ByteArray) (n : Int) (l : List ByteArray) : ByteArray :=
 if k = 20 then t ++ ⟨#[91]⟩ ++ l.getD 0 none0 ++ ⟨#[93]⟩
 else if k = 21 then numT n
 else if k = 26 then ⟨#[45]⟩ ++ l.getD 0 none0
 else if k = 23 ∨ k = 24 ∨ k = 25 then l.getD 0 none0 ++ markT k ++ l.getD 1 none0
 else t
def inB (b : Bool) (s : ByteArray) : ByteArray := if b then ⟨#[40]⟩ ++ s ++ ⟨#[41]⟩ else s
mutual
def exT : Ast → ByteArray
 | .mk k _ t n ks => nodeT k t n (exL k 0 ks)
def exL (k : Int) (j : Nat) : List Ast → List ByteArray
 | [] => []
 | x :: r => inB (br k (j == 1) x.kind) (exT x) :: exL k (j + 1) r
end
def joinT : List ByteArray → ByteArray
 | [] => none0
 | [s] => s
 | s :: r => s ++ ⟨#[44, 32]⟩ ++ joinT r
def tabsT (d : Nat) : ByteArray := ⟨(List.replicate d 9).toArray⟩
def lineT (d : Nat) (s : ByteArray) : ByteArray := tabsT d ++ s ++ ⟨#[10]⟩
def stF (d : Nat) (k : Int) (t : ByteArray) (n : Int) (l m : List ByteArray) : ByteArray :=
 if k = 7 then lineT d (⟨#[114, 101, 97, 100, 32]⟩ ++ t ++ ⟨#[32, 61, 32]⟩ ++ l.getD 0 none0 ++ ⟨#[46]⟩ ++ l.getD 1 none0 ++ (if n = 1 then ⟨#[32, 102, 111, 114, 32, 117, 112, 100, 97, 116, 101]⟩ else ⟨#[]⟩) ++ ⟨#[59]⟩)
 else if k = 8 then lineT d (⟨#[115, 101, 116, 32]⟩ ++ l.getD 0 none0 ++ ⟨#[46]⟩ ++ l.getD 1 none0 ++ ⟨#[32, 61, 32]⟩ ++ l.getD 2 none0 ++ ⟨#[59]⟩)
 else if k = 9 then lineT d (⟨#[112, 117, 116, 32]⟩ ++ l.getD 0 none0 ++ ⟨#[40]⟩ ++ joinT (l.drop 1) ++ ⟨#[41, 59]⟩)
 else if k = 10 then lineT d (⟨#[100, 101, 108, 101, 116, 101, 32]⟩ ++ l.getD 0 none0 ++ ⟨#[59]⟩)
 else if k = 11 then lineT d (⟨#[115, 99, 97, 110, 32]⟩ ++ t ++ ⟨#[32, 61, 32]⟩ ++ l.getD 0 none0 ++ ⟨#[46]⟩ ++ l.getD 1 none0 ++ ⟨#[59]⟩)
 else if k = 12 then lineT d (⟨#[108, 111, 99, 107, 32]⟩ ++ l.getD 0 none0 ++ (if n = 1 then ⟨#[32, 97, 108, 108]⟩ else ⟨#[32, 115, 104, 97, 114, 101, 100]⟩) ++ ⟨#[59]⟩)
 else if k = 13 then lineT d (⟨#[114, 101, 108, 101, 97, 115, 101, 32]⟩ ++ l.getD 0 none0 ++ ⟨#[59]⟩)
 else if k = 14 then lineT d (⟨#[105, 102, 32]⟩ ++ l.getD 0 none0 ++ (if n = 1 then ⟨#[32, 61, 61, 32]⟩ else ⟨#[32, 60, 32]⟩) ++ l.getD 1 none0 ++ ⟨#[32, 123]⟩) ++ m.getD 2 none0
  ++ (if 3 < l.length then lineT d ⟨#[125, 32, 101, 108, 115, 101, 32, 123]⟩ ++ m.getD 3 none0 else none0) ++ lineT d ⟨#[125]⟩
 else if k = 15 then lineT d (⟨#[102, 111, 114, 32]⟩ ++ t ++ ⟨#[32, 61, 32]⟩ ++ l.getD 0 none0 ++ ⟨#[32, 116, 111, 32]⟩ ++ l.getD 1 none0 ++ ⟨#[32, 123]⟩) ++ m.getD 2 none0 ++ lineT d ⟨#[125]⟩
 else if k = 16 then lineT d (⟨#[108, 101, 116, 32]⟩ ++ t ++ ⟨#[32, 61, 32]⟩ ++ l.getD 0 none0 ++ ⟨#[59]⟩)
 else if k = 17 then lineT d (⟨#[101, 109, 105, 116, 32]⟩ ++ l.getD 0 none0 ++ ⟨#[59]⟩)
 else if k = 18 then lineT d ⟨#[114, 111, 108, 108, 98, 97, 99, 107, 59]⟩
 else if k = 19 then lineT d ⟨#[99, 104, 111, 112, 59]⟩
 else none0
mutual
def stT (d : Nat) : Ast → ByteArray
 | .mk k _ t n ks => stF d k t n (ks.map exT) (blLs (d + 1) ks)
def blT (d : Nat) : Ast → ByteArray
 | .mk _ _ _ _ ks => stL d ks
def stL (d : Nat) : List Ast → ByteArray
 | [] => none0
 | x :: r => stT d x ++ stL d r
def blLs (d : Nat) : List Ast → List ByteArray
 | [] => []
 | x :: r => blT d x :: blLs d r
end
def namesOf (ks : List Ast) : ByteArray := joinT (ks.map exT)
def partT : Ast → ByteArray
 | .mk k _ t n ks => if k = 2 then lineT 0 (⟨#[116, 97, 98, 108, 101, 32]⟩ ++ t ++ ⟨#[40]⟩ ++ namesOf ks ++ ⟨#[41, 59]⟩)
  else match ks with
   | [a, b] => lineT 0 (⟨#[112, 114, 111, 99, 32]⟩ ++ t ++ ⟨#[40]⟩ ++ namesOf a.kids ++ ⟨#[41]⟩ ++ (if n = 1 then ⟨#[32, 115, 105, 110, 103, 108, 101]⟩ else ⟨#[]⟩) ++ ⟨#[32, 123]⟩) ++ blT 1 b ++ lineT 0 ⟨#[125]⟩
   | _ => none0
def progL : List Ast → ByteArray
 | [] => none0
 | x :: r => partT x ++ progL r
theorem app_assoc (a b c : ByteArray) : a ++ b ++ c = a ++ (b ++ c) := ByteArray.append_assoc
theorem none_app (a : ByteArray) : none0 ++ a = a := ByteArray.empty_append
theorem app_none (a : ByteArray) : a ++ none0 = a := ByteArray.append_empty
end
section
open Par
def TokR (ρ : Nat → Nat → Prop) (t t' : PT) : Prop := t.kind = t'.kind ∧ t.txt = t'.txt ∧ t.n = t'.n ∧ ρ t.at' t'.at'
inductive TokL (ρ : Nat → Nat → Prop) : List PT → List PT → Prop
 | nil : TokL ρ [] []
 | cons {t t' : PT} {l l' : List PT} (h : TokR ρ t t') (r : TokL ρ l l') : TokL ρ (t :: l) (t' :: l')
inductive AstR (ρ : Nat → Nat → Prop) : Ast → Ast → Prop
 | mk {k : Int} {a a' : Nat} {t : ByteArray} {n : Int} {ks ks' : List Ast} (h : ρ a a') (hl : ks.length = ks'.length) (hk : ∀ (i : Nat) (x y : Ast), ks[i]? = some x → ks'[i]? = some y → AstR ρ x y) : AstR ρ (.mk k a t n ks) (.mk k a' t n ks')
def KidsR (ρ : Nat → Nat → Prop) (ks ks' : List Ast) : Prop := ks.length = ks'.length ∧ ∀ (i : Nat) (x y : Ast), ks[i]? = some x → ks'[i]? = some y → AstR ρ x y
def ResR {α : Type} (ρ : Nat → Nat → Prop) (R : α → α → Prop) : Res α → Res α → Prop
 | .err _ c, .err _ c' => c = c'
 | .ok a l, .ok a' l' => R a a' ∧ TokL ρ l l'
 | _, _ => False
def RelP {α : Type} (ρ : Nat → Nat → Prop) (R : α → α → Prop) (f f' : Par α) : Prop := ∀ l l', TokL ρ l l' → ResR ρ R (f l) (f' l')
section
variable {ρ : Nat → Nat → Prop} {α β : Type}
theorem TokL.len {l l' : List PT} (h : TokL ρ l l') : l.length = l'.length := by
 induction h with
 | nil => rfl
 | cons _ _ ih => simp only [List.length_cons, ih]
theorem RelP.pure {R : α → α → Prop} {a a' : α} (h : R a a') : RelP ρ R (Par.pure a) (Par.pure a') := fun _ _ hl => ⟨h, hl⟩
theorem RelP.bind {R : α → α → Prop} {S : β → β → Prop} {f f' : Par α} {g g' : α → Par β} (hf : RelP ρ R f f') (hg : ∀ a a', R a a' → RelP ρ S (g a) (g' a')) : RelP ρ S (Par.bind f g) (Par.bind f' g') := fun l l' hl => by
 have h := hf l l' hl
 simp only [Par.bind]
 cases h1 : f l with
 | err p c =>
  cases h2 : f' l' with
  | err p' c' => rw [h1, h2] at h; exact h
  | ok a' m' => rw [h1, h2] at h; exact h.elim
 | ok a m =>
  cases h2 : f' l' with
  | err p' c' => rw [h1, h2] at h; exact h.elim
  | ok a' m' => rw [h1, h2] at h; exact hg a a' h.1 m m' h.2
def OptR (R : α → α → Prop) : Option α → Option α → Prop
 | none, none => True
 | some a, some b => R a b
 | _, _ => False
theorem RelP.loop {R : α → α → Prop} {step step' : α → Par (Option α)} (hs : ∀ a a', R a a' → RelP ρ (OptR R) (step a) (step' a')) (m : Nat) : ∀ a a', R a a' → RelP ρ R (loop step m a) (loop step' m a') := by
 induction m with
 | zero => intro a a' _ l l' _; exact rfl
 | succ m ih =>
  intro a a' h
  refine RelP.bind (hs a a' h) fun b b' hb => ?_
  cases b with
  | none =>
   cases b' with
   | none => exact RelP.pure h
   | some _ => exact hb.elim
  | some b =>
   cases b' with
   | none => exact hb.elim
   | some b' => exact ih b b' hb
theorem RelP.many {R : α → α → Prop} {step step' : α → Par (Option α)} (hs : ∀ a a', R a a' → RelP ρ (OptR R) (step a) (step' a')) {a a' : α} (h : R a a') : RelP ρ R (many step a) (many step' a') := fun l l' hl => by
 have := RelP.loop hs (l.length + 1) a a' h l l' hl
 simp only [Par.many, ← hl.len]
 exact this
theorem rel_isNext (s : ByteArray) : RelP ρ Eq (isNextP s) (isNextP s) := fun l l' hl => by
 cases hl with
 | nil => exact rfl
 | cons h r => exact ⟨by rw [h.2.1], .cons h r⟩
theorem rel_skip (s : ByteArray) : RelP ρ Eq (skipP s) (skipP s) := fun l l' hl => by
 cases hl with
 | nil => exact rfl
 | cons h r =>
  simp only [skipP, h.2.1]
  split
  · exact ⟨rfl, r⟩
  · exact ⟨rfl, .cons h r⟩
theorem rel_expect (s : ByteArray) : RelP ρ ρ (expectP s) (expectP s) := fun l l' hl => by
 cases hl with
 | nil => exact rfl
 | cons h r =>
  simp only [expectP, h.2.1]
  split
  · exact ⟨h.2.2.2, r⟩
  · exact rfl
theorem rel_take (k : Int) : RelP ρ (TokR ρ) (takeP k) (takeP k) := fun l l' hl => by
 cases hl with
 | nil => exact rfl
 | cons h r =>
  simp only [takeP, h.1]
  split
  · exact ⟨h, r⟩
  · exact rfl
theorem rel_peek : RelP ρ (TokR ρ) peekP peekP := fun l l' hl => by
 cases hl with
 | nil => exact rfl
 | cons h r => exact ⟨h, .cons h r⟩
theorem rel_next : RelP ρ (TokR ρ) nextP nextP := fun l l' hl => by
 cases hl with
 | nil => exact rfl
 | cons h r => exact ⟨h, r⟩
theorem rel_enter (s : ByteArray) (r : Nat) : RelP ρ ρ (enterP s r) (enterP s r) := fun l l' hl => by
 cases hl with
 | nil => exact rfl
 | cons h hr =>
  simp only [enterP, h.2.1]
  split
  · split
    · exact rfl
    · exact ⟨h.2.2.2, hr⟩
  · exact rfl
theorem rel_fail {R : α → α → Prop} : RelP ρ R (failP : Par α) failP := fun l l' hl => by
 cases hl with
 | nil => exact rfl
 | cons h r => exact rfl
theorem KidsR.nil : KidsR ρ [] [] := ⟨rfl, fun i x y h => by simp at h⟩
theorem KidsR.cons {a a' : Ast} {ks ks' : List Ast} (h : AstR ρ a a') (hk : KidsR ρ ks ks') : KidsR ρ (a :: ks) (a' :: ks') := ⟨by simp [hk.1], fun i x y hx hy => by
 cases i with
 | zero => simp at hx hy; subst hx hy; exact h
 | succ i => exact hk.2 i x y (by simpa using hx) (by simpa using hy)⟩
theorem KidsR.snoc {a a' : Ast} {ks ks' : List Ast} (hk : KidsR ρ ks ks') (h : AstR ρ a a') : KidsR ρ (ks ++ [a]) (ks' ++ [a']) := ⟨by simp [hk.1], fun i x y hx hy => by
 by_cases hi : i < ks.length
 · rw [List.getElem?_append_left hi] at hx
   rw [List.getElem?_append_left (by rw [← hk.1]; exact hi)] at hy
   exact hk.2 i x y hx hy
 · rw [List.getElem?_append_right (by omega)] at hx
   rw [List.getElem?_append_right (by rw [← hk.1]; omega), ← hk.1] at hy
   cases hj : i - ks.length with
   | zero => rw [hj] at hx hy; simp at hx hy; subst hx hy; exact h
   | succ j => rw [hj] at hx; simp at hx⟩
theorem AstR.node {k n : Int} {a a' : Nat} {t : ByteArray} {ks ks' : List Ast} (h : ρ a a') (hk : KidsR ρ ks ks') : AstR ρ (.mk k a t n ks) (.mk k a' t n ks') := .mk h hk.1 hk.2
theorem AstR.at' {a a' : Ast} (h : AstR ρ a a') : ρ a.at' a'.at' := by
 cases h with
 | mk h _ _ => exact h
theorem rel_word {t t' : PT} (h : TokR ρ t t') : AstR ρ (wordA t) (wordA t') := by
 unfold wordA; rw [h.2.1]; exact .node h.2.2.2 KidsR.nil
theorem rel_both (k : Int) {a a' b b' : Ast} (h : AstR ρ a a') (h' : AstR ρ b b') : AstR ρ (bothA k a b) (bothA k a' b') := .node h.at' (.cons h (.cons h' .nil))
theorem rel_wordP : RelP ρ (AstR ρ) wordP wordP := .bind (rel_take _) fun _ _ h => .pure (rel_word h)
theorem rel_numberP : RelP ρ (AstR ρ) numberP numberP := .bind (rel_take _) fun t t' h => .pure (by rw [h.2.2.1]; exact .node h.2.2.2 .nil)
theorem rel_times {fac fac' : Par Ast} (h : RelP ρ (AstR ρ) fac fac') (a a' : Ast) (ha : AstR ρ a a') : RelP ρ (OptR (AstR ρ)) (timesStep fac a) (timesStep fac' a') := .bind (rel_skip _) fun b b' e => by
 subst e
 cases b
 · exact .pure trivial
 · exact .bind h fun _ _ hb => .pure (rel_both _ ha hb)
theorem rel_term {fac fac' : Par Ast} (h : RelP ρ (AstR ρ) fac fac') : RelP ρ (AstR ρ) (termP fac) (termP fac') := .bind h fun _ _ ha => .many (rel_times h) ha
theorem rel_sum {fac fac' : Par Ast} (h : RelP ρ (AstR ρ) fac fac') (a a' : Ast) (ha : AstR ρ a a') : RelP ρ (OptR (AstR ρ)) (sumStep fac a) (sumStep fac' a') := .bind (rel_skip _) fun b b' e => by
 subst e
 cases b
 · refine .bind (rel_skip _) fun b b' e => ?_
   subst e
   cases b
   · exact .pure trivial
   · exact .bind (rel_term h) fun _ _ hb => .pure (rel_both _ ha hb)
 · exact .bind (rel_term h) fun _ _ hb => .pure (rel_both _ ha hb)
theorem rel_exprP {fac fac' : Par Ast} (h : RelP ρ (AstR ρ) fac fac') : RelP ρ (AstR ρ) (exprP fac) (exprP fac') := .bind (rel_term h) fun _ _ ha => .many (rel_sum h) ha
theorem RelP.ite {R : α → α → Prop} {p p' : Prop} [Decidable p] [Decidable p'] (hp : p ↔ p') {f f' g g' : Par α} (hf : RelP ρ R f f') (hg : RelP ρ R g g') : RelP ρ R (if p then f else g) (if p' then f' else g') := by
 by_cases h : p
 · rw [if_pos h, if_pos (hp.1 h)]; exact hf
 · rw [if_neg h, if_neg (fun e => h (hp.2 e))]; exact hg
theorem rel_factorOf (r : Nat) {fac fac' : Par Ast} (h : RelP ρ (AstR ρ) fac fac') : RelP ρ (AstR ρ) (factorOf r fac) (factorOf r fac') := .bind rel_peek fun t t' ht =>
 .ite (by rw [ht.1]) rel_numberP <| .ite (by rw [ht.1]) (.bind rel_next fun u u' hu => .pure (by rw [hu.2.1]; exact .node hu.2.2.2 .nil)) <|
 .ite (by rw [ht.2.1]) (.bind (rel_enter _ _) fun _ _ _ => .bind (rel_exprP h) fun _ _ ha => .bind (rel_expect _) fun _ _ _ => .pure ha) <|
 .ite (by rw [ht.2.1]) (.bind (rel_enter _ _) fun _ _ hp => .bind h fun _ _ ha => .pure (.node hp (.cons ha .nil))) rel_fail
theorem rel_factor (r : Nat) : RelP ρ (AstR ρ) (factorP r) (factorP r) := by
 induction r with
 | zero => exact rel_factorOf 0 rel_fail
 | succ r ih => exact rel_factorOf (r + 1) ih
theorem rel_expr (r : Nat) : RelP ρ (AstR ρ) (exprR r) (exprR r) := rel_exprP (rel_factor r)
theorem rel_wordsStep (ks ks' : List Ast) (hk : KidsR ρ ks ks') : RelP ρ (OptR (KidsR ρ)) (wordsStep ks) (wordsStep ks') := .bind (rel_skip _) fun b b' e => by
 subst e
 cases b
 · exact .pure trivial
 · exact .bind rel_wordP fun _ _ ha => .pure (hk.snoc ha)
theorem rel_words : RelP ρ (KidsR ρ) wordsP wordsP := .bind rel_wordP fun _ _ ha => .many rel_wordsStep (.cons ha .nil)
theorem rel_rowOf (r : Nat) {t t' : PT} (ht : TokR ρ t t') : RelP ρ (AstR ρ) (rowOfP r t) (rowOfP r t') := .bind (rel_enter _ _) fun _ _ _ => .bind (rel_expr _) fun _ _ ha => .bind (rel_expect _) fun _ _ _ => .pure (by rw [ht.2.1]; exact .node ht.2.2.2 (.cons ha .nil))
theorem rel_row (r : Nat) : RelP ρ (AstR ρ) (rowP r) (rowP r) := .bind (rel_take _) fun _ _ ht => rel_rowOf r ht
def PairR (ρ : Nat → Nat → Prop) (x y : Ast × Ast) : Prop := AstR ρ x.1 y.1 ∧ AstR ρ x.2 y.2
theorem rel_cell (r : Nat) : RelP ρ (PairR ρ) (cellP r) (cellP r) := .bind (rel_row r) fun _ _ ha => .bind (rel_expect _) fun _ _ _ => .bind rel_wordP fun _ _ hb => .pure ⟨ha, hb⟩
theorem rel_end {a a' : Ast} (h : AstR ρ a a') : RelP ρ (AstR ρ) (endP a) (endP a') := .bind (rel_expect _) fun _ _ _ => .pure h
theorem rel_read (r : Nat) {p p' : Nat} (hp : ρ p p') : RelP ρ (AstR ρ) (readP r p) (readP r p') := .bind (rel_take _) fun t t' ht => .bind (rel_expect _) fun _ _ _ => .bind (rel_cell r) fun _ _ hc => .bind (rel_skip _) fun b b' e => by
 subst e
 rw [ht.2.1]
 cases b
 · exact rel_end (.node hp (.cons hc.1 (.cons hc.2 .nil)))
 · exact .bind (rel_expect _) fun _ _ _ => rel_end (.node hp (.cons hc.1 (.cons hc.2 .nil)))
theorem rel_set (r : Nat) {p p' : Nat} (hp : ρ p p') : RelP ρ (AstR ρ) (setP r p) (setP r p') := .bind (rel_cell r) fun _ _ hc => .bind (rel_expect _) fun _ _ _ => .bind (rel_expr r) fun _ _ hv => rel_end (.node hp (.cons hc.1 (.cons hc.2 (.cons hv .nil))))
theorem rel_putStep (r : Nat) (ks ks' : List Ast) (hk : KidsR ρ ks ks') : RelP ρ (OptR (KidsR ρ)) (putStep r ks) (putStep r ks') := .bind (rel_skip _) fun b b' e => by
 subst e
 cases b
 · exact .pure trivial
 · exact .bind (rel_expr r) fun _ _ ha => .pure (hk.snoc ha)
theorem rel_put (r : Nat) {p p' : Nat} (hp : ρ p p') : RelP ρ (AstR ρ) (putP r p) (putP r p') := .bind (rel_row r) fun _ _ ha => .bind (rel_expect _) fun _ _ _ => .bind (rel_expr r) fun _ _ he => .bind (.many (rel_putStep r) (.cons ha (.cons he .nil))) fun _ _ hk => .bind (rel_expect _) fun _ _ _ => rel_end (.node hp hk)
theorem rel_delete (r : Nat) {p p' : Nat} (hp : ρ p p') : RelP ρ (AstR ρ) (deleteP r p) (deleteP r p') := .bind (rel_row r) fun _ _ ha => rel_end (.node hp (.cons ha .nil))
theorem rel_scan {p p' : Nat} (hp : ρ p p') : RelP ρ (AstR ρ) (scanP p) (scanP p') := .bind (rel_take _) fun t t' ht => .bind (rel_expect _) fun _ _ _ => .bind rel_wordP fun _ _ ha => .bind (rel_expect _) fun _ _ _ => .bind rel_wordP fun _ _ hb => rel_end (by rw [ht.2.1]; exact .node hp (.cons ha (.cons hb .nil)))
theorem rel_lock {p p' : Nat} (hp : ρ p p') : RelP ρ (AstR ρ) (lockP p) (lockP p') := .bind rel_wordP fun _ _ ha => .bind (rel_skip _) fun b b' e => by
 subst e
 cases b
 · exact .bind (rel_expect _) fun _ _ _ => rel_end (.node hp (.cons ha .nil))
 · exact rel_end (.node hp (.cons ha .nil))
theorem rel_release (r : Nat) {p p' : Nat} (hp : ρ p p') : RelP ρ (AstR ρ) (releaseP r p) (releaseP r p') := .bind (rel_take _) fun t t' ht => .bind (rel_isNext _) fun b b' e => by
 subst e
 cases b
 · exact rel_end (.node hp (.cons (rel_word ht) .nil))
 · exact .bind (rel_rowOf r ht) fun _ _ ha => rel_end (.node hp (.cons ha .nil))
theorem rel_ifTail {B B' : Par Ast} (h : RelP ρ (AstR ρ) B B') {p p' : Nat} (hp : ρ p p') (n : Int) {a a' b b' : Ast} (ha : AstR ρ a a') (hb : AstR ρ b b') : RelP ρ (AstR ρ) (ifTail B p n a b) (ifTail B' p' n a' b') := .bind h fun _ _ hc => .bind (rel_skip _) fun u u' e => by
 subst e
 cases u
 · exact .pure (.node hp (.cons ha (.cons hb (.cons hc .nil))))
 · exact .bind h fun _ _ hd => .pure (.node hp (.cons ha (.cons hb (.cons hc (.cons hd .nil)))))
theorem rel_if (r : Nat) {B B' : Par Ast} (h : RelP ρ (AstR ρ) B B') {p p' : Nat} (hp : ρ p p') : RelP ρ (AstR ρ) (ifP r B p) (ifP r B' p') := .bind (rel_expr r) fun _ _ ha => .bind (rel_skip _) fun u u' e => by
 subst e
 cases u
 · exact .bind (rel_expect _) fun _ _ _ => .bind (rel_expr r) fun _ _ hb => rel_ifTail h hp _ ha hb
 · exact .bind (rel_expr r) fun _ _ hb => rel_ifTail h hp _ ha hb
theorem rel_for {B B' : Par Ast} (h : RelP ρ (AstR ρ) B B') {p p' : Nat} (hp : ρ p p') : RelP ρ (AstR ρ) (forP B p) (forP B' p') := .bind (rel_take _) fun t t' ht => .bind (rel_expect _) fun _ _ _ => .bind rel_numberP fun _ _ ha => .bind (rel_expect _) fun _ _ _ => .bind rel_numberP fun _ _ hb => .bind h fun _ _ hc => .pure (by rw [ht.2.1]; exact .node hp (.cons ha (.cons hb (.cons hc .nil))))
theorem rel_let (r : Nat) {p p' : Nat} (hp : ρ p p') : RelP ρ (AstR ρ) (letP r p) (letP r p') := .bind (rel_take _) fun t t' ht => .bind (rel_expect _) fun _ _ _ => .bind (rel_expr r) fun _ _ ha => rel_end (by rw [ht.2.1]; exact .node hp (.cons ha .nil))
theorem rel_emit (r : Nat) {p p' : Nat} (hp : ρ p p') : RelP ρ (AstR ρ) (emitP r p) (emitP r p') := .bind (rel_expr r) fun _ _ ha => rel_end (.node hp (.cons ha .nil))
theorem rel_rest (r : Nat) {B B' : Par Ast} (h : RelP ρ (AstR ρ) B B') (j : Nat) {p p' : Nat} (hp : ρ p p') : RelP ρ (AstR ρ) (restP r B j p) (restP r B' j p') := by
 unfold restP
 split
 · exact rel_read r hp
 · exact rel_set r hp
 · exact rel_put r hp
 · exact rel_delete r hp
 · exact rel_scan hp
 · exact rel_lock hp
 · exact rel_release r hp
 · exact rel_if r h hp
 · exact rel_for h hp
 · exact rel_let r hp
 · exact rel_emit r hp
 · exact rel_end (.node hp .nil)
 · exact rel_end (.node hp .nil)
 · exact rel_fail
theorem rel_stmt (r : Nat) {B B' : Par Ast} (h : RelP ρ (AstR ρ) B B') : RelP ρ (AstR ρ) (stmtP r B) (stmtP r B') := .bind rel_peek fun t t' ht =>
 .ite (by rw [ht.2.1]) (.bind rel_next fun u u' hu => by rw [hu.2.1]; exact rel_rest r h _ hu.2.2.2) rel_fail
theorem rel_blockStep {st st' : Par Ast} (h : RelP ρ (AstR ρ) st st') (ks ks' : List Ast) (hk : KidsR ρ ks ks') : RelP ρ (OptR (KidsR ρ)) (blockStep st ks) (blockStep st' ks') := .bind (rel_isNext _) fun b b' e => by
 subst e
 cases b
 · exact .bind h fun _ _ ha => .pure (hk.snoc ha)
 · exact .pure trivial
theorem rel_blockOf (r : Nat) {st st' : Par Ast} (h : RelP ρ (AstR ρ) st st') : RelP ρ (AstR ρ) (blockOf r st) (blockOf r st') := .bind (rel_enter _ _) fun _ _ hp => .bind (.many (rel_blockStep h) .nil) fun _ _ hk => .bind (rel_expect _) fun _ _ _ => .pure (.node hp hk)
theorem rel_block (r : Nat) : RelP ρ (AstR ρ) (blockP r) (blockP r) := by
 induction r with
 | zero => exact rel_blockOf 0 rel_fail
 | succ r ih => exact rel_blockOf (r + 1) (rel_stmt r ih)
theorem rel_names : RelP ρ (AstR ρ) namesP namesP := .bind rel_peek fun t t' ht => .bind (rel_isNext _) fun b b' e => by
 subst e
 cases b
 · exact .bind rel_words fun _ _ hk => .pure (.node ht.2.2.2 hk)
 · exact .pure (.node ht.2.2.2 .nil)
theorem rel_table : RelP ρ (AstR ρ) tableP tableP := .bind (rel_expect _) fun _ _ hp => .bind (rel_take _) fun t t' ht => .bind (rel_expect _) fun _ _ _ => .bind rel_words fun _ _ hk => .bind (rel_expect _) fun _ _ _ => rel_end (by rw [ht.2.1]; exact .node hp hk)
theorem rel_proc : RelP ρ (AstR ρ) procP procP := .bind (rel_expect _) fun _ _ hp => .bind (rel_take _) fun t t' ht => .bind (rel_expect _) fun _ _ _ => .bind rel_names fun _ _ hn => .bind (rel_expect _) fun _ _ _ => .bind (rel_skip _) fun b b' e => by
 subst e
 rw [ht.2.1]
 cases b
 · exact .bind (rel_block 64) fun _ _ hb => .pure (.node hp (.cons hn (.cons hb .nil)))
 · exact .bind (rel_block 64) fun _ _ hb => .pure (.node hp (.cons hn (.cons hb .nil)))
theorem rel_progStep (ks ks' : List Ast) (hk : KidsR ρ ks ks') : RelP ρ (OptR (KidsR ρ)) (progStep ks) (progStep ks') := .bind rel_peek fun t t' ht => .ite (by rw [ht.1]) (.pure trivial) <| .bind (rel_isNext _) fun b b' e => by
 subst e
 cases b
 · exact .bind rel_proc fun _ _ ha => .pure (hk.snoc ha)
 · exact .bind rel_table fun _ _ ha => .pure (hk.snoc ha)
theorem rel_program : RelP ρ (AstR ρ) programP programP := .bind rel_peek fun t t' ht => .bind (.many rel_progStep .nil) fun _ _ hk => .pure (.node ht.2.2.2 hk)
end
end
section
open Par
def IsEnd (e : PT) : Prop := e.kind = 4 ∧ e.txt = none0
def EndP {α : Type} (f : Par α) : Prop := ∀ e, IsEnd e → f [e] = .err e.at' 50 ∨ ∃ a, f [e] = .ok a [e]
def CutR {α : Type} (f : Par α) (e : PT) (pre rest : List PT) (a : α) (l1 : List PT) : Prop :=
 (∃ pre', l1 = pre' ++ rest ∧ f (pre ++ [e]) = .ok a (pre' ++ [e])) ∨ f (pre ++ [e]) = .err e.at' 50 ∨ ∃ a', f (pre ++ [e]) = .ok a' [e]
def CutP {α : Type} (f : Par α) : Prop := ∀ e, IsEnd e → ∀ pre rest a l1, f (pre ++ rest) = .ok a l1 → CutR f e pre rest a l1
section
variable {α β : Type}
theorem EndP.bind {f : Par α} {g : α → Par β} (hf : EndP f) (hg : ∀ a, EndP (g a)) : EndP (Par.bind f g) := fun e he => by
 rcases hf e he with h | ⟨a, h⟩
 · exact Or.inl (bind_err h)
 · rw [bind_ok h]; exact hg a e he
theorem EndP.pure (a : α) : EndP (Par.pure a) := fun e _ => Or.inr ⟨a, rfl⟩
theorem EndP.fail : EndP (failP : Par α) := fun e _ => Or.inl rfl
theorem CutP.bind {f : Par α} {g : α → Par β} (hf : CutP f) (hg : ∀ a, CutP (g a)) (hge : ∀ a, EndP (g a)) : CutP (Par.bind f g) := fun e he pre rest b l2 h => by
 simp only [Par.bind] at h
 cases h1 : f (pre ++ rest) with
 | err p c => rw [h1] at h; simp at h
 | ok a l1 =>
  rw [h1] at h
  rcases hf e he pre rest a l1 h1 with ⟨pre', rfl, h2⟩ | h2 | ⟨a', h2⟩
  · have := hg a e he pre' rest b l2 h
    unfold CutR at this ⊢
    rw [bind_ok h2]
    exact this
  · exact Or.inr (Or.inl (bind_err h2))
  · rcases hge a' e he with h3 | ⟨b', h3⟩
    · exact Or.inr (Or.inl (by rw [bind_ok h2]; exact h3))
    · exact Or.inr (Or.inr ⟨b', by rw [bind_ok h2]; exact h3⟩)
theorem CutP.pure (a : α) : CutP (Par.pure a) := fun e _ pre rest b l1 h => by
 simp only [Par.pure, Res.ok.injEq] at h
 obtain ⟨rfl, rfl⟩ := h
 exact Or.inl ⟨pre, rfl, rfl⟩
theorem CutP.fail : CutP (failP : Par α) := fun e _ pre rest b l1 h => by
 cases h1 : pre ++ rest with
 | nil => rw [h1] at h; simp [failP] at h
 | cons t l => rw [h1] at h; simp [failP] at h
theorem cut_end {f : Par α} (h : EndP f) {e : PT} (he : IsEnd e) (rest : List PT) (a : α) (l1 : List PT) : CutR f e [] rest a l1 := Or.inr (h e he)
theorem end_isNext (s : ByteArray) : EndP (isNextP s) := fun e _ => Or.inr ⟨_, rfl⟩
theorem end_peek : EndP peekP := fun e _ => Or.inr ⟨_, rfl⟩
theorem end_skip (s : ByteArray) (hs : s ≠ none0) : EndP (skipP s) := fun e he => Or.inr ⟨false, by simp only [skipP, he.2]; rw [if_neg (fun h => hs h.symm)]⟩
theorem end_expect (s : ByteArray) (hs : s ≠ none0) : EndP (expectP s) := fun e he => Or.inl (by simp only [expectP, he.2]; rw [if_neg (fun h => hs h.symm)])
theorem end_enter (s : ByteArray) (r : Nat) (hs : s ≠ none0) : EndP (enterP s r) := fun e he => Or.inl (by simp only [enterP, he.2]; rw [if_neg (fun h => hs h.symm)])
theorem end_take (k : Int) (hk : k ≠ 4) : EndP (takeP k) := fun e he => Or.inl (by simp only [takeP, he.1]; rw [if_neg (fun h => hk h.symm)])
theorem cut_isNext (s : ByteArray) : CutP (isNextP s) := fun e he pre rest a l1 h => by
 cases pre with
 | nil => exact cut_end (end_isNext s) he _ _ _
 | cons t pre =>
  simp only [List.cons_append, isNextP, Res.ok.injEq] at h
  obtain ⟨rfl, rfl⟩ := h
  exact Or.inl ⟨t :: pre, rfl, rfl⟩
theorem cut_peek : CutP peekP := fun e he pre rest a l1 h => by
 cases pre with
 | nil => exact cut_end end_peek he _ _ _
 | cons t pre =>
  simp only [List.cons_append, peekP, Res.ok.injEq] at h
  obtain ⟨rfl, rfl⟩ := h
  exact Or.inl ⟨t :: pre, rfl, rfl⟩
theorem cut_skip (s : ByteArray) (hs : s ≠ none0) : CutP (skipP s) := fun e he pre rest a l1 h => by
 cases pre with
 | nil => exact cut_end (end_skip s hs) he _ _ _
 | cons t pre =>
  simp only [List.cons_append, skipP] at h
  split at h <;> simp only [Res.ok.injEq] at h <;> obtain ⟨rfl, rfl⟩ := h
  · exact Or.inl ⟨pre, rfl, by simp only [List.cons_append, skipP]; rw [if_pos ‹_›]⟩
  · exact Or.inl ⟨t :: pre, rfl, by simp only [List.cons_append, skipP]; rw [if_neg ‹_›]⟩
theorem cut_expect (s : ByteArray) (hs : s ≠ none0) : CutP (expectP s) := fun e he pre rest a l1 h => by
 cases pre with
 | nil => exact cut_end (end_expect s hs) he _ _ _
 | cons t pre =>
  simp only [List.cons_append, expectP] at h
  split at h <;> simp only [Res.ok.injEq, reduceCtorEq] at h
  obtain ⟨rfl, rfl⟩ := h
  exact Or.inl ⟨pre, rfl, by simp only [List.cons_append, expectP]; rw [if_pos ‹_›]⟩
theorem cut_take (k : Int) (hk : k ≠ 4) : CutP (takeP k) := fun e he pre rest a l1 h => by
 cases pre with
 | nil => exact cut_end (end_take k hk) he _ _ _
 | cons t pre =>
  simp only [List.cons_append, takeP] at h
  split at h <;> simp only [Res.ok.injEq, reduceCtorEq] at h
  obtain ⟨rfl, rfl⟩ := h
  exact Or.inl ⟨pre, rfl, by simp only [List.cons_append, takeP]; rw [if_pos ‹_›]⟩
theorem cut_enter (s : ByteArray) (r : Nat) (hs : s ≠ none0) : CutP (enterP s r) := fun e he pre rest a l1 h => by
 cases pre with
 | nil => exact cut_end (end_enter s r hs) he _ _ _
 | cons t pre =>
  simp only [List.cons_append, enterP] at h
  split at h
  · split at h <;> simp only [Res.ok.injEq, reduceCtorEq] at h
    obtain ⟨rfl, rfl⟩ := h
    exact Or.inl ⟨pre, rfl, by simp only [List.cons_append, enterP]; rw [if_pos ‹_›, if_neg ‹_›]⟩
  · simp at h
theorem cut_first {g : PT → Par β} (hend : EndP (Par.bind peekP g)) (h : ∀ e, IsEnd e → ∀ t pre rest a l1, g t (t :: pre ++ rest) = .ok a l1 → CutR (g t) e (t :: pre) rest a l1) : CutP (Par.bind peekP g) := fun e he pre rest a l1 hx => by
 cases pre with
 | nil => exact cut_end hend he _ _ _
 | cons t pre => exact h e he t pre rest a l1 hx
theorem cut_next {g : PT → Par β} {e : PT} (he : IsEnd e) {t : PT} {pre rest : List PT} {a : β} {l1 : List PT} (hg : CutP (g t)) (h : Par.bind nextP g (t :: pre ++ rest) = .ok a l1) : CutR (Par.bind nextP g) e (t :: pre) rest a l1 := hg e he pre rest a l1 h
theorem EndP.ite {p : Prop} [Decidable p] {f g : Par α} (hf : EndP f) (hg : EndP g) : EndP (if p then f else g) := by split <;> assumption
theorem EndP.bool {f g : Par α} (hf : EndP f) (hg : EndP g) (b : Bool) : EndP (match b with | true => f | false => g) := by
 cases b
 · exact hg
 · exact hf
theorem CutP.bool {f g : Par α} (hf : CutP f) (hg : CutP g) (b : Bool) : CutP (match b with | true => f | false => g) := by
 cases b
 · exact hg
 · exact hf
theorem EndP.loop {step : α → Par (Option α)} (hs : Adv step) (he : ∀ a, EndP (step a)) (m : Nat) (a : α) (e : PT) (hE : IsEnd e) : Par.loop step (m + 1) a [e] = .err e.at' 50 ∨ ∃ b, Par.loop step (m + 1) a [e] = .ok b [e] := by
 rw [Par.loop]
 rcases he a e hE with h | ⟨b, h⟩
 · exact Or.inl (bind_err h)
 · cases b with
   | none => exact Or.inr ⟨a, by rw [bind_ok h]; rfl⟩
   | some b =>
    have := (hs _ _ _ _ h).1 rfl
    simp at this
theorem EndP.many {step : α → Par (Option α)} (hs : Adv step) (he : ∀ a, EndP (step a)) (a : α) : EndP (many step a) := fun e hE => EndP.loop hs he 1 a e hE
theorem CutP.loop {step : α → Par (Option α)} (hs : Adv step) (hc : ∀ a, CutP (step a)) (hE : ∀ a, EndP (step a)) (e : PT) (he : IsEnd e) (m : Nat) : ∀ (k : Nat) (a : α) (pre rest : List PT) (b : α) (l1 : List PT), (pre ++ [e]).length < k → loop step m a (pre ++ rest) = .ok b l1 →
 (∃ pre', l1 = pre' ++ rest ∧ loop step k a (pre ++ [e]) = .ok b (pre' ++ [e])) ∨ loop step k a (pre ++ [e]) = .err e.at' 50 ∨ ∃ a', loop step k a (pre ++ [e]) = .ok a' [e] := by
 induction m with
 | zero => intro k a pre rest b l1 _ h; simp [Par.loop] at h
 | succ m ih =>
  intro k a pre rest b l1 hk h
  obtain ⟨k, rfl⟩ : ∃ k', k = k' + 1 := ⟨k - 1, by omega⟩
  rw [Par.loop] at h
  rw [Par.loop]
  simp only [Par.bind] at h
  cases h1 : step a (pre ++ rest) with
  | err p c => rw [h1] at h; simp at h
  | ok o l2 =>
   rw [h1] at h
   rcases hc a e he pre rest o l2 h1 with ⟨pre', rfl, h2⟩ | h2 | ⟨o', h2⟩
   · cases o with
     | none =>
      simp only [Par.pure, Res.ok.injEq] at h
      obtain ⟨rfl, rfl⟩ := h
      exact Or.inl ⟨pre', rfl, by rw [bind_ok h2]; rfl⟩
     | some a2 =>
      have h3 := (hs _ _ _ _ h2).1 rfl
      rw [bind_ok h2]
      exact ih k a2 pre' rest b l1 (by omega) h
   · exact Or.inr (Or.inl (bind_err h2))
   · rw [bind_ok h2]
     cases o' with
     | none => exact Or.inr (Or.inr ⟨a, rfl⟩)
     | some a2 =>
      have h3 := (hs _ _ _ _ h2).1 rfl
      simp only [List.length_append, List.length_singleton] at h3 hk
      obtain ⟨k, rfl⟩ : ∃ k', k = k' + 1 := ⟨k - 1, by omega⟩
      exact Or.inr (EndP.loop hs hE k a2 e he)
theorem CutP.many {step : α → Par (Option α)} (hs : Adv step) (hc : ∀ a, CutP (step a)) (hE : ∀ a, EndP (step a)) (a : α) : CutP (many step a) := fun e he pre rest b l1 h =>
 CutP.loop hs hc hE e he _ _ a pre rest b l1 (Nat.lt_succ_self _) h
def FrW (f : Par α) : Prop := ∀ e, IsEnd e → ∀ pre a l', f (pre ++ [e]) = .ok a l' → ∃ pre', l' = pre' ++ [e] ∧ (pre' ≠ [] → ∀ rest, f (pre ++ rest) = .ok a (pre' ++ rest))
theorem FrW.bind {f : Par α} {g : α → Par β} (hf : FrW f) (hg : ∀ a, FrW (g a)) (hl : ∀ a, Less (g a)) : FrW (Par.bind f g) := fun e he pre b l2 h => by
 simp only [Par.bind] at h
 cases h1 : f (pre ++ [e]) with
 | err p c => rw [h1] at h; simp at h
 | ok a l1 =>
  rw [h1] at h
  obtain ⟨pre1, rfl, k1⟩ := hf e he pre a l1 h1
  obtain ⟨pre2, rfl, k2⟩ := hg a e he pre1 b l2 h
  refine ⟨pre2, rfl, fun hn rest => ?_⟩
  have h3 := hl a _ _ _ h
  have hn1 : pre1 ≠ [] := fun e1 => by
   subst e1
   simp only [List.length_append, List.length_nil, List.length_singleton] at h3
   exact hn (List.length_eq_zero_iff.1 (by omega))
  rw [bind_ok (k1 hn1 rest)]
  exact k2 hn rest
theorem FrW.pure (a : α) : FrW (Par.pure a) := fun e _ pre b l1 h => by
 simp only [Par.pure, Res.ok.injEq] at h
 obtain ⟨rfl, rfl⟩ := h
 exact ⟨pre, rfl, fun _ _ => rfl⟩
theorem FrW.fail : FrW (failP : Par α) := fun e _ pre b l1 h => by cases pre <;> simp [failP] at h
theorem fr_isNext (s : ByteArray) : FrW (isNextP s) := fun e _ pre a l1 h => by
 cases pre with
 | nil =>
  simp only [List.nil_append, isNextP, Res.ok.injEq] at h
  exact ⟨[], h.2.symm, fun hn => absurd rfl hn⟩
 | cons t pre =>
  simp only [List.cons_append, isNextP, Res.ok.injEq] at h
  obtain ⟨rfl, rfl⟩ := h
  exact ⟨t :: pre, rfl, fun _ _ => rfl⟩
theorem fr_peek : FrW peekP := fun e _ pre a l1 h => by
 cases pre with
 | nil =>
  simp only [List.nil_append, peekP, Res.ok.injEq] at h
  exact ⟨[], h.2.symm, fun hn => absurd rfl hn⟩
 | cons t pre =>
  simp only [List.cons_append, peekP, Res.ok.injEq] at h
  obtain ⟨rfl, rfl⟩ := h
  exact ⟨t :: pre, rfl, fun _ _ => rfl⟩
theorem fr_skip (s : ByteArray) (hs : s ≠ none0) : FrW (skipP s) := fun e he pre a l1 h => by
 cases pre with
 | nil =>
  simp only [List.nil_append, skipP, he.2] at h
  rw [if_neg (fun h => hs h.symm)] at h
  simp only [Res.ok.injEq] at h
  exact ⟨[], h.2.symm, fun hn => absurd rfl hn⟩
 | cons t pre =>
  simp only [List.cons_append, skipP] at h
  split at h <;> simp only [Res.ok.injEq] at h <;> obtain ⟨rfl, rfl⟩ := h
  · exact ⟨pre, rfl, fun _ rest => by simp only [List.cons_append, skipP]; rw [if_pos ‹_›]⟩
  · exact ⟨t :: pre, rfl, fun _ rest => by simp only [List.cons_append, skipP]; rw [if_neg ‹_›]⟩
def FrS (f : Par α) : Prop := ∀ e, IsEnd e → ∀ pre a l', f (pre ++ [e]) = .ok a l' → ∃ pre', l' = pre' ++ [e] ∧ ∀ rest, f (pre ++ rest) = .ok a (pre' ++ rest)
theorem FrS.weak {f : Par α} (h : FrS f) : FrW f := fun e he pre a l' hx => by
 obtain ⟨pre', h1, h2⟩ := h e he pre a l' hx
 exact ⟨pre', h1, fun _ => h2⟩
theorem frs_expect (s : ByteArray) (hs : s ≠ none0) : FrS (expectP s) := fun e he pre a l1 h => by
 cases pre with
 | nil =>
  simp only [List.nil_append, expectP, he.2] at h
  rw [if_neg (fun h => hs h.symm)] at h
  simp at h
 | cons t pre =>
  simp only [List.cons_append, expectP] at h
  split at h <;> simp only [Res.ok.injEq, reduceCtorEq] at h
  obtain ⟨rfl, rfl⟩ := h
  exact ⟨pre, rfl, fun rest => by simp only [List.cons_append, expectP]; rw [if_pos ‹_›]⟩
theorem frs_take (k : Int) (hk : k ≠ 4) : FrS (takeP k) := fun e he pre a l1 h => by
 cases pre with
 | nil =>
  simp only [List.nil_append, takeP, he.1] at h
  rw [if_neg (fun h => hk h.symm)] at h
  simp at h
 | cons t pre =>
  simp only [List.cons_append, takeP] at h
  split at h <;> simp only [Res.ok.injEq, reduceCtorEq] at h
  obtain ⟨rfl, rfl⟩ := h
  exact ⟨pre, rfl, fun rest => by simp only [List.cons_append, takeP]; rw [if_pos ‹_›]⟩
theorem frs_enter (s : ByteArray) (r : Nat) (hs : s ≠ none0) : FrS (enterP s r) := fun e he pre a l1 h => by
 cases pre with
 | nil =>
  simp only [List.nil_append, enterP, he.2] at h
  rw [if_neg (fun h => hs h.symm)] at h
  simp at h
 | cons t pre =>
  simp only [List.cons_append, enterP] at h
  split at h
  · split at h <;> simp only [Res.ok.injEq, reduceCtorEq] at h
    obtain ⟨rfl, rfl⟩ := h
    exact ⟨pre, rfl, fun rest => by simp only [List.cons_append, enterP]; rw [if_pos ‹_›, if_neg ‹_›]⟩
  · simp at h
theorem FrS.pure (a : α) : FrS (Par.pure a) := fun e _ pre b l1 h => by
 simp only [Par.pure, Res.ok.injEq] at h
 obtain ⟨rfl, rfl⟩ := h
 exact ⟨pre, rfl, fun _ => rfl⟩
theorem FrS.bind {f : Par α} {g : α → Par β} (hf : FrS f) (hg : ∀ a, FrS (g a)) : FrS (Par.bind f g) := fun e he pre b l2 h => by
 simp only [Par.bind] at h
 cases h1 : f (pre ++ [e]) with
 | err p c => rw [h1] at h; simp at h
 | ok a l1 =>
  rw [h1] at h
  obtain ⟨pre1, rfl, k1⟩ := hf e he pre a l1 h1
  obtain ⟨pre2, rfl, k2⟩ := hg a e he pre1 b l2 h
  exact ⟨pre2, rfl, fun rest => by rw [bind_ok (k1 rest)]; exact k2 rest⟩
theorem FrW.loop {step : α → Par (Option α)} (hs : Adv step) (hl : ∀ a, Less (step a)) (hc : ∀ a, FrW (step a)) (e : PT) (he : IsEnd e) (m : Nat) : ∀ (a : α) (pre : List PT) (b : α) (l1 : List PT), loop step m a (pre ++ [e]) = .ok b l1 →
 ∃ pre', l1 = pre' ++ [e] ∧ (pre' ≠ [] → ∀ rest k, (pre ++ rest).length < k → loop step k a (pre ++ rest) = .ok b (pre' ++ rest)) := by
 induction m with
 | zero => intro a pre b l1 h; simp [Par.loop] at h
 | succ m ih =>
  intro a pre b l1 h
  rw [Par.loop] at h
  simp only [Par.bind] at h
  cases h1 : step a (pre ++ [e]) with
  | err p c => rw [h1] at h; simp at h
  | ok o l2 =>
   rw [h1] at h
   obtain ⟨pre1, rfl, k1⟩ := hc a e he pre o l2 h1
   cases o with
   | none =>
    simp only [Par.pure, Res.ok.injEq] at h
    obtain ⟨rfl, rfl⟩ := h
    refine ⟨pre1, rfl, fun hn rest k hk => ?_⟩
    obtain ⟨k, rfl⟩ : ∃ k', k = k' + 1 := ⟨k - 1, by omega⟩
    rw [Par.loop, bind_ok (k1 hn rest)]
    rfl
   | some a2 =>
    obtain ⟨pre2, rfl, k2⟩ := ih a2 pre1 b l1 h
    refine ⟨pre2, rfl, fun hn rest k hk => ?_⟩
    have hlen := Less.loop hl m a2 _ _ _ h
    have hn1 : pre1 ≠ [] := fun e1 => by
     subst e1
     simp only [List.length_append, List.length_nil, List.length_singleton] at hlen
     exact hn (List.length_eq_zero_iff.1 (by omega))
    obtain ⟨k, rfl⟩ : ∃ k', k = k' + 1 := ⟨k - 1, by omega⟩
    have h5 := (hs _ _ _ _ (k1 hn1 rest)).1 rfl
    rw [Par.loop, bind_ok (k1 hn1 rest)]
    exact k2 hn rest k (by omega)
theorem FrW.many {step : α → Par (Option α)} (hs : Adv step) (hl : ∀ a, Less (step a)) (hc : ∀ a, FrW (step a)) (a : α) : FrW (many step a) := fun e he pre b l1 h => by
 obtain ⟨pre', h1, h2⟩ := FrW.loop hs hl hc e he _ a pre b l1 h
 exact ⟨pre', h1, fun hn rest => h2 hn rest _ (Nat.lt_succ_self _)⟩
def Suf (f : Par α) : Prop := ∀ l a l', f l = .ok a l' → l' <:+ l
theorem Suf.pure (a : α) : Suf (Par.pure a) := fun l b l' h => by
 simp only [Par.pure, Res.ok.injEq] at h
 rw [h.2]; exact List.suffix_refl _
theorem Suf.bind {f : Par α} {g : α → Par β} (hf : Suf f) (hg : ∀ a, Suf (g a)) : Suf (Par.bind f g) := fun l b l' h => by
 simp only [Par.bind] at h
 cases h1 : f l with
 | err p c => rw [h1] at h; simp at h
 | ok a l1 =>
  rw [h1] at h
  exact (hg a l1 b l' h).trans (hf l a l1 h1)
theorem Suf.loop {step : α → Par (Option α)} (hs : ∀ a, Suf (step a)) (m : Nat) (a : α) : Suf (loop step m a) := by
 induction m generalizing a with
 | zero => intro l b l' h; simp [Par.loop] at h
 | succ m ih =>
  refine Suf.bind (hs a) fun b => ?_
  cases b with
  | none => exact Suf.pure a
  | some b => exact ih b
theorem Suf.many {step : α → Par (Option α)} (hs : ∀ a, Suf (step a)) (a : α) : Suf (many step a) := fun l => Suf.loop hs (l.length + 1) a l
theorem suf_fail : Suf (failP : Par α) := fun l a l' h => by cases l <;> simp [failP] at h
theorem suf_peek : Suf peekP := fun l a l' h => by
 cases l with
 | nil => simp [peekP] at h
 | cons t l => simp only [peekP, Res.ok.injEq] at h; rw [h.2]; exact List.suffix_refl _
theorem suf_isNext (s : ByteArray) : Suf (isNextP s) := fun l a l' h => by
 cases l with
 | nil => simp [isNextP] at h
 | cons t l => simp only [isNextP, Res.ok.injEq] at h; rw [h.2]; exact List.suffix_refl _
theorem suf_next : Suf nextP := fun l a l' h => by
 cases l with
 | nil => simp [nextP] at h
 | cons t l => simp only [nextP, Res.ok.injEq] at h; rw [h.2]; exact List.suffix_cons _ _
theorem suf_skip (s : ByteArray) : Suf (skipP s) := fun l a l' h => by
 cases l with
 | nil => simp [skipP] at h
 | cons t l =>
  simp only [skipP] at h
  split at h <;> simp only [Res.ok.injEq] at h <;> rw [← h.2]
  · exact List.suffix_cons _ _
  · exact List.suffix_refl _
theorem suf_expect (s : ByteArray) : Suf (expectP s) := fun l a l' h => by
 cases l with
 | nil => simp [expectP] at h
 | cons t l =>
  simp only [expectP] at h
  split at h <;> simp only [Res.ok.injEq, reduceCtorEq] at h
  rw [← h.2]
  exact List.suffix_cons _ _
theorem suf_take (k : Int) : Suf (takeP k) := fun l a l' h => by
 cases l with
 | nil => simp [takeP] at h
 | cons t l =>
  simp only [takeP] at h
  split at h <;> simp only [Res.ok.injEq, reduceCtorEq] at h
  rw [← h.2]
  exact List.suffix_cons _ _
theorem suf_enter (s : ByteArray) (r : Nat) : Suf (enterP s r) := fun l a l' h => by
 cases l with
 | nil => simp [enterP] at h
 | cons t l =>
  simp only [enterP] at h
  split at h
  · split at h <;> simp only [Res.ok.injEq, reduceCtorEq] at h
    rw [← h.2]
    exact List.suffix_cons _ _
  · simp at h
theorem suf_ite {p : Prop} [Decidable p] {f g : Par α} (hf : Suf f) (hg : Suf g) : Suf (if p then f else g) := by split <;> assumption
def ErrQ (f : Par α) : Prop := ∀ l p c, f l = .err p c → c ≠ 0 ∧ (p = 0 ∨ ∃ t ∈ l, p = t.at')
theorem ErrQ.pure (a : α) : ErrQ (Par.pure a) := fun l p c h => by simp [Par.pure] at h
theorem ErrQ.bind {f : Par α} {g : α → Par β} (hf : ErrQ f) (hs : Suf f) (hg : ∀ a, ErrQ (g a)) : ErrQ (Par.bind f g) := fun l p c h => by
 simp only [Par.bind] at h
 cases h1 : f l with
 | err q d =>
  rw [h1] at h
  simp only [Res.err.injEq] at h
  obtain ⟨rfl, rfl⟩ := h
  exact hf l _ _ h1
 | ok a l1 =>
  rw [h1] at h
  obtain ⟨h2, h3⟩ := hg a l1 p c h
  refine ⟨h2, h3.imp id ?_⟩
  rintro ⟨t, ht, e⟩
  exact ⟨t, (hs l a l1 h1).subset ht, e⟩
theorem ErrQ.loop {step : α → Par (Option α)} (hs : ∀ a, ErrQ (step a)) (hf : ∀ a, Suf (step a)) (m : Nat) (a : α) : ErrQ (loop step m a) := by
 induction m generalizing a with
 | zero => intro l p c h; simp only [Par.loop, Res.err.injEq] at h; exact ⟨by omega, Or.inl h.1.symm⟩
 | succ m ih =>
  refine ErrQ.bind (hs a) (hf a) fun b => ?_
  cases b with
  | none => exact ErrQ.pure a
  | some b => exact ih b
theorem ErrQ.many {step : α → Par (Option α)} (hs : ∀ a, ErrQ (step a)) (hf : ∀ a, Suf (step a)) (a : α) : ErrQ (many step a) := fun l => ErrQ.loop hs hf (l.length + 1) a l
theorem er_one {p : Nat} {c : Int} {q : Nat} {d : Int} {l : List PT} (h : (Res.err q d : Res α) = .err p c) (hd : d ≠ 0) (hq : q = 0 ∨ ∃ t ∈ l, q = t.at') : c ≠ 0 ∧ (p = 0 ∨ ∃ t ∈ l, p = t.at') := by
 simp only [Res.err.injEq] at h
 obtain ⟨rfl, rfl⟩ := h
 exact ⟨hd, hq⟩
theorem er_fail : ErrQ (failP : Par α) := fun l p c h => by
 cases l with
 | nil => exact er_one h (by decide) (Or.inl rfl)
 | cons t l => exact er_one h (by decide) (Or.inr ⟨t, by simp, rfl⟩)
theorem er_peek : ErrQ peekP := fun l p c h => by
 cases l with
 | nil => exact er_one h (by decide) (Or.inl rfl)
 | cons t l => simp [peekP] at h
theorem er_next : ErrQ nextP := fun l p c h => by
 cases l with
 | nil => exact er_one h (by decide) (Or.inl rfl)
 | cons t l => simp [nextP] at h
theorem er_isNext (s : ByteArray) : ErrQ (isNextP s) := fun l p c h => by
 cases l with
 | nil => exact er_one h (by decide) (Or.inl rfl)
 | cons t l => simp [isNextP] at h
theorem er_skip (s : ByteArray) : ErrQ (skipP s) := fun l p c h => by
 cases l with
 | nil => exact er_one h (by decide) (Or.inl rfl)
 | cons t l => simp only [skipP] at h; split at h <;> simp at h
theorem er_expect (s : ByteArray) : ErrQ (expectP s) := fun l p c h => by
 cases l with
 | nil => exact er_one h (by decide) (Or.inl rfl)
 | cons t l =>
  simp only [expectP] at h
  split at h
  · simp at h
  · exact er_one h (by decide) (Or.inr ⟨t, by simp, rfl⟩)
theorem er_take (k : Int) : ErrQ (takeP k) := fun l p c h => by
 cases l with
 | nil => exact er_one h (by decide) (Or.inl rfl)
 | cons t l =>
  simp only [takeP] at h
  split at h
  · simp at h
  · exact er_one h (by decide) (Or.inr ⟨t, by simp, rfl⟩)
theorem er_enter (s : ByteArray) (r : Nat) : ErrQ (enterP s r) := fun l p c h => by
 cases l with
 | nil => exact er_one h (by decide) (Or.inl rfl)
 | cons t l =>
  simp only [enterP] at h
  split at h
  · split at h
    · exact er_one h (by decide) (Or.inr ⟨t, by simp, rfl⟩)
    · simp at h
  · exact er_one h (by decide) (Or.inr ⟨t, by simp, rfl⟩)
theorem er_ite {p : Prop} [Decidable p] {f g : Par α} (hf : ErrQ f) (hg : ErrQ g) : ErrQ (if p then f else g) := by split <;> assumption
structure CE (f : Par α) : Prop where
 less : Less f
 suf : Suf f
 er : ErrQ f
 cut : CutP f
 fin : EndP f
 fr : FrW f
theorem CE.bind {f : Par α} {g : α → Par β} (hf : CE f) (hg : ∀ a, CE (g a)) : CE (Par.bind f g) := ⟨Less.bind hf.less fun a => (hg a).less, Suf.bind hf.suf fun a => (hg a).suf, ErrQ.bind hf.er hf.suf fun a => (hg a).er, hf.cut.bind (fun a => (hg a).cut) (fun a => (hg a).fin), hf.fin.bind fun a => (hg a).fin, hf.fr.bind (fun a => (hg a).fr) fun a => (hg a).less⟩
theorem CE.pure (a : α) : CE (Par.pure a) := ⟨Less.pure a, Suf.pure a, ErrQ.pure a, CutP.pure a, EndP.pure a, FrW.pure a⟩
theorem CE.fail : CE (failP : Par α) := ⟨less_fail, suf_fail, er_fail, CutP.fail, EndP.fail, FrW.fail⟩
theorem CE.many {step : α → Par (Option α)} (hs : Adv step) (h : ∀ a, CE (step a)) (a : α) : CE (many step a) := ⟨Less.many (fun a => (h a).less) a, Suf.many (fun a => (h a).suf) a, ErrQ.many (fun a => (h a).er) (fun a => (h a).suf) a, CutP.many hs (fun a => (h a).cut) (fun a => (h a).fin) a, EndP.many hs (fun a => (h a).fin) a, FrW.many hs (fun a => (h a).less) (fun a => (h a).fr) a⟩
theorem ce_isNext (s : ByteArray) : CE (isNextP s) := ⟨less_isNext s, suf_isNext s, er_isNext s, cut_isNext s, end_isNext s, fr_isNext s⟩
theorem ce_peek : CE peekP := ⟨less_peek, suf_peek, er_peek, cut_peek, end_peek, fr_peek⟩
theorem ce_skip (s : ByteArray) (hs : s ≠ none0) : CE (skipP s) := ⟨less_skip s, suf_skip s, er_skip s, cut_skip s hs, end_skip s hs, fr_skip s hs⟩
theorem ce_expect (s : ByteArray) (hs : s ≠ none0) : CE (expectP s) := ⟨less_expect s, suf_expect s, er_expect s, cut_expect s hs, end_expect s hs, (frs_expect s hs).weak⟩
theorem ce_take (k : Int) (hk : k ≠ 4) : CE (takeP k) := ⟨less_take k, suf_take k, er_take k, cut_take k hk, end_take k hk, (frs_take k hk).weak⟩
theorem ce_enter (s : ByteArray) (r : Nat) (hs : s ≠ none0) : CE (enterP s r) := ⟨less_enter s r, suf_enter s r, er_enter s r, cut_enter s r hs, end_enter s r hs, (frs_enter s r hs).weak⟩
theorem CE.first {g : PT → Par β} (hless : ∀ t, Less (g t)) (hsuf : ∀ t, Suf (g t)) (her : ∀ t, ErrQ (g t)) (hend : ∀ e, IsEnd e → g e [e] = .err e.at' 50) (hc : ∀ e, IsEnd e → ∀ t pre rest a l1, g t (t :: pre ++ rest) = .ok a l1 → CutR (g t) e (t :: pre) rest a l1)
 (hf : ∀ e, IsEnd e → ∀ t pre a l', g t (t :: pre ++ [e]) = .ok a l' → ∃ pre', l' = pre' ++ [e] ∧ (pre' ≠ [] → ∀ rest, g t (t :: pre ++ rest) = .ok a (pre' ++ rest))) : CE (Par.bind peekP g) where
 less := Less.bind less_peek hless
 suf := Suf.bind suf_peek hsuf
 er := ErrQ.bind er_peek suf_peek her
 fin := fun e he => Or.inl (hend e he)
 cut := cut_first (fun e he => Or.inl (hend e he)) hc
 fr := fun e he pre a l1 h => by
  cases pre with
  | nil =>
   have : g e [e] = .ok a l1 := h
   rw [hend e he] at this
   simp at this
  | cons t pre => exact hf e he t pre a l1 h
theorem ce_word : CE wordP := (ce_take _ (by decide)).bind fun _ => .pure _
theorem ce_number : CE numberP := (ce_take _ (by decide)).bind fun _ => .pure _
theorem ce_times {fac : Par Ast} (h : CE fac) (a : Ast) : CE (timesStep fac a) := (ce_skip _ (by decide)).bind fun b => by
 cases b
 · exact .pure _
 · exact h.bind fun _ => .pure _
theorem ce_term {fac : Par Ast} (h : CE fac) : CE (termP fac) := h.bind fun _ => .many (step_times h.less) (ce_times h) _
theorem ce_sum {fac : Par Ast} (h : CE fac) (a : Ast) : CE (sumStep fac a) := (ce_skip _ (by decide)).bind fun b => by
 cases b
 · refine (ce_skip _ (by decide)).bind fun b => ?_
   cases b
   · exact .pure _
   · exact (ce_term h).bind fun _ => .pure _
 · exact (ce_term h).bind fun _ => .pure _
theorem ce_exprP {fac : Par Ast} (h : CE fac) : CE (exprP fac) := (ce_term h).bind fun _ => .many (step_sum h.less) (ce_sum h) _
theorem ce_factorOf (r : Nat) {fac : Par Ast} (h : CE fac) : CE (factorOf r fac) := by
 have hb : CE (bracketP r (exprP fac)) := (ce_enter _ _ (by decide)).bind fun _ => (ce_exprP h).bind fun _ => (ce_expect _ (by decide)).bind fun _ => .pure _
 have hn : CE (negP r fac) := (ce_enter _ _ (by decide)).bind fun _ => h.bind fun _ => .pure _
 refine CE.first (fun t => ?_) (fun t => ?_) (fun t => ?_) (fun e he => ?_) (fun e he t pre rest a l1 hx => ?_) (fun e he t pre a l1 hx => ?_)
 · exact less_ite less_number (less_ite (Less.bind less_next fun _ => Less.pure _) (less_ite hb.less (less_ite hn.less less_fail)))
 · exact suf_ite ce_number.suf (suf_ite (Suf.bind suf_next fun _ => Suf.pure _) (suf_ite hb.suf (suf_ite hn.suf suf_fail)))
 · exact er_ite ce_number.er (er_ite (ErrQ.bind er_next suf_next fun _ => ErrQ.pure _) (er_ite hb.er (er_ite hn.er er_fail)))
 · rw [if_neg (by rw [he.1]; decide), if_neg (by rw [he.1]; decide), if_neg (by rw [he.2]; decide), if_neg (by rw [he.2]; decide)]
   rfl
 · unfold CutR
   by_cases h1 : t.kind = 2
   · simp only [if_pos h1] at hx ⊢; exact ce_number.cut e he _ rest a l1 hx
   · simp only [if_neg h1] at hx ⊢
     by_cases h2 : t.kind = 1
     · simp only [if_pos h2] at hx ⊢; exact cut_next he (CutP.pure _) hx
     · simp only [if_neg h2] at hx ⊢
       by_cases h3 : t.txt = ⟨#[40]⟩
       · simp only [if_pos h3] at hx ⊢; exact hb.cut e he _ rest a l1 hx
       · simp only [if_neg h3] at hx ⊢
         by_cases h4 : t.txt = ⟨#[45]⟩
         · simp only [if_pos h4] at hx ⊢; exact hn.cut e he _ rest a l1 hx
         · simp only [if_neg h4] at hx ⊢; exact CutP.fail e he _ rest a l1 hx
 · by_cases h1 : t.kind = 2
   · simp only [if_pos h1] at hx ⊢; exact ce_number.fr e he _ a l1 hx
   · simp only [if_neg h1] at hx ⊢
     by_cases h2 : t.kind = 1
     · simp only [if_pos h2] at hx ⊢; exact FrW.pure _ e he pre a l1 hx
     · simp only [if_neg h2] at hx ⊢
       by_cases h3 : t.txt = ⟨#[40]⟩
       · simp only [if_pos h3] at hx ⊢; exact hb.fr e he _ a l1 hx
       · simp only [if_neg h3] at hx ⊢
         by_cases h4 : t.txt = ⟨#[45]⟩
         · simp only [if_pos h4] at hx ⊢; exact hn.fr e he _ a l1 hx
         · simp only [if_neg h4] at hx ⊢; exact FrW.fail e he _ a l1 hx
theorem ce_factor (r : Nat) : CE (factorP r) := by
 induction r with
 | zero => exact ce_factorOf 0 .fail
 | succ r ih => exact ce_factorOf (r + 1) ih
theorem ce_expr (r : Nat) : CE (exprR r) := ce_exprP (ce_factor r)
theorem ce_wordsStep (ks : List Ast) : CE (wordsStep ks) := (ce_skip _ (by decide)).bind fun b => by
 cases b
 · exact .pure _
 · exact ce_word.bind fun _ => .pure _
theorem ce_words : CE wordsP := ce_word.bind fun _ => .many step_words ce_wordsStep _
theorem ce_rowOf (r : Nat) (t : PT) : CE (rowOfP r t) := (ce_enter _ _ (by decide)).bind fun _ => (ce_expr _).bind fun _ => (ce_expect _ (by decide)).bind fun _ => .pure _
theorem ce_row (r : Nat) : CE (rowP r) := (ce_take _ (by decide)).bind fun _ => ce_rowOf r _
theorem ce_cell (r : Nat) : CE (cellP r) := (ce_row r).bind fun _ => (ce_expect _ (by decide)).bind fun _ => ce_word.bind fun _ => .pure _
theorem ce_endP (a : Ast) : CE (endP a) := (ce_expect _ (by decide)).bind fun _ => .pure _
theorem ce_read (r p : Nat) : CE (readP r p) := (ce_take _ (by decide)).bind fun _ => (ce_expect _ (by decide)).bind fun _ => (ce_cell r).bind fun _ => (ce_skip _ (by decide)).bind fun b => by
 cases b
 · exact ce_endP _
 · exact (ce_expect _ (by decide)).bind fun _ => ce_endP _
theorem ce_set (r p : Nat) : CE (setP r p) := (ce_cell r).bind fun _ => (ce_expect _ (by decide)).bind fun _ => (ce_expr r).bind fun _ => ce_endP _
theorem ce_putStep (r : Nat) (ks : List Ast) : CE (putStep r ks) := (ce_skip _ (by decide)).bind fun b => by
 cases b
 · exact .pure _
 · exact (ce_expr r).bind fun _ => .pure _
theorem ce_put (r p : Nat) : CE (putP r p) := (ce_row r).bind fun _ => (ce_expect _ (by decide)).bind fun _ => (ce_expr r).bind fun _ => (CE.many (step_put r) (ce_putStep r) _).bind fun _ => (ce_expect _ (by decide)).bind fun _ => ce_endP _
theorem ce_delete (r p : Nat) : CE (deleteP r p) := (ce_row r).bind fun _ => ce_endP _
theorem ce_scan (p : Nat) : CE (scanP p) := (ce_take _ (by decide)).bind fun _ => (ce_expect _ (by decide)).bind fun _ => ce_word.bind fun _ => (ce_expect _ (by decide)).bind fun _ => ce_word.bind fun _ => ce_endP _
theorem ce_lock (p : Nat) : CE (lockP p) := ce_word.bind fun _ => (ce_skip _ (by decide)).bind fun b => by
 cases b
 · exact (ce_expect _ (by decide)).bind fun _ => ce_endP _
 · exact ce_endP _
theorem ce_release (r p : Nat) : CE (releaseP r p) := (ce_take _ (by decide)).bind fun _ => (ce_isNext _).bind fun b => by
 cases b
 · exact ce_endP _
 · exact (ce_rowOf r _).bind fun _ => ce_endP _
theorem ce_ifTail {B : Par Ast} (h : CE B) (p : Nat) (n : Int) (a b : Ast) : CE (ifTail B p n a b) := h.bind fun _ => (ce_skip _ (by decide)).bind fun b => by
 cases b
 · exact .pure _
 · exact h.bind fun _ => .pure _
theorem ce_if (r : Nat) {B : Par Ast} (h : CE B) (p : Nat) : CE (ifP r B p) := (ce_expr r).bind fun _ => (ce_skip _ (by decide)).bind fun b => by
 cases b
 · exact (ce_expect _ (by decide)).bind fun _ => (ce_expr r).bind fun _ => ce_ifTail h p _ _ _
 · exact (ce_expr r).bind fun _ => ce_ifTail h p _ _ _
theorem ce_for {B : Par Ast} (h : CE B) (p : Nat) : CE (forP B p) := (ce_take _ (by decide)).bind fun _ => (ce_expect _ (by decide)).bind fun _ => ce_number.bind fun _ => (ce_expect _ (by decide)).bind fun _ => ce_number.bind fun _ => h.bind fun _ => .pure _
theorem ce_let (r p : Nat) : CE (letP r p) := (ce_take _ (by decide)).bind fun _ => (ce_expect _ (by decide)).bind fun _ => (ce_expr r).bind fun _ => ce_endP _
theorem ce_emit (r p : Nat) : CE (emitP r p) := (ce_expr r).bind fun _ => ce_endP _
theorem ce_rest (r : Nat) {B : Par Ast} (h : CE B) (j p : Nat) : CE (restP r B j p) := by
 unfold restP
 split
 · exact ce_read r p
 · exact ce_set r p
 · exact ce_put r p
 · exact ce_delete r p
 · exact ce_scan p
 · exact ce_lock p
 · exact ce_release r p
 · exact ce_if r h p
 · exact ce_for h p
 · exact ce_let r p
 · exact ce_emit r p
 · exact ce_endP _
 · exact ce_endP _
 · exact .fail
theorem ce_stmt (r : Nat) {B : Par Ast} (h : CE B) : CE (stmtP r B) := by
 refine CE.first (fun t => ?_) (fun t => ?_) (fun t => ?_) (fun e he => ?_) (fun e he t pre rest a l1 hx => ?_) (fun e he t pre a l1 hx => ?_)
 · exact less_ite (Less.bind less_next fun u => (ce_rest r h _ _).less) less_fail
 · exact suf_ite (Suf.bind suf_next fun u => (ce_rest r h _ _).suf) suf_fail
 · exact er_ite (ErrQ.bind er_next suf_next fun u => (ce_rest r h _ _).er) er_fail
 · rw [if_neg (by rw [he.2]; decide)]; rfl
 · unfold CutR
   by_cases h1 : words13.idxOf t.txt < 13
   · simp only [if_pos h1] at hx ⊢; exact cut_next he (ce_rest r h _ _).cut hx
   · simp only [if_neg h1] at hx ⊢; exact CutP.fail e he _ rest a l1 hx
 · by_cases h1 : words13.idxOf t.txt < 13
   · simp only [if_pos h1] at hx ⊢; exact (ce_rest r h _ _).fr e he pre a l1 hx
   · simp only [if_neg h1] at hx ⊢; exact FrW.fail e he _ a l1 hx
theorem ce_blockStep {st : Par Ast} (h : CE st) (ks : List Ast) : CE (blockStep st ks) := (ce_isNext _).bind fun b => by
 cases b
 · exact h.bind fun _ => .pure _
 · exact .pure _
theorem ce_blockOf (r : Nat) {st : Par Ast} (h : CE st) (ht : Takes st) : CE (blockOf r st) := (ce_enter _ _ (by decide)).bind fun _ => (CE.many (step_block ht) (ce_blockStep h) _).bind fun _ => (ce_expect _ (by decide)).bind fun _ => .pure _
theorem ce_block (r : Nat) : CE (blockP r) := by
 induction r with
 | zero => exact ce_blockOf 0 .fail takes_fail
 | succ r ih => exact ce_blockOf (r + 1) (ce_stmt r ih) (takes_stmt r ih.less)
theorem ce_names : CE namesP := ce_peek.bind fun _ => (ce_isNext _).bind fun b => by
 cases b
 · exact ce_words.bind fun _ => .pure _
 · exact .pure _
theorem ce_table : CE tableP := (ce_expect _ (by decide)).bind fun _ => (ce_take _ (by decide)).bind fun _ => (ce_expect _ (by decide)).bind fun _ => ce_words.bind fun _ => (ce_expect _ (by decide)).bind fun _ => ce_endP _
theorem ce_proc : CE procP := (ce_expect _ (by decide)).bind fun _ => (ce_take _ (by decide)).bind fun _ => (ce_expect _ (by decide)).bind fun _ => ce_names.bind fun _ => (ce_expect _ (by decide)).bind fun _ => (ce_skip _ (by decide)).bind fun b => by
 cases b
 · exact (ce_block 64).bind fun _ => .pure _
 · exact (ce_block 64).bind fun _ => .pure _
theorem ce_progStep (ks : List Ast) : CE (progStep ks) := ce_peek.bind fun t => by
 by_cases h : t.kind = 4
 · simp only [if_pos h]; exact .pure _
 · simp only [if_neg h]
   refine (ce_isNext _).bind fun b => ?_
   cases b
   · exact ce_proc.bind fun _ => .pure _
   · exact ce_table.bind fun _ => .pure _
theorem ce_program : CE programP := ce_peek.bind fun _ => (CE.many step_prog ce_progStep _).bind fun _ => .pure _
end
end
section
open Par
def more (k0 : List Ast) : Res (List Ast) → Res (List Ast)
 | .err p c => .err p c
 | .ok ks l => .ok (k0 ++ ks) l
theorem AstR.size {ρ : Nat → Nat → Prop} {a a' : Ast} (h : AstR ρ a a') : a.size = a'.size := by
 induction h with
 | @mk k p p' t n ks ks' _ hl hk ih =>
  simp only [Ast.size]
  congr 1
  clear hk
  induction ks generalizing ks' with
  | nil =>
   cases ks' with
   | nil => rfl
   | cons _ _ => simp at hl
  | cons x r ih2 =>
   cases ks' with
   | nil => simp at hl
   | cons y r' =>
    simp only [sizeL]
    rw [ih 0 x y (by simp) (by simp), ih2 (by simpa using hl) fun i u v hu hv => ih (i + 1) u v (by simpa using hu) (by simpa using hv)]
theorem KidsR.tail {ρ : Nat → Nat → Prop} {x y : Ast} {r r' : List Ast} (h : KidsR ρ (x :: r) (y :: r')) : AstR ρ x y ∧ KidsR ρ r r' :=
 ⟨h.2 0 x y (by simp) (by simp), by simpa using h.1, fun i u v hu hv => h.2 (i + 1) u v (by simpa using hu) (by simpa using hv)⟩
theorem KidsR.size {ρ : Nat → Nat → Prop} {ks ks' : List Ast} (h : KidsR ρ ks ks') : sizeL ks = sizeL ks' := by
 induction ks generalizing ks' with
 | nil =>
  cases ks' with
  | nil => rfl
  | cons _ _ => have := h.1; simp at this
 | cons x r ih =>
  cases ks' with
  | nil => have := h.1; simp at this
  | cons y r' =>
   obtain ⟨h1, h2⟩ := h.tail
   simp only [sizeL, h1.size, ih h2]
def AllR (R : Nd → Nd → Prop) (x y : List Nd) : Prop := x.length = y.length ∧ ∀ (i : Nat) (u v : Nd), x[i]? = some u → y[i]? = some v → R u v
theorem AllR.append {R : Nd → Nd → Prop} {x y x' y' : List Nd} (h : AllR R x x') (h' : AllR R y y') : AllR R (x ++ y) (x' ++ y') := ⟨by simp [h.1, h'.1], fun i u v hu hv => by
 by_cases hi : i < x.length
 · rw [List.getElem?_append_left hi] at hu
   rw [List.getElem?_append_left (by rw [← h.1]; exact hi)] at hv
   exact h.2 i u v hu hv
 · rw [List.getElem?_append_right (by omega)] at hu
   rw [List.getElem?_append_right (by rw [← h.1]; omega), ← h.1] at hv
   exact h'.2 _ u v hu hv⟩
theorem AllR.cons {R : Nd → Nd → Prop} {x x' : Nd} {y y' : List Nd} (h : R x x') (h' : AllR R y y') : AllR R (x :: y) (x' :: y') := ⟨by simp [h'.1], fun i u v hu hv => by
 cases i with
 | zero => simp at hu hv; subst hu hv; exact h
 | succ i => exact h'.2 i u v (by simpa using hu) (by simpa using hv)⟩
theorem AllR.nil {R : Nd → Nd → Prop} : AllR R [] [] := ⟨rfl, fun i u v h => by simp at h⟩
end
namespace Tr
open Go.RowKit
structure IV (W : World) (p : Option Addr) (len c : Nat) (xs : List Int) : Prop where
 len_eq : xs.length = len
 cap : len ≤ c
 cell : 0 < len → ∃ b off, p = some ⟨b, off, none⟩ ∧ b < W.heap.size ∧ ∀ i, i < len → W.cell? ⟨b, off + i, none⟩ = some (.int .i64 (xs.getD i 0))
structure NC (W : World) (b o : Nat) (nd : Nd) (kp : Option Addr) (kl kc : Nat) : Prop where
 kind : W.cell? ⟨b, o, none⟩ = some (.int .u8 nd.kind)
 at' : W.cell? ⟨b, o + 1, none⟩ = some (.int .i64 nd.at')
 text : W.cell? ⟨b, o + 2, none⟩ = some (.string nd.text)
 n : W.cell? ⟨b, o + 3, none⟩ = some (.int .i64 nd.n)
 kids : W.cell? ⟨b, o + 4, none⟩ = some (.slice kp kl kc)
 iv : IV W kp kl kc nd.kids
structure TV (W : World) (p : Option Addr) (len c : Nat) (ns : List Nd) : Prop where
 len_eq : ns.length = len
 cap : len ≤ c
 node : 0 < len → ∃ b off, p = some ⟨b, off, none⟩ ∧ b < W.heap.size ∧ ∀ i, i < len → ∃ kp kl kc, NC W b (off + i * 5) (ns.getD i default) kp kl kc
theorem IV.on {W W' : World} {p : Option Addr} {len c : Nat} {xs : List Int} (h : IV W p len c xs) (hb : Below W.heap.size W W') : IV W' p len c xs where
 len_eq := h.len_eq
 cap := h.cap
 cell := fun hl => by
  obtain ⟨b, off, e, hlt, hc⟩ := h.cell hl
  exact ⟨b, off, e, Nat.lt_of_lt_of_le hlt hb.size, fun i hi => by rw [hb.cell (p := ⟨b, off + i, none⟩) hlt]; exact hc i hi⟩
theorem NC.on {W W' : World} {b o : Nat} {nd : Nd} {kp : Option Addr} {kl kc : Nat} (h : NC W b o nd kp kl kc) (hlt : b < W.heap.size) (hb : Below W.heap.size W W') : NC W' b o nd kp kl kc where
 kind := by rw [hb.cell (p := ⟨b, o, none⟩) hlt]; exact h.kind
 at' := by rw [hb.cell (p := ⟨b, o + 1, none⟩) hlt]; exact h.at'
 text := by rw [hb.cell (p := ⟨b, o + 2, none⟩) hlt]; exact h.text
 n := by rw [hb.cell (p := ⟨b, o + 3, none⟩) hlt]; exact h.n
 kids := by rw [hb.cell (p := ⟨b, o + 4, none⟩) hlt]; exact h.kids
 iv := h.iv.on hb
theorem TV.on {W W' : World} {p : Option Addr} {len c : Nat} {ns : List Nd} (h : TV W p len c ns) (hb : Below W.heap.size W W') : TV W' p len c ns where
 len_eq := h.len_eq
 cap := h.cap
 node := fun hl => by
  obtain ⟨b, off, e, hlt, hc⟩ := h.node hl
  refine ⟨b, off, e, Nat.lt_of_lt_of_le hlt hb.size, fun i hi => ?_⟩
  obtain ⟨kp, kl, kc, hn⟩ := hc i hi
  exact ⟨kp, kl, kc, hn.on hlt hb⟩
theorem one_below (w : World) (o : Obj) : Below w.heap.size w (w.alloc o) := (Below.refl _ _).alloc (Nat.le_refl _) _
theorem all_take {α : Type} [Inhabited α] (p : α → Bool) (l : List α) (k : Nat) (h : k < l.length) : (l.take (k + 1)).all p = ((l.take k).all p && p (l.getD k default)) := by
 rw [List.take_succ_eq_append_getElem h, List.all_append]
 simp [List.getD, h]
theorem all_no {α : Type} [Inhabited α] (p : α → Bool) (l : List α) (k : Nat) (h : k < l.length) (hk : p (l.getD k default) = false) : l.all p = false := by
 rw [List.all_eq_false]
 exact ⟨l.getD k default, by simp [List.getD, h], by rw [hk]; simp⟩
end Tr
namespace Tr
open Go.RowKit
def Aside (W V : World) : Prop := ∀ p v, W.cell? p = some v → V.cell? p = some v
theorem Aside.of {W V : World} (h : Below W.heap.size W V) : Aside W V := fun p v hp => by rw [h.cell (World.block_lt_of_cell? W p hp)]; exact hp
theorem Aside.refl (W : World) : Aside W W := fun _ _ h => h
theorem Aside.trans {a b c : World} (h : Aside a b) (k : Aside b c) : Aside a c := fun p v hp => k p v (h p v hp)
structure BV (W : World) (p : Option Addr) (len c : Nat) (xs : List Int) : Prop where
 len_eq : xs.length = len
 cap : len ≤ c
 cell : 0 < len → ∃ b off, p = some ⟨b, off, none⟩ ∧ ∀ i, i < len → W.cell? ⟨b, off + i, none⟩ = some (.int .u8 (xs.getD i 0))
theorem BV.on {W V : World} {p : Option Addr} {len c : Nat} {xs : List Int} (h : BV W p len c xs) (hb : Aside W V) : BV V p len c xs where
 len_eq := h.len_eq
 cap := h.cap
 cell := fun hl => by
  obtain ⟨b, off, e, hc⟩ := h.cell hl
  exact ⟨b, off, e, fun i hi => hb _ _ (hc i hi)⟩
def FitV (W : World) (g : Fn) (cs : Array Value) : Fit → Prop
 | .of ks => ∃ B q l c, g = .func 234 ∧ cs = #[.pointer (some ⟨B, 0, none⟩)] ∧ W.cell? ⟨B, 0, none⟩ = some (.slice q l c) ∧ BV W q l c ks ∧ l ≤ 70000
 | .stmt => g = .func 190 ∧ cs = #[]
 | .expr => g = .func 115 ∧ cs = #[]
theorem FitV.on {W V : World} {g : Fn} {cs : Array Value} {f : Fit} (h : FitV W g cs f) (hb : Aside W V) : FitV V g cs f := by
 cases f with
 | «of» ks =>
  obtain ⟨B, q, l, c, e, e2, h3, h4, h5⟩ := h
  exact ⟨B, q, l, c, e, e2, hb _ _ h3, h4.on hb, h5⟩
 | stmt => exact h
 | expr => exact h
theorem index_at (w : World) (p : Option Addr) (len c : Nat) (xs : List Int) (k : Int) (h : BV w p len c xs) (hb : len ≤ 70000) :
 Calls Tryz.prog 268 #[.slice p len c, .int .u8 k] w fun e w' => (∃ z : Int, e = .returned (.int .i64 z) ∧ decide (0 ≤ z) = xs.any fun x => k == x) ∧ w' = w := by
 have hlen := lh h.len_eq
 have H := lh h
 clear h
 go_enter Tryz.func268, Tryz.ntmps268
 go_wp2_with fail
 go_loop [8] (fun iv => ∃ i : Nat, i ≤ len ∧ iv = .int .i64 i ∧ Hid ((xs.take i).any (fun x => k == x) = false)) (fun iv => len - (intOf iv).toNat)
 case atStart => exact ⟨0, Nat.zero_le _, rfl, lh rfl⟩
 case round =>
  obtain ⟨i, hi, rfl, HA⟩ := hrel
  by_cases hil : i < len
  · obtain ⟨b, off, rfl, hc⟩ := H.out.cell (by omega)
    have hci := hc i hil
    have HT := lh (show (xs.take (i + 1)).any (fun x => k == x) = ((xs.take i).any (fun x => k == x) || (k == xs.getD i 0)) by
     rw [List.take_succ_eq_append_getElem (by have := hlen.out; omega), List.any_append]
     simp [List.getD, show i < xs.length by have := hlen.out; omega])
    have HM := lh (show (k == xs.getD i 0) = true → xs.any (fun x => k == x) = true from fun h => by
     rw [List.any_eq_true]
     exact ⟨xs.getD i 0, by simp [List.getD, show i < xs.length by have := hlen.out; omega], h⟩)
    generalize xs.getD i 0 = x at *
    clear hc
    by_cases hx : k = x
    · subst hx
      go_wp2
      go_ret
      exact ⟨⟨(i : Int), rfl, by rw [HM.out (by simp)]; simp⟩, rfl⟩
    · have hx' : (k == x) = false := by simpa using hx
      go_wp2
      go_round
      case rel => exact ⟨i + 1, by omega, by go_num, lh (by rw [HT.out, HA.out, hx']; rfl)⟩
      case measure => simp [intOf]; omega
  · have e : i = xs.length := by have := hlen.out; omega
    have HE := lh e
    clear e
    go_wp2
    go_ret
    refine ⟨⟨-1, rfl, ?_⟩, rfl⟩
    have := HA.out
    rw [HE.out, List.take_length] at this
    rw [this]
    rfl
theorem contains_at (w : World) (p : Option Addr) (len c : Nat) (xs : List Int) (k : Int) (h : BV w p len c xs) (hb : len ≤ 70000) :
 Calls Tryz.prog 235 #[.slice p len c, .int .u8 k] w fun e w' => e = .returned (.bool (xs.any fun x => k == x)) ∧ w' = w := by
 have HI := lh (index_at w p len c xs k h hb)
 clear h
 go_enter Tryz.func235, Tryz.ntmps235
 go_wp2_with fail
 (with_reducible refine HI.out.mono ?_)
 rintro e w' ⟨⟨z, rfl, hz⟩, rfl⟩
 clear HI
 go_wp2
 go_ret
 exact ⟨retB (by simp), rfl⟩
theorem isf_at (w : World) (B l c : Nat) (q : Option Addr) (xs : List Int) (k : Int) (hc : w.cell? ⟨B, 0, none⟩ = some (.slice q l c)) (h : BV w q l c xs) (hb : l ≤ 70000) :
 Calls Tryz.prog 234 #[.int .u8 k, .pointer (some ⟨B, 0, none⟩)] w fun e w' => e = .returned (.bool (xs.any fun x => k == x)) ∧ w' = w := by
 have HI := lh (contains_at w q l c xs k h hb)
 clear h
 go_enter Tryz.func234, Tryz.ntmps234
 go_wp2_with fail
 (with_reducible refine HI.out.mono ?_)
 rintro e w' ⟨rfl, rfl⟩
 clear HI
 go_wp2
 go_ret
 exact ⟨rfl, rfl⟩
theorem isExpr_at (c : Int) (w : World) : Calls Tryz.prog 115 #[.int .u8 c] w fun e w' => e = .returned (.bool (isExprK c)) ∧ w' = w := by
 unfold isExprK
 by_cases h : 21 ≤ c
 · by_cases h2 : c ≤ 26
   · have e : (decide (21 ≤ c) && decide (c ≤ 26)) = true := by simp [h, h2]
     rw [e]
     clear e
     go_enter Tryz.func115, Tryz.ntmps115
     go_wp2
     go_ret
     exact ⟨rfl, rfl⟩
   · have e : (decide (21 ≤ c) && decide (c ≤ 26)) = false := by simp [h2]
     rw [e]
     clear e
     go_enter Tryz.func115, Tryz.ntmps115
     go_wp2
     go_ret
     exact ⟨rfl, rfl⟩
 · have e : (decide (21 ≤ c) && decide (c ≤ 26)) = false := by simp [h]
   rw [e]
   clear e
   have hd : decide (21 ≤ c) = false := by simpa using h
   go_enter Tryz.func115, Tryz.ntmps115
   go_wp2
   go_ret
   exact ⟨rfl, rfl⟩
theorem isStmt_at (c : Int) (w : World) : Calls Tryz.prog 190 #[.int .u8 c] w fun e w' => e = .returned (.bool (isStmtK c)) ∧ w' = w := by
 unfold isStmtK
 by_cases h : 7 ≤ c
 · by_cases h2 : c ≤ 19
   · have e : (decide (7 ≤ c) && decide (c ≤ 19)) = true := by simp [h, h2]
     rw [e]
     clear e
     go_enter Tryz.func190, Tryz.ntmps190
     go_wp2
     go_ret
     exact ⟨rfl, rfl⟩
   · have e : (decide (7 ≤ c) && decide (c ≤ 19)) = false := by simp [h2]
     rw [e]
     clear e
     go_enter Tryz.func190, Tryz.ntmps190
     go_wp2
     go_ret
     exact ⟨rfl, rfl⟩
 · have e : (decide (7 ≤ c) && decide (c ≤ 19)) = false := by simp [h]
   rw [e]
   clear e
   have hd : decide (7 ≤ c) = false := by simpa using h
   go_enter Tryz.func190, Tryz.ntmps190
   go_wp2
   go_ret
   exact ⟨rfl, rfl⟩
theorem isEmpty_size (s : ByteArray) : s.toList.isEmpty = decide (s.size = 0) := by
 have this : (Lib.bytesOf (bytesI s)).length = s.size := by rw [Lib.bytesOf, List.length_map, bytesI_length]
 have e : s.toList = Lib.bytesOf (bytesI s) := by rw [← Lib.strOfNums_toList, bytesI_str]
 rw [e]
 by_cases h : s.size = 0
 · rw [decide_eq_true h, List.isEmpty_iff_length_eq_zero]; omega
 · rw [decide_eq_false h, List.isEmpty_eq_false_iff]
   intro e
   rw [e] at this
   exact h this.symm
theorem isEmpty_at (s : ByteArray) (w : World) : Calls Tryz.prog 187 #[.string s] w fun e w' => e = .returned (.bool (decide (s.size = 0))) ∧ w' = w := by
 go_enter Tryz.func187, Tryz.ntmps187
 go_wp2
 go_ret
 exact ⟨retB (isEmpty_size s), rfl⟩
theorem one_at (w : World) (g : Fn) (cs : Array Value) : Calls Tryz.prog 184 #[.func g #[] cs] w fun e w' => e = .returned (.agg #[.func g #[] cs, .int .i64 1, .int .i64 1]) ∧ Below w.heap.size w w' := by
 go_enter Tryz.func184, Tryz.ntmps184
 go_wp2
 simp [bodyPost, results, Tryz.results184, go_sem]
 exact one_below w _
theorem maybe_at (w : World) (g : Fn) (cs : Array Value) : Calls Tryz.prog 191 #[.func g #[] cs] w fun e w' => e = .returned (.agg #[.func g #[] cs, .int .i64 0, .int .i64 1]) ∧ Below w.heap.size w w' := by
 go_enter Tryz.func191, Tryz.ntmps191
 go_wp2
 simp [bodyPost, results, Tryz.results191, go_sem]
 exact one_below w _
theorem many_at (w : World) (g : Fn) (cs : Array Value) : Calls Tryz.prog 188 #[.func g #[] cs] w fun e w' => e = .returned (.agg #[.func g #[] cs, .int .i64 0, .int .i64 9223372036854775807]) ∧ Below w.heap.size w w' := by
 go_enter Tryz.func188, Tryz.ntmps188
 go_wp2
 simp [bodyPost, results, Tryz.results188, go_sem]
 exact one_below w _
theorem is_at (w : World) (q : Option Addr) (l c : Nat) (ks : List Int) (h : BV w q l c ks) (hb : l ≤ 70000) : Calls Tryz.prog 185 #[.slice q l c] w fun e w' => (∃ g cs, e = .returned (.func g #[] cs) ∧ FitV w' g cs (.of ks)) ∧ Below w.heap.size w w' := by
 have H := lh h
 clear h
 go_enter Tryz.func185, Tryz.ntmps185
 go_wp2
 go_ret
 exact ⟨⟨_, _, rfl, ⟨w.heap.size, q, l, c, rfl, rfl, by simp, H.out.on (Aside.of (one_below w _)), hb⟩⟩, one_below w _⟩
end Tr
end Go.Proofs.YthdioipfdbbmmaaGreatDoor
