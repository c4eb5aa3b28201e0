/- Contracts on the way to the laws of layer 5: PrintD, PrintSh, PrintBd, PrintRa, PrintRb, PrintRc, PrintRd, PrintRe, PrintRf. -/
import Derived.Test.YthdioipfdbbmmaaGreatDoorKai
import Derived.Test.YthdioipfdbbmmaaGreatDoorKan
import Derived.Test.YthdioipfdbbmmaaGreatDoorKao
set_option linter.all false
set_option maxRecDepth 1000000
set_option maxHeartbeats 16000000
namespace Go.Proofs.YthdioipfdbbmmaaGreatDoor
section
open Go.RowKit Tr
theorem exs_size : ∀ l : List Ast, wfRL l → ((l.map exT).map ByteArray.size).sum ≤ 70100 * sizeL l
 | [], _ => by simp [sizeL]
 | x :: r, h => by
  have h1 := exT_size x h.1
  have h2 := exs_size r h.2
  simp only [List.map_cons, List.sum_cons, sizeL]
  omega
theorem lineT_size (d : Nat) (s : ByteArray) : (lineT d s).size = d + s.size + 1 := by
 unfold lineT
 rw [ByteArray.size_append, ByteArray.size_append, tabsT_size]
 rfl
theorem drop_sum : ∀ (l : List ByteArray), ((l.drop 1).map ByteArray.size).sum + (l.getD 0 none0).size ≤ (l.map ByteArray.size).sum
 | [] => by simp; rfl
 | x :: r => by simp only [List.drop_succ_cons, List.drop_zero, List.getD_cons_zero, List.map_cons, List.sum_cons]; omega
end
section
open Tr
theorem sh20_5 {ks : List Ast} (h : isR (ks.map Ast.kind) [20, 5] = true) : ∃ x0 x1, ks = [x0, x1] ∧ x0.kind = 20 ∧ x1.kind = 5 := by
 rcases ks with _ | ⟨x0, _ | ⟨x1, _ | ⟨y, r⟩⟩⟩
 · simp [isR] at h
 · simp [isR] at h
 · exact ⟨x0, x1, rfl, by simpa [isR] using h⟩
 · simp [isR] at h
theorem sh20_5_0 {ks : List Ast} (h : isR (ks.map Ast.kind) [20, 5, 0] = true) : ∃ x0 x1 x2, ks = [x0, x1, x2] ∧ x0.kind = 20 ∧ x1.kind = 5 ∧ isExprK x2.kind = true := by
 rcases ks with _ | ⟨x0, _ | ⟨x1, _ | ⟨x2, _ | ⟨y, r⟩⟩⟩⟩
 · simp [isR] at h
 · simp [isR] at h
 · simp [isR] at h
 · exact ⟨x0, x1, x2, rfl, by simpa [isR] using h⟩
 · simp [isR] at h
theorem sh20 {ks : List Ast} (h : isR (ks.map Ast.kind) [20] = true) : ∃ x0, ks = [x0] ∧ x0.kind = 20 := by
 rcases ks with _ | ⟨x0, _ | ⟨y, r⟩⟩
 · simp [isR] at h
 · exact ⟨x0, rfl, by simpa [isR] using h⟩
 · simp [isR] at h
theorem sh5_5 {ks : List Ast} (h : isR (ks.map Ast.kind) [5, 5] = true) : ∃ x0 x1, ks = [x0, x1] ∧ x0.kind = 5 ∧ x1.kind = 5 := by
 rcases ks with _ | ⟨x0, _ | ⟨x1, _ | ⟨y, r⟩⟩⟩
 · simp [isR] at h
 · simp [isR] at h
 · exact ⟨x0, x1, rfl, by simpa [isR] using h⟩
 · simp [isR] at h
theorem sh5 {ks : List Ast} (h : isR (ks.map Ast.kind) [5] = true) : ∃ x0, ks = [x0] ∧ x0.kind = 5 := by
 rcases ks with _ | ⟨x0, _ | ⟨y, r⟩⟩
 · simp [isR] at h
 · exact ⟨x0, rfl, by simpa [isR] using h⟩
 · simp [isR] at h
theorem sh21_21_6 {ks : List Ast} (h : isR (ks.map Ast.kind) [21, 21, 6] = true) : ∃ x0 x1 x2, ks = [x0, x1, x2] ∧ x0.kind = 21 ∧ x1.kind = 21 ∧ x2.kind = 6 := by
 rcases ks with _ | ⟨x0, _ | ⟨x1, _ | ⟨x2, _ | ⟨y, r⟩⟩⟩⟩
 · simp [isR] at h
 · simp [isR] at h
 · simp [isR] at h
 · exact ⟨x0, x1, x2, rfl, by simpa [isR] using h⟩
 · simp [isR] at h
theorem sh0 {ks : List Ast} (h : isR (ks.map Ast.kind) [0] = true) : ∃ x0, ks = [x0] ∧ isExprK x0.kind = true := by
 rcases ks with _ | ⟨x0, _ | ⟨y, r⟩⟩
 · simp [isR] at h
 · exact ⟨x0, rfl, by simpa [isR] using h⟩
 · simp [isR] at h
theorem sh0_0_6 {ks : List Ast} (h : isR (ks.map Ast.kind) [0, 0, 6] = true) : ∃ x0 x1 x2, ks = [x0, x1, x2] ∧ isExprK x0.kind = true ∧ isExprK x1.kind = true ∧ x2.kind = 6 := by
 rcases ks with _ | ⟨x0, _ | ⟨x1, _ | ⟨x2, _ | ⟨y, r⟩⟩⟩⟩
 · simp [isR] at h
 · simp [isR] at h
 · simp [isR] at h
 · exact ⟨x0, x1, x2, rfl, by simpa [isR] using h⟩
 · simp [isR] at h
theorem sh0_0_6_6 {ks : List Ast} (h : isR (ks.map Ast.kind) [0, 0, 6, 6] = true) : ∃ x0 x1 x2 x3, ks = [x0, x1, x2, x3] ∧ isExprK x0.kind = true ∧ isExprK x1.kind = true ∧ x2.kind = 6 ∧ x3.kind = 6 := by
 rcases ks with _ | ⟨x0, _ | ⟨x1, _ | ⟨x2, _ | ⟨x3, _ | ⟨y, r⟩⟩⟩⟩⟩
 · simp [isR] at h
 · simp [isR] at h
 · simp [isR] at h
 · simp [isR] at h
 · exact ⟨x0, x1, x2, x3, rfl, by simpa [isR] using h⟩
 · simp [isR] at h
theorem sh9 {ks : List Ast} (h : kidsR 9 (ks.map Ast.kind) = true) : ∃ x0 xs, ks = x0 :: xs ∧ x0.kind = 20 ∧ (∀ x ∈ xs, isExprK x.kind = true) ∧ 0 < xs.length := by
 rcases ks with _ | ⟨x0, xs⟩
 · simp [kidsR] at h
 · simp [kidsR] at h
   exact ⟨x0, xs, rfl, h.2.1, h.2.2, h.1⟩
theorem sh14 {ks : List Ast} (h : kidsR 14 (ks.map Ast.kind) = true) : isR (ks.map Ast.kind) [0, 0, 6] = true ∨ isR (ks.map Ast.kind) [0, 0, 6, 6] = true := by
 have : (isR (ks.map Ast.kind) [0, 0, 6] || isR (ks.map Ast.kind) [0, 0, 6, 6]) = true := h
 simpa using this
theorem sh13 {ks : List Ast} (h : kidsR 13 (ks.map Ast.kind) = true) : isR (ks.map Ast.kind) [5] = true ∨ isR (ks.map Ast.kind) [20] = true := by
 have : (isR (ks.map Ast.kind) [5] || isR (ks.map Ast.kind) [20]) = true := h
 simpa using this
theorem sh3 {ks : List Ast} (h : isR (ks.map Ast.kind) [4, 6] = true) : ∃ x0 x1, ks = [x0, x1] ∧ x0.kind = 4 ∧ x1.kind = 6 := by
 rcases ks with _ | ⟨x0, _ | ⟨x1, _ | ⟨y, r⟩⟩⟩
 · simp [isR] at h
 · simp [isR] at h
 · exact ⟨x0, x1, rfl, by simpa [isR] using h⟩
 · simp [isR] at h
end
section
open Go.RowKit Tr
mutual
def smA : Ast → Prop
 | .mk _ _ s _ ks => s.size ≤ 50 ∧ smL ks
def smL : List Ast → Prop
 | [] => True
 | x :: r => smA x ∧ smL r
end
mutual
theorem smA_of (o : Nat) : ∀ a : Ast, (∀ nd ∈ flat o a, nd.text.size ≤ 50) → smA a
 | .mk k p s n ks, ht => ⟨ht _ (by simp only [flat]; exact List.mem_cons_self), smL_of ks (o + 1) (fun nd hm => ht nd (by simp only [flat]; exact List.mem_cons_of_mem _ hm))⟩
theorem smL_of : ∀ (l : List Ast) (o : Nat), (∀ nd ∈ flatL o l, nd.text.size ≤ 50) → smL l
 | [], _, _ => trivial
 | x :: r, o, ht => ⟨smA_of o x (fun nd hm => ht nd (by simp only [flatL]; exact List.mem_append_left _ hm)), smL_of r _ (fun nd hm => ht nd (by simp only [flatL]; exact List.mem_append_right _ hm))⟩
end
theorem On.small {ns : List Nd} {o : Nat} {a : Ast} (h : On ns o a) (ht : ∀ nd ∈ ns, nd.text.size ≤ 50) : smA a := by
 obtain ⟨t, e, pre, post, rfl, rfl⟩ := h
 refine smA_of pre.length a fun nd hm => ?_
 have h5 : noAt nd ∈ ns.map noAt := by rw [← e]; exact List.mem_map_of_mem (by simp [hm])
 obtain ⟨md, h6, h7⟩ := List.mem_map.1 h5
 have h8 : nd.text = md.text := (show (noAt nd).text = (noAt md).text by rw [h7])
 rw [h8]
 exact ht md h6
mutual
theorem exL_few (k : Int) (j : Nat) : ∀ l : List Ast, wfRL l → smL l → ((exL k j l).map ByteArray.size).sum ≤ 60 * sizeL l
 | [], _, _ => by simp [exL, sizeL]
 | x :: r, h, hs => by
  have h2 := exL_few k (j + 1) r h.2 hs.2
  simp only [exL, List.map_cons, List.sum_cons, sizeL]
  have h4 : (inB (br k (j == 1) x.kind) (exT x)).size ≤ (exT x).size + 2 := by
   unfold inB; split
   · simp only [ByteArray.size_append]
     show 1 + (exT x).size + 1 ≤ _
     omega
   · omega
  have h5 := exT_few x h.1 hs.1
  omega
theorem exT_few : ∀ x : Ast, wfR x → smA x → (exT x).size + 2 ≤ 60 * x.size
 | .mk k a s n ks, h, hs => by
  have hp := h.parts
  have hl := exL_few k 0 ks h.2 hs.2
  have hs1 := hs.1
  simp only [exT, Ast.size]
  have h01 : ((exL k 0 ks).getD 0 none0).size + ((exL k 0 ks).getD 1 none0).size ≤ 60 * sizeL ks := Nat.le_trans (get2_le _ 0 1 (by omega)) hl
  have hnum : (numT n).size ≤ 21 := by
   unfold numT
   have := Lib.itoa_length_le n (by omega) (by have := mostR_le k; omega)
   show (Lib.itoa n).toArray.size ≤ 21
   simpa using this
  have e1 : (⟨#[91]⟩ : ByteArray).size = 1 := rfl
  have e2 : (⟨#[93]⟩ : ByteArray).size = 1 := rfl
  have e3 : (⟨#[45]⟩ : ByteArray).size = 1 := rfl
  have e4 : (markT k).size = 3 := by
   unfold markT
   split
   · rfl
   · split <;> rfl
  unfold nodeT
  split
  · simp only [ByteArray.size_append]; omega
  · split
    · omega
    · split
      · simp only [ByteArray.size_append]; omega
      · split
        · simp only [ByteArray.size_append]; omega
        · omega
end
theorem exs_few : ∀ l : List Ast, wfRL l → smL l → ((l.map exT).map ByteArray.size).sum + 2 * l.length ≤ 60 * sizeL l
 | [], _, _ => by simp [sizeL]
 | x :: r, h, hs => by
  have h1 := exT_few x h.1 hs.1
  have h2 := exs_few r h.2 hs.2
  simp only [List.map_cons, List.sum_cons, sizeL, List.length_cons]
  omega
theorem get3_le : ∀ (l : List ByteArray), (l.getD 0 none0).size + (l.getD 1 none0).size + (l.getD 2 none0).size ≤ (l.map ByteArray.size).sum
 | [] => by simp [List.getD]; rfl
 | x :: r => by have := get2_le r 0 1 (by omega); simp only [List.getD_cons_zero, List.getD_cons_succ, List.map_cons, List.sum_cons]; omega
theorem stF_few (d : Nat) (k : Int) (t : ByteArray) (n : Int) (l m : List ByteArray) (h14 : k ≠ 14) (h15 : k ≠ 15) : (stF d k t n l m).size ≤ d + t.size + 40 + (l.map ByteArray.size).sum + 2 * l.length := by
 have g3 := get3_le l
 have gj := joinT_size (l.drop 1)
 have gd := drop_sum l
 rw [List.length_drop] at gj
 have c1 : (if n = 1 then (⟨#[32, 102, 111, 114, 32, 117, 112, 100, 97, 116, 101]⟩ : ByteArray) else ⟨#[]⟩).size ≤ 11 := by split <;> decide
 have c2 : (if n = 1 then (⟨#[32, 97, 108, 108]⟩ : ByteArray) else ⟨#[32, 115, 104, 97, 114, 101, 100]⟩).size ≤ 7 := by split <;> decide
 have lit : ∀ a : Array UInt8, (⟨a⟩ : ByteArray).size = a.size := fun a => rfl
 by_cases h7 : k = 7
 · subst h7
   unfold stF
   rw [if_pos rfl]
   clear h14 h15
   rw [lineT_size]; simp only [ByteArray.size_append, lit] at *; simp at *; omega
 by_cases h8 : k = 8
 · subst h8
   unfold stF
   rw [if_neg (by decide), if_pos rfl]
   clear h14 h15 h7
   rw [lineT_size]; simp only [ByteArray.size_append, lit] at *; simp at *; omega
 by_cases h9 : k = 9
 · subst h9
   unfold stF
   rw [if_neg (by decide), if_neg (by decide), if_pos rfl]
   clear h14 h15 h7 h8
   rw [lineT_size]; simp only [ByteArray.size_append, lit] at *; simp at *; omega
 by_cases h10 : k = 10
 · subst h10
   unfold stF
   rw [if_neg (by decide), if_neg (by decide), if_neg (by decide), if_pos rfl]
   clear h14 h15 h7 h8 h9
   rw [lineT_size]; simp only [ByteArray.size_append, lit] at *; simp at *; omega
 by_cases h11 : k = 11
 · subst h11
   unfold stF
   rw [if_neg (by decide), if_neg (by decide), if_neg (by decide), if_neg (by decide), if_pos rfl]
   clear h14 h15 h7 h8 h9 h10
   rw [lineT_size]; simp only [ByteArray.size_append, lit] at *; simp at *; omega
 by_cases h12 : k = 12
 · subst h12
   unfold stF
   rw [if_neg (by decide), if_neg (by decide), if_neg (by decide), if_neg (by decide), if_neg (by decide), if_pos rfl]
   clear h14 h15 h7 h8 h9 h10 h11
   rw [lineT_size]; simp only [ByteArray.size_append, lit] at *; simp at *; omega
 by_cases h13 : k = 13
 · subst h13
   unfold stF
   rw [if_neg (by decide), if_neg (by decide), if_neg (by decide), if_neg (by decide), if_neg (by decide), if_neg (by decide), if_pos rfl]
   clear h14 h15 h7 h8 h9 h10 h11 h12
   rw [lineT_size]; simp only [ByteArray.size_append, lit] at *; simp at *; omega
 by_cases h16 : k = 16
 · subst h16
   unfold stF
   rw [if_neg (by decide), if_neg (by decide), if_neg (by decide), if_neg (by decide), if_neg (by decide), if_neg (by decide), if_neg (by decide), if_neg (by decide), if_neg (by decide), if_pos rfl]
   clear h14 h15 h7 h8 h9 h10 h11 h12 h13
   rw [lineT_size]; simp only [ByteArray.size_append, lit] at *; simp at *; omega
 by_cases h17 : k = 17
 · subst h17
   unfold stF
   rw [if_neg (by decide), if_neg (by decide), if_neg (by decide), if_neg (by decide), if_neg (by decide), if_neg (by decide), if_neg (by decide), if_neg (by decide), if_neg (by decide), if_neg (by decide), if_pos rfl]
   clear h14 h15 h7 h8 h9 h10 h11 h12 h13 h16
   rw [lineT_size]; simp only [ByteArray.size_append, lit] at *; simp at *; omega
 by_cases h18 : k = 18
 · subst h18
   unfold stF
   rw [if_neg (by decide), if_neg (by decide), if_neg (by decide), if_neg (by decide), if_neg (by decide), if_neg (by decide), if_neg (by decide), if_neg (by decide), if_neg (by decide), if_neg (by decide), if_neg (by decide), if_pos rfl]
   clear h14 h15 h7 h8 h9 h10 h11 h12 h13 h16 h17
   rw [lineT_size]; simp only [ByteArray.size_append, lit] at *; simp at *; omega
 by_cases h19 : k = 19
 · subst h19
   unfold stF
   rw [if_neg (by decide), if_neg (by decide), if_neg (by decide), if_neg (by decide), if_neg (by decide), if_neg (by decide), if_neg (by decide), if_neg (by decide), if_neg (by decide), if_neg (by decide), if_neg (by decide), if_neg (by decide), if_pos rfl]
   clear h14 h15 h7 h8 h9 h10 h11 h12 h13 h16 h17 h18
   rw [lineT_size]; simp only [ByteArray.size_append, lit] at *; simp at *; omega
 · have h0 : stF d k t n l m = none0 := by unfold stF; rw [if_neg h7, if_neg h8, if_neg h9, if_neg h10, if_neg h11, if_neg h12, if_neg h13, if_neg h14, if_neg h15, if_neg h16, if_neg h17, if_neg h18, if_neg h19]
   rw [h0]; show 0 ≤ _; omega
theorem stF_14 (d : Nat) (t : ByteArray) (n : Int) (l m : List ByteArray) : (stF d 14 t n l m).size ≤ 3 * d + 40 + (l.getD 0 none0).size + (l.getD 1 none0).size + (m.getD 2 none0).size + (m.getD 3 none0).size := by
 have c3 : (if n = 1 then (⟨#[32, 61, 61, 32]⟩ : ByteArray) else ⟨#[32, 60, 32]⟩).size ≤ 4 := by split <;> decide
 have lit : ∀ a : Array UInt8, (⟨a⟩ : ByteArray).size = a.size := fun a => rfl
 unfold stF
 rw [if_neg (by decide), if_neg (by decide), if_neg (by decide), if_neg (by decide), if_neg (by decide), if_neg (by decide), if_neg (by decide), if_pos rfl]
 by_cases h3 : 3 < l.length
 · rw [if_pos h3]; simp only [ByteArray.size_append]
   rw [lineT_size, lineT_size, lineT_size]; simp only [ByteArray.size_append, lit] at *; simp at *; omega
 · have h0 : none0.size = 0 := rfl
   rw [if_neg h3]; simp only [ByteArray.size_append]
   rw [lineT_size, lineT_size]; simp only [ByteArray.size_append, lit] at *; simp at *; omega
theorem stF_15 (d : Nat) (t : ByteArray) (n : Int) (l m : List ByteArray) : (stF d 15 t n l m).size ≤ 2 * d + t.size + 40 + (l.getD 0 none0).size + (l.getD 1 none0).size + (m.getD 2 none0).size := by
 have lit : ∀ a : Array UInt8, (⟨a⟩ : ByteArray).size = a.size := fun a => rfl
 unfold stF
 rw [if_neg (by decide), if_neg (by decide), if_neg (by decide), if_neg (by decide), if_neg (by decide), if_neg (by decide), if_neg (by decide), if_neg (by decide), if_pos rfl]
 simp only [ByteArray.size_append]
 rw [lineT_size, lineT_size]; simp only [ByteArray.size_append, lit] at *; simp at *; omega
def FewS (x : Ast) : Prop := wfR x → smA x → ∀ d : Nat, 4 * d + x.size ≤ 200 → (stT d x).size ≤ 250 * x.size
theorem stL_of (l : List Ast) (ih : ∀ y ∈ l, FewS y) (h : wfRL l) (hs : smL l) (d : Nat) (hd : 4 * d + sizeL l ≤ 200) : (stL d l).size ≤ 250 * sizeL l := by
 induction l with
 | nil => simp only [stL]; exact Nat.zero_le _
 | cons x r ih2 =>
  simp only [sizeL] at hd ⊢
  have h1 := ih x (by simp) h.1 hs.1 d (by omega)
  have h2 := ih2 (fun y hy => ih y (by simp [hy])) h.2 hs.2 (by omega)
  simp only [stL, ByteArray.size_append]
  omega
theorem blT_of (x : Ast) (ih : ∀ y ∈ x.kids, FewS y) (h : wfR x) (hs : smA x) (d : Nat) (hd : 4 * d + x.size ≤ 201) : (blT d x).size ≤ 250 * x.size := by
 cases x with
 | mk k a s n ks =>
  simp only [Ast.size] at hd ⊢
  have := stL_of ks ih h.2 hs.2 d (by omega)
  simp only [blT]
  omega
theorem kid_size {k : Int} {a : Nat} {s : ByteArray} {n : Int} {ks : List Ast} {y : Ast} (h : y ∈ ks) : y.size < (Ast.mk k a s n ks).size := by
 have := sizeL_mem h
 simp only [Ast.size]; omega
theorem kids_size {x y : Ast} (h : y ∈ x.kids) : y.size < x.size := by
 cases x with
 | mk k a s n ks => exact kid_size h
theorem stT_few : ∀ (m : Nat) (x : Ast), x.size ≤ m → FewS x
 | 0, x, h => absurd h (by have := ast_pos x; omega)
 | m + 1, .mk k a s n ks, h => by
  intro hw hs d hd
  have hs1 := hs.1
  have hex := exs_few ks hw.2 hs.2
  have IH : ∀ y ∈ ks, ∀ z ∈ y.kids, FewS z := fun y hy z hz => stT_few m z (by have := kid_size (k := k) (a := a) (s := s) (n := n) hy; have := kids_size hz; omega)
  simp only [stT]
  by_cases h14 : k = 14
  · subst h14
    have hF := stF_14 d s n (ks.map exT) (blLs (d + 1) ks)
    simp only [Ast.size] at hd ⊢
    rcases ks with _ | ⟨x, _ | ⟨y, r⟩⟩
    · have h0 : none0.size = 0 := rfl
      simp only [blLs, List.map_nil, List.getD_nil, sizeL, h0] at *; omega
    · have h0 : none0.size = 0 := rfl
      have hx := exT_few x hw.2.1 hs.2.1
      simp only [blLs, List.map_cons, List.map_nil, List.getD_nil, List.getD_cons_zero, List.getD_cons_succ, sizeL, h0] at *; omega
    · have hx := exT_few x hw.2.1 hs.2.1
      have hy := exT_few y hw.2.2.1 hs.2.2.1
      have px := ast_pos x
      have py := ast_pos y
      simp only [blLs, List.map_cons, List.getD_cons_zero, List.getD_cons_succ, sizeL] at hF hd ⊢
      have hr : ((blLs (d + 1) r).getD 0 none0).size + ((blLs (d + 1) r).getD 1 none0).size ≤ 250 * sizeL r := by
       rcases r with _ | ⟨z, _ | ⟨z2, r2⟩⟩
       · simp only [blLs, List.getD_nil]; exact Nat.zero_le _
       · have hz := blT_of z (IH z (by simp)) hw.2.2.2.1 hs.2.2.2.1 (d + 1) (by simp only [sizeL] at hd; omega)
         have h0 : none0.size = 0 := rfl
         simp only [blLs, List.getD_nil, List.getD_cons_zero, List.getD_cons_succ, sizeL, h0]; omega
       · have hz := blT_of z (IH z (by simp)) hw.2.2.2.1 hs.2.2.2.1 (d + 1) (by simp only [sizeL] at hd; omega)
         have hz2 := blT_of z2 (IH z2 (by simp)) hw.2.2.2.2.1 hs.2.2.2.2.1 (d + 1) (by simp only [sizeL] at hd; omega)
         simp only [blLs, List.getD_cons_zero, List.getD_cons_succ, sizeL]; omega
      omega
  · by_cases h15 : k = 15
    · subst h15
      have hF := stF_15 d s n (ks.map exT) (blLs (d + 1) ks)
      simp only [Ast.size] at hd ⊢
      rcases ks with _ | ⟨x, _ | ⟨y, r⟩⟩
      · have h0 : none0.size = 0 := rfl
        simp only [blLs, List.map_nil, List.getD_nil, sizeL, h0] at *; omega
      · have h0 : none0.size = 0 := rfl
        have hx := exT_few x hw.2.1 hs.2.1
        simp only [blLs, List.map_cons, List.map_nil, List.getD_nil, List.getD_cons_zero, List.getD_cons_succ, sizeL, h0] at *; omega
      · have hx := exT_few x hw.2.1 hs.2.1
        have hy := exT_few y hw.2.2.1 hs.2.2.1
        have px := ast_pos x
        have py := ast_pos y
        simp only [blLs, List.map_cons, List.getD_cons_zero, List.getD_cons_succ, sizeL] at hF hd ⊢
        have hr : ((blLs (d + 1) r).getD 0 none0).size ≤ 250 * sizeL r := by
         rcases r with _ | ⟨z, r2⟩
         · simp only [blLs, List.getD_nil]; exact Nat.zero_le _
         · have hz := blT_of z (IH z (by simp)) hw.2.2.2.1 hs.2.2.2.1 (d + 1) (by simp only [sizeL] at hd; omega)
           simp only [blLs, List.getD_cons_zero, sizeL]; omega
        omega
    · have hF := stF_few d k s n (ks.map exT) (blLs (d + 1) ks) h14 h15
      rw [List.length_map] at hF
      simp only [Ast.size] at hd ⊢
      omega
theorem partT_few (x : Ast) (h : wfR x) (hs : smA x) (hx : x.size ≤ 199) : (partT x).size ≤ 250 * x.size := by
 cases x with
 | mk k a t n ks =>
 have hs1 := hs.1
 have hj := joinT_size (ks.map exT)
 have hex := exs_few ks h.2 hs.2
 have lit : ∀ a : Array UInt8, (⟨a⟩ : ByteArray).size = a.size := fun a => rfl
 rw [List.length_map] at hj
 simp only [Ast.size] at hx ⊢
 unfold partT; dsimp only
 by_cases h2 : k = 2
 · rw [if_pos h2, lineT_size]
   unfold namesOf
   simp only [ByteArray.size_append, lit]
   simp
   omega
 · rw [if_neg h2]
   rcases ks with _ | ⟨a', _ | ⟨b', _ | ⟨c', r⟩⟩⟩
   · show 0 ≤ _; omega
   · show 0 ≤ _; omega
   · have c1 : (if n = 1 then (⟨#[32, 115, 105, 110, 103, 108, 101]⟩ : ByteArray) else ⟨#[]⟩).size ≤ 7 := by split <;> decide
     have hb := blT_of b' (fun y _ => stT_few y.size y (Nat.le_refl _)) h.2.2.1 hs.2.2.1 1 (by have := ast_pos a'; simp only [sizeL] at hx; omega)
     have hn := joinT_size (a'.kids.map exT)
     have hn2 : ((a'.kids.map exT).map ByteArray.size).sum + 2 * a'.kids.length ≤ 60 * sizeL a'.kids := by cases a' with | mk k1 a1 s1 n1 ks1 => exact exs_few ks1 h.2.1.2 hs.2.1.2
     have hs : sizeL a'.kids ≤ a'.size := by cases a' with | mk k1 a1 s1 n1 ks1 => simp only [Ast.kids, Ast.size]; omega
     rw [List.length_map] at hn
     simp only [sizeL, Nat.add_zero] at hx ⊢
     simp only [ByteArray.size_append, lineT_size]
     unfold namesOf
     generalize (if n = 1 then (⟨#[32, 115, 105, 110, 103, 108, 101]⟩ : ByteArray) else ⟨#[]⟩) = E at *
     simp only [lit]
     simp
     omega
   · show 0 ≤ _; omega
theorem progL_few : ∀ l : List Ast, wfRL l → smL l → sizeL l ≤ 199 → (progL l).size ≤ 250 * sizeL l
 | [], _, _, _ => by simp only [progL]; exact Nat.zero_le _
 | x :: r, h, hs, hd => by
  simp only [sizeL] at hd ⊢
  have h1 := partT_few x h.1 hs.1 (by omega)
  have h2 := progL_few r h.2 hs.2 (by omega)
  simp only [progL, ByteArray.size_append]
  omega
theorem fits {ks : List Ast} {a : Nat} {s : ByteArray} {n : Int} (h : wfR (.mk 1 a s n ks)) (hs : smA (.mk 1 a s n ks)) (hd : (Ast.mk 1 a s n ks).size ≤ 200) : (progL ks).size ≤ 65536 := by
 simp only [Ast.size] at hd
 have := progL_few ks h.2 hs.2 (by omega)
 omega
end
section
open Par Tr
mutual
def zA : Ast → Ast
 | .mk k _ s n ks => .mk k 0 s n (zL ks)
def zL : List Ast → List Ast
 | [] => []
 | x :: r => zA x :: zL r
end
theorem zL_map (l : List Ast) : zL l = l.map zA := by
 induction l with
 | nil => simp [zL]
 | cons x r ih => simp only [zL, List.map_cons, ih]
theorem zA_at (x : Ast) : (zA x).at' = 0 := by cases x; rfl
def nm (s : ByteArray) : PT := ⟨1, 0, s, 0⟩
def nu (n : Int) : PT := ⟨2, 0, numT n, n⟩
def mk3 (s : ByteArray) : PT := ⟨3, 0, s, 0⟩
def bT (b : Bool) (t : List PT) : List PT := if b then mk3 ⟨#[40]⟩ :: (t ++ [mk3 ⟨#[41]⟩]) else t
def opB (k : Int) : ByteArray := if k = 23 then ⟨#[43]⟩ else if k = 24 then ⟨#[45]⟩ else ⟨#[42]⟩
def nodeK (k : Int) (s : ByteArray) (n : Int) (l : List (List PT)) : List PT :=
 if k = 20 then nm s :: mk3 ⟨#[91]⟩ :: (l.getD 0 [] ++ [mk3 ⟨#[93]⟩])
 else if k = 21 then [nu n]
 else if k = 26 then mk3 ⟨#[45]⟩ :: l.getD 0 []
 else if k = 23 ∨ k = 24 ∨ k = 25 then l.getD 0 [] ++ mk3 (opB k) :: l.getD 1 []
 else [nm s]
mutual
def exK : Ast → List PT
 | .mk k _ s n ks => nodeK k s n (exKL k 0 ks)
def exKL (k : Int) (j : Nat) : List Ast → List (List PT)
 | [] => []
 | x :: r => bT (br k (j == 1) x.kind) (exK x) :: exKL k (j + 1) r
end
inductive Ex : Ast → Prop
 | num (a : Nat) (n : Int) : Ex (.mk 21 a none0 n [])
 | var (a : Nat) (s : ByteArray) : Ex (.mk 22 a s 0 [])
 | bin (k : Int) (a : Nat) (x y : Ast) (hk : k = 23 ∨ k = 24 ∨ k = 25) (hx : Ex x) (hy : Ex y) : Ex (.mk k a none0 0 [x, y])
 | neg (a : Nat) (x : Ast) (hx : Ex x) : Ex (.mk 26 a none0 0 [x])
theorem text_none {s : ByteArray} (h : s.size = 0) : s = none0 := by
 cases s with
 | mk d => simp [ByteArray.size] at h; rw [h]
theorem wfR.plain {k : Int} {a : Nat} {s : ByteArray} {n : Int} {ks : List Ast} (h : wfR (.mk k a s n ks)) : (namedR k = false → s = none0) ∧ (mostR k = 0 → n = 0) := by
 have h1 := h.1.1
 simp only [nodeRW, Bool.and_eq_true, decide_eq_true_eq, wordsR, Bool.or_eq_true] at h1
 refine ⟨fun hn => ?_, fun hm => ?_⟩
 · rcases h1.2.2.1.2.1 with h2 | h2
   · rw [hn] at h2; simp at h2
   · exact text_none h2
 · have := h1.2.2.1.2.2.1; have := h1.2.2.1.2.2.2; omega
theorem ex_of : ∀ (m : Nat) (x : Ast), x.size ≤ m → wfR x → isExprK x.kind = true → Ex x
 | 0, x, h, _, _ => absurd h (by have := ast_pos x; omega)
 | m + 1, .mk k a s n ks, h, hw, hk => by
  have hp := hw.parts
  have hq := hw.plain
  have hkk : 21 ≤ k ∧ k ≤ 26 := (isExprK_iff k).1 hk
  simp only [Ast.size] at h
  have h6 : k = 21 ∨ k = 22 ∨ (k = 23 ∨ k = 24 ∨ k = 25) ∨ k = 26 := by omega
  rcases h6 with rfl | rfl | h3 | rfl
  · have h0 : ks = [] := shape0 (by simpa [kidsR] using hp.2.2.2)
    rw [h0, hq.1 rfl]
    exact .num a n
  · have h0 : ks = [] := shape0 (by simpa [kidsR] using hp.2.2.2)
    rw [h0, hq.2 rfl]
    exact .var a s
  · have hr : isR (ks.map Ast.kind) [0, 0] = true := by rcases h3 with rfl | rfl | rfl <;> simpa [kidsR] using hp.2.2.2
    have e1 : s = none0 := by rcases h3 with rfl | rfl | rfl <;> exact hq.1 rfl
    have e2 : n = 0 := by rcases h3 with rfl | rfl | rfl <;> exact hq.2 rfl
    obtain ⟨x, y, rfl, hx, hy⟩ := shape2 hr
    rw [e1, e2]
    simp only [sizeL] at h
    exact .bin k a x y h3 (ex_of m x (by omega) hw.2.1 hx) (ex_of m y (by omega) hw.2.2.1 hy)
  · obtain ⟨x, rfl, hx⟩ := shape1 (by simpa [kidsR] using hp.2.2.2)
    rw [hq.1 rfl, hq.2 rfl]
    simp only [sizeL] at h
    exact .neg a x (ex_of m x (by omega) hw.2.1 hx)
def brn (k : Int) (j : Bool) (x : Ast) : Nat := if br k j x.kind then 1 else 0
def dE : Ast → Nat
 | .mk k _ _ _ [x] => if k = 26 then 1 + (dE x + brn 26 false x) else 0
 | .mk k _ _ _ [x, y] => if k = 23 ∨ k = 24 ∨ k = 25 then max (dE x + brn k false x) (dE y + brn k true y) else 0
 | _ => 0
def hd (s : ByteArray) (l : List PT) : Prop := ∃ t r, l = t :: r ∧ t.txt = s
def Off (ms : List ByteArray) (l : List PT) : Prop := ∃ t r, l = t :: r ∧ t.txt ∉ ms
theorem Off.skip {ms : List ByteArray} {l : List PT} (h : Off ms l) {m : ByteArray} (hm : m ∈ ms) : skipP m l = .ok false l := by
 obtain ⟨t, r, rfl, ht⟩ := h
 simp only [skipP]
 rw [if_neg (show ¬ t.txt = m from fun e => ht (e ▸ hm))]
theorem Off.sub {ms ms' : List ByteArray} {l : List PT} (h : Off ms l) (hs : ∀ m ∈ ms', m ∈ ms) : Off ms' l := by
 obtain ⟨t, r, e, ht⟩ := h
 exact ⟨t, r, e, fun hm => ht (hs _ hm)⟩
theorem off_cons {ms : List ByteArray} {t : PT} {r : List PT} (h : t.txt ∉ ms) : Off ms (t :: r) := ⟨t, r, rfl, h⟩
def FacOk (fac : Par Ast) (x : Ast) (t : List PT) : Prop := ∀ l, fac (t ++ l) = .ok (zA x) l
def TermOk (fac : Par Ast) (x : Ast) (t : List PT) : Prop := ∀ l, termP fac (t ++ l) = many (timesStep fac) (zA x) l
def SumOk (fac : Par Ast) (x : Ast) (t : List PT) : Prop := ∀ l, Off [⟨#[42]⟩] l → exprP fac (t ++ l) = many (sumStep fac) (zA x) l
theorem FacOk.term {fac : Par Ast} {x : Ast} {t : List PT} (h : FacOk fac x t) : TermOk fac x t := fun l => bind_ok (h l)
theorem TermOk.done {fac : Par Ast} {x : Ast} {t : List PT} (h : TermOk fac x t) {l : List PT} (hl : Off [⟨#[42]⟩] l) : termP fac (t ++ l) = .ok (zA x) l := by
 rw [h l]
 refine many_done ?_
 show bind _ _ _ = _
 rw [bind_ok (hl.skip (List.mem_singleton.2 rfl))]
 rfl
theorem TermOk.sum {fac : Par Ast} {x : Ast} {t : List PT} (h : TermOk fac x t) : SumOk fac x t := fun _ hl => bind_ok (h.done hl)
theorem SumOk.done {fac : Par Ast} {x : Ast} {t : List PT} (h : SumOk fac x t) {l : List PT} (hl : Off [⟨#[42]⟩, ⟨#[43]⟩, ⟨#[45]⟩] l) : exprP fac (t ++ l) = .ok (zA x) l := by
 rw [h l (hl.sub (by simp))]
 refine many_done ?_
 show bind _ _ _ = _
 rw [bind_ok (hl.skip (by simp))]
 show bind _ _ _ = _
 rw [bind_ok (hl.skip (by simp))]
 rfl
theorem FacOk.bracket {r : Nat} {x : Ast} {t : List PT} (h : SumOk (factorP r) x t) : FacOk (factorP (r + 1)) x (bT true t) := fun l => by
 show factorOf (r + 1) (factorP r) _ = _
 have e : bT true t ++ l = mk3 ⟨#[40]⟩ :: (t ++ mk3 ⟨#[41]⟩ :: l) := by simp [bT]
 rw [e]
 unfold factorOf
 rw [bind_ok (show peekP _ = .ok (mk3 ⟨#[40]⟩) (mk3 ⟨#[40]⟩ :: (t ++ mk3 ⟨#[41]⟩ :: l)) from rfl)]
 rw [if_neg (by decide), if_neg (by decide), if_pos (show (mk3 ⟨#[40]⟩).txt = ⟨#[40]⟩ from rfl)]
 unfold bracketP
 rw [bind_ok (show enterP ⟨#[40]⟩ (r + 1) (mk3 ⟨#[40]⟩ :: (t ++ mk3 ⟨#[41]⟩ :: l)) = .ok 0 (t ++ mk3 ⟨#[41]⟩ :: l) by simp [enterP, mk3])]
 rw [bind_ok (h.done (off_cons (by simp [mk3])))]
 rw [bind_ok (show expectP ⟨#[41]⟩ (mk3 ⟨#[41]⟩ :: l) = .ok 0 l by simp [expectP, mk3])]
 rfl
theorem FacOk.num (r : Nat) (a : Nat) (n : Int) : FacOk (factorP r) (.mk 21 a none0 n []) [nu n] := fun l => by
 have : factorP r = factorOf r (match r with | 0 => failP | r + 1 => factorP r) := by cases r <;> rfl
 rw [this]
 unfold factorOf
 rw [bind_ok (show peekP ([nu n] ++ l) = .ok (nu n) (nu n :: l) from rfl)]
 rw [if_pos (show (nu n).kind = 2 from rfl)]
 rfl
theorem FacOk.var (r : Nat) (a : Nat) (s : ByteArray) : FacOk (factorP r) (.mk 22 a s 0 []) [nm s] := fun l => by
 have : factorP r = factorOf r (match r with | 0 => failP | r + 1 => factorP r) := by cases r <;> rfl
 rw [this]
 unfold factorOf
 rw [bind_ok (show peekP ([nm s] ++ l) = .ok (nm s) (nm s :: l) from rfl)]
 rw [if_neg (show ¬ (nm s).kind = 2 from by show ¬ (1 : Int) = 2; decide), if_pos (show (nm s).kind = 1 from rfl)]
 rfl
theorem FacOk.neg {r : Nat} {a : Nat} {x : Ast} {t : List PT} (h : FacOk (factorP r) x t) : FacOk (factorP (r + 1)) (.mk 26 a none0 0 [x]) (mk3 ⟨#[45]⟩ :: t) := fun l => by
 show factorOf (r + 1) (factorP r) _ = _
 unfold factorOf
 rw [List.cons_append, bind_ok (show peekP _ = .ok (mk3 ⟨#[45]⟩) (mk3 ⟨#[45]⟩ :: (t ++ l)) from rfl)]
 rw [if_neg (by decide), if_neg (by decide), if_neg (by simp [mk3]), if_pos (show (mk3 ⟨#[45]⟩).txt = ⟨#[45]⟩ from rfl)]
 unfold negP
 rw [bind_ok (show enterP ⟨#[45]⟩ (r + 1) (mk3 ⟨#[45]⟩ :: (t ++ l)) = .ok 0 (t ++ l) by simp [enterP, mk3])]
 rw [bind_ok (h l)]
 rfl
theorem TermOk.times {r : Nat} {a : Nat} {x y : Ast} {t u : List PT} (hx : TermOk (factorP r) x t) (hy : FacOk (factorP r) y u) : TermOk (factorP r) (.mk 25 a none0 0 [x, y]) (t ++ mk3 ⟨#[42]⟩ :: u) := fun l => by
 rw [List.append_assoc, List.cons_append, hx]
 rw [many_more (step_times (less_factor r)) (b := bothA 25 (zA x) (zA y)) (l' := l)]
 · simp only [bothA, zA_at]; rfl
 · show bind _ _ _ = _
   rw [bind_ok (show skipP ⟨#[42]⟩ (mk3 ⟨#[42]⟩ :: (u ++ l)) = .ok true (u ++ l) by simp [skipP, mk3])]
   show bind _ _ _ = _
   rw [bind_ok (hy l)]
   rfl
theorem SumOk.both {r : Nat} {a : Nat} {k : Int} (hk : k = 23 ∨ k = 24) {x y : Ast} {t u : List PT} (hx : SumOk (factorP r) x t) (hy : TermOk (factorP r) y u) : SumOk (factorP r) (.mk k a none0 0 [x, y]) (t ++ mk3 (opB k) :: u) := fun l hl => by
 rw [List.append_assoc, List.cons_append, hx _ (off_cons (by rcases hk with rfl | rfl <;> simp [mk3, opB]))]
 rw [many_more (step_sum (less_factor r)) (b := bothA k (zA x) (zA y)) (l' := l)]
 · simp only [bothA, zA_at]; rfl
 · show bind _ _ _ = _
   rcases hk with rfl | rfl
   · rw [bind_ok (show skipP ⟨#[43]⟩ (mk3 (opB 23) :: (u ++ l)) = .ok true (u ++ l) by simp [skipP, mk3, opB])]
     show bind _ _ _ = _
     rw [bind_ok (hy.done hl)]
     rfl
   · rw [bind_ok (show skipP ⟨#[43]⟩ (mk3 (opB 24) :: (u ++ l)) = .ok false (mk3 (opB 24) :: (u ++ l)) by simp [skipP, mk3, opB])]
     show bind _ _ _ = _
     rw [bind_ok (show skipP ⟨#[45]⟩ (mk3 (opB 24) :: (u ++ l)) = .ok true (u ++ l) by simp [skipP, mk3, opB])]
     show bind _ _ _ = _
     rw [bind_ok (hy.done hl)]
     rfl
theorem ex_read {x : Ast} (h : Ex x) : ∀ r, dE x ≤ r → (x.kind ≠ 23 ∧ x.kind ≠ 24 ∧ x.kind ≠ 25 → FacOk (factorP r) x (exK x)) ∧ (x.kind ≠ 23 ∧ x.kind ≠ 24 → TermOk (factorP r) x (exK x)) ∧ SumOk (factorP r) x (exK x) := by
 induction h with
 | num a n => exact fun r _ => ⟨fun _ => .num r a n, fun _ => (FacOk.num r a n).term, (FacOk.num r a n).term.sum⟩
 | var a s => exact fun r _ => ⟨fun _ => .var r a s, fun _ => (FacOk.var r a s).term, (FacOk.var r a s).term.sum⟩
 | neg a x hx ih =>
  intro r hr
  have hd : dE (.mk 26 a none0 0 [x]) = 1 + (dE x + brn 26 false x) := by simp [dE]
  obtain ⟨r, rfl⟩ : ∃ q, r = q + 1 := ⟨r - 1, by omega⟩
  have hf : FacOk (factorP (r + 1)) (.mk 26 a none0 0 [x]) (exK (.mk 26 a none0 0 [x])) := by
   show FacOk _ _ (mk3 ⟨#[45]⟩ :: bT (br 26 false x.kind) (exK x))
   refine FacOk.neg ?_
   by_cases hb : br 26 false x.kind = true
   · rw [hb]
     have hk : x.kind = 23 ∨ x.kind = 24 ∨ x.kind = 25 := by
      unfold br at hb
      split at hb
      · omega
      · split at hb
        · omega
        · simp at hb
     have hop : brn 26 false x = 1 := by unfold brn; rw [hb]; rfl
     obtain ⟨r, rfl⟩ : ∃ q, r = q + 1 := ⟨r - 1, by omega⟩
     exact FacOk.bracket ((ih r (by omega)).2.2)
   · have hk : x.kind ≠ 23 ∧ x.kind ≠ 24 ∧ x.kind ≠ 25 := by
      refine ⟨fun e => hb ?_, fun e => hb ?_, fun e => hb ?_⟩ <;> rw [e] <;> rfl
     rw [Bool.not_eq_true] at hb
     rw [hb]
     exact (ih r (by omega)).1 hk
  exact ⟨fun _ => hf, fun _ => hf.term, hf.term.sum⟩
 | bin k a x y hk hx hy ihx ihy =>
  intro r hr
  have hd : dE (.mk k a none0 0 [x, y]) = max (dE x + brn k false x) (dE y + brn k true y) := by simp [dE, hk]
  have hxr : br k false x.kind = true → dE x + 1 ≤ r := fun e => by have : brn k false x = 1 := (by unfold brn; rw [e]; rfl); omega
  have hyr : br k true y.kind = true → dE y + 1 ≤ r := fun e => by have : brn k true y = 1 := (by unfold brn; rw [e]; rfl); omega
  -- a part in brackets
  have hB : ∀ z : Ast, Ex z → (∀ r, dE z ≤ r → SumOk (factorP r) z (exK z)) → dE z + 1 ≤ r → FacOk (factorP r) z (bT true (exK z)) := fun z _ ih hz => by
   obtain ⟨q, rfl⟩ : ∃ q, r = q + 1 := ⟨r - 1, by omega⟩
   exact FacOk.bracket (ih q (by omega))
  have e : exK (.mk k a none0 0 [x, y]) = bT (br k false x.kind) (exK x) ++ mk3 (opB k) :: bT (br k true y.kind) (exK y) := by
   rcases hk with rfl | rfl | rfl <;> rfl
  rw [e]
  by_cases h25 : k = 25
  · subst h25
    have hX : TermOk (factorP r) x (bT (br 25 false x.kind) (exK x)) := by
     by_cases hb : x.kind = 23 ∨ x.kind = 24
     · have hbr : br 25 false x.kind = true := by rcases hb with e | e <;> rw [e] <;> rfl
       rw [hbr]
       exact (hB x hx (fun q h => (ihx q h).2.2) (hxr hbr)).term
     · rw [show br 25 false x.kind = false by unfold br; rw [if_neg hb]; split <;> rfl]
       exact (ihx r (by omega)).2.1 (by omega)
    have hY : FacOk (factorP r) y (bT (br 25 true y.kind) (exK y)) := by
     by_cases hb : y.kind = 23 ∨ y.kind = 24 ∨ y.kind = 25
     · have hbr : br 25 true y.kind = true := by rcases hb with e | e | e <;> rw [e] <;> rfl
       rw [hbr]
       exact hB y hy (fun q h => (ihy q h).2.2) (hyr hbr)
     · rw [show br 25 true y.kind = false by unfold br; rw [if_neg (by omega), if_neg (by omega)]]
       exact (ihy r (by omega)).1 (by omega)
    have hT : TermOk (factorP r) (.mk 25 a none0 0 [x, y]) (bT (br 25 false x.kind) (exK x) ++ mk3 (opB 25) :: bT (br 25 true y.kind) (exK y)) := TermOk.times hX hY
    exact ⟨fun h => absurd rfl h.2.2, fun _ => hT, hT.sum⟩
  · have hk2 : k = 23 ∨ k = 24 := by omega
    have hX : SumOk (factorP r) x (bT (br k false x.kind) (exK x)) := by
     have : br k false x.kind = false := by
      unfold br
      split
      · rcases hk2 with rfl | rfl <;> rfl
      · split
        · rcases hk2 with rfl | rfl <;> rfl
        · rfl
     rw [this]
     exact (ihx r (by omega)).2.2
    have hY : TermOk (factorP r) y (bT (br k true y.kind) (exK y)) := by
     by_cases hb : y.kind = 23 ∨ y.kind = 24
     · have hbr : br k true y.kind = true := by unfold br; rw [if_pos hb]; rfl
       rw [hbr]
       exact (hB y hy (fun q h => (ihy q h).2.2) (hyr hbr)).term
     · rw [show br k true y.kind = false by
        unfold br; rw [if_neg hb]; split
        · rcases hk2 with rfl | rfl <;> rfl
        · rfl]
       exact (ihy r (by omega)).2.1 (by omega)
    refine ⟨fun h => ?_, fun h => ?_, SumOk.both hk2 hX hY⟩
    · have h1 := h.1; have h2 := h.2.1; simp only [Ast.kind] at h1 h2; omega
    · have h1 := h.1; have h2 := h.2; simp only [Ast.kind] at h1 h2; omega
theorem expr_read {x : Ast} (h : Ex x) (r : Nat) (hr : dE x ≤ r) (l : List PT) (hl : Off [⟨#[42]⟩, ⟨#[43]⟩, ⟨#[45]⟩] l) : exprR r (exK x ++ l) = .ok (zA x) l := (ex_read h r hr).2.2.done hl
end
section
open Par Tr
inductive Wd : Ast → Prop
 | mk (a : Nat) (s : ByteArray) : Wd (.mk 5 a s 0 [])
inductive RwA : Ast → Prop
 | mk (a : Nat) (s : ByteArray) (e : Ast) (h : Ex e) : RwA (.mk 20 a s 0 [e])
inductive StA : Ast → Prop
 | read (a : Nat) (t : ByteArray) (n : Int) (x y : Ast) (hn : n = 0 ∨ n = 1) (hx : RwA x) (hy : Wd y) : StA (.mk 7 a t n [x, y])
 | set (a : Nat) (x y e : Ast) (hx : RwA x) (hy : Wd y) (he : Ex e) : StA (.mk 8 a none0 0 [x, y, e])
 | put (a : Nat) (x e : Ast) (es : List Ast) (hx : RwA x) (he : Ex e) (hs : ∀ z ∈ es, Ex z) : StA (.mk 9 a none0 0 (x :: e :: es))
 | delete (a : Nat) (x : Ast) (hx : RwA x) : StA (.mk 10 a none0 0 [x])
 | scan (a : Nat) (t : ByteArray) (x y : Ast) (hx : Wd x) (hy : Wd y) : StA (.mk 11 a t 0 [x, y])
 | lock (a : Nat) (n : Int) (x : Ast) (hn : n = 0 ∨ n = 1) (hx : Wd x) : StA (.mk 12 a none0 n [x])
 | rel5 (a : Nat) (x : Ast) (hx : Wd x) : StA (.mk 13 a none0 0 [x])
 | rel20 (a : Nat) (x : Ast) (hx : RwA x) : StA (.mk 13 a none0 0 [x])
 | if3 (a : Nat) (n : Int) (x y : Ast) (b : Nat) (ks : List Ast) (hn : n = 0 ∨ n = 1) (hx : Ex x) (hy : Ex y) (hk : ∀ z ∈ ks, StA z) : StA (.mk 14 a none0 n [x, y, .mk 6 b none0 0 ks])
 | if4 (a : Nat) (n : Int) (x y : Ast) (b : Nat) (ks : List Ast) (c : Nat) (ls : List Ast) (hn : n = 0 ∨ n = 1) (hx : Ex x) (hy : Ex y) (hk : ∀ z ∈ ks, StA z) (hl : ∀ z ∈ ls, StA z) : StA (.mk 14 a none0 n [x, y, .mk 6 b none0 0 ks, .mk 6 c none0 0 ls])
 | for_ (a : Nat) (t : ByteArray) (p q : Nat) (n m : Int) (b : Nat) (ks : List Ast) (hk : ∀ z ∈ ks, StA z) : StA (.mk 15 a t 0 [.mk 21 p none0 n [], .mk 21 q none0 m [], .mk 6 b none0 0 ks])
 | let_ (a : Nat) (t : ByteArray) (e : Ast) (he : Ex e) : StA (.mk 16 a t 0 [e])
 | emit (a : Nat) (e : Ast) (he : Ex e) : StA (.mk 17 a none0 0 [e])
 | rollback (a : Nat) : StA (.mk 18 a none0 0 [])
 | chop (a : Nat) : StA (.mk 19 a none0 0 [])
def ownA (k j : Int) : Nat := if j = 6 ∨ j = 20 ∨ (isExprK j ∧ isExprK k) then 1 else 0
mutual
def dA : Ast → Nat
 | .mk k _ _ _ ks => dAL k ks
def dAL (k : Int) : List Ast → Nat
 | [] => 0
 | x :: r => max (ownA k x.kind + dA x) (dAL k r)
end
theorem Ex.kind {x : Ast} (h : Ex x) : isExprK x.kind = true := by
 cases h with
 | bin k a x y hk hx hy => rcases hk with rfl | rfl | rfl <;> rfl
 | _ => rfl
theorem br_op {k : Int} {j : Bool} {x : Ast} : brn k j x ≤ 1 := by unfold brn; split <;> omega
theorem br_leaf {k : Int} {j : Bool} {x : Ast} (h : ¬ (x.kind = 23 ∨ x.kind = 24 ∨ x.kind = 25)) : brn k j x = 0 := by
 have e : br k j x.kind = false := by
  unfold br
  split
  · rename_i h1; exact absurd (by omega) h
  · split
    · rename_i h1 h2; exact absurd (by omega) h
    · rfl
 unfold brn
 rw [e]
 rfl
def opk (k : Int) : Nat := if k = 23 ∨ k = 24 ∨ k = 25 then 1 else 0
theorem brn_le {k : Int} {j : Bool} {x : Ast} : brn k j x ≤ opk x.kind := by
 unfold opk
 split
 · exact br_op
 · rename_i h
   rw [br_leaf h]
   omega
theorem dB_le {x : Ast} (h : Ex x) : dE x + opk x.kind ≤ dA x := by
 induction h with
 | num a n => show dE _ + 0 ≤ _; simp [dE]
 | var a s => show dE _ + 0 ≤ _; simp [dE]
 | neg a x hx ih =>
  have h1 : dE (.mk 26 a none0 0 [x]) = 1 + (dE x + brn 26 false x) := by simp [dE]
  have h2 : ownA 26 x.kind = 1 := by unfold ownA; rw [if_pos (Or.inr (Or.inr ⟨hx.kind, rfl⟩))]
  have h3 : dA (.mk 26 a none0 0 [x]) = max (ownA 26 x.kind + dA x) 0 := rfl
  have h4 : opk (Ast.mk 26 a none0 0 [x]).kind = 0 := rfl
  have h5 := brn_le (k := 26) (j := false) (x := x)
  omega
 | bin k a x y hk hx hy ihx ihy =>
  have hkk : isExprK k = true := by rcases hk with rfl | rfl | rfl <;> rfl
  have h1 : dE (.mk k a none0 0 [x, y]) = max (dE x + brn k false x) (dE y + brn k true y) := by simp [dE, hk]
  have h2 : ownA k x.kind = 1 := by unfold ownA; rw [if_pos (Or.inr (Or.inr ⟨hx.kind, hkk⟩))]
  have h3 : ownA k y.kind = 1 := by unfold ownA; rw [if_pos (Or.inr (Or.inr ⟨hy.kind, hkk⟩))]
  have h4 : dA (.mk k a none0 0 [x, y]) = max (ownA k x.kind + dA x) (max (ownA k y.kind + dA y) 0) := rfl
  have h5 : opk (Ast.mk k a none0 0 [x, y]).kind = 1 := by show opk k = 1; unfold opk; rw [if_pos hk]
  have h6 := brn_le (k := k) (j := false) (x := x)
  have h7 := brn_le (k := k) (j := true) (x := y)
  omega
def ownB (j : Int) : Nat := if j = 6 ∨ j = 20 then 1 else 0
mutual
def nA : Ast → Nat
 | .mk k a s n ks => if isExprK k then dE (.mk k a s n ks) else nAL ks
def nAL : List Ast → Nat
 | [] => 0
 | x :: r => max (ownB x.kind + nA x) (nAL r)
end
theorem nA_no {k : Int} {a : Nat} {s : ByteArray} {n : Int} {ks : List Ast} (h : isExprK k = false) : nA (.mk k a s n ks) = nAL ks := by rw [nA, h]; rfl
theorem nA_ex {x : Ast} (h : Ex x) : nA x = dE x := by
 have := h.kind
 cases x with
 | mk k a s n ks =>
  have hk : isExprK k = true := this
  rw [nA, if_pos hk]
theorem nAL_mem {x : Ast} : ∀ {l : List Ast}, x ∈ l → ownB x.kind + nA x ≤ nAL l
 | y :: r, h => by
  simp only [nAL]
  rcases List.mem_cons.1 h with rfl | h
  · omega
  · have := nAL_mem h; omega
theorem ownB_le (k j : Int) : ownB j ≤ ownA k j := by
 unfold ownB ownA
 split
 · rename_i h
   rw [if_pos (by rcases h with h | h; exact Or.inl h; exact Or.inr (Or.inl h))]
   omega
 · omega
theorem nAL_le (k : Int) : ∀ l : List Ast, (∀ y ∈ l, nA y ≤ dA y) → nAL l ≤ dAL k l
 | [], _ => Nat.le_refl _
 | x :: r, h => by
  have h1 := nAL_le k r (fun y hy => h y (by simp [hy]))
  have h2 := h x (by simp)
  have h3 := ownB_le k x.kind
  simp only [nAL, dAL]
  omega
theorem nA_le : ∀ (m : Nat) (x : Ast), x.size ≤ m → wfR x → nA x ≤ dA x
 | 0, x, h, _ => absurd h (by have := ast_pos x; omega)
 | m + 1, .mk k a s n ks, h, hw => by
  simp only [Ast.size] at h
  cases hk : isExprK k with
  | true =>
   have hx : Ex (.mk k a s n ks) := ex_of _ _ (Nat.le_refl _) hw hk
   rw [nA_ex hx]
   have := dB_le hx
   omega
  | false =>
   rw [nA_no hk]
   exact nAL_le k ks (fun y hy => nA_le m y (by have := sizeL_mem hy; omega) (wfRL_mem hw.2 y hy))
def joinK : List (List PT) → List PT
 | [] => []
 | s :: r => s ++ (r.map (fun u => mk3 ⟨#[44]⟩ :: u)).flatten
def stK (k : Int) (t : ByteArray) (n : Int) (l m : List (List PT)) : List PT :=
 if k = 7 then nm ⟨#[114, 101, 97, 100]⟩ :: nm t :: mk3 ⟨#[61]⟩ :: (l.getD 0 [] ++ mk3 ⟨#[46]⟩ :: (l.getD 1 [] ++ ((if n = 1 then [nm ⟨#[102, 111, 114]⟩, nm ⟨#[117, 112, 100, 97, 116, 101]⟩] else []) ++ [mk3 ⟨#[59]⟩])))
 else if k = 8 then nm ⟨#[115, 101, 116]⟩ :: (l.getD 0 [] ++ mk3 ⟨#[46]⟩ :: (l.getD 1 [] ++ mk3 ⟨#[61]⟩ :: (l.getD 2 [] ++ [mk3 ⟨#[59]⟩])))
 else if k = 9 then nm ⟨#[112, 117, 116]⟩ :: (l.getD 0 [] ++ mk3 ⟨#[40]⟩ :: (joinK (l.drop 1) ++ [mk3 ⟨#[41]⟩, mk3 ⟨#[59]⟩]))
 else if k = 10 then nm ⟨#[100, 101, 108, 101, 116, 101]⟩ :: (l.getD 0 [] ++ [mk3 ⟨#[59]⟩])
 else if k = 11 then nm ⟨#[115, 99, 97, 110]⟩ :: nm t :: mk3 ⟨#[61]⟩ :: (l.getD 0 [] ++ mk3 ⟨#[46]⟩ :: (l.getD 1 [] ++ [mk3 ⟨#[59]⟩]))
 else if k = 12 then nm ⟨#[108, 111, 99, 107]⟩ :: (l.getD 0 [] ++ nm (if n = 1 then ⟨#[97, 108, 108]⟩ else ⟨#[115, 104, 97, 114, 101, 100]⟩) :: [mk3 ⟨#[59]⟩])
 else if k = 13 then nm ⟨#[114, 101, 108, 101, 97, 115, 101]⟩ :: (l.getD 0 [] ++ [mk3 ⟨#[59]⟩])
 else if k = 14 then nm ⟨#[105, 102]⟩ :: (l.getD 0 [] ++ mk3 (if n = 1 then ⟨#[61, 61]⟩ else ⟨#[60]⟩) :: (l.getD 1 [] ++ (m.getD 2 [] ++ (if 3 < l.length then nm ⟨#[101, 108, 115, 101]⟩ :: m.getD 3 [] else []))))
 else if k = 15 then nm ⟨#[102, 111, 114]⟩ :: nm t :: mk3 ⟨#[61]⟩ :: (l.getD 0 [] ++ nm ⟨#[116, 111]⟩ :: (l.getD 1 [] ++ m.getD 2 []))
 else if k = 16 then nm ⟨#[108, 101, 116]⟩ :: nm t :: mk3 ⟨#[61]⟩ :: (l.getD 0 [] ++ [mk3 ⟨#[59]⟩])
 else if k = 17 then nm ⟨#[101, 109, 105, 116]⟩ :: (l.getD 0 [] ++ [mk3 ⟨#[59]⟩])
 else if k = 18 then [nm ⟨#[114, 111, 108, 108, 98, 97, 99, 107]⟩, mk3 ⟨#[59]⟩]
 else if k = 19 then [nm ⟨#[99, 104, 111, 112]⟩, mk3 ⟨#[59]⟩]
 else []
mutual
def stA : Ast → List PT
 | .mk k _ t n ks => stK k t n (ks.map exK) (blAL ks)
def blA : Ast → List PT
 | .mk _ _ _ _ ks => mk3 ⟨#[123]⟩ :: (stAL ks ++ [mk3 ⟨#[125]⟩])
def stAL : List Ast → List PT
 | [] => []
 | x :: r => stA x ++ stAL r
def blAL : List Ast → List (List PT)
 | [] => []
 | x :: r => blA x :: blAL r
end
section
variable {β : Type} {l : List PT}
theorem take_nm (s : ByteArray) (g : PT → Par β) : bind (takeP 1) g (nm s :: l) = g (nm s) l := by simp [Par.bind, takeP, nm]
theorem exp_mk (s : ByteArray) (g : Nat → Par β) : bind (expectP s) g (mk3 s :: l) = g 0 l := by simp [Par.bind, expectP, mk3]
theorem exp_nm (s : ByteArray) (g : Nat → Par β) : bind (expectP s) g (nm s :: l) = g 0 l := by simp [Par.bind, expectP, nm]
theorem skip_mk (s : ByteArray) (g : Bool → Par β) : bind (skipP s) g (mk3 s :: l) = g true l := by simp [Par.bind, skipP, mk3]
theorem skip_nm (s : ByteArray) (g : Bool → Par β) : bind (skipP s) g (nm s :: l) = g true l := by simp [Par.bind, skipP, nm]
theorem skip_off {s : ByteArray} (h : Off [s] l) (g : Bool → Par β) : bind (skipP s) g l = g false l := by rw [bind_ok (h.skip (by simp))]
theorem word_step {y : Ast} (h : Wd y) (g : Ast → Par β) : bind wordP g (exK y ++ l) = g (zA y) l := by
 cases h with
 | mk a s => exact by simp [Par.bind, wordP, exK, nodeK, takeP, nm, Par.pure, wordA, zA, zL]
theorem end_step (a : Ast) : endP a (mk3 ⟨#[59]⟩ :: l) = .ok a l := by simp [endP, Par.bind, expectP, mk3, Par.pure]
theorem expr_step {x : Ast} (h : Ex x) (r : Nat) (hr : nA x ≤ r) (hl : Off [⟨#[42]⟩, ⟨#[43]⟩, ⟨#[45]⟩] l) (g : Ast → Par β) : bind (exprR r) g (exK x ++ l) = g (zA x) l := by
 rw [bind_ok (expr_read h r (by rw [← nA_ex h]; exact hr) l hl)]
theorem rowOf_step {a : Nat} {s : ByteArray} {e : Ast} (h : Ex e) (r : Nat) (hr : 1 + nA (.mk 20 a s 0 [e]) ≤ r) (g : Ast → Par β) : bind (rowOfP r (nm s)) g (mk3 ⟨#[91]⟩ :: (exK e ++ mk3 ⟨#[93]⟩ :: l)) = g (zA (.mk 20 a s 0 [e])) l := by
 have h1 : nA e ≤ nA (.mk 20 a s 0 [e]) := by
  have h3 : nA (.mk 20 a s 0 [e]) = max (ownB e.kind + nA e) 0 := nA_no rfl
  omega
 have h2 : rowOfP r (nm s) (mk3 ⟨#[91]⟩ :: (exK e ++ mk3 ⟨#[93]⟩ :: l)) = .ok (zA (.mk 20 a s 0 [e])) l := by
  unfold rowOfP
  rw [bind_ok (show enterP ⟨#[91]⟩ r (mk3 ⟨#[91]⟩ :: (exK e ++ mk3 ⟨#[93]⟩ :: l)) = .ok 0 (exK e ++ mk3 ⟨#[93]⟩ :: l) by
   have h0 : ¬ r = 0 := by omega
   simp [enterP, mk3, h0])]
  rw [expr_step h (r - 1) (by omega) (off_cons (by simp [mk3])), exp_mk]
  rfl
 rw [bind_ok h2]
theorem row_step {x : Ast} (h : RwA x) (r : Nat) (hr : 1 + nA x ≤ r) (g : Ast → Par β) : bind (rowP r) g (exK x ++ l) = g (zA x) l := by
 cases h with
 | mk a s e he =>
  have e1 : exK (.mk 20 a s 0 [e]) ++ l = nm s :: mk3 ⟨#[91]⟩ :: (exK e ++ mk3 ⟨#[93]⟩ :: l) := by
   have : exK (.mk 20 a s 0 [e]) = nm s :: mk3 ⟨#[91]⟩ :: (bT (br 20 false e.kind) (exK e) ++ [mk3 ⟨#[93]⟩]) := rfl
   rw [this]
   have hb : br 20 false e.kind = false := by unfold br; split <;> (try split) <;> rfl
   rw [hb]
   simp [bT]
  rw [e1]
  unfold rowP
  rw [bind_assoc, take_nm, rowOf_step he r hr]
theorem cell_step {x y : Ast} (h : RwA x) (hy : Wd y) (r : Nat) (hr : 1 + nA x ≤ r) (g : Ast × Ast → Par β) : bind (cellP r) g (exK x ++ mk3 ⟨#[46]⟩ :: (exK y ++ l)) = g (zA x, zA y) l := by
 unfold cellP
 rw [bind_assoc, row_step h r hr, bind_assoc, exp_mk, bind_assoc, word_step hy]
 rfl
theorem num_step (p : Nat) (n : Int) (g : Ast → Par β) : bind numberP g (exK (.mk 21 p none0 n []) ++ l) = g (.mk 21 0 none0 n []) l := by
 have : exK (.mk 21 p none0 n []) = [nu n] := rfl
 rw [this]
 simp [Par.bind, numberP, takeP, nu, Par.pure]
end
theorem own_row {x : Ast} (h : RwA x) : ownB x.kind = 1 := by
 cases h with
 | mk a s e he => rfl
theorem own_block {b : Nat} {ks : List Ast} : ownB (Ast.mk 6 b none0 0 ks).kind = 1 := rfl
theorem puts_read (r : Nat) : ∀ (es : List Ast), (∀ z ∈ es, Ex z) → (∀ z ∈ es, nA z ≤ r) → ∀ (acc : List Ast) (l : List PT), many (putStep r) acc ((es.map (fun u => mk3 ⟨#[44]⟩ :: exK u)).flatten ++ mk3 ⟨#[41]⟩ :: l) = .ok (acc ++ zL es) (mk3 ⟨#[41]⟩ :: l)
 | [], _, _, acc, l => by
  refine (many_done (l' := mk3 ⟨#[41]⟩ :: l) ?_).trans (by simp [zL])
  show bind _ _ _ = _
  rw [List.map_nil, List.flatten_nil, List.nil_append, skip_off (off_cons (by simp [mk3]))]
  rfl
 | e :: r', h, hd, acc, l => by
  rw [many_more (step_put r) (b := acc ++ [zA e]) (l' := (r'.map (fun u => mk3 ⟨#[44]⟩ :: exK u)).flatten ++ mk3 ⟨#[41]⟩ :: l)]
  · rw [puts_read r r' (fun z hz => h z (by simp [hz])) (fun z hz => hd z (by simp [hz]))]
    simp [zL]
  · show bind _ _ _ = _
    rw [List.map_cons, List.flatten_cons, List.append_assoc, List.cons_append, skip_mk]
    show bind _ _ _ = _
    have ho : Off [⟨#[42]⟩, ⟨#[43]⟩, ⟨#[45]⟩] ((r'.map (fun u => mk3 ⟨#[44]⟩ :: exK u)).flatten ++ mk3 ⟨#[41]⟩ :: l) := by
     cases r' with
     | nil => exact off_cons (by simp [mk3])
     | cons u v => exact off_cons (by simp [mk3])
    rw [expr_step (h e (by simp)) r (hd e (by simp)) ho]
    rfl
def StR (x : Ast) : Prop := ∀ r, nA x ≤ r → ∀ l, Off [⟨#[101, 108, 115, 101]⟩] l → stmtP r (blockP r) (stA x ++ l) = .ok (zA x) l
theorem stmt_head (r : Nat) (B : Par Ast) (j : Nat) (s : ByteArray) (hj : words13.idxOf s = j) (hj13 : j < 13) (l : List PT) : stmtP r B (nm s :: l) = restP r B j 0 l := by
 unfold stmtP
 rw [bind_ok (show peekP (nm s :: l) = .ok (nm s) (nm s :: l) from rfl)]
 rw [if_pos (show words13.idxOf (nm s).txt < 13 by rw [show (nm s).txt = s from rfl, hj]; exact hj13), bind_ok (show nextP (nm s :: l) = .ok (nm s) l from rfl)]
 show restP r B (words13.idxOf s) 0 l = _
 rw [hj]
theorem stA_head {x : Ast} (h : StA x) : ∃ s r, stA x = nm s :: r ∧ s ≠ ⟨#[125]⟩ ∧ s ≠ ⟨#[101, 108, 115, 101]⟩ := by
 cases h <;> exact ⟨_, _, rfl, by decide, by decide⟩
theorem Off.st {x : Ast} (h : StA x) (l : List PT) : Off [⟨#[101, 108, 115, 101]⟩] (stA x ++ l) := by
 obtain ⟨s, r, e, _, h2⟩ := stA_head h
 rw [e]
 exact off_cons (by simpa [nm] using h2)
theorem stmts_read (r : Nat) : ∀ (ks : List Ast), (∀ z ∈ ks, StA z) → (∀ z ∈ ks, StR z) → (∀ z ∈ ks, nA z ≤ r) → ∀ (acc : List Ast) (l : List PT), many (blockStep (stmtP r (blockP r))) acc (stAL ks ++ mk3 ⟨#[125]⟩ :: l) = .ok (acc ++ zL ks) (mk3 ⟨#[125]⟩ :: l)
 | [], _, _, _, acc, l => by
  refine (many_done (l' := mk3 ⟨#[125]⟩ :: l) ?_).trans (by simp [zL])
  show bind _ _ _ = _
  rw [bind_ok (show isNextP ⟨#[125]⟩ (stAL [] ++ mk3 ⟨#[125]⟩ :: l) = .ok true (mk3 ⟨#[125]⟩ :: l) by simp [isNextP, mk3, stAL])]
  rfl
 | e :: r', h, hr, hd, acc, l => by
  rw [many_more (step_block (takes_stmt r (less_block r))) (b := acc ++ [zA e]) (l' := stAL r' ++ mk3 ⟨#[125]⟩ :: l)]
  · rw [stmts_read r r' (fun z hz => h z (by simp [hz])) (fun z hz => hr z (by simp [hz])) (fun z hz => hd z (by simp [hz]))]
    simp [zL]
  · show bind _ _ _ = _
    obtain ⟨s, q, e1, e2, _⟩ := stA_head (h e (by simp))
    have e3 : stAL (e :: r') ++ mk3 ⟨#[125]⟩ :: l = stA e ++ (stAL r' ++ mk3 ⟨#[125]⟩ :: l) := by simp [stAL]
    rw [e3, bind_ok (show isNextP ⟨#[125]⟩ (stA e ++ (stAL r' ++ mk3 ⟨#[125]⟩ :: l)) = .ok false (stA e ++ (stAL r' ++ mk3 ⟨#[125]⟩ :: l)) by
     rw [e1]; simp [isNextP, nm, e2])]
    show bind _ _ _ = _
    have ho : Off [⟨#[101, 108, 115, 101]⟩] (stAL r' ++ mk3 ⟨#[125]⟩ :: l) := by
     cases r' with
     | nil => exact off_cons (by simp [mk3])
     | cons u v =>
      have : stAL (u :: v) ++ mk3 ⟨#[125]⟩ :: l = stA u ++ (stAL v ++ mk3 ⟨#[125]⟩ :: l) := by simp [stAL]
      rw [this]
      exact Off.st (h u (by simp)) _
    rw [bind_ok (hr e (by simp) r (hd e (by simp)) _ ho)]
    rfl
theorem block_read {b : Nat} {ks : List Ast} (h : ∀ z ∈ ks, StA z) (hr : ∀ z ∈ ks, StR z) (r : Nat) (hd : 1 + nA (.mk 6 b none0 0 ks) ≤ r) (l : List PT) : blockP r (blA (.mk 6 b none0 0 ks) ++ l) = .ok (zA (.mk 6 b none0 0 ks)) l := by
 obtain ⟨r, rfl⟩ : ∃ q, r = q + 1 := ⟨r - 1, by omega⟩
 show blockOf (r + 1) (stmtP r (blockP r)) _ = _
 have e : blA (.mk 6 b none0 0 ks) ++ l = mk3 ⟨#[123]⟩ :: (stAL ks ++ mk3 ⟨#[125]⟩ :: l) := by simp [blA]
 rw [e]
 unfold blockOf
 rw [bind_ok (show enterP ⟨#[123]⟩ (r + 1) (mk3 ⟨#[123]⟩ :: (stAL ks ++ mk3 ⟨#[125]⟩ :: l)) = .ok 0 (stAL ks ++ mk3 ⟨#[125]⟩ :: l) by simp [enterP, mk3])]
 have hz : ∀ z ∈ ks, nA z ≤ r := fun z hz => by
  have h1 := nAL_mem hz
  have h2 : nA (.mk 6 b none0 0 ks) = nAL ks := nA_no rfl
  omega
 rw [bind_ok (stmts_read r ks h hr hz [] l), exp_mk]
 rfl
theorem block_step {β : Type} {b : Nat} {ks : List Ast} (h : ∀ z ∈ ks, StA z) (hr : ∀ z ∈ ks, StR z) (r : Nat) (hd : 1 + nA (.mk 6 b none0 0 ks) ≤ r) (l : List PT) (g : Ast → Par β) : bind (blockP r) g (blA (.mk 6 b none0 0 ks) ++ l) = g (zA (.mk 6 b none0 0 ks)) l := by
 rw [bind_ok (block_read h hr r hd l)]
end
section
open Par Tr
theorem bound_in {k : Int} {a : Nat} {s : ByteArray} {n : Int} {ks : List Ast} {r : Nat} (h : nA (.mk k a s n ks) ≤ r) (hk : isExprK k = false) {x : Ast} (hx : x ∈ ks) : ownB x.kind + nA x ≤ r := by rw [nA_no hk] at h; exact Nat.le_trans (nAL_mem hx) h
section
variable {k : Int} {a : Nat} {s : ByteArray} {n : Int} {ks : List Ast} {r : Nat}
theorem bound_ex (h : nA (.mk k a s n ks) ≤ r) {x : Ast} (hx : x ∈ ks) (hk : isExprK k = false := by rfl) : nA x ≤ r := by have := bound_in h hk hx; omega
theorem bound_rw (h : nA (.mk k a s n ks) ≤ r) {x : Ast} (hx : x ∈ ks) (hr : RwA x) (hk : isExprK k = false := by rfl) : 1 + nA x ≤ r := by have := bound_in h hk hx; rw [own_row hr] at this; exact this
theorem bound_bl (h : nA (.mk k a s n ks) ≤ r) {b : Nat} {l : List Ast} (hx : (.mk 6 b none0 0 l) ∈ ks) (hk : isExprK k = false := by rfl) : 1 + nA (.mk 6 b none0 0 l) ≤ r := by have := bound_in h hk hx; rw [own_block] at this; exact this
end
theorem sr_read (a : Nat) (t : ByteArray) (n : Int) (x y : Ast) (hn : n = 0 ∨ n = 1) (hx : RwA x) (hy : Wd y) : StR (.mk 7 a t n [x, y]) := fun r hr l _ => by
 have b0 := bound_rw hr (x := x) (by simp) hx
 rcases hn with rfl | rfl
 · have e : stA (.mk 7 a t 0 [x, y]) ++ l = nm ⟨#[114, 101, 97, 100]⟩ :: nm t :: mk3 ⟨#[61]⟩ :: (exK x ++ mk3 ⟨#[46]⟩ :: (exK y ++ mk3 ⟨#[59]⟩ :: l)) := by simp [stA, stK]
   rw [e, stmt_head r _ 0 _ (by decide) (by omega)]
   show readP r 0 _ = _
   unfold readP
   rw [take_nm, exp_mk, cell_step hx hy r b0, skip_off (off_cons (by simp [mk3]))]
   exact end_step _
 · have e : stA (.mk 7 a t 1 [x, y]) ++ l = nm ⟨#[114, 101, 97, 100]⟩ :: nm t :: mk3 ⟨#[61]⟩ :: (exK x ++ mk3 ⟨#[46]⟩ :: (exK y ++ nm ⟨#[102, 111, 114]⟩ :: nm ⟨#[117, 112, 100, 97, 116, 101]⟩ :: mk3 ⟨#[59]⟩ :: l)) := by simp [stA, stK]
   rw [e, stmt_head r _ 0 _ (by decide) (by omega)]
   show readP r 0 _ = _
   unfold readP
   rw [take_nm, exp_mk, cell_step hx hy r b0, skip_nm]
   show bind _ _ _ = _
   rw [exp_nm]
   exact end_step _
theorem sr_set (a : Nat) (x y v : Ast) (hx : RwA x) (hy : Wd y) (hv : Ex v) : StR (.mk 8 a none0 0 [x, y, v]) := fun r hr l _ => by
 have b0 := bound_rw hr (x := x) (by simp) hx
 have b1 := bound_ex hr (x := v) (by simp)
 have e : stA (.mk 8 a none0 0 [x, y, v]) ++ l = nm ⟨#[115, 101, 116]⟩ :: (exK x ++ mk3 ⟨#[46]⟩ :: (exK y ++ mk3 ⟨#[61]⟩ :: (exK v ++ mk3 ⟨#[59]⟩ :: l))) := by simp [stA, stK]
 rw [e, stmt_head r _ 1 _ (by decide) (by omega)]
 show setP r 0 _ = _
 unfold setP
 rw [cell_step hx hy r b0, exp_mk, expr_step hv r b1 (off_cons (by simp [mk3]))]
 exact end_step _
theorem flat_map_map (es : List Ast) : ((es.map exK).map (fun u => mk3 ⟨#[44]⟩ :: u)).flatten = (es.map (fun u => mk3 ⟨#[44]⟩ :: exK u)).flatten := by rw [List.map_map]; rfl
theorem sr_put (a : Nat) (x v : Ast) (es : List Ast) (hx : RwA x) (hv : Ex v) (hs : ∀ z ∈ es, Ex z) : StR (.mk 9 a none0 0 (x :: v :: es)) := fun r hr l _ => by
 have b0 := bound_rw hr (x := x) (by simp) hx
 have b1 := bound_ex hr (x := v) (by simp)
 have b2 : ∀ z ∈ es, nA z ≤ r := fun z hz => bound_ex hr (by simp [hz])
 have e : stA (.mk 9 a none0 0 (x :: v :: es)) ++ l = nm ⟨#[112, 117, 116]⟩ :: (exK x ++ mk3 ⟨#[40]⟩ :: (exK v ++ ((es.map (fun u => mk3 ⟨#[44]⟩ :: exK u)).flatten ++ mk3 ⟨#[41]⟩ :: mk3 ⟨#[59]⟩ :: l))) := by
  rw [← flat_map_map]
  simp [stA, stK, joinK]
 rw [e, stmt_head r _ 2 _ (by decide) (by omega)]
 show putP r 0 _ = _
 unfold putP
 have ho : Off [⟨#[42]⟩, ⟨#[43]⟩, ⟨#[45]⟩] ((es.map (fun u => mk3 ⟨#[44]⟩ :: exK u)).flatten ++ mk3 ⟨#[41]⟩ :: mk3 ⟨#[59]⟩ :: l) := by
  cases es with
  | nil => exact off_cons (by simp [mk3])
  | cons u q => exact off_cons (by simp [mk3])
 rw [row_step hx r b0, exp_mk, expr_step hv r b1 ho, bind_ok (puts_read r es hs b2 [zA x, zA v] _), exp_mk]
 exact end_step _
theorem sr_delete (a : Nat) (x : Ast) (hx : RwA x) : StR (.mk 10 a none0 0 [x]) := fun r hr l _ => by
 have b0 := bound_rw hr (x := x) (by simp) hx
 have e : stA (.mk 10 a none0 0 [x]) ++ l = nm ⟨#[100, 101, 108, 101, 116, 101]⟩ :: (exK x ++ mk3 ⟨#[59]⟩ :: l) := by simp [stA, stK]
 rw [e, stmt_head r _ 3 _ (by decide) (by omega)]
 show deleteP r 0 _ = _
 unfold deleteP
 rw [row_step hx r b0]
 exact end_step _
theorem sr_scan (a : Nat) (t : ByteArray) (x y : Ast) (hx : Wd x) (hy : Wd y) : StR (.mk 11 a t 0 [x, y]) := fun r hr l _ => by
 have e : stA (.mk 11 a t 0 [x, y]) ++ l = nm ⟨#[115, 99, 97, 110]⟩ :: nm t :: mk3 ⟨#[61]⟩ :: (exK x ++ mk3 ⟨#[46]⟩ :: (exK y ++ mk3 ⟨#[59]⟩ :: l)) := by simp [stA, stK]
 rw [e, stmt_head r _ 4 _ (by decide) (by omega)]
 show scanP 0 _ = _
 unfold scanP
 rw [take_nm, exp_mk, word_step hx, exp_mk, word_step hy]
 exact end_step _
theorem sr_lock (a : Nat) (n : Int) (x : Ast) (hn : n = 0 ∨ n = 1) (hx : Wd x) : StR (.mk 12 a none0 n [x]) := fun r hr l _ => by
 rcases hn with rfl | rfl
 · have e : stA (.mk 12 a none0 0 [x]) ++ l = nm ⟨#[108, 111, 99, 107]⟩ :: (exK x ++ nm ⟨#[115, 104, 97, 114, 101, 100]⟩ :: mk3 ⟨#[59]⟩ :: l) := by simp [stA, stK]
   rw [e, stmt_head r _ 5 _ (by decide) (by omega)]
   show lockP 0 _ = _
   unfold lockP
   rw [word_step hx, skip_off (off_cons (by simp [nm]))]
   show bind _ _ _ = _
   rw [exp_nm]
   exact end_step _
 · have e : stA (.mk 12 a none0 1 [x]) ++ l = nm ⟨#[108, 111, 99, 107]⟩ :: (exK x ++ nm ⟨#[97, 108, 108]⟩ :: mk3 ⟨#[59]⟩ :: l) := by simp [stA, stK]
   rw [e, stmt_head r _ 5 _ (by decide) (by omega)]
   show lockP 0 _ = _
   unfold lockP
   rw [word_step hx, skip_nm]
   exact end_step _
theorem sr_rel5 (a : Nat) (x : Ast) (hx : Wd x) : StR (.mk 13 a none0 0 [x]) := fun r hr l _ => by
 cases hx with
 | mk p s =>
  have e : stA (.mk 13 a none0 0 [.mk 5 p s 0 []]) ++ l = nm ⟨#[114, 101, 108, 101, 97, 115, 101]⟩ :: nm s :: mk3 ⟨#[59]⟩ :: l := by simp [stA, stK, exK, nodeK]
  rw [e, stmt_head r _ 6 _ (by decide) (by omega)]
  show releaseP r 0 _ = _
  unfold releaseP
  rw [take_nm, bind_ok (show isNextP ⟨#[91]⟩ (mk3 ⟨#[59]⟩ :: l) = .ok false (mk3 ⟨#[59]⟩ :: l) by simp [isNextP, mk3])]
  exact end_step _
theorem sr_rel20 (a : Nat) (x : Ast) (hx : RwA x) : StR (.mk 13 a none0 0 [x]) := fun r hr l _ => by
 have b0 := bound_rw hr (x := x) (by simp) hx
 cases hx with
 | mk p s v hv =>
  have e : stA (.mk 13 a none0 0 [.mk 20 p s 0 [v]]) ++ l = nm ⟨#[114, 101, 108, 101, 97, 115, 101]⟩ :: nm s :: mk3 ⟨#[91]⟩ :: (exK v ++ mk3 ⟨#[93]⟩ :: mk3 ⟨#[59]⟩ :: l) := by
   have hb : br 20 false v.kind = false := by unfold br; split <;> (try split) <;> rfl
   simp [stA, stK, exK, nodeK, exKL, hb, bT]
  rw [e, stmt_head r _ 6 _ (by decide) (by omega)]
  show releaseP r 0 _ = _
  unfold releaseP
  rw [take_nm, bind_ok (show isNextP ⟨#[91]⟩ (mk3 ⟨#[91]⟩ :: (exK v ++ mk3 ⟨#[93]⟩ :: mk3 ⟨#[59]⟩ :: l)) = .ok true (mk3 ⟨#[91]⟩ :: (exK v ++ mk3 ⟨#[93]⟩ :: mk3 ⟨#[59]⟩ :: l)) by simp [isNextP, mk3])]
  show bind _ _ _ = _
  rw [rowOf_step (a := p) hv r b0]
  exact end_step _
theorem sr_if3 (a : Nat) (n : Int) (x y : Ast) (b : Nat) (ks : List Ast) (hn : n = 0 ∨ n = 1) (hx : Ex x) (hy : Ex y) (hk : ∀ z ∈ ks, StA z) (ih : ∀ z ∈ ks, StR z) : StR (.mk 14 a none0 n [x, y, .mk 6 b none0 0 ks]) := fun r hr l hl => by
 have b0 := bound_ex hr (x := x) (by simp)
 have b1 := bound_ex hr (x := y) (by simp)
 have b2 := bound_bl hr (b := b) (l := ks) (by simp)
 have ho : Off [⟨#[42]⟩, ⟨#[43]⟩, ⟨#[45]⟩] (blA (.mk 6 b none0 0 ks) ++ l) := off_cons (by simp [mk3])
 have e : stA (.mk 14 a none0 n [x, y, .mk 6 b none0 0 ks]) ++ l = nm ⟨#[105, 102]⟩ :: (exK x ++ mk3 (if n = 1 then ⟨#[61, 61]⟩ else ⟨#[60]⟩) :: (exK y ++ (blA (.mk 6 b none0 0 ks) ++ l))) := by simp [stA, stK, blAL]
 rw [e, stmt_head r _ 7 _ (by decide) (by omega)]
 show ifP r (blockP r) 0 _ = _
 unfold ifP
 rcases hn with rfl | rfl
 · rw [if_neg (by decide), expr_step hx r b0 (off_cons (by simp [mk3])), skip_off (off_cons (by simp [mk3]))]
   show bind _ _ _ = _
   rw [exp_mk, expr_step hy r b1 ho]
   unfold ifTail
   rw [block_step hk ih r b2, skip_off hl]
   rfl
 · rw [if_pos rfl, expr_step hx r b0 (off_cons (by simp [mk3])), skip_mk]
   show bind _ _ _ = _
   rw [expr_step hy r b1 ho]
   unfold ifTail
   rw [block_step hk ih r b2, skip_off hl]
   rfl
theorem sr_if4 (a : Nat) (n : Int) (x y : Ast) (b : Nat) (ks : List Ast) (c : Nat) (ls : List Ast) (hn : n = 0 ∨ n = 1) (hx : Ex x) (hy : Ex y) (hk : ∀ z ∈ ks, StA z) (hl : ∀ z ∈ ls, StA z) (ih : ∀ z ∈ ks, StR z) (ih2 : ∀ z ∈ ls, StR z) : StR (.mk 14 a none0 n [x, y, .mk 6 b none0 0 ks, .mk 6 c none0 0 ls]) := fun r hr l _ => by
 have b0 := bound_ex hr (x := x) (by simp)
 have b1 := bound_ex hr (x := y) (by simp)
 have b2 := bound_bl hr (b := b) (l := ks) (by simp)
 have b3 := bound_bl hr (b := c) (l := ls) (by simp)
 have ho : Off [⟨#[42]⟩, ⟨#[43]⟩, ⟨#[45]⟩] (blA (.mk 6 b none0 0 ks) ++ nm ⟨#[101, 108, 115, 101]⟩ :: (blA (.mk 6 c none0 0 ls) ++ l)) := off_cons (by simp [mk3])
 have e : stA (.mk 14 a none0 n [x, y, .mk 6 b none0 0 ks, .mk 6 c none0 0 ls]) ++ l = nm ⟨#[105, 102]⟩ :: (exK x ++ mk3 (if n = 1 then ⟨#[61, 61]⟩ else ⟨#[60]⟩) :: (exK y ++ (blA (.mk 6 b none0 0 ks) ++ nm ⟨#[101, 108, 115, 101]⟩ :: (blA (.mk 6 c none0 0 ls) ++ l)))) := by simp [stA, stK, blAL]
 rw [e, stmt_head r _ 7 _ (by decide) (by omega)]
 show ifP r (blockP r) 0 _ = _
 unfold ifP
 rcases hn with rfl | rfl
 · rw [if_neg (by decide), expr_step hx r b0 (off_cons (by simp [mk3])), skip_off (off_cons (by simp [mk3]))]
   show bind _ _ _ = _
   rw [exp_mk, expr_step hy r b1 ho]
   unfold ifTail
   rw [block_step hk ih r b2, skip_nm]
   show bind _ _ _ = _
   rw [block_step hl ih2 r b3]
   rfl
 · rw [if_pos rfl, expr_step hx r b0 (off_cons (by simp [mk3])), skip_mk]
   show bind _ _ _ = _
   rw [expr_step hy r b1 ho]
   unfold ifTail
   rw [block_step hk ih r b2, skip_nm]
   show bind _ _ _ = _
   rw [block_step hl ih2 r b3]
   rfl
theorem sr_for (a : Nat) (t : ByteArray) (p q : Nat) (n m : Int) (b : Nat) (ks : List Ast) (hk : ∀ z ∈ ks, StA z) (ih : ∀ z ∈ ks, StR z) : StR (.mk 15 a t 0 [.mk 21 p none0 n [], .mk 21 q none0 m [], .mk 6 b none0 0 ks]) := fun r hr l _ => by
 have b2 := bound_bl hr (b := b) (l := ks) (by simp)
 have e : stA (.mk 15 a t 0 [.mk 21 p none0 n [], .mk 21 q none0 m [], .mk 6 b none0 0 ks]) ++ l = nm ⟨#[102, 111, 114]⟩ :: nm t :: mk3 ⟨#[61]⟩ :: (exK (.mk 21 p none0 n []) ++ nm ⟨#[116, 111]⟩ :: (exK (.mk 21 q none0 m []) ++ (blA (.mk 6 b none0 0 ks) ++ l))) := by simp [stA, stK, blAL]
 rw [e, stmt_head r _ 8 _ (by decide) (by omega)]
 show forP (blockP r) 0 _ = _
 unfold forP
 rw [take_nm, exp_mk, num_step, exp_nm, num_step, block_step hk ih r b2]
 rfl
theorem sr_let (a : Nat) (t : ByteArray) (v : Ast) (hv : Ex v) : StR (.mk 16 a t 0 [v]) := fun r hr l _ => by
 have b1 := bound_ex hr (x := v) (by simp)
 have e : stA (.mk 16 a t 0 [v]) ++ l = nm ⟨#[108, 101, 116]⟩ :: nm t :: mk3 ⟨#[61]⟩ :: (exK v ++ mk3 ⟨#[59]⟩ :: l) := by simp [stA, stK]
 rw [e, stmt_head r _ 9 _ (by decide) (by omega)]
 show letP r 0 _ = _
 unfold letP
 rw [take_nm, exp_mk, expr_step hv r b1 (off_cons (by simp [mk3]))]
 exact end_step _
theorem sr_emit (a : Nat) (v : Ast) (hv : Ex v) : StR (.mk 17 a none0 0 [v]) := fun r hr l _ => by
 have b1 := bound_ex hr (x := v) (by simp)
 have e : stA (.mk 17 a none0 0 [v]) ++ l = nm ⟨#[101, 109, 105, 116]⟩ :: (exK v ++ mk3 ⟨#[59]⟩ :: l) := by simp [stA, stK]
 rw [e, stmt_head r _ 10 _ (by decide) (by omega)]
 show emitP r 0 _ = _
 unfold emitP
 rw [expr_step hv r b1 (off_cons (by simp [mk3]))]
 exact end_step _
theorem sr_rollback (a : Nat) : StR (.mk 18 a none0 0 []) := fun r _ l _ => by
 have e : stA (.mk 18 a none0 0 []) ++ l = nm ⟨#[114, 111, 108, 108, 98, 97, 99, 107]⟩ :: mk3 ⟨#[59]⟩ :: l := rfl
 rw [e, stmt_head r _ 11 _ (by decide) (by omega)]
 exact end_step _
theorem sr_chop (a : Nat) : StR (.mk 19 a none0 0 []) := fun r _ l _ => by
 have e : stA (.mk 19 a none0 0 []) ++ l = nm ⟨#[99, 104, 111, 112]⟩ :: mk3 ⟨#[59]⟩ :: l := rfl
 rw [e, stmt_head r _ 12 _ (by decide) (by omega)]
 exact end_step _
theorem st_read {x : Ast} (h : StA x) : StR x := by
 induction h with
 | read a t n x y hn hx hy => exact sr_read a t n x y hn hx hy
 | set a x y v hx hy hv => exact sr_set a x y v hx hy hv
 | put a x v es hx hv hs => exact sr_put a x v es hx hv hs
 | delete a x hx => exact sr_delete a x hx
 | scan a t x y hx hy => exact sr_scan a t x y hx hy
 | lock a n x hn hx => exact sr_lock a n x hn hx
 | rel5 a x hx => exact sr_rel5 a x hx
 | rel20 a x hx => exact sr_rel20 a x hx
 | if3 a n x y b ks hn hx hy hk ih => exact sr_if3 a n x y b ks hn hx hy hk ih
 | if4 a n x y b ks c ls hn hx hy hk hl ih ih2 => exact sr_if4 a n x y b ks c ls hn hx hy hk hl ih ih2
 | for_ a t p q n m b ks hk ih => exact sr_for a t p q n m b ks hk ih
 | let_ a t v hv => exact sr_let a t v hv
 | emit a v hv => exact sr_emit a v hv
 | rollback a => exact sr_rollback a
 | chop a => exact sr_chop a
end
section
open Par Tr
def WdN (x : Ast) : Prop := Wd x ∧ ∃ p s, x = .mk 5 p s 0 [] ∧ s ≠ ⟨#[41]⟩
inductive Pt : Ast → Prop
 | table (a : Nat) (t : ByteArray) (w : Ast) (ws : List Ast) (hw : Wd w) (h : ∀ z ∈ ws, Wd z) : Pt (.mk 2 a t 0 (w :: ws))
 | proc (a : Nat) (t : ByteArray) (n : Int) (hn : n = 0 ∨ n = 1) (b : Nat) (ns : List Ast) (c : Nat) (ks : List Ast) (hw : ∀ z ∈ ns, WdN z) (hk : ∀ z ∈ ks, StA z) : Pt (.mk 3 a t n [.mk 4 b none0 0 ns, .mk 6 c none0 0 ks])
def partA : Ast → List PT
 | .mk k _ t n ks => if k = 2 then nm ⟨#[116, 97, 98, 108, 101]⟩ :: nm t :: mk3 ⟨#[40]⟩ :: (joinK (ks.map exK) ++ [mk3 ⟨#[41]⟩, mk3 ⟨#[59]⟩])
  else match ks with
   | [a, b] => nm ⟨#[112, 114, 111, 99]⟩ :: nm t :: mk3 ⟨#[40]⟩ :: (joinK (a.kids.map exK) ++ mk3 ⟨#[41]⟩ :: ((if n = 1 then [nm ⟨#[115, 105, 110, 103, 108, 101]⟩] else []) ++ blA b))
   | _ => []
def progA : List Ast → List PT
 | [] => []
 | x :: r => partA x ++ progA r
def enT : PT := ⟨4, 0, none0, 0⟩
theorem words_tail : ∀ (es : List Ast), (∀ z ∈ es, Wd z) → ∀ (acc : List Ast) (l : List PT), many wordsStep acc ((es.map (fun u => mk3 ⟨#[44]⟩ :: exK u)).flatten ++ mk3 ⟨#[41]⟩ :: l) = .ok (acc ++ zL es) (mk3 ⟨#[41]⟩ :: l)
 | [], _, acc, l => by
  refine (many_done (l' := mk3 ⟨#[41]⟩ :: l) ?_).trans (by simp [zL])
  show bind _ _ _ = _
  rw [List.map_nil, List.flatten_nil, List.nil_append, skip_off (off_cons (by simp [mk3]))]
  rfl
 | e :: r', h, acc, l => by
  rw [many_more step_words (b := acc ++ [zA e]) (l' := (r'.map (fun u => mk3 ⟨#[44]⟩ :: exK u)).flatten ++ mk3 ⟨#[41]⟩ :: l)]
  · rw [words_tail r' (fun z hz => h z (by simp [hz]))]
    simp [zL]
  · show bind _ _ _ = _
    rw [List.map_cons, List.flatten_cons, List.append_assoc, List.cons_append, skip_mk]
    show bind _ _ _ = _
    rw [word_step (h e (by simp))]
    rfl
theorem words_read {β : Type} (w : Ast) (ws : List Ast) (hw : Wd w) (h : ∀ z ∈ ws, Wd z) (l : List PT) (g : List Ast → Par β) : bind wordsP g (joinK ((w :: ws).map exK) ++ mk3 ⟨#[41]⟩ :: l) = g (zL (w :: ws)) (mk3 ⟨#[41]⟩ :: l) := by
 have e : joinK ((w :: ws).map exK) ++ mk3 ⟨#[41]⟩ :: l = exK w ++ ((ws.map (fun u => mk3 ⟨#[44]⟩ :: exK u)).flatten ++ mk3 ⟨#[41]⟩ :: l) := by
  rw [← flat_map_map]
  simp [joinK]
 rw [e]
 unfold wordsP
 rw [bind_assoc, word_step hw, bind_ok (words_tail ws h [zA w] l)]
 rfl
theorem names_read {β : Type} (b : Nat) (ns : List Ast) (h : ∀ z ∈ ns, WdN z) (l : List PT) (g : Ast → Par β) : bind namesP g (joinK (ns.map exK) ++ mk3 ⟨#[41]⟩ :: l) = g (zA (.mk 4 b none0 0 ns)) (mk3 ⟨#[41]⟩ :: l) := by
 unfold namesP
 cases ns with
 | nil =>
  show bind _ _ (mk3 ⟨#[41]⟩ :: l) = _
  rw [bind_assoc, bind_ok (show peekP (mk3 ⟨#[41]⟩ :: l) = .ok (mk3 ⟨#[41]⟩) (mk3 ⟨#[41]⟩ :: l) from rfl), bind_assoc]
  rw [bind_ok (show isNextP ⟨#[41]⟩ (mk3 ⟨#[41]⟩ :: l) = .ok true (mk3 ⟨#[41]⟩ :: l) by simp [isNextP, mk3])]
  rfl
 | cons w ws =>
  obtain ⟨hw, p, s, e, hs⟩ := h w (by simp)
  have e2 : joinK ((w :: ws).map exK) ++ mk3 ⟨#[41]⟩ :: l = nm s :: (((ws.map exK).map (fun u => mk3 ⟨#[44]⟩ :: u)).flatten ++ mk3 ⟨#[41]⟩ :: l) := by
   rw [e]; simp [joinK, exK, nodeK]
  rw [bind_assoc, bind_ok (show peekP (joinK ((w :: ws).map exK) ++ mk3 ⟨#[41]⟩ :: l) = .ok (nm s) (joinK ((w :: ws).map exK) ++ mk3 ⟨#[41]⟩ :: l) by rw [e2]; rfl), bind_assoc]
  rw [bind_ok (show isNextP ⟨#[41]⟩ (joinK ((w :: ws).map exK) ++ mk3 ⟨#[41]⟩ :: l) = .ok false (joinK ((w :: ws).map exK) ++ mk3 ⟨#[41]⟩ :: l) by rw [e2]; simp [isNextP, nm, hs])]
  show bind (bind _ _) _ _ = _
  rw [bind_assoc, words_read w ws hw (fun z hz => (h z (by simp [hz])).1)]
  rfl
theorem table_read (a : Nat) (t : ByteArray) (w : Ast) (ws : List Ast) (hw : Wd w) (h : ∀ z ∈ ws, Wd z) (l : List PT) : tableP (partA (.mk 2 a t 0 (w :: ws)) ++ l) = .ok (zA (.mk 2 a t 0 (w :: ws))) l := by
 have e : partA (.mk 2 a t 0 (w :: ws)) ++ l = nm ⟨#[116, 97, 98, 108, 101]⟩ :: nm t :: mk3 ⟨#[40]⟩ :: (joinK ((w :: ws).map exK) ++ mk3 ⟨#[41]⟩ :: mk3 ⟨#[59]⟩ :: l) := by simp [partA]
 rw [e]
 unfold tableP
 rw [exp_nm, take_nm, exp_mk, words_read w ws hw h, exp_mk]
 exact end_step _
theorem proc_read (a : Nat) (t : ByteArray) (n : Int) (hn : n = 0 ∨ n = 1) (b : Nat) (ns : List Ast) (c : Nat) (ks : List Ast) (hw : ∀ z ∈ ns, WdN z) (hk : ∀ z ∈ ks, StA z) (hd : 1 + nA (.mk 6 c none0 0 ks) ≤ 64) (l : List PT) : procP (partA (.mk 3 a t n [.mk 4 b none0 0 ns, .mk 6 c none0 0 ks]) ++ l) = .ok (zA (.mk 3 a t n [.mk 4 b none0 0 ns, .mk 6 c none0 0 ks])) l := by
 have hs : ∀ z ∈ ks, StR z := fun z hz => st_read (hk z hz)
 rcases hn with rfl | rfl
 · have e : partA (.mk 3 a t 0 [.mk 4 b none0 0 ns, .mk 6 c none0 0 ks]) ++ l = nm ⟨#[112, 114, 111, 99]⟩ :: nm t :: mk3 ⟨#[40]⟩ :: (joinK (ns.map exK) ++ mk3 ⟨#[41]⟩ :: (blA (.mk 6 c none0 0 ks) ++ l)) := by simp [partA, Ast.kids]
   rw [e]
   unfold procP
   have ho : Off [⟨#[115, 105, 110, 103, 108, 101]⟩] (blA (.mk 6 c none0 0 ks) ++ l) := off_cons (t := mk3 ⟨#[123]⟩) (by simp [mk3])
   rw [exp_nm, take_nm, exp_mk, names_read b ns hw, exp_mk, skip_off ho]
   show bind _ _ _ = _
   rw [block_step hk hs 64 hd]
   rfl
 · have e : partA (.mk 3 a t 1 [.mk 4 b none0 0 ns, .mk 6 c none0 0 ks]) ++ l = nm ⟨#[112, 114, 111, 99]⟩ :: nm t :: mk3 ⟨#[40]⟩ :: (joinK (ns.map exK) ++ mk3 ⟨#[41]⟩ :: nm ⟨#[115, 105, 110, 103, 108, 101]⟩ :: (blA (.mk 6 c none0 0 ks) ++ l)) := by simp [partA, Ast.kids]
   rw [e]
   unfold procP
   rw [exp_nm, take_nm, exp_mk, names_read b ns hw, exp_mk, skip_nm]
   show bind _ _ _ = _
   rw [block_step hk hs 64 hd]
   rfl
def deepPt (x : Ast) : Prop := ∀ y ∈ x.kids, ownB y.kind + nA y ≤ 64
theorem parts_read : ∀ (ks : List Ast), (∀ z ∈ ks, Pt z) → (∀ z ∈ ks, deepPt z) → ∀ acc, many progStep acc (progA ks ++ [enT]) = .ok (acc ++ zL ks) [enT]
 | [], _, _, acc => by
  refine (many_done (l' := [enT]) ?_).trans (by simp [zL])
  rfl
 | x :: r, h, hd, acc => by
  rw [many_more step_prog (b := acc ++ [zA x]) (l' := progA r ++ [enT])]
  · rw [parts_read r (fun z hz => h z (by simp [hz])) (fun z hz => hd z (by simp [hz]))]
    simp [zL]
  · have e3 : progA (x :: r) ++ [enT] = partA x ++ (progA r ++ [enT]) := by simp [progA]
    rw [e3]
    have hx := h x (by simp)
    have hdx := hd x (by simp)
    show bind _ _ _ = _
    cases hx with
    | table a t w ws hw hws =>
     have e1 : partA (.mk 2 a t 0 (w :: ws)) ++ (progA r ++ [enT]) = nm ⟨#[116, 97, 98, 108, 101]⟩ :: (nm t :: mk3 ⟨#[40]⟩ :: (joinK ((w :: ws).map exK) ++ mk3 ⟨#[41]⟩ :: mk3 ⟨#[59]⟩ :: (progA r ++ [enT]))) := by simp [partA]
     rw [bind_ok (show peekP (partA (.mk 2 a t 0 (w :: ws)) ++ (progA r ++ [enT])) = .ok (nm ⟨#[116, 97, 98, 108, 101]⟩) (partA (.mk 2 a t 0 (w :: ws)) ++ (progA r ++ [enT])) by rw [e1]; rfl)]
     rw [if_neg (by decide), bind_ok (show isNextP ⟨#[116, 97, 98, 108, 101]⟩ (partA (.mk 2 a t 0 (w :: ws)) ++ (progA r ++ [enT])) = .ok true (partA (.mk 2 a t 0 (w :: ws)) ++ (progA r ++ [enT])) by rw [e1]; simp [isNextP, nm])]
     show bind _ _ _ = _
     rw [bind_ok (table_read a t w ws hw hws _)]
     rfl
    | proc a t n hn b ns c ks hw hk =>
     have e1 : ∃ q, partA (.mk 3 a t n [.mk 4 b none0 0 ns, .mk 6 c none0 0 ks]) ++ (progA r ++ [enT]) = nm ⟨#[112, 114, 111, 99]⟩ :: q := ⟨_, rfl⟩
     obtain ⟨q, e1⟩ := e1
     have hb : 1 + nA (.mk 6 c none0 0 ks) ≤ 64 := by
      have := hdx (.mk 6 c none0 0 ks) (by simp [Ast.kids])
      rw [own_block] at this
      exact this
     rw [bind_ok (show peekP (partA (.mk 3 a t n [.mk 4 b none0 0 ns, .mk 6 c none0 0 ks]) ++ (progA r ++ [enT])) = .ok (nm ⟨#[112, 114, 111, 99]⟩) (partA (.mk 3 a t n [.mk 4 b none0 0 ns, .mk 6 c none0 0 ks]) ++ (progA r ++ [enT])) by rw [e1]; rfl)]
     rw [if_neg (by decide), bind_ok (show isNextP ⟨#[116, 97, 98, 108, 101]⟩ (partA (.mk 3 a t n [.mk 4 b none0 0 ns, .mk 6 c none0 0 ks]) ++ (progA r ++ [enT])) = .ok false (partA (.mk 3 a t n [.mk 4 b none0 0 ns, .mk 6 c none0 0 ks]) ++ (progA r ++ [enT])) by rw [e1]; simp [isNextP, nm])]
     show bind _ _ _ = _
     rw [bind_ok (proc_read a t n hn b ns c ks hw hk hb _)]
     rfl
theorem prog_read (ks : List Ast) (h : ∀ z ∈ ks, Pt z) (hd : ∀ z ∈ ks, deepPt z) : programP (progA ks ++ [enT]) = .ok (.mk 1 0 none0 0 (zL ks)) [enT] := by
 unfold programP
 have : ∃ t q, progA ks ++ [enT] = t :: q ∧ t.at' = 0 := by
  cases ks with
  | nil => exact ⟨enT, [], rfl, rfl⟩
  | cons x r =>
   have hx := h x (by simp)
   cases hx with
   | table a t w ws hw h => exact ⟨_, _, rfl, rfl⟩
   | proc a t n hn b ns c ks hw hk => exact ⟨_, _, rfl, rfl⟩
 obtain ⟨t, q, e, h0⟩ := this
 rw [bind_ok (show peekP (progA ks ++ [enT]) = .ok t (progA ks ++ [enT]) by rw [e]; rfl), bind_ok (parts_read ks h hd [])]
 show Res.ok (nodeA 1 t.at' (zL ks)) _ = _
 rw [h0]
 rfl
-- from right trees
theorem wd_of {x : Ast} (h : wfR x) (hk : x.kind = 5) : Wd x := by
 cases x with
 | mk k a s n ks =>
  obtain rfl : k = 5 := hk
  have hp := h.parts
  have h0 : ks = [] := shape0 (by simpa [kidsR] using hp.2.2.2)
  rw [h0, h.plain.2 rfl]
  exact .mk a s
theorem name_ne {a : Nat} {s : ByteArray} {n : Int} {ks : List Ast} (h : wfR (.mk 5 a s n ks)) : s ≠ ⟨#[41]⟩ := by
 intro e
 subst e
 have h1 := h.1.1
 simp only [nodeRW, Bool.and_eq_true, wordsR] at h1
 exact absurd h1.2.2.1.1 (by decide)
theorem wdN_of {x : Ast} (h : wfR x) (hk : x.kind = 5) : WdN x := by
 refine ⟨wd_of h hk, ?_⟩
 cases x with
 | mk k a s n ks =>
  obtain rfl : k = 5 := hk
  have hp := h.parts
  have h0 := shape0 (ks := ks) (by simpa [kidsR] using hp.2.2.2)
  have h1 := h.plain.2 rfl
  have h2 := name_ne h
  subst h0 h1
  exact ⟨a, s, rfl, h2⟩
theorem ex_wf {x : Ast} (h : wfR x) (hk : isExprK x.kind = true) : Ex x := ex_of x.size x (Nat.le_refl _) h hk
theorem rw_of {x : Ast} (h : wfR x) (hk : x.kind = 20) : RwA x := by
 cases x with
 | mk k a s n ks =>
  obtain rfl : k = 20 := hk
  have hp := h.parts
  obtain ⟨e, rfl, he⟩ := shape1 (ks := ks) (by simpa [kidsR] using hp.2.2.2)
  rw [h.plain.2 rfl]
  exact .mk a s e (ex_wf h.2.1 he)
theorem block_of_wf {x : Ast} (h : wfR x) (hk : x.kind = 6) : ∃ b ks, x = .mk 6 b none0 0 ks ∧ wfRL ks ∧ (∀ y ∈ ks, isStmtK y.kind = true) := by
 cases x with
 | mk k a s n ks =>
  obtain rfl : k = 6 := hk
  have hp := h.parts
  have h1 : (ks.map Ast.kind).all isStmtK = true := by simpa [kidsR] using hp.2.2.2
  rw [h.plain.1 rfl, h.plain.2 rfl]
  refine ⟨a, ks, rfl, h.2, fun y hy => ?_⟩
  exact (List.all_eq_true.1 h1) _ (List.mem_map_of_mem hy)
theorem num_of {x : Ast} (h : wfR x) (hk : x.kind = 21) : ∃ p n, x = .mk 21 p none0 n [] := by
 cases x with
 | mk k a s n ks =>
  obtain rfl : k = 21 := hk
  have hp := h.parts
  rw [shape0 (ks := ks) (by simpa [kidsR] using hp.2.2.2), h.plain.1 rfl]
  exact ⟨a, n, rfl⟩
theorem n01 {k : Int} {a : Nat} {s : ByteArray} {n : Int} {ks : List Ast} (h : wfR (.mk k a s n ks)) (hm : mostR k = 1) : n = 0 ∨ n = 1 := by
 have h1 := h.parts.2.1
 rw [hm] at h1
 omega
theorem st_of : ∀ (m : Nat) (x : Ast), x.size ≤ m → wfR x → isStmtK x.kind = true → StA x
 | 0, x, h, _, _ => absurd h (by have := ast_pos x; omega)
 | m + 1, .mk k a s n ks, h, hw, hk => by
  have hp := hw.parts
  have hq := hw.plain
  simp only [Ast.size] at h
  have IH : ∀ (b : Nat) (l : List Ast), (.mk 6 b none0 0 l) ∈ ks → wfRL l → (∀ y ∈ l, isStmtK y.kind = true) → ∀ y ∈ l, StA y := fun b l hb hl hs y hy => by
   have h1 := sizeL_mem hb
   have h2 := sizeL_mem hy
   simp only [Ast.size] at h1
   exact st_of m y (by omega) (wfRL_mem hl y hy) (hs y hy)
  have hkk : 7 ≤ k ∧ k ≤ 19 := by have h9 : isStmtK k = true := hk; simpa [isStmtK] using h9
  have hc : k = 7 ∨ k = 8 ∨ k = 9 ∨ k = 10 ∨ k = 11 ∨ k = 12 ∨ k = 13 ∨ k = 14 ∨ k = 15 ∨ k = 16 ∨ k = 17 ∨ k = 18 ∨ k = 19 := by omega
  rcases hc with rfl | rfl | rfl | rfl | rfl | rfl | rfl | rfl | rfl | rfl | rfl | rfl | rfl
  · obtain ⟨x, y, rfl, hx, hy⟩ := sh20_5 (ks := ks) (by simpa [kidsR] using hp.2.2.2)
    exact .read a s n x y (n01 hw rfl) (rw_of hw.2.1 hx) (wd_of hw.2.2.1 hy)
  · obtain ⟨x, y, z, rfl, hx, hy, hz⟩ := sh20_5_0 (ks := ks) (by simpa [kidsR] using hp.2.2.2)
    rw [hq.1 rfl, hq.2 rfl]
    exact .set a x y z (rw_of hw.2.1 hx) (wd_of hw.2.2.1 hy) (ex_wf hw.2.2.2.1 hz)
  · obtain ⟨x, xs, rfl, hx, hs, hl⟩ := sh9 hp.2.2.2
    rw [hq.1 rfl, hq.2 rfl]
    cases xs with
    | nil => simp at hl
    | cons v es => exact .put a x v es (rw_of hw.2.1 hx) (ex_wf hw.2.2.1 (hs v (by simp))) (fun z hz => ex_wf (wfRL_mem hw.2.2.2 z hz) (hs z (by simp [hz])))
  · obtain ⟨x, rfl, hx⟩ := sh20 (ks := ks) (by simpa [kidsR] using hp.2.2.2)
    rw [hq.1 rfl, hq.2 rfl]
    exact .delete a x (rw_of hw.2.1 hx)
  · obtain ⟨x, y, rfl, hx, hy⟩ := sh5_5 (ks := ks) (by simpa [kidsR] using hp.2.2.2)
    rw [hq.2 rfl]
    exact .scan a s x y (wd_of hw.2.1 hx) (wd_of hw.2.2.1 hy)
  · obtain ⟨x, rfl, hx⟩ := sh5 (ks := ks) (by simpa [kidsR] using hp.2.2.2)
    rw [hq.1 rfl]
    exact .lock a n x (n01 hw rfl) (wd_of hw.2.1 hx)
  · rw [hq.1 rfl, hq.2 rfl]
    rcases sh13 hp.2.2.2 with h13 | h13
    · obtain ⟨x, rfl, hx⟩ := sh5 h13
      exact .rel5 a x (wd_of hw.2.1 hx)
    · obtain ⟨x, rfl, hx⟩ := sh20 h13
      exact .rel20 a x (rw_of hw.2.1 hx)
  · rw [hq.1 rfl]
    rcases sh14 hp.2.2.2 with h14 | h14
    · obtain ⟨x, y, z, rfl, hx, hy, hz⟩ := sh0_0_6 h14
      obtain ⟨b, l, rfl, h1, h2⟩ := block_of_wf hw.2.2.2.1 hz
      exact .if3 a n x y b l (n01 hw rfl) (ex_wf hw.2.1 hx) (ex_wf hw.2.2.1 hy) (IH b l (by simp) h1 h2)
    · obtain ⟨x, y, z, u, rfl, hx, hy, hz, hu⟩ := sh0_0_6_6 h14
      obtain ⟨b, l, rfl, h1, h2⟩ := block_of_wf hw.2.2.2.1 hz
      obtain ⟨c, q, rfl, h3, h4⟩ := block_of_wf hw.2.2.2.2.1 hu
      exact .if4 a n x y b l c q (n01 hw rfl) (ex_wf hw.2.1 hx) (ex_wf hw.2.2.1 hy) (IH b l (by simp) h1 h2) (IH c q (by simp) h3 h4)
  · obtain ⟨x, y, z, rfl, hx, hy, hz⟩ := sh21_21_6 (ks := ks) (by simpa [kidsR] using hp.2.2.2)
    rw [hq.2 rfl]
    obtain ⟨p, n1, rfl⟩ := num_of hw.2.1 hx
    obtain ⟨q, n2, rfl⟩ := num_of hw.2.2.1 hy
    obtain ⟨b, l, rfl, h1, h2⟩ := block_of_wf hw.2.2.2.1 hz
    exact .for_ a s p q n1 n2 b l (IH b l (by simp) h1 h2)
  · obtain ⟨x, rfl, hx⟩ := sh0 (ks := ks) (by simpa [kidsR] using hp.2.2.2)
    rw [hq.2 rfl]
    exact .let_ a s x (ex_wf hw.2.1 hx)
  · obtain ⟨x, rfl, hx⟩ := sh0 (ks := ks) (by simpa [kidsR] using hp.2.2.2)
    rw [hq.1 rfl, hq.2 rfl]
    exact .emit a x (ex_wf hw.2.1 hx)
  · rw [shape0 (ks := ks) (by simpa [kidsR] using hp.2.2.2), hq.1 rfl, hq.2 rfl]
    exact .rollback a
  · rw [shape0 (ks := ks) (by simpa [kidsR] using hp.2.2.2), hq.1 rfl, hq.2 rfl]
    exact .chop a
theorem pt_of {x : Ast} (hw : wfR x) (hk : x.kind = 2 ∨ x.kind = 3) : Pt x := by
 cases x with
 | mk k a s n ks =>
 have hp := hw.parts
 have hq := hw.plain
 rcases hk with hk | hk
 · obtain rfl : k = 2 := hk
   have h1 : 0 < (ks.map Ast.kind).length ∧ (ks.map Ast.kind).all (· == 5) = true := by simpa [kidsR] using hp.2.2.2
   rw [hq.2 rfl]
   cases ks with
   | nil => simp at h1
   | cons w ws =>
    have h2 : ∀ z ∈ w :: ws, z.kind = 5 := fun z hz => by
     have := (List.all_eq_true.1 h1.2) _ (List.mem_map_of_mem hz)
     simpa using this
    exact .table a s w ws (wd_of hw.2.1 (h2 w (by simp))) (fun z hz => wd_of (wfRL_mem hw.2.2 z hz) (h2 z (by simp [hz])))
 · obtain rfl : k = 3 := hk
   obtain ⟨x, y, rfl, hx, hy⟩ := sh3 (ks := ks) (by simpa [kidsR] using hp.2.2.2)
   obtain ⟨c, l, rfl, h1, h2⟩ := block_of_wf hw.2.2.1 hy
   have hwx := hw.2.1
   cases x with
   | mk k1 a1 s1 n1 ks1 =>
   obtain rfl : k1 = 4 := hx
   have h3 : (ks1.map Ast.kind).all (· == 5) = true := by simpa [kidsR] using hwx.parts.2.2.2
   rw [hwx.plain.1 rfl, hwx.plain.2 rfl]
   refine .proc a s n (n01 hw rfl) a1 ks1 c l (fun z hz => wdN_of (wfRL_mem hwx.2 z hz) ?_) (fun z hz => st_of z.size z (Nat.le_refl _) (wfRL_mem h1 z hz) (h2 z hz))
   have := (List.all_eq_true.1 h3) _ (List.mem_map_of_mem hz)
   simpa using this
end
section
def zP (t : PT) : PT := { t with at' := 0 }
def Lx (Q : List Int → Prop) (s : List Int) (t : List PT) : Prop := ∀ rest, Q rest → ∀ p : Nat, ∃ ts : List Tok, (ts.map ptOf).map zP = t ∧ ∀ f, (s ++ rest).length < f → lexN f p (s ++ rest) = pre ts (lexN f (p + s.length) rest)
def Anyw : List Int → Prop := fun _ => True
def Sf : List Int → Prop := fun rest => ∀ c, rest.head? = some c → isNameB c = false ∧ c ≠ 61
theorem sf_cons {c : Int} {l : List Int} (h : isNameB c = false ∧ c ≠ 61) : Sf (c :: l) := fun d e => by simp at e; subst e; exact h
theorem Lx.nil {Q : List Int → Prop} : Lx Q [] [] := fun rest _ p => ⟨[], rfl, fun f _ => by rw [pre_nil]; rfl⟩
theorem Lx.mono {Q Q' : List Int → Prop} {s : List Int} {t : List PT} (h : Lx Q s t) (hq : ∀ rest, Q' rest → Q rest) : Lx Q' s t := fun rest hr p => h rest (hq rest hr) p
theorem Lx.app {Q Q' : List Int → Prop} {s s' : List Int} {t t' : List PT} (h : Lx Q s t) (h' : Lx Q' s' t') (hq : ∀ rest, Q' rest → Q (s' ++ rest)) : Lx Q' (s ++ s') (t ++ t') := fun rest hr p => by
 obtain ⟨t1, e1, h1⟩ := h (s' ++ rest) (hq rest hr) p
 obtain ⟨t2, e2, h2⟩ := h' rest hr (p + s.length)
 refine ⟨t1 ++ t2, by rw [List.map_append, List.map_append, e1, e2], fun f hf => ?_⟩
 rw [List.append_assoc] at hf ⊢
 rw [h1 f hf, h2 f (by simp only [List.length_append] at hf ⊢; omega), pre_pre, List.length_append, Nat.add_assoc]
theorem Lx.blank {Q : List Int → Prop} (c : Int) (hb : isBlank c = true) : Lx Q [c] [] := fun rest _ p => ⟨[], rfl, fun f hf => by
 cases f with
 | zero => simp at hf
 | succ f =>
  rw [pre_nil]
  have e : blk false ([c] ++ rest) = blk false rest + 1 := by
   show blk false (c :: rest) = _
   simp only [blk, hb, if_true]
   omega
  rw [lexN_skip f p, lexN_skip f (p + [c].length), e]
  show lexN _ _ ((c :: rest).drop (blk false rest + 1)) = _
  rw [List.drop_succ_cons]
  rw [show p + (blk false rest + 1) = p + [c].length + blk false rest by simp only [List.length_singleton]; omega]⟩
theorem Lx.tok {Q : List Int → Prop} (s : List Int) (k n : Int) (hs : s ≠ []) (h : ∀ rest, Q rest → step (s ++ rest) = .tok k s.length n) : Lx Q s [⟨k, 0, strOfNums s, n⟩] := fun rest hr p => ⟨[⟨k, p, p + s.length, s, n⟩], rfl, fun f hf => by
 have hst := h rest hr
 have hh := step_head hst
 cases s with
 | nil => exact absurd rfl hs
 | cons c r =>
  cases f with
  | zero => simp at hf
  | succ f =>
   have hh2 : isBlank c = false ∧ c ≠ 35 := hh
   have e : blk false ((c :: r) ++ rest) = 0 := by
    show blk false (c :: (r ++ rest)) = 0
    simp only [blk, hh2.1, Bool.false_eq_true, if_false, if_neg hh2.2]
   rw [lexN, e, List.drop_zero]
   show (match step (c :: (r ++ rest)) with | .err e => _ | .tok k len n => pre [⟨k, p + 0, p + 0 + len, (c :: (r ++ rest)).take len, n⟩] (lexN f (p + 0 + len) ((c :: (r ++ rest)).drop len))) = _
   rw [show step (c :: (r ++ rest)) = .tok k (c :: r).length n from hst]
   show pre [⟨k, p + 0, p + 0 + (c :: r).length, ((c :: r) ++ rest).take (c :: r).length, n⟩] (lexN f (p + 0 + (c :: r).length) (((c :: r) ++ rest).drop (c :: r).length)) = _
   rw [List.take_left, List.drop_left, Nat.add_zero]
   rw [lexN_fuel f (f + 1) _ rest (by simp only [List.length_append, List.length_cons] at hf; omega) (by simp only [List.length_append, List.length_cons] at hf; omega)]⟩
theorem run_name (pr : Int → Bool) : ∀ (s rest : List Int), s.all pr = true → (∀ c, rest.head? = some c → pr c = false) → run pr (s ++ rest) = s.length
 | [], rest, _, h => by
  cases rest with
  | nil => rfl
  | cons c r => simp [run, h c rfl]
 | c :: r, rest, ha, h => by
  simp only [List.all_cons, Bool.and_eq_true] at ha
  simp only [List.cons_append, run, ha.1, if_true, run_name pr r rest ha.2 h, List.length_cons]
theorem Lx.name (s : List Int) (h : Tr.namesF s = true) : Lx Sf s [⟨1, 0, strOfNums s, 0⟩] := by
 cases s with
 | nil => simp [Tr.namesF] at h
 | cons c r =>
  simp only [Tr.namesF, Bool.and_eq_true] at h
  refine Lx.tok _ 1 0 (by simp) fun rest hr => ?_
  have h1 := run_name isNameB (c :: r) rest h.2 (fun d hd => (hr d hd).1)
  simp only [List.cons_append] at h1 ⊢
  have h2 : isLetter c = true := h.1
  simp only [step, h2, if_true, h1]
theorem Lx.mark (c : Int) (h : isMark c = true ∧ isLetter c = false ∧ isDigit c = false ∧ c ≠ 61) : Lx Anyw [c] [⟨3, 0, strOfNums [c], 0⟩] := Lx.tok _ 3 0 (by simp) fun rest _ => by
 show step (c :: rest) = _
 simp only [step, h.1, h.2.1, h.2.2.1, Bool.false_eq_true, if_false, if_true]
 rw [if_neg (fun e => h.2.2.2 e.1)]
 rfl
theorem Lx.eq1 : Lx Sf [61] [⟨3, 0, strOfNums [61], 0⟩] := Lx.tok _ 3 0 (by simp) fun rest hr => by
 show step (61 :: rest) = _
 have hn : ¬ ((61 : Int) = 61 ∧ rest.head? = some 61) := fun e => (hr 61 e.2).2 rfl
 simp only [step]
 rw [if_neg (by decide), if_neg (by decide), if_pos (by decide), if_neg (show ¬ (True ∧ rest.head? = some 61) from fun e => hn ⟨rfl, e.2⟩)]
 rfl
theorem Lx.eq2 : Lx Anyw [61, 61] [⟨3, 0, strOfNums [61, 61], 0⟩] := Lx.tok _ 3 0 (by simp) fun rest _ => by
 show step (61 :: 61 :: rest) = _
 simp only [step]
 rw [if_neg (by decide), if_neg (by decide), if_pos (by decide), if_pos (by simp)]
 rfl
-- numbers
theorem digit_byte (d : Nat) (h : d < 10) : (((UInt8.ofNat (48 + d)).toNat : Nat) : Int) = 48 + d := by
 rw [UInt8.toNat_ofNat']
 omega
theorem dec_digit (u : Nat) : ∀ b ∈ Lib.decDigits u, isDigit (b.toNat : Int) = true := by
 induction u using Nat.strongRecOn with
 | _ u ih =>
  intro b hb
  by_cases h : u < 10
  · rw [Lib.decDigits_one h, List.mem_singleton] at hb
    subst hb
    rw [digit_byte u h]
    simp only [isDigit, Bool.and_eq_true, decide_eq_true_eq]; omega
  · rw [Lib.decDigits, dif_neg h] at hb
    rcases List.mem_append.1 hb with hb | hb
    · exact ih (u / 10) (by omega) b hb
    · rw [List.mem_singleton] at hb
      subst hb
      rw [digit_byte _ (by omega)]
      simp only [isDigit, Bool.and_eq_true, decide_eq_true_eq]; omega
theorem dec_val : ∀ (u : Nat), ∀ (m : Int), 0 ≤ m → ∀ rest : List Int, (∀ c, rest.head? = some c → isDigit c = false) → m * 10 ^ (Lib.nDigits u) + u ≤ 2147483647 → numV m ((Lib.decDigits u).map (fun b => (b.toNat : Int)) ++ rest) = some (m * 10 ^ (Lib.nDigits u) + u) := by
 intro u
 induction u using Nat.strongRecOn with
 | _ u ih =>
  intro m hm rest hr hb
  by_cases h : u < 10
  · rw [Lib.decDigits_one h, Lib.nDigits_small h] at *
    simp only [List.map_cons, List.map_nil, List.cons_append, List.nil_append, digit_byte u h]
    have hd : isDigit (48 + (u : Int)) = true := by simp only [isDigit, Bool.and_eq_true, decide_eq_true_eq]; omega
    have hnb : ¬ (2147483647 < 10 * m + (48 + (u : Int) - 48)) := by omega
    simp only [numV, hd, if_true, if_neg hnb]
    have hend : ∀ q : Int, numV q rest = some q := fun q => by
     cases rest with
     | nil => rfl
     | cons c r => simp [numV, hr c rfl]
    rw [hend]
    congr 1
    omega
  · have hp : Lib.decDigits u = Lib.decDigits (u / 10) ++ [UInt8.ofNat (48 + u % 10)] := by rw [Lib.decDigits, dif_neg h]
    have hn := Lib.nDigits_big h
    rw [hp, List.map_append, List.append_assoc]
    -- one digit behind what stands ahead
    have key : ∀ (l : List Int) (m v : Int) (d : Nat) (rest : List Int), d < 10 → (∀ c ∈ l, isDigit c = true) → (∀ c, rest.head? = some c → isDigit c = false) → numV m l = some v → 10 * v + d ≤ 2147483647 → numV m (l ++ ((48 + (d : Int)) :: rest)) = some (10 * v + d) := by
     intro l
     induction l with
     | nil =>
      intro m v d rest hd _ hr hv hb
      simp only [numV, Option.some.injEq] at hv
      subst hv
      have hdd : isDigit (48 + (d : Int)) = true := by simp only [isDigit, Bool.and_eq_true, decide_eq_true_eq]; omega
      have hnb : ¬ (2147483647 < 10 * m + (48 + (d : Int) - 48)) := by omega
      simp only [List.nil_append, numV, hdd, if_true, if_neg hnb]
      have hend : ∀ q : Int, numV q rest = some q := fun q => by
       cases rest with
       | nil => rfl
       | cons c r => simp [numV, hr c rfl]
      rw [hend]
      congr 1
      omega
     | cons c r ih2 =>
      intro m v d rest hd hl hr hv hb
      have hc := hl c (by simp)
      simp only [List.cons_append, numV, hc, if_true] at hv ⊢
      split at hv
      · simp at hv
      · rename_i hg
        rw [if_neg hg]
        exact ih2 _ v d rest hd (fun x hx => hl x (by simp [hx])) hr hv hb
    have hpow : m * 10 ^ Lib.nDigits u = 10 * (m * 10 ^ Lib.nDigits (u / 10)) := by
     rw [hn]
     show m * ((10 : Int) ^ (Lib.nDigits (u / 10) + 1)) = _
     rw [Int.pow_succ, ← Int.mul_assoc, Int.mul_comm]
    have hu : u = 10 * (u / 10) + u % 10 := by omega
    have hnn : 0 ≤ m * 10 ^ Lib.nDigits (u / 10) := Int.mul_nonneg hm (Int.pow_nonneg (by decide))
    have h1 := ih (u / 10) (by omega) m hm [] (fun c e => by simp at e) (by omega)
    rw [List.append_nil] at h1
    have h2 := key _ m _ (u % 10) rest (by omega) (fun c hc => by
     obtain ⟨b, hb1, rfl⟩ := List.mem_map.1 hc
     exact dec_digit (u / 10) b hb1) hr h1 (by omega)
    rw [List.map_cons, List.map_nil, digit_byte _ (by omega), List.singleton_append]
    refine h2.trans ?_
    congr 1
    omega
theorem str_map (l : List UInt8) : strOfNums (l.map (fun b => (b.toNat : Int))) = ⟨l.toArray⟩ := by
 have := Tr.bytesI_str ⟨l.toArray⟩
 simpa [Tr.bytesI] using this
theorem Lx.num (n : Int) (h0 : 0 ≤ n) (h1 : n ≤ 2147483647) : Lx Sf (Tr.bytesI (numT n)) [nu n] := by
 obtain ⟨u, rfl⟩ : ∃ u : Nat, n = (u : Int) := ⟨n.toNat, by omega⟩
 have e : Lib.itoa (u : Int) = Lib.decDigits u := by
  unfold Lib.itoa
  rw [if_neg (by omega)]
  rfl
 have e2 : Tr.bytesI (numT u) = (Lib.decDigits u).map (fun b => (b.toNat : Int)) := by
  unfold Tr.bytesI numT
  rw [e]
 have e3 : nu u = ⟨2, 0, strOfNums ((Lib.decDigits u).map (fun b => (b.toNat : Int))), u⟩ := by
  rw [str_map]
  unfold nu numT
  rw [e]
 rw [e2, e3]
 have hall : ((Lib.decDigits u).map (fun b => (b.toNat : Int))).all isDigit = true := by
  rw [List.all_eq_true]
  intro c hc
  obtain ⟨b, hb, rfl⟩ := List.mem_map.1 hc
  exact dec_digit u b hb
 have hlen : 1 ≤ (Lib.decDigits u).length := by rw [Lib.decDigits_length]; exact Lib.nDigits_pos u
 have hv : ∀ rest, Sf rest → numV 0 ((Lib.decDigits u).map (fun b => (b.toNat : Int)) ++ rest) = some (u : Int) := fun rest hr => by
  have := dec_val u 0 (Int.le_refl 0) rest (fun c hc => by
   have h := (hr c hc).1
   unfold isNameB at h
   simp only [Bool.or_eq_false_iff] at h
   exact h.1.2) (by omega)
  rw [this]
  congr 1
  omega
 have hne : (Lib.decDigits u).map (fun b => (b.toNat : Int)) ≠ [] := by intro h; rw [← List.length_eq_zero_iff, List.length_map] at h; omega
 refine Lx.tok _ 2 u hne fun rest hr => ?_
 have h3 := run_name isDigit _ rest hall (fun c hc => by
  have h := (hr c hc).1
  unfold isNameB at h
  simp only [Bool.or_eq_false_iff] at h
  exact h.1.2)
 have h4 := hv rest hr
 generalize (Lib.decDigits u).map (fun b => (b.toNat : Int)) = l at *
 cases l with
 | nil => exact absurd rfl hne
 | cons c r =>
  have hc : isDigit c = true := by simp at hall; exact hall.1
  have hl : isLetter c = false := by
   simp only [isDigit, Bool.and_eq_true, decide_eq_true_eq] at hc
   simp only [isLetter, Bool.and_eq_false_iff, decide_eq_false_iff_not]; omega
  simp only [List.cons_append] at h3 h4 ⊢
  simp only [step, hl, hc, Bool.false_eq_true, if_false, if_true, h4, h3]
end
section
def LxB (Q : List Int → Prop) (s : ByteArray) (t : List PT) : Prop := Lx Q (Tr.bytesI s) t
theorem bytesI_app (a b : ByteArray) : Tr.bytesI (a ++ b) = Tr.bytesI a ++ Tr.bytesI b := by
 unfold Tr.bytesI
 rw [ByteArray.data_append, Array.toList_append, List.map_append]
theorem LxB.app {Q Q' : List Int → Prop} {s s' : ByteArray} {t t' : List PT} (h : LxB Q s t) (h' : LxB Q' s' t') (hq : ∀ rest, Q' rest → Q (Tr.bytesI s' ++ rest)) : LxB Q' (s ++ s') (t ++ t') := by
 unfold LxB
 rw [bytesI_app]
 exact Lx.app h h' hq
theorem LxB.sf {s : ByteArray} {t : List PT} (h : LxB Anyw s t) : LxB Sf s t := Lx.mono h fun _ _ => trivial
theorem LxB.none {Q : List Int → Prop} : LxB Q none0 [] := Lx.nil
theorem lx_any {s : List Int} {Q' : List Int → Prop} : ∀ rest, Q' rest → Anyw (s ++ rest) := fun _ _ => trivial
theorem l_read : LxB Anyw ⟨#[114, 101, 97, 100, 32]⟩ [nm ⟨#[114, 101, 97, 100]⟩] := (Lx.app (Lx.name [114, 101, 97, 100] (by decide)) (Lx.blank (Q := Anyw) 32 rfl) (fun _ _ => sf_cons (by decide)))
theorem l_eq : LxB Anyw ⟨#[32, 61, 32]⟩ [mk3 ⟨#[61]⟩] := (Lx.app (Lx.blank (Q := Anyw) 32 rfl) (Lx.app Lx.eq1 (Lx.blank (Q := Anyw) 32 rfl) (fun _ _ => sf_cons (by decide))) (fun _ _ => trivial))
theorem l_dot : LxB Anyw ⟨#[46]⟩ [mk3 ⟨#[46]⟩] := (Lx.mark 46 (by decide))
theorem l_upd : LxB Sf ⟨#[32, 102, 111, 114, 32, 117, 112, 100, 97, 116, 101]⟩ [nm ⟨#[102, 111, 114]⟩, nm ⟨#[117, 112, 100, 97, 116, 101]⟩] := (Lx.app (Lx.blank (Q := Anyw) 32 rfl) (Lx.app (Lx.name [102, 111, 114] (by decide)) (Lx.app (Lx.blank (Q := Anyw) 32 rfl) (Lx.name [117, 112, 100, 97, 116, 101] (by decide)) (fun _ _ => trivial)) (fun _ _ => sf_cons (by decide))) (fun _ _ => trivial))
theorem l_semi : LxB Anyw ⟨#[59]⟩ [mk3 ⟨#[59]⟩] := (Lx.mark 59 (by decide))
theorem l_set : LxB Anyw ⟨#[115, 101, 116, 32]⟩ [nm ⟨#[115, 101, 116]⟩] := (Lx.app (Lx.name [115, 101, 116] (by decide)) (Lx.blank (Q := Anyw) 32 rfl) (fun _ _ => sf_cons (by decide)))
theorem l_put : LxB Anyw ⟨#[112, 117, 116, 32]⟩ [nm ⟨#[112, 117, 116]⟩] := (Lx.app (Lx.name [112, 117, 116] (by decide)) (Lx.blank (Q := Anyw) 32 rfl) (fun _ _ => sf_cons (by decide)))
theorem l_opn : LxB Anyw ⟨#[40]⟩ [mk3 ⟨#[40]⟩] := (Lx.mark 40 (by decide))
theorem l_clsemi : LxB Anyw ⟨#[41, 59]⟩ [mk3 ⟨#[41]⟩, mk3 ⟨#[59]⟩] := (Lx.app (Lx.mark 41 (by decide)) (Lx.mark 59 (by decide)) (fun _ _ => trivial))
theorem l_delete : LxB Anyw ⟨#[100, 101, 108, 101, 116, 101, 32]⟩ [nm ⟨#[100, 101, 108, 101, 116, 101]⟩] := (Lx.app (Lx.name [100, 101, 108, 101, 116, 101] (by decide)) (Lx.blank (Q := Anyw) 32 rfl) (fun _ _ => sf_cons (by decide)))
theorem l_scan : LxB Anyw ⟨#[115, 99, 97, 110, 32]⟩ [nm ⟨#[115, 99, 97, 110]⟩] := (Lx.app (Lx.name [115, 99, 97, 110] (by decide)) (Lx.blank (Q := Anyw) 32 rfl) (fun _ _ => sf_cons (by decide)))
theorem l_lock : LxB Anyw ⟨#[108, 111, 99, 107, 32]⟩ [nm ⟨#[108, 111, 99, 107]⟩] := (Lx.app (Lx.name [108, 111, 99, 107] (by decide)) (Lx.blank (Q := Anyw) 32 rfl) (fun _ _ => sf_cons (by decide)))
theorem l_all : LxB Sf ⟨#[32, 97, 108, 108]⟩ [nm ⟨#[97, 108, 108]⟩] := (Lx.app (Lx.blank (Q := Anyw) 32 rfl) (Lx.name [97, 108, 108] (by decide)) (fun _ _ => trivial))
theorem l_shared : LxB Sf ⟨#[32, 115, 104, 97, 114, 101, 100]⟩ [nm ⟨#[115, 104, 97, 114, 101, 100]⟩] := (Lx.app (Lx.blank (Q := Anyw) 32 rfl) (Lx.name [115, 104, 97, 114, 101, 100] (by decide)) (fun _ _ => trivial))
theorem l_release : LxB Anyw ⟨#[114, 101, 108, 101, 97, 115, 101, 32]⟩ [nm ⟨#[114, 101, 108, 101, 97, 115, 101]⟩] := (Lx.app (Lx.name [114, 101, 108, 101, 97, 115, 101] (by decide)) (Lx.blank (Q := Anyw) 32 rfl) (fun _ _ => sf_cons (by decide)))
theorem l_if : LxB Anyw ⟨#[105, 102, 32]⟩ [nm ⟨#[105, 102]⟩] := (Lx.app (Lx.name [105, 102] (by decide)) (Lx.blank (Q := Anyw) 32 rfl) (fun _ _ => sf_cons (by decide)))
theorem l_eqeq : LxB Anyw ⟨#[32, 61, 61, 32]⟩ [mk3 ⟨#[61, 61]⟩] := (Lx.app (Lx.blank (Q := Anyw) 32 rfl) (Lx.app Lx.eq2 (Lx.blank (Q := Anyw) 32 rfl) (fun _ _ => trivial)) (fun _ _ => trivial))
theorem l_less : LxB Anyw ⟨#[32, 60, 32]⟩ [mk3 ⟨#[60]⟩] := (Lx.app (Lx.blank (Q := Anyw) 32 rfl) (Lx.app (Lx.mark 60 (by decide)) (Lx.blank (Q := Anyw) 32 rfl) (fun _ _ => trivial)) (fun _ _ => trivial))
theorem l_brace : LxB Anyw ⟨#[32, 123]⟩ [mk3 ⟨#[123]⟩] := (Lx.app (Lx.blank (Q := Anyw) 32 rfl) (Lx.mark 123 (by decide)) (fun _ _ => trivial))
theorem l_els : LxB Anyw ⟨#[125, 32, 101, 108, 115, 101, 32, 123]⟩ [mk3 ⟨#[125]⟩, nm ⟨#[101, 108, 115, 101]⟩, mk3 ⟨#[123]⟩] := (Lx.app (Lx.mark 125 (by decide)) (Lx.app (Lx.blank (Q := Anyw) 32 rfl) (Lx.app (Lx.name [101, 108, 115, 101] (by decide)) (Lx.app (Lx.blank (Q := Anyw) 32 rfl) (Lx.mark 123 (by decide)) (fun _ _ => trivial)) (fun _ _ => sf_cons (by decide))) (fun _ _ => trivial)) (fun _ _ => trivial))
theorem l_end : LxB Anyw ⟨#[125]⟩ [mk3 ⟨#[125]⟩] := (Lx.mark 125 (by decide))
theorem l_for : LxB Anyw ⟨#[102, 111, 114, 32]⟩ [nm ⟨#[102, 111, 114]⟩] := (Lx.app (Lx.name [102, 111, 114] (by decide)) (Lx.blank (Q := Anyw) 32 rfl) (fun _ _ => sf_cons (by decide)))
theorem l_to : LxB Anyw ⟨#[32, 116, 111, 32]⟩ [nm ⟨#[116, 111]⟩] := (Lx.app (Lx.blank (Q := Anyw) 32 rfl) (Lx.app (Lx.name [116, 111] (by decide)) (Lx.blank (Q := Anyw) 32 rfl) (fun _ _ => sf_cons (by decide))) (fun _ _ => trivial))
theorem l_let : LxB Anyw ⟨#[108, 101, 116, 32]⟩ [nm ⟨#[108, 101, 116]⟩] := (Lx.app (Lx.name [108, 101, 116] (by decide)) (Lx.blank (Q := Anyw) 32 rfl) (fun _ _ => sf_cons (by decide)))
theorem l_emit : LxB Anyw ⟨#[101, 109, 105, 116, 32]⟩ [nm ⟨#[101, 109, 105, 116]⟩] := (Lx.app (Lx.name [101, 109, 105, 116] (by decide)) (Lx.blank (Q := Anyw) 32 rfl) (fun _ _ => sf_cons (by decide)))
theorem l_rollback : LxB Anyw ⟨#[114, 111, 108, 108, 98, 97, 99, 107, 59]⟩ [nm ⟨#[114, 111, 108, 108, 98, 97, 99, 107]⟩, mk3 ⟨#[59]⟩] := (Lx.app (Lx.name [114, 111, 108, 108, 98, 97, 99, 107] (by decide)) (Lx.mark 59 (by decide)) (fun _ _ => sf_cons (by decide)))
theorem l_chop : LxB Anyw ⟨#[99, 104, 111, 112, 59]⟩ [nm ⟨#[99, 104, 111, 112]⟩, mk3 ⟨#[59]⟩] := (Lx.app (Lx.name [99, 104, 111, 112] (by decide)) (Lx.mark 59 (by decide)) (fun _ _ => sf_cons (by decide)))
theorem l_table : LxB Anyw ⟨#[116, 97, 98, 108, 101, 32]⟩ [nm ⟨#[116, 97, 98, 108, 101]⟩] := (Lx.app (Lx.name [116, 97, 98, 108, 101] (by decide)) (Lx.blank (Q := Anyw) 32 rfl) (fun _ _ => sf_cons (by decide)))
theorem l_proc : LxB Anyw ⟨#[112, 114, 111, 99, 32]⟩ [nm ⟨#[112, 114, 111, 99]⟩] := (Lx.app (Lx.name [112, 114, 111, 99] (by decide)) (Lx.blank (Q := Anyw) 32 rfl) (fun _ _ => sf_cons (by decide)))
theorem l_cls : LxB Anyw ⟨#[41]⟩ [mk3 ⟨#[41]⟩] := (Lx.mark 41 (by decide))
theorem l_single : LxB Sf ⟨#[32, 115, 105, 110, 103, 108, 101]⟩ [nm ⟨#[115, 105, 110, 103, 108, 101]⟩] := (Lx.app (Lx.blank (Q := Anyw) 32 rfl) (Lx.name [115, 105, 110, 103, 108, 101] (by decide)) (fun _ _ => trivial))
theorem l_sqo : LxB Anyw ⟨#[91]⟩ [mk3 ⟨#[91]⟩] := (Lx.mark 91 (by decide))
theorem l_sqc : LxB Anyw ⟨#[93]⟩ [mk3 ⟨#[93]⟩] := (Lx.mark 93 (by decide))
theorem l_minus : LxB Anyw ⟨#[45]⟩ [mk3 ⟨#[45]⟩] := (Lx.mark 45 (by decide))
theorem l_comma : LxB Anyw ⟨#[44, 32]⟩ [mk3 ⟨#[44]⟩] := (Lx.app (Lx.mark 44 (by decide)) (Lx.blank (Q := Anyw) 32 rfl) (fun _ _ => trivial))
theorem l_p23 : LxB Anyw ⟨#[32, 43, 32]⟩ [mk3 ⟨#[43]⟩] := (Lx.app (Lx.blank (Q := Anyw) 32 rfl) (Lx.app (Lx.mark 43 (by decide)) (Lx.blank (Q := Anyw) 32 rfl) (fun _ _ => trivial)) (fun _ _ => trivial))
theorem l_p24 : LxB Anyw ⟨#[32, 45, 32]⟩ [mk3 ⟨#[45]⟩] := (Lx.app (Lx.blank (Q := Anyw) 32 rfl) (Lx.app (Lx.mark 45 (by decide)) (Lx.blank (Q := Anyw) 32 rfl) (fun _ _ => trivial)) (fun _ _ => trivial))
theorem l_p25 : LxB Anyw ⟨#[32, 42, 32]⟩ [mk3 ⟨#[42]⟩] := (Lx.app (Lx.blank (Q := Anyw) 32 rfl) (Lx.app (Lx.mark 42 (by decide)) (Lx.blank (Q := Anyw) 32 rfl) (fun _ _ => trivial)) (fun _ _ => trivial))
theorem sfl {c : Int} {s : ByteArray} {r : List Int} {Q' : List Int → Prop} (e : Tr.bytesI s = c :: r) (h : isNameB c = false ∧ c ≠ 61) : ∀ rest, Q' rest → Sf (Tr.bytesI s ++ rest) := fun rest _ => by rw [e]; exact sf_cons h
def SafeHd (s : ByteArray) : Prop := ∃ c r, Tr.bytesI s = c :: r ∧ isNameB c = false ∧ c ≠ 61
theorem LxB.then {Q' : List Int → Prop} {s s' : ByteArray} {t t' : List PT} (h : LxB Sf s t) (h' : LxB Q' s' t') (hs : SafeHd s') : LxB Q' (s ++ s') (t ++ t') := by
 obtain ⟨c, r, e, hc⟩ := hs
 exact h.app h' (sfl e hc)
theorem LxB.more {Q' : List Int → Prop} {s s' : ByteArray} {t t' : List PT} (h : LxB Anyw s t) (h' : LxB Q' s' t') : LxB Q' (s ++ s') (t ++ t') := h.app h' lx_any
theorem bl_byte {Q : List Int → Prop} (c : Int) (a : ByteArray) (h : Tr.bytesI a = [c]) (hb : isBlank c = true) : LxB Q a [] := by unfold LxB; rw [h]; exact Lx.blank c hb
theorem tabs_lx : ∀ d, LxB Anyw (tabsT d) []
 | 0 => Lx.nil
 | d + 1 => by
  have e : Tr.bytesI (tabsT (d + 1)) = [9] ++ Tr.bytesI (tabsT d) := by
   unfold Tr.bytesI tabsT
   simp [List.replicate_succ]
  show Lx Anyw _ _
  rw [e]
  exact (Lx.blank (Q := Anyw) 9 rfl).app (tabs_lx d) (fun _ _ => trivial)
theorem LxB.line {s : ByteArray} {t : List PT} (d : Nat) (h : LxB Sf s t) : LxB Anyw (lineT d s) t := by
 have h1 := ((tabs_lx d).more h).then (bl_byte (Q := Anyw) 10 ⟨#[10]⟩ rfl rfl) ⟨10, [], rfl, by decide⟩
 rw [List.append_nil, List.nil_append] at h1
 exact h1
theorem name_lx {s : ByteArray} (h : Tr.namesF (Tr.bytesI s) = true) : LxB Sf s [nm s] := by
 have := Lx.name (Tr.bytesI s) h
 rw [Tr.bytesI_str] at this
 exact this
theorem wfR.name {k : Int} {a : Nat} {s : ByteArray} {n : Int} {ks : List Ast} (h : wfR (.mk k a s n ks)) (hk : Tr.namedR k = true) : Tr.namesF (Tr.bytesI s) = true := by
 have h1 := h.1.1
 simp only [nodeRW, Bool.and_eq_true, Tr.wordsR] at h1
 have := h1.2.2.1.1
 rw [hk] at this
 simpa using this
theorem inB_lx {x : Ast} {s : ByteArray} {t : List PT} (h : LxB Sf s t) (b : Bool) : LxB Sf (inB b s) (bT b t) := by
 cases b with
 | false => exact h
 | true =>
  have := ((l_opn.more h).then l_cls ⟨41, [], rfl, by decide⟩).sf
  simpa [bT, inB] using this
theorem ex_lx {x : Ast} (h : Ex x) : wfR x → LxB Sf (exT x) (exK x) := by
 induction h with
 | num a n =>
  intro hw
  have := hw.parts.2.1
  exact Lx.num n this.1 this.2
 | var a s => exact fun hw => name_lx (hw.name rfl)
 | neg a x hx ih =>
  intro hw
  exact l_minus.more (inB_lx (x := x) (ih hw.2.1) _)
 | bin k a x y hk hx hy ihx ihy =>
  intro hw
  have h1 := inB_lx (x := x) (ihx hw.2.1) (br k false x.kind)
  have h2 := inB_lx (x := y) (ihy hw.2.2.1) (br k true y.kind)
  have hm : LxB Anyw (markT k) [mk3 (opB k)] := by
   rcases hk with rfl | rfl | rfl
   · exact l_p23
   · exact l_p24
   · exact l_p25
  have hs : SafeHd (markT k) := by
   rcases hk with rfl | rfl | rfl
   · exact ⟨32, [43, 32], rfl, by decide⟩
   · exact ⟨32, [45, 32], rfl, by decide⟩
   · exact ⟨32, [42, 32], rfl, by decide⟩
  have h3 := (h1.then hm hs).more h2
  have e1 : exT (.mk k a none0 0 [x, y]) = inB (br k false x.kind) (exT x) ++ markT k ++ inB (br k true y.kind) (exT y) := by rcases hk with rfl | rfl | rfl <;> rfl
  have e2 : exK (.mk k a none0 0 [x, y]) = bT (br k false x.kind) (exK x) ++ [mk3 (opB k)] ++ bT (br k true y.kind) (exK y) := by rcases hk with rfl | rfl | rfl <;> simp [exK, nodeK, exKL]
  rw [e1, e2]
  exact h3
theorem wd_lx {x : Ast} (h : Wd x) (hw : wfR x) : LxB Sf (exT x) (exK x) := by
 cases h with
 | mk a s => exact name_lx (hw.name rfl)
theorem rw_lx {x : Ast} (h : RwA x) (hw : wfR x) : LxB Sf (exT x) (exK x) := by
 cases h with
 | mk a s e he =>
  have hb : br 20 false e.kind = false := by unfold br; split <;> (try split) <;> rfl
  have h1 := ((((name_lx (hw.name rfl)).then l_sqo ⟨91, [], rfl, by decide⟩).more (ex_lx he hw.2.1)).then l_sqc ⟨93, [], rfl, by decide⟩).sf
  have e1 : exT (.mk 20 a s 0 [e]) = s ++ ⟨#[91]⟩ ++ exT e ++ ⟨#[93]⟩ := by
   show nodeT 20 s 0 (exL 20 0 [e]) = _
   simp [nodeT, exL, hb, inB]
  have e2 : exK (.mk 20 a s 0 [e]) = [nm s] ++ [mk3 ⟨#[91]⟩] ++ exK e ++ [mk3 ⟨#[93]⟩] := by simp [exK, nodeK, exKL, hb, bT]
  rw [e1, e2]
  exact h1
theorem join_lx : ∀ (ks : List Ast), (∀ z ∈ ks, LxB Sf (exT z) (exK z)) → LxB Sf (joinT (ks.map exT)) (joinK (ks.map exK))
 | [], _ => LxB.none
 | [x], h => by
  have := h x (by simp)
  simpa [joinT, joinK] using this
 | x :: y :: r, h => by
  have h1 := join_lx (y :: r) (fun z hz => h z (by simp [hz]))
  have h2 := ((h x (by simp)).then l_comma ⟨44, [32], rfl, by decide⟩).more h1
  have e1 : joinT ((x :: y :: r).map exT) = exT x ++ ⟨#[44, 32]⟩ ++ joinT ((y :: r).map exT) := rfl
  have e2 : joinK ((x :: y :: r).map exK) = exK x ++ [mk3 ⟨#[44]⟩] ++ joinK ((y :: r).map exK) := by simp [joinK]
  rw [e1, e2]
  exact h2
def StL (x : Ast) : Prop := wfR x → ∀ d, LxB Anyw (stT d x) (stA x)
theorem sl_read0 (a : Nat) (t : ByteArray) (x y : Ast) (gx : RwA x) (gy : Wd y) : StL (.mk 7 a t 0 [x, y]) := fun hw d => by
 have ht := name_lx (hw.name rfl)
 have hx := rw_lx gx hw.2.1
 have hy := wd_lx gy hw.2.2.1
 have hz : LxB Sf ⟨#[]⟩ [] := Lx.nil
 have h := LxB.line d ((((((((((((((((l_read).more ht)).then l_eq ⟨32, [61, 32], rfl, by decide⟩)).more hx)).then l_dot ⟨46, [], rfl, by decide⟩)).more hy)).app hz (fun _ hr => hr))).then l_semi ⟨59, [], rfl, by decide⟩)).sf)
 have e1 : stT d (.mk 7 a t 0 [x, y]) = lineT d (⟨#[114, 101, 97, 100, 32]⟩ ++ t ++ ⟨#[32, 61, 32]⟩ ++ exT x ++ ⟨#[46]⟩ ++ exT y ++ ⟨#[]⟩ ++ ⟨#[59]⟩) := rfl
 have e2 : stA (.mk 7 a t 0 [x, y]) = [nm ⟨#[114, 101, 97, 100]⟩] ++ [nm t] ++ [mk3 ⟨#[61]⟩] ++ exK x ++ [mk3 ⟨#[46]⟩] ++ exK y ++ [] ++ [mk3 ⟨#[59]⟩] := by simp [stA, stK]
 rw [e1, e2]
 exact h
theorem sl_read1 (a : Nat) (t : ByteArray) (x y : Ast) (gx : RwA x) (gy : Wd y) : StL (.mk 7 a t 1 [x, y]) := fun hw d => by
 have ht := name_lx (hw.name rfl)
 have hx := rw_lx gx hw.2.1
 have hy := wd_lx gy hw.2.2.1
 have h := LxB.line d ((((((((((((((((l_read).more ht)).then l_eq ⟨32, [61, 32], rfl, by decide⟩)).more hx)).then l_dot ⟨46, [], rfl, by decide⟩)).more hy)).then l_upd ⟨32, [102, 111, 114, 32, 117, 112, 100, 97, 116, 101], rfl, by decide⟩)).then l_semi ⟨59, [], rfl, by decide⟩)).sf)
 have e1 : stT d (.mk 7 a t 1 [x, y]) = lineT d (⟨#[114, 101, 97, 100, 32]⟩ ++ t ++ ⟨#[32, 61, 32]⟩ ++ exT x ++ ⟨#[46]⟩ ++ exT y ++ ⟨#[32, 102, 111, 114, 32, 117, 112, 100, 97, 116, 101]⟩ ++ ⟨#[59]⟩) := rfl
 have e2 : stA (.mk 7 a t 1 [x, y]) = [nm ⟨#[114, 101, 97, 100]⟩] ++ [nm t] ++ [mk3 ⟨#[61]⟩] ++ exK x ++ [mk3 ⟨#[46]⟩] ++ exK y ++ [nm ⟨#[102, 111, 114]⟩, nm ⟨#[117, 112, 100, 97, 116, 101]⟩] ++ [mk3 ⟨#[59]⟩] := by simp [stA, stK]
 rw [e1, e2]
 exact h
theorem sl_set (a : Nat) (x y v : Ast) (gx : RwA x) (gy : Wd y) (gv : Ex v) : StL (.mk 8 a none0 0 [x, y, v]) := fun hw d => by
 have hx := rw_lx gx hw.2.1
 have hy := wd_lx gy hw.2.2.1
 have hv := ex_lx gv hw.2.2.2.1
 have h := LxB.line d ((((((((((((((l_set).more hx)).then l_dot ⟨46, [], rfl, by decide⟩)).more hy)).then l_eq ⟨32, [61, 32], rfl, by decide⟩)).more hv)).then l_semi ⟨59, [], rfl, by decide⟩)).sf)
 have e1 : stT d (.mk 8 a none0 0 [x, y, v]) = lineT d (⟨#[115, 101, 116, 32]⟩ ++ exT x ++ ⟨#[46]⟩ ++ exT y ++ ⟨#[32, 61, 32]⟩ ++ exT v ++ ⟨#[59]⟩) := rfl
 have e2 : stA (.mk 8 a none0 0 [x, y, v]) = [nm ⟨#[115, 101, 116]⟩] ++ exK x ++ [mk3 ⟨#[46]⟩] ++ exK y ++ [mk3 ⟨#[61]⟩] ++ exK v ++ [mk3 ⟨#[59]⟩] := by simp [stA, stK]
 rw [e1, e2]
 exact h
theorem sl_put (a : Nat) (x v : Ast) (es : List Ast) (gx : RwA x) (gv : Ex v) (gs : ∀ z ∈ es, Ex z) : StL (.mk 9 a none0 0 (x :: v :: es)) := fun hw d => by
 have hx := rw_lx gx hw.2.1
 have hj := join_lx (v :: es) (fun z hz => ex_lx (by rcases List.mem_cons.1 hz with rfl | hz; exact gv; exact gs z hz) (wfRL_mem hw.2.2 z hz))
 have h := LxB.line d ((((((((((l_put).more hx)).then l_opn ⟨40, [], rfl, by decide⟩)).more hj)).then l_clsemi ⟨41, [59], rfl, by decide⟩)).sf)
 have e1 : stT d (.mk 9 a none0 0 (x :: v :: es)) = lineT d (⟨#[112, 117, 116, 32]⟩ ++ exT x ++ ⟨#[40]⟩ ++ joinT ((v :: es).map exT) ++ ⟨#[41, 59]⟩) := rfl
 have e2 : stA (.mk 9 a none0 0 (x :: v :: es)) = [nm ⟨#[112, 117, 116]⟩] ++ exK x ++ [mk3 ⟨#[40]⟩] ++ joinK ((v :: es).map exK) ++ [mk3 ⟨#[41]⟩, mk3 ⟨#[59]⟩] := by simp [stA, stK]
 rw [e1, e2]
 exact h
theorem sl_delete (a : Nat) (x : Ast) (gx : RwA x) : StL (.mk 10 a none0 0 [x]) := fun hw d => by
 have hx := rw_lx gx hw.2.1
 have h := LxB.line d ((((((l_delete).more hx)).then l_semi ⟨59, [], rfl, by decide⟩)).sf)
 have e1 : stT d (.mk 10 a none0 0 [x]) = lineT d (⟨#[100, 101, 108, 101, 116, 101, 32]⟩ ++ exT x ++ ⟨#[59]⟩) := rfl
 have e2 : stA (.mk 10 a none0 0 [x]) = [nm ⟨#[100, 101, 108, 101, 116, 101]⟩] ++ exK x ++ [mk3 ⟨#[59]⟩] := by simp [stA, stK]
 rw [e1, e2]
 exact h
theorem sl_scan (a : Nat) (t : ByteArray) (x y : Ast) (gx : Wd x) (gy : Wd y) : StL (.mk 11 a t 0 [x, y]) := fun hw d => by
 have ht := name_lx (hw.name rfl)
 have hx := wd_lx gx hw.2.1
 have hy := wd_lx gy hw.2.2.1
 have h := LxB.line d ((((((((((((((l_scan).more ht)).then l_eq ⟨32, [61, 32], rfl, by decide⟩)).more hx)).then l_dot ⟨46, [], rfl, by decide⟩)).more hy)).then l_semi ⟨59, [], rfl, by decide⟩)).sf)
 have e1 : stT d (.mk 11 a t 0 [x, y]) = lineT d (⟨#[115, 99, 97, 110, 32]⟩ ++ t ++ ⟨#[32, 61, 32]⟩ ++ exT x ++ ⟨#[46]⟩ ++ exT y ++ ⟨#[59]⟩) := rfl
 have e2 : stA (.mk 11 a t 0 [x, y]) = [nm ⟨#[115, 99, 97, 110]⟩] ++ [nm t] ++ [mk3 ⟨#[61]⟩] ++ exK x ++ [mk3 ⟨#[46]⟩] ++ exK y ++ [mk3 ⟨#[59]⟩] := by simp [stA, stK]
 rw [e1, e2]
 exact h
theorem sl_lock0 (a : Nat) (x : Ast) (gx : Wd x) : StL (.mk 12 a none0 0 [x]) := fun hw d => by
 have hx := wd_lx gx hw.2.1
 have h := LxB.line d ((((((((l_lock).more hx)).then l_shared ⟨32, [115, 104, 97, 114, 101, 100], rfl, by decide⟩)).then l_semi ⟨59, [], rfl, by decide⟩)).sf)
 have e1 : stT d (.mk 12 a none0 0 [x]) = lineT d (⟨#[108, 111, 99, 107, 32]⟩ ++ exT x ++ ⟨#[32, 115, 104, 97, 114, 101, 100]⟩ ++ ⟨#[59]⟩) := rfl
 have e2 : stA (.mk 12 a none0 0 [x]) = [nm ⟨#[108, 111, 99, 107]⟩] ++ exK x ++ [nm ⟨#[115, 104, 97, 114, 101, 100]⟩] ++ [mk3 ⟨#[59]⟩] := by simp [stA, stK]
 rw [e1, e2]
 exact h
theorem sl_lock1 (a : Nat) (x : Ast) (gx : Wd x) : StL (.mk 12 a none0 1 [x]) := fun hw d => by
 have hx := wd_lx gx hw.2.1
 have h := LxB.line d ((((((((l_lock).more hx)).then l_all ⟨32, [97, 108, 108], rfl, by decide⟩)).then l_semi ⟨59, [], rfl, by decide⟩)).sf)
 have e1 : stT d (.mk 12 a none0 1 [x]) = lineT d (⟨#[108, 111, 99, 107, 32]⟩ ++ exT x ++ ⟨#[32, 97, 108, 108]⟩ ++ ⟨#[59]⟩) := rfl
 have e2 : stA (.mk 12 a none0 1 [x]) = [nm ⟨#[108, 111, 99, 107]⟩] ++ exK x ++ [nm ⟨#[97, 108, 108]⟩] ++ [mk3 ⟨#[59]⟩] := by simp [stA, stK]
 rw [e1, e2]
 exact h
theorem sl_rel5 (a : Nat) (x : Ast) (gx : Wd x) : StL (.mk 13 a none0 0 [x]) := fun hw d => by
 have hx := wd_lx gx hw.2.1
 have h := LxB.line d ((((((l_release).more hx)).then l_semi ⟨59, [], rfl, by decide⟩)).sf)
 have e1 : stT d (.mk 13 a none0 0 [x]) = lineT d (⟨#[114, 101, 108, 101, 97, 115, 101, 32]⟩ ++ exT x ++ ⟨#[59]⟩) := rfl
 have e2 : stA (.mk 13 a none0 0 [x]) = [nm ⟨#[114, 101, 108, 101, 97, 115, 101]⟩] ++ exK x ++ [mk3 ⟨#[59]⟩] := by simp [stA, stK]
 rw [e1, e2]
 exact h
theorem sl_rel20 (a : Nat) (x : Ast) (gx : RwA x) : StL (.mk 13 a none0 0 [x]) := fun hw d => by
 have hx := rw_lx gx hw.2.1
 have h := LxB.line d ((((((l_release).more hx)).then l_semi ⟨59, [], rfl, by decide⟩)).sf)
 have e1 : stT d (.mk 13 a none0 0 [x]) = lineT d (⟨#[114, 101, 108, 101, 97, 115, 101, 32]⟩ ++ exT x ++ ⟨#[59]⟩) := rfl
 have e2 : stA (.mk 13 a none0 0 [x]) = [nm ⟨#[114, 101, 108, 101, 97, 115, 101]⟩] ++ exK x ++ [mk3 ⟨#[59]⟩] := by simp [stA, stK]
 rw [e1, e2]
 exact h
theorem sl_let (a : Nat) (t : ByteArray) (v : Ast) (gv : Ex v) : StL (.mk 16 a t 0 [v]) := fun hw d => by
 have ht := name_lx (hw.name rfl)
 have hv := ex_lx gv hw.2.1
 have h := LxB.line d ((((((((((l_let).more ht)).then l_eq ⟨32, [61, 32], rfl, by decide⟩)).more hv)).then l_semi ⟨59, [], rfl, by decide⟩)).sf)
 have e1 : stT d (.mk 16 a t 0 [v]) = lineT d (⟨#[108, 101, 116, 32]⟩ ++ t ++ ⟨#[32, 61, 32]⟩ ++ exT v ++ ⟨#[59]⟩) := rfl
 have e2 : stA (.mk 16 a t 0 [v]) = [nm ⟨#[108, 101, 116]⟩] ++ [nm t] ++ [mk3 ⟨#[61]⟩] ++ exK v ++ [mk3 ⟨#[59]⟩] := by simp [stA, stK]
 rw [e1, e2]
 exact h
theorem sl_emit (a : Nat) (v : Ast) (gv : Ex v) : StL (.mk 17 a none0 0 [v]) := fun hw d => by
 have hv := ex_lx gv hw.2.1
 have h := LxB.line d ((((((l_emit).more hv)).then l_semi ⟨59, [], rfl, by decide⟩)).sf)
 have e1 : stT d (.mk 17 a none0 0 [v]) = lineT d (⟨#[101, 109, 105, 116, 32]⟩ ++ exT v ++ ⟨#[59]⟩) := rfl
 have e2 : stA (.mk 17 a none0 0 [v]) = [nm ⟨#[101, 109, 105, 116]⟩] ++ exK v ++ [mk3 ⟨#[59]⟩] := by simp [stA, stK]
 rw [e1, e2]
 exact h
theorem sl_rollback (a : Nat) : StL (.mk 18 a none0 0 []) := fun hw d => by
 have h := LxB.line d ((l_rollback).sf)
 have e1 : stT d (.mk 18 a none0 0 []) = lineT d (⟨#[114, 111, 108, 108, 98, 97, 99, 107, 59]⟩) := rfl
 have e2 : stA (.mk 18 a none0 0 []) = [nm ⟨#[114, 111, 108, 108, 98, 97, 99, 107]⟩, mk3 ⟨#[59]⟩] := by simp [stA, stK]
 rw [e1, e2]
 exact h
theorem sl_chop (a : Nat) : StL (.mk 19 a none0 0 []) := fun hw d => by
 have h := LxB.line d ((l_chop).sf)
 have e1 : stT d (.mk 19 a none0 0 []) = lineT d (⟨#[99, 104, 111, 112, 59]⟩) := rfl
 have e2 : stA (.mk 19 a none0 0 []) = [nm ⟨#[99, 104, 111, 112]⟩, mk3 ⟨#[59]⟩] := by simp [stA, stK]
 rw [e1, e2]
 exact h
theorem stmts_lx : ∀ (ks : List Ast), (∀ z ∈ ks, StL z) → wfRL ks → ∀ d, LxB Anyw (stL d ks) (stAL ks)
 | [], _, _, d => by simp only [stL, stAL]; exact LxB.none
 | x :: r, h, hw, d => by
  have h1 := (h x (by simp) hw.1 d).more (stmts_lx r (fun z hz => h z (by simp [hz])) hw.2 d)
  simpa only [stL, stAL] using h1
theorem blk_lx (b : Nat) (ks : List Ast) (h : ∀ z ∈ ks, StL z) (hw : wfR (.mk 6 b none0 0 ks)) (d : Nat) : LxB Anyw (blT d (.mk 6 b none0 0 ks)) (stAL ks) := stmts_lx ks h hw.2 d
theorem sl_if30 (a : Nat) (x y : Ast) (b : Nat) (ks : List Ast) (gx : Ex x) (gy : Ex y) (ih : ∀ z ∈ ks, StL z) : StL (.mk 14 a none0 0 [x, y, .mk 6 b none0 0 ks]) := fun hw d => by
 have hx := ex_lx gx hw.2.1
 have hy := ex_lx gy hw.2.2.1
 have h1 := LxB.line d ((((((((((l_if).more hx)).then l_less ⟨32, [60, 32], rfl, by decide⟩)).more hy)).then l_brace ⟨32, [123], rfl, by decide⟩)).sf)
 have h2 := blk_lx b ks ih hw.2.2.2.1 (d + 1)
 have h3 := LxB.line d l_end.sf
 have h := ((h1.more h2).more (LxB.none (Q := Anyw))).more h3
 have e1 : stT d (.mk 14 a none0 0 [x, y, .mk 6 b none0 0 ks]) = lineT d (⟨#[105, 102, 32]⟩ ++ exT x ++ ⟨#[32, 60, 32]⟩ ++ exT y ++ ⟨#[32, 123]⟩) ++ blT (d + 1) (.mk 6 b none0 0 ks) ++ none0 ++ lineT d ⟨#[125]⟩ := rfl
 have e2 : stA (.mk 14 a none0 0 [x, y, .mk 6 b none0 0 ks]) = ([nm ⟨#[105, 102]⟩] ++ exK x ++ [mk3 ⟨#[60]⟩] ++ exK y ++ [mk3 ⟨#[123]⟩]) ++ stAL ks ++ [] ++ [mk3 ⟨#[125]⟩] := by simp [stA, stK, blAL, blA]
 rw [e1, e2]
 exact h
theorem sl_if40 (a : Nat) (x y : Ast) (b : Nat) (ks : List Ast) (c : Nat) (ls : List Ast) (gx : Ex x) (gy : Ex y) (ih : ∀ z ∈ ks, StL z) (ih2 : ∀ z ∈ ls, StL z) : StL (.mk 14 a none0 0 [x, y, .mk 6 b none0 0 ks, .mk 6 c none0 0 ls]) := fun hw d => by
 have hx := ex_lx gx hw.2.1
 have hy := ex_lx gy hw.2.2.1
 have h1 := LxB.line d ((((((((((l_if).more hx)).then l_less ⟨32, [60, 32], rfl, by decide⟩)).more hy)).then l_brace ⟨32, [123], rfl, by decide⟩)).sf)
 have h2 := blk_lx b ks ih hw.2.2.2.1 (d + 1)
 have h4 := (LxB.line d l_els.sf).more (blk_lx c ls ih2 hw.2.2.2.2.1 (d + 1))
 have h3 := LxB.line d l_end.sf
 have h := ((h1.more h2).more h4).more h3
 have e1 : stT d (.mk 14 a none0 0 [x, y, .mk 6 b none0 0 ks, .mk 6 c none0 0 ls]) = lineT d (⟨#[105, 102, 32]⟩ ++ exT x ++ ⟨#[32, 60, 32]⟩ ++ exT y ++ ⟨#[32, 123]⟩) ++ blT (d + 1) (.mk 6 b none0 0 ks) ++ (lineT d ⟨#[125, 32, 101, 108, 115, 101, 32, 123]⟩ ++ blT (d + 1) (.mk 6 c none0 0 ls)) ++ lineT d ⟨#[125]⟩ := rfl
 have e2 : stA (.mk 14 a none0 0 [x, y, .mk 6 b none0 0 ks, .mk 6 c none0 0 ls]) = ([nm ⟨#[105, 102]⟩] ++ exK x ++ [mk3 ⟨#[60]⟩] ++ exK y ++ [mk3 ⟨#[123]⟩]) ++ stAL ks ++ ([mk3 ⟨#[125]⟩, nm ⟨#[101, 108, 115, 101]⟩, mk3 ⟨#[123]⟩] ++ stAL ls) ++ [mk3 ⟨#[125]⟩] := by simp [stA, stK, blAL, blA]
 rw [e1, e2]
 exact h
theorem sl_if31 (a : Nat) (x y : Ast) (b : Nat) (ks : List Ast) (gx : Ex x) (gy : Ex y) (ih : ∀ z ∈ ks, StL z) : StL (.mk 14 a none0 1 [x, y, .mk 6 b none0 0 ks]) := fun hw d => by
 have hx := ex_lx gx hw.2.1
 have hy := ex_lx gy hw.2.2.1
 have h1 := LxB.line d ((((((((((l_if).more hx)).then l_eqeq ⟨32, [61, 61, 32], rfl, by decide⟩)).more hy)).then l_brace ⟨32, [123], rfl, by decide⟩)).sf)
 have h2 := blk_lx b ks ih hw.2.2.2.1 (d + 1)
 have h3 := LxB.line d l_end.sf
 have h := ((h1.more h2).more (LxB.none (Q := Anyw))).more h3
 have e1 : stT d (.mk 14 a none0 1 [x, y, .mk 6 b none0 0 ks]) = lineT d (⟨#[105, 102, 32]⟩ ++ exT x ++ ⟨#[32, 61, 61, 32]⟩ ++ exT y ++ ⟨#[32, 123]⟩) ++ blT (d + 1) (.mk 6 b none0 0 ks) ++ none0 ++ lineT d ⟨#[125]⟩ := rfl
 have e2 : stA (.mk 14 a none0 1 [x, y, .mk 6 b none0 0 ks]) = ([nm ⟨#[105, 102]⟩] ++ exK x ++ [mk3 ⟨#[61, 61]⟩] ++ exK y ++ [mk3 ⟨#[123]⟩]) ++ stAL ks ++ [] ++ [mk3 ⟨#[125]⟩] := by simp [stA, stK, blAL, blA]
 rw [e1, e2]
 exact h
theorem sl_if41 (a : Nat) (x y : Ast) (b : Nat) (ks : List Ast) (c : Nat) (ls : List Ast) (gx : Ex x) (gy : Ex y) (ih : ∀ z ∈ ks, StL z) (ih2 : ∀ z ∈ ls, StL z) : StL (.mk 14 a none0 1 [x, y, .mk 6 b none0 0 ks, .mk 6 c none0 0 ls]) := fun hw d => by
 have hx := ex_lx gx hw.2.1
 have hy := ex_lx gy hw.2.2.1
 have h1 := LxB.line d ((((((((((l_if).more hx)).then l_eqeq ⟨32, [61, 61, 32], rfl, by decide⟩)).more hy)).then l_brace ⟨32, [123], rfl, by decide⟩)).sf)
 have h2 := blk_lx b ks ih hw.2.2.2.1 (d + 1)
 have h4 := (LxB.line d l_els.sf).more (blk_lx c ls ih2 hw.2.2.2.2.1 (d + 1))
 have h3 := LxB.line d l_end.sf
 have h := ((h1.more h2).more h4).more h3
 have e1 : stT d (.mk 14 a none0 1 [x, y, .mk 6 b none0 0 ks, .mk 6 c none0 0 ls]) = lineT d (⟨#[105, 102, 32]⟩ ++ exT x ++ ⟨#[32, 61, 61, 32]⟩ ++ exT y ++ ⟨#[32, 123]⟩) ++ blT (d + 1) (.mk 6 b none0 0 ks) ++ (lineT d ⟨#[125, 32, 101, 108, 115, 101, 32, 123]⟩ ++ blT (d + 1) (.mk 6 c none0 0 ls)) ++ lineT d ⟨#[125]⟩ := rfl
 have e2 : stA (.mk 14 a none0 1 [x, y, .mk 6 b none0 0 ks, .mk 6 c none0 0 ls]) = ([nm ⟨#[105, 102]⟩] ++ exK x ++ [mk3 ⟨#[61, 61]⟩] ++ exK y ++ [mk3 ⟨#[123]⟩]) ++ stAL ks ++ ([mk3 ⟨#[125]⟩, nm ⟨#[101, 108, 115, 101]⟩, mk3 ⟨#[123]⟩] ++ stAL ls) ++ [mk3 ⟨#[125]⟩] := by simp [stA, stK, blAL, blA]
 rw [e1, e2]
 exact h
theorem sl_for (a : Nat) (t : ByteArray) (x y : Ast) (b : Nat) (ks : List Ast) (gx : Ex x) (gy : Ex y) (ih : ∀ z ∈ ks, StL z) : StL (.mk 15 a t 0 [x, y, .mk 6 b none0 0 ks]) := fun hw d => by
 have ht := name_lx (hw.name rfl)
 have hx := ex_lx gx hw.2.1
 have hy := ex_lx gy hw.2.2.1
 have h1 := LxB.line d ((((((((((((((l_for).more ht)).then l_eq ⟨32, [61, 32], rfl, by decide⟩)).more hx)).then l_to ⟨32, [116, 111, 32], rfl, by decide⟩)).more hy)).then l_brace ⟨32, [123], rfl, by decide⟩)).sf)
 have h2 := blk_lx b ks ih hw.2.2.2.1 (d + 1)
 have h3 := LxB.line d l_end.sf
 have h := (h1.more h2).more h3
 have e1 : stT d (.mk 15 a t 0 [x, y, .mk 6 b none0 0 ks]) = lineT d (⟨#[102, 111, 114, 32]⟩ ++ t ++ ⟨#[32, 61, 32]⟩ ++ exT x ++ ⟨#[32, 116, 111, 32]⟩ ++ exT y ++ ⟨#[32, 123]⟩) ++ blT (d + 1) (.mk 6 b none0 0 ks) ++ lineT d ⟨#[125]⟩ := rfl
 have e2 : stA (.mk 15 a t 0 [x, y, .mk 6 b none0 0 ks]) = ([nm ⟨#[102, 111, 114]⟩] ++ [nm t] ++ [mk3 ⟨#[61]⟩] ++ exK x ++ [nm ⟨#[116, 111]⟩] ++ exK y ++ [mk3 ⟨#[123]⟩]) ++ stAL ks ++ [mk3 ⟨#[125]⟩] := by simp [stA, stK, blAL, blA]
 rw [e1, e2]
 exact h
theorem st_lx {x : Ast} (h : StA x) : StL x := by
 induction h with
 | read a t n x y hn hx hy =>
  rcases hn with rfl | rfl
  · exact sl_read0 a t x y hx hy
  · exact sl_read1 a t x y hx hy
 | set a x y v hx hy hv => exact sl_set a x y v hx hy hv
 | put a x v es hx hv hs => exact sl_put a x v es hx hv hs
 | delete a x hx => exact sl_delete a x hx
 | scan a t x y hx hy => exact sl_scan a t x y hx hy
 | lock a n x hn hx =>
  rcases hn with rfl | rfl
  · exact sl_lock0 a x hx
  · exact sl_lock1 a x hx
 | rel5 a x hx => exact sl_rel5 a x hx
 | rel20 a x hx => exact sl_rel20 a x hx
 | if3 a n x y b ks hn hx hy hk ih =>
  rcases hn with rfl | rfl
  · exact sl_if30 a x y b ks hx hy ih
  · exact sl_if31 a x y b ks hx hy ih
 | if4 a n x y b ks c ls hn hx hy hk hl ih ih2 =>
  rcases hn with rfl | rfl
  · exact sl_if40 a x y b ks c ls hx hy ih ih2
  · exact sl_if41 a x y b ks c ls hx hy ih ih2
 | for_ a t p q n m b ks hk ih => exact sl_for a t _ _ b ks (.num p n) (.num q m) ih
 | let_ a t v hv => exact sl_let a t v hv
 | emit a v hv => exact sl_emit a v hv
 | rollback a => exact sl_rollback a
 | chop a => exact sl_chop a
def PtL (x : Ast) : Prop := wfR x → LxB Anyw (partT x) (partA x)
theorem pl_table (a : Nat) (t : ByteArray) (w : Ast) (ws : List Ast) (gw : Wd w) (h : ∀ z ∈ ws, Wd z) : PtL (.mk 2 a t 0 (w :: ws)) := fun hw => by
 have ht := name_lx (hw.name rfl)
 have hj := join_lx (w :: ws) (fun z hz => wd_lx (by rcases List.mem_cons.1 hz with rfl | hz; exact gw; exact h z hz) (wfRL_mem hw.2 z hz))
 have h := LxB.line 0 ((((((((((l_table).more ht)).then l_opn ⟨40, [], rfl, by decide⟩)).more hj)).then l_clsemi ⟨41, [59], rfl, by decide⟩)).sf)
 have e1 : partT (.mk 2 a t 0 (w :: ws)) = lineT 0 (⟨#[116, 97, 98, 108, 101, 32]⟩ ++ t ++ ⟨#[40]⟩ ++ namesOf (w :: ws) ++ ⟨#[41, 59]⟩) := rfl
 have e2 : partA (.mk 2 a t 0 (w :: ws)) = [nm ⟨#[116, 97, 98, 108, 101]⟩] ++ [nm t] ++ [mk3 ⟨#[40]⟩] ++ joinK ((w :: ws).map exK) ++ [mk3 ⟨#[41]⟩, mk3 ⟨#[59]⟩] := by simp [partA]
 rw [e1, e2]
 exact h
theorem pl_proc0 (a : Nat) (t : ByteArray) (b : Nat) (ns : List Ast) (c : Nat) (ks : List Ast) (gw : ∀ z ∈ ns, WdN z) (hk : ∀ z ∈ ks, StA z) : PtL (.mk 3 a t 0 [.mk 4 b none0 0 ns, .mk 6 c none0 0 ks]) := fun hw => by
 have ht := name_lx (hw.name rfl)
 have hz : LxB Sf ⟨#[]⟩ [] := Lx.nil
 have hj := join_lx ns (fun z hz => wd_lx (gw z hz).1 (wfRL_mem hw.2.1.2 z hz))
 have h1 := LxB.line 0 ((((((((((((((l_proc).more ht)).then l_opn ⟨40, [], rfl, by decide⟩)).more hj)).then l_cls ⟨41, [], rfl, by decide⟩)).more hz)).then l_brace ⟨32, [123], rfl, by decide⟩)).sf)
 have h2 := blk_lx c ks (fun z hz => st_lx (hk z hz)) hw.2.2.1 1
 have h3 := LxB.line 0 l_end.sf
 have h := (h1.more h2).more h3
 have e1 : partT (.mk 3 a t 0 [.mk 4 b none0 0 ns, .mk 6 c none0 0 ks]) = lineT 0 (⟨#[112, 114, 111, 99, 32]⟩ ++ t ++ ⟨#[40]⟩ ++ namesOf ns ++ ⟨#[41]⟩ ++ ⟨#[]⟩ ++ ⟨#[32, 123]⟩) ++ blT 1 (.mk 6 c none0 0 ks) ++ lineT 0 ⟨#[125]⟩ := rfl
 have e2 : partA (.mk 3 a t 0 [.mk 4 b none0 0 ns, .mk 6 c none0 0 ks]) = ([nm ⟨#[112, 114, 111, 99]⟩] ++ [nm t] ++ [mk3 ⟨#[40]⟩] ++ joinK (ns.map exK) ++ [mk3 ⟨#[41]⟩] ++ [] ++ [mk3 ⟨#[123]⟩]) ++ stAL ks ++ [mk3 ⟨#[125]⟩] := by simp [partA, blA, Ast.kids]
 rw [e1, e2]
 exact h
theorem pl_proc1 (a : Nat) (t : ByteArray) (b : Nat) (ns : List Ast) (c : Nat) (ks : List Ast) (gw : ∀ z ∈ ns, WdN z) (hk : ∀ z ∈ ks, StA z) : PtL (.mk 3 a t 1 [.mk 4 b none0 0 ns, .mk 6 c none0 0 ks]) := fun hw => by
 have ht := name_lx (hw.name rfl)
 have hz : LxB Sf ⟨#[]⟩ [] := Lx.nil
 have hj := join_lx ns (fun z hz => wd_lx (gw z hz).1 (wfRL_mem hw.2.1.2 z hz))
 have h1 := LxB.line 0 ((((((((((((((l_proc).more ht)).then l_opn ⟨40, [], rfl, by decide⟩)).more hj)).then l_cls ⟨41, [], rfl, by decide⟩)).more l_single)).then l_brace ⟨32, [123], rfl, by decide⟩)).sf)
 have h2 := blk_lx c ks (fun z hz => st_lx (hk z hz)) hw.2.2.1 1
 have h3 := LxB.line 0 l_end.sf
 have h := (h1.more h2).more h3
 have e1 : partT (.mk 3 a t 1 [.mk 4 b none0 0 ns, .mk 6 c none0 0 ks]) = lineT 0 (⟨#[112, 114, 111, 99, 32]⟩ ++ t ++ ⟨#[40]⟩ ++ namesOf ns ++ ⟨#[41]⟩ ++ ⟨#[32, 115, 105, 110, 103, 108, 101]⟩ ++ ⟨#[32, 123]⟩) ++ blT 1 (.mk 6 c none0 0 ks) ++ lineT 0 ⟨#[125]⟩ := rfl
 have e2 : partA (.mk 3 a t 1 [.mk 4 b none0 0 ns, .mk 6 c none0 0 ks]) = ([nm ⟨#[112, 114, 111, 99]⟩] ++ [nm t] ++ [mk3 ⟨#[40]⟩] ++ joinK (ns.map exK) ++ [mk3 ⟨#[41]⟩] ++ [nm ⟨#[115, 105, 110, 103, 108, 101]⟩] ++ [mk3 ⟨#[123]⟩]) ++ stAL ks ++ [mk3 ⟨#[125]⟩] := by simp [partA, blA, Ast.kids]
 rw [e1, e2]
 exact h
theorem pt_lx {x : Ast} (h : Pt x) : PtL x := by
 cases h with
 | table a t w ws hw h => exact pl_table a t w ws hw h
 | proc a t n hn b ns c ks hw hk =>
  rcases hn with rfl | rfl
  · exact pl_proc0 a t b ns c ks hw hk
  · exact pl_proc1 a t b ns c ks hw hk
theorem prog_lx : ∀ (ks : List Ast), (∀ z ∈ ks, Pt z) → wfRL ks → LxB Anyw (progL ks) (progA ks)
 | [], _, _ => by simp only [progL, progA]; exact LxB.none
 | x :: r, h, hw => by
  have h1 := (pt_lx (h x (by simp)) hw.1).more (prog_lx r (fun z hz => h z (by simp [hz])) hw.2)
  simpa only [progL, progA] using h1
theorem lex_printed (ks : List Ast) (h : ∀ z ∈ ks, Pt z) (hw : wfRL ks) : ∃ ts, lexS (Tr.bytesI (progL ks)) = .ok ts ∧ (ts.map ptOf).map zP = progA ks ++ [enT] := by
 obtain ⟨ts, e1, e2⟩ := prog_lx ks h hw [] trivial 0
 have e3 := e2 ((Tr.bytesI (progL ks)).length + 1) (by rw [List.append_nil]; exact Nat.lt_succ_self _)
 rw [List.append_nil] at e3
 refine ⟨ts ++ [Tok.endAt (Tr.bytesI (progL ks)).length], ?_, ?_⟩
 · unfold lexS
   rw [e3, Nat.zero_add]
   have : lexN ((Tr.bytesI (progL ks)).length + 1) (Tr.bytesI (progL ks)).length [] = .ok [Tok.endAt (Tr.bytesI (progL ks)).length] := by simp [lexN, blk]
   rw [this]
   rfl
 · rw [List.map_append, List.map_append, e1]
   congr 1
end
end Go.Proofs.YthdioipfdbbmmaaGreatDoor
