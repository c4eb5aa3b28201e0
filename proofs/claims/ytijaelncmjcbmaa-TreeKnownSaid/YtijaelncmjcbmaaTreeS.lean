import Derived.Test.YtijaelncmjcbmaaLexM
import Derived.Lib.ConvBytes
import Derived.Below
import Derived.Deep.QuietTactic
namespace Go.Proofs.Ytijaelncmjcbmaa
open Go.RowKit
def bytesI (s : ByteArray) : List Int := s.data.toList.map fun b => (b.toNat : Int)
theorem bytesI_length (s : ByteArray) : (bytesI s).length = s.size := by simp [bytesI]
theorem bytesI_get (s : ByteArray) (k : Nat) (h : k < s.size) : (bytesI s).getD k 0 = (s[k].toNat : Int) := by
  have : k < s.data.toList.length := by simpa using h
  have e : s.data.toList[k]? = some s[k] := List.getElem?_eq_getElem this
  simp only [bytesI, List.getD, List.getElem?_map, e, Option.map_some, Option.getD_some]
theorem bytesI_byte (s : ByteArray) (i : Nat) : 0 ≤ (bytesI s).getD i 0 ∧ (bytesI s).getD i 0 < 256 := by
  by_cases h : i < s.size
  · rw [bytesI_get s i h]
    have := UInt8.toNat_lt s[i]
    omega
  · simp [List.getD, List.getElem?_eq_none (show (bytesI s).length ≤ i by rw [bytesI_length]; omega)]
theorem bytesI_str (s : ByteArray) : strOfNums (bytesI s) = s := by
  obtain ⟨⟨l⟩⟩ := s
  simp [strOfNums, bytesI, Function.comp_def]
def namesF (l : List Int) : Bool := (match l with | [] => false | c :: _ => isLetter c) && l.all isNameB
theorem namesF_nil : namesF [] = false := rfl
theorem all_take_succ (l : List Int) (k : Nat) (h : k < l.length) : (l.take (k + 1)).all isNameB = ((l.take k).all isNameB && isNameB (l.getD k 0)) := by
  rw [List.take_succ_eq_append_getElem h, List.all_append]
  simp [List.getD, h]
theorem namesF_no (l : List Int) (k : Nat) (h : k < l.length) (hk : isNameB (l.getD k 0) = false) : namesF l = false := by
  unfold namesF
  have : l.all isNameB = false := by
    rw [List.all_eq_false]
    exact ⟨l.getD k 0, by simp [List.getD, h], by rw [hk]; simp⟩
  rw [this, Bool.and_false]
theorem namesF_head (l : List Int) (h : 0 < l.length) (hk : isLetter (l.getD 0 0) = false) : namesF l = false := by
  cases l with
  | nil => simp at h
  | cons c r => simp only [List.getD_cons_zero] at hk; simp [namesF, hk]
theorem namesF_yes (l : List Int) (h : 0 < l.length) (hk : isLetter (l.getD 0 0) = true) (ha : (l.take l.length).all isNameB = true) : namesF l = true := by
  cases l with
  | nil => simp at h
  | cons c r => simp only [List.getD_cons_zero] at hk; rw [List.take_length] at ha; simp only [namesF, hk, ha, Bool.and_true]
theorem retB {a b : Bool} (h : a = b) : Ending.returned (.bool a) = .returned (.bool b) := by rw [h]
theorem retI {a b : Int} (h : a = b) : Ending.returned (.int .i64 a) = .returned (.int .i64 b) := by rw [h]
theorem drewN_below (B : Nat) (w : World) (n : Nat) : Below B w (w.drewN n) := ⟨rfl, rfl, rfl, Nat.le_refl _, fun _ _ => rfl⟩
end Go.Proofs.Ytijaelncmjcbmaa
