/- Contracts on the way to the laws of layer 5: PrintJ, PrintK, LexH, LexV. -/
import Derived.Test.YthdioipfdbbmmaaGreatDoorKaa
import Derived.Test.YthdioipfdbbmmaaGreatDoorKam
import Derived.Test.YthdioipfdbbmmaaGreatDoorKan
import Derived.Deep.RegionHeld3
import Derived.Laws.EntriesVeiled
import Derived.Lib.ConvBytes
set_option linter.all false
set_option maxRecDepth 1000000
set_option maxHeartbeats 16000000
namespace Go.Proofs.YthdioipfdbbmmaaGreatDoor
section
open Go.RowKit Tr
theorem isRowOrExpr_at (w : World) (k : Int) : Calls Tryz.prog 63 #[.int .u8 k] w fun e w' => e = .returned (.bool (decide (20 ≤ k) && decide (k ≤ 26))) ∧ w' = w := by
 by_cases h1 : 20 ≤ k
 · by_cases h2 : k ≤ 26
   · go_enter Tryz.func63, Tryz.ntmps63
     go_wp2
     go_ret
     exact ⟨by simp [h1, h2], rfl⟩
   · go_enter Tryz.func63, Tryz.ntmps63
     go_wp2
     go_ret
     exact ⟨by simp [h1, h2], rfl⟩
 · go_enter Tryz.func63, Tryz.ntmps63
   go_wp2
   go_ret
   exact ⟨by simp [h1]; omega, rfl⟩
theorem isOver_at (w : World) (b : Nat) (most : Int) (q : Option Addr) (n cq : Nat) (h : w.cell? ⟨b, 1, none⟩ = some (.int .i64 most)) : Calls Tryz.prog 55 #[.pointer (some ⟨b, 0, none⟩), .slice q n cq] w fun e w' => e = .returned (.bool (decide (most < (n : Int)))) ∧ w' = w := by
 go_enter Tryz.func55, Tryz.ntmps55
 go_wp2
 go_ret
 exact ⟨rfl, rfl⟩
theorem pick_at (w : World) (n : Int) (g c : Nat) (s0 s1 : ByteArray) (h0 : w.cell? ⟨g, 0, none⟩ = some (.string s0)) (h1 : w.cell? ⟨g, 1, none⟩ = some (.string s1)) (hn : n = 0 ∨ n = 1) : Calls Tryz.prog 168 #[.int .i64 n, .slice (some ⟨g, 0, none⟩) 2 c] w fun e w' => e = .returned (.string (if n = 1 then s1 else s0)) ∧ w' = w := by
 rcases hn with rfl | rfl
 · go_enter Tryz.func168, Tryz.ntmps168
   go_wp2
   go_ret
   exact ⟨rfl, rfl⟩
 · go_enter Tryz.func168, Tryz.ntmps168
   go_wp2
   go_ret
   exact ⟨rfl, rfl⟩
theorem brackets_at (w : World) (k : Int) : Calls Tryz.prog 178 #[.int .u8 k] w fun e w' => e = .returned (.func (.func 228) #[] #[.pointer (some ⟨w.heap.size, 0, none⟩)]) ∧ w' = w.alloc (.cells #[.int .u8 k] 5) := by
 go_enter Tryz.func178, Tryz.ntmps178
 go_wp2
 go_ret
 exact ⟨rfl, rfl⟩
theorem brackets1_at (w : World) (q : Nat) (k : Int) (b : Bool) (p : Int) (h : w.cell? ⟨q, 0, none⟩ = some (.int .u8 k)) : Calls Tryz.prog 228 #[.int .u8 p, .bool b, .pointer (some ⟨q, 0, none⟩)] w fun e w' => e = .returned (.bool (br k b p)) ∧ w' = w := by
 have hp : (p = 23 ∨ p = 24 ∨ p = 25) ∨ ((p == 23) = false ∧ (p == 24) = false ∧ (p == 25) = false) := by
  by_cases h1 : p = 23
  · exact Or.inl (Or.inl h1)
  · by_cases h2 : p = 24
    · exact Or.inl (Or.inr (Or.inl h2))
    · by_cases h3 : p = 25
      · exact Or.inl (Or.inr (Or.inr h3))
      · exact Or.inr ⟨by simpa using h1, by simpa using h2, by simpa using h3⟩
 have hk : (k = 26 ∨ k = 25) ∨ ((k == 26) = false ∧ (k == 25) = false) := by
  by_cases h1 : k = 26
  · exact Or.inl (Or.inl h1)
  · by_cases h2 : k = 25
    · exact Or.inl (Or.inr h2)
    · exact Or.inr ⟨by simpa using h1, by simpa using h2⟩
 rcases hk with (rfl | rfl) | ⟨k1, k2⟩ <;> rcases hp with (rfl | rfl | rfl) | ⟨p1, p2, p3⟩ <;> cases b
 all_goals
  go_enter Tryz.func228, Tryz.ntmps228
  go_wp2
  go_ret
  refine ⟨?_, rfl⟩
  simp_all [br]
end
section
open Go.RowKit Tr
theorem cellLt {W : World} {a : Addr} {v : Value} (h : W.cell? a = some v) : a.block < W.heap.size := by
 rcases Nat.lt_or_ge a.block W.heap.size with h1 | h1
 · exact h1
 · simp [World.cell?, Array.getElem?_eq_none h1] at h
theorem part_at (w : World) (nb bb pb kq b : Nat) (k : Int) (j q : Nat) (kk : Int) (p : Option Addr) (len c : Nat) (kp : Option Addr) (kl kc : Nat) (ks : List Int) (ns : List Nd)
 (h4 : w.cell? ⟨nb, 4, none⟩ = some (.slice kp kl kc)) (hb : w.cell? ⟨bb, 0, none⟩ = some (.func (.func 228) #[] #[.pointer (some ⟨kq, 0, none⟩)])) (hp : w.cell? ⟨pb, 0, none⟩ = some (.pointer (some ⟨b, 0, none⟩)))
 (hk : w.cell? ⟨kq, 0, none⟩ = some (.int .u8 k)) (h0 : w.cell? ⟨b, 0, none⟩ = some (.slice p len c)) (hT : TV w p len c ns) (hI : IV w kp kl kc ks) (hj : j < kl) (hq : ks.getD j 0 = (q : Int)) (hql : q < len) (hkk : (ns.getD q default).kind = kk) :
 Calls Tryz.prog 179 #[.int .i64 (j : Int), .pointer (some ⟨nb, 0, none⟩), .pointer (some ⟨bb, 0, none⟩), .pointer (some ⟨pb, 0, none⟩)] w fun e w' => e = .returned (.agg #[.string ⟨#[]⟩, .int .i64 (q : Int), .bool (br k ((j : Int) == 1) kk)]) ∧ Below w.heap.size w w' := by
 obtain ⟨kb, koff, rfl, hkb, hkc⟩ := hI.cell (by omega)
 obtain ⟨nbk, off, rfl, hnb, hnc⟩ := hT.node (by omega)
 obtain ⟨_, _, _, hn⟩ := hnc q hql
 have m0 : w.cell? ⟨kb, koff + j, none⟩ = some (.int .i64 (q : Int)) := by rw [hkc j hj, hq]
 have m1 : w.cell? ⟨nbk, off + q * 5, none⟩ = some (.int .u8 kk) := by rw [← hkk]; exact hn.kind
 have g0 : (0 : Int) ≤ (j : Int) := by omega
 have g1 : (j : Int) < (kl : Int) := by omega
 have g2 : (0 : Int) ≤ (q : Int) := by omega
 have g3 : (q : Int) < (len : Int) := by omega
 have HB := lh (one_below w (.cells #[.string ⟨#[]⟩, .int .i64 0, .bool false] 184))
 have HBR := lh (fun w' h => brackets1_at w' kq k ((j : Int) == 1) kk h)
 have l1 : nb < w.heap.size := cellLt h4
 have l2 : bb < w.heap.size := cellLt hb
 have l3 : pb < w.heap.size := cellLt hp
 have l4 : kq < w.heap.size := cellLt hk
 have l5 : b < w.heap.size := cellLt h0
 clear hT hI hkc hnc hn
 have hk2 : (w.alloc (.cells #[.string ⟨#[]⟩, .int .i64 0, .bool false] 184)).drew.cell? ⟨kq, 0, none⟩ = some (.int .u8 k) := by
  have h := HB.out.cell (p := ⟨kq, 0, none⟩) l4
  exact h.trans hk
 go_enter Tryz.func179, Tryz.ntmps179
 go_wp2_with fail
 go_region_held3 (fun w' => w'.cell? ⟨bb, 0, none⟩ = some (.func (.func 228) #[] #[.pointer (some ⟨kq, 0, none⟩)]) ∧ w'.cell? ⟨pb, 0, none⟩ = some (.pointer (some ⟨b, 0, none⟩)) ∧ w'.cell? ⟨kq, 0, none⟩ = some (.int .u8 k) ∧ w'.cell? ⟨b, 0, none⟩ = some (.slice (some ⟨nbk, off, none⟩) len c) ∧ w'.cell? ⟨nbk, off + q * 5, none⟩ = some (.int .u8 kk)) (go_keep) (first | (go_at_call 228; (with_reducible refine (HBR.out _ ?_).mono ?_); (first | assumption | exact hk2); rintro e w' ⟨rfl, rfl⟩))
 go_wp2
 simp [bodyPost, results, Tryz.results179, go_sem]
 exact (one_below w _).drew
end
section
open Go.RowKit
def bytesI (s : ByteArray) : List Int := s.data.toList.map fun b => (b.toNat : Int)
theorem bytesI_length (s : ByteArray) : (bytesI s).length = s.size := by simp [bytesI]
theorem bytesI_get (s : ByteArray) (k : Nat) (h : k < s.size) : (bytesI s).getD k 0 = (s[k].toNat : Int) := by
 have : k < s.data.toList.length := by simpa using h
 have e : s.data.toList[k]? = some s[k] := List.getElem?_eq_getElem this
 simp only [bytesI, List.getD, List.getElem?_map, e, Option.map_some, Option.getD_some]
theorem bytesI_str (s : ByteArray) : strOfNums (bytesI s) = s := by
 obtain ⟨⟨l⟩⟩ := s
 simp [strOfNums, bytesI, Function.comp_def]
def namesF (l : List Int) : Bool := (match l with | [] => false | c :: _ => isLetter c) && l.all isNameB
theorem all_take_succ (l : List Int) (k : Nat) (h : k < l.length) : (l.take (k + 1)).all isNameB = ((l.take k).all isNameB && isNameB (l.getD k 0)) := by
 rw [List.take_succ_eq_append_getElem h, List.all_append]
 simp [List.getD, h]
theorem namesF_no (l : List Int) (k : Nat) (h : k < l.length) (hk : isNameB (l.getD k 0) = false) : namesF l = false := by
 unfold namesF
 have : l.all isNameB = false := by
  rw [List.all_eq_false]
  exact ⟨l.getD k 0, by simp [List.getD, h], by rw [hk]; simp⟩
 rw [this, Bool.and_false]
theorem namesF_head (l : List Int) (h : 0 < l.length) (hk : isLetter (l.getD 0 0) = false) : namesF l = false := by
 cases l with
 | nil => simp at h
 | cons c r => simp only [List.getD_cons_zero] at hk; simp [namesF, hk]
theorem namesF_yes (l : List Int) (h : 0 < l.length) (hk : isLetter (l.getD 0 0) = true) (ha : (l.take l.length).all isNameB = true) : namesF l = true := by
 cases l with
 | nil => simp at h
 | cons c r => simp only [List.getD_cons_zero] at hk; rw [List.take_length] at ha; simp only [namesF, hk, ha, Bool.and_true]
theorem retB {a b : Bool} (h : a = b) : Ending.returned (.bool a) = .returned (.bool b) := by rw [h]
theorem isName_at (w : World) (s : ByteArray) (hb : s.size ≤ 70000) :
 Calls Tryz.prog 189 #[.string s] w fun e w' => e = .returned (.bool (namesF (bytesI s))) ∧ Below w.heap.size w w' := by
 have HK := lh (byteKinds_run w)
 by_cases h0 : s.size = 0
 · obtain rfl : s = ByteArray.empty := ByteArray.size_eq_zero_iff.1 h0
   show Calls Tryz.prog 189 #[.string ⟨#[]⟩] w fun e w' => e = .returned (.bool false) ∧ Below w.heap.size w w'
   go_enter Tryz.func189, Tryz.ntmps189
   go_wp2_with fail
   (with_reducible refine HK.out.mono ?_)
   rintro e W1 ⟨rfl, hk⟩
   have HB := lh hk.below
   clear hk HK
   go_wp2
   go_ret
   exact ⟨rfl, HB.out⟩
 · have hne : s.toList.isEmpty = false := by
    rw [← bytesI_str s, Lib.strOfNums_toList, List.isEmpty_eq_false_iff]
    intro e
    have := congrArg List.length e
    rw [Lib.bytesOf, List.length_map, bytesI_length, List.length_nil] at this
    exact h0 this
   have hpos : 0 < s.size := by omega
   have hlen := lh (bytesI_length s)
   have h00 := lh (bytesI_get s 0 hpos)
   have hm0 := UInt8.toNat_lt s[0]
   have KL := lh (kind_letter (s[0].toNat : Int))
   obtain ⟨m0, hm⟩ : ∃ m0, s[0].toNat = m0 := ⟨_, rfl⟩
   go_enter Tryz.func189, Tryz.ntmps189
   go_wp2_with fail
   (with_reducible refine HK.out.mono ?_)
   rintro e W1 ⟨rfl, hk⟩
   have HKW := lh hk
   have HB := lh hk.below
   clear hk HK
   go_wp2_with fail
   have hm256 : m0 < 256 := by omega
   have KA := kind_at W1 (w.heap.size + 1) m0 hm256 (by rw [HKW.out.arr m0 hm256, FK_kind m0 hm256])
   have KL2 := KL.out
   rw [hm] at KL2
   have KL3 := lh KL2
   have H00 : Hid ((bytesI s).getD 0 0 = (m0 : Int)) := by rw [← hm]; exact h00
   clear KL2 KL h00
   generalize kindF m0 = k at *
   (with_reducible refine KA.mono ?_)
   rintro e w' ⟨rfl, rfl⟩
   clear KA
   by_cases hk3 : k = 3
   · subst hk3
     have HL : Hid (isLetter ((bytesI s).getD 0 0) = true) := lh (by rw [H00.out]; simpa using KL3.out.symm)
     clear hm hm0 hm256 KL3 H00
     go_wp2_with fail
     go_loop [17] (fun iv => ∃ k : Nat, k ≤ s.size ∧ iv = .int .i64 k ∧ Hid (((bytesI s).take k).all isNameB = true)) (fun iv => s.size - (intOf iv).toNat)
     case atStart => exact ⟨0, Nat.zero_le _, rfl, lh rfl⟩
     case round =>
      obtain ⟨k, hk, rfl, HA⟩ := hrel
      by_cases hlt : k < s.size
      · have hgk := bytesI_get s k hlt
        have hmk := UInt8.toNat_lt s[k]
        obtain ⟨m, hm⟩ : ∃ m, s[k].toNat = m := ⟨_, rfl⟩
        rw [hm] at hgk hmk
        have hm256 : m < 256 := by omega
        have KA := kind_at w' (w.heap.size + 1) m hm256 (by rw [HKW.out.arr m hm256, FK_kind m hm256])
        have KN := kind_name m
        have HG := lh hgk
        clear hgk
        generalize kindF m = kk at *
        have IN := inName_at w' kk
        rw [KN] at IN
        have HKA := lh KA
        have HIN := lh IN
        clear KN KA IN
        cases hq : isNameB m with
        | true =>
         have HIN2 : Hid (Calls Tryz.prog 154 #[.int .u8 kk] w' fun e w1 => e = .returned (.bool true) ∧ w1 = w') := by rw [← hq]; exact HIN.out
         have HQ := lh hq
         clear hq HIN
         go_wp2_with fail
         (with_reducible refine HKA.out.mono ?_)
         rintro e w2 ⟨rfl, rfl⟩
         go_wp2_with fail
         (with_reducible refine HIN2.out.mono ?_)
         rintro e w3 ⟨rfl, rfl⟩
         clear HKA HIN2
         go_wp2
         go_round
         case rel => exact ⟨k + 1, by omega, by go_num, lh (by rw [all_take_succ _ _ (by have := hlen.out; omega), HA.out, HG.out, HQ.out]; rfl)⟩
         case measure => simp [intOf]; omega
        | false =>
         have HIN2 : Hid (Calls Tryz.prog 154 #[.int .u8 kk] w' fun e w1 => e = .returned (.bool false) ∧ w1 = w') := by rw [← hq]; exact HIN.out
         have HQ := lh hq
         clear hq HIN
         go_wp2_with fail
         (with_reducible refine HKA.out.mono ?_)
         rintro e w2 ⟨rfl, rfl⟩
         go_wp2_with fail
         (with_reducible refine HIN2.out.mono ?_)
         rintro e w3 ⟨rfl, rfl⟩
         clear HKA HIN2
         go_wp2
         go_ret
         exact ⟨retB (namesF_no _ k (by have := hlen.out; omega) (by rw [HG.out]; exact HQ.out)).symm, HB.out⟩
      · have hks : k = s.size := by omega
        have HKS := lh hks
        clear hks
        go_wp2
        go_ret
        exact ⟨retB (namesF_yes _ (by have := hlen.out; omega) HL.out (by rw [hlen.out, ← HKS.out]; exact HA.out)).symm, HB.out⟩
   · have hk3' : (k != 3) = true := by simpa using hk3
     have HL : Hid (isLetter ((bytesI s).getD 0 0) = false) := lh (by rw [H00.out, ← KL3.out]; simpa using hk3)
     clear KL3 H00
     go_wp2
     go_ret
     exact ⟨retB (namesF_head _ (by have := hlen.out; omega) HL.out).symm, HB.out⟩
end
section
open Go.RowKit
def marks : List Int := [123, 125, 40, 41, 91, 93, 59, 44, 46, 43, 45, 42, 60, 61]
theorem isMark_yes (c : Int) (k : Nat) (hk : k < 14) (h : marks.getD k 0 = c) : isMark c = true := by
 have hk' : k < marks.length := hk
 have : c ∈ marks := by
  rw [← h, List.getD, List.getElem?_eq_getElem hk', Option.getD_some]
  exact List.getElem_mem hk'
 simpa [isMark, marks] using this
theorem isMark_no (c : Int) (h : ∀ k, k < 14 → marks.getD k 0 ≠ c) : isMark c = false := by
 cases hm : isMark c with
 | false => rfl
 | true =>
  have hin : c ∈ marks := by simpa [isMark, marks] using hm
  obtain ⟨k, hk, e⟩ := List.mem_iff_getElem.1 hin
  exact absurd (by rw [List.getD, List.getElem?_eq_getElem hk, Option.getD_some]; exact e) (h k hk)
theorem one_at (c : Int) (w : World) : Calls Tryz.prog 160 #[.int .u8 c] w fun e w' => e = .returned (.bool (isMark c)) ∧ Below w.heap.size w w' := by
 have kc := fun (w : World) (C : Array Value) (n c : Nat) => Lib.run_convert_bytes_const (P := Tryz.prog) w 22 5 C n c Tryz.underlying22 Tryz.underlying5
 have HC : Hid (∀ k, k < 14 → (w.alloc (.cells #[.int .u8 123, .int .u8 125, .int .u8 40, .int .u8 41, .int .u8 91, .int .u8 93, .int .u8 59, .int .u8 44, .int .u8 46, .int .u8 43, .int .u8 45, .int .u8 42, .int .u8 60, .int .u8 61] 5 (14, 15))).cell? ⟨w.heap.size, k, none⟩ = some (.int .u8 (marks.getD k 0))) := lh (fun k hk => by
  have hs := src_const w #[.int .u8 123, .int .u8 125, .int .u8 40, .int .u8 41, .int .u8 91, .int .u8 93, .int .u8 59, .int .u8 44, .int .u8 46, .int .u8 43, .int .u8 45, .int .u8 42, .int .u8 60, .int .u8 61] marks 14 rfl rfl (by decide) 14 15
  rcases hs.2.2 with ⟨h, _⟩ | ⟨b, off, e, _, _, hx⟩
  · omega
  · simp only [Option.some.injEq, Addr.mk.injEq, and_true] at e
    obtain ⟨rfl, rfl⟩ := e
    have := hx k hk
    rw [Nat.zero_add] at this
    exact this)
 go_enter Tryz.func160, Tryz.ntmps160
 go_wp2_with fail
 go_loop [8] (fun iv => ∃ k : Nat, k ≤ 14 ∧ iv = .int .i64 k ∧ Hid (∀ j, j < k → marks.getD j 0 ≠ c)) (fun iv => 14 - (intOf iv).toNat)
 case atStart => exact ⟨0, by omega, rfl, lh (fun j hj => by omega)⟩
 case round =>
  obtain ⟨k, hk, rfl, HN⟩ := hrel
  by_cases hlt : k < 14
  · have hc := HC.out k hlt
    obtain ⟨m, hm⟩ : ∃ m, marks.getD k 0 = m := ⟨_, rfl⟩
    rw [hm] at hc
    have HM := lh hm
    clear hm kc
    by_cases he : m = c
    · have hd : (m == c) = true := by simpa using he
      have HE := lh he
      clear he
      go_wp2
      go_ret
      exact ⟨retB (isMark_yes c k hlt (HM.out.trans HE.out)).symm, one_below _ _⟩
    · have hd : (m == c) = false := by simpa using he
      have HE := lh he
      clear he
      go_wp2
      go_round
      case rel => exact ⟨k + 1, by omega, by go_num, lh (fun j hj => by
       by_cases hjk : j < k
       · exact HN.out j hjk
       · obtain rfl : j = k := by omega
         rw [HM.out]
         exact HE.out)⟩
      case measure => simp [intOf]; omega
  · clear kc
    go_wp2
    go_ret
    exact ⟨retB (isMark_no c (fun j hj => HN.out j (by omega))).symm, one_below _ _⟩
end
end Go.Proofs.YthdioipfdbbmmaaGreatDoor
