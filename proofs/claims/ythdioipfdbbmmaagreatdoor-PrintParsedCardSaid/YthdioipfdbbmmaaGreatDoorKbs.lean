/- Contracts on the way to the laws of layer 5: PrintPp. -/
import Derived.Test.YthdioipfdbbmmaaGreatDoorKaa
import Derived.Test.YthdioipfdbbmmaaGreatDoorKbq
import Derived.Test.YthdioipfdbbmmaaGreatDoorKbr
set_option linter.all false
set_option maxRecDepth 1000000
set_option maxHeartbeats 16000000
namespace Go.Proofs.YthdioipfdbbmmaaGreatDoor
section
open Go.RowKit Tr Go.Shelf
theorem pp_big (w : World) (p : Option Addr) (len c : Nat) (ns : List Nd) (hT : TV w p len c ns) (ht : PT10 w) (hq : fewQ ns = false) :
 Calls Tryz.prog 5 #[.agg #[.slice p len c]] w fun e w' => e = .returned (.bool true) ∧ Below w.heap.size w w' := by
 have BX0 := lh (bx_new w p len c)
 have FQ := lh (few_at (w.alloc (.cells #[.slice p len c] 39)) p len c ns (hT.on (one_below w _)))
 rw [hq] at FQ
 have HP := lh ht
 have HT := lh hT
 clear hT ht hq
 go_enter Tryz.func5, Tryz.ntmps5
 go_wp2_with fail
 (with_reducible refine FQ.out.mono ?_)
 rintro e w1 ⟨rfl, hb1⟩
 have BX1 := lh (BX0.out.on hb1)
 have x1 := BX1.out.box
 clear hb1 FQ BX0
 have WK := lh (works6 w1 (HP.out.below BX1.out.below))
 go_wp2_with fail
 (with_reducible refine WK.out.mono ?_)
 rintro e w2 ⟨rfl, hb2⟩
 have BX2 := lh (BX1.out.on hb2)
 clear hb2 WK
 go_wp2
 go_ret
 exact ⟨rfl, BX2.out.below⟩
theorem pp_wrong (w : World) (p : Option Addr) (len c : Nat) (ns : List Nd) (hT : TV w p len c ns) (ht : PT10 w) (hq : fewQ ns = true) (hr : rightP ns = false) :
 Calls Tryz.prog 5 #[.agg #[.slice p len c]] w fun e w' => e = .returned (.bool true) ∧ Below w.heap.size w w' := by
 obtain ⟨hS, h200, _⟩ := few_small hq
 have hle := hT.len_eq
 have HS := lh hS
 have HRP := lh hr
 have BX0 := lh (bx_new w p len c)
 have FQ := lh (few_at (w.alloc (.cells #[.slice p len c] 39)) p len c ns (hT.on (one_below w _)))
 rw [hq] at FQ
 have HP := lh ht
 have HT := lh hT
 clear hT ht hq hr hS
 go_enter Tryz.func5, Tryz.ntmps5
 go_wp2_with fail
 (with_reducible refine FQ.out.mono ?_)
 rintro e w1 ⟨rfl, hb1⟩
 have BX1 := lh (BX0.out.on hb1)
 have x1 := BX1.out.box
 clear hb1 FQ BX0
 have RI := lh (right_at w1 p len c ns (HT.out.on BX1.out.below) HS.out)
 rw [HRP.out] at RI
 go_wp2_with fail
 (with_reducible refine RI.out.mono ?_)
 rintro e w2 ⟨rfl, hb2⟩
 have BX2 := lh (BX1.out.on hb2)
 have x2 := BX2.out.box
 clear hb2 RI BX1 x1
 have WK := lh (works6 w2 (HP.out.below BX2.out.below))
 go_wp2_with fail
 (with_reducible refine WK.out.mono ?_)
 rintro e w3 ⟨rfl, hb3⟩
 have BX3 := lh (BX2.out.on hb3)
 clear hb3 WK
 go_wp2
 go_ret
 exact ⟨rfl, BX3.out.below⟩
theorem pp_deep (w : World) (p : Option Addr) (len c : Nat) (ns : List Nd) (hT : TV w p len c ns) (ht : PT10 w) (hq : fewQ ns = true) (hr : rightP ns = true) (hd : 64 < deepP ns) :
 Calls Tryz.prog 5 #[.agg #[.slice p len c]] w fun e w' => e = .returned (.bool true) ∧ Below w.heap.size w w' := by
 obtain ⟨hS, h200, _⟩ := few_small hq
 have hle := hT.len_eq
 have HS := lh hS
 have HRP := lh hr
 have HD := lh hd
 have BX0 := lh (bx_new w p len c)
 have FQ := lh (few_at (w.alloc (.cells #[.slice p len c] 39)) p len c ns (hT.on (one_below w _)))
 rw [hq] at FQ
 have HP := lh ht
 have HT := lh hT
 clear hT ht hq hr hS hd
 go_enter Tryz.func5, Tryz.ntmps5
 go_wp2_with fail
 (with_reducible refine FQ.out.mono ?_)
 rintro e w1 ⟨rfl, hb1⟩
 have BX1 := lh (BX0.out.on hb1)
 have x1 := BX1.out.box
 clear hb1 FQ BX0
 have RI := lh (right_at w1 p len c ns (HT.out.on BX1.out.below) HS.out)
 rw [HRP.out] at RI
 go_wp2_with fail
 (with_reducible refine RI.out.mono ?_)
 rintro e w2 ⟨rfl, hb2⟩
 have BX2 := lh (BX1.out.on hb2)
 have x2 := BX2.out.box
 clear hb2 RI BX1 x1
 have DE := lh (deep_at w2 p len c ns (HT.out.on BX2.out.below) HS.out)
 have hdd : decide ((64 : Int) < (deepP ns : Nat)) = true := by have := HD.out; simp; omega
 generalize deepP ns = dd at *
 go_wp2_with fail
 (with_reducible refine DE.out.mono ?_)
 rintro e w3 ⟨rfl, hb3⟩
 have BX3 := lh (BX2.out.on hb3)
 have x3 := BX3.out.box
 clear hb3 DE BX2 x2
 have WK := lh (works6 w3 (HP.out.below BX3.out.below))
 go_wp2_with fail
 (with_reducible refine WK.out.mono ?_)
 rintro e w4 ⟨rfl, hb4⟩
 have BX4 := lh (BX3.out.on hb4)
 clear hb4 WK
 go_wp2
 go_ret
 exact ⟨rfl, BX4.out.below⟩
theorem pp_main (w : World) (p : Option Addr) (len c : Nat) (ns : List Nd) (hT : TV w p len c ns) (ht : PT10 w) (hq : fewQ ns = true) (hr : rightP ns = true) (hd : deepP ns ≤ 64) :
 Calls Tryz.prog 5 #[.agg #[.slice p len c]] w fun e w' => e = .returned (.bool true) ∧ Below w.heap.size w w' := by
 obtain ⟨hS, h200, _⟩ := few_small hq
 have hle := hT.len_eq
 have HS := lh hS
 have HRP := lh hr
 have HD := lh hd
 obtain ⟨a0, ks, hO, hw, hsz, hfit⟩ := few_tree hq hr
 obtain ⟨a, hpa, hza⟩ := round hw (deep_parts hw (by rw [← deep_tree hO hsz hr]; exact hd))
 have hna : (flat 0 a).map noAt = ns.map noAt := by
  obtain ⟨t, e1, e2⟩ := hO
  obtain ⟨pre, post, e3, e4⟩ := e2
  have e5 : pre = [] := List.eq_nil_of_length_eq_zero e4
  subst e5
  have e6 : post = [] := by
   have h1 := congrArg List.length e3
   rw [List.length_append, List.nil_append, flat_length, noAt_len e1] at h1
   exact List.eq_nil_of_length_eq_zero (by omega)
  subst e6
  rw [List.append_nil, List.nil_append] at e3
  rw [noAt_z hza, ← e1, e3]
 have HNA := lh hna
 have hsm : SmallT (flat 0 a) := by
  refine ⟨by rw [noAt_len hna]; exact hS.len, fun nd hm => ?_⟩
  have h5 : noAt nd ∈ ns.map noAt := by rw [← hna]; exact List.mem_map_of_mem hm
  obtain ⟨md, h6, h7⟩ := List.mem_map.1 h5
  have h8 := hS.each md h6
  have h9 : nd.kids = md.kids ∧ nd.text = md.text := ⟨(show (noAt nd).kids = (noAt md).kids by rw [h7]), (show (noAt nd).text = (noAt md).text by rw [h7])⟩
  rw [h9.1, h9.2]
  exact h8
 have HS2 := lh hsm
 have HR2 : Hid (rightP (flat 0 a) = true) := lh (by rw [← rightP_noAt, hna, rightP_noAt]; exact hr)
 have HO2 : Hid (On (flat 0 a) 0 (.mk 1 a0 none0 0 ks)) := lh (on_again rfl hza)
 have HL2 : Hid ((flat 0 a).length ≤ 70000) := lh hsm.len
 have HO := lh hO
 have HW := lh hw
 have HF := lh hfit
 have HPA := lh hpa
 have HSS : Hid (sameP ns (flat 0 a) = true) := lh (same_noAt hna.symm)
 have BX0 := lh (bx_new w p len c)
 have FQ := lh (few_at (w.alloc (.cells #[.slice p len c] 39)) p len c ns (hT.on (one_below w _)))
 rw [hq] at FQ
 have HP := lh ht
 have HT := lh hT
 clear hT ht hq hr hS hd hO hw hsz hfit hpa hza hna hsm
 generalize flat 0 a = ms at *
 go_enter Tryz.func5, Tryz.ntmps5
 go_wp2_with fail
 (with_reducible refine FQ.out.mono ?_)
 rintro e w1 ⟨rfl, hb1⟩
 have BX1 := lh (BX0.out.on hb1)
 have x1 := BX1.out.box
 clear hb1 FQ BX0
 have RI := lh (right_at w1 p len c ns (HT.out.on BX1.out.below) HS.out)
 rw [HRP.out] at RI
 go_wp2_with fail
 (with_reducible refine RI.out.mono ?_)
 rintro e w2 ⟨rfl, hb2⟩
 have BX2 := lh (BX1.out.on hb2)
 have x2 := BX2.out.box
 clear hb2 RI BX1 x1
 have DE := lh (deep_at w2 p len c ns (HT.out.on BX2.out.below) HS.out)
 have hdd : decide ((64 : Int) < (deepP ns : Nat)) = false := by have := HD.out; simp; omega
 generalize deepP ns = dd at *
 go_wp2_with fail
 (with_reducible refine DE.out.mono ?_)
 rintro e w3 ⟨rfl, hb3⟩
 have BX3 := lh (BX2.out.on hb3)
 have x3 := BX3.out.box
 clear hb3 DE BX2 x2
 have PR := lh (print_yes w3 p len c ns (HT.out.on BX3.out.below) HS.out (HP.out.below BX3.out.below) HRP.out a0 none0 0 ks HO.out HW.out (by omega) HF.out)
 go_wp2_with fail
 (with_reducible refine PR.out.mono ?_)
 rintro e w4 ⟨v, rfl, hb4, hown⟩
 have BX4 := lh (BX3.out.on hb4)
 have x4 := BX4.out.box
 obtain ⟨vp, vc, rfl, hsv⟩ := src_row hown
 have SV := lh hsv
 have PA := lh (parse_at w4 vp (progL ks).size vc _ hsv HF.out)
 clear hb4 hown hsv PR BX3 x3
 go_wp2_with fail
 (with_reducible refine PA.out.mono ?_)
 rintro e w5 ⟨hb5, hm⟩
 rw [HPA.out] at hm
 obtain ⟨up, un, uc, rfl, hU⟩ := hm
 have hbx := one_below w5 (.cells #[.slice up un uc] 39)
 have BX6 := lh ((BX4.out.on hb5).on hbx)
 have x6 := BX6.out.box
 have UT := lh (hU.on hbx)
 have SV := lh ((SV.out.below hb5).below hbx)
 have UB : Hid ((w5.alloc (.cells #[.slice up un uc] 39)).cell? ⟨w5.heap.size, 0, none⟩ = some (.slice up un uc)) := lh (by simp)
 have UL : Hid (w5.heap.size < (w5.alloc (.cells #[.slice up un uc] 39)).heap.size) := lh (by simp)
 have SA := lh (Tr.same_at (w5.alloc (.cells #[.slice up un uc] 39)) p up len c un uc ns ms (HT.out.on BX6.out.below) UT.out ⟨HS.out.len, fun nd hm => (HS.out.each nd hm).1⟩)
 rw [HSS.out] at SA
 clear hb5 hU hbx PA BX4 x4
 go_wp2_with fail
 (with_reducible refine SA.out.mono ?_)
 rintro e w7 ⟨rfl, hb7⟩
 have BX7 := lh (BX6.out.on hb7)
 have u7 := (hb7.cell (p := ⟨w5.heap.size, 0, none⟩) UL.out).trans UB.out
 have UT := lh (UT.out.on hb7)
 have SV := lh (SV.out.below hb7)
 have hun := UT.out.len_eq
 have PR := lh (print_yes w7 up un uc ms UT.out HS2.out (HP.out.below BX7.out.below) HR2.out a0 none0 0 ks HO2.out HW.out (by have := HL2.out; omega) HF.out)
 clear hb7 SA BX6 x6 UB UL
 go_wp2_with fail
 (with_reducible refine PR.out.mono ?_)
 rintro e w8 ⟨v2, rfl, hb8, hown⟩
 have BX8 := lh (BX7.out.on hb8)
 obtain ⟨vp2, vc2, rfl, hsv2⟩ := src_row hown
 have SB := lh (sameBytes_at w8 vp vp2 (progL ks).size vc vc2 _ (SV.out.below hb8) hsv2)
 clear hb8 hown hsv2 PR BX7 u7
 go_wp2_with fail
 (with_reducible refine SB.out.mono ?_)
 rintro e w8 ⟨rfl, rfl⟩
 have WK := lh (works6 _ (HP.out.below BX8.out.below))
 go_wp2_with fail
 (with_reducible refine WK.out.mono ?_)
 rintro e w9 ⟨rfl, hb9⟩
 have BX9 := lh (BX8.out.on hb9)
 clear hb9 WK
 go_wp2
 go_ret
 exact ⟨rfl, BX9.out.below⟩
theorem printParsed (w : World) (p : Option Addr) (len c : Nat) (ns : List Nd) (hT : TV w p len c ns) (ht : PT10 w) :
 Calls Tryz.prog 5 #[.agg #[.slice p len c]] w fun e w' => e = .returned (.bool true) ∧ Below w.heap.size w w' := by
 cases hq : fewQ ns with
 | false => exact pp_big w p len c ns hT ht hq
 | true =>
  cases hr : rightP ns with
  | false => exact pp_wrong w p len c ns hT ht hq hr
  | true =>
   by_cases hd : deepP ns ≤ 64
   · exact pp_main w p len c ns hT ht hq hr hd
   · exact pp_deep w p len c ns hT ht hq hr (by omega)
end
end Go.Proofs.YthdioipfdbbmmaaGreatDoor
