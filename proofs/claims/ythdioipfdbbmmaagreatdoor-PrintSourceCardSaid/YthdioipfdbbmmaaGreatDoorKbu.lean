/- Contracts on the way to the laws of layer 5: PrintSr. -/
import Derived.Test.YthdioipfdbbmmaaGreatDoorKaa
import Derived.Test.YthdioipfdbbmmaaGreatDoorKbq
import Derived.Test.YthdioipfdbbmmaaGreatDoorKbt
set_option linter.all false
set_option maxRecDepth 1000000
set_option maxHeartbeats 16000000
namespace Go.Proofs.YthdioipfdbbmmaaGreatDoor
section
open Go.RowKit Tr Go.Shelf
theorem so_big (w : World) (p : Option Addr) (len c : Nat) (xs : List Int) (hs : Src w p len c xs) (ht : PT10 w) (hl : 1000 < len) :
 Calls Tryz.prog 6 #[.slice p len c] w fun e w' => e = .returned (.bool true) ∧ Below w.heap.size w w' := by
 have HP := lh ht
 have HB := lh (Below.refl w.heap.size w)
 have WK := lh (works6 w ht)
 clear hs ht
 go_enter Tryz.func6, Tryz.ntmps6
 go_wp2_with fail
 (with_reducible refine WK.out.mono ?_)
 rintro e w2 ⟨rfl, hb2⟩
 have HB2 := lh hb2
 clear hb2
 go_wp2
 go_ret
 exact ⟨rfl, HB2.out⟩
theorem so_err (w : World) (p : Option Addr) (len c : Nat) (xs : List Int) (hs : Src w p len c xs) (ht : PT10 w) (hl : len ≤ 1000) (er : Nat × Int) (hp : parseS xs = .error er) :
 Calls Tryz.prog 6 #[.slice p len c] w fun e w' => e = .returned (.bool true) ∧ Below w.heap.size w w' := by
 have PA := lh (parse_at w p len c xs hs (by omega))
 have HPA := lh hp
 have HP := lh ht
 clear hs ht hp
 go_enter Tryz.func6, Tryz.ntmps6
 go_wp2_with fail
 (with_reducible refine PA.out.mono ?_)
 rintro e w1 ⟨hb1, hm⟩
 rw [HPA.out] at hm
 obtain ⟨er1, er2⟩ := er
 obtain ⟨C, l, cc, rfl, hE⟩ := hm
 have HB1 := lh hb1
 have BX1 := lh (bx_new w1 none 0 0)
 have x1 := BX1.out.box
 have WK := lh (works6 (w1.alloc (.cells #[.slice none 0 0] 39)) ((HP.out.below hb1).below (one_below w1 _)))
 clear hb1 hE PA
 go_wp2_with fail
 (with_reducible refine WK.out.mono ?_)
 rintro e w2 ⟨rfl, hb2⟩
 have BX2 := lh (BX1.out.on hb2)
 clear hb2
 go_wp2
 go_ret
 exact ⟨rfl, HB1.out.trans (BX2.out.below.mono HB1.out.size)⟩
theorem so_main (w : World) (p : Option Addr) (len c : Nat) (xs : List Int) (hs : Src w p len c xs) (ht : PT10 w) (hl : len ≤ 1000) (ns : List Nd) (hp : parseS xs = .ok ns) :
 Calls Tryz.prog 6 #[.slice p len c] w fun e w' => e = .returned (.bool true) ∧ Below w.heap.size w w' := by
 have hxl : xs.length ≤ 1000 := by rw [hs.1]; exact hl
 obtain ⟨a0, ks, hns, hw, hd, hfit⟩ := fits_src hp hxl
 obtain ⟨hrp, htx⟩ := parse_right hp (by omega)
 have hsf := parse_few hp (by omega)
 have hsk : Tr.Small ns := ⟨hsf.1, hsf.2⟩
 have HS : Hid (SmallT ns) := lh ⟨hsk.len, fun nd hm => ⟨hsk.each nd hm, htx nd hm⟩⟩
 have HSK := lh hsk
 have HRP := lh hrp
 obtain ⟨a, hpa, hza⟩ := round hw hd
 have hna : (flat 0 a).map noAt = ns.map noAt := by rw [noAt_z hza, hns]
 have hO : On ns 0 (.mk 1 a0 none0 0 ks) := on_again (by rw [hns]) rfl
 have HO := lh hO
 have hsm : SmallT (flat 0 a) := by
  refine ⟨by rw [noAt_len hna]; exact hsk.len, fun nd hm => ?_⟩
  have h5 : noAt nd ∈ ns.map noAt := by rw [← hna]; exact List.mem_map_of_mem hm
  obtain ⟨md, h6, h7⟩ := List.mem_map.1 h5
  have h8 := HS.out.each md h6
  have h9 : nd.kids = md.kids ∧ nd.text = md.text := ⟨(show (noAt nd).kids = (noAt md).kids by rw [h7]), (show (noAt nd).text = (noAt md).text by rw [h7])⟩
  rw [h9.1, h9.2]
  exact h8
 have HS2 := lh hsm
 have HR2 : Hid (rightP (flat 0 a) = true) := lh (by rw [← rightP_noAt, hna, rightP_noAt]; exact hrp)
 have HO2 : Hid (On (flat 0 a) 0 (.mk 1 a0 none0 0 ks)) := lh (on_again rfl hza)
 have HL2 : Hid ((flat 0 a).length ≤ 70000) := lh hsm.len
 have HW := lh hw
 have HF := lh hfit
 have HPA := lh hpa
 have HPP := lh hp
 have HSS : Hid (sameP ns (flat 0 a) = true) := lh (same_noAt hna.symm)
 have PA0 := lh (parse_at w p len c xs hs (by omega))
 have HP := lh ht
 clear hs ht hp hxl hsf hns hw hd hfit hrp htx hsk hpa hza hna hO hsm
 generalize flat 0 a = ms at *
 go_enter Tryz.func6, Tryz.ntmps6
 go_wp2_with fail
 (with_reducible refine PA0.out.mono ?_)
 rintro e w0 ⟨hb0, hm⟩
 rw [HPP.out] at hm
 obtain ⟨tp, tn, tc, rfl, hT⟩ := hm
 have HB0 := lh hb0
 have HP := lh (HP.out.below hb0)
 have BX3 := lh (bx_new w0 tp tn tc)
 have x3 := BX3.out.box
 have HT := lh hT
 have htn := hT.len_eq
 have hn7 : tn ≤ 70000 := by have := HS.out.len; omega
 have PR := lh (print_yes (w0.alloc (.cells #[.slice tp tn tc] 39)) tp tn tc ns (HT.out.on BX3.out.below) HS.out (HP.out.below BX3.out.below) HRP.out a0 none0 0 ks HO.out HW.out hn7 HF.out)
 clear hb0 hT PA0 HPP
 go_wp2_with fail
 (with_reducible refine PR.out.mono ?_)
 rintro e w4 ⟨v, rfl, hb4, hown⟩
 have BX4 := lh (BX3.out.on hb4)
 have x4 := BX4.out.box
 obtain ⟨vp, vc, rfl, hsv⟩ := src_row hown
 have SV := lh hsv
 have PA := lh (parse_at w4 vp (progL ks).size vc _ hsv HF.out)
 clear hb4 hown hsv PR BX3 x3
 go_wp2_with fail
 (with_reducible refine PA.out.mono ?_)
 rintro e w5 ⟨hb5, hm⟩
 rw [HPA.out] at hm
 obtain ⟨up, un, uc, rfl, hU⟩ := hm
 have hbx := one_below w5 (.cells #[.slice up un uc] 39)
 have BX6 := lh ((BX4.out.on hb5).on hbx)
 have x6 := BX6.out.box
 have UT := lh (hU.on hbx)
 have SV := lh ((SV.out.below hb5).below hbx)
 have UB : Hid ((w5.alloc (.cells #[.slice up un uc] 39)).cell? ⟨w5.heap.size, 0, none⟩ = some (.slice up un uc)) := lh (by simp)
 have UL : Hid (w5.heap.size < (w5.alloc (.cells #[.slice up un uc] 39)).heap.size) := lh (by simp)
 have hun := UT.out.len_eq
 have u6 := UB.out
 have PR := lh (print_yes (w5.alloc (.cells #[.slice up un uc] 39)) up un uc ms UT.out HS2.out (HP.out.below BX6.out.below) HR2.out a0 none0 0 ks HO2.out HW.out (by have := HL2.out; omega) HF.out)
 clear hb5 hU hbx PA BX4 x4
 go_wp2_with fail
 (with_reducible refine PR.out.mono ?_)
 rintro e w7 ⟨v2, rfl, hb7, hown⟩
 have BX7 := lh (BX6.out.on hb7)
 have x7 := BX7.out.box
 have u7 := (hb7.cell (p := ⟨w5.heap.size, 0, none⟩) UL.out).trans UB.out
 have UT := lh (UT.out.on hb7)
 have SV := lh (SV.out.below hb7)
 obtain ⟨vp2, vc2, rfl, hsv2⟩ := src_row hown
 have SV2 := lh hsv2
 have SA := lh (Tr.same_at w7 tp up tn tc un uc ns ms (HT.out.on BX7.out.below) UT.out HSK.out)
 rw [HSS.out] at SA
 clear hb7 hown hsv2 PR BX6 x6 u6 UB UL
 go_wp2_with fail
 (with_reducible refine SA.out.mono ?_)
 rintro e w8 ⟨rfl, hb8⟩
 have BX8 := lh (BX7.out.on hb8)
 have SB := lh (sameBytes_at w8 vp vp2 (progL ks).size vc vc2 _ (SV.out.below hb8) (SV2.out.below hb8))
 clear hb8 SA BX7 x7 u7
 go_wp2_with fail
 (with_reducible refine SB.out.mono ?_)
 rintro e w8 ⟨rfl, rfl⟩
 have WK := lh (works6 _ (HP.out.below BX8.out.below))
 go_wp2_with fail
 (with_reducible refine WK.out.mono ?_)
 rintro e w9 ⟨rfl, hb9⟩
 have BX9 := lh (BX8.out.on hb9)
 clear hb9 WK
 go_wp2
 go_ret
 exact ⟨rfl, HB0.out.trans (BX9.out.below.mono HB0.out.size)⟩
theorem printSource (w : World) (p : Option Addr) (len c : Nat) (xs : List Int) (hs : Src w p len c xs) (ht : PT10 w) :
 Calls Tryz.prog 6 #[.slice p len c] w fun e w' => e = .returned (.bool true) ∧ Below w.heap.size w w' := by
 by_cases hl : len ≤ 1000
 · cases hp : parseS xs with
   | error er => exact so_err w p len c xs hs ht hl er hp
   | ok ns => exact so_main w p len c xs hs ht hl ns hp
 · exact so_big w p len c xs hs ht (by omega)
end
end Go.Proofs.YthdioipfdbbmmaaGreatDoor
