/- Contracts on the way to the laws of layer 5: PrintEx. -/
import Derived.Test.YthdioipfdbbmmaaGreatDoorKaa
import Derived.Test.YthdioipfdbbmmaaGreatDoorKai
import Derived.Test.YthdioipfdbbmmaaGreatDoorKan
import Derived.Test.YthdioipfdbbmmaaGreatDoorKbk
import Derived.Test.YthdioipfdbbmmaaGreatDoorKbm
import Derived.Test.YthdioipfdbbmmaaGreatDoorKbn
import Derived.Test.YthdioipfdbbmmaaGreatDoorKbo
import Derived.Test.YthdioipfdbbmmaaGreatDoorKbp
import Derived.Test.YthdioipfdbbmmaaGreatDoorKbq
import Derived.BigRegion
set_option linter.all false
set_option maxRecDepth 1000000
set_option maxHeartbeats 16000000
namespace Go.Proofs.YthdioipfdbbmmaaGreatDoor
section
open Go.RowKit Tr Go.Shelf
theorem pe_big (w : World) (p : Option Addr) (len c : Nat) (ns : List Nd) (hT : TV w p len c ns) (ht : PT10 w) (hq : fewQ ns = false) :
 Calls Tryz.prog 7 #[.agg #[.slice p len c]] w fun e w' => e = .returned (.bool true) ∧ Below w.heap.size w w' := by
 have BX0 := lh (bx_new w p len c)
 have FQ := lh (few_at (w.alloc (.cells #[.slice p len c] 39)) p len c ns (hT.on (one_below w _)))
 rw [hq] at FQ
 have HP := lh ht
 have HT := lh hT
 clear hT ht hq
 go_enter Tryz.func7, Tryz.ntmps7
 go_wp2_with fail
 (with_reducible refine FQ.out.mono ?_)
 rintro e w1 ⟨rfl, hb1⟩
 have BX1 := lh (BX0.out.on hb1)
 have x1 := BX1.out.box
 clear hb1 FQ BX0
 have WK := lh (works6 w1 (HP.out.below BX1.out.below))
 go_wp2_with fail
 (with_reducible refine WK.out.mono ?_)
 rintro e w2 ⟨rfl, hb2⟩
 have BX2 := lh (BX1.out.on hb2)
 clear hb2 WK
 go_wp2
 go_ret
 exact ⟨rfl, BX2.out.below⟩
theorem pe_wrong (w : World) (p : Option Addr) (len c : Nat) (ns : List Nd) (hT : TV w p len c ns) (ht : PT10 w) (hq : fewQ ns = true) (hr : rightP ns = false) :
 Calls Tryz.prog 7 #[.agg #[.slice p len c]] w fun e w' => e = .returned (.bool true) ∧ Below w.heap.size w w' := by
 obtain ⟨hS, h200, _⟩ := few_small hq
 have hle := hT.len_eq
 have HS := lh hS
 have HRP := lh hr
 have BX0 := lh (bx_new w p len c)
 have FQ := lh (few_at (w.alloc (.cells #[.slice p len c] 39)) p len c ns (hT.on (one_below w _)))
 rw [hq] at FQ
 have HP := lh ht
 have HT := lh hT
 clear hT ht hq hr hS
 go_enter Tryz.func7, Tryz.ntmps7
 go_wp2_with fail
 (with_reducible refine FQ.out.mono ?_)
 rintro e w1 ⟨rfl, hb1⟩
 have BX1 := lh (BX0.out.on hb1)
 have x1 := BX1.out.box
 clear hb1 FQ BX0
 have RI := lh (right_at w1 p len c ns (HT.out.on BX1.out.below) HS.out)
 rw [HRP.out] at RI
 go_wp2_with fail
 (with_reducible refine RI.out.mono ?_)
 rintro e w2 ⟨rfl, hb2⟩
 have BX2 := lh (BX1.out.on hb2)
 have x2 := BX2.out.box
 clear hb2 RI BX1 x1
 have WK := lh (works6 w2 (HP.out.below BX2.out.below))
 go_wp2_with fail
 (with_reducible refine WK.out.mono ?_)
 rintro e w3 ⟨rfl, hb3⟩
 have BX3 := lh (BX2.out.on hb3)
 clear hb3 WK
 go_wp2
 go_ret
 exact ⟨rfl, BX3.out.below⟩
theorem pe_deep (w : World) (p : Option Addr) (len c : Nat) (ns : List Nd) (hT : TV w p len c ns) (ht : PT10 w) (hq : fewQ ns = true) (hr : rightP ns = true) (hd : 62 < deepP ns) :
 Calls Tryz.prog 7 #[.agg #[.slice p len c]] w fun e w' => e = .returned (.bool true) ∧ Below w.heap.size w w' := by
 obtain ⟨hS, h200, _⟩ := few_small hq
 have hle := hT.len_eq
 have HS := lh hS
 have HRP := lh hr
 have HD := lh hd
 have BX0 := lh (bx_new w p len c)
 have FQ := lh (few_at (w.alloc (.cells #[.slice p len c] 39)) p len c ns (hT.on (one_below w _)))
 rw [hq] at FQ
 have HP := lh ht
 have HT := lh hT
 clear hT ht hq hr hS hd
 go_enter Tryz.func7, Tryz.ntmps7
 go_wp2_with fail
 (with_reducible refine FQ.out.mono ?_)
 rintro e w1 ⟨rfl, hb1⟩
 have BX1 := lh (BX0.out.on hb1)
 have x1 := BX1.out.box
 clear hb1 FQ BX0
 have RI := lh (right_at w1 p len c ns (HT.out.on BX1.out.below) HS.out)
 rw [HRP.out] at RI
 go_wp2_with fail
 (with_reducible refine RI.out.mono ?_)
 rintro e w2 ⟨rfl, hb2⟩
 have BX2 := lh (BX1.out.on hb2)
 have x2 := BX2.out.box
 clear hb2 RI BX1 x1
 have DE := lh (deep_at w2 p len c ns (HT.out.on BX2.out.below) HS.out)
 have hdd : decide ((62 : Int) < (deepP ns : Nat)) = true := by have := HD.out; simp; omega
 generalize deepP ns = dd at *
 go_wp2_with fail
 (with_reducible refine DE.out.mono ?_)
 rintro e w3 ⟨rfl, hb3⟩
 have BX3 := lh (BX2.out.on hb3)
 have x3 := BX3.out.box
 clear hb3 DE BX2 x2
 have WK := lh (works6 w3 (HP.out.below BX3.out.below))
 go_wp2_with fail
 (with_reducible refine WK.out.mono ?_)
 rintro e w4 ⟨rfl, hb4⟩
 have BX4 := lh (BX3.out.on hb4)
 clear hb4 WK
 go_wp2
 go_ret
 exact ⟨rfl, BX4.out.below⟩
theorem pe_main (w : World) (p : Option Addr) (len c : Nat) (ns : List Nd) (hT : TV w p len c ns) (ht : PT10 w) (hq : fewQ ns = true) (hr : rightP ns = true) (hd : deepP ns ≤ 62) :
 Calls Tryz.prog 7 #[.agg #[.slice p len c]] w fun e w' => e = .returned (.bool true) ∧ Below w.heap.size w w' := by
 obtain ⟨hS, h200, _⟩ := few_small hq
 have hle := hT.len_eq
 have HS := lh hS
 have HRP := lh hr
 have HD := lh hd
 have HX := lh (fun q hql hk => ex_facts hq hr hd q hql hk)
 have BX0 := lh (bx_new w p len c)
 have FQ := lh (few_at (w.alloc (.cells #[.slice p len c] 39)) p len c ns (hT.on (one_below w _)))
 rw [hq] at FQ
 have HP := lh ht
 have HT := lh hT
 have HLE := lh hle
 clear hT ht hq hr hS hd hle
 go_enter Tryz.func7, Tryz.ntmps7
 go_wp2_with fail
 (with_reducible refine FQ.out.mono ?_)
 rintro e w1 ⟨rfl, hb1⟩
 have BX1 := lh (BX0.out.on hb1)
 have x1 := BX1.out.box
 clear hb1 FQ BX0
 have RI := lh (right_at w1 p len c ns (HT.out.on BX1.out.below) HS.out)
 rw [HRP.out] at RI
 go_wp2_with fail
 (with_reducible refine RI.out.mono ?_)
 rintro e w2 ⟨rfl, hb2⟩
 have BX2 := lh (BX1.out.on hb2)
 have x2 := BX2.out.box
 clear hb2 RI BX1 x1
 have DE := lh (deep_at w2 p len c ns (HT.out.on BX2.out.below) HS.out)
 have hdd : decide ((62 : Int) < (deepP ns : Nat)) = false := by have := HD.out; simp; omega
 generalize deepP ns = dd at *
 go_wp2_with fail
 (with_reducible refine DE.out.mono ?_)
 rintro e w3 ⟨rfl, hb3⟩
 have BX3 := lh (BX2.out.on hb3)
 have x3 := BX3.out.box
 clear hb3 DE BX2 x2
 have hl2 : len ≤ 200 := by have := HLE.out; omega
 have hcv : ∀ (W : World) (s : ByteArray), (convert 9 22 (.string s)).run Tryz.prog W = .ok (.slice (some ⟨W.heap.size, 0, none⟩) s.size (grownCap W s.size 0 5)) (Lib.bytesWorld W 5 s) := fun W s => Lib.run_convert_string_bytes W 9 22 5 s Tryz.underlying9 Tryz.underlying22 Tryz.underlying5
 go_wp2_with fail
 go_loopw [3] (fun iv wr => ∃ i : Nat, i ≤ len ∧ iv = .int .i64 i ∧ Hid (BX w p len c wr)) (fun iv _ => len - (intOf iv).toNat)
 case atStart => exact ⟨0, by omega, rfl, BX3⟩
 case round =>
  obtain ⟨i, hil, rfl, BR⟩ := hrel
  have xr := BR.out.box
  by_cases hlt : i < len
  · obtain ⟨nb, off, rfl, hbl, hc⟩ := (HT.out.on BR.out.below).node (by omega)
    obtain ⟨kp, kl, kc, hn⟩ := hc i hlt
    have k0 := hn.kind
    have b0 : (0 : Int) ≤ (i : Int) := by omega
    have b1 : (i : Int) < (len : Int) := by omega
    by_cases hk : (ns.getD i default).kind < 21
    · have hkk : decide ((ns.getD i default).kind < 21) = true := by rw [decide_eq_true_eq]; exact hk
      generalize ns.getD i default = nd at *
      clear hc hn
      go_wp2_with fail
      go_roundw
      case rel => exact ⟨i + 1, by omega, by go_num, BR⟩
      case measure => simp [intOf]; omega
    · have hkk : decide ((ns.getD i default).kind < 21) = false := by rw [decide_eq_false_iff_not]; exact hk
      obtain ⟨y, a, hO, hw, hk20, hq0, hsz, hes, hps, hln, hqs, hcore⟩ := HX.out i (by have := HLE.out; omega) (by omega)
      have EX : Hid (Calls Tryz.prog 27 #[.agg #[.slice (some ⟨nb, off, none⟩) len c], .int .i64 (i : Int)] wr fun e w' => e = .returned (.tuple #[.string (exT y), .nilIface]) ∧ Below wr.heap.size wr w') := lh (by cases y with | mk k a s n kys => exact expr_yes wr _ len c ns (HT.out.on BR.out.below) HS.out (HP.out.below BR.out.below) HRP.out _ k i a s n kys rfl hO hw hk20 hq0 (by have := HLE.out; omega))
      have HPS := lh hps
      have HLN := lh hln
      have HQS := lh hqs
      have HCO := lh hcore
      have HSZ := lh hsz
      clear hc hn hO hw hk20 hq0 hsz hps hln hqs hcore
      generalize exT y = EY at *
      generalize y.size = YS at *
      generalize flat 0 a = ms at *
      go_wp2_with fail
      (with_reducible refine EX.out.mono ?_)
      rintro e w4 ⟨rfl, hb4⟩
      have BX4 := lh (BR.out.on hb4)
      have x4 := BX4.out.box
      have h16 : headX = ⟨#[112, 114, 111, 99, 32, 112, 40, 41, 32, 123, 32, 101, 109, 105, 116, 32]⟩ := rfl
      have h17 : tailX = ⟨#[59, 32, 125]⟩ := rfl
      rw [h16, h17] at HPS
      clear h16 h17
      have hsz : (((⟨#[112, 114, 111, 99, 32, 112, 40, 41, 32, 123, 32, 101, 109, 105, 116, 32]⟩ ++ EY) ++ ⟨#[59, 32, 125]⟩) : ByteArray).size = 16 + EY.size + 3 := by rw [ByteArray.size_append, ByteArray.size_append]; rfl
      have PA := parse_at (Lib.bytesWorld w4 5 ((⟨#[112, 114, 111, 99, 32, 112, 40, 41, 32, 123, 32, 101, 109, 105, 116, 32]⟩ ++ EY) ++ ⟨#[59, 32, 125]⟩)) (some ⟨w4.heap.size, 0, none⟩) ((⟨#[112, 114, 111, 99, 32, 112, 40, 41, 32, 123, 32, 101, 109, 105, 116, 32]⟩ ++ EY) ++ ⟨#[59, 32, 125]⟩).size (grownCap w4 ((⟨#[112, 114, 111, 99, 32, 112, 40, 41, 32, 123, 32, 101, 109, 105, 116, 32]⟩ ++ EY) ++ ⟨#[59, 32, 125]⟩).size 0 5) _ (bw_src w4 _) (by omega)
      rw [hsz] at PA
      have PAH := lh PA
      have HBW := lh (bw_below w4 ((⟨#[112, 114, 111, 99, 32, 112, 40, 41, 32, 123, 32, 101, 109, 105, 116, 32]⟩ ++ EY) ++ ⟨#[59, 32, 125]⟩))
      clear hb4 EX PA hsz
      go_wp2_with fail
      (with_reducible refine PAH.out.mono ?_)
      rintro e w5 ⟨hb5, hm⟩
      rw [HPS.out] at hm
      obtain ⟨up, un, uc, rfl, hU⟩ := hm
      have BX5 := lh ((BX4.out.on HBW.out).on hb5)
      have x5 := BX5.out.box
      have BX6 := lh (BX5.out.on (one_below w5 (.cells #[.slice up un uc] 39)))
      have x6 := BX6.out.box
      have UT := lh (hU.on (one_below w5 (.cells #[.slice up un uc] 39)))
      have UB : Hid ((w5.alloc (.cells #[.slice up un uc] 39)).cell? ⟨w5.heap.size, 0, none⟩ = some (.slice up un uc)) := lh (by simp)
      have UL : Hid (w5.heap.size < (w5.alloc (.cells #[.slice up un uc] 39)).heap.size) := lh (by simp)
      have SI := lh (size_at (w5.alloc (.cells #[.slice up un uc] 39)) (some ⟨nb, off, none⟩) len c ns (i : Int) (HT.out.on BX6.out.below) HS.out)
      rw [HSZ.out] at SI
      clear hb5 hU PAH BX4 x4 HBW HPS
      go_wp2_with fail
      (with_reducible refine SI.out.mono ?_)
      rintro e w6 ⟨rfl, hb6⟩
      have BX7 := lh (BX6.out.on hb6)
      have u7 := (hb6.cell (p := ⟨w5.heap.size, 0, none⟩) UL.out).trans UB.out
      have UT := lh (UT.out.on hb6)
      have hun : un = 5 + YS := by rw [← UT.out.len_eq]; exact HLN.out
      have hys : YS ≤ 200 := by have := HQS.out; omega
      have ULT : Hid (w5.heap.size < w6.heap.size) := lh (by have := hb6.size; have := UL.out; omega)
      subst hun
      have hne : (((5 + YS : Nat) : Int) != 5 + (YS : Int)) = false := by simp
      clear hb6 SI BX6 x6 x5 UB UL
      go_wp2_with fail
      go_loopw [9] (fun jv wj => ∃ j : Nat, j ≤ YS ∧ jv = .int .i64 j ∧ Hid (BX w (some ⟨nb, off, none⟩) len c wj) ∧ Hid (Below w6.heap.size w6 wj)) (fun jv _ => YS - (intOf jv).toNat)
      case atStart => exact ⟨0, by omega, rfl, BX7, lh (Below.refl _ _)⟩
      case round =>
       obtain ⟨j, hj, rfl, BJ, HJ⟩ := hrel
       have xj := BJ.out.box
       have uj := (HJ.out.cell (p := ⟨w5.heap.size, 0, none⟩) ULT.out).trans u7
       by_cases hjl : j < YS
       · obtain ⟨nb1, off1, e1, hbl1, hc1⟩ := (HT.out.on BJ.out.below).node (by omega)
         cases e1
         obtain ⟨nb2, off2, e2, hbl2, hc2⟩ := (UT.out.on HJ.out).node (by omega)
         cases e2
         obtain ⟨kp1, kl1, kc1, hn1⟩ := hc1 (i + j) (by have := HQS.out; have := HLE.out; omega)
         obtain ⟨kp2, kl2, kc2, hn2⟩ := hc2 (5 + j) (by omega)
         have hco := HCO.out j hjl
         have f0 : (0 : Int) ≤ (i : Int) + (j : Int) := by omega
         have f1 : (i : Int) + (j : Int) < (len : Int) := by have := HQS.out; have := HLE.out; omega
         have f2 : (0 : Int) ≤ 5 + (j : Int) := by omega
         have f3 : (5 : Int) + (j : Int) < ((5 + YS : Nat) : Int) := by omega
         generalize ns.getD (i + j) default = a1 at *
         generalize ms.getD (5 + j) default = a2 at *
         have t0 : ((i : Int) + (j : Int)).toNat = i + j := by omega
         have t1 : ((5 : Int) + (j : Int)).toNat = 5 + j := by omega
         have hys2 : j ≤ 200 := by omega
         have g0 : IntKind.i64.wrap ((i : Int) + (j : Int)) = (i : Int) + (j : Int) := IntWalk.i64_in _ (by omega)
         have g1 : IntKind.i64.wrap ((5 : Int) + (j : Int)) = (5 : Int) + (j : Int) := IntWalk.i64_in _ (by omega)
         obtain ⟨q0, q2, q3, q4⟩ : a2.kind = a1.kind ∧ a2.text = a1.text ∧ a2.n = a1.n ∧ a2.kids.length = a1.kids.length := by
          simp only [coreN, Prod.mk.injEq] at hco
          exact ⟨hco.1.symm, hco.2.1.symm, hco.2.2.1.symm, hco.2.2.2.symm⟩
         have q5 : kl2 = kl1 := by have := hn1.iv.len_eq; have := hn2.iv.len_eq; omega
         subst q5
         have k0 := hn1.kind
         have k1 := hn1.at'
         have k2 := hn1.text
         have k3 := hn1.n
         have k4 := hn1.kids
         have m0 := hn2.kind
         have m1 := hn2.at'
         have m2 := hn2.text
         have m3 := hn2.n
         have m4 := hn2.kids
         rw [q0] at m0
         rw [q2] at m2
         rw [q3] at m3
         have hw5 : w5.heap.size < wr.heap.size := by have := HJ.out.size; have := ULT.out; omega
         have hw0 := BJ.out.lt
         have k0a : (wr.alloc (.cells #[.int .u8 0, .int .i64 0, .string ⟨#[]⟩, .int .i64 0, .slice none 0 0] 54)).cell? ⟨nb, off + (i + j) * 5, none⟩ = some (.int .u8 a1.kind) := by rw [World.cell?_alloc_past _ _ _ hbl1]; exact k0
         have k0b : ((wr.alloc (.cells #[.int .u8 0, .int .i64 0, .string ⟨#[]⟩, .int .i64 0, .slice none 0 0] 54)).alloc (.cells #[.int .u8 0, .int .i64 0, .string ⟨#[]⟩, .int .i64 0, .slice none 0 0] 54)).cell? ⟨nb, off + (i + j) * 5, none⟩ = some (.int .u8 a1.kind) := by rw [World.cell?_alloc_past _ _ _ (by simp; omega)]; exact k0a
         have m0a : (wr.alloc (.cells #[.int .u8 0, .int .i64 0, .string ⟨#[]⟩, .int .i64 0, .slice none 0 0] 54)).cell? ⟨nb2, off2 + (5 + j) * 5, none⟩ = some (.int .u8 a1.kind) := by rw [World.cell?_alloc_past _ _ _ hbl2]; exact m0
         have m0b : ((wr.alloc (.cells #[.int .u8 0, .int .i64 0, .string ⟨#[]⟩, .int .i64 0, .slice none 0 0] 54)).alloc (.cells #[.int .u8 0, .int .i64 0, .string ⟨#[]⟩, .int .i64 0, .slice none 0 0] 54)).cell? ⟨nb2, off2 + (5 + j) * 5, none⟩ = some (.int .u8 a1.kind) := by rw [World.cell?_alloc_past _ _ _ (by simp; omega)]; exact m0a
         have k1a : (wr.alloc (.cells #[.int .u8 0, .int .i64 0, .string ⟨#[]⟩, .int .i64 0, .slice none 0 0] 54)).cell? ⟨nb, off + (i + j) * 5 + 1, none⟩ = some (.int .i64 a1.at') := by rw [World.cell?_alloc_past _ _ _ hbl1]; exact k1
         have k1b : ((wr.alloc (.cells #[.int .u8 0, .int .i64 0, .string ⟨#[]⟩, .int .i64 0, .slice none 0 0] 54)).alloc (.cells #[.int .u8 0, .int .i64 0, .string ⟨#[]⟩, .int .i64 0, .slice none 0 0] 54)).cell? ⟨nb, off + (i + j) * 5 + 1, none⟩ = some (.int .i64 a1.at') := by rw [World.cell?_alloc_past _ _ _ (by simp; omega)]; exact k1a
         have m1a : (wr.alloc (.cells #[.int .u8 0, .int .i64 0, .string ⟨#[]⟩, .int .i64 0, .slice none 0 0] 54)).cell? ⟨nb2, off2 + (5 + j) * 5 + 1, none⟩ = some (.int .i64 a2.at') := by rw [World.cell?_alloc_past _ _ _ hbl2]; exact m1
         have m1b : ((wr.alloc (.cells #[.int .u8 0, .int .i64 0, .string ⟨#[]⟩, .int .i64 0, .slice none 0 0] 54)).alloc (.cells #[.int .u8 0, .int .i64 0, .string ⟨#[]⟩, .int .i64 0, .slice none 0 0] 54)).cell? ⟨nb2, off2 + (5 + j) * 5 + 1, none⟩ = some (.int .i64 a2.at') := by rw [World.cell?_alloc_past _ _ _ (by simp; omega)]; exact m1a
         have k2a : (wr.alloc (.cells #[.int .u8 0, .int .i64 0, .string ⟨#[]⟩, .int .i64 0, .slice none 0 0] 54)).cell? ⟨nb, off + (i + j) * 5 + 2, none⟩ = some (.string a1.text) := by rw [World.cell?_alloc_past _ _ _ hbl1]; exact k2
         have k2b : ((wr.alloc (.cells #[.int .u8 0, .int .i64 0, .string ⟨#[]⟩, .int .i64 0, .slice none 0 0] 54)).alloc (.cells #[.int .u8 0, .int .i64 0, .string ⟨#[]⟩, .int .i64 0, .slice none 0 0] 54)).cell? ⟨nb, off + (i + j) * 5 + 2, none⟩ = some (.string a1.text) := by rw [World.cell?_alloc_past _ _ _ (by simp; omega)]; exact k2a
         have m2a : (wr.alloc (.cells #[.int .u8 0, .int .i64 0, .string ⟨#[]⟩, .int .i64 0, .slice none 0 0] 54)).cell? ⟨nb2, off2 + (5 + j) * 5 + 2, none⟩ = some (.string a1.text) := by rw [World.cell?_alloc_past _ _ _ hbl2]; exact m2
         have m2b : ((wr.alloc (.cells #[.int .u8 0, .int .i64 0, .string ⟨#[]⟩, .int .i64 0, .slice none 0 0] 54)).alloc (.cells #[.int .u8 0, .int .i64 0, .string ⟨#[]⟩, .int .i64 0, .slice none 0 0] 54)).cell? ⟨nb2, off2 + (5 + j) * 5 + 2, none⟩ = some (.string a1.text) := by rw [World.cell?_alloc_past _ _ _ (by simp; omega)]; exact m2a
         have k3a : (wr.alloc (.cells #[.int .u8 0, .int .i64 0, .string ⟨#[]⟩, .int .i64 0, .slice none 0 0] 54)).cell? ⟨nb, off + (i + j) * 5 + 3, none⟩ = some (.int .i64 a1.n) := by rw [World.cell?_alloc_past _ _ _ hbl1]; exact k3
         have k3b : ((wr.alloc (.cells #[.int .u8 0, .int .i64 0, .string ⟨#[]⟩, .int .i64 0, .slice none 0 0] 54)).alloc (.cells #[.int .u8 0, .int .i64 0, .string ⟨#[]⟩, .int .i64 0, .slice none 0 0] 54)).cell? ⟨nb, off + (i + j) * 5 + 3, none⟩ = some (.int .i64 a1.n) := by rw [World.cell?_alloc_past _ _ _ (by simp; omega)]; exact k3a
         have m3a : (wr.alloc (.cells #[.int .u8 0, .int .i64 0, .string ⟨#[]⟩, .int .i64 0, .slice none 0 0] 54)).cell? ⟨nb2, off2 + (5 + j) * 5 + 3, none⟩ = some (.int .i64 a1.n) := by rw [World.cell?_alloc_past _ _ _ hbl2]; exact m3
         have m3b : ((wr.alloc (.cells #[.int .u8 0, .int .i64 0, .string ⟨#[]⟩, .int .i64 0, .slice none 0 0] 54)).alloc (.cells #[.int .u8 0, .int .i64 0, .string ⟨#[]⟩, .int .i64 0, .slice none 0 0] 54)).cell? ⟨nb2, off2 + (5 + j) * 5 + 3, none⟩ = some (.int .i64 a1.n) := by rw [World.cell?_alloc_past _ _ _ (by simp; omega)]; exact m3a
         have k4a : (wr.alloc (.cells #[.int .u8 0, .int .i64 0, .string ⟨#[]⟩, .int .i64 0, .slice none 0 0] 54)).cell? ⟨nb, off + (i + j) * 5 + 4, none⟩ = some (.slice kp1 kl2 kc1) := by rw [World.cell?_alloc_past _ _ _ hbl1]; exact k4
         have k4b : ((wr.alloc (.cells #[.int .u8 0, .int .i64 0, .string ⟨#[]⟩, .int .i64 0, .slice none 0 0] 54)).alloc (.cells #[.int .u8 0, .int .i64 0, .string ⟨#[]⟩, .int .i64 0, .slice none 0 0] 54)).cell? ⟨nb, off + (i + j) * 5 + 4, none⟩ = some (.slice kp1 kl2 kc1) := by rw [World.cell?_alloc_past _ _ _ (by simp; omega)]; exact k4a
         have m4a : (wr.alloc (.cells #[.int .u8 0, .int .i64 0, .string ⟨#[]⟩, .int .i64 0, .slice none 0 0] 54)).cell? ⟨nb2, off2 + (5 + j) * 5 + 4, none⟩ = some (.slice kp2 kl2 kc2) := by rw [World.cell?_alloc_past _ _ _ hbl2]; exact m4
         have m4b : ((wr.alloc (.cells #[.int .u8 0, .int .i64 0, .string ⟨#[]⟩, .int .i64 0, .slice none 0 0] 54)).alloc (.cells #[.int .u8 0, .int .i64 0, .string ⟨#[]⟩, .int .i64 0, .slice none 0 0] 54)).cell? ⟨nb2, off2 + (5 + j) * 5 + 4, none⟩ = some (.slice kp2 kl2 kc2) := by rw [World.cell?_alloc_past _ _ _ (by simp; omega)]; exact m4a
         have xja : (wr.alloc (.cells #[.int .u8 0, .int .i64 0, .string ⟨#[]⟩, .int .i64 0, .slice none 0 0] 54)).cell? ⟨w.heap.size, 0, none⟩ = some (.slice (some ⟨nb, off, none⟩) len c) := by rw [World.cell?_alloc_past _ _ _ hw0]; exact xj
         have xjb : ((wr.alloc (.cells #[.int .u8 0, .int .i64 0, .string ⟨#[]⟩, .int .i64 0, .slice none 0 0] 54)).alloc (.cells #[.int .u8 0, .int .i64 0, .string ⟨#[]⟩, .int .i64 0, .slice none 0 0] 54)).cell? ⟨w.heap.size, 0, none⟩ = some (.slice (some ⟨nb, off, none⟩) len c) := by rw [World.cell?_alloc_past _ _ _ (by simp; omega)]; exact xja
         have uja : (wr.alloc (.cells #[.int .u8 0, .int .i64 0, .string ⟨#[]⟩, .int .i64 0, .slice none 0 0] 54)).cell? ⟨w5.heap.size, 0, none⟩ = some (.slice (some ⟨nb2, off2, none⟩) (5 + YS) uc) := by rw [World.cell?_alloc_past _ _ _ hw5]; exact uj
         have ujb : ((wr.alloc (.cells #[.int .u8 0, .int .i64 0, .string ⟨#[]⟩, .int .i64 0, .slice none 0 0] 54)).alloc (.cells #[.int .u8 0, .int .i64 0, .string ⟨#[]⟩, .int .i64 0, .slice none 0 0] 54)).cell? ⟨w5.heap.size, 0, none⟩ = some (.slice (some ⟨nb2, off2, none⟩) (5 + YS) uc) := by rw [World.cell?_alloc_past _ _ _ (by simp; omega)]; exact uja
         clear hn1 hn2 hc1 hc2
         go_wp2_with fail
         have HBB : Hid (∀ o1 o2, Below wr.heap.size wr ((wr.alloc o1).alloc o2).drew) := lh (fun o1 o2 => ((one_below wr o1).alloc (by simp) o2).drew)
         go_region
         all_goals clear k0 k1 k2 k3 k4 m0 m1 m2 m3 m4 k0a k0b k1a k1b k2a k2b k3a k3b k4a k4b m0a m0b m1a m1b m2a m2b m3a m3b m4a m4b xja xjb uja ujb
         all_goals go_wp2_with fail
         all_goals
          go_roundw
          case rel => exact ⟨j + 1, by omega, by go_num, lh (BJ.out.on (HBB.out _ _)), lh (HJ.out.trans ((HBB.out _ _).mono HJ.out.size))⟩
          case measure => simp [intOf]; omega
       · go_wp2_with fail
         go_roundw
         case rel => exact ⟨i + 1, by omega, by go_num, BJ⟩
         case measure => simp [intOf]; omega
  · have WK := lh (works6 wr (HP.out.below BR.out.below))
    go_wp2_with fail
    (with_reducible refine WK.out.mono ?_)
    rintro e w9 ⟨rfl, hb9⟩
    have BX9 := lh (BR.out.on hb9)
    go_wp2
    go_ret
    exact ⟨rfl, BX9.out.below⟩
theorem printExprs (w : World) (p : Option Addr) (len c : Nat) (ns : List Nd) (hT : TV w p len c ns) (ht : PT10 w) :
 Calls Tryz.prog 7 #[.agg #[.slice p len c]] w fun e w' => e = .returned (.bool true) ∧ Below w.heap.size w w' := by
 cases hq : fewQ ns with
 | false => exact pe_big w p len c ns hT ht hq
 | true =>
  cases hr : rightP ns with
  | false => exact pe_wrong w p len c ns hT ht hq hr
  | true =>
   by_cases hd : deepP ns ≤ 62
   · exact pe_main w p len c ns hT ht hq hr hd
   · exact pe_deep w p len c ns hT ht hq hr (by omega)
end
end Go.Proofs.YthdioipfdbbmmaaGreatDoor
