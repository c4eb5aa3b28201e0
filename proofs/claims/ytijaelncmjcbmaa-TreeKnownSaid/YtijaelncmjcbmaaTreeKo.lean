import Derived.Test.YtijaelncmjcbmaaTreeKn
namespace Go.Proofs.Ytijaelncmjcbmaa
open Go.RowKit
set_option maxHeartbeats 16000000 in
set_option maxRecDepth 1000000 in
theorem known (R3 : Hid (∀ (w : World) p len c i0, PT w p len c → Calls Try.prog 3 #[.agg #[.slice p len c], .int .i64 i0] w fun e w' => e = .returned (.bool true) ∧ Below w.heap.size w w'))
    (S4 : Hid (∀ (w : World) p len c p2 len2 c2 i0, PT w p len c → PT w p2 len2 c2 → Calls Try.prog 4 #[.agg #[.slice p len c], .agg #[.slice p2 len2 c2], .int .i64 i0] w fun e w' => e = .returned (.bool true) ∧ Below w.heap.size w w'))
    (Z5 : Hid (∀ (w : World) p len c, PT w p len c → Calls Try.prog 5 #[.agg #[.slice p len c]] w fun e w' => e = .returned (.bool true) ∧ Below w.heap.size w w')) (w : World) :
    Calls Try.prog 7 #[] w fun e w' => e = .returned (.bool true) ∧ Below w.heap.size w w' := by
  go_enter Try.func7, Try.ntmps7
  go_wp2_with fail
  go_loopw [1] (fun av wr => ∃ a : Nat, a ≤ 28 ∧ av = .int .u8 a ∧ Hid (Below w.heap.size w wr)) (fun av _ => 28 - (intOf av).toNat)
  case atStart => exact ⟨0, by omega, rfl, Lib.hid (Below.refl _ _)⟩
  case round =>
    obtain ⟨a, ha, rfl, HB⟩ := hrel
    by_cases hal : a < 28
    · have ha8 : IntKind.u8.wrap ((a : Int) + 1) = (a : Int) + 1 := IntWalk.u8_in _ (by omega)
      have da : decide ((a : Int) < 28) = true := by simp; omega
      have da2 : decide (a < 28) = true := by simp; omega
      obtain ⟨wo, rfl⟩ : ∃ wo : World, wo = wr := ⟨_, rfl⟩
      go_wp2_with fail
      go_loopw [2] (fun bv wr => ∃ b : Nat, b ≤ 28 ∧ bv = .int .u8 b ∧ Hid (Below w.heap.size w wr)) (fun bv _ => 28 - (intOf bv).toNat)
      case atStart => exact ⟨0, by omega, rfl, HB⟩
      case round =>
        obtain ⟨b, hb, rfl, HB2⟩ := hrel
        by_cases hbl : b < 28
        · have hb8 : IntKind.u8.wrap ((b : Int) + 1) = (b : Int) + 1 := IntWalk.u8_in _ (by omega)
          have db : decide ((b : Int) < 28) = true := by simp; omega
          have db2 : decide (b < 28) = true := by simp; omega
          obtain ⟨wo2, rfl⟩ : ∃ wo : World, wo = wr := ⟨_, rfl⟩
          go_wp2_with fail
          go_loopw [3] (fun cv wr => ∃ c : Nat, c ≤ 4 ∧ cv = .int .i64 c ∧ Hid (Below w.heap.size w wr)) (fun cv _ => 4 - (intOf cv).toNat)
          case atStart => exact ⟨0, by omega, rfl, HB2⟩
          case round =>
            obtain ⟨c, hc, rfl, HB3⟩ := hrel
            by_cases hcl : c < 4
            · obtain ⟨s, hs⟩ : ∃ s : ByteArray, (wr.alloc (.cells #[.string ⟨#[]⟩, .string ⟨#[112]⟩, .string ⟨#[49]⟩, .string ⟨#[114, 101, 97, 100]⟩] 9)).cell? ⟨wr.heap.size, c, none⟩ = some (.string s) := by
                rw [World.cell?_alloc_at _ _ _ _ rfl]
                have : c = 0 ∨ c = 1 ∨ c = 2 ∨ c = 3 := by omega
                rcases this with rfl | rfl | rfl | rfl <;> exact ⟨_, rfl⟩
              have hw : IntKind.i64.wrap ((c : Int) - 1) = (c : Int) - 1 := IntWalk.i64_in _ (by omega)
              by_cases hc0 : c = 0
              · obtain ⟨Z, hZ, hk⟩ := kn_trees wr a b ((c : Int) - 1) s
                have K0 := Lib.hid hk
                subst hZ
                clear hk
                have e0 : ((c : Int) == 0) = true := by simp [hc0]
                clear hc0
                go_wp2_with fail
                (with_reducible refine (R3.out _ _ _ _ _ K0.out.t1).mono ?_)
                rintro e w1 ⟨rfl, hb1⟩
                have K1 := Lib.hid (K0.out.on hb1)
                have c2 := K1.out.c2
                clear hb1 K0
                go_wp2_with fail
                (with_reducible refine (R3.out _ _ _ _ _ K1.out.t2).mono ?_)
                rintro e w2 ⟨rfl, hb2⟩
                have K2 := Lib.hid (K1.out.on hb2)
                clear hb2 K1 c2
                have c1 := K2.out.c1
                have c2 := K2.out.c2
                go_wp2_with fail
                (with_reducible refine (S4.out _ _ _ _ _ _ _ _ K2.out.t1 K2.out.t2).mono ?_)
                rintro e w3 ⟨rfl, hb3⟩
                have K3 := Lib.hid (K2.out.on hb3)
                clear hb3 K2 c1 c2
                go_wp2_with fail
                go_roundw
                case rel => exact ⟨c + 1, by omega, by first | rfl | go_num, Lib.hid (HB3.out.trans (K3.out.below.mono HB3.out.size))⟩
                case measure => simp [intOf]; omega
              · obtain ⟨Z, hZ, hk⟩ := kn_trees wr a b ((c : Int) - 1) s
                have K0 := Lib.hid hk
                subst hZ
                clear hk
                have e0 : ((c : Int) == 0) = false := by simp; omega
                clear hc0
                go_wp2_with fail
                (with_reducible refine (R3.out _ _ _ _ _ K0.out.t1).mono ?_)
                rintro e w1 ⟨rfl, hb1⟩
                have K1 := Lib.hid (K0.out.on hb1)
                have c2 := K1.out.c2
                clear hb1 K0
                go_wp2_with fail
                (with_reducible refine (R3.out _ _ _ _ _ K1.out.t2).mono ?_)
                rintro e w2 ⟨rfl, hb2⟩
                have K2 := Lib.hid (K1.out.on hb2)
                clear hb2 K1 c2
                go_wp2_with fail
                go_roundw
                case rel => exact ⟨c + 1, by omega, by first | rfl | go_num, Lib.hid (HB3.out.trans (K2.out.below.mono HB3.out.size))⟩
                case measure => simp [intOf]; omega
            · go_wp2_with fail
              go_roundw
              case rel => exact ⟨b + 1, by omega, by first | rfl | go_num, HB3⟩
              case measure => simp [intOf]; omega
        · go_wp2_with fail
          go_roundw
          case rel => exact ⟨a + 1, by omega, by first | rfl | go_num, HB2⟩
          case measure => simp [intOf]; omega
    · go_wp2_with fail
      obtain ⟨wx, rfl⟩ : ∃ wx : World, wx = wr := ⟨_, rfl⟩
      go_loopw [80] (fun iv wq => ∃ i : Nat, i ≤ 7 ∧ iv = .int .i64 i ∧ Hid (Below (wx.heap.size + 1) (wx.alloc (.cells #[.int .i64 (-1), .int .i64 0, .int .i64 1, .int .i64 2, .int .i64 2147483647, .int .i64 2147483648, .int .i64 9223372036854775807] 2)) wq)) (fun iv _ => 7 - (intOf iv).toNat)
      case atStart => exact ⟨0, by omega, rfl, Lib.hid (Below.refl _ _)⟩
      case round =>
        obtain ⟨i, hi, rfl, HQ⟩ := hrel
        obtain ⟨wq, rfl⟩ : ∃ wq : World, wq = wr := ⟨_, rfl⟩
        have HBQ : Hid (Below w.heap.size w wq) := Lib.hid (HB.out.trans ((one_below wx _).trans (HQ.out.mono (by omega)) |>.mono HB.out.size))
        have hqs : wx.heap.size + 1 ≤ wq.heap.size := by have := HQ.out.size; simpa using this
        by_cases hil : i < 7
        · obtain ⟨n, hn⟩ : ∃ n : Int, wq.cell? ⟨wx.heap.size, i, none⟩ = some (.int .i64 n) := by
            rw [HQ.out.cell (by simp), World.cell?_alloc_at _ _ _ _ rfl]
            have : i = 0 ∨ i = 1 ∨ i = 2 ∨ i = 3 ∨ i = 4 ∨ i = 5 ∨ i = 6 := by omega
            rcases this with rfl | rfl | rfl | rfl | rfl | rfl | rfl <;> exact ⟨_, rfl⟩
          have di : decide ((i : Int) < 7) = true := by simp; omega
          have di2 : decide (i < 7) = true := by simp; omega
          go_wp2_with fail
          go_loopw [86] (fun jv wz => ∃ j : Nat, j ≤ 5 ∧ jv = .int .i64 j ∧ Hid (Below (wq.heap.size + 1) (wq.alloc (.cells #[.int .u8 21, .int .u8 7, .int .u8 14, .int .u8 12, .int .u8 3] 5)) wz)) (fun jv _ => 5 - (intOf jv).toNat)
          case atStart => exact ⟨0, by omega, rfl, Lib.hid (Below.refl _ _)⟩
          case round =>
            obtain ⟨j, hj, rfl, HZ⟩ := hrel
            obtain ⟨wz, rfl⟩ : ∃ wz : World, wz = wr := ⟨_, rfl⟩
            have hzs : wq.heap.size + 1 ≤ wz.heap.size := by have := HZ.out.size; simpa using this
            by_cases hjl : j < 5
            · obtain ⟨k, hk⟩ : ∃ k : Int, wz.cell? ⟨wq.heap.size, j, none⟩ = some (.int .u8 k) := by
                rw [HZ.out.cell (by simp), World.cell?_alloc_at _ _ _ _ rfl]
                have : j = 0 ∨ j = 1 ∨ j = 2 ∨ j = 3 ∨ j = 4 := by omega
                rcases this with rfl | rfl | rfl | rfl | rfl <;> exact ⟨_, rfl⟩
              obtain ⟨Z, hZ, hp, hb⟩ := kn_two wz k n
              have HP := Lib.hid hp
              have HBB := Lib.hid hb
              subst hZ
              clear hp hb
              go_wp2_with fail
              (with_reducible refine (R3.out _ _ _ _ _ HP.out).mono ?_)
              rintro e w1 ⟨rfl, hb1⟩
              have HZ2 := Lib.hid (HZ.out.trans ((HBB.out.trans (hb1.mono HBB.out.size)).mono hzs))
              clear hb1 HP HBB
              go_wp2_with fail
              go_roundw
              case rel => exact ⟨j + 1, by omega, by first | rfl | go_num, HZ2⟩
              case measure => simp [intOf]; omega
            · have HZQ : Hid (Below wq.heap.size wq wz) := Lib.hid ((one_below wq _).trans (HZ.out.mono (by omega)))
              have HL := Lib.hid (lines_at wz n)
              go_wp2_with fail
              (with_reducible refine HL.out.mono ?_)
              rintro e w1 ⟨⟨p1, rfl, hT1⟩, hb1⟩
              have HC1 := Lib.hid (HZQ.out.trans (hb1.mono HZQ.out.size))
              have HP1 : Hid (PT w1 p1 10 10) := Lib.hid ⟨_, hT1⟩
              clear hb1 hT1 HL
              go_wp2_with fail
              (with_reducible refine (R3.out _ _ _ _ _ HP1.out).mono ?_)
              rintro e w2 ⟨rfl, hb2⟩
              have HC2 := Lib.hid (HC1.out.trans (hb2.mono HC1.out.size))
              have HL2 := Lib.hid (lines_at w2 n)
              clear hb2 HP1
              go_wp2_with fail
              (with_reducible refine HL2.out.mono ?_)
              rintro e w3 ⟨⟨p3, rfl, hT3⟩, hb3⟩
              have HC3 := Lib.hid (HC2.out.trans (hb3.mono HC2.out.size))
              have HP3 : Hid (PT w3 p3 10 10) := Lib.hid ⟨_, hT3⟩
              clear hb3 hT3 HL2
              go_wp2_with fail
              (with_reducible refine (Z5.out _ _ _ _ HP3.out).mono ?_)
              rintro e w4 ⟨rfl, hb4⟩
              have HC4 := Lib.hid (HC3.out.trans (hb4.mono HC3.out.size))
              have HQ2 := Lib.hid (HQ.out.trans (HC4.out.mono hqs))
              clear hb4 HP3
              go_wp2_with fail
              go_roundw
              case rel => exact ⟨i + 1, by omega, by first | rfl | go_num, HQ2⟩
              case measure => simp [intOf]; omega
        · obtain ⟨Z, hZ, hzb, hzs, hzr⟩ := kn_rows wq
          have HWZ := Lib.hid (HBQ.out.trans (hzb.mono HBQ.out.size))
          have HZR := Lib.hid hzr
          have HZE := Lib.hid hZ
          clear hzb hzr hZ
          go_wp2_with fail
          rw [← HZE.out]
          go_loopw [123] (fun iv wy => ∃ i : Nat, i ≤ 8 ∧ iv = .int .i64 i ∧ Hid (Below Z.heap.size Z wy)) (fun iv _ => 8 - (intOf iv).toNat)
          case atStart => exact ⟨0, by omega, rfl, Lib.hid (Below.refl _ _)⟩
          case round =>
            obtain ⟨q, hq, rfl, HY⟩ := hrel
            obtain ⟨wy, rfl⟩ : ∃ wy : World, wy = wr := ⟨_, rfl⟩
            by_cases hql : q < 8
            · obtain ⟨p, l, xs, hc, hl, hI⟩ := HZR.out q hql
              have hcy : wy.cell? ⟨wq.heap.size + 1 + 1 + 1 + 1 + 1 + 1 + 1 + 1, q, none⟩ = some (.slice p l l) := by rw [HY.out.cell hzs]; exact hc
              obtain ⟨Z2, hZ2, hp, hb⟩ := kn_three wy p l xs (hI.on HY.out)
              have HP := Lib.hid hp
              have HBB := Lib.hid hb
              subst hZ2
              clear hp hb hc hI
              go_wp2_with fail
              (with_reducible refine (R3.out _ _ _ _ _ HP.out).mono ?_)
              rintro e w1 ⟨rfl, hb1⟩
              have HY2 := Lib.hid (HY.out.trans ((HBB.out.trans (hb1.mono HBB.out.size)).mono HY.out.size))
              clear hb1 HP HBB
              go_wp2_with fail
              go_roundw
              case rel => exact ⟨q + 1, by omega, by first | rfl | go_num, HY2⟩
              case measure => simp [intOf]; omega
            · have HF1 := Lib.hid (HWZ.out.trans (HY.out.mono HWZ.out.size))
              go_wp2_with fail
              (with_reducible refine (R3.out _ _ _ _ _ (PT.none _)).mono ?_)
              rintro e w1 ⟨rfl, hb1⟩
              have HF2 := Lib.hid (HF1.out.trans (hb1.mono HF1.out.size))
              clear hb1
              go_wp2_with fail
              (with_reducible refine (S4.out _ _ _ _ _ _ _ _ (PT.none _) (PT.none _)).mono ?_)
              rintro e w2 ⟨rfl, hb2⟩
              have HF3 := Lib.hid (HF2.out.trans (hb2.mono HF2.out.size))
              have HW := Lib.hid (works_at w2)
              clear hb2
              go_wp2_with fail
              (with_reducible refine HW.out.mono ?_)
              rintro e w3 ⟨rfl, hb3⟩
              have HF4 := Lib.hid (HF3.out.trans (hb3.mono HF3.out.size))
              clear hb3 HW
              go_wp2
              go_ret
              exact ⟨rfl, HF4.out⟩

end Go.Proofs.Ytijaelncmjcbmaa
