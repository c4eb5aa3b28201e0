import Derived.Test.YtabbodbnjegllaaDoorLexKb
import Derived.IntWalk
import Derived.Deep.RegionHeld3
namespace Go.Proofs.YtabbodbnjegllaaDoor
open Go.RowKit
def s13 : List Int := [97, 48, 95, 61, 32, 35, 10, 59, 123, 36, 90, 122, 45]
theorem s13_cell (w : World) (k : Nat) (hk : k < 13) : (w.alloc (.cells #[.int .u8 97, .int .u8 48, .int .u8 95, .int .u8 61, .int .u8 32, .int .u8 35, .int .u8 10, .int .u8 59, .int .u8 123, .int .u8 36, .int .u8 90, .int .u8 122, .int .u8 45] 5 (13, 14))).cell? ⟨w.heap.size, k, none⟩ = some (.int .u8 (s13.getD k 0)) ∧ 0 ≤ s13.getD k 0 ∧ s13.getD k 0 < 256 := by
  have hs := src_const w #[.int .u8 97, .int .u8 48, .int .u8 95, .int .u8 61, .int .u8 32, .int .u8 35, .int .u8 10, .int .u8 59, .int .u8 123, .int .u8 36, .int .u8 90, .int .u8 122, .int .u8 45] s13 13 rfl rfl (by decide) 13 14
  refine ⟨?_, hs.2.1 k⟩
  rcases hs.2.2 with ⟨h, _⟩ | ⟨b, off, e, _, _, hx⟩
  · omega
  · simp only [Option.some.injEq, Addr.mk.injEq, and_true] at e
    obtain ⟨rfl, rfl⟩ := e
    have := hx k hk
    rw [Nat.zero_add] at this
    exact this
theorem src_lit (W : World) (C : Array Value) (zs : List Int) (n : Nat) (hC : C = (zs.map (Value.int .u8)).toArray) (hn : zs.length = n) (hz : ∀ z ∈ zs, 0 ≤ z ∧ z < 256) :
    Src (W.alloc (.cells C 5)) (some ⟨W.heap.size, 0, none⟩) n n zs := src_const W C zs n hC hn hz 0 0
abbrev strs10 : Array Value := #[.string ⟨#[50, 49, 52, 55, 52, 56, 51, 54, 52, 55]⟩, .string ⟨#[50, 49, 52, 55, 52, 56, 51, 54, 52, 56]⟩, .string ⟨#[48, 48, 48, 48, 50, 49, 52, 55, 52, 56, 51, 54, 52, 55]⟩, .string ⟨#[57, 57, 57, 57, 57, 57, 57, 57, 57, 57, 57, 57, 57, 57, 57, 57, 57, 57, 57, 57, 57, 57, 57, 57, 57, 57]⟩, .string ⟨#[112, 114, 111, 99, 32, 112, 40, 97, 44, 32, 98, 41, 32, 115, 105, 110, 103, 108, 101, 32, 123, 32, 114, 101, 97, 100, 32, 120, 32, 61, 32, 116, 91, 97, 32, 43, 32, 49, 93, 46, 99, 32, 102, 111, 114, 32, 117, 112, 100, 97, 116, 101, 59, 32, 125]⟩, .string ⟨#[97, 35]⟩, .string ⟨#[97, 35, 98, 10, 99]⟩, .string ⟨#[0]⟩, .string ⟨#[195, 164]⟩, .string ⟨#[]⟩]
theorem strs_cell (w : World) (k : Nat) (hk : k < 10) : ∃ s, (w.alloc (.cells strs10 9)).cell? ⟨w.heap.size, k, none⟩ = some (.string s) := by
  have h : ∀ k, (w.alloc (.cells strs10 9)).cell? ⟨w.heap.size, k, none⟩ = strs10[k]? := fun k => World.cell?_alloc_mark w strs10 9 (0, 0) k
  rw [h]
  obtain rfl | rfl | rfl | rfl | rfl | rfl | rfl | rfl | rfl | rfl : k = 0 ∨ k = 1 ∨ k = 2 ∨ k = 3 ∨ k = 4 ∨ k = 5 ∨ k = 6 ∨ k = 7 ∨ k = 8 ∨ k = 9 := by omega
  all_goals exact ⟨_, rfl⟩
/-- One round's four laws, whatever the three bytes. -/
structure KInv (w W : World) : Prop where
  below : Below w.heap.size w W
set_option maxHeartbeats 8000000 in
set_option maxRecDepth 1000000 in
theorem lexKnown (w : World) (hg : ET w) : Calls Tryd.prog 8 #[] w fun e w' => e = .returned (.bool true) ∧ Below w.heap.size w w' := by
  have kc := fun (w : World) (C : Array Value) (n c : Nat) => Lib.run_convert_bytes_const (P := Tryd.prog) w 22 5 C n c Tryd.underlying22 Tryd.underlying5
  have HG := Lib.hid hg
  clear hg
  go_enter Tryd.func8, Tryd.ntmps8
  go_wp2_with fail
  go_loopw [1] (fun mv wr => ∃ m : Nat, m ≤ 2197 ∧ mv = .int .i64 m ∧ Hid (Below w.heap.size w wr)) (fun mv _ => 2197 - (intOf mv).toNat)
  case atStart => exact ⟨0, by omega, rfl, Lib.hid (Below.refl _ _)⟩
  case round =>
    obtain ⟨m, hm, rfl, HB⟩ := hrel
    by_cases hlt : m < 2197
    · obtain ⟨hc0, hl0, hu0⟩ := s13_cell wr (m % 13) (by omega)
      obtain ⟨hc1, hl1, hu1⟩ := s13_cell wr (m / 13 % 13) (by omega)
      obtain ⟨hc2, hl2, hu2⟩ := s13_cell wr (m / 169) (by omega)
      generalize s13.getD (m % 13) 0 = b0 at *
      generalize s13.getD (m / 13 % 13) 0 = b1 at *
      generalize s13.getD (m / 169) 0 = b2 at *
      obtain ⟨a0, ha0⟩ : ∃ a, m % 13 = a := ⟨_, rfl⟩
      obtain ⟨a1, ha1⟩ : ∃ a, m / 13 % 13 = a := ⟨_, rfl⟩
      obtain ⟨a2, ha2⟩ : ∃ a, m / 169 = a := ⟨_, rfl⟩
      obtain ⟨a3, ha3⟩ : ∃ a, m / 13 = a := ⟨_, rfl⟩
      have i0 : (0 : Int) ≤ (a0 : Int) := by omega
      have i1 : (a0 : Int) < 13 := by omega
      have i2 : (0 : Int) ≤ (a1 : Int) := by omega
      have i3 : (a1 : Int) < 13 := by omega
      have i4 : (0 : Int) ≤ (a2 : Int) := by omega
      have i5 : (a2 : Int) < 13 := by omega
      have i6 : (a3 : Int) ≤ 169 := by omega
      have t0 : (m : Int).tmod 13 = (a0 : Int) := by rw [Int.tmod_eq_emod_of_nonneg (by omega)]; omega
      have t3 : (m : Int).tdiv 13 = (a3 : Int) := by rw [Int.tdiv_eq_ediv_of_nonneg (by omega)]; omega
      have t1 : (a3 : Int).tmod 13 = (a1 : Int) := by rw [Int.tmod_eq_emod_of_nonneg (by omega)]; omega
      have t2 : (m : Int).tdiv 169 = (a2 : Int) := by rw [Int.tdiv_eq_ediv_of_nonneg (by omega)]; omega
      have w0 : IntKind.i64.wrap (a0 : Int) = (a0 : Int) := IntWalk.i64_in _ (by omega)
      have w1 : IntKind.i64.wrap (a1 : Int) = (a1 : Int) := IntWalk.i64_in _ (by omega)
      have w2 : IntKind.i64.wrap (a2 : Int) = (a2 : Int) := IntWalk.i64_in _ (by omega)
      have w3 : IntKind.i64.wrap (a3 : Int) = (a3 : Int) := IntWalk.i64_in _ (by omega)
      rw [ha0] at hc0
      rw [ha1] at hc1
      rw [ha2] at hc2
      clear ha0 ha1 ha2 ha3
      go_wp2_with fail
      go_region_held3 (fun w' => w'.cell? ⟨wr.heap.size, a0, none⟩ = some (.int .u8 b0) ∧ w'.cell? ⟨wr.heap.size, a1, none⟩ = some (.int .u8 b1) ∧ w'.cell? ⟨wr.heap.size, a2, none⟩ = some (.int .u8 b2)) (go_keep) (fail)
      generalize hW1 : (((wr.alloc (.cells #[.int .u8 97, .int .u8 48, .int .u8 95, .int .u8 61, .int .u8 32, .int .u8 35, .int .u8 10, .int .u8 59, .int .u8 123, .int .u8 36, .int .u8 90, .int .u8 122, .int .u8 45] 5 (13, 14))).alloc (.cells #[.int .u8 b0, .int .u8 b1, .int .u8 b2] 5)).drew) = W1
      have s1 : Src W1 (some ⟨wr.heap.size + 1, 0, none⟩) 3 3 [b0, b1, b2] := by
        rw [← hW1]
        have := src_lit (wr.alloc (.cells #[.int .u8 97, .int .u8 48, .int .u8 95, .int .u8 61, .int .u8 32, .int .u8 35, .int .u8 10, .int .u8 59, .int .u8 123, .int .u8 36, .int .u8 90, .int .u8 122, .int .u8 45] 5 (13, 14))) #[.int .u8 b0, .int .u8 b1, .int .u8 b2] [b0, b1, b2] 3 rfl rfl (by simp; omega)
        simpa using this.below ((Below.refl _ _).drew)
      have b1' : Below w.heap.size w W1 := by
        rw [← hW1]
        exact HB.out.trans (((two_below wr _ _).drew).mono HB.out.size)
      have S1 := Lib.hid s1
      have B1 := Lib.hid b1'
      clear hW1 s1 b1' t0 t1 t2 t3 w0 w1 w2 w3 hc0 hc1 hc2 i0 i1 i2 i3 i4 i5 i6
      have LA := Lib.hid (lexAny W1 _ 3 3 _ S1.out (HG.out.below B1.out))
      go_wp2_with fail
      (with_reducible refine LA.out.mono ?_)
      rintro e W2 ⟨rfl, hb2⟩
      have B2 := Lib.hid (B1.out.trans (hb2.mono B1.out.size))
      have S2 := Lib.hid (S1.out.below hb2)
      have cv := src_conv S2.out
      generalize strOfNums [b0, b1, b2] = st at *
      have LN := Lib.hid (lexNames W2 st (HG.out.below B2.out))
      clear hb2 LA B1 S1
      go_wp2_with fail
      (with_reducible refine LN.out.mono ?_)
      rintro e W3 ⟨rfl, hb3⟩
      have B3 := Lib.hid (B2.out.trans (hb3.mono B2.out.size))
      have S3 := Lib.hid (S2.out.below hb3)
      clear hb3 LN cv B2 S2
      by_cases h3 : m % 3 = 0
      · have d3 : ((m : Int).tmod 3 == 0) = true := by rw [Int.tmod_eq_emod_of_nonneg (by omega)]; simp; omega
        have d3' : ((m : Int) % 3 == 0) = true := by simp; omega
        have LR := Lib.hid (lexRises W3 _ 3 3 _ S3.out (HG.out.below B3.out))
        clear h3
        go_wp2_with fail
        (with_reducible refine LR.out.mono ?_)
        rintro e W4 ⟨rfl, hb4⟩
        have B4 := Lib.hid (B3.out.trans (hb4.mono B3.out.size))
        have S4 := Lib.hid (S3.out.below hb4)
        clear hb4 LR B3 S3
        go_wp2_with fail
        have LB := Lib.hid (lexBlanks (W4.alloc (.cells #[.int .u8 ((m : Int) % 256), .int .u8 ((m : Int) / 4 % 256)] 5)) _ 3 3 _ _ 2 2 [(m : Int) % 256, (m : Int) / 4 % 256] (S4.out.below (one_below _ _)) (src_lit W4 #[.int .u8 ((m : Int) % 256), .int .u8 ((m : Int) / 4 % 256)] _ 2 rfl rfl (by simp; omega)) (by omega) (HG.out.below (B4.out.trans ((one_below _ _).mono B4.out.size))))
        (with_reducible refine LB.out.mono ?_)
        rintro e W5 ⟨rfl, hb5⟩
        have B5 := Lib.hid (B4.out.trans (((one_below W4 _).trans (hb5.mono (by simp))).mono B4.out.size))
        clear hb5 LB B4 S4
        go_wp2_with fail
        go_roundw
        case rel => exact ⟨m + 1, by omega, by go_num, B5⟩
        case measure => simp [intOf]; omega
      · have d3 : ((m : Int).tmod 3 == 0) = false := by rw [Int.tmod_eq_emod_of_nonneg (by omega)]; simp; omega
        have d3' : ((m : Int) % 3 == 0) = false := by simp; omega
        clear h3
        go_wp2_with fail
        go_roundw
        case rel => exact ⟨m + 1, by omega, by go_num, B3⟩
        case measure => simp [intOf]; omega
    · have hmm : m = 2197 := by omega
      clear hmm kc
      go_wp2_with fail
      obtain ⟨wo, rfl⟩ : ∃ wo : World, wo = wr := ⟨_, rfl⟩
      have hst := strs_cell wo
      have HSt := Lib.hid hst
      clear hst
      go_loopw [67] (fun iv wz => ∃ k : Nat, k ≤ 10 ∧ iv = .int .i64 k ∧ Hid (Below (wo.heap.size + 1) (wo.alloc (.cells strs10 9)) wz)) (fun iv _ => 10 - (intOf iv).toNat)
      case atStart => exact ⟨0, by omega, rfl, Lib.hid (Below.refl _ _)⟩
      case round =>
        obtain ⟨wz, rfl⟩ : ∃ wz : World, wz = wr := ⟨_, rfl⟩
        obtain ⟨k, hk, rfl, HZ⟩ := hrel
        have HW := Lib.hid (HB.out.trans ((one_below wo (.cells strs10 9)).mono HB.out.size |>.trans (HZ.out.mono (by have := HB.out.size; omega))))
        by_cases hk10 : k < 10
        · obtain ⟨s, hs⟩ := HSt.out k hk10
          rw [← HZ.out.cell (p := ⟨wo.heap.size, k, none⟩) (by simp)] at hs
          obtain ⟨W1, cap1, cv1, hb1, hs1⟩ := bytes_conv wz s
          have B1 := Lib.hid (HZ.out.trans (hb1.mono (by have := HZ.out.size; simpa using this)))
          have C1 := Lib.hid (HW.out.trans (hb1.mono HW.out.size))
          have LA := Lib.hid (lexAny W1 _ _ _ _ hs1 (HG.out.below C1.out))
          clear hb1 hs1
          go_wp2_with fail
          (with_reducible refine LA.out.mono ?_)
          rintro e W2 ⟨rfl, hb2⟩
          have B2 := Lib.hid (B1.out.trans (hb2.mono (by have := B1.out.size; simpa using this)))
          have C2 := Lib.hid (C1.out.trans (hb2.mono C1.out.size))
          clear cv1 hb2 LA B1 C1 hs
          obtain ⟨W3, cap3, cv3, hb3, hs3⟩ := bytes_conv W2 s
          have B3 := Lib.hid (B2.out.trans (hb3.mono (by have := B2.out.size; simpa using this)))
          have C3 := Lib.hid (C2.out.trans (hb3.mono C2.out.size))
          have LR := Lib.hid (lexRises W3 _ _ _ _ hs3 (HG.out.below C3.out))
          clear hb3 hs3 B2 C2
          go_wp2_with fail
          (with_reducible refine LR.out.mono ?_)
          rintro e W4 ⟨rfl, hb4⟩
          have B4 := Lib.hid (B3.out.trans (hb4.mono (by have := B3.out.size; simpa using this)))
          have C4 := Lib.hid (C3.out.trans (hb4.mono C3.out.size))
          clear cv3 hb4 LR B3 C3
          obtain ⟨W5, cap5, cv5, hb5, hs5⟩ := bytes_conv W4 s
          have B5 := Lib.hid ((B4.out.trans (hb5.mono (by have := B4.out.size; simpa using this))).trans ((one_below W5 (.cells #[.int .u8 3, .int .u8 1] 5)).mono (by have := B4.out.size; have := hb5.size; simp at *; omega)))
          have C5 := Lib.hid ((C4.out.trans (hb5.mono C4.out.size)).trans ((one_below W5 (.cells #[.int .u8 3, .int .u8 1] 5)).mono (by have := C4.out.size; have := hb5.size; omega)))
          have LB := Lib.hid (lexBlanks (W5.alloc (.cells #[.int .u8 3, .int .u8 1] 5)) _ _ _ _ _ 2 2 [3, 1] (hs5.below (one_below _ _)) (src_lit W5 #[.int .u8 3, .int .u8 1] _ 2 rfl rfl (by decide)) (by omega) (HG.out.below C5.out))
          clear hb5 hs5 B4 C4
          go_wp2_with fail
          (with_reducible refine LB.out.mono ?_)
          rintro e W6 ⟨rfl, hb6⟩
          have B6 := Lib.hid (B5.out.trans (hb6.mono (by have := B5.out.size; simp at *; omega)))
          have C6 := Lib.hid (C5.out.trans (hb6.mono C5.out.size))
          have LN := Lib.hid (lexNames W6 s (HG.out.below C6.out))
          clear cv5 hb6 LB B5 C5
          go_wp2_with fail
          (with_reducible refine LN.out.mono ?_)
          rintro e W7 ⟨rfl, hb7⟩
          have B7 := Lib.hid (B6.out.trans (hb7.mono (by have := B6.out.size; simpa using this)))
          clear hb7 LN B6 C6
          go_wp2_with fail
          go_roundw
          case rel => exact ⟨k + 1, by omega, by go_num, B7⟩
          case measure => simp [intOf]; omega
        · have hk10' : k = 10 := by omega
          clear hk10'
          clear HSt
          obtain ⟨M1, hm1, bM1, oM1⟩ := make_any wz 65537 65537 (by omega) (by omega)
          have D1 := Lib.hid (HW.out.trans (bM1.mono HW.out.size))
          have LL := Lib.hid (lex_limit M1 _ 65537 65537 _ (make_src oM1) (by omega) (by omega))
          clear bM1 oM1
          go_wp2_with fail
          (with_reducible refine LL.out.mono ?_)
          rintro e L1 ⟨B, l, cc, rfl, hE, hbL⟩
          have D2 := Lib.hid (D1.out.trans (hbL.mono D1.out.size))
          have E2 := Lib.hid hE
          clear hm1 LL hE hbL D1
          obtain ⟨M2, hm2, bM2, oM2⟩ := make_any L1 65536 65536 (by omega) (by omega)
          have HM2 := Lib.hid bM2
          have HO2 := Lib.hid oM2
          clear bM2 oM2
          go_wp2_with fail
          obtain ⟨wp, rfl⟩ : ∃ wp : World, wp = wz := ⟨_, rfl⟩
          go_loopw [9] (fun iv wq => ∃ (k : Nat) (L : List Value), k ≤ 65536 ∧ iv = .int .i64 k ∧ Hid (wq.ownsRow L1.heap.size 5 1 (.slice (some ⟨L1.heap.size, 0, none⟩) 65536 65536) 65536 L) ∧ Hid (∀ j, j < k → L[j]? = some (.int .u8 32)) ∧ Hid (Below L1.heap.size L1 wq)) (fun iv _ => 65536 - (intOf iv).toNat)
          case atStart => exact ⟨0, _, by omega, rfl, HO2, Lib.hid (fun j hj => by omega), HM2⟩
          case round =>
            obtain ⟨wq, rfl⟩ : ∃ wq : World, wq = wr := ⟨_, rfl⟩
            obtain ⟨q, L, hq, rfl, HO, HL, HQ⟩ := hrel
            by_cases hq2 : q < 65536
            · have hll : L.length = 65536 := by have := HO.out.1; omega
              have hcell := HO.out.cellAt q (by omega)
              obtain ⟨v0, hv0⟩ : ∃ v, L[q]? = some v := ⟨L[q]'(by omega), List.getElem?_eq_getElem _⟩
              rw [hv0] at hcell
              have hfz := HO.out.frozenAt q
              have HO3 := Lib.hid (HO.out.stored q (.int .u8 32)).1
              have HL3 := Lib.hid (set_row hll hq2 HL.out)
              have HQ3 := Lib.hid (HQ.out.setCell (p := ⟨L1.heap.size, q, none⟩) (Nat.le_refl _) (.int .u8 32))
              clear hll hv0
              go_wp2_with fail
              go_roundw
              case rel => exact ⟨q + 1, L.set q (.int .u8 32), by omega, by go_num, HO3, HL3, HQ3⟩
              case measure => simp [intOf]; omega
            · have hqe : q = 65536 := by omega
              have hsr := row_src HO.out (z := 32) (by decide) (fun j hj => HL.out j (by omega))
              have LK := Lib.hid (lex_ok hsr (by omega) (lexS_row 65536))
              have D3 := Lib.hid (D2.out.trans (HQ.out.mono D2.out.size))
              have E3 := Lib.hid (E2.out.on HQ.out)
              clear hqe hsr HO HL HQ D2 E2
              go_wp2_with fail
              (with_reducible refine LK.out.mono ?_)
              rintro e N1 ⟨g4, cap4, rfl, _, _, hbN⟩
              have D4 := Lib.hid (D3.out.trans (hbN.mono D3.out.size))
              have CE := Lib.hid (code_err (HG.out.below D4.out) (E3.out.on hbN))
              clear LK hbN D3 E3
              go_wp2_with fail
              (with_reducible refine CE.out.mono ?_)
              rintro e N2 ⟨rfl, hbN⟩
              have D5 := Lib.hid (D4.out.trans (hbN.mono D4.out.size))
              have WK := Lib.hid (works N2 (HG.out.below D5.out))
              clear CE hbN D4
              go_wp2_with fail
              (with_reducible refine WK.out.mono ?_)
              rintro e N3 ⟨rfl, hbN⟩
              have D6 := Lib.hid (D5.out.trans (hbN.mono D5.out.size))
              clear WK hbN D5
              go_wp2
              go_ret
              exact ⟨rfl, D6.out⟩
end Go.Proofs.YtabbodbnjegllaaDoor
