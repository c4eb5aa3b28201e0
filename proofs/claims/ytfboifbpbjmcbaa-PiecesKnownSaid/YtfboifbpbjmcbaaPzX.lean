import Derived.Test.YtfboifbpbjmcbaaPzW
namespace Go.Proofs.Ytfboifbpbjmcbaa.Pz
open Go.RowKit
set_option maxHeartbeats 8000000 in
set_option maxRecDepth 1000000 in
/-- The law PiecesCover. -/
theorem piecesCover (w : World) (n₀ len c : Nat) (p : Option Addr) (is : List Ins) (way : Int) (hI : IsIn n₀ w p len c is) (hn : n₀ ≤ w.heap.size) :
    Calls Try.prog 4 #[.slice p len c, .int .u8 way] w fun e w' => e = .returned (.bool true) ∧ Below w.heap.size w w' := by
  by_cases hbig : 200 < len
  · have WK := Lib.hid (works w)
    clear hI
    go_enter Try.func4, Try.ntmps4
    go_wp2_with fail
    (with_reducible refine WK.out.mono ?_)
    rintro e w1 ⟨rfl, hb1⟩
    go_wp2
    go_ret
    exact ⟨rfl, hb1⟩
  · have hle : len ≤ 200 := by omega
    have HI := Lib.hid hI
    have hlen := hI.len_eq
    have hcap := hI.cap
    have hol := opsOf_len is
    have CU := Lib.hid (units_row w n₀ len c p is way hI hn (by omega))
    have HF : Hid (∀ i, i < (unitsP (opsOf is) way).length → ((unitsP (opsOf is) way).getD i (0, 0)).1 = atU (unitsP (opsOf is) way) i ∧ ((unitsP (opsOf is) way).getD i (0, 0)).2 = atU (unitsP (opsOf is) way) (i + 1) ∧ atU (unitsP (opsOf is) way) i < atU (unitsP (opsOf is) way) (i + 1) ∧ atU (unitsP (opsOf is) way) (i + 1) ≤ len) := Lib.hid (fun i hi => by
      have h1 := unit_from (opsOf is) way i hi
      have h2 := unit_lt (opsOf is) way i hi
      have h3 := unit_to (opsOf is) way i hi
      rw [unit_at_succ]
      exact ⟨h1, rfl, h2, by omega⟩)
    have HP : Hid (∀ i s, i + 1 < (unitsP (opsOf is) way).length → atU (unitsP (opsOf is) way) (i + 1) = s + 1 → (is.getD s default).op = 15) := Lib.hid (fun i s hi hs => by
      have h1 := (unit_piece (opsOf is) way i hi).2
      rw [← unit_at_succ, hs, Nat.add_sub_cancel, opsOf_get] at h1
      exact h1)
    have HO : Hid (∀ i k, i < (unitsP (opsOf is) way).length → atU (unitsP (opsOf is) way) i ≤ k → k < atU (unitsP (opsOf is) way) (i + 1) → ofP (unitsP (opsOf is) way) k 0 = i) := Lib.hid (fun i k hi h1 h2 => ofP_unit (opsOf is) way i hi k h1 (by rw [← unit_at_succ]; exact h2))
    have HL : Hid (atU (unitsP (opsOf is) way) (unitsP (opsOf is) way).length = len) := Lib.hid (by rw [unit_last, hol, hlen])
    have HW : Hid (way = 1 ∨ (unitsP (opsOf is) way).length ≤ 1) := Lib.hid (by
      by_cases h : way = 1
      · exact Or.inl h
      · exact Or.inr (unit_whole (opsOf is) way h))
    have hUL : (unitsP (opsOf is) way).length ≤ 200 := by
      have := unitsTo_len (opsOf is) way (opsOf is).length
      unfold unitsP
      omega
    obtain ⟨US, hUS⟩ : ∃ US, unitsP (opsOf is) way = US := ⟨_, rfl⟩
    have HUS := Lib.hid hUS
    rw [hUS] at CU HF HP HO HL HW hUL
    obtain ⟨n, hnn⟩ : ∃ n, US.length = n := ⟨_, rfl⟩
    rw [hnn] at CU HF HP HO HL HW hUL
    have ha0 : atU US 0 = 0 := rfl
    have HA0 := Lib.hid ha0
    clear hI hUS hnn hbig hol ha0
    go_enter Try.func4, Try.ntmps4
    go_wp2_with fail
    (with_reducible refine CU.out.mono ?_)
    rintro e w1 ⟨up, uc, rfl, hU, hb1⟩
    have HU := Lib.hid hU
    have HB1 := Lib.hid hb1
    have hs1 := hb1.size
    have hucap := hU.cap
    clear hU hb1 CU
    go_wp2_with fail
    go_loopw [5, 7] (fun at' iv wr => ∃ i : Nat, iv = .int .i64 i ∧ i ≤ n ∧ at' = .int .i64 (atU US i : Nat) ∧ Hid (Below w1.heap.size w1 wr)) (fun _ iv _ => n - (intOf iv).toNat)
    case atStart => exact ⟨0, rfl, Nat.zero_le _, by rw [HA0.out]; rfl, Lib.hid (Below.refl _ _)⟩
    case round =>
      obtain ⟨i, rfl, hi, rfl, HB⟩ := hrel
      obtain ⟨wo, rfl⟩ : ∃ wo : World, wo = wr := ⟨_, rfl⟩
      by_cases hlt : i < n
      · obtain ⟨f1, f2, f3, f4⟩ := HF.out i hlt
        obtain ⟨bu, rfl, hbu, hcu⟩ := (HU.out.on (Kb.of HB.out (Nat.le_refl _))).cell (by omega)
        have m0 := (hcu i hlt).1
        have m1 := (hcu i hlt).2
        have HP2 : Hid (∀ s, i + 1 < n → atU US (i + 1) = s + 1 → (is.getD s default).op = 15) := Lib.hid (HP.out i)
        have HO2 : Hid (∀ k, atU US i ≤ k → k < atU US (i + 1) → ofP US k 0 = i) := Lib.hid (fun k => HO.out i k hlt)
        rw [f1] at m0
        rw [f2] at m1
        clear f1 f2
        obtain ⟨s, hs⟩ : ∃ s, atU US (i + 1) = s + 1 := ⟨atU US (i + 1) - 1, by omega⟩
        have HS := Lib.hid hs
        rw [hs] at m1 f3 f4 HP2 HO2
        obtain ⟨a, ha⟩ : ∃ a, atU US i = a := ⟨_, rfl⟩
        rw [ha] at m0 f3 HO2
        clear hcu hs
        have hpc : i + 1 < n → ∃ b off, p = some ⟨b, off, none⟩ ∧ wo.cell? ⟨b, off + s * 13, none⟩ = some (.int .u8 15) := fun h => by
          obtain ⟨b, off, e, hb, hc⟩ := (HI.out.on (Kb.of (HB1.out.trans (HB.out.mono hs1)) hn)).cell (by omega)
          obtain ⟨kp, kl, kc, vp, vl, vc, ic⟩ := hc s (by omega)
          have := ic.c0
          rw [HP2.out s h rfl] at this
          exact ⟨b, off, e, this⟩
        by_cases hnx : i + 1 < n
        · obtain ⟨b, off, rfl, ck⟩ := hpc hnx
          clear hpc
          have q1 : (i : Int) < (n : Int) - 1 := by omega
          go_wp2_with fail
          go_loopw [8] (fun kv wr => ∃ k : Nat, kv = .int .i64 k ∧ a ≤ k ∧ k ≤ s + 1 ∧ Hid (Below w1.heap.size w1 wr)) (fun kv _ => s + 1 - (intOf kv).toNat)
          case atStart => exact ⟨a, rfl, Nat.le_refl _, by omega, HB⟩
          case round =>
            clear HB m0 m1
            obtain ⟨k, rfl, hk1, hk2, HB⟩ := hrel
            have m1 := ((HU.out.on (Kb.of HB.out (Nat.le_refl _))).cell (by omega))
            obtain ⟨bu', e', _, hcu⟩ := m1
            cases e'
            have m1 := (hcu i hlt).2
            rw [(HF.out i hlt).2.1, HS.out] at m1
            clear hcu
            by_cases hk : k < s + 1
            · have OF := Lib.hid (of_at wr n₀ len c _ is way (k : Int) (HI.out.on (Kb.of (HB1.out.trans (HB.out.mono hs1)) hn)) (by have := HB.out.size; omega) (by omega))
              rw [HUS.out, HO2.out k hk1 hk] at OF
              go_wp2_with fail
              (with_reducible refine OF.out.mono ?_)
              rintro e w3 ⟨rfl, hb3⟩
              have HB3 := Lib.hid (HB.out.trans (hb3.mono HB.out.size))
              clear hb3 OF
              go_wp2
              go_roundw
              case rel => exact ⟨k + 1, by simp, by omega, by omega, HB3⟩
              case measure => simp [intOf]; omega
            · obtain rfl : k = s + 1 := by omega
              go_wp2
              go_roundw
              case rel => exact ⟨i + 1, by simp, by omega, by rw [HS.out]; simp, HB⟩
              case measure => simp [intOf]; omega
        · clear hpc
          have q1 : ¬ (i : Int) < (n : Int) - 1 := by omega
          go_wp2_with fail
          go_loopw [8] (fun kv wr => ∃ k : Nat, kv = .int .i64 k ∧ a ≤ k ∧ k ≤ s + 1 ∧ Hid (Below w1.heap.size w1 wr)) (fun kv _ => s + 1 - (intOf kv).toNat)
          case atStart => exact ⟨a, rfl, Nat.le_refl _, by omega, HB⟩
          case round =>
            clear HB m0 m1
            obtain ⟨k, rfl, hk1, hk2, HB⟩ := hrel
            have m1 := ((HU.out.on (Kb.of HB.out (Nat.le_refl _))).cell (by omega))
            obtain ⟨bu', e', _, hcu⟩ := m1
            cases e'
            have m1 := (hcu i hlt).2
            rw [(HF.out i hlt).2.1, HS.out] at m1
            clear hcu
            by_cases hk : k < s + 1
            · have OF := Lib.hid (of_at wr n₀ len c _ is way (k : Int) (HI.out.on (Kb.of (HB1.out.trans (HB.out.mono hs1)) hn)) (by have := HB.out.size; omega) (by omega))
              rw [HUS.out, HO2.out k hk1 hk] at OF
              go_wp2_with fail
              (with_reducible refine OF.out.mono ?_)
              rintro e w3 ⟨rfl, hb3⟩
              have HB3 := Lib.hid (HB.out.trans (hb3.mono HB.out.size))
              clear hb3 OF
              go_wp2
              go_roundw
              case rel => exact ⟨k + 1, by simp, by omega, by omega, HB3⟩
              case measure => simp [intOf]; omega
            · obtain rfl : k = s + 1 := by omega
              go_wp2
              go_roundw
              case rel => exact ⟨i + 1, by simp, by omega, by rw [HS.out]; simp, HB⟩
              case measure => simp [intOf]; omega
      · obtain rfl : i = n := by omega
        have WK := Lib.hid (works wo)
        have HB2 := Lib.hid (HB1.out.trans (HB.out.mono hs1))
        rw [HL.out]
        by_cases hw : way = 1
        · subst hw
          go_wp2_with fail
          (with_reducible refine WK.out.mono ?_)
          rintro e w3 ⟨rfl, hb3⟩
          go_wp2
          go_ret
          exact ⟨rfl, HB2.out.trans (hb3.mono HB2.out.size)⟩
        · have hw2 : (way == 1) = false := by simpa using hw
          have hi1 : i ≤ 1 := by
            rcases HW.out with h | h
            · exact absurd h hw
            · exact h
          go_wp2_with fail
          (with_reducible refine WK.out.mono ?_)
          rintro e w3 ⟨rfl, hb3⟩
          go_wp2
          go_ret
          exact ⟨rfl, HB2.out.trans (hb3.mono HB2.out.size)⟩
end Go.Proofs.Ytfboifbpbjmcbaa.Pz
