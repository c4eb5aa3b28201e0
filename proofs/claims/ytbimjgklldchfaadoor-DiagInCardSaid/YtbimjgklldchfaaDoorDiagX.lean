/- strconv.Itoa over whatever table of powers: the text hangs on the number and the table alone. -/
import Derived.Test.YtbimjgklldchfaaDoorDiagU
import Derived.Test.YtbimjgklldchfaaDoorFmt
import Derived.Test.YtbimjgklldchfaaDoorShelfB
import Derived.Lib.AppendIntMem
import Derived.Lib.ItoaMem
import Derived.Lib.ItoaLen
namespace Go.Proofs.YtbimjgklldchfaaDoor
open Go.RowKit Go.Sort Go.Lib

/-- the table's cells -/
def Tab (t : Nat → Int) (w : World) : Prop := ∀ i, i < 20 → w.cell? ⟨2, i, none⟩ = some (.int .u64 (t i))
theorem Tab.below {t : Nat → Int} {w w' : World} (h : Tab t w) (hb : Below w.heap.size w w') : Tab t w' := fun i hi => by
  rw [hb.cell (p := ⟨2, i, none⟩) (cell_lt (h i hi))]; exact h i hi
def cnt (t : Nat → Int) (u : Nat) : Nat := Lib.l10 (Lib.bitLen u) + if t (Lib.l10 (Lib.bitLen u)) ≤ (u : Int) then 1 else 0
theorem cnt_bd (t : Nat → Int) (u : Nat) (h1 : 1 ≤ u) (h2 : u < 18446744073709551616) : cnt t u ≤ 20 ∧ u < 10 ^ (cnt t u + 1) := by
  obtain ⟨hnd, h19⟩ := numDigits_eq u h1 h2
  have hlt := lt_pow_nDigits u
  unfold cnt
  constructor
  · split <;> omega
  · refine Nat.lt_of_lt_of_le hlt (Nat.pow_le_pow_right (by omega) ?_)
    rw [← hnd]
    split <;> split <;> omega
set_option maxHeartbeats 2000000 in
set_option maxRecDepth 100000 in
theorem digits_any (t : Nat → Int) (u : Nat) (h1 : 1 ≤ u) (h2 : u < 18446744073709551616) (w : World) (hT : Tab t w) :
    Calls Tryd.prog 43 #[.int .u64 u] w fun e w' => e = .returned (.int .i64 (cnt t u)) ∧ w = w' := by
  obtain ⟨hnd, h19⟩ := numDigits_eq u h1 h2
  have hL : Lib.bitLen u ≤ 64 := Lib.bitLen_le u 64 (Nat.le_refl _) h2
  have hcell := hT (Lib.l10 (Lib.bitLen u)) (by omega)
  have hto : ((u : Int)).toNat = u := by omega
  unfold cnt
  clear hT hnd
  generalize hq : Lib.l10 (Lib.bitLen u) = q at *
  generalize t q = T at *
  have h20 : (q : Int) < 20 := by omega
  by_cases hc : T ≤ (u : Int)
  · rw [if_pos hc]
    go_enter Tryd.func43, Tryd.ntmps43
    go_wp2_with (first
      | (go_at_call 49; refine (Tryd.bits_Len64 _ _ (by omega) (by omega)).mono ?_; rintro e w' ⟨rfl, rfl⟩)
      | (go_at_call 48; refine (Tryd.internal_strconv_log10Pow2 _ (by first | exact hL | (rw [hto]; exact hL)) _).mono ?_; rintro e w' ⟨rfl, rfl⟩)
      | (go_at_call 50; refine (Tryd.internal_strconv_bool2_int _ _).mono ?_; rintro e w' ⟨rfl, rfl⟩))
    all_goals go_ret
    all_goals exact ⟨by simp, rfl⟩
  · rw [if_neg hc]
    go_enter Tryd.func43, Tryd.ntmps43
    go_wp2_with (first
      | (go_at_call 49; refine (Tryd.bits_Len64 _ _ (by omega) (by omega)).mono ?_; rintro e w' ⟨rfl, rfl⟩)
      | (go_at_call 48; refine (Tryd.internal_strconv_log10Pow2 _ (by first | exact hL | (rw [hto]; exact hL)) _).mono ?_; rintro e w' ⟨rfl, rfl⟩)
      | (go_at_call 50; refine (Tryd.internal_strconv_bool2_int _ _).mono ?_; rintro e w' ⟨rfl, rfl⟩))
    all_goals go_ret
    all_goals exact ⟨by simp, rfl⟩

theorem fin_size (nd v : Nat) (dk : Array UInt8) : (fin nd v dk).size = dk.size := by
  induction nd using Nat.strongRecOn generalizing v dk with
  | ind nd ih =>
    match nd, ih with
    | 0, _ => rfl
    | 1, _ => simp [fin]
    | k + 2, ih => rw [fin, ih k (by omega)]; simp [step2]
def numT (t : Nat → Int) (u : Nat) : Array UInt8 := fin (cnt t u) u (Array.replicate (cnt t u) 0)
theorem numT_size (t : Nat → Int) (u : Nat) : (numT t u).size = cnt t u := by unfold numT; rw [fin_size, Array.size_replicate]
def itoaL (t : Nat → Int) (n : Int) : List UInt8 := if 0 ≤ n ∧ n < 100 then Lib.decDigits n.toNat else if n < 0 then 45 :: (numT t n.natAbs).toList else (numT t n.natAbs).toList
theorem fmt_at (blk off cap : Nat) (u : Nat) (d : Array UInt8) (w : World) (hH : Holds (fun (b : UInt8) => Value.int .u8 (b.toNat : Int)) w blk off d) (hu : u < 10 ^ (d.size + 1)) (hu64 : u < 18446744073709551616) (hsz : d.size < 4611686018427387904) :
    Calls Tryd.prog 44 #[.slice (some ⟨blk, off, none⟩) d.size cap, .int .u64 u] w fun e w' =>
      e = .returned (.tuple #[]) ∧ ∃ n : Nat, w' = (putRow (fun (b : UInt8) => Value.int .u8 (b.toNat : Int)) w blk off (fin d.size u d)).drewN n := fmt_any Tryd.lays285 blk off cap u d w hH hu hu64 hsz
theorem getBang (d : Array UInt8) (j : Nat) (h : j < d.toList.length) : d.toList[j] = d[j]! := by
  have h' : j < d.size := by simpa using h
  simp [getElem!_pos d j h']
set_option maxHeartbeats 6400000 in
set_option maxRecDepth 100000 in
theorem format_any (t : Nat → Int) (n : Int) (h0 : -9223372036854775808 ≤ n) (h1 : n ≤ 9223372036854775807) (w : World) (hT : Tab t w) :
    Calls Tryd.prog 33 #[.int .i64 n, .int .i64 10] w fun e w' => e = .returned (.string ⟨(itoaL t n).toArray⟩) ∧ Below w.heap.size w w' := by
  by_cases hs : 0 ≤ n ∧ n < 100
  · obtain ⟨i, rfl⟩ : ∃ i : Nat, n = i := ⟨n.toNat, by omega⟩
    have hi : i < 100 := by omega
    have e : itoaL t (i : Int) = Lib.decDigits i := by unfold itoaL; rw [if_pos hs]; rfl
    rw [e]
    clear e hT
    go_enter Tryd.func33, Tryd.ntmps33
    go_wp2_with (go_at_call 42; refine (Tryd.internal_strconv_small i hi _).mono ?_; rintro e w' ⟨rfl, rfl⟩)
    go_ret
    exact ⟨rfl, Below.refl _ _⟩
  · have hT2 : Tab t (w.alloc (.cells Lib.zeros24 91)) := hT.below ((Below.refl _ _).alloc (Nat.le_refl _) _)
    by_cases hneg : n < 0
    · obtain ⟨u, rfl⟩ : ∃ u : Nat, n = -(u : Int) := ⟨n.natAbs, by omega⟩
      have hu1 : 1 ≤ u := by omega
      have hu64 : u < 18446744073709551616 := by omega
      obtain ⟨hb20, hup⟩ := cnt_bd t u hu1 hu64
      have HD := digits_any t u hu1 hu64 _ hT2
      have e : itoaL t (-(u : Int)) = 45 :: (numT t u).toList := by
        unfold itoaL; rw [if_neg hs, if_pos hneg, show (-(u : Int)).natAbs = u by omega]
      rw [e]
      clear e hT hT2
      have hsize := numT_size t u
      have hH0 := Lib.holds_zero w 91 (cnt t u) (by omega)
      have hfmt := fmt_at w.heap.size 1 23 u (Array.replicate (cnt t u) 0) (w.alloc (.cells Lib.zeros24 91)) hH0 (by rw [Array.size_replicate]; exact hup) hu64 (by rw [Array.size_replicate]; omega)
      rw [Array.size_replicate] at hfmt
      change Calls _ _ _ _ (fun e w' => e = Ending.returned (.tuple #[]) ∧ ∃ n : Nat, w' = (putRow (fun (b : UInt8) => Value.int .u8 (b.toNat : Int)) (w.alloc (.cells Lib.zeros24 91)) w.heap.size 1 (numT t u)).drewN n) at hfmt
      have HH0 := Lib.hid hH0
      have hwr : IntKind.u64.wrap (-IntKind.u64.wrap (-(u : Int))) = (u : Int) := by rw [IntKind.wrap_u64, IntKind.wrap_u64]; omega
      clear hH0 hup
      generalize numT t u = dk at *
      generalize cnt t u = C at *
      have hal : Tryd.prog.arrayLen 91 = 24 := by kernel_rfl
      have hsl1 : ∀ W, (Instr.sliceAt 91 (.pointer (some ⟨w.heap.size, 0, none⟩)) (some (.int .i64 1)) (some (.int .i64 (1 + (C : Int)))) none).run Tryd.prog W = .ok (.slice (some ⟨w.heap.size, 1, none⟩) C 23) W := fun W => by
        rw [run_sliceAt_array_lh W 91 ⟨w.heap.size, 0, none⟩ (by simp [Program.arrayLen, Program.elem, Tryd.underlying91]) .i64 .i64 1 (1 + (C : Int)) (by omega) (by omega) (by rw [hal]; omega)]
        go_simp
        omega
      have hsl2 : ∀ W, (Instr.sliceAt 91 (.pointer (some ⟨w.heap.size, 0, none⟩)) none (some (.int .i64 (1 + (C : Int)))) none).run Tryd.prog W = .ok (.slice (some ⟨w.heap.size, 0, none⟩) (1 + C) 24) W := fun W => by
        rw [run_sliceAt_array_h W 91 ⟨w.heap.size, 0, none⟩ (by simp [Program.arrayLen, Program.elem, Tryd.underlying91]) .i64 (1 + (C : Int)) (by omega) (by rw [hal]; omega)]
        go_simp
        omega
      clear hal
      have HSZ := Lib.hid hsize
      clear hsize
      go_enter Tryd.func33, Tryd.ntmps33
      go_wp2_with (go_at_call 43; refine HD.mono ?_; rintro e w' ⟨rfl, rfl⟩)
      go_at_call 44
      refine hfmt.mono ?_
      rintro e w' ⟨rfl, k, rfl⟩
      have hc0 : ((putRow (fun (b : UInt8) => Value.int .u8 (b.toNat : Int)) (w.alloc (.cells Lib.zeros24 91)) w.heap.size 1 dk).drewN k).cell? ⟨w.heap.size, 0, none⟩ = some (.int .u8 0) := by
        rw [World.cell?_drewN, cell?_putRow_other _ _ _ _ _ _ (Or.inr (Or.inl (Nat.zero_lt_one))), World.cell?_alloc_new]
        exact Lib.zeros24_at 0 (by omega)
      have hf0 : ((putRow (fun (b : UInt8) => Value.int .u8 (b.toNat : Int)) (w.alloc (.cells Lib.zeros24 91)) w.heap.size 1 dk).drewN k).frozen? ⟨w.heap.size, 0, none⟩ = false := by
        rw [World.frozen?_drewN, frozen?_putRow]
        exact World.frozen?_alloc_new _ _ _ _
      have hcv : (convert 22 9 (.slice (some ⟨w.heap.size, 0, none⟩) (1 + C) 24)).run Tryd.prog (((putRow (fun (b : UInt8) => Value.int .u8 (b.toNat : Int)) (w.alloc (.cells Lib.zeros24 91)) w.heap.size 1 dk).drewN k).setCell ⟨w.heap.size, 0, none⟩ (.int .u8 45)) = .ok (.string ⟨(45 :: dk.toList).toArray⟩) (((putRow (fun (b : UInt8) => Value.int .u8 (b.toNat : Int)) (w.alloc (.cells Lib.zeros24 91)) w.heap.size 1 dk).drewN k).setCell ⟨w.heap.size, 0, none⟩ (.int .u8 45)) := by
        have h := run_convert_bytes_back (P := Tryd.prog) (((putRow (fun (b : UInt8) => Value.int .u8 (b.toNat : Int)) (w.alloc (.cells Lib.zeros24 91)) w.heap.size 1 dk).drewN k).setCell ⟨w.heap.size, 0, none⟩ (.int .u8 45)) 22 9 5 ⟨w.heap.size, 0, none⟩ 24 (45 :: dk.toList) Tryd.underlying22 Tryd.underlying5 Tryd.underlying9 (fun j hj => by
          rw [Lib.add_plain]
          cases j with
          | zero => exact World.cell?_setCell_same _ _ _ hc0
          | succ i =>
            have hi : i < dk.toList.length := by simpa using hj
            rw [World.cell?_setCell_other _ _ _ _ (by simp), List.getElem_cons_succ, getBang dk i hi, World.cell?_drewN, show 0 + (i + 1) = 1 + i by omega]
            exact cell?_putRow (fun (b : UInt8) => Value.int .u8 (b.toNat : Int)) _ w.heap.size 1 _ dk HH0.out (by rw [HSZ.out, Array.size_replicate]) i (by simpa using hi))
        rw [List.length_cons, Array.length_toList, HSZ.out, Nat.add_comm] at h
        exact h
      go_wp2
      go_ret
      obtain ⟨os, eo⟩ := Lib.fin_neg w (.cells Lib.zeros24 91) dk k (.int .u8 45)
      refine ⟨rfl, ?_⟩
      rw [eo]
      exact Lib.below_grow _ w (Nat.le_refl _) k os
    · obtain ⟨u, rfl⟩ : ∃ u : Nat, n = u := ⟨n.toNat, by omega⟩
      have hu1 : 1 ≤ u := by omega
      have hu64 : u < 18446744073709551616 := by omega
      obtain ⟨hb20, hup⟩ := cnt_bd t u hu1 hu64
      have HD := digits_any t u hu1 hu64 _ hT2
      have e : itoaL t (u : Int) = (numT t u).toList := by
        unfold itoaL; rw [if_neg hs, if_neg hneg, show ((u : Int)).natAbs = u by omega]
      rw [e]
      clear e hT hT2
      have hsize := numT_size t u
      have hH0 := Lib.holds_zero w 91 (cnt t u) (by omega)
      have hfmt := fmt_at w.heap.size 1 23 u (Array.replicate (cnt t u) 0) (w.alloc (.cells Lib.zeros24 91)) hH0 (by rw [Array.size_replicate]; exact hup) hu64 (by rw [Array.size_replicate]; omega)
      rw [Array.size_replicate] at hfmt
      change Calls _ _ _ _ (fun e w' => e = Ending.returned (.tuple #[]) ∧ ∃ n : Nat, w' = (putRow (fun (b : UInt8) => Value.int .u8 (b.toNat : Int)) (w.alloc (.cells Lib.zeros24 91)) w.heap.size 1 (numT t u)).drewN n) at hfmt
      have HH0 := Lib.hid hH0
      clear hH0 hup
      generalize numT t u = dk at *
      generalize cnt t u = C at *
      have hal : Tryd.prog.arrayLen 91 = 24 := by kernel_rfl
      have hsl1 : ∀ W, (Instr.sliceAt 91 (.pointer (some ⟨w.heap.size, 0, none⟩)) (some (.int .i64 1)) (some (.int .i64 (1 + (C : Int)))) none).run Tryd.prog W = .ok (.slice (some ⟨w.heap.size, 1, none⟩) C 23) W := fun W => by
        rw [run_sliceAt_array_lh W 91 ⟨w.heap.size, 0, none⟩ (by simp [Program.arrayLen, Program.elem, Tryd.underlying91]) .i64 .i64 1 (1 + (C : Int)) (by omega) (by omega) (by rw [hal]; omega)]
        go_simp
        omega
      clear hal
      have HSZ := Lib.hid hsize
      clear hsize
      go_enter Tryd.func33, Tryd.ntmps33
      go_wp2_with (go_at_call 43; refine HD.mono ?_; rintro e w' ⟨rfl, rfl⟩)
      go_at_call 44
      refine hfmt.mono ?_
      rintro e w' ⟨rfl, k, rfl⟩
      have hcv : (convert 22 9 (.slice (some ⟨w.heap.size, 1, none⟩) C 23)).run Tryd.prog ((putRow (fun (b : UInt8) => Value.int .u8 (b.toNat : Int)) (w.alloc (.cells Lib.zeros24 91)) w.heap.size 1 dk).drewN k) = .ok (.string ⟨dk.toList.toArray⟩) ((putRow (fun (b : UInt8) => Value.int .u8 (b.toNat : Int)) (w.alloc (.cells Lib.zeros24 91)) w.heap.size 1 dk).drewN k) := by
        have h := run_convert_bytes_back (P := Tryd.prog) ((putRow (fun (b : UInt8) => Value.int .u8 (b.toNat : Int)) (w.alloc (.cells Lib.zeros24 91)) w.heap.size 1 dk).drewN k) 22 9 5 ⟨w.heap.size, 1, none⟩ 23 dk.toList Tryd.underlying22 Tryd.underlying5 Tryd.underlying9 (fun j hj => by
          rw [getBang dk j hj, Lib.add_plain, World.cell?_drewN]
          exact cell?_putRow (fun (b : UInt8) => Value.int .u8 (b.toNat : Int)) _ w.heap.size 1 _ dk HH0.out (by rw [HSZ.out, Array.size_replicate]) j (by simpa using hj))
        rw [Array.length_toList, HSZ.out] at h
        exact h
      go_wp2
      go_ret
      obtain ⟨os, eo⟩ := Lib.fin_pos w (.cells Lib.zeros24 91) dk k
      refine ⟨rfl, ?_⟩
      rw [eo]
      exact Lib.below_grow _ w (Nat.le_refl _) k os

theorem itoa22 (t : Nat → Int) (n : Int) (h0 : -9223372036854775808 ≤ n) (h1 : n ≤ 9223372036854775807) (w : World) (hT : Tab t w) :
    Calls Tryd.prog 22 #[.int .i64 n] w fun e w' => e = .returned (.string ⟨(itoaL t n).toArray⟩) ∧ Below w.heap.size w w' := by
  have H := format_any t n h0 h1 w hT
  generalize itoaL t n = s at *
  clear hT
  go_enter Tryd.func22, Tryd.ntmps22
  go_wp2_with (go_at_call 33; (with_reducible refine H.mono ?_); rintro e w' ⟨rfl, hb⟩)
  go_ret
  exact ⟨rfl, hb⟩
theorem itoa11 (t : Nat → Int) (n : Int) (h0 : -9223372036854775808 ≤ n) (h1 : n ≤ 9223372036854775807) (w : World) (hT : Tab t w) :
    Calls Tryd.prog 11 #[.int .i64 n] w fun e w' => e = .returned (.string ⟨(itoaL t n).toArray⟩) ∧ Below w.heap.size w w' := by
  have H := itoa22 t n h0 h1 w hT
  generalize itoaL t n = s at *
  clear hT
  go_enter Tryd.func11, Tryd.ntmps11
  go_wp2_with (go_at_call 22; (with_reducible refine H.mono ?_); rintro e w' ⟨rfl, hb⟩)
  go_ret
  exact ⟨rfl, hb⟩
/-- a number's text over the table t; nothing where it is no int -/
def IT (t : Nat → Int) (n : Int) : ByteArray := ⟨(if -9223372036854775808 ≤ n ∧ n ≤ 9223372036854775807 then itoaL t n else []).toArray⟩
theorem itoaIs_tab (t : Nat → Int) : ItoaIs (IT t) (Tab t) := by
  refine ⟨fun n w h0 h1 hS => ?_, fun n => ?_, fun w w' hS hb => hS.below hb⟩
  · refine (itoa11 t n h0 h1 w hS).mono ?_
    rintro e w' ⟨rfl, hb⟩
    refine ⟨?_, hb⟩
    unfold IT
    rw [if_pos ⟨h0, h1⟩]
  · unfold IT
    split
    · rename_i h
      show (itoaL t n).toArray.size ≤ 24
      unfold itoaL
      split
      · rename_i h2
        have e : Lib.decDigits n.toNat = Lib.itoa (n.toNat : Int) := (Lib.itoa_nonneg _).symm
        have := Lib.itoa_length_le (n.toNat : Int) (by omega) (by omega)
        rw [e, List.size_toArray]
        omega
      · rename_i h2
        have hc := (cnt_bd t n.natAbs (by omega) (by omega)).1
        have hz := numT_size t n.natAbs
        split <;> simp [hz] <;> omega
    · decide
end Go.Proofs.YtbimjgklldchfaaDoor
