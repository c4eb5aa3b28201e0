import Derived.Test.YtabbodbnjegllaaDoorLexA
import Derived.Deep.QuietTactic
import Derived.BigQuiet
import Derived.Lib.BytesEntry
namespace Go.Proofs.YtabbodbnjegllaaDoor
open Go.RowKit
theorem drewN_below (B : Nat) (w : World) (n : Nat) : Below B w (w.drewN n) := ⟨rfl, rfl, rfl, Nat.le_refl _, fun _ _ => rfl⟩
theorem retI {a b : Int} (h : a = b) : Ending.returned (.int .i64 a) = .returned (.int .i64 b) := by rw [h]
structure SK (W : World) (p : Option Addr) (len c kb : Nat) (xs : List Int) : Prop where
  len_eq : xs.length = len
  byte : ∀ i, 0 ≤ xs.getD i 0 ∧ xs.getD i 0 < 256
  addr : 0 < len → ∃ b off, p = some ⟨b, off, none⟩ ∧ b < W.heap.size ∧ ∀ i, i < len → W.cell? ⟨b, off + i, none⟩ = some (.int .u8 (xs.getD i 0))
  cap : len ≤ c
  kinds : ∀ k : Nat, k < 256 → W.cell? ⟨kb, k, none⟩ = some (.int .u8 (kindF k))
  kbl : kb < W.heap.size
theorem SK.on {W W' : World} {p : Option Addr} {len c kb : Nat} {xs : List Int} (h : SK W p len c kb xs) {B : Nat} (hB : W.heap.size ≤ B) (hb : Below B W W') : SK W' p len c kb xs where
  len_eq := h.len_eq
  byte := h.byte
  addr := fun hl => by
    obtain ⟨b, off, e, hlt, hc⟩ := h.addr hl
    exact ⟨b, off, e, Nat.lt_of_lt_of_le hlt hb.size, fun i hi => by rw [hb.cell (p := ⟨b, off + i, none⟩) (Nat.lt_of_lt_of_le hlt hB)]; exact hc i hi⟩
  cap := h.cap
  kinds := fun k hk => by rw [hb.cell (p := ⟨kb, k, none⟩) (Nat.lt_of_lt_of_le h.kbl hB)]; exact h.kinds k hk
  kbl := Nat.lt_of_lt_of_le h.kbl hb.size
theorem SK.alloc {W : World} {p : Option Addr} {len c kb : Nat} {xs : List Int} (h : SK W p len c kb xs) (o : Obj) : SK (W.alloc o) p len c kb xs :=
  h.on (Nat.le_refl _) ((Below.refl _ _).alloc (Nat.le_refl _) _)
theorem kind_at (W : World) (kb m : Nat) (hm : m < 256) (hk : W.cell? ⟨kb, m, none⟩ = some (.int .u8 (kindF m))) :
    Calls Tryd.prog 35 #[.int .u8 m, .pointer (some ⟨kb, 0, none⟩)] W fun e w' => e = .returned (.int .u8 (kindF m)) ∧ w' = W := by
  generalize kindF m = k at *
  go_enter Tryd.func35, Tryd.ntmps35
  go_wp2
  go_ret
  exact ⟨rfl, rfl⟩
theorem inName_at (W : World) (k : Int) :
    Calls Tryd.prog 32 #[.int .u8 k] W fun e w' => e = .returned (.bool (k == 3 || k == 4 || k == 5)) ∧ w' = W := by
  go_enter Tryd.func32, Tryd.ntmps32
  go_wp2
  all_goals (go_ret; simp_all)
theorem kind_name (c : Int) : (kindF c == 3 || kindF c == 4 || kindF c == 5) = isNameB c := by
  unfold kindF
  by_cases h1 : isBlank c = true
  · have : c = 32 ∨ c = 9 ∨ c = 10 ∨ c = 13 := by simpa [isBlank, or_assoc] using h1
    rcases this with rfl | rfl | rfl | rfl <;> decide
  · by_cases h2 : c = 35
    · subst h2; decide
    · by_cases h3 : isLetter c = true
      · simp [h1, h2, h3, isNameB]
      · by_cases h4 : isDigit c = true
        · simp [h1, h2, h3, h4, isNameB]
        · by_cases h5 : c = 95
          · subst h5; decide
          · by_cases h6 : isMark c = true
            · simp [h1, h2, h3, h4, h5, h6, isNameB]
            · simp [h1, h2, h3, h4, h5, h6, isNameB]
theorem indexByte_run (xs : List Int) (hr : ∀ x ∈ xs, 0 ≤ x ∧ x < 256) : Lib.indexByte (Lib.bytesOf xs) (10 : Int).toNat.toUInt8 = if run nl xs < xs.length then (run nl xs : Int) else -1 := by
  induction xs with
  | nil => simp [Lib.bytesOf, Lib.indexByte, run]
  | cons x xs ih =>
    have hx := hr x (by simp)
    have ih := ih (fun y hy => hr y (by simp [hy]))
    simp only [Lib.bytesOf, List.map_cons, Lib.indexByte] at ih ⊢
    by_cases h : x = 10
    · subst h
      simp [run, nl]
    · have hne : (UInt8.ofNat x.toNat == (10 : Int).toNat.toUInt8) = false := by
        simp only [beq_eq_false_iff_ne, ne_eq]
        intro e
        have := congrArg UInt8.toNat e
        simp at this
        omega
      have hn : nl x = true := by simp [nl, h]
      simp only [hne, run, hn, if_true, ih, List.length_cons]
      by_cases hl : run nl xs < xs.length
      · simp [hl]
        try omega
      · simp [hl]
set_option maxHeartbeats 4000000 in
theorem pastRemark_at (w : World) (p : Option Addr) (len c kb i : Nat) (xs : List Int) (h : SK w p len c kb xs) (hb : len ≤ 70000) (hi : i < len) :
    Calls Tryd.prog 36 #[.agg #[.slice p len c, .func (.func 35) #[] #[.pointer (some ⟨kb, 0, none⟩)]], .int .i64 i] w fun e w' => e = .returned (.int .i64 ((i + run nl (xs.drop i) : Nat) : Int)) ∧ Below w.heap.size w w' := by
  have hlen := h.len_eq
  have hcap := h.cap
  obtain ⟨b, off, rfl, hbl, hc⟩ := h.addr (by omega)
  have h59 := @run_callFunc_extern Tryd.prog 59 _ Extern.BytealgIndexByte.indexByte Tryd.func59 (by kernel_rfl) (by kernel_rfl) (by kernel_rfl) (by kernel_rfl)
  have hr : (Extern.BytealgIndexByte.indexByte #[.slice (some ⟨b, off + i, none⟩) (len - i) (c - i), .int .u8 10]).run Tryd.prog (w.alloc (.cells #[.slice (some ⟨b, off, none⟩) len c, .func (.func 35) #[] #[.pointer (some ⟨kb, 0, none⟩)]] 49)) = .ok (.int .i64 (Lib.indexByte (Lib.bytesOf (xs.drop i)) (10 : Int).toNat.toUInt8)) (w.alloc (.cells #[.slice (some ⟨b, off, none⟩) len c, .func (.func 35) #[] #[.pointer (some ⟨kb, 0, none⟩)]] 49)) :=
    Lib.run_indexByteSlice (P := Tryd.prog) _ b (off + i) (len - i) (c - i) (xs.drop i) (by simp; omega) (fun j hj => by
      rw [World.cell?_alloc_lt _ _ _ hbl, Nat.add_assoc, hc (i + j) (by omega)]
      simp [List.getD]) 10
  rw [indexByte_run _ (fun x hx => by
    obtain ⟨j, hj, rfl⟩ := List.mem_iff_getElem.1 hx
    have := h.byte (i + j)
    simp at hj
    simpa [List.getD, show i + j < xs.length by omega] using this)] at hr
  have hrl := run_le nl (xs.drop i)
  simp only [List.length_drop, hlen] at hr hrl
  generalize run nl (xs.drop i) = r at *
  clear hc h hlen
  by_cases hlt : r < len - i
  · rw [if_pos hlt] at hr
    go_enter Tryd.func36, Tryd.ntmps36
    go_wp2
    go_ret
    exact ⟨retI (by omega), (Below.refl _ _).alloc (Nat.le_refl _) _⟩
  · rw [if_neg hlt] at hr
    go_enter Tryd.func36, Tryd.ntmps36
    go_wp2
    go_ret
    exact ⟨retI (by omega), (Below.refl _ _).alloc (Nat.le_refl _) _⟩
theorem kind_blank (c : Int) : (kindF c == 1) = isBlank c := by
  unfold kindF
  by_cases h1 : isBlank c = true
  · simp [h1]
  · have : isBlank c = false := by simpa using h1
    simp only [this]
    repeat' split
    all_goals simp_all
theorem kind_rem (c : Int) : (kindF c == 2) = (c == 35) := by
  unfold kindF
  by_cases h : c = 35
  · subst h; decide
  · have : (c == 35) = false := by simpa using h
    rw [this]
    repeat' split
    all_goals simp_all
set_option maxHeartbeats 4000000 in
theorem pastBlanks_at (w : World) (p : Option Addr) (len c kb i : Nat) (xs : List Int) (h : SK w p len c kb xs) (hb : len ≤ 70000) (hi : i ≤ len) :
    Calls Tryd.prog 22 #[.agg #[.slice p len c, .func (.func 35) #[] #[.pointer (some ⟨kb, 0, none⟩)]], .int .i64 i] w fun e w' => e = .returned (.int .i64 (bl xs i : Int)) ∧ Below w.heap.size w w' := by
  have H := Lib.hid h
  have hlen := Lib.hid h.len_eq
  clear h
  go_enter Tryd.func22, Tryd.ntmps22
  go_wp2_with fail
  go_loopw [1] (fun av wr => ∃ j : Nat, j ≤ len ∧ av = .int .i64 j ∧ Hid (bl xs j = bl xs i) ∧ Hid (Below (w.heap.size + 1) (w.alloc (.cells #[.slice p len c, .func (.func 35) #[] #[.pointer (some ⟨kb, 0, none⟩)]] 49)) wr)) (fun av _ => len - (intOf av).toNat)
  case atStart => exact ⟨i, hi, rfl, Lib.hid rfl, Lib.hid (Below.refl _ _)⟩
  case round =>
    obtain ⟨j, hj, rfl, HB, hbel⟩ := hrel
    have c0 : wr.cell? ⟨w.heap.size, 0, none⟩ = some (.slice p len c) := by rw [hbel.out.cell (by simp)]; simp
    have c1 : wr.cell? ⟨w.heap.size, 1, none⟩ = some (.func (.func 35) #[] #[.pointer (some ⟨kb, 0, none⟩)]) := by rw [hbel.out.cell (by simp)]; simp
    have hsk := Lib.hid ((H.out.alloc (.cells #[.slice p len c, .func (.func 35) #[] #[.pointer (some ⟨kb, 0, none⟩)]] 49)).on (by simp) hbel.out)
    have hfin : Below w.heap.size w wr := ((Below.refl _ _).alloc (Nat.le_refl _) _).trans (hbel.out.mono (by omega))
    have HF := Lib.hid hfin
    clear hfin
    by_cases hjl : j < len
    · obtain ⟨b, off, rfl, hbl, hc⟩ := hsk.out.addr (by omega)
      have hcj := hc j hjl
      have hby := hsk.out.byte j
      obtain ⟨m, hm⟩ : ∃ m : Nat, xs.getD j 0 = m := ⟨(xs.getD j 0).toNat, by omega⟩
      rw [hm] at hcj hby
      have HM := Lib.hid hm
      have hm256 : m < 256 := by omega
      have hk := hsk.out.kinds m hm256
      clear hc hbl hm hby
      have hkb := Lib.hid (kind_blank m)
      have hkr := Lib.hid (kind_rem m)
      have HK := Lib.hid hk
      clear hk
      go_wp2_with fail
      go_quiet (first | (go_at_call 35; refine Calls.quiet_of_same (kind_at _ kb m hm256 HK.out)))
      have hsk2 := Lib.hid (hsk.out.on (Nat.le_refl _) (drewN_below _ wr nq))
      have hf2 := Lib.hid (HF.out.trans (drewN_below _ wr nq))
      have hbel2 := Lib.hid (hbel.out.trans (drewN_below _ wr nq))
      have hRem := pastRemark_at (wr.drewN nq) (some ⟨b, off, none⟩) len c kb j xs hsk2.out hb hjl
      have HR := Lib.hid (run_le nl (xs.drop j))
      clear HK
      generalize kindF m = k at *
      by_cases k1 : k = 1
      · subst k1
        clear hRem
        go_wp2
        go_roundw
        case rel => exact ⟨j + 1, by omega, by go_num, Lib.hid (by rw [← HB.out, bl_blank xs j (by have := hlen.out; omega) (by rw [HM.out]; simpa using hkb.out.symm)]), hbel2⟩
        case measure => simp [intOf]; omega
      · have k1' : (k == 1) = false := by simpa using k1
        by_cases k2 : k = 2
        · subst k2
          have h35 : xs.getD j 0 = 35 := by rw [HM.out]; simpa using hkr.out.symm
          have hrun : 0 < run nl (xs.drop j) ∧ j + run nl (xs.drop j) ≤ len := by
            have := HR.out
            rw [List.length_drop, hlen.out] at this
            refine ⟨?_, by omega⟩
            rw [drop_at xs j (by have := hlen.out; omega), h35]
            simp [run, nl]
          have HBR := Lib.hid (bl_rem xs j (by have := hlen.out; omega) h35)
          generalize run nl (xs.drop j) = r at *
          clear h35
          go_wp2_with fail
          (with_reducible refine hRem.mono ?_)
          rintro e w' ⟨rfl, hb'⟩
          have HB' := Lib.hid (hbel2.out.trans (hb'.mono (by have := hbel2.out.size; simpa using this)))
          clear hb' hRem
          go_wp2
          go_roundw
          case rel => exact ⟨j + r, by omega, by go_num, Lib.hid (by rw [← HB.out, HBR.out]), HB'⟩
          case measure => simp [intOf]; omega
        · have k2' : (k == 2) = false := by simpa using k2
          clear hRem
          go_wp2
          go_ret
          exact ⟨retI (by rw [← HB.out, bl_stay xs j (by have := hlen.out; omega) (by rw [HM.out, ← hkb.out]; exact k1') (by rw [HM.out]; intro e; rw [e] at hkr; exact absurd hkr.out (by simp [k2']))]), hf2.out⟩
    · go_wp2
      go_ret
      exact ⟨retI (by rw [← HB.out, bl_end xs j (by have := hlen.out; omega)]), HF.out⟩
end Go.Proofs.YtabbodbnjegllaaDoor
