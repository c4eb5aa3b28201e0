import Derived.Test.YtabbodbnjegllaaDoorLexB
import Derived.Laws.BytesArg
import Derived.Lib.SlBytesConst
namespace Go.Proofs.YtabbodbnjegllaaDoor
open Go.RowKit
theorem run_yes (p : Int → Bool) (xs : List Int) (j : Nat) (h : j < xs.length) (hp : p (xs.getD j 0) = true) : run p (xs.drop j) = run p (xs.drop (j + 1)) + 1 := by
  rw [drop_at xs j h, run, if_pos hp]
theorem run_no (p : Int → Bool) (xs : List Int) (j : Nat) (h : j < xs.length) (hp : p (xs.getD j 0) = false) : run p (xs.drop j) = 0 := by
  rw [drop_at xs j h, run, if_neg (by rw [hp]; simp)]
theorem run_out (p : Int → Bool) (xs : List Int) (j : Nat) (h : xs.length ≤ j) : run p (xs.drop j) = 0 := by
  rw [List.drop_eq_nil_of_le h, run]
set_option maxHeartbeats 4000000 in
set_option maxRecDepth 1000000 in
theorem pastName_at (w : World) (p : Option Addr) (len c kb i : Nat) (xs : List Int) (h : SK w p len c kb xs) (hb : len ≤ 70000) (hi : i ≤ len) :
    Calls Tryd.prog 38 #[.agg #[.slice p len c, .func (.func 35) #[] #[.pointer (some ⟨kb, 0, none⟩)]], .int .i64 i] w fun e w' => e = .returned (.int .i64 ((i + run isNameB (xs.drop i) : Nat) : Int)) ∧ Below w.heap.size w w' := by
  have H := Lib.hid h
  have hlen := Lib.hid h.len_eq
  clear h
  go_enter Tryd.func38, Tryd.ntmps38
  go_wp2_with fail
  go_loopw [1] (fun av wr => ∃ j : Nat, j ≤ len ∧ av = .int .i64 j ∧ Hid (j + run isNameB (xs.drop j) = i + run isNameB (xs.drop i)) ∧ Hid (Below (w.heap.size + 1) (w.alloc (.cells #[.slice p len c, .func (.func 35) #[] #[.pointer (some ⟨kb, 0, none⟩)]] 49)) wr)) (fun av _ => len - (intOf av).toNat)
  case atStart => exact ⟨i, hi, rfl, Lib.hid rfl, Lib.hid (Below.refl _ _)⟩
  case round =>
    obtain ⟨j, hj, rfl, HB, hbel⟩ := hrel
    have c0 : wr.cell? ⟨w.heap.size, 0, none⟩ = some (.slice p len c) := by rw [hbel.out.cell (by simp)]; simp
    have c1 : wr.cell? ⟨w.heap.size, 1, none⟩ = some (.func (.func 35) #[] #[.pointer (some ⟨kb, 0, none⟩)]) := by rw [hbel.out.cell (by simp)]; simp
    have hsk := Lib.hid ((H.out.alloc (.cells #[.slice p len c, .func (.func 35) #[] #[.pointer (some ⟨kb, 0, none⟩)]] 49)).on (by simp) hbel.out)
    have HF := Lib.hid (show Below w.heap.size w wr from ((Below.refl _ _).alloc (Nat.le_refl _) _).trans (hbel.out.mono (by omega)))
    by_cases hjl : j < len
    · obtain ⟨b, off, rfl, hbl, hc⟩ := hsk.out.addr (by omega)
      have hcj := hc j hjl
      have hby := hsk.out.byte j
      obtain ⟨m, hm⟩ : ∃ m : Nat, xs.getD j 0 = m := ⟨(xs.getD j 0).toNat, by omega⟩
      rw [hm] at hcj hby
      have HM := Lib.hid hm
      have hm256 : m < 256 := by omega
      have HK := Lib.hid (hsk.out.kinds m hm256)
      have HN := Lib.hid (kind_name m)
      clear hc hbl hm hby
      have hj2 : (j : Int) < (len : Int) := by omega
      go_wp2_with fail
      go_quiet (first | (go_at_call 35; refine Calls.quiet_of_same (kind_at _ kb m hm256 HK.out)) | (go_at_call 32; refine Calls.quiet_of_same (inName_at _ _)))
      have hbel2 := Lib.hid (hbel.out.trans (drewN_below _ wr nq))
      have hf2 := Lib.hid (HF.out.trans (drewN_below _ wr nq))
      clear HK
      generalize kindF m = k at *
      obtain ⟨t, ht⟩ : ∃ t, (k == 3 || k == 4 || k == 5) = t := ⟨_, rfl⟩
      have HT := Lib.hid (HN.out.symm.trans ht)
      rw [ht]
      clear ht HN
      cases t with
      | true =>
        go_wp2
        go_roundw
        case rel => exact ⟨j + 1, by omega, by go_num, Lib.hid (by have := run_yes isNameB xs j (by have := hlen.out; omega) (by rw [HM.out]; exact HT.out); have := HB.out; omega), hbel2⟩
        case measure => simp [intOf]; omega
      | false =>
        go_wp2
        go_ret
        exact ⟨retI (by have := run_no isNameB xs j (by have := hlen.out; omega) (by rw [HM.out]; exact HT.out); have := HB.out; omega), hf2.out⟩
    · have hjd : decide ((j : Int) < (len : Int)) = false := by simp; omega
      go_wp2_with fail
      go_quiet (fail)
      have hf2 := Lib.hid (HF.out.trans (drewN_below _ wr nq))
      go_wp2
      go_ret
      exact ⟨retI (by have := run_out isNameB xs j (by have := hlen.out; omega); have := HB.out; omega), hf2.out⟩
theorem word_conv (W : World) (b off len _c i e : Nat) (xs : List Int) (hl : xs.length = len) (hi : i ≤ e) (he : e ≤ len) (hc : ∀ i, i < len → W.cell? ⟨b, off + i, none⟩ = some (.int .u8 (xs.getD i 0))) (cp : Nat) :
    (convert 22 9 (.slice (some ⟨b, off + i, none⟩) (e - i) cp)).run Tryd.prog W = .ok (.string (strOfNums ((xs.drop i).take (e - i)))) W :=
  run_convert_bytes_arg W 22 5 Tryd.underlying22 Tryd.underlying5 b (off + i) (e - i) cp _ (by simp; omega) (fun j hj => by
    rw [Nat.add_assoc, hc (i + j) (by omega)]
    simp [List.getD, hj]) 9 Tryd.underlying9
set_option maxHeartbeats 4000000 in
set_option maxRecDepth 1000000 in
theorem word_at (w : World) (p : Option Addr) (len c kb i e : Nat) (kd : Int) (xs : List Int) (h : SK w p len c kb xs) (hb : len ≤ 70000) (hi : i < e) (he : e ≤ len) :
    Calls Tryd.prog 37 #[.agg #[.slice p len c, .func (.func 35) #[] #[.pointer (some ⟨kb, 0, none⟩)]], .int .u8 kd, .int .i64 i, .int .i64 e] w fun ev w' => ev = .returned (.agg #[.int .u8 kd, .int .i64 i, .int .i64 e, .string (strOfNums ((xs.drop i).take (e - i))), .int .i64 0]) ∧ Below w.heap.size w w' := by
  have hlen := h.len_eq
  have hcap := h.cap
  obtain ⟨b, off, rfl, hbl, hc⟩ := h.addr (by omega)
  have hcv := fun W (hW : ∀ i, i < len → W.cell? ⟨b, off + i, none⟩ = some (.int .u8 (xs.getD i 0))) => word_conv W b off len c i e xs hlen (by omega) he hW (c - i)
  have hcv2 := hcv ((w.alloc (.cells #[.slice (some ⟨b, off, none⟩) len c, .func (.func 35) #[] #[.pointer (some ⟨kb, 0, none⟩)]] 49)).alloc (.cells #[.int .u8 0, .int .i64 0, .int .i64 0, .string ⟨#[]⟩, .int .i64 0] 41)) (fun j hj => by
    rw [World.cell?_alloc_lt _ _ _ (by simp; omega), World.cell?_alloc_lt _ _ _ hbl]; exact hc j hj)
  clear hcv hc h hlen
  generalize strOfNums ((xs.drop i).take (e - i)) = st at *
  go_enter Tryd.func37, Tryd.ntmps37
  go_wp2
  simp [bodyPost, results, Tryd.results37, go_sem]
  exact ((Below.refl _ _).alloc (Nat.le_refl _) _).alloc (by simp) _
theorem bytesOf_inj (a b : List Int) (ha : ∀ x ∈ a, 0 ≤ x ∧ x < 256) (hb : ∀ x ∈ b, 0 ≤ x ∧ x < 256) (h : Lib.bytesOf a = Lib.bytesOf b) : a = b := by
  induction a generalizing b with
  | nil => cases b with
    | nil => rfl
    | cons y b => simp [Lib.bytesOf] at h
  | cons x a ih => cases b with
    | nil => simp [Lib.bytesOf] at h
    | cons y b =>
      simp only [Lib.bytesOf, List.map_cons, List.cons.injEq] at h
      have hx := ha x (by simp)
      have hy := hb y (by simp)
      have e := congrArg UInt8.toNat h.1
      simp at e
      rw [ih b (fun z hz => ha z (by simp [hz])) (fun z hz => hb z (by simp [hz])) h.2, show x = y by omega]
theorem str_eq (a b : List Int) (ha : ∀ x ∈ a, 0 ≤ x ∧ x < 256) (hb : ∀ x ∈ b, 0 ≤ x ∧ x < 256) : ((strOfNums a).toList == (strOfNums b).toList) = decide (a = b) := by
  rw [Lib.strOfNums_toList, Lib.strOfNums_toList]
  by_cases h : a = b
  · subst h; simp
  · have : Lib.bytesOf a ≠ Lib.bytesOf b := fun e => h (bytesOf_inj a b ha hb e)
    simp [h, this]
set_option maxHeartbeats 4000000 in
theorem equal_two (W : World) (b o c q : Nat) (x y : Int) (hx : 0 ≤ x ∧ x < 256) (hy : 0 ≤ y ∧ y < 256) (h0 : W.cell? ⟨b, o, none⟩ = some (.int .u8 x)) (h1 : W.cell? ⟨b, o + 1, none⟩ = some (.int .u8 y))
    (q0 : W.cell? ⟨q, 0, none⟩ = some (.int .u8 61)) (q1 : W.cell? ⟨q, 1, none⟩ = some (.int .u8 61)) :
    Calls Tryd.prog 55 #[.slice (some ⟨b, o, none⟩) 2 c, .slice (some ⟨q, 0, none⟩) 2 2] W fun e w' => e = .returned (.bool (x == 61 && y == 61)) ∧ w' = W := by
  have e1 := run_convert_bytes_arg W 22 5 Tryd.underlying22 Tryd.underlying5 b o 2 c [x, y] rfl (fun j hj => by
    match j, hj with
    | 0, _ => simpa using h0
    | 1, _ => simpa using h1) 9 Tryd.underlying9
  have e2 := run_convert_bytes_arg W 22 5 Tryd.underlying22 Tryd.underlying5 q 0 2 2 [61, 61] rfl (fun j hj => by
    match j, hj with
    | 0, _ => simpa using q0
    | 1, _ => simpa using q1) 9 Tryd.underlying9
  have hs : ((strOfNums [x, y]).toList == (strOfNums [61, 61]).toList) = (x == 61 && y == 61) := by
    rw [str_eq [x, y] [61, 61] (by simp; omega) (by simp)]
    rw [Bool.eq_iff_iff]; simp
  generalize strOfNums [x, y] = s1 at *
  generalize strOfNums [61, 61] = s2 at *
  generalize (x == 61 && y == 61) = r at *
  clear h0 h1 q0 q1
  go_enter Tryd.func55, Tryd.ntmps55
  go_wp2
  go_ret
  exact ⟨rfl, rfl⟩
set_option maxHeartbeats 4000000 in
set_option maxRecDepth 1000000 in
theorem hasPrefix_two (W : World) (b o n c q : Nat) (ys : List Int) (hn : ys.length = n) (hnc : n ≤ c) (hb : n ≤ 70000) (hy : ∀ i, 0 ≤ ys.getD i 0 ∧ ys.getD i 0 < 256) (hc : ∀ i, i < n → W.cell? ⟨b, o + i, none⟩ = some (.int .u8 (ys.getD i 0)))
    (q0 : W.cell? ⟨q, 0, none⟩ = some (.int .u8 61)) (q1 : W.cell? ⟨q, 1, none⟩ = some (.int .u8 61)) :
    Calls Tryd.prog 50 #[.slice (some ⟨b, o, none⟩) n c, .slice (some ⟨q, 0, none⟩) 2 2] W fun e w' => e = .returned (.bool (decide (2 ≤ n) && (ys.getD 0 0 == 61 && ys.getD 1 0 == 61))) ∧ w' = W := by
  by_cases h2 : 2 ≤ n
  · have E := equal_two W b o c q (ys.getD 0 0) (ys.getD 1 0) (hy 0) (hy 1) (by simpa using hc 0 (by omega)) (hc 1 (by omega)) q0 q1
    generalize (ys.getD 0 0 == 61 && ys.getD 1 0 == 61) = r at *
    have h2d : (decide (2 ≤ n) && r) = r := by simp [h2]
    rw [h2d]
    clear hc hy hn q0 q1 h2d
    go_enter Tryd.func50, Tryd.ntmps50
    go_wp2_with fail
    (with_reducible refine E.mono ?_)
    rintro e w' ⟨rfl, rfl⟩
    go_wp2
    go_ret
    exact ⟨rfl, rfl⟩
  · have h2d : (decide (2 ≤ n) && (ys.getD 0 0 == 61 && ys.getD 1 0 == 61)) = false := by simp; omega
    rw [h2d]
    clear hc hy hn q0 q1 h2d
    go_enter Tryd.func50, Tryd.ntmps50
    go_wp2
    all_goals go_ret
    all_goals first | exact ⟨rfl, rfl⟩ | omega
set_option maxHeartbeats 4000000 in
set_option maxRecDepth 1000000 in
theorem pastMark_at (w : World) (p : Option Addr) (len c kb i : Nat) (xs : List Int) (h : SK w p len c kb xs) (hb : len ≤ 70000) (hi : i < len) :
    Calls Tryd.prog 40 #[.agg #[.slice p len c, .func (.func 35) #[] #[.pointer (some ⟨kb, 0, none⟩)]], .int .i64 i] w fun e w' => e = .returned (.int .i64 ((i + (if xs.getD i 0 = 61 ∧ (xs.drop (i + 1)).head? = some 61 then 2 else 1) : Nat) : Int)) ∧ Below w.heap.size w w' := by
  have hlen := h.len_eq
  have hcap := h.cap
  obtain ⟨b, off, rfl, hbl, hc⟩ := h.addr (by omega)
  have hcv : (convert 22 22 (.slice (some ⟨w.heap.size + 1, 0, none⟩) 2 2)).run Tryd.prog ((w.alloc (.cells #[.slice (some ⟨b, off, none⟩) len c, .func (.func 35) #[] #[.pointer (some ⟨kb, 0, none⟩)]] 49)).alloc (.cells #[.int .u8 61, .int .u8 61] 5)) = .ok (.slice (some ⟨w.heap.size + 1, 0, none⟩) 2 2) ((w.alloc (.cells #[.slice (some ⟨b, off, none⟩) len c, .func (.func 35) #[] #[.pointer (some ⟨kb, 0, none⟩)]] 49)).alloc (.cells #[.int .u8 61, .int .u8 61] 5 (2, 3))) := by
    have := Lib.run_convert_bytes_const (P := Tryd.prog) (w.alloc (.cells #[.slice (some ⟨b, off, none⟩) len c, .func (.func 35) #[] #[.pointer (some ⟨kb, 0, none⟩)]] 49)) 22 5 #[.int .u8 61, .int .u8 61] 2 2 Tryd.underlying22 Tryd.underlying5
    simpa using this
  have P1 := hasPrefix_two ((w.alloc (.cells #[.slice (some ⟨b, off, none⟩) len c, .func (.func 35) #[] #[.pointer (some ⟨kb, 0, none⟩)]] 49)).alloc (.cells #[.int .u8 61, .int .u8 61] 5 (2, 3))) b (off + i) (len - i) (c - i) (w.heap.size + 1) (xs.drop i) (by simp; omega) (by omega) (by omega)
    (fun j => by have := h.byte (i + j); simpa [List.getD] using this)
    (fun j hj => by rw [World.cell?_alloc_lt _ _ _ (by simp; omega), World.cell?_alloc_lt _ _ _ hbl, Nat.add_assoc, hc (i + j) (by omega)]; simp [List.getD])
    (by rw [show w.heap.size + 1 = (w.alloc (.cells #[.slice (some ⟨b, off, none⟩) len c, .func (.func 35) #[] #[.pointer (some ⟨kb, 0, none⟩)]] 49)).heap.size by simp, World.cell?_alloc_mark]; rfl)
    (by rw [show w.heap.size + 1 = (w.alloc (.cells #[.slice (some ⟨b, off, none⟩) len c, .func (.func 35) #[] #[.pointer (some ⟨kb, 0, none⟩)]] 49)).heap.size by simp, World.cell?_alloc_mark]; rfl)
  have hr : (decide (2 ≤ len - i) && ((xs.drop i).getD 0 0 == 61 && (xs.drop i).getD 1 0 == 61)) = decide (xs.getD i 0 = 61 ∧ (xs.drop (i + 1)).head? = some 61) := by
    have e0 : (xs.drop i).getD 0 0 = xs.getD i 0 := by simp [List.getD]
    have e1 : (xs.drop i).getD 1 0 = xs.getD (i + 1) 0 := by simp [List.getD]
    have e2 : (xs.drop (i + 1)).head? = xs[i + 1]? := by simp [List.head?_drop]
    rw [e0, e1, e2]
    by_cases hl : 2 ≤ len - i
    · have : i + 1 < xs.length := by omega
      have e3 : xs[i + 1]? = some (xs.getD (i + 1) 0) := by simp [List.getD, this]
      rw [e3, Bool.eq_iff_iff]
      simp [hl]
    · have : xs[i + 1]? = none := by simp; omega
      rw [this]
      simp [hl]
  rw [hr] at P1
  clear hr hc h hlen
  by_cases hq : xs.getD i 0 = 61 ∧ (xs.drop (i + 1)).head? = some 61
  · rw [if_pos hq]
    rw [decide_eq_true hq] at P1
    clear hq
    go_enter Tryd.func40, Tryd.ntmps40
    go_wp2_with fail
    (with_reducible refine P1.mono ?_)
    rintro e w' ⟨rfl, rfl⟩
    go_wp2
    go_ret
    exact ⟨retI (by omega), ((Below.refl _ _).alloc (Nat.le_refl _) _).alloc (by simp) _⟩
  · rw [if_neg hq]
    rw [decide_eq_false hq] at P1
    clear hq
    go_enter Tryd.func40, Tryd.ntmps40
    go_wp2_with fail
    (with_reducible refine P1.mono ?_)
    rintro e w' ⟨rfl, rfl⟩
    go_wp2
    go_ret
    exact ⟨retI (by omega), ((Below.refl _ _).alloc (Nat.le_refl _) _).alloc (by simp) _⟩
end Go.Proofs.YtabbodbnjegllaaDoor
