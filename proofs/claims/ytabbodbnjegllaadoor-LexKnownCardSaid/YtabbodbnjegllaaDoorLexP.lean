import Derived.Test.YtabbodbnjegllaaDoorLexN
namespace Go.Proofs.YtabbodbnjegllaaDoor
open Go.RowKit
set_option maxHeartbeats 1000000 in
theorem lexRises_big (w : World) (p : Option Addr) (len c : Nat) (hg : ET w) (hb : 600 < len) :
    Calls Tryd.prog 5 #[.slice p len c] w fun e w' => e = .returned (.bool true) ∧ Below w.heap.size w w' := by
  have WK := Lib.hid (works w hg)
  clear hg
  go_enter Tryd.func5, Tryd.ntmps5
  go_wp2_with fail
  (with_reducible refine WK.out.mono ?_)
  rintro e w1 ⟨rfl, hb1⟩
  go_wp2
  go_ret
  exact ⟨rfl, hb1⟩
set_option maxHeartbeats 1000000 in
theorem lexRises_err (w : World) (p : Option Addr) (len c : Nat) (xs : List Int) (hs : Src w p len c xs) (hg : ET w) (hb : len ≤ 600) (i : Nat) (er : Int) (hx : lexS xs = .error (i, er)) :
    Calls Tryd.prog 5 #[.slice p len c] w fun e w' => e = .returned (.bool true) ∧ Below w.heap.size w w' := by
  have LX := Lib.hid (lex_no hs (by omega) hx)
  have HG := Lib.hid hg
  clear hg hs hx
  go_enter Tryd.func5, Tryd.ntmps5
  go_wp2_with fail
  (with_reducible refine LX.out.mono ?_)
  rintro e w1 ⟨b, l, cc, rfl, _, hb1⟩
  have B1 := Lib.hid hb1
  have WK := Lib.hid (works w1 (HG.out.below hb1))
  clear hb1 LX
  go_wp2_with fail
  (with_reducible refine WK.out.mono ?_)
  rintro e w2 ⟨rfl, hb2⟩
  have B2 := Lib.hid (B1.out.trans (hb2.mono B1.out.size))
  clear hb2 WK
  go_wp2
  go_ret
  exact ⟨rfl, B2.out⟩
theorem lexN_len (f p : Nat) (l : List Int) (ts : List Tok) (h : lexN f p l = .ok ts) : ts.length ≤ l.length + 1 := by
  induction f generalizing p l ts with
  | zero =>
    simp only [lexN, Except.ok.injEq] at h
    subst h
    simp
  | succ f ih =>
    simp only [lexN] at h
    split at h
    · simp only [Except.ok.injEq] at h
      subst h
      simp
    · rename_i c r hd
      split at h
      · simp at h
      · rename_i k len n hs
        have hl := step_len hs
        have hcr : (c :: r).length ≤ l.length := by rw [← hd, List.length_drop]; omega
        cases hu : lexN f (p + blk false l + len) ((c :: r).drop len) with
        | error e => rw [hu] at h; simp [pre] at h
        | ok us =>
          rw [hu] at h
          simp only [pre, Except.ok.injEq, List.singleton_append] at h
          subst h
          have := ih _ _ us hu
          rw [List.length_drop] at this
          rw [List.length_cons]
          omega
theorem drop_cons {α : Type} (l : List α) (k : Nat) (t : α) (h : l[k]? = some t) : l.drop k = t :: l.drop (k + 1) := by
  obtain ⟨hk, rfl⟩ := List.getElem?_eq_some_iff.1 h
  exact List.drop_eq_getElem_cons hk
set_option maxHeartbeats 4000000 in
set_option maxRecDepth 1000000 in
theorem lexRises_ok (w : World) (p : Option Addr) (len c : Nat) (xs : List Int) (hs : Src w p len c xs) (hg : ET w) (hb : len ≤ 600) (ts : List Tok) (hx : lexS xs = .ok ts) :
    Calls Tryd.prog 5 #[.slice p len c] w fun e w' => e = .returned (.bool true) ∧ Below w.heap.size w w' := by
  have hlc : len ≤ c := by
    rcases hs.2.2 with ⟨h, h'⟩ | ⟨b, off, e, hc, hb, hx⟩ <;> omega
  have LX := Lib.hid (lex_ok hs (by omega) hx)
  have HG := Lib.hid hg
  have HS := Lib.hid hs
  have hlen := Lib.hid hs.1
  have hch := chain_of xs xs.length 0 (by omega) (by omega) ts (by rw [← lexS_at]; exact hx)
  have HC := Lib.hid hch.1
  have HLn := Lib.hid (lexN_len _ _ _ ts hx)
  clear hg hs hx hch
  go_enter Tryd.func5, Tryd.ntmps5
  go_wp2_with fail
  (with_reducible refine LX.out.mono ?_)
  rintro e w1 ⟨g, cap, rfl, hT, _, hb1⟩
  have B1 := Lib.hid hb1
  have T1 := Lib.hid hT
  have hle := hT.le
  obtain ⟨n, hn⟩ : ∃ n, ts.length = n := ⟨_, rfl⟩
  rw [hn] at hle
  have HN := Lib.hid hn
  simp only [hn]
  have hnn : n ≤ 70000 := by have := HLn.out; have := hlen.out; omega
  clear hb1 LX hT hn
  go_wp2_with fail
  go_loopw [5, 6] (fun lv iv wr => ∃ (k L : Nat), k ≤ n ∧ L ≤ len ∧ lv = .int .i64 L ∧ iv = .int .i64 k ∧ Hid (Chain xs L (ts.drop k)) ∧ Hid (TR wr g cap ts) ∧ Hid (Below w.heap.size w wr)) (fun _ iv _ => n - (intOf iv).toNat)
  case atStart => exact ⟨0, 0, by omega, by omega, rfl, rfl, HC, T1, B1⟩
  case round =>
    obtain ⟨k, L, hk, hL, rfl, rfl, HCh, HT, HB⟩ := hrel
    by_cases hlt : k < n
    · obtain ⟨t, ht⟩ : ∃ t, ts[k]? = some t := ⟨ts[k]'(by have := HN.out; omega), List.getElem?_eq_getElem _⟩
      have hch := HCh.out
      rw [drop_cons ts k t ht] at hch
      obtain ⟨_, ha, hs1, hs2, htx, hk4, hrest⟩ := hch
      have hbl := bl_le xs L (by have := hlen.out; omega)
      have hLa : L ≤ t.at' := by omega
      have hsl : t.stop ≤ len := by have := hlen.out; omega
      have k0 := HT.out.cell (k * 5 + 0) (.int .u8 t.kind) (by rw [tok_cell ts k 0 t ht (by omega)]; rfl)
      have k1 := HT.out.cell (k * 5 + 1) (.int .i64 t.at') (by rw [tok_cell ts k 1 t ht (by omega)]; rfl)
      have k2 := HT.out.cell (k * 5 + 2) (.int .i64 t.stop) (by rw [tok_cell ts k 2 t ht (by omega)]; rfl)
      have k3 := HT.out.cell (k * 5 + 3) (.string (strOfNums t.text)) (by rw [tok_cell ts k 3 t ht (by omega)]; rfl)
      have k4 := HT.out.cell (k * 5 + 4) (.int .i64 t.n) (by rw [tok_cell ts k 4 t ht (by omega)]; rfl)
      rw [Nat.add_zero] at k0
      obtain ⟨kd, hkd⟩ : ∃ kd, t.kind = kd := ⟨_, rfl⟩
      obtain ⟨at', hat⟩ : ∃ at', t.at' = at' := ⟨_, rfl⟩
      obtain ⟨st, hst⟩ : ∃ st, t.stop = st := ⟨_, rfl⟩
      obtain ⟨tn, htn⟩ : ∃ tn, t.n = tn := ⟨_, rfl⟩
      have hsrc := HS.out.below HB.out
      have hlx := lexS_between xs L (by have := hlen.out; omega)
      rw [← ha] at hlx
      rw [hkd] at k0 hk4
      rw [hat] at k1 ha hs1 hLa htx hlx
      rw [hst] at k2 hs1 hs2 hsl htx hrest
      rw [htn] at k4
      have sr1 := fun W => sub_run W p len c at' st hs1 (by omega)
      have sr2 := fun W => sub_run W p len c L at' hLa (by omega)
      obtain ⟨tx, htt⟩ : ∃ tx, strOfNums t.text = tx := ⟨_, rfl⟩
      rw [htt] at k3
      have cv : ∀ nq, (convert 22 9 (.slice (subP p c at') (st - at') (c - at'))).run Tryd.prog ((wr.alloc (.cells #[.int .u8 kd, .int .i64 at', .int .i64 st, .string tx, .int .i64 tn] 41)).drewN nq) = .ok (.string tx) ((wr.alloc (.cells #[.int .u8 kd, .int .i64 at', .int .i64 st, .string tx, .int .i64 tn] 41)).drewN nq) := fun nq => by
        have := src_conv (sub_src (hsrc.below ((one_below wr (.cells #[.int .u8 kd, .int .i64 at', .int .i64 st, .string tx, .int .i64 tn] 41)).trans (drewN_below _ _ nq))) at' st hs1 hsl)
        rw [← htx, htt] at this
        exact this
      have cv0 := cv 0
      have cv1 := cv 1
      rw [World.drewN_zero] at cv0
      rw [← World.drew_is_drewN] at cv1
      have HR := Lib.hid hrest
      have HA := Lib.hid ha
      have HLX := Lib.hid hlx
      have HK4 := Lib.hid hk4
      have HST := Lib.hid hst
      clear ha htx hk4 hrest hbl hlx hkd hat hst htn htt ht hsrc
      have hq1 : decide (at' < L) = false := decide_eq_false (by omega)
      have hq2 : decide (st < at') = false := decide_eq_false (by omega)
      have hq3 : decide (len < st) = false := decide_eq_false (by omega)
      by_cases hlast : k + 1 = n
      · have hd0 : ts.drop (k + 1) = [] := List.drop_eq_nil_of_le (by have := HN.out; omega)
        have hkk : kd = 4 := HK4.out.2 hd0
        subst hkk
        have he : ((k : Int) == (n : Int) - 1) = true := by simp; omega
        have HD := Lib.hid hd0
        clear hd0
        go_wp2_with fail
        go_quiet (fail)
        have h1 := Lib.hid (((Below.refl _ wr).alloc (Nat.le_refl _) (.cells #[.int .u8 4, .int .i64 at', .int .i64 st, .string tx, .int .i64 tn] 41)).trans (drewN_below _ _ nq))
        have LB := Lib.hid (lex_ok (sub_src (HS.out.below (HB.out.trans (h1.out.mono HB.out.size))) L at' hLa (by omega)) (by omega) HLX.out)
        clear cv cv0 cv1 k0 k1 k2 k3 k4 sr1
        go_wp2_with fail
        (with_reducible refine LB.out.mono ?_)
        rintro e w4 ⟨g4, cap4, rfl, _, _, hb4⟩
        have e2 : w4.cell? ⟨wr.heap.size, 2, none⟩ = some (.int .i64 st) := by
          rw [hb4.cell (p := ⟨wr.heap.size, 2, none⟩) (by simp)]
          simp
        have B4 := Lib.hid (h1.out.trans (hb4.mono h1.out.size))
        clear hb4 LB sr2
        go_wp2
        go_roundw
        case rel => exact ⟨k + 1, st, by omega, by omega, rfl, by go_num, Lib.hid HR.out, Lib.hid (HT.out.on B4.out), Lib.hid (HB.out.trans (B4.out.mono HB.out.size))⟩
        case measure => simp [intOf]; omega
      · have hkk : (kd == 4) = false := by
          have := HK4.out
          simp only [beq_eq_false_iff_ne, ne_eq]
          intro e
          have h0 := this.1 e
          have := congrArg List.length h0
          rw [List.length_drop, HN.out, List.length_nil] at this
          omega
        have he : ((k : Int) == (n : Int) - 1) = false := by simp; omega
        go_wp2_with fail
        go_quiet (fail)
        have h1 := Lib.hid (((Below.refl _ wr).alloc (Nat.le_refl _) (.cells #[.int .u8 kd, .int .i64 at', .int .i64 st, .string tx, .int .i64 tn] 41)).trans (drewN_below _ _ nq))
        have LB := Lib.hid (lex_ok (sub_src (HS.out.below (HB.out.trans (h1.out.mono HB.out.size))) L at' hLa (by omega)) (by omega) HLX.out)
        clear cv cv0 cv1 k0 k1 k2 k3 k4 sr1
        go_wp2_with fail
        (with_reducible refine LB.out.mono ?_)
        rintro e w4 ⟨g4, cap4, rfl, _, _, hb4⟩
        have e2 : w4.cell? ⟨wr.heap.size, 2, none⟩ = some (.int .i64 st) := by
          rw [hb4.cell (p := ⟨wr.heap.size, 2, none⟩) (by simp)]
          simp
        have B4 := Lib.hid (h1.out.trans (hb4.mono h1.out.size))
        clear hb4 LB sr2
        go_wp2
        go_roundw
        case rel => exact ⟨k + 1, st, by omega, by omega, rfl, by go_num, Lib.hid HR.out, Lib.hid (HT.out.on B4.out), Lib.hid (HB.out.trans (B4.out.mono HB.out.size))⟩
        case measure => simp [intOf]; omega
    · have hL2 : L = len := by
        have := HCh.out
        rw [List.drop_eq_nil_of_le (by have := HN.out; omega)] at this
        have h2 : L = xs.length := this
        have := hlen.out
        omega
      have he : ((L : Int) == (len : Int)) = true := by simp; omega
      have WK := Lib.hid (works wr (HG.out.below HB.out))
      clear hL2
      go_wp2_with fail
      (with_reducible refine WK.out.mono ?_)
      rintro e w5 ⟨rfl, hb5⟩
      have B5 := Lib.hid (HB.out.trans (hb5.mono HB.out.size))
      clear hb5 WK
      go_wp2
      go_ret
      exact ⟨rfl, B5.out⟩
theorem lexRises (w : World) (p : Option Addr) (len c : Nat) (xs : List Int) (hs : Src w p len c xs) (hg : ET w) :
    Calls Tryd.prog 5 #[.slice p len c] w fun e w' => e = .returned (.bool true) ∧ Below w.heap.size w w' := by
  by_cases hb : len ≤ 600
  · cases hx : lexS xs with
    | error e => exact lexRises_err w p len c xs hs hg hb e.1 e.2 hx
    | ok ts => exact lexRises_ok w p len c xs hs hg hb ts hx
  · exact lexRises_big w p len c hg (by omega)
end Go.Proofs.YtabbodbnjegllaaDoor
