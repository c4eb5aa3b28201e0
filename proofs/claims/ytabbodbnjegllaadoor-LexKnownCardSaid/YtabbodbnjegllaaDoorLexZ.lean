import Derived.Test.YtabbodbnjegllaaDoorLexY
namespace Go.Proofs.YtabbodbnjegllaaDoor
open Go.RowKit
theorem lexAt_er (xs : List Int) (m p : Nat) (hm : xs.length - p ≤ m) (hp : p ≤ xs.length) (i : Nat) (er : Int) (h : lexAt xs p = .error (i, er)) : er = 30 ∨ er = 31 := by
  induction m generalizing p with
  | zero =>
    rw [lexAt_end xs p (by omega)] at h
    simp at h
  | succ m ih =>
    rw [lexAt_bl xs p hp] at h
    have hb := bl_le xs p hp
    have hi := bl_idem xs p
    generalize bl xs p = j at *
    by_cases hlt : j < xs.length
    · cases hs : step (xs.drop j) with
      | err e =>
        rw [lexAt_err xs j e hlt hi hs] at h
        simp only [Except.error.injEq, Prod.mk.injEq] at h
        rw [← h.2]
        exact step_err hs (by rw [List.length_drop]; omega)
      | tok k l n =>
        rw [lexAt_tok xs j k l n hlt hi hs] at h
        have hl := step_len hs
        rw [List.length_drop] at hl
        cases hr : lexAt xs (j + l) with
        | error e =>
          rw [hr] at h
          simp only [pre, Except.error.injEq] at h
          subst h
          exact ih (j + l) (by omega) (by omega) hr
        | ok us => rw [hr] at h; simp [pre] at h
    · rw [lexAt_end xs j (by omega)] at h
      simp at h
theorem ref_ok {w : World} {p : Option Addr} {len c : Nat} {xs : List Int} {ts : List Tok} (h : Src w p len c xs) (hb : len ≤ 65536) (he : lexS xs = .ok ts) :
    Calls Tryd.prog 11 #[.slice p len c] w fun e w' => ∃ g cap, e = .returned (.tuple #[.slice (some ⟨g, 0, none⟩) ts.length cap, .int .i64 0, .int .i64 0]) ∧ TR w' g cap ts ∧ Below w.heap.size w w' :=
  (refLex_at w p len c xs h hb).mono fun e w' ⟨h1, h2⟩ => by
    rw [he] at h1
    obtain ⟨g, cap, e1, ho⟩ := h1
    refine ⟨g, cap, e1, ⟨(ho.lt g rfl).2, ?_, fun j u hj => ?_⟩, h2⟩
    · rcases ho.2 with ⟨h, _⟩ | ⟨g', cap', cur, hv, _, _, hc, _⟩
      · simp at h
      · simp at hv
        omega
    · rw [ho.cellAt j (by rw [← ho.1]; exact (List.getElem?_eq_some_iff.1 hj).1)]
      exact hj
theorem ref_no {w : World} {p : Option Addr} {len c : Nat} {xs : List Int} {i : Nat} {er : Int} (h : Src w p len c xs) (hb : len ≤ 65536) (he : lexS xs = .error (i, er)) :
    Calls Tryd.prog 11 #[.slice p len c] w fun e w' => e = .returned (.tuple #[.slice none 0 0, .int .i64 i, .int .i64 er]) ∧ Below w.heap.size w w' :=
  (refLex_at w p len c xs h hb).mono fun e w' ⟨h1, h2⟩ => by
    rw [he] at h1
    exact ⟨h1, h2⟩
set_option maxHeartbeats 1000000 in
theorem lexAny_big (w : World) (p : Option Addr) (len c : Nat) (hg : ET w) (hb : 600 < len) :
    Calls Tryd.prog 3 #[.slice p len c] w fun e w' => e = .returned (.bool true) ∧ Below w.heap.size w w' := by
  have WK := Lib.hid (works w hg)
  clear hg
  go_enter Tryd.func3, Tryd.ntmps3
  go_wp2_with fail
  (with_reducible refine WK.out.mono ?_)
  rintro e w1 ⟨rfl, hb1⟩
  go_wp2
  go_ret
  exact ⟨rfl, hb1⟩
theorem own_src (w : World) (p : Option Addr) (len c : Nat) (xs : List Int) (hs : Src w p len c xs) : ∃ s w1 cap, (convert 22 9 (.slice p len c)).run Tryd.prog w = .ok (.string s) w ∧ (convert 9 22 (.string s)).run Tryd.prog w = .ok (.slice (some ⟨w.heap.size, 0, none⟩) len cap) w1 ∧ Below w.heap.size w w1 ∧ Src w1 (some ⟨w.heap.size, 0, none⟩) len cap xs := by
  obtain ⟨w1, cap, h1, h2, h3⟩ := bytes_conv w (strOfNums xs)
  have hsz : (strOfNums xs).size = len := by rw [strOfNums_size]; exact hs.1
  rw [hsz] at h1 h3
  rw [bytesI_of xs (mem_byte hs.2.1)] at h3
  exact ⟨strOfNums xs, w1, cap, src_conv hs, h1, h2, h3⟩
set_option maxHeartbeats 4000000 in
set_option maxRecDepth 1000000 in
theorem lexAny_err (w : World) (p : Option Addr) (len c : Nat) (xs : List Int) (hs : Src w p len c xs) (hg : ET w) (hb : len ≤ 600) (i : Nat) (er : Int) (hx : lexS xs = .error (i, er)) :
    Calls Tryd.prog 3 #[.slice p len c] w fun e w' => e = .returned (.bool true) ∧ Below w.heap.size w w' := by
  have her := lexAt_er xs xs.length 0 (by omega) (by omega) i er (by rw [← lexS_at]; exact hx)
  have her0 : (er != 0) = true := by simp; omega
  obtain ⟨s, w1, cap0, hc1, hc2, hb1, hs1⟩ := own_src w p len c xs hs
  have LX := Lib.hid (lex_no hs1 (by omega) hx)
  have HG := Lib.hid hg
  have HS := Lib.hid hs
  have HS1 := Lib.hid hs1
  have HXX := Lib.hid hx
  have B1 := Lib.hid hb1
  clear hg hs hs1 hx hb1 her
  go_enter Tryd.func3, Tryd.ntmps3
  go_wp2_with fail
  clear hc1 hc2
  (with_reducible refine LX.out.mono ?_)
  rintro e w2 ⟨b, l, cc, rfl, hE, hb2⟩
  have B2 := Lib.hid (B1.out.trans (hb2.mono B1.out.size))
  have E2 := Lib.hid hE
  have S2 := Lib.hid (HS1.out.below hb2)
  have RF := Lib.hid (ref_no (HS.out.below B2.out) (by omega) HXX.out)
  clear LX hE hb2 HS1
  go_wp2_with fail
  (with_reducible refine RF.out.mono ?_)
  rintro e w3 ⟨rfl, hb3⟩
  have B3 := Lib.hid (B2.out.trans (hb3.mono B2.out.size))
  have E3 := Lib.hid (E2.out.on hb3)
  have S3 := Lib.hid (S2.out.below hb3)
  have CE := Lib.hid (code_err (HG.out.below B3.out) E3.out)
  clear RF hb3 E2 S2 B2
  go_wp2_with fail
  (with_reducible refine CE.out.mono ?_)
  rintro e w4 ⟨rfl, hb4⟩
  have B4 := Lib.hid (B3.out.trans (hb4.mono B3.out.size))
  have E4 := Lib.hid (E3.out.on hb4)
  have S4 := Lib.hid (S3.out.below hb4)
  have PN := Lib.hid (plain_nil w4)
  clear CE hb4 E3 S3 B3
  go_wp2_with fail
  (with_reducible refine PN.out.mono ?_)
  rintro e w5 ⟨rfl, hb5⟩
  have B5 := Lib.hid (B4.out.trans (hb5.mono B4.out.size))
  have E5 := Lib.hid (E4.out.on hb5)
  have S5 := Lib.hid (S4.out.below hb5)
  have SN := Lib.hid (same_nil w5)
  clear PN hb5 E4 S4 B4
  go_wp2_with fail
  (with_reducible refine SN.out.mono ?_)
  rintro e w6 ⟨rfl, hb6⟩
  have B6 := Lib.hid (B5.out.trans (hb6.mono B5.out.size))
  have E6 := Lib.hid (E5.out.on hb6)
  have S6 := S5.out.below hb6
  have SB := Lib.hid (sameBytes_at w6 _ _ len cap0 c xs S6 (HS.out.below B6.out))
  clear SN hb6 E5 S5 B5 S6
  go_wp2_with fail
  (with_reducible refine SB.out.mono ?_)
  rintro e w7 ⟨rfl, rfl⟩
  have PE := Lib.hid (place_err (HG.out.below B6.out) E6.out)
  clear SB E6
  go_wp2_with fail
  (with_reducible refine PE.out.mono ?_)
  rintro e w8 ⟨rfl, hb8⟩
  have B8 := Lib.hid (B6.out.trans (hb8.mono B6.out.size))
  have WK := Lib.hid (works w8 (HG.out.below B8.out))
  clear PE hb8 B6
  go_wp2_with fail
  (with_reducible refine WK.out.mono ?_)
  rintro e w9 ⟨rfl, hb9⟩
  have B9 := Lib.hid (B8.out.trans (hb9.mono B8.out.size))
  clear WK hb9 B8
  go_wp2
  go_ret
  exact ⟨rfl, B9.out⟩
set_option maxHeartbeats 4000000 in
set_option maxRecDepth 1000000 in
theorem lexAny_ok (w : World) (p : Option Addr) (len c : Nat) (xs : List Int) (hs : Src w p len c xs) (hg : ET w) (hb : len ≤ 600) (ts : List Tok) (hx : lexS xs = .ok ts) :
    Calls Tryd.prog 3 #[.slice p len c] w fun e w' => e = .returned (.bool true) ∧ Below w.heap.size w w' := by
  obtain ⟨s, w1, cap0, hc1, hc2, hb1, hs1⟩ := own_src w p len c xs hs
  have hlen := hs.1
  have hl1 := lexN_len _ _ _ ts hx
  have hpos : 0 < ts.length := by
    have := (chain_of xs xs.length 0 (by omega) (by omega) ts (by rw [← lexS_at]; exact hx)).2
    cases ts with
    | nil => exact absurd rfl this
    | cons t r => simp
  have LX := Lib.hid (lex_ok hs1 (by omega) hx)
  have HG := Lib.hid hg
  have HS := Lib.hid hs
  have HS1 := Lib.hid hs1
  have HXX := Lib.hid hx
  have B1 := Lib.hid hb1
  obtain ⟨n, hn⟩ : ∃ n, ts.length = n := ⟨_, rfl⟩
  rw [hn] at LX hl1 hpos
  have hnn : n ≤ 601 := by omega
  have HN := Lib.hid hn
  clear hg hs hs1 hx hb1 hlen hl1 hn
  go_enter Tryd.func3, Tryd.ntmps3
  go_wp2_with fail
  clear hc1 hc2
  (with_reducible refine LX.out.mono ?_)
  rintro e w2 ⟨g, cap, rfl, hT, _, hb2⟩
  have B2 := Lib.hid (B1.out.trans (hb2.mono B1.out.size))
  have T2 := Lib.hid hT
  have S2 := Lib.hid (HS1.out.below hb2)
  have RF0 := ref_ok (HS.out.below B2.out) (by omega) HXX.out
  rw [HN.out] at RF0
  have RF := Lib.hid RF0
  clear LX hT hb2 HS1 RF0
  go_wp2_with fail
  (with_reducible refine RF.out.mono ?_)
  rintro e w3 ⟨g2, cap2, rfl, hR, hb3⟩
  have B3 := Lib.hid (B2.out.trans (hb3.mono B2.out.size))
  have T3 := Lib.hid (T2.out.on hb3)
  have R3 := Lib.hid hR
  have S3 := Lib.hid (S2.out.below hb3)
  have CE := Lib.hid (code_none w3)
  clear RF hb3 hR T2 S2 B2
  go_wp2_with fail
  (with_reducible refine CE.out.mono ?_)
  rintro e w4 ⟨rfl, hb4⟩
  have B4 := Lib.hid (B3.out.trans (hb4.mono B3.out.size))
  have R4 := Lib.hid (R3.out.on hb4)
  have S4 := Lib.hid (S3.out.below hb4)
  have PN := Lib.hid (plain_at w4 g cap n ts (T3.out.on hb4) HN.out (by omega) hpos)
  clear CE hb4 T3 R3 S3 B3
  go_wp2_with fail
  (with_reducible refine PN.out.mono ?_)
  rintro e w5 ⟨⟨g5, cap5, rfl, hT5⟩, hb5⟩
  have B5 := Lib.hid (B4.out.trans (hb5.mono B4.out.size))
  have S5 := Lib.hid (S4.out.below hb5)
  have SN := Lib.hid (same_at w5 g5 cap5 g2 cap2 n ts hT5 (R4.out.on hb5) HN.out (by omega))
  clear PN hb5 R4 S4 B4 hT5
  go_wp2_with fail
  (with_reducible refine SN.out.mono ?_)
  rintro e w6 ⟨rfl, hb6⟩
  have B6 := Lib.hid (B5.out.trans (hb6.mono B5.out.size))
  have S6 := S5.out.below hb6
  have SB := Lib.hid (sameBytes_at w6 _ _ len cap0 c xs S6 (HS.out.below B6.out))
  clear SN hb6 S5 B5 S6
  go_wp2_with fail
  (with_reducible refine SB.out.mono ?_)
  rintro e w7 ⟨rfl, rfl⟩
  have PE := Lib.hid (place_nil w6)
  clear SB
  go_wp2_with fail
  (with_reducible refine PE.out.mono ?_)
  rintro e w8 ⟨rfl, hb8⟩
  have B8 := Lib.hid (B6.out.trans (hb8.mono B6.out.size))
  have WK := Lib.hid (works w8 (HG.out.below B8.out))
  clear PE hb8 B6
  go_wp2_with fail
  (with_reducible refine WK.out.mono ?_)
  rintro e w9 ⟨rfl, hb9⟩
  have B9 := Lib.hid (B8.out.trans (hb9.mono B8.out.size))
  clear WK hb9 B8
  go_wp2
  go_ret
  exact ⟨rfl, B9.out⟩
theorem lexAny (w : World) (p : Option Addr) (len c : Nat) (xs : List Int) (hs : Src w p len c xs) (hg : ET w) :
    Calls Tryd.prog 3 #[.slice p len c] w fun e w' => e = .returned (.bool true) ∧ Below w.heap.size w w' := by
  by_cases hb : len ≤ 600
  · cases hx : lexS xs with
    | error e => exact lexAny_err w p len c xs hs hg hb e.1 e.2 hx
    | ok ts => exact lexAny_ok w p len c xs hs hg hb ts hx
  · exact lexAny_big w p len c hg (by omega)
end Go.Proofs.YtabbodbnjegllaaDoor
