import Derived.Test.YtabbodbnjegllaaDoorLexI
namespace Go.Proofs.YtabbodbnjegllaaDoor
open Go.RowKit
theorem str_ne (t xs : List Int) (s : ByteArray) (hs : strOfNums xs = s) (ht : ∀ x ∈ t, 0 ≤ x ∧ x < 256) (hx : ∀ x ∈ xs, 0 ≤ x ∧ x < 256) (h : t ≠ xs) : ((strOfNums t).toList == s.toList) = false := by
  rw [← hs, str_eq t xs ht hx]
  exact decide_eq_false h
theorem mem_byte {xs : List Int} (h : ∀ i, 0 ≤ xs.getD i 0 ∧ xs.getD i 0 < 256) : ∀ x ∈ xs, 0 ≤ x ∧ x < 256 := by
  intro x hx
  obtain ⟨i, hi, rfl⟩ := List.mem_iff_getElem.1 hx
  simpa [List.getD, hi] using h i
theorem mem_sub {xs : List Int} (h : ∀ x ∈ xs, 0 ≤ x ∧ x < 256) (i l : Nat) : ∀ x ∈ (xs.drop i).take l, 0 ≤ x ∧ x < 256 := fun x hx => h x (List.mem_of_mem_drop (List.mem_of_mem_take hx))
theorem lexN_text (f p : Nat) (l : List Int) (hl : ∀ x ∈ l, 0 ≤ x ∧ x < 256) (ts : List Tok) (h : lexN f p l = .ok ts) : ∀ t ∈ ts, ∀ x ∈ t.text, 0 ≤ x ∧ x < 256 := by
  induction f generalizing p l ts with
  | zero =>
    simp only [lexN, Except.ok.injEq] at h
    subst h
    intro t ht
    simp only [List.mem_singleton] at ht
    subst ht
    intro x hx
    simp [Tok.endAt] at hx
  | succ f ih =>
    simp only [lexN] at h
    split at h
    · simp only [Except.ok.injEq] at h
      subst h
      intro t ht
      simp only [List.mem_singleton] at ht
      subst ht
      intro x hx
      simp [Tok.endAt] at hx
    · rename_i c r hd
      split at h
      · simp at h
      · rename_i k len n hs
        have hcr : ∀ x ∈ c :: r, 0 ≤ x ∧ x < 256 := fun x hx => hl x (by rw [← hd] at hx; exact List.mem_of_mem_drop hx)
        cases hu : lexN f (p + blk false l + len) ((c :: r).drop len) with
        | error e => rw [hu] at h; simp [pre] at h
        | ok us =>
          rw [hu] at h
          simp only [pre, Except.ok.injEq] at h
          subst h
          intro t ht
          simp only [List.singleton_append, List.mem_cons] at ht
          rcases ht with rfl | ht
          · exact fun x hx => hcr x (List.mem_of_mem_take hx)
          · exact ih _ _ (fun x hx => hcr x (List.mem_of_mem_drop hx)) us hu t ht
set_option maxHeartbeats 1000000 in
theorem lexNames_big (w : World) (s : ByteArray) (hg : ET w) (hb : 200 < s.size) :
    Calls Tryd.prog 4 #[.string s] w fun e w' => e = .returned (.bool true) ∧ Below w.heap.size w w' := by
  have WK := Lib.hid (works w hg)
  clear hg
  go_enter Tryd.func4, Tryd.ntmps4
  go_wp2_with fail
  (with_reducible refine WK.out.mono ?_)
  rintro e w1 ⟨rfl, hb1⟩
  go_wp2
  go_ret
  exact ⟨rfl, hb1⟩
set_option maxHeartbeats 4000000 in
set_option maxRecDepth 1000000 in
theorem lexNames_yes (w : World) (s : ByteArray) (hg : ET w) (hb : s.size ≤ 200) (hn : namesF (bytesI s) = true) :
    Calls Tryd.prog 4 #[.string s] w fun e w' => e = .returned (.bool true) ∧ Below w.heap.size w w' := by
  obtain ⟨w1, cap0, hcv, hb1, hsrc⟩ := bytes_conv w s
  have B1 := Lib.hid hb1
  have HG := Lib.hid hg
  have LX := Lib.hid (lex_ok hsrc (by omega) (lexS_name _ hn))
  have NM : namesF (bytesI s) = true := hn
  have HN := Lib.hid NM
  have HS := Lib.hid (bytesI_str s)
  clear hb1 hsrc hg NM hn
  go_enter Tryd.func4, Tryd.ntmps4
  go_wp2_with fail
  (with_reducible refine LX.out.mono ?_)
  rintro e w2 ⟨g, cap, rfl, hT, _, hb2⟩
  have hle := hT.le
  have B2 := Lib.hid (B1.out.trans (hb2.mono B1.out.size))
  have N1 := isName_at w2 s (by omega)
  rw [HN.out] at N1
  have NH1 := Lib.hid N1
  have t0 := hT.cell 0 (.int .u8 1) rfl
  have t3 := hT.cell 3 (.string s) (congrArg (fun x => some (Value.string x)) HS.out)
  simp only [List.length_cons, List.length_nil] at hle
  clear hT
  clear hb2 LX N1 B1
  go_wp2_with fail
  (with_reducible refine NH1.out.mono ?_)
  rintro e w3 ⟨rfl, hb3⟩
  have B3 := Lib.hid (B2.out.trans (hb3.mono B2.out.size))
  have R1 := refIsName_at w3 s (by omega)
  rw [HN.out] at R1
  have RH1 := Lib.hid R1
  have N2 := isName_at w3 s (by omega)
  rw [HN.out] at N2
  have NH2 := Lib.hid N2
  clear hb3 R1 N2 NH1 B2 t0 t3 hle
  go_wp2_with fail
  (with_reducible refine RH1.out.mono ?_)
  rintro e w4 ⟨rfl, rfl⟩
  go_wp2_with fail
  (with_reducible refine NH2.out.mono ?_)
  rintro e w5 ⟨rfl, hb5⟩
  have B5 := Lib.hid (B3.out.trans (hb5.mono B3.out.size))
  have WK := Lib.hid (works w5 (HG.out.below B5.out))
  clear hb5 RH1 NH2 B3
  go_wp2_with fail
  (with_reducible refine WK.out.mono ?_)
  rintro e w6 ⟨rfl, hb6⟩
  have B6 := Lib.hid (B5.out.trans (hb6.mono B5.out.size))
  clear hb6 WK B5
  go_wp2
  go_ret
  exact ⟨rfl, B6.out⟩
set_option maxHeartbeats 4000000 in
set_option maxRecDepth 1000000 in
theorem lexNames_err (w : World) (s : ByteArray) (hg : ET w) (hb : s.size ≤ 200) (hn : namesF (bytesI s) = false) (i : Nat) (er : Int) (hx : lexS (bytesI s) = .error (i, er)) :
    Calls Tryd.prog 4 #[.string s] w fun e w' => e = .returned (.bool true) ∧ Below w.heap.size w w' := by
  obtain ⟨w1, cap0, hcv, hb1, hsrc⟩ := bytes_conv w s
  have B1 := Lib.hid hb1
  have HG := Lib.hid hg
  have LX := Lib.hid (lex_no hsrc (by omega) hx)
  have NM : namesF (bytesI s) = false := hn
  have HN := Lib.hid NM

  clear hb1 hsrc hg NM hn hx
  go_enter Tryd.func4, Tryd.ntmps4
  go_wp2_with fail
  (with_reducible refine LX.out.mono ?_)
  rintro e w2 ⟨b, l, cc, rfl, _, hb2⟩
  have B2 := Lib.hid (B1.out.trans (hb2.mono B1.out.size))
  have N1 := isName_at w2 s (by omega)
  rw [HN.out] at N1
  have NH1 := Lib.hid N1

  clear hb2 LX N1 B1
  go_wp2_with fail
  (with_reducible refine NH1.out.mono ?_)
  rintro e w3 ⟨rfl, hb3⟩
  have B3 := Lib.hid (B2.out.trans (hb3.mono B2.out.size))
  have R1 := refIsName_at w3 s (by omega)
  rw [HN.out] at R1
  have RH1 := Lib.hid R1
  have N2 := isName_at w3 s (by omega)
  rw [HN.out] at N2
  have NH2 := Lib.hid N2
  clear hb3 R1 N2 NH1 B2
  go_wp2_with fail
  (with_reducible refine RH1.out.mono ?_)
  rintro e w4 ⟨rfl, rfl⟩
  go_wp2_with fail
  (with_reducible refine NH2.out.mono ?_)
  rintro e w5 ⟨rfl, hb5⟩
  have B5 := Lib.hid (B3.out.trans (hb5.mono B3.out.size))
  have WK := Lib.hid (works w5 (HG.out.below B5.out))
  clear hb5 RH1 NH2 B3
  go_wp2_with fail
  (with_reducible refine WK.out.mono ?_)
  rintro e w6 ⟨rfl, hb6⟩
  have B6 := Lib.hid (B5.out.trans (hb6.mono B5.out.size))
  clear hb6 WK B5
  go_wp2
  go_ret
  exact ⟨rfl, B6.out⟩
set_option maxHeartbeats 4000000 in
set_option maxRecDepth 1000000 in
theorem lexNames_len (w : World) (s : ByteArray) (hg : ET w) (hb : s.size ≤ 200) (hn : namesF (bytesI s) = false) (ts : List Tok) (hx : lexS (bytesI s) = .ok ts) (hne : ts.length ≠ 2) :
    Calls Tryd.prog 4 #[.string s] w fun e w' => e = .returned (.bool true) ∧ Below w.heap.size w w' := by
  obtain ⟨w1, cap0, hcv, hb1, hsrc⟩ := bytes_conv w s
  have B1 := Lib.hid hb1
  have HG := Lib.hid hg
  have LX := Lib.hid (lex_ok hsrc (by omega) hx)
  have NM : namesF (bytesI s) = false := hn
  have HN := Lib.hid NM
  have hne' : ((ts.length : Int) == 2) = false := by simp; omega
  clear hb1 hsrc hg NM hn hx hne
  go_enter Tryd.func4, Tryd.ntmps4
  go_wp2_with fail
  (with_reducible refine LX.out.mono ?_)
  rintro e w2 ⟨g, cap, rfl, hT, _, hb2⟩
  have hle := hT.le
  have B2 := Lib.hid (B1.out.trans (hb2.mono B1.out.size))
  have N1 := isName_at w2 s (by omega)
  rw [HN.out] at N1
  have NH1 := Lib.hid N1
  clear hT
  clear hb2 LX N1 B1
  go_wp2_with fail
  (with_reducible refine NH1.out.mono ?_)
  rintro e w3 ⟨rfl, hb3⟩
  have B3 := Lib.hid (B2.out.trans (hb3.mono B2.out.size))
  have R1 := refIsName_at w3 s (by omega)
  rw [HN.out] at R1
  have RH1 := Lib.hid R1
  have N2 := isName_at w3 s (by omega)
  rw [HN.out] at N2
  have NH2 := Lib.hid N2
  clear hb3 R1 N2 NH1 B2 hle
  go_wp2_with fail
  (with_reducible refine RH1.out.mono ?_)
  rintro e w4 ⟨rfl, rfl⟩
  go_wp2_with fail
  (with_reducible refine NH2.out.mono ?_)
  rintro e w5 ⟨rfl, hb5⟩
  have B5 := Lib.hid (B3.out.trans (hb5.mono B3.out.size))
  have WK := Lib.hid (works w5 (HG.out.below B5.out))
  clear hb5 RH1 NH2 B3
  go_wp2_with fail
  (with_reducible refine WK.out.mono ?_)
  rintro e w6 ⟨rfl, hb6⟩
  have B6 := Lib.hid (B5.out.trans (hb6.mono B5.out.size))
  clear hb6 WK B5
  go_wp2
  go_ret
  exact ⟨rfl, B6.out⟩
set_option maxHeartbeats 4000000 in
set_option maxRecDepth 1000000 in
theorem lexNames_kind (w : World) (s : ByteArray) (hg : ET w) (hb : s.size ≤ 200) (hn : namesF (bytesI s) = false) (t u : Tok) (hx : lexS (bytesI s) = .ok [t, u]) (hk : t.kind ≠ 1) :
    Calls Tryd.prog 4 #[.string s] w fun e w' => e = .returned (.bool true) ∧ Below w.heap.size w w' := by
  obtain ⟨w1, cap0, hcv, hb1, hsrc⟩ := bytes_conv w s
  have B1 := Lib.hid hb1
  have HG := Lib.hid hg
  have LX := Lib.hid (lex_ok hsrc (by omega) hx)
  have NM : namesF (bytesI s) = false := hn
  have HN := Lib.hid NM
  have hk' : (t.kind == 1) = false := by simpa using hk
  clear hb1 hsrc hg NM hn hx hk
  go_enter Tryd.func4, Tryd.ntmps4
  go_wp2_with fail
  (with_reducible refine LX.out.mono ?_)
  rintro e w2 ⟨g, cap, rfl, hT, _, hb2⟩
  have hle := hT.le
  have B2 := Lib.hid (B1.out.trans (hb2.mono B1.out.size))
  have N1 := isName_at w2 s (by omega)
  rw [HN.out] at N1
  have NH1 := Lib.hid N1
  have t0 := hT.cell 0 (.int .u8 t.kind) rfl
  simp only [List.length_cons, List.length_nil] at hle
  clear hT
  clear hb2 LX N1 B1
  go_wp2_with fail
  (with_reducible refine NH1.out.mono ?_)
  rintro e w3 ⟨rfl, hb3⟩
  have B3 := Lib.hid (B2.out.trans (hb3.mono B2.out.size))
  have R1 := refIsName_at w3 s (by omega)
  rw [HN.out] at R1
  have RH1 := Lib.hid R1
  have N2 := isName_at w3 s (by omega)
  rw [HN.out] at N2
  have NH2 := Lib.hid N2
  clear hb3 R1 N2 NH1 B2 t0 hle
  go_wp2_with fail
  (with_reducible refine RH1.out.mono ?_)
  rintro e w4 ⟨rfl, rfl⟩
  go_wp2_with fail
  (with_reducible refine NH2.out.mono ?_)
  rintro e w5 ⟨rfl, hb5⟩
  have B5 := Lib.hid (B3.out.trans (hb5.mono B3.out.size))
  have WK := Lib.hid (works w5 (HG.out.below B5.out))
  clear hb5 RH1 NH2 B3
  go_wp2_with fail
  (with_reducible refine WK.out.mono ?_)
  rintro e w6 ⟨rfl, hb6⟩
  have B6 := Lib.hid (B5.out.trans (hb6.mono B5.out.size))
  clear hb6 WK B5
  go_wp2
  go_ret
  exact ⟨rfl, B6.out⟩
set_option maxHeartbeats 4000000 in
set_option maxRecDepth 1000000 in
theorem lexNames_text (w : World) (s : ByteArray) (hg : ET w) (hb : s.size ≤ 200) (hn : namesF (bytesI s) = false) (t u : Tok) (hx : lexS (bytesI s) = .ok [t, u]) (hk : t.kind = 1) :
    Calls Tryd.prog 4 #[.string s] w fun e w' => e = .returned (.bool true) ∧ Below w.heap.size w w' := by
  obtain ⟨w1, cap0, hcv, hb1, hsrc⟩ := bytes_conv w s
  have B1 := Lib.hid hb1
  have HG := Lib.hid hg
  have LX := Lib.hid (lex_ok hsrc (by omega) hx)
  have NM : namesF (bytesI s) = false := hn
  have HN := Lib.hid NM
  have hne : t.text ≠ bytesI s := fun e => by
    rw [name_lexS _ t u hx hk e] at hn
    simp at hn
  have hst := str_ne t.text (bytesI s) s (bytesI_str s) (lexN_text _ _ _ (mem_byte (bytesI_byte s)) _ hx t (by simp)) (mem_byte (bytesI_byte s)) hne
  have HK := Lib.hid hk
  obtain ⟨st, hss⟩ : ∃ st, strOfNums t.text = st := ⟨_, rfl⟩
  rw [hss] at hst
  have HSS := Lib.hid hss
  clear hb1 hsrc hg NM hn hx hk hne hss
  go_enter Tryd.func4, Tryd.ntmps4
  go_wp2_with fail
  (with_reducible refine LX.out.mono ?_)
  rintro e w2 ⟨g, cap, rfl, hT, _, hb2⟩
  have hle := hT.le
  have B2 := Lib.hid (B1.out.trans (hb2.mono B1.out.size))
  have N1 := isName_at w2 s (by omega)
  rw [HN.out] at N1
  have NH1 := Lib.hid N1
  have t0 := hT.cell 0 (.int .u8 1) (congrArg (fun x => some (Value.int .u8 x)) HK.out)
  have t3 := hT.cell 3 (.string st) (congrArg (fun x => some (Value.string x)) HSS.out)
  simp only [List.length_cons, List.length_nil] at hle
  clear hT
  clear hb2 LX N1 B1
  go_wp2_with fail
  (with_reducible refine NH1.out.mono ?_)
  rintro e w3 ⟨rfl, hb3⟩
  have B3 := Lib.hid (B2.out.trans (hb3.mono B2.out.size))
  have R1 := refIsName_at w3 s (by omega)
  rw [HN.out] at R1
  have RH1 := Lib.hid R1
  have N2 := isName_at w3 s (by omega)
  rw [HN.out] at N2
  have NH2 := Lib.hid N2
  clear hb3 R1 N2 NH1 B2 t0 t3 hle hst
  go_wp2_with fail
  (with_reducible refine RH1.out.mono ?_)
  rintro e w4 ⟨rfl, rfl⟩
  go_wp2_with fail
  (with_reducible refine NH2.out.mono ?_)
  rintro e w5 ⟨rfl, hb5⟩
  have B5 := Lib.hid (B3.out.trans (hb5.mono B3.out.size))
  have WK := Lib.hid (works w5 (HG.out.below B5.out))
  clear hb5 RH1 NH2 B3
  go_wp2_with fail
  (with_reducible refine WK.out.mono ?_)
  rintro e w6 ⟨rfl, hb6⟩
  have B6 := Lib.hid (B5.out.trans (hb6.mono B5.out.size))
  clear hb6 WK B5
  go_wp2
  go_ret
  exact ⟨rfl, B6.out⟩
theorem lexNames (w : World) (s : ByteArray) (hg : ET w) :
    Calls Tryd.prog 4 #[.string s] w fun e w' => e = .returned (.bool true) ∧ Below w.heap.size w w' := by
  by_cases hb : s.size ≤ 200
  · cases hn : namesF (bytesI s) with
    | true => exact lexNames_yes w s hg hb hn
    | false =>
      cases hx : lexS (bytesI s) with
      | error e => exact lexNames_err w s hg hb hn e.1 e.2 hx
      | ok ts =>
        by_cases h2 : ts.length = 2
        · match ts, h2 with
          | [t, u], _ =>
            by_cases hk : t.kind = 1
            · exact lexNames_text w s hg hb hn t u hx hk
            · exact lexNames_kind w s hg hb hn t u hx hk
        · exact lexNames_len w s hg hb hn ts hx h2
  · exact lexNames_big w s hg (by omega)
end Go.Proofs.YtabbodbnjegllaaDoor
