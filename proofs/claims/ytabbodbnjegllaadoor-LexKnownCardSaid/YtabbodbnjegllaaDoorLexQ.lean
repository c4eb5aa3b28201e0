import Derived.Test.YtabbodbnjegllaaDoorLexP
namespace Go.Proofs.YtabbodbnjegllaaDoor
/-- What ends any token. -/
def stopB (b : Int) : Prop := isBlank b = true ∨ b = 35
theorem stop_cases {b : Int} (h : stopB b) : b = 32 ∨ b = 9 ∨ b = 10 ∨ b = 13 ∨ b = 35 := by
  rcases h with h | h
  · have : b = 32 ∨ b = 9 ∨ b = 10 ∨ b = 13 := by simpa [isBlank, or_assoc] using h
    omega
  · omega
theorem stop_name {b : Int} (h : stopB b) : isNameB b = false := by rcases stop_cases h with rfl | rfl | rfl | rfl | rfl <;> rfl
theorem stop_digit {b : Int} (h : stopB b) : isDigit b = false := by rcases stop_cases h with rfl | rfl | rfl | rfl | rfl <;> rfl
theorem run_app (p : Int → Bool) (l : List Int) (b : Int) (Y : List Int) (hb : p b = false) : run p (l ++ b :: Y) = run p l := by
  induction l with
  | nil => simp [run, hb]
  | cons c r ih => simp only [List.cons_append, run, ih]
theorem numV_app (n : Int) (l : List Int) (b : Int) (Y : List Int) (hb : isDigit b = false) : numV n (l ++ b :: Y) = numV n l := by
  induction l generalizing n with
  | nil => simp [numV, hb]
  | cons c r ih => simp only [List.cons_append, numV, ih]
theorem step_app (l : List Int) (b : Int) (Y : List Int) (hb : stopB b) (hl : l ≠ []) : step (l ++ b :: Y) = step l := by
  cases l with
  | nil => exact absurd rfl hl
  | cons c r =>
    have h1 := run_app isNameB (c :: r) b Y (stop_name hb)
    have h2 := run_app isDigit (c :: r) b Y (stop_digit hb)
    have h3 := numV_app 0 (c :: r) b Y (stop_digit hb)
    have h4 : ((r ++ b :: Y).head? = some 61) = (r.head? = some 61) := by
      cases r with
      | nil =>
        have : b ≠ 61 := by rcases stop_cases hb with rfl | rfl | rfl | rfl | rfl <;> decide
        simp [this]
      | cons d r => simp
    simp only [List.cons_append] at h1 h2 h3 ⊢
    simp only [step, h1, h2, h3, h4]
theorem run_take (p : Int → Bool) (l : List Int) : run p (l.take (run p l)) = run p l := by
  induction l with
  | nil => simp [run]
  | cons c r ih =>
    simp only [run]
    split
    · rename_i h
      rw [List.take_succ_cons]
      simp only [run, h, if_true, ih]
    · simp [run]
theorem numV_take (n : Int) (l : List Int) : numV n (l.take (run isDigit l)) = numV n l := by
  induction l generalizing n with
  | nil => simp [run]
  | cons c r ih =>
    simp only [run]
    split
    · rename_i h
      rw [List.take_succ_cons]
      simp only [numV, h, if_true, ih]
    · rename_i h
      simp [numV, h]
/-- A token's text alone is that token. -/
theorem step_text (l : List Int) (k : Int) (len : Nat) (n : Int) (h : step l = .tok k len n) : step (l.take len) = .tok k len n := by
  have hl := step_len h
  cases l with
  | nil => simp [step] at h
  | cons c r =>
    obtain ⟨m, rfl⟩ : ∃ m, len = m + 1 := ⟨len - 1, by omega⟩
    have h1 := run_take isNameB (c :: r)
    have h2 := run_take isDigit (c :: r)
    have h3 := numV_take 0 (c :: r)
    simp only [step] at h
    rw [List.take_succ_cons]
    simp only [step]
    split at h
    · rename_i hc
      simp only [Step.tok.injEq] at h
      rw [if_pos hc]
      obtain ⟨rfl, h', rfl⟩ := h
      rw [h', List.take_succ_cons] at h1
      rw [h1]
    · rename_i hc
      rw [if_neg hc]
      split at h
      · rename_i hd
        rw [if_pos hd]
        split at h
        · rename_i v hv
          simp only [Step.tok.injEq] at h
          obtain ⟨rfl, h', rfl⟩ := h
          rw [h', List.take_succ_cons] at h2
          rw [h', List.take_succ_cons, hv] at h3
          rw [h3, h2]
        · simp at h
      · rename_i hd
        rw [if_neg hd]
        split at h
        · rename_i hm
          rw [if_pos hm]
          simp only [Step.tok.injEq] at h
          obtain ⟨rfl, h', rfl⟩ := h
          split at h'
          · rename_i h61
            obtain rfl : m = 1 := by omega
            cases r with
            | nil => simp at h61
            | cons d r =>
              have : d = 61 := by simpa using h61.2
              subst this
              rw [h61.1]
              simp
          · rename_i h61
            obtain rfl : m = 0 := by omega
            simp
        · simp at h
theorem step_head {l : List Int} {k n : Int} {len : Nat} (h : step l = .tok k len n) : isBlank (l.getD 0 0) = false ∧ l.getD 0 0 ≠ 35 := by
  cases l with
  | nil => simp [step] at h
  | cons c r =>
    simp only [step] at h
    simp only [List.getD_cons_zero]
    split at h
    · rename_i hc
      exact letter_plain hc
    · split at h
      · rename_i hd
        simp only [isDigit, Bool.and_eq_true, decide_eq_true_eq] at hd
        refine ⟨?_, by omega⟩
        simp only [isBlank, Bool.or_eq_false_iff, beq_eq_false_iff_ne]
        omega
      · split at h
        · rename_i hm
          rcases mark_cases hm with rfl | rfl | rfl | rfl | rfl | rfl | rfl | rfl | rfl | rfl | rfl | rfl | rfl | rfl <;> decide
        · simp at h
/-- The words of a token. -/
def same3 (t u : Tok) : Prop := t.kind = u.kind ∧ t.text = u.text ∧ t.n = u.n
def sameAll : List Tok → List Tok → Prop
  | [], [] => True
  | t :: r, u :: s => same3 t u ∧ sameAll r s
  | _, _ => False
theorem sameAll_length {a b : List Tok} (h : sameAll a b) : a.length = b.length := by
  induction a generalizing b with
  | nil => cases b with
    | nil => rfl
    | cons u s => exact h.elim
  | cons t r ih => cases b with
    | nil => exact h.elim
    | cons u s => simp only [List.length_cons]; rw [ih h.2]
theorem sameAll_get {a b : List Tok} (h : sameAll a b) (k : Nat) (t u : Tok) (ht : a[k]? = some t) (hu : b[k]? = some u) : same3 t u := by
  induction a generalizing b k with
  | nil => simp at ht
  | cons x r ih => cases b with
    | nil => exact h.elim
    | cons y s => cases k with
      | zero =>
        simp only [List.getElem?_cons_zero, Option.some.injEq] at ht hu
        subst ht hu
        exact h.1
      | succ k => exact ih h.2 k (by simpa using ht) (by simpa using hu)
/-- Blanks that are put behind a token. -/
def isGap (B : List Int) : Prop := (∀ X, blk false (B ++ X) = B.length + blk false X) ∧ ∃ b r, B = b :: r ∧ stopB b
def again : List Tok → (Nat → List Int) → List Int
  | [], _ => []
  | t :: r, f => t.text ++ (f 0 ++ again r fun i => f (i + 1))
theorem relex (xs : List Int) (ts : List Tok) (p q : Nat) (gap : Nat → List Int) (hg : ∀ i, isGap (gap i)) (hp : p ≤ xs.length) (h : lexAt xs p = .ok ts) (F : Nat) (hF : (again ts gap).length < F) :
    ∃ us, lexN F q (again ts gap) = .ok us ∧ sameAll ts us := by
  induction ts generalizing p q gap F with
  | nil =>
    exact absurd rfl (chain_of xs xs.length p (by omega) hp [] h).2
  | cons t r ih =>
    obtain ⟨G, rfl⟩ : ∃ G, F = G + 1 := ⟨F - 1, by omega⟩
    rw [lexAt_bl xs p hp] at h
    have hb := bl_le xs p hp
    have hi := bl_idem xs p
    generalize bl xs p = i at *
    obtain ⟨hg1, b, br, hbr, hstop⟩ := hg 0
    by_cases hlt : i < xs.length
    · cases hs : step (xs.drop i) with
      | err e => rw [lexAt_err xs i e hlt hi hs] at h; simp at h
      | tok k l n =>
        rw [lexAt_tok xs i k l n hlt hi hs] at h
        have hl := step_len hs
        rw [List.length_drop] at hl
        cases hr : lexAt xs (i + l) with
        | error e => rw [hr] at h; simp [pre] at h
        | ok us =>
          rw [hr] at h
          simp only [pre, Except.ok.injEq, List.singleton_append, List.cons.injEq] at h
          obtain ⟨rfl, rfl⟩ := h
          have hst := step_text _ _ _ _ hs
          obtain ⟨X, hX⟩ : ∃ X, X = (xs.drop i).take l := ⟨_, rfl⟩
          rw [← hX] at hst
          have hXl : X.length = l := by rw [hX, List.length_take, List.length_drop]; omega
          have hXne : X ≠ [] := by intro e; rw [e] at hXl; simp at hXl; omega
          have hhd := step_head hst
          have hrest := fun q F hF => ih (i + l) q (fun j => gap (j + 1)) (fun j => hg (j + 1)) (by omega) hr F hF
          simp only [again, ← hX]
          obtain ⟨Z, hZ⟩ : ∃ Z, Z = again us (fun j => gap (j + 1)) := ⟨_, rfl⟩
          rw [← hZ] at hrest ⊢
          have hlen : (X ++ (gap 0 ++ Z)).length < G + 1 := by
            simp only [again, ← hX, ← hZ] at hF
            exact hF
          have hlen2 : Z.length < G := by simp only [List.length_append] at hlen; omega
          obtain ⟨H, rfl⟩ : ∃ H, G = H + 1 := ⟨G - 1, by omega⟩
          obtain ⟨us', hu', hsame⟩ := hrest (q := q + l + (gap 0).length) (H + 1) hlen2
          refine ⟨⟨k, q, q + l, X, n⟩ :: us', ?_, ⟨rfl, rfl, rfl⟩, hsame⟩
          have hne : X ++ (gap 0 ++ Z) = X ++ b :: (br ++ Z) := by rw [hbr]; rfl
          have hb0 : blk false (X ++ (gap 0 ++ Z)) = 0 := by
            cases X with
            | nil => exact absurd rfl hXne
            | cons c X =>
              simp only [List.getD_cons_zero] at hhd
              simp only [List.cons_append, blk, hhd.1, Bool.false_eq_true, if_false, if_neg hhd.2]
          have hs2 : step (X ++ (gap 0 ++ Z)) = .tok k l n := by rw [hne, step_app X b _ hstop hXne, hst]
          have hd : (X ++ (gap 0 ++ Z)).drop l = gap 0 ++ Z := by rw [← hXl, List.drop_left]
          have ht : (X ++ (gap 0 ++ Z)).take l = X := by rw [← hXl, List.take_left]
          have hskip : lexN (H + 1) (q + l) (gap 0 ++ Z) = lexN (H + 1) (q + l + (gap 0).length) Z := by
            rw [lexN_skip H (q + l) (gap 0 ++ Z), lexN_skip H (q + l + (gap 0).length) Z, hg1 Z, ← List.drop_drop, List.drop_left, Nat.add_assoc (q + l)]
          rw [lexN, hb0, List.drop_zero]
          cases hc : X ++ (gap 0 ++ Z) with
          | nil => rw [hc] at hs2; simp [step] at hs2
          | cons c R =>
            rw [hc] at hs2 hd ht
            simp only [hs2, hd, ht, Nat.add_zero]
            rw [hskip, hu']
            rfl
    · rw [lexAt_end xs i (by omega)] at h
      simp only [Except.ok.injEq, List.cons.injEq] at h
      obtain ⟨rfl, rfl⟩ := h
      refine ⟨[Tok.endAt (q + (gap 0).length)], ?_, ⟨rfl, rfl, rfl⟩, trivial⟩
      have h0 := hg1 []
      rw [List.append_nil] at h0
      simp only [again, Tok.endAt, List.nil_append, List.append_nil]
      rw [lexN, h0]
      simp [blk, Tok.endAt]
def gapOf (k : Int) : List Int := if k % 4 = 0 then [32] else if k % 4 = 1 then [10] else if k % 4 = 2 then [9, 13] else [35, 32, 97, 49, 32, 61, 61, 10]
theorem gapOf_gap (k : Int) : isGap (gapOf k) := by
  unfold gapOf
  split
  · exact ⟨fun X => by simp [blk, isBlank], _, _, rfl, Or.inl rfl⟩
  · split
    · exact ⟨fun X => by simp [blk, isBlank], _, _, rfl, Or.inl rfl⟩
    · split
      · exact ⟨fun X => by simp [blk, isBlank]; omega, _, _, rfl, Or.inl rfl⟩
      · exact ⟨fun X => by simp [blk, isBlank]; omega, _, _, rfl, Or.inr rfl⟩
def shiftT (q : Nat) (t : Tok) : Tok := ⟨t.kind, t.at' + q, t.stop + q, t.text, t.n⟩
def shiftR (q : Nat) : Except (Nat × Int) (List Tok) → Except (Nat × Int) (List Tok)
  | .error (i, e) => .error (i + q, e)
  | .ok ts => .ok (ts.map (shiftT q))
theorem shiftR_pre (q : Nat) (t : Tok) (x : Except (Nat × Int) (List Tok)) : shiftR q (pre [t] x) = pre [shiftT q t] (shiftR q x) := by
  cases x <;> simp [pre, shiftR]
theorem lexN_shift (f p q : Nat) (l : List Int) : lexN f (p + q) l = shiftR q (lexN f p l) := by
  induction f generalizing p l with
  | zero => simp [lexN, shiftR, shiftT, Tok.endAt]
  | succ f ih =>
    simp only [lexN]
    cases hd : l.drop (blk false l) with
    | nil => simp [shiftR, shiftT, Tok.endAt]; omega
    | cons c r =>
      cases hs : step (c :: r) with
      | err e => simp [hs, shiftR]; omega
      | tok k len n =>
        simp only [hs]
        rw [shiftR_pre, ← ih, show p + blk false l + len + q = p + q + blk false l + len by omega]
        simp only [shiftT]
        rw [show p + blk false l + q = p + q + blk false l by omega, show p + blk false l + len + q = p + q + blk false l + len by omega]
theorem blk_app (bb : Bool) (l Y : List Int) : (blk bb l < l.length → blk bb (l ++ Y) = blk bb l) ∧ (blk bb l = l.length → blk bb (l ++ 10 :: Y) = l.length + 1 + blk false Y) := by
  induction l generalizing bb with
  | nil => cases bb <;> simp [blk, isBlank]
  | cons c r ih =>
    have h0 := ih false
    have h1 := ih true
    cases bb
    · simp only [blk, List.cons_append, List.length_cons]
      split
      · exact ⟨fun h => by rw [h0.1 (by omega)], fun h => by rw [h0.2 (by omega)]; omega⟩
      · split
        · exact ⟨fun h => by rw [h1.1 (by omega)], fun h => by rw [h1.2 (by omega)]; omega⟩
        · exact ⟨fun _ => rfl, fun h => by omega⟩
    · simp only [blk, List.cons_append, List.length_cons]
      split
      · exact ⟨fun h => by rw [h0.1 (by omega)], fun h => by rw [h0.2 (by omega)]; omega⟩
      · exact ⟨fun h => by rw [h1.1 (by omega)], fun h => by rw [h1.2 (by omega)]; omega⟩
theorem lexAt_join (a b : List Int) (m i : Nat) (hm : a.length - i ≤ m) (hi : i ≤ a.length) :
    (∀ e, lexAt a i = .error e → lexAt (a ++ 10 :: b) i = .error e) ∧ (∀ ts, lexAt a i = .ok ts → ∃ us, ts = us ++ [Tok.endAt a.length] ∧ lexAt (a ++ 10 :: b) i = pre us (lexAt (a ++ 10 :: b) (a.length + 1))) := by
  induction m generalizing i with
  | zero =>
    have e : i = a.length := by omega
    have hb : bl (a ++ 10 :: b) i = bl (a ++ 10 :: b) (a.length + 1) := by
      rw [e]
      exact bl_blank _ _ (by simp) (by simp [List.getD, isBlank])
    refine ⟨fun e' h => by rw [lexAt_end a i e] at h; simp at h, fun ts h => ⟨[], ?_, ?_⟩⟩
    · rw [lexAt_end a i e] at h
      simp only [Except.ok.injEq] at h
      rw [← h, e]
      rfl
    · rw [pre_nil, lexAt_bl _ i (by simp; omega), lexAt_bl _ (a.length + 1) (by simp), hb]
  | succ m ih =>
    have hj := bl_le a i hi
    have hjj := bl_idem a i
    have hba := blk_app false (a.drop i) (10 :: b)
    have hbb := (blk_app false (a.drop i) b).2
    rw [List.length_drop] at hba hbb
    have hdrop : (a ++ 10 :: b).drop i = a.drop i ++ 10 :: b := by rw [List.drop_append_of_le_length hi]
    by_cases hlt : bl a i < a.length
    · have hbl : bl (a ++ 10 :: b) i = bl a i := by
        unfold bl at hlt ⊢
        rw [hdrop, hba.1 (by omega)]
      obtain ⟨j, hje⟩ : ∃ j, bl a i = j := ⟨_, rfl⟩
      rw [hje] at hj hjj hlt hbl
      have hcl : j < (a ++ 10 :: b).length := by simp; omega
      have hcb : bl (a ++ 10 :: b) j = j := by rw [← hbl]; exact bl_idem _ _
      have hd2 : (a ++ 10 :: b).drop j = a.drop j ++ 10 :: b := by rw [List.drop_append_of_le_length (by omega)]
      have hst : step ((a ++ 10 :: b).drop j) = step (a.drop j) := by
        rw [hd2]
        exact step_app _ _ _ (Or.inl rfl) (by intro e; have := congrArg List.length e; rw [List.length_drop, List.length_nil] at this; omega)
      rw [lexAt_bl a i hi, lexAt_bl (a ++ 10 :: b) i (by simp; omega), hje, hbl]
      cases hs : step (a.drop j) with
      | err e =>
        rw [hs] at hst
        rw [lexAt_err a j e hlt hjj hs, lexAt_err _ j e hcl hcb hst]
        exact ⟨fun e' h => h, fun ts h => by simp at h⟩
      | tok k l n =>
        rw [hs] at hst
        have hl := step_len hs
        rw [List.length_drop] at hl
        have ht : ((a ++ 10 :: b).drop j).take l = (a.drop j).take l := by rw [hd2, List.take_append_of_le_length (by rw [List.length_drop]; omega)]
        have ih' := ih (j + l) (by omega) (by omega)
        rw [lexAt_tok a j k l n hlt hjj hs, lexAt_tok _ j k l n hcl hcb hst, ht]
        cases hr : lexAt a (j + l) with
        | error e =>
          rw [ih'.1 e hr]
          exact ⟨fun e' h => h, fun ts h => by simp [pre] at h⟩
        | ok us =>
          obtain ⟨vs, hv, hc⟩ := ih'.2 us hr
          rw [hc]
          refine ⟨fun e' h => by simp [pre] at h, fun ts h => ?_⟩
          simp only [pre, Except.ok.injEq] at h
          exact ⟨[⟨k, j, j + l, (a.drop j).take l, n⟩] ++ vs, by rw [← h, hv, List.append_assoc], by rw [pre_pre]⟩
    · have hje : bl a i = a.length := by omega
      have hbl : bl (a ++ 10 :: b) i = bl (a ++ 10 :: b) (a.length + 1) := by
        unfold bl at hje ⊢
        rw [hdrop, hbb (by omega)]
        have : (a ++ 10 :: b).drop (a.length + 1) = b := by
          rw [← List.drop_drop, List.drop_left]
          rfl
        rw [this]
        omega
      rw [lexAt_bl a i hi, lexAt_bl (a ++ 10 :: b) i (by simp; omega), hje, hbl, lexAt_end a a.length rfl, ← lexAt_bl (a ++ 10 :: b) (a.length + 1) (by simp)]
      refine ⟨fun e' h => by simp at h, fun ts h => ⟨[], ?_, by rw [pre_nil]⟩⟩
      simp only [Except.ok.injEq] at h
      rw [← h]
      rfl
/-- The second source begins behind the first one and a line's end. -/
theorem lexAt_second (a b : List Int) : lexAt (a ++ 10 :: b) (a.length + 1) = shiftR (a.length + 1) (lexS b) := by
  have hd : (a ++ 10 :: b).drop (a.length + 1) = b := by
    rw [← List.drop_drop, List.drop_left]
    rfl
  unfold lexAt lexS
  rw [hd, ← lexN_shift, Nat.zero_add]
  exact lexN_fuel _ _ _ _ (by simp; omega) (by omega)
theorem join_err (a b : List Int) (e : Nat × Int) (h : lexS a = .error e) : lexS (a ++ 10 :: b) = .error e := by
  rw [lexS_at] at h ⊢
  exact (lexAt_join a b a.length 0 (by omega) (by omega)).1 e h
theorem join_err2 (a b : List Int) (ts : List Tok) (e : Nat × Int) (h : lexS a = .ok ts) (h2 : lexS b = .error e) : lexS (a ++ 10 :: b) = .error (e.1 + (a.length + 1), e.2) := by
  rw [lexS_at] at h
  obtain ⟨us, _, hc⟩ := (lexAt_join a b a.length 0 (by omega) (by omega)).2 ts h
  rw [lexS_at, hc, lexAt_second, h2]
  rfl
theorem join_ok (a b : List Int) (ts us : List Tok) (h : lexS a = .ok ts) (h2 : lexS b = .ok us) : ∃ vs, ts = vs ++ [Tok.endAt a.length] ∧ lexS (a ++ 10 :: b) = .ok (vs ++ us.map (shiftT (a.length + 1))) := by
  rw [lexS_at] at h
  obtain ⟨vs, hv, hc⟩ := (lexAt_join a b a.length 0 (by omega) (by omega)).2 ts h
  refine ⟨vs, hv, ?_⟩
  rw [lexS_at, hc, lexAt_second, h2]
  rfl
end Go.Proofs.YtabbodbnjegllaaDoor
