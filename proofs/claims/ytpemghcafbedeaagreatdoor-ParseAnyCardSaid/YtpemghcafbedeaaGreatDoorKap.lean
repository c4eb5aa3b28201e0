/- Contracts on the way to the laws of layer 5: ParseLa, ParseRa, ParseRb, ParseRc, ParseRd, ParseRe, ParseRf, ParseRg. -/
import Derived.Test.YtpemghcafbedeaaGreatDoorKad
import Derived.Test.YtpemghcafbedeaaGreatDoorKah
import Derived.Test.YtpemghcafbedeaaGreatDoorKak
set_option linter.all false
section
namespace Go.Proofs.YtpemghcafbedeaaGreatDoor
theorem blk_takeGe (b : Bool) (l : List Int) (c : Nat) (h : blk b l ≤ c) : blk b (l.take c) = blk b l := by
  induction l generalizing b c with
  | nil => simp
  | cons x r ih =>
    cases c with
    | zero => simp only [List.take_zero, Nat.le_zero_eq] at h ⊢; rw [h]; cases b <;> rfl
    | succ c =>
      rw [List.take_succ_cons]
      cases b
      · simp only [blk] at h ⊢
        by_cases h1 : isBlank x = true
        · simp only [if_pos h1] at h ⊢; rw [ih false c (by omega)]
        · simp only [if_neg h1] at h ⊢
          by_cases h2 : x = 35
          · simp only [if_pos h2] at h ⊢; rw [ih true c (by omega)]
          · simp only [if_neg h2]
      · simp only [blk] at h ⊢
        by_cases h1 : x = 10
        · simp only [if_pos h1] at h ⊢; rw [ih false c (by omega)]
        · simp only [if_neg h1] at h ⊢; rw [ih true c (by omega)]
theorem run_takeGe (p : Int → Bool) (l : List Int) (c : Nat) (h : run p l ≤ c) : run p (l.take c) = run p l := by
  induction l generalizing c with
  | nil => simp
  | cons x r ih =>
    cases c with
    | zero => simp only [List.take_zero, Nat.le_zero_eq] at h ⊢; rw [h]; rfl
    | succ c =>
      rw [List.take_succ_cons]
      simp only [run] at h ⊢
      by_cases h1 : p x = true
      · simp only [if_pos h1] at h ⊢; rw [ih c (by omega)]
      · simp only [if_neg h1]
theorem numV_takeGe (n : Int) (l : List Int) (c : Nat) (h : run isDigit l ≤ c) : numV n (l.take c) = numV n l := by
  induction l generalizing n c with
  | nil => simp
  | cons x r ih =>
    cases c with
    | zero =>
      simp only [Nat.le_zero_eq, run] at h
      by_cases h1 : isDigit x = true
      · simp [h1] at h
      · simp [numV, h1]
    | succ c =>
      rw [List.take_succ_cons]
      simp only [run] at h
      simp only [numV]
      by_cases h1 : isDigit x = true
      · simp only [if_pos h1] at h ⊢; rw [ih _ c (by omega)]
      · simp only [if_neg h1]
theorem step_takeGe {l : List Int} {k : Int} {len : Nat} {n : Int} {m : Nat} (h : step l = .tok k len n) (hm : len ≤ m) : step (l.take m) = .tok k len n := by
  have hl := step_len h
  cases l with
  | nil => simp [step] at h
  | cons c r =>
    obtain ⟨m, rfl⟩ : ∃ m', m = m' + 1 := ⟨m - 1, by omega⟩
    have h1 := run_takeGe isNameB (c :: r) (m + 1)
    have h2 := run_takeGe isDigit (c :: r) (m + 1)
    have h3 := numV_takeGe 0 (c :: r) (m + 1)
    rw [List.take_succ_cons] at h1 h2 h3 ⊢
    simp only [step] at h ⊢
    by_cases hc : isLetter c = true
    · simp only [if_pos hc, Step.tok.injEq] at h ⊢
      obtain ⟨rfl, h', rfl⟩ := h
      exact ⟨rfl, by rw [h1 (by omega)]; exact h', rfl⟩
    · simp only [if_neg hc] at h ⊢
      by_cases hd : isDigit c = true
      · simp only [if_pos hd] at h ⊢
        cases hv : numV 0 (c :: r) with
        | none => rw [hv] at h; simp at h
        | some v =>
          rw [hv] at h
          simp only [Step.tok.injEq] at h
          obtain ⟨rfl, h', rfl⟩ := h
          rw [h3 (by omega), hv]
          simp only [Step.tok.injEq]
          exact ⟨trivial, by rw [h2 (by omega)]; exact h', trivial⟩
      · simp only [if_neg hd] at h ⊢
        by_cases hk : isMark c = true
        · simp only [if_pos hk, Step.tok.injEq] at h ⊢
          obtain ⟨rfl, h', rfl⟩ := h
          refine ⟨rfl, ?_, rfl⟩
          by_cases h61 : c = 61 ∧ r.head? = some 61
          · rw [if_pos h61] at h'
            cases r with
            | nil => simp at h61
            | cons d r =>
              obtain ⟨m, rfl⟩ : ∃ m', m = m' + 1 := ⟨m - 1, by omega⟩
              rw [List.take_succ_cons, if_pos ⟨h61.1, by simpa using h61.2⟩]
              exact h'
          · rw [if_neg h61] at h'
            rw [if_neg]
            · exact h'
            · rintro ⟨e1, e2⟩
              refine h61 ⟨e1, ?_⟩
              cases r with
              | nil => simp at e2
              | cons d r =>
                cases m with
                | zero => simp at e2
                | succ m => simpa using e2
        · simp only [if_neg hk] at h; simp at h
theorem lexN_cut (f p : Nat) (l : List Int) (ts : List Tok) (hf : l.length < f) (h : lexN f p l = .ok ts) : ∀ (k : Nat) (t : Tok), ts[k]? = some t → p ≤ t.at' ∧ t.at' ≤ p + l.length ∧ ∀ g, (l.take (t.at' - p)).length < g → lexN g p (l.take (t.at' - p)) = .ok (ts.take k ++ [Tok.endAt t.at']) := by
  induction f generalizing p l ts with
  | zero => omega
  | succ f ih =>
    simp only [lexN] at h
    have hb := blk_le false l
    have hstop : ∀ g, (l.take (blk false l)).length < g → lexN g p (l.take (blk false l)) = .ok [Tok.endAt (p + blk false l)] := fun g hg => by
      obtain ⟨g, rfl⟩ : ∃ g', g = g' + 1 := ⟨g - 1, by omega⟩
      have h1 := blk_takeGe false l (blk false l) (Nat.le_refl _)
      simp only [lexN, h1]
      rw [List.drop_eq_nil_of_le (by simp; omega)]
    split at h
    · rename_i hd
      simp only [Except.ok.injEq] at h
      subst h
      intro k t hk
      cases k with
      | zero =>
        simp only [List.getElem?_cons_zero, Option.some.injEq] at hk
        subst hk
        refine ⟨by simp [Tok.endAt], by simp [Tok.endAt]; omega, fun g hg => ?_⟩
        simp only [Tok.endAt, Nat.add_sub_cancel_left, List.take_zero, List.nil_append] at hg ⊢
        exact hstop g hg
      | succ k => simp at hk
    · rename_i c r hd
      have hcr : (c :: r).length = l.length - blk false l := by rw [← hd, List.length_drop]
      split at h
      · simp at h
      · rename_i kk len n hs
        have hl := step_len hs
        cases hu : lexN f (p + blk false l + len) ((c :: r).drop len) with
        | error e => rw [hu] at h; simp [pre] at h
        | ok us =>
          rw [hu] at h
          simp only [pre, Except.ok.injEq, List.singleton_append] at h
          subst h
          intro k t hk
          cases k with
          | zero =>
            simp only [List.getElem?_cons_zero, Option.some.injEq] at hk
            subst hk
            refine ⟨by simp only; omega, by simp only; omega, fun g hg => ?_⟩
            simp only [Nat.add_sub_cancel_left, List.take_zero, List.nil_append] at hg ⊢
            exact hstop g hg
          | succ k =>
            simp only [List.getElem?_cons_succ] at hk
            have hlen2 : ((c :: r).drop len).length = l.length - blk false l - len := by rw [List.length_drop, hcr]
            obtain ⟨h1, h2, h3⟩ := ih _ _ us (by omega) hu k t hk
            refine ⟨by omega, by omega, fun g hg => ?_⟩
            obtain ⟨g, rfl⟩ : ∃ g', g = g' + 1 := ⟨g - 1, by omega⟩
            have hge : blk false l ≤ t.at' - p := by omega
            have hbt := blk_takeGe false l (t.at' - p) hge
            have hdt : (l.take (t.at' - p)).drop (blk false l) = (c :: r).take (t.at' - p - blk false l) := by rw [List.drop_take, hd]
            obtain ⟨q, hq⟩ : ∃ q, t.at' - p - blk false l = q + 1 := ⟨t.at' - p - blk false l - 1, by omega⟩
            have hst := step_takeGe (m := q + 1) hs (by omega)
            rw [List.take_succ_cons] at hst
            simp only [lexN, hbt, hdt, hq, List.take_succ_cons, hst]
            have e1 : (c :: r.take q).drop len = ((c :: r).drop len).take (t.at' - (p + blk false l + len)) := by
              rw [← List.take_succ_cons, List.drop_take]
              congr 1
              omega
            rw [e1]
            have hg2 : (((c :: r).drop len).take (t.at' - (p + blk false l + len))).length < g := by
              rw [List.length_take] at hg ⊢
              omega
            rw [h3 g hg2]
            simp only [pre, List.singleton_append, List.cons_append, Except.ok.injEq, List.cons.injEq, and_true]
            have e2 : (c :: r.take q).take len = (c :: r).take len := by
              rw [← List.take_succ_cons, List.take_take, Nat.min_eq_left (by omega)]
            rw [e2]
            exact ⟨rfl, rfl⟩
theorem lexS_cut {xs : List Int} {ts : List Tok} (h : lexS xs = .ok ts) (k : Nat) (t : Tok) (hk : ts[k]? = some t) : t.at' ≤ xs.length ∧ lexS (xs.take t.at') = .ok (ts.take k ++ [Tok.endAt t.at']) := by
  obtain ⟨_, h2, h3⟩ := lexN_cut (xs.length + 1) 0 xs ts (Nat.lt_succ_self _) h k t hk
  simp only [Nat.sub_zero, Nat.zero_add] at h2 h3
  exact ⟨h2, h3 _ (Nat.lt_succ_self _)⟩
theorem parse_cut {xs : List Int} {ts : List Tok} {ns : List Nd} (hp : parseS xs = .ok ns) (h : lexS xs = .ok ts) (k : Nat) (t : Tok) (hk : ts[k]? = some t) : parseS (xs.take t.at') = .error (t.at', 50) ∨ ∃ ms, parseS (xs.take t.at') = .ok ms := by
  obtain ⟨_, hc⟩ := lexS_cut h k t hk
  have hend : IsEnd (ptOf (Tok.endAt t.at')) := end_pt _
  simp only [parseS, h] at hp
  cases hq : programP (ts.map ptOf) with
  | err p c => rw [hq] at hp; simp at hp
  | ok a l =>
    have hsplit : ts.map ptOf = (ts.take k).map ptOf ++ (ts.drop k).map ptOf := by rw [← List.map_append, List.take_append_drop]
    rw [hsplit] at hq
    rcases program_cut hend hq with h1 | ⟨b, l2, h1⟩
    · left
      simp only [parseS, hc, List.map_append, List.map_cons, List.map_nil, h1]
      rfl
    · right
      exact ⟨flat 0 b, by simp only [parseS, hc, List.map_append, List.map_cons, List.map_nil, h1]⟩
end Go.Proofs.YtpemghcafbedeaaGreatDoor
end
section
namespace Go.Proofs.YtpemghcafbedeaaGreatDoor
open Go.RowKit
/-! The reference's parser, plainly: trees that are written from their roots on. -/
theorem heads_append (o : Nat) (x y : List Ast) : heads o (x ++ y) = heads o x ++ heads (o + sizeL x) y := by
  induction x generalizing o with
  | nil => simp [heads, sizeL]
  | cons a r ih => simp only [List.cons_append, heads, ih, sizeL, Nat.add_assoc]
def openN (p : List Nd) (k : Int) (a : Nat) (t : ByteArray) (n : Int) (ks : List Ast) : List Nd := p ++ ⟨k, a, t, n, heads (p.length + 1) ks⟩ :: flatL (p.length + 1) ks
theorem open_len (p : List Nd) (k : Int) (a : Nat) (t : ByteArray) (n : Int) (ks : List Ast) : (openN p k a t n ks).length = p.length + 1 + sizeL ks := by
  simp only [openN, List.length_append, List.length_cons, flatL_length]; omega
theorem open_nil (p : List Nd) (k : Int) (a : Nat) (t : ByteArray) (n : Int) : openN p k a t n [] = p ++ [⟨k, a, t, n, []⟩] := by simp [openN, heads, flatL]
theorem open_done (p : List Nd) (k : Int) (a : Nat) (t : ByteArray) (n : Int) (ks : List Ast) : openN p k a t n ks = p ++ flat p.length (.mk k a t n ks) := by simp only [openN, flat]
def kidN (p : List Nd) (k : Int) (a : Nat) (t : ByteArray) (n : Int) (ks : List Ast) : List Nd := p ++ ⟨k, a, t, n, heads (p.length + 1) ks ++ [((p.length + 1 + sizeL ks : Nat) : Int)]⟩ :: flatL (p.length + 1) ks
theorem kid_len (p : List Nd) (k : Int) (a : Nat) (t : ByteArray) (n : Int) (ks : List Ast) : (kidN p k a t n ks).length = p.length + 1 + sizeL ks := by
  simp only [kidN, List.length_append, List.length_cons, flatL_length]; omega
theorem open_kid (p : List Nd) (k : Int) (a : Nat) (t : ByteArray) (n : Int) (ks : List Ast) (x : Ast) : kidN p k a t n ks ++ flat (kidN p k a t n ks).length x = openN p k a t n (ks ++ [x]) := by
  rw [kid_len]
  simp only [kidN, openN, heads_append, flatL_append, heads, flatL, List.append_nil, List.append_assoc, List.cons_append]
theorem open_get (p : List Nd) (k : Int) (a : Nat) (t : ByteArray) (n : Int) (ks : List Ast) : (openN p k a t n ks).getD p.length default = ⟨k, a, t, n, heads (p.length + 1) ks⟩ := by
  simp [openN, List.getD]
theorem open_set (p : List Nd) (k : Int) (a : Nat) (t : ByteArray) (n : Int) (ks : List Ast) (k2 : Int) (t2 : ByteArray) (n2 : Int) : (openN p k a t n ks).set p.length ⟨k2, a, t2, n2, heads (p.length + 1) ks⟩ = openN p k2 a t2 n2 ks := by
  simp [openN]
theorem open_kid_set (p : List Nd) (k : Int) (a : Nat) (t : ByteArray) (n : Int) (ks : List Ast) : (openN p k a t n ks).set p.length ⟨k, a, t, n, heads (p.length + 1) ks ++ [((p.length + 1 + sizeL ks : Nat) : Int)]⟩ = kidN p k a t n ks := by
  simp [openN, kidN]
/-! What a token's text is, by its kind. -/
structure TokOk (t : Tok) : Prop where
  kinds : t.kind = 1 ∨ t.kind = 2 ∨ t.kind = 3 ∨ t.kind = 4
  one : t.kind = 1 → ∃ c r, t.text = c :: r ∧ isLetter c = true
  two : t.kind = 2 → ∃ c r, t.text = c :: r ∧ isDigit c = true
  three : t.kind = 3 → ∃ c r, t.text = c :: r ∧ isMark c = true
  four : t.kind = 4 → t.text = []
  n0 : t.kind ≠ 2 → t.n = 0
theorem end_ok (p : Nat) : TokOk (Tok.endAt p) := ⟨by simp [Tok.endAt], by simp [Tok.endAt], by simp [Tok.endAt], by simp [Tok.endAt], fun _ => rfl, fun _ => rfl⟩
theorem run_pos {p : Int → Bool} {c : Int} {r : List Int} (h : p c = true) : run p (c :: r) = run p r + 1 := by simp [run, h]
theorem step_ok {c : Int} {r : List Int} {k n : Int} {len a b : Nat} (h : step (c :: r) = .tok k len n) : TokOk ⟨k, a, b, (c :: r).take len, n⟩ := by
  simp only [step] at h
  split at h
  · rename_i hc
    simp only [Step.tok.injEq] at h
    obtain ⟨rfl, rfl, rfl⟩ := h
    rw [run_pos (show isNameB c = true by simp [isNameB, hc])]
    exact ⟨Or.inl rfl, fun _ => ⟨c, _, rfl, hc⟩, by simp, by simp, by simp, fun _ => rfl⟩
  · split at h
    · rename_i hc
      split at h
      · simp only [Step.tok.injEq] at h
        obtain ⟨rfl, rfl, rfl⟩ := h
        rw [run_pos hc]
        exact ⟨Or.inr (Or.inl rfl), by simp, fun _ => ⟨c, _, rfl, hc⟩, by simp, by simp, by simp⟩
      · simp at h
    · split at h
      · rename_i hc
        simp only [Step.tok.injEq] at h
        obtain ⟨rfl, rfl, rfl⟩ := h
        refine ⟨Or.inr (Or.inr (Or.inl rfl)), by simp, by simp, fun _ => ?_, by simp, fun _ => rfl⟩
        split
        · exact ⟨c, _, rfl, hc⟩
        · exact ⟨c, _, rfl, hc⟩
      · simp at h
theorem lexN_oks (f p : Nat) (l : List Int) (ts : List Tok) (h : lexN f p l = .ok ts) : ∀ t ∈ ts, TokOk t := by
  induction f generalizing p l ts with
  | zero =>
    simp only [lexN, Except.ok.injEq] at h
    subst h
    intro t ht
    rw [List.mem_singleton.1 ht]
    exact end_ok p
  | succ f ih =>
    simp only [lexN] at h
    split at h
    · simp only [Except.ok.injEq] at h
      subst h
      intro t ht
      rw [List.mem_singleton.1 ht]
      exact end_ok _
    · rename_i c r hd
      split at h
      · simp at h
      · rename_i k len n hs
        cases hu : lexN f (p + blk false l + len) ((c :: r).drop len) with
        | error e => rw [hu] at h; simp [pre] at h
        | ok us =>
          rw [hu] at h
          simp only [pre, Except.ok.injEq, List.singleton_append] at h
          subst h
          intro t ht
          rcases List.mem_cons.1 ht with rfl | ht
          · exact step_ok hs
          · exact ih _ _ us hu t ht
structure PtOk (t : PT) : Prop where
  kinds : t.kind = 1 ∨ t.kind = 2 ∨ t.kind = 3 ∨ t.kind = 4
  one : t.kind = 1 → ∃ c r, t.txt = strOfNums (c :: r) ∧ isLetter c = true
  two : t.kind = 2 → ∃ c r, t.txt = strOfNums (c :: r) ∧ isDigit c = true
  three : t.kind = 3 → ∃ c r, t.txt = strOfNums (c :: r) ∧ isMark c = true
  four : t.kind = 4 → t.txt = none0
theorem pt_ok {t : Tok} (h : TokOk t) : PtOk (ptOf t) := by
  refine ⟨h.kinds, fun hk => ?_, fun hk => ?_, fun hk => ?_, fun hk => ?_⟩
  · obtain ⟨c, r, e, hc⟩ := h.one hk; exact ⟨c, r, by simp only [ptOf, e], hc⟩
  · obtain ⟨c, r, e, hc⟩ := h.two hk; exact ⟨c, r, by simp only [ptOf, e], hc⟩
  · obtain ⟨c, r, e, hc⟩ := h.three hk; exact ⟨c, r, by simp only [ptOf, e], hc⟩
  · simp only [ptOf, h.four hk, strOfNums]; rfl
def head0 (s : ByteArray) : Nat := s.data.toList.head?.elim 0 UInt8.toNat
theorem head0_str (c : Int) (r : List Int) (hc : 0 ≤ c ∧ c < 256) : head0 (strOfNums (c :: r)) = c.toNat := by
  simp only [head0, strOfNums_data, List.map_cons, List.head?_cons, Option.elim]
  simp
  omega
theorem pt_no2 {t : PT} (h : PtOk t) (s : ByteArray) (hs : ¬ (48 ≤ head0 s ∧ head0 s ≤ 57)) (he : t.txt = s) : t.kind ≠ 2 := fun hk => by
  obtain ⟨c, r, e, hc⟩ := h.two hk
  simp only [isDigit, Bool.and_eq_true, decide_eq_true_eq] at hc
  rw [← he, e, head0_str c r (by omega)] at hs
  omega
theorem pt_no4 {t : PT} (h : PtOk t) (s : ByteArray) (hs : s ≠ none0) (he : t.txt = s) : t.kind ≠ 4 := fun hk => hs (by rw [← he, h.four hk])
theorem pt_word {t : PT} (h : PtOk t) (s : ByteArray) (hs : 97 ≤ head0 s ∧ head0 s ≤ 122) (hn : s ≠ none0) (he : t.txt = s) : t.kind = 1 := by
  rcases h.kinds with hk | hk | hk | hk
  · exact hk
  · exact absurd hk (pt_no2 h s (by omega) he)
  · obtain ⟨c, r, e, hc⟩ := h.three hk
    have hb : (0 ≤ c ∧ c < 256) ∧ ¬ (97 ≤ c ∧ c ≤ 122) := by
      simp only [isMark, List.contains_eq_mem, List.mem_cons, List.not_mem_nil, or_false, decide_eq_true_eq] at hc
      omega
    rw [← he, e, head0_str c r hb.1] at hs
    omega
  · exact absurd hk (pt_no4 h s hn he)
end Go.Proofs.YtpemghcafbedeaaGreatDoor
end
section
namespace Go.Proofs.YtpemghcafbedeaaGreatDoor.Rf
open Go.RowKit
structure RS (E : Env) (v : Value) (kvs : List Value) (md : List Nd) (i : Nat) (d e : Int) (w : World) : Prop where
  below : Below E.b E.W w
  lt : E.b < w.heap.size
  gl : E.g < E.b
  cap : E.toks.length ≤ E.cap
  tok : ∀ j k u, j < E.toks.length → (tokC5 (E.toks.getD j (Tok.endAt 0)))[k]? = some u → w.cell? ⟨E.g, j * 5 + k, none⟩ = some u
  oks : ∀ t ∈ E.toks, TokOk t
  last : ∀ j, j < E.toks.length → (E.toks.getD j (Tok.endAt 0)).kind ≠ 4 → j + 1 < E.toks.length
  row : w.heap[E.b]? = some (.cells #[.slice (some ⟨E.g, 0, none⟩) E.toks.length E.cap, .int .i64 (i : Int), .int .i64 d, v, .int .i64 e] 81 (0, 0))
  it : i < E.toks.length
  few : E.toks.length ≤ 70000
  dd : 0 ≤ d ∧ d ≤ 65
  klen : kvs.length = md.length
  own : w.ownsRow (E.b + 1) 92 5 v md.length (cellsM md kvs)
  kids : ∀ j, j < md.length → own1 (E.b + 1) w (kvs.getD j default) (md.getD j default).kids
  apart : ∀ x ∈ kvs, ∀ k, x.ownBlock = some k → v.ownBlock ≠ some k
  pair : kvs.Pairwise fun x y => ∀ k, x.ownBlock = some k → y.ownBlock ≠ some k
def RT (E : Env) (i : Nat) : PT := ptOf (E.toks.getD i (Tok.endAt 0))
section
variable {E : Env} {v : Value} {kvs : List Value} {md : List Nd} {i : Nat} {d e : Int} {w : World}
theorem RS.vlt (h : RS E v kvs md i d e w) : ∀ k, v.ownBlock = some k → E.b < k ∧ k < w.heap.size := fun k hk => by
  have := h.own.lt k hk
  omega
theorem RS.klt (h : RS E v kvs md i d e w) : ∀ x ∈ kvs, ∀ k, x.ownBlock = some k → E.b < k ∧ k < w.heap.size := fun x hx k hk => by
  obtain ⟨j, hj, rfl⟩ := List.getElem_of_mem hx
  have h1 := (h.kids j (by rw [← h.klen]; exact hj)).lt k (by simpa [List.getD, hj] using hk)
  omega
theorem RS.grown {w' : World} {row : Option Nat} (h : RS E v kvs md i d e w) (hg : w.grownBy w' row) (hr : ∀ q, row = some q → Loc E v kvs q) : RS E v kvs md i d e w' where
  below := h.below.grown hg (Nat.le_of_lt h.lt) (fun k e => Nat.le_of_lt (hr k e).lt)
  lt := Nat.lt_of_lt_of_le h.lt hg.size
  gl := h.gl
  cap := h.cap
  tok := fun j k u hj hi => by
    have := h.tok j k u hj hi
    have hl := h.lt
    have hgl := h.gl
    rw [World.cell?_of_block (w := w) (a := ⟨E.g, j * 5 + k, none⟩) (hg.block E.g (by omega) (fun e => by have := (hr _ e.symm).lt; omega))]
    exact this
  oks := h.oks
  last := h.last
  row := by rw [hg.block E.b h.lt (fun e => by have := (hr _ e.symm).lt; omega)]; exact h.row
  it := h.it
  few := h.few
  dd := h.dd
  klen := h.klen
  own := h.own.kept hg (by
    cases hv : v.ownBlock with
    | none => exact Or.inl rfl
    | some k => exact Or.inr (fun e => by have := (hr k e.symm).v; rw [hv] at this; exact this rfl))
  kids := fun j hj => (h.kids j hj).kept hg (by
    cases hv : (kvs.getD j default).ownBlock with
    | none => exact Or.inl rfl
    | some k =>
      refine Or.inr (fun e => ?_)
      have hj' : j < kvs.length := by rw [h.klen]; exact hj
      have := (hr k e.symm).ks (kvs.getD j default) (by simp [List.getD, hj'])
      rw [hv] at this; exact this rfl)
  apart := h.apart
  pair := h.pair
theorem RS.alloc (h : RS E v kvs md i d e w) (o : Obj) : RS E v kvs md i d e (w.alloc o) := h.grown (World.grownBy_alloc w o none) (fun _ e => by cases e)
theorem RS.set (h : RS E v kvs md i d e w) {a : Addr} (ha : Loc E v kvs a.block) (u : Value) : RS E v kvs md i d e (w.setCell a u) := h.grown (grownBy_set w a u) (fun q e => by cases e; exact ha)
theorem RS.drewN (h : RS E v kvs md i d e w) (n : Nat) : RS E v kvs md i d e (w.drewN n) := h.grown (grownBy_drewN w n) (fun _ e => by cases e)
theorem RS.field (h : RS E v kvs md i d e w) (j : Nat) (u : Value) {i' : Nat} {d' e' : Int} (hi : i' < E.toks.length) (hd : 0 ≤ d' ∧ d' ≤ 65)
    (hr : (#[.slice (some ⟨E.g, 0, none⟩) E.toks.length E.cap, .int .i64 (i : Int), .int .i64 d, v, .int .i64 e] : Array Value).setIfInBounds j u = #[.slice (some ⟨E.g, 0, none⟩) E.toks.length E.cap, .int .i64 (i' : Int), .int .i64 d', v, .int .i64 e']) :
    RS E v kvs md i' d' e' (w.setCell ⟨E.b, j, none⟩ u) where
  below := h.below.setCell (p := ⟨E.b, j, none⟩) (Nat.le_refl _) _
  lt := by simpa [World.setCell] using h.lt
  gl := h.gl
  cap := h.cap
  tok := fun j' k u hj hk => by
    have := h.gl
    rw [World.cell?_of_block (w := w) (a := ⟨E.g, j' * 5 + k, none⟩) (Below.heap_setCell _ _ _ _ (show E.g ≠ E.b by omega))]
    exact h.tok j' k u hj hk
  oks := h.oks
  last := h.last
  row := by rw [heap_set _ _ _ _ _ _ h.row, hr]
  it := hi
  few := h.few
  dd := hd
  klen := h.klen
  own := h.own.kept (grownBy_set w _ _) (by
    cases hv : v.ownBlock with
    | none => exact Or.inl rfl
    | some k => exact Or.inr (fun e => by have := h.vlt k hv; have e := Option.some.inj e; simp only at e; omega))
  kids := fun j hj => (h.kids j hj).grown (grownBy_set w _ _) (by
    cases hv : (kvs.getD j default).ownBlock with
    | none => exact Or.inl rfl
    | some k => exact Or.inr (fun e => by have := (h.kids j hj).lt k hv; have e := Option.some.inj e; simp only at e; omega))
  apart := h.apart
  pair := h.pair
theorem RS.rowCells (h : RS E v kvs md i d e w) : w.cell? ⟨E.b, 0, none⟩ = some (.slice (some ⟨E.g, 0, none⟩) E.toks.length E.cap) ∧ w.cell? ⟨E.b, 1, none⟩ = some (.int .i64 (i : Int)) ∧ w.cell? ⟨E.b, 2, none⟩ = some (.int .i64 d) ∧ w.cell? ⟨E.b, 3, none⟩ = some v ∧ w.cell? ⟨E.b, 4, none⟩ = some (.int .i64 e) :=
  ⟨by rw [cell_of_row _ _ _ _ _ _ h.row]; rfl, by rw [cell_of_row _ _ _ _ _ _ h.row]; rfl, by rw [cell_of_row _ _ _ _ _ _ h.row]; rfl, by rw [cell_of_row _ _ _ _ _ _ h.row]; rfl, by rw [cell_of_row _ _ _ _ _ _ h.row]; rfl⟩
theorem RS.fz (h : RS E v kvs md i d e w) (j : Nat) : w.frozen? ⟨E.b, j, none⟩ = false := frozen_of_row _ _ _ _ _ h.row
theorem RS.tokCells (h : RS E v kvs md i d e w) : w.cell? ⟨E.g, i * 5, none⟩ = some (.int .u8 (RT E i).kind) ∧ w.cell? ⟨E.g, i * 5 + 1, none⟩ = some (.int .i64 ((RT E i).at' : Int)) ∧ w.cell? ⟨E.g, i * 5 + 3, none⟩ = some (.string (RT E i).txt) ∧ w.cell? ⟨E.g, i * 5 + 4, none⟩ = some (.int .i64 (RT E i).n) :=
  ⟨h.tok i 0 _ h.it rfl, h.tok i 1 _ h.it rfl, h.tok i 3 _ h.it rfl, h.tok i 4 _ h.it rfl⟩
theorem RS.ptOk (h : RS E v kvs md i d e w) : PtOk (RT E i) := pt_ok (h.oks _ (by
  have := h.it
  simp [List.getD, this]))
theorem RS.drop (h : RS E v kvs md i d e w) : E.pts.drop i = RT E i :: E.pts.drop (i + 1) := by
  have hi : i < E.pts.length := by simpa [Env.pts] using h.it
  rw [List.drop_eq_getElem_cons hi]
  congr 1
  have := h.it
  simp [RT, Env.pts, List.getD, this]
set_option maxRecDepth 1000000 in
set_option maxHeartbeats 1000000 in
theorem text_at (h : RS E v kvs md i d e w) : Calls Tryz.prog 95 #[.pointer (some ⟨E.b, 0, none⟩)] w fun x w' => x = .returned (.string (RT E i).txt) ∧ ∃ m, w' = w.drewN m := by
  obtain ⟨c0, c1, _, _, _⟩ := h.rowCells
  obtain ⟨_, _, k3, _⟩ := h.tokCells
  have b0 : (0 : Int) ≤ (i : Int) := by omega
  have b1 : (i : Int) < (E.toks.length : Int) := by have := h.it; omega
  have hcap := h.cap
  generalize (RT E i).txt = tx at *
  clear h
  go_enter Tryz.func95, Tryz.ntmps95
  go_wp2_with fail
  go_quiet (fail)
  go_wp2
  go_ret
  exact ⟨rfl, nq, rfl⟩
set_option maxRecDepth 1000000 in
set_option maxHeartbeats 1000000 in
theorem is_err (h : RS E v kvs md i d e w) (he : e ≠ 0) (s : ByteArray) : Calls Tryz.prog 42 #[.pointer (some ⟨E.b, 0, none⟩), .string s] w fun x w' => x = .returned (.bool false) ∧ ∃ m, w' = w.drewN m := by
  obtain ⟨_, _, _, _, c4⟩ := h.rowCells
  have hb : (e == 0) = false := by simpa using he
  clear h
  go_enter Tryz.func42, Tryz.ntmps42
  go_wp2_with fail
  go_quiet (fail)
  go_wp2
  go_ret
  exact ⟨rfl, nq, rfl⟩
set_option maxRecDepth 1000000 in
set_option maxHeartbeats 4000000 in
theorem is_at (h : RS E v kvs md i d 0 w) (s : ByteArray) (hs : ¬ (48 ≤ head0 s ∧ head0 s ≤ 57)) (hn : s ≠ none0) : Calls Tryz.prog 42 #[.pointer (some ⟨E.b, 0, none⟩), .string s] w fun x w' => x = .returned (.bool (decide ((RT E i).txt = s))) ∧ ∃ m, w' = w.drewN m := by
  obtain ⟨c0, c1, _, _, c4⟩ := h.rowCells
  obtain ⟨k0, _, k3, _⟩ := h.tokCells
  have b0 : (0 : Int) ≤ (i : Int) := by omega
  have b1 : (i : Int) < (E.toks.length : Int) := by have := h.it; omega
  have hcap := h.cap
  have H2 := Lib.hid (fun he => pt_no2 h.ptOk s hs he)
  have H4 := Lib.hid (fun he => pt_no4 h.ptOk s hn he)
  have HT := Lib.hid (fun n => text_at (h.drewN n))
  generalize (RT E i).txt = tx at *
  generalize (RT E i).kind = kd at *
  have HB := Lib.hid (beq_str tx s)
  clear h hs hn
  by_cases h4 : kd = 4
  · have hk4 : (kd != 4) = false := by simp [h4]
    have HF : Hid (decide (tx = s) = false) := Lib.hid (decide_eq_false fun he => H4.out he h4)
    clear h4
    go_enter Tryz.func42, Tryz.ntmps42
    go_wp2_with fail
    go_quiet (fail)
    go_wp2
    go_ret
    exact ⟨by rw [HF.out]; rfl, nq, rfl⟩
  · have hk4 : (kd != 4) = true := by simpa using h4
    clear h4
    by_cases h2 : kd = 2
    · have hk2 : (kd != 2) = false := by simp [h2]
      have HF : Hid (decide (tx = s) = false) := Lib.hid (decide_eq_false fun he => H2.out he h2)
      clear h2
      go_enter Tryz.func42, Tryz.ntmps42
      go_wp2_with fail
      go_quiet (fail)
      go_wp2
      go_ret
      exact ⟨by rw [HF.out]; rfl, nq, rfl⟩
    · have hk2 : (kd != 2) = true := by simpa using h2
      clear h2
      go_enter Tryz.func42, Tryz.ntmps42
      go_wp2_with fail
      go_quiet (first | (go_at_call 95; refine Calls.quiet_of (HT.out _)))
      go_wp2
      rw [HB.out]
      go_ret
      exact ⟨rfl, nq, rfl⟩
structure Kp (E : Env) (v : Value) (kvs : List Value) (md : List Nd) (i : Nat) (d e : Int) (w w' : World) : Prop where
  rs : RS E v kvs md i d e w'
  fr : Fr E w.heap.size v v w w'
theorem RS.keep (h : RS E v kvs md i d e w) : Kp E v kvs md i d e w w := ⟨h, Fr.refl _ _ _ _⟩
theorem Kp.drewN {w0 : World} (h : Kp E v kvs md i d e w0 w) (n : Nat) : Kp E v kvs md i d e w0 (w.drewN n) := ⟨h.rs.drewN n, h.fr.drewN n⟩
theorem Kp.field {w0 : World} (h : Kp E v kvs md i d e w0 w) (j : Nat) (u : Value) {i' : Nat} {d' e' : Int} (hi : i' < E.toks.length) (hd : 0 ≤ d' ∧ d' ≤ 65)
    (hr : (#[.slice (some ⟨E.g, 0, none⟩) E.toks.length E.cap, .int .i64 (i : Int), .int .i64 d, v, .int .i64 e] : Array Value).setIfInBounds j u = #[.slice (some ⟨E.g, 0, none⟩) E.toks.length E.cap, .int .i64 (i' : Int), .int .i64 d', v, .int .i64 e']) :
    Kp E v kvs md i' d' e' w0 (w.setCell ⟨E.b, j, none⟩ u) := ⟨h.rs.field j u hi hd hr, h.fr.setB j u⟩
set_option maxRecDepth 1000000 in
set_option maxHeartbeats 1000000 in
theorem fail_at (h : RS E v kvs md i d 0 w) (c : Int) : Calls Tryz.prog 45 #[.pointer (some ⟨E.b, 0, none⟩), .int .i64 c] w fun x w' => x = .returned (.tuple #[]) ∧ Kp E v kvs md i d c w w' := by
  obtain ⟨_, _, _, _, c4⟩ := h.rowCells
  have z := h.fz
  have HS := Lib.hid h
  clear h
  go_enter Tryz.func45, Tryz.ntmps45
  go_wp2_with fail
  simp [bodyPost, results, Tryz.results45, go_sem]
  exact HS.out.keep.field 4 _ HS.out.it HS.out.dd rfl
set_option maxRecDepth 1000000 in
set_option maxHeartbeats 1000000 in
theorem fail_err (h : RS E v kvs md i d e w) (he : e ≠ 0) (c : Int) : Calls Tryz.prog 45 #[.pointer (some ⟨E.b, 0, none⟩), .int .i64 c] w fun x w' => x = .returned (.tuple #[]) ∧ Kp E v kvs md i d e w w' := by
  obtain ⟨_, _, _, _, c4⟩ := h.rowCells
  have hb : (e == 0) = false := by simpa using he
  have HS := Lib.hid h
  clear h
  go_enter Tryz.func45, Tryz.ntmps45
  go_wp2_with fail
  simp [bodyPost, results, Tryz.results45, go_sem]
  exact HS.out.keep
set_option maxRecDepth 1000000 in
set_option maxHeartbeats 1000000 in
theorem take_err (h : RS E v kvs md i d e w) (he : e ≠ 0) (s : ByteArray) : Calls Tryz.prog 98 #[.pointer (some ⟨E.b, 0, none⟩), .string s] w fun x w' => x = .returned (.tuple #[]) ∧ Kp E v kvs md i d e w w' := by
  have IS := Lib.hid (is_err h he s)
  have HS := Lib.hid h
  have HE := Lib.hid he
  clear h he
  go_enter Tryz.func98, Tryz.ntmps98
  go_wp2_with fail
  (with_reducible refine IS.out.mono ?_)
  rintro x w1 ⟨rfl, m, rfl⟩
  have FL := Lib.hid (fail_err (HS.out.drewN m) HE.out 50)
  clear IS
  go_wp2_with fail
  (with_reducible refine FL.out.mono ?_)
  rintro x w2 ⟨rfl, hk⟩
  have HK := Lib.hid hk
  clear hk FL
  go_wp2
  simp [bodyPost, results, Tryz.results98, go_sem]
  exact ⟨HK.out.rs, ((Fr.refl E w.heap.size v w).drewN m).trans HK.out.fr⟩
set_option maxRecDepth 1000000 in
set_option maxHeartbeats 1000000 in
theorem take_no (h : RS E v kvs md i d 0 w) (s : ByteArray) (hs : ¬ (48 ≤ head0 s ∧ head0 s ≤ 57)) (hn : s ≠ none0) (ht : ¬ (RT E i).txt = s) : Calls Tryz.prog 98 #[.pointer (some ⟨E.b, 0, none⟩), .string s] w fun x w' => x = .returned (.tuple #[]) ∧ Kp E v kvs md i d 50 w w' := by
  have IS := Lib.hid (is_at h s hs hn)
  have HS := Lib.hid h
  rw [decide_eq_false ht] at IS
  clear h hs hn ht
  go_enter Tryz.func98, Tryz.ntmps98
  go_wp2_with fail
  (with_reducible refine IS.out.mono ?_)
  rintro x w1 ⟨rfl, m, rfl⟩
  have FL := Lib.hid (fail_at (HS.out.drewN m) 50)
  clear IS
  go_wp2_with fail
  (with_reducible refine FL.out.mono ?_)
  rintro x w2 ⟨rfl, hk⟩
  have HK := Lib.hid hk
  clear hk FL
  go_wp2
  simp [bodyPost, results, Tryz.results98, go_sem]
  exact ⟨HK.out.rs, ((Fr.refl E w.heap.size v w).drewN m).trans HK.out.fr⟩
set_option maxRecDepth 1000000 in
set_option maxHeartbeats 1000000 in
theorem take_yes (h : RS E v kvs md i d 0 w) (s : ByteArray) (hs : ¬ (48 ≤ head0 s ∧ head0 s ≤ 57)) (hn : s ≠ none0) (ht : (RT E i).txt = s) : Calls Tryz.prog 98 #[.pointer (some ⟨E.b, 0, none⟩), .string s] w fun x w' => x = .returned (.tuple #[]) ∧ Kp E v kvs md (i + 1) d 0 w w' := by
  have IS := Lib.hid (is_at h s hs hn)
  have HS := Lib.hid h
  have HL := Lib.hid (h.last i h.it (pt_no4 h.ptOk s hn ht))
  rw [decide_eq_true ht] at IS
  clear h hs hn ht
  go_enter Tryz.func98, Tryz.ntmps98
  go_wp2_with fail
  (with_reducible refine IS.out.mono ?_)
  rintro x w1 ⟨rfl, m, rfl⟩
  have HD := Lib.hid (HS.out.drewN m)
  obtain ⟨_, c1, _, _, _⟩ := HD.out.rowCells
  have z := HD.out.fz
  have h63 : (i : Int) + 1 ≤ 9223372036854775807 := by have := HS.out.it; have := HS.out.few; omega
  clear IS
  go_wp2_with fail
  simp [bodyPost, results, Tryz.results98, go_sem]
  exact (HS.out.keep.drewN m).field 1 _ HL.out HS.out.dd (by simp)
end
end Go.Proofs.YtpemghcafbedeaaGreatDoor.Rf
end
section
namespace Go.Proofs.YtpemghcafbedeaaGreatDoor.Rf
open Go.RowKit
section
variable {E : Env} {v : Value} {kvs : List Value} {md : List Nd} {i : Nat} {d e : Int} {w : World}
theorem Kp.trans {i2 i3 : Nat} {d2 d3 e2 e3 : Int} {w2 w3 : World} (h : Kp E v kvs md i2 d2 e2 w w2) (h' : Kp E v kvs md i3 d3 e3 w2 w3) : Kp E v kvs md i3 d3 e3 w w3 := ⟨h'.rs, h.fr.trans (h'.fr.mono h.fr.size)⟩
set_option maxRecDepth 1000000 in
set_option maxHeartbeats 1000000 in
theorem name_err (h : RS E v kvs md i d e w) (he : e ≠ 0) : Calls Tryz.prog 97 #[.pointer (some ⟨E.b, 0, none⟩)] w fun x w' => x = .returned (.string ⟨#[]⟩) ∧ Kp E v kvs md i d e w w' := by
  obtain ⟨_, _, _, _, c4⟩ := h.rowCells
  have hb : (e != 0) = true := by simpa using he
  have HS := Lib.hid h
  have HE := Lib.hid he
  clear h he
  go_enter Tryz.func97, Tryz.ntmps97
  go_wp2_with fail
  go_quiet (fail)
  have FL := Lib.hid (fail_err (HS.out.drewN nq) HE.out 50)
  go_wp2_with fail
  (with_reducible refine FL.out.mono ?_)
  rintro x w2 ⟨rfl, hk⟩
  have HK := Lib.hid hk
  clear hk FL
  go_wp2
  go_ret
  exact ⟨rfl, (HS.out.keep.drewN nq).trans HK.out⟩
set_option maxRecDepth 1000000 in
set_option maxHeartbeats 1000000 in
theorem name_no (h : RS E v kvs md i d 0 w) (ht : (RT E i).kind ≠ 1) : Calls Tryz.prog 97 #[.pointer (some ⟨E.b, 0, none⟩)] w fun x w' => x = .returned (.string ⟨#[]⟩) ∧ Kp E v kvs md i d 50 w w' := by
  obtain ⟨c0, c1, _, _, c4⟩ := h.rowCells
  obtain ⟨k0, _, _, _⟩ := h.tokCells
  have b0 : (0 : Int) ≤ (i : Int) := by omega
  have b1 : (i : Int) < (E.toks.length : Int) := by have := h.it; omega
  have hcap := h.cap
  have hb : ((RT E i).kind != 1) = true := by simpa using ht
  generalize (RT E i).kind = kd at *
  have HS := Lib.hid h
  clear h ht
  go_enter Tryz.func97, Tryz.ntmps97
  go_wp2_with fail
  go_quiet (fail)
  have FL := Lib.hid (fail_at (HS.out.drewN nq) 50)
  go_wp2_with fail
  (with_reducible refine FL.out.mono ?_)
  rintro x w2 ⟨rfl, hk⟩
  have HK := Lib.hid hk
  clear hk FL
  go_wp2
  go_ret
  exact ⟨rfl, (HS.out.keep.drewN nq).trans HK.out⟩
set_option maxRecDepth 1000000 in
set_option maxHeartbeats 1000000 in
theorem name_yes (h : RS E v kvs md i d 0 w) (ht : (RT E i).kind = 1) : Calls Tryz.prog 97 #[.pointer (some ⟨E.b, 0, none⟩)] w fun x w' => x = .returned (.string (RT E i).txt) ∧ Kp E v kvs md (i + 1) d 0 w w' := by
  obtain ⟨c0, c1, _, _, c4⟩ := h.rowCells
  obtain ⟨k0, _, k3, _⟩ := h.tokCells
  have b0 : (0 : Int) ≤ (i : Int) := by omega
  have b1 : (i : Int) < (E.toks.length : Int) := by have := h.it; omega
  have hcap := h.cap
  have HL := Lib.hid (h.last i h.it (show (RT E i).kind ≠ 4 by rw [ht]; decide))
  have hb : ((RT E i).kind != 1) = false := by simp [ht]
  have z := h.fz
  have hgl := h.gl
  have hlt := h.lt
  have hgb : E.g ≠ E.b := by omega
  have hbg : E.b ≠ E.g := by omega
  have h63 : (i : Int) + 1 ≤ 9223372036854775807 := by have := h.it; have := h.few; omega
  generalize (RT E i).kind = kd at *
  generalize (RT E i).txt = tx at *
  have HS := Lib.hid h
  clear h ht
  go_enter Tryz.func97, Tryz.ntmps97
  go_wp2_with fail
  go_quiet (fail)
  have HD := Lib.hid (HS.out.drewN nq)
  obtain ⟨d0, d1, _, _, d4⟩ := HD.out.rowCells
  have zd := HD.out.fz
  have HK := Lib.hid (HD.out.keep.field 1 (.int .i64 ((i : Int) + 1)) (i' := i + 1) (d' := d) (e' := 0) HL.out HS.out.dd (by simp))
  obtain ⟨f0, f1, _, _, f4⟩ := HK.out.rs.rowCells
  have k3' : ((w.drewN nq).setCell ⟨E.b, 1, none⟩ (.int .i64 ((i : Int) + 1))).cell? ⟨E.g, i * 5 + 3, none⟩ = some (.string tx) := by
    rw [World.cell?_of_block (w := w.drewN nq) (a := ⟨E.g, i * 5 + 3, none⟩) (Below.heap_setCell _ _ _ _ hgb)]
    exact k3
  have hsub : ((i : Int) + 1 - 1) = (i : Int) := by omega
  clear k0 k3 c0 c1 c4
  go_wp2_with fail
  go_quiet (fail)
  go_wp2
  go_ret
  exact ⟨rfl, (HS.out.keep.drewN _).trans (HK.out.drewN _)⟩
set_option maxRecDepth 1000000 in
set_option maxHeartbeats 1000000 in
theorem in_deep (h : RS E v kvs md i 64 0 w) : Calls Tryz.prog 145 #[.pointer (some ⟨E.b, 0, none⟩)] w fun x w' => x = .returned (.bool false) ∧ Kp E v kvs md i 65 51 w w' := by
  obtain ⟨_, _, c2, _, c4⟩ := h.rowCells
  have FL := Lib.hid (fail_at h 51)
  clear h
  go_enter Tryz.func145, Tryz.ntmps145
  go_wp2_with fail
  (with_reducible refine FL.out.mono ?_)
  rintro x w2 ⟨rfl, hk⟩
  have HK2 := Lib.hid hk
  obtain ⟨_, _, c2, _, c4⟩ := hk.rs.rowCells
  have z := hk.rs.fz
  have HK := Lib.hid (hk.rs.keep.field 2 (.int .i64 65) (d' := 65) hk.rs.it (by omega) rfl)
  obtain ⟨_, _, _, _, f4⟩ := HK.out.rs.rowCells
  clear hk FL
  go_wp2_with fail
  go_ret
  exact ⟨rfl, HK2.out.trans HK.out⟩
set_option maxRecDepth 1000000 in
set_option maxHeartbeats 1000000 in
theorem in_ok (h : RS E v kvs md i d 0 w) (hd : d < 64) : Calls Tryz.prog 145 #[.pointer (some ⟨E.b, 0, none⟩)] w fun x w' => x = .returned (.bool true) ∧ Kp E v kvs md i (d + 1) 0 w w' := by
  obtain ⟨_, _, c2, _, c4⟩ := h.rowCells
  have z := h.fz
  have hdd := h.dd
  have HK := Lib.hid (h.keep.field 2 (.int .i64 (d + 1)) (d' := d + 1) h.it (by omega) rfl)
  obtain ⟨_, _, _, _, f4⟩ := HK.out.rs.rowCells
  have hn : decide (64 ≤ d) = false := decide_eq_false (by omega)
  have h63 : d + 1 ≤ 9223372036854775807 := by omega
  have h64 : -9223372036854775808 ≤ d + 1 := by omega
  have hw : IntKind.i64.wrap (d + 1) = d + 1 := IntWalk.i64_in _ (by omega)
  clear h
  go_enter Tryz.func145, Tryz.ntmps145
  go_wp2_with fail
  go_ret
  exact ⟨rfl, HK.out⟩
end
end Go.Proofs.YtpemghcafbedeaaGreatDoor.Rf
end
section
namespace Go.Proofs.YtpemghcafbedeaaGreatDoor.Rf
open Go.RowKit
theorem infoRef : (Tryz.prog.info? 92).map (fun i => (i.zero, i.size, i.bytes)) = some (some (.agg #[.int .u8 0, .int .i64 0, .string ⟨#[]⟩, .int .i64 0, .slice none 0 0]), 5, 64) := by kernel_rfl
theorem own1_nil (B : Nat) (w : World) : own1 B w (.slice none 0 0) [] := World.ownsRow_nil _ _ _ _
section
variable {E : Env} {v : Value} {kvs : List Value} {md : List Nd} {i : Nat} {d e : Int} {w : World}
theorem RS.push {W2 w5 : World} {o : Obj} {g cap n : Nat} {nd : Nd} {cs : List Value} (h : RS E v kvs md i d e W2) (hg : (W2.alloc o).grownBy w5 v.ownBlock) (hat : v.ownBlock = some g ∨ g = W2.heap.size + 1) (hn : n = md.length + 1) (hcs : cs = cellsM md kvs ++ nodeC nd (.slice none 0 0)) (hk0 : nd.kids = [])
    (hown : w5.ownsRow (E.b + 1) 92 5 (.slice (some ⟨g, 0, none⟩) n cap) n cs) :
    RS E (.slice (some ⟨g, 0, none⟩) n cap) (kvs ++ [.slice none 0 0]) (md ++ [nd]) i d e (w5.setCell ⟨E.b, 3, none⟩ (.slice (some ⟨g, 0, none⟩) n cap)) ∧ Fr E W2.heap.size v (.slice (some ⟨g, 0, none⟩) n cap) W2 (w5.setCell ⟨E.b, 3, none⟩ (.slice (some ⟨g, 0, none⟩) n cap)) := by
  subst hn hcs
  have hlt := h.lt
  have hsz : W2.heap.size + 1 ≤ w5.heap.size := by have := hg.size; simpa using this
  have hg2 : W2.grownBy w5 v.ownBlock := ⟨hg.os, hg.tape, hg.output, by omega, fun k hk hne => (hg.block k (by simp; omega) hne).trans (Below.heap_alloc _ _ _ hk)⟩
  have hvb : v.ownBlock ≠ some E.b := fun e => by have := (h.vlt _ e).1; omega
  have hb5 : w5.heap[E.b]? = W2.heap[E.b]? := hg2.block E.b hlt (fun e => hvb e.symm)
  have hgb : g ≠ E.b := fun e => by
    rcases hat with h1 | h1
    · rw [e] at h1; exact hvb h1
    · omega
  generalize hv5 : Value.slice (some ⟨g, 0, none⟩) (md.length + 1) cap = v5 at *
  have hv5o : v5.ownBlock = some g := by rw [← hv5]; rfl
  have hset : w5.grownBy (w5.setCell ⟨E.b, 3, none⟩ v5) (some E.b) := grownBy_set w5 _ _
  have kidold : ∀ (x : Value) (ks : List Int), own1 (E.b + 1) W2 x ks → (∀ k, x.ownBlock = some k → v.ownBlock ≠ some k) → own1 (E.b + 1) (w5.setCell ⟨E.b, 3, none⟩ v5) x ks := fun x ks hx hne => by
    refine own1.grown (row := some E.b) (own1.grown hx hg2 ?_) hset ?_
    · cases hk : x.ownBlock with
      | none => exact Or.inl rfl
      | some k => exact Or.inr (fun e => hne k hk e.symm)
    · cases hk : x.ownBlock with
      | none => exact Or.inl rfl
      | some k => exact Or.inr (fun e => by have := (hx.lt k hk).1; have e := Option.some.inj e; omega)
  have hkl : ∀ x ∈ kvs ++ [.slice none 0 0], ∀ k, x.ownBlock = some k → v5.ownBlock ≠ some k := fun x hx k hk e => by
    rw [hv5o] at e
    obtain rfl := Option.some.inj e
    rcases List.mem_append.1 hx with hx | hx
    · rcases hat with h1 | h1
      · exact h.apart x hx g hk h1
      · have := (h.klt x hx g hk).2; omega
    · obtain rfl := List.mem_singleton.1 hx
      simp [Value.ownBlock] at hk
  refine ⟨⟨(h.below.grown hg2 (Nat.le_of_lt hlt) (fun k e => Nat.le_of_lt (h.vlt k e).1)).setCell (p := ⟨E.b, 3, none⟩) (Nat.le_refl _) _, by simp [World.setCell]; omega, h.gl, h.cap, fun j k u hj hi => ?_, h.oks, h.last, ?_, h.it, h.few, h.dd, by simp [h.klen], ?_, fun j hj => ?_, hkl, ?_⟩, ?_⟩
  · have hgl := h.gl
    rw [World.cell?_of_block (w := w5) (a := ⟨E.g, j * 5 + k, none⟩) (Below.heap_setCell _ _ _ _ (show E.g ≠ E.b by omega)), World.cell?_of_block (w := W2) (a := ⟨E.g, j * 5 + k, none⟩) (hg2.block E.g (by omega) (fun e => by have := (h.vlt _ e.symm).1; omega))]
    exact h.tok j k u hj hi
  · rw [heap_set _ _ _ _ _ _ (hb5.trans h.row)]; rfl
  · rw [cellsM_snoc md kvs nd (.slice none 0 0) h.klen, List.length_append, List.length_singleton]
    exact hown.kept hset (Or.inr (fun e => by rw [hv5o] at e; exact hgb (Option.some.inj e)))
  · by_cases hj' : j < md.length
    · have h1 := kidold _ _ (h.kids j hj') (fun k hk => h.apart (kvs.getD j default) (by have := h.klen; simp [List.getD, show j < kvs.length by omega]) k hk)
      have e1 : (kvs ++ [Value.slice none 0 0]).getD j default = kvs.getD j default := by have := h.klen; simp [List.getD, List.getElem?_append_left (show j < kvs.length by omega)]
      have e2 : (md ++ [nd]).getD j default = md.getD j default := by simp [List.getD, List.getElem?_append_left hj']
      rw [e1, e2]; exact h1
    · have hjn : j = md.length := by simp only [List.length_append, List.length_singleton] at hj; omega
      have e1 : (kvs ++ [Value.slice none 0 0]).getD j default = .slice none 0 0 := by rw [hjn, ← h.klen]; simp [List.getD]
      have e2 : (md ++ [nd]).getD j default = nd := by rw [hjn]; simp [List.getD]
      rw [e1, e2, hk0]
      exact own1_nil _ _
  · refine List.pairwise_append.2 ⟨h.pair, List.pairwise_singleton _ _, fun x hx y hy k hk e => ?_⟩
    obtain rfl := List.mem_singleton.1 hy
    simp [Value.ownBlock] at e
  · refine ⟨hg.os, hg.tape, hg.output, by simp [World.setCell]; omega, fun k hk hkb hkv => (Below.heap_setCell w5 ⟨E.b, 3, none⟩ v5 k hkb).trans (hg2.block k hk (fun e => hkv e.symm)), fun k hk => ?_⟩
    rw [hv5o] at hk
    obtain rfl := Option.some.inj hk
    rcases hat with h1 | h1
    · exact Or.inl h1
    · exact Or.inr (by omega)
def nodeR0 (k : Int) (a : Nat) : Nd := ⟨k, a, ⟨#[]⟩, 0, []⟩
def NodeP (E : Env) (v : Value) (kvs : List Value) (md : List Nd) (i : Nat) (d e : Int) (w : World) (k : Int) (x : Ending) (w' : World) : Prop :=
  ∃ v', x = .returned (.int .i64 (md.length : Int)) ∧ RS E v' (kvs ++ [.slice none 0 0]) (md ++ [nodeR0 k (RT E i).at']) i d e w' ∧ Fr E w.heap.size v v' w w'
set_option maxRecDepth 1000000 in
set_option maxHeartbeats 4000000 in
theorem node_at (h : RS E v kvs md i d e w) (k : Int) (hroom : md.length + 1 ≤ 1000000) :
    Calls Tryz.prog 41 #[.pointer (some ⟨E.b, 0, none⟩), .int .u8 k] w (NodeP E v kvs md i d e w k) := by
  obtain ⟨i0, hi, hz0, hz1, hz2⟩ := info_partsP infoRef
  have HS := Lib.hid h
  have I0 := Lib.hid hi
  have I1 := Lib.hid hz0
  have I2 := Lib.hid hz1
  have I3 := Lib.hid hz2
  obtain ⟨vp, vn, vc, rfl⟩ : ∃ vp vn vc, v = .slice vp vn vc := by
    rcases h.own.2 with h2 | ⟨g, cap, cur, e, _⟩
    · exact ⟨_, _, _, h2.1⟩
    · exact ⟨_, _, _, e⟩
  obtain ⟨c0, c1, _, c3, _⟩ := h.rowCells
  obtain ⟨_, k1, _, _⟩ := h.tokCells
  have b0 : (0 : Int) ≤ (i : Int) := by omega
  have b1 : (i : Int) < (E.toks.length : Int) := by have := h.it; omega
  have hcap := h.cap
  have z3 := h.fz 3
  have hlt := h.lt
  have hgl := h.gl
  have hvb : ¬ (Value.slice vp vn vc).ownBlock = some E.b := fun e => by have := (h.vlt _ e).1; omega
  have HN : Hid (NodeP E (.slice vp vn vc) kvs md i d e w k = NodeP E (.slice vp vn vc) kvs md i d e w k) := Lib.hid rfl
  unfold NodeP
  generalize (RT E i).at' = at' at *
  clear h hi hz0 hz1 hz2
  go_enter Tryz.func41, Tryz.ntmps41
  go_wp2_with fail
  go_region_law ((refine step_append_lies _ (by rfl) (.tmp 9) (.tmp 23) 31 (by rfl) (E.b + 1) 92 i0 _ 5 64 Tryz.underlying31 I0.out I1.out I2.out I3.out rfl (by decide) (.slice vp vn vc) md.length (cellsM md kvs) (by rfl) (HS.out.own.drew.alloc _) ⟨w.heap.size, 0, none⟩ 1 1 [.int .u8 k, .int .i64 at', .string ⟨#[]⟩, .int .i64 0, .slice none 0 0] (by rfl) (by rfl) (World.news_of_block (cs := #[.int .u8 k, .int .i64 at', .string ⟨#[]⟩, .int .i64 0, .slice none 0 0]) (t := 92) (fr := (0, 0)) (heap_alloc_new _ _)) (by simp [Value.oneCell']) (by decide) (by unfold maxLen; omega) (by omega) (by simp; omega) _ (by rfl) ?_; intro g5 cap5 w5 hown5 hgrow5 hat5 hlt5; have c45 : w5.cell? ⟨E.b, 3, none⟩ = some (.slice vp vn vc) := (hgrow5.cell_far ⟨E.b, 3, none⟩ (by simp; omega) (fun e => hvb e.symm)).trans ((World.cell?_alloc_lt _ _ _ hlt).trans c3); have z45 : w5.frozen? ⟨E.b, 3, none⟩ = false := (hgrow5.frozen_far ⟨E.b, 3, none⟩ (by simp; omega) (fun e => hvb e.symm)).trans ((World.frozen?_of_block (w := w) (Below.heap_alloc w _ E.b hlt)).trans z3)))
  all_goals
    have HP := Lib.hid (HS.out.push (nd := nodeR0 k at') (of_drew hgrow5) (by simpa using hat5) rfl rfl rfl hown5)
    obtain ⟨_, _, _, d3, _⟩ := HP.out.1.rowCells
    clear hown5 hgrow5 hat5 c45 z45 c0 c1 c3 z3 k1
    go_wp2
    go_ret
    exact ⟨_, rfl, HP.out.1, HP.out.2⟩
end
end Go.Proofs.YtpemghcafbedeaaGreatDoor.Rf
end
section
namespace Go.Proofs.YtpemghcafbedeaaGreatDoor.Rf
open Go.RowKit
theorem cellsM_set (md : List Nd) (kvs : List Value) (h : kvs.length = md.length) (j : Nat) (hj : j < md.length) (c : Nat) (hc : c < 5) (u : Value) (nd' : Nd) (kv' : Value) (hn : nodeC nd' kv' = (nodeC (md.getD j default) (kvs.getD j default)).set c u) :
    (cellsM md kvs).set (j * 5 + c) u = cellsM (md.set j nd') (kvs.set j kv') := by
  induction md generalizing kvs j with
  | nil => simp at hj
  | cons m md ih =>
    cases kvs with
    | nil => simp at h
    | cons k kvs =>
      cases j with
      | zero =>
        simp only [List.getD_cons_zero] at hn
        simp only [cellsM, List.set_cons_zero, Nat.zero_mul, Nat.zero_add]
        rw [List.set_append_left _ _ (by simp [nodeC]; omega), hn]
      | succ j =>
        simp only [List.getD_cons_succ] at hn
        simp only [cellsM, List.set_cons_succ]
        rw [List.set_append_right _ _ (by simp [nodeC]; omega), ← ih kvs (by simpa using h) j (by simpa using hj) hn]
        congr 2
        simp [nodeC]; omega
section
variable {E : Env} {v : Value} {kvs : List Value} {md : List Nd} {i : Nat} {d e : Int} {w : World}
structure Fq (E : Env) (B : Nat) (v : Value) (kvs : List Value) (v' : Value) (kvs' : List Value) (w w' : World) : Prop where
  size : w.heap.size ≤ w'.heap.size
  block : ∀ k, k < B → Loc E v kvs k → w'.heap[k]? = w.heap[k]?
  loc : ∀ k, k < B → Loc E v kvs k → Loc E v' kvs' k
theorem Fq.refl (E : Env) (B : Nat) (v : Value) (kvs : List Value) (w : World) : Fq E B v kvs v kvs w w := ⟨Nat.le_refl _, fun _ _ _ => rfl, fun _ _ h => h⟩
theorem Fq.mono {B B' : Nat} {v' : Value} {kvs' : List Value} {w w' : World} (h : Fq E B v kvs v' kvs' w w') (hb : B' ≤ B) : Fq E B' v kvs v' kvs' w w' :=
  ⟨h.size, fun k hk => h.block k (Nat.lt_of_lt_of_le hk hb), fun k hk => h.loc k (Nat.lt_of_lt_of_le hk hb)⟩
theorem Fq.trans {B : Nat} {v1 v2 : Value} {kvs1 kvs2 : List Value} {w w1 w2 : World} (h : Fq E B v kvs v1 kvs1 w w1) (h' : Fq E B v1 kvs1 v2 kvs2 w1 w2) : Fq E B v kvs v2 kvs2 w w2 :=
  ⟨Nat.le_trans h.size h'.size, fun k hk hl => (h'.block k hk (h.loc k hk hl)).trans (h.block k hk hl), fun k hk hl => h'.loc k hk (h.loc k hk hl)⟩
theorem Fq.of_fr {B : Nat} {v' : Value} {new : List Value} {w w' : World} (h : Fr E B v v' w w') (hn : Nw B new) : Fq E B v kvs v' (kvs ++ new) w w' :=
  ⟨h.size, fun k hk hl => h.block k hk (by have := hl.lt; omega) hl.v, fun k hk hl => hl.on h hn hk⟩
theorem Fq.of_fr0 {B : Nat} {v' : Value} {w w' : World} (h : Fr E B v v' w w') : Fq E B v kvs v' kvs w w' := by
  have := Fq.of_fr (kvs := kvs) h (Nw.nil B)
  rwa [List.append_nil] at this
theorem Kp.fq {i' : Nat} {d' e' : Int} {w' : World} (h : Kp E v kvs md i' d' e' w w') : Fq E w.heap.size v kvs v kvs w w' := Fq.of_fr0 h.fr
theorem nw_nil (B : Nat) : Nw B [.slice none 0 0] := fun x hx k hk => by
  obtain rfl := List.mem_singleton.1 hx
  simp [Value.ownBlock] at hk
theorem getD_set_ne {α : Type} {l : List α} {j k : Nat} {a b : α} (h : j ≠ k) : (l.set j a).getD k b = l.getD k b := by
  simp only [List.getD, List.getElem?_set_ne h]
theorem getD_set_eq {α : Type} {l : List α} {j : Nat} {a b : α} (h : j < l.length) : (l.set j a).getD j b = a := by
  simp [List.getD, h]
theorem RS.putf {g n cap : Nat} (h : RS E (.slice (some ⟨g, 0, none⟩) n cap) kvs md i d e w) (hn : n = md.length) (j : Nat) (hj : j < md.length) (c : Nat) (hc : c < 5) (u : Value) (nd' : Nd)
    (hnd : nodeC nd' (kvs.getD j default) = (nodeC (md.getD j default) (kvs.getD j default)).set c u) (hk : nd'.kids = (md.getD j default).kids) :
    RS E (.slice (some ⟨g, 0, none⟩) n cap) kvs (md.set j nd') i d e (w.setCell ⟨g, j * 5 + c, none⟩ u) ∧ Fr E w.heap.size (.slice (some ⟨g, 0, none⟩) n cap) (.slice (some ⟨g, 0, none⟩) n cap) w (w.setCell ⟨g, j * 5 + c, none⟩ u) := by
  subst hn
  have hst := h.own.stored (j * 5 + c) u
  have hkv : kvs.set j (kvs.getD j default) = kvs := by
    have : j < kvs.length := by rw [h.klen]; exact hj
    simp [List.getD, this]
  rw [cellsM_set md kvs h.klen j hj c hc u nd' (kvs.getD j default) hnd, hkv] at hst
  have hvl := h.vlt g rfl
  have hbl : ∀ k, k ≠ g → (w.setCell ⟨g, j * 5 + c, none⟩ u).heap[k]? = w.heap[k]? := fun k hk => Below.heap_setCell w ⟨g, j * 5 + c, none⟩ u k hk
  refine ⟨⟨h.below.grown hst.2 (Nat.le_of_lt h.lt) (fun k e => by have e := Option.some.inj e; omega), by simpa [World.setCell] using h.lt, h.gl, h.cap, fun j' k u' hj' hk' => ?_, h.oks, h.last, ?_, h.it, h.few, h.dd, by simpa using h.klen, by simpa using hst.1, fun j' hj' => ?_, h.apart, h.pair⟩, ?_⟩
  · have := h.gl
    rw [World.cell?_of_block (w := w) (a := ⟨E.g, j' * 5 + k, none⟩) (hbl E.g (by omega))]
    exact h.tok j' k u' hj' hk'
  · rw [hbl E.b (by omega)]; exact h.row
  · have hj2 : j' < md.length := by simpa using hj'
    have h1 := (h.kids j' hj2).grown hst.2 (by
      cases hv : (kvs.getD j' default).ownBlock with
      | none => exact Or.inl rfl
      | some k =>
        refine Or.inr (fun e => ?_)
        have e := Option.some.inj e
        exact h.apart (kvs.getD j' default) (by have := h.klen; simp [List.getD, show j' < kvs.length by omega]) k hv (by rw [e]; rfl))
    by_cases hjj : j = j'
    · subst hjj
      rw [getD_set_eq hj, hk]
      exact h1
    · rw [getD_set_ne hjj]
      exact h1
  · exact ⟨rfl, rfl, rfl, by simp [World.setCell], fun k _ _ hv => hbl k (fun e => hv (by rw [e]; rfl)), fun k hk => Or.inl hk⟩
theorem RS.kidset {W2 w5 : World} {o : Obj} {g n cap g5 cap5 j kl : Nat} {x : Int} {ks : List Int} {kv v5 : Value} (h : RS E (.slice (some ⟨g, 0, none⟩) n cap) kvs md i d e W2) (hn : n = md.length) (hj : j < md.length) (hkv : kv = kvs.getD j default) (hks : ks = (md.getD j default).kids)
    (hg : (W2.alloc o).grownBy w5 kv.ownBlock) (hv5 : v5 = .slice (some ⟨g5, 0, none⟩) kl cap5) (hat : kv.ownBlock = some g5 ∨ g5 = W2.heap.size + 1) (hown : own1 (E.b + 1) w5 v5 (ks ++ [x])) :
    RS E (.slice (some ⟨g, 0, none⟩) n cap) (kvs.set j v5) (md.set j { md.getD j default with kids := ks ++ [x] }) i d e (w5.setCell ⟨g, j * 5 + 4, none⟩ v5) ∧ Fq E W2.heap.size (.slice (some ⟨g, 0, none⟩) n cap) kvs (.slice (some ⟨g, 0, none⟩) n cap) (kvs.set j v5) W2 (w5.setCell ⟨g, j * 5 + 4, none⟩ v5) := by
  subst hn hks
  have hjk : j < kvs.length := by rw [h.klen]; exact hj
  have hmem : kv ∈ kvs := by rw [hkv]; simp [List.getD, hjk]
  have hsz : W2.heap.size + 1 ≤ w5.heap.size := by have := hg.size; simpa using this
  have hg2 : W2.grownBy w5 kv.ownBlock := ⟨hg.os, hg.tape, hg.output, by omega, fun k hk hne => (hg.block k (by simp; omega) hne).trans (Below.heap_alloc _ _ _ hk)⟩
  have hv5o : v5.ownBlock = some g5 := by rw [hv5]; rfl
  have hvl := h.vlt g rfl
  have hgk : kv.ownBlock ≠ some g := fun e => h.apart kv hmem g e rfl
  have own5 := h.own.kept hg2 (Or.inr (fun e => hgk e.symm))
  have hst := own5.stored (j * 5 + 4) v5
  rw [cellsM_set md kvs h.klen j hj 4 (by decide) v5 { md.getD j default with kids := (md.getD j default).kids ++ [x] } v5 rfl] at hst
  have hbl : ∀ k, k ≠ g → (w5.setCell ⟨g, j * 5 + 4, none⟩ v5).heap[k]? = w5.heap[k]? := fun k hk => Below.heap_setCell w5 ⟨g, j * 5 + 4, none⟩ v5 k hk
  have hg5 : g5 ≠ g := fun e => by
    rcases hat with h1 | h1
    · rw [e] at h1; exact hgk h1
    · omega
  have hkb : kv.ownBlock ≠ some E.b := fun e => by have := (h.klt kv hmem _ e).1; omega
  have hkg : kv.ownBlock ≠ some E.g := fun e => by have := (h.klt kv hmem _ e).1; have := h.gl; omega
  -- another node's row of kids
  have other : ∀ j', j' < md.length → j' ≠ j → own1 (E.b + 1) (w5.setCell ⟨g, j * 5 + 4, none⟩ v5) (kvs.getD j' default) (md.getD j' default).kids := fun j' hj' hne => by
    refine own1.grown (row := some g) (own1.grown (h.kids j' hj') hg2 ?_) hst.2 ?_
    · cases hv : (kvs.getD j' default).ownBlock with
      | none => exact Or.inl rfl
      | some k =>
        refine Or.inr (fun e => ?_)
        have hj2 : j' < kvs.length := by rw [h.klen]; exact hj'
        have hp := List.pairwise_iff_getElem.1 h.pair
        rw [hkv] at e
        have e1 : kvs.getD j default = kvs[j] := by simp [List.getD, hjk]
        have e2 : kvs.getD j' default = kvs[j'] := by simp [List.getD, hj2]
        rw [e2] at hv
        rw [e1] at e
        rcases Nat.lt_or_gt_of_ne hne with hlt | hlt
        · exact hp j' j hj2 hjk hlt k hv e.symm
        · exact hp j j' hjk hj2 hlt k e.symm hv
    · cases hv : (kvs.getD j' default).ownBlock with
      | none => exact Or.inl rfl
      | some k =>
        refine Or.inr (fun e => ?_)
        have e := Option.some.inj e
        exact h.apart (kvs.getD j' default) (by have := h.klen; simp [List.getD, show j' < kvs.length by omega]) k hv (by rw [e]; rfl)
  have fresh : ∀ y ∈ kvs.set j v5, ∀ k, y.ownBlock = some k → (y ∈ kvs ∨ (y = v5 ∧ k = g5)) := fun y hy k hk => by
    rcases List.mem_or_eq_of_mem_set hy with h1 | h1
    · exact Or.inl h1
    · subst h1
      rw [hv5o] at hk
      exact Or.inr ⟨rfl, (Option.some.inj hk).symm⟩
  refine ⟨⟨(h.below.grown hg2 (Nat.le_of_lt h.lt) (fun k e => Nat.le_of_lt (h.klt kv hmem k e).1)).grown hst.2 (by have := h.below.size; have := h.lt; omega) (fun k e => by have e := Option.some.inj e; omega), by simp [World.setCell]; have := h.lt; omega, h.gl, h.cap, fun j' k u hj' hk => ?_, h.oks, h.last, ?_, h.it, h.few, h.dd, by simp [h.klen], by simpa using hst.1, fun j' hj' => ?_, fun y hy k hk => ?_, ?_⟩, ?_⟩
  · have := h.gl
    have := h.lt
    rw [World.cell?_of_block (w := w5) (a := ⟨E.g, j' * 5 + k, none⟩) (hbl E.g (by omega)), World.cell?_of_block (w := W2) (a := ⟨E.g, j' * 5 + k, none⟩) (hg2.block E.g (by omega) (fun e => hkg e.symm))]
    exact h.tok j' k u hj' hk
  · rw [hbl E.b (by omega), hg2.block E.b h.lt (fun e => hkb e.symm)]; exact h.row
  · have hj2 : j' < md.length := by simpa using hj'
    by_cases hjj : j = j'
    · subst hjj
      rw [getD_set_eq hj, getD_set_eq hjk]
      exact own1.grown hown hst.2 (Or.inr (fun e => by rw [hv5o] at e; exact hg5 (Option.some.inj e)))
    · rw [getD_set_ne hjj, getD_set_ne hjj]
      exact other j' hj2 (fun e => hjj e.symm)
  · rcases fresh y hy k hk with h1 | ⟨_, rfl⟩
    · exact h.apart y h1 k hk
    · intro e
      have e := Option.some.inj e
      exact hg5 e.symm
  · rw [List.pairwise_iff_getElem]
    intro a b ha hb hab k hka hkb2
    have hp := List.pairwise_iff_getElem.1 h.pair
    have ha' : a < kvs.length := by simpa using ha
    have hb' : b < kvs.length := by simpa using hb
    have e1 : kvs.getD j default = kvs[j] := by simp [List.getD, hjk]
    rw [List.getElem_set] at hka hkb2
    have key : ∀ c (hc : c < kvs.length), c ≠ j → kvs[c].ownBlock = some k → k ≠ g5 := fun c hc hcj hk e => by
      subst e
      rcases hat with h1 | h1
      · rw [hkv, e1] at h1
        rcases Nat.lt_or_gt_of_ne hcj with hlt | hlt
        · exact hp c j hc hjk hlt k hk h1
        · exact hp j c hjk hc hlt k h1 hk
      · have := (h.klt kvs[c] (List.getElem_mem hc) k hk).2
        omega
    split at hka
    · split at hkb2
      · omega
      · rw [hv5o] at hka
        exact key b hb' (by omega) hkb2 (Option.some.inj hka).symm
    · split at hkb2
      · rw [hv5o] at hkb2
        exact key a ha' (by omega) hka (Option.some.inj hkb2).symm
      · exact hp a b ha' hb' hab k hka hkb2
  · refine ⟨by simp [World.setCell]; omega, fun k hk hl => ?_, fun k hk hl => ⟨hl.lt, hl.v, fun y hy e => ?_⟩⟩
    · rw [hbl k (fun e => hl.v (by rw [e]; rfl))]
      exact hg2.block k hk (fun e => hl.ks kv hmem e.symm)
    · rcases fresh y hy k e with h1 | ⟨_, rfl⟩
      · exact hl.ks y h1 e
      · rcases hat with h1 | h1
        · exact hl.ks kv hmem h1
        · omega
end
end Go.Proofs.YtpemghcafbedeaaGreatDoor.Rf
end
section
namespace Go.Proofs.YtpemghcafbedeaaGreatDoor.Rf
open Go.RowKit
section
variable {E : Env} {v : Value} {kvs : List Value} {md : List Nd} {i : Nat} {d e : Int} {w : World}
theorem of_drewA {w w' : World} {o : Obj} {row : Option Nat} (h : ((w.alloc o).drew).grownBy w' row) : (w.alloc o).grownBy w' row := ⟨h.os, h.tape, h.output, h.size, h.block⟩
def kidOf (md : List Nd) (j : Nat) : List Nd := md.set j { md.getD j default with kids := (md.getD j default).kids ++ [(md.length : Int)] }
def KidP (E : Env) (v : Value) (kvs : List Value) (md : List Nd) (i : Nat) (d e : Int) (w : World) (j : Nat) (x : Ending) (w' : World) : Prop :=
  x = .returned (.tuple #[]) ∧ ∃ kvs', RS E v kvs' (kidOf md j) i d e w' ∧ Fq E w.heap.size v kvs v kvs' w w'
set_option maxRecDepth 1000000 in
set_option maxHeartbeats 4000000 in
theorem kid_at (h : RS E v kvs md i d e w) (j : Nat) (hj : j < md.length) (hroom : md.length ≤ 1000000) (hkids : (md.getD j default).kids.length ≤ 1000000) :
    Calls Tryz.prog 96 #[.pointer (some ⟨E.b, 0, none⟩), .int .i64 (j : Int)] w (KidP E v kvs md i d e w j) := by
  obtain ⟨i0, hi, hz0, hz1, hz2⟩ := info_partsP infoInt
  have HS := Lib.hid h
  have I0 := Lib.hid hi
  have I1 := Lib.hid hz0
  have I2 := Lib.hid hz1
  have I3 := Lib.hid hz2
  obtain ⟨g, cap, rfl, hgb, _⟩ := h.own.form (by omega)
  obtain ⟨_, _, _, c3, _⟩ := h.rowCells
  have hjk : j < kvs.length := by rw [h.klen]; exact hj
  have kc0 := h.own.cellAt (j * 5 + 4) (by omega)
  rw [cellsM_get md kvs h.klen j hj 4 (by decide)] at kc0
  simp only [nodeC, List.getElem?_cons_succ, List.getElem?_cons_zero] at kc0
  have zk := h.own.frozenAt (j * 5 + 4)
  have hown := h.kids j hj
  have hmem : kvs.getD j default ∈ kvs := by simp [List.getD, hjk]
  have hap : (kvs.getD j default).ownBlock ≠ some g := fun e => h.apart _ hmem g e rfl
  have hbk : (kvs.getD j default).ownBlock ≠ some E.b := fun e => by have := (h.klt _ hmem _ e).1; omega
  obtain ⟨kp, kl, kc, hkv⟩ := hown.slice
  have HKV := Lib.hid hkv.symm
  rw [hkv] at kc0 hown hap hbk
  have HOWN := Lib.hid hown
  have hlt := h.lt
  have hgl := (h.vlt g rfl).2
  have hge := (h.vlt g rfl).1
  have b0 : (0 : Int) ≤ (j : Int) := by omega
  have b1 : (j : Int) < (md.length : Int) := by omega
  have hgb1 : g ≠ E.b := by omega
  obtain ⟨ks, hks⟩ : ∃ ks, (md.getD j default).kids = ks := ⟨_, rfl⟩
  rw [hks] at HOWN hkids
  have HKS := Lib.hid hks.symm
  obtain ⟨n, hn⟩ : ∃ n, md.length = n := ⟨_, rfl⟩
  have HN := Lib.hid hn
  rw [hn] at c3 b1 HS hroom ⊢
  clear h hi hz0 hz1 hz2 hown hkv hks hmem
  go_enter Tryz.func96, Tryz.ntmps96
  go_wp2_with fail
  go_region_law ((refine step_append_lies _ (by rfl) (.tmp 16) (.tmp 22) 50 (by rfl) (E.b + 1) 3 i0 _ 1 8 Tryz.underlying50 I0.out I1.out I2.out I3.out rfl (by decide) (.slice kp kl kc) ks.length (ks.map (Value.int .i64)) (by rfl) (World.ownsRow.alloc (World.ownsRow.drew HOWN.out) _) ⟨w.heap.size, 0, none⟩ 1 1 [.int .i64 (n : Int)] (by rfl) (by rfl) (World.news_of_block (cs := #[.int .i64 (n : Int)]) (t := 3) (fr := (0, 0)) (heap_alloc_new _ _)) (by simp [Value.oneCell']) (by decide) (by unfold maxLen; omega) (by omega) (by simp; omega) _ (by rfl) ?_; intro g5 cap5 w5 hown5 hgrow5 hat5 hlt5; have c35 : w5.cell? ⟨E.b, 3, none⟩ = some (.slice (some ⟨g, 0, none⟩) n cap) := (hgrow5.cell_far ⟨E.b, 3, none⟩ (by simp; omega) (fun e => hbk e.symm)).trans ((World.cell?_alloc_lt _ _ _ hlt).trans c3); have k45 : w5.cell? ⟨g, j * 5 + 4, none⟩ = some (.slice kp kl kc) := (hgrow5.cell_far ⟨g, j * 5 + 4, none⟩ (by simp; omega) (fun e => hap e.symm)).trans ((World.cell?_alloc_lt _ _ _ hgl).trans kc0); have z45 : w5.frozen? ⟨g, j * 5 + 4, none⟩ = false := (hgrow5.frozen_far ⟨g, j * 5 + 4, none⟩ (by simp; omega) (fun e => hap e.symm)).trans ((World.frozen?_of_block (w := w) (Below.heap_alloc w _ g hgl)).trans zk)))
  all_goals
    have HP := Lib.hid (RS.kidset (w5 := w5) (o := .cells #[.int .i64 (n : Int)] 3) (x := (n : Int)) (ks := ks) (kv := .slice kp kl kc) HS.out HN.out.symm hj HKV.out HKS.out (of_drewA hgrow5) rfl (by simpa using hat5) (by
      have e : ks.length + 1 = (ks ++ [(n : Int)]).length := by simp
      have e2 : (ks ++ [(n : Int)]).map (Value.int .i64) = ks.map (Value.int .i64) ++ [Value.int .i64 (n : Int)] := by simp
      unfold own1
      rw [← e, e2]
      exact hown5))
    clear hown5 hgrow5 hat5 c35 k45 z45 c3 kc0 zk
    simp [bodyPost, results, Tryz.results96, go_sem]
    exact ⟨rfl, _, by have := HP.out.1; unfold kidOf; rw [HN.out, ← HKS.out]; exact this, HP.out.2⟩
end
end Go.Proofs.YtpemghcafbedeaaGreatDoor.Rf
end
section
namespace Go.Proofs.YtpemghcafbedeaaGreatDoor.Rf
open Go.RowKit
section
variable {E : Env} {v : Value} {kvs : List Value} {md : List Nd} {i : Nat} {d e : Int} {w : World}
theorem kidOf_len (md : List Nd) (j : Nat) : (kidOf md j).length = md.length := by simp [kidOf]
theorem RS.drew (h : RS E v kvs md i d e w) : RS E v kvs md i d e w.drew := h.drewN 1
set_option maxRecDepth 1000000 in
set_option maxHeartbeats 4000000 in
theorem word_of (h : RS E v kvs md i d e w) (j : Nat) (hj : j < md.length) (hroom : md.length + 1 ≤ 1000000) (hkids : (md.getD j default).kids.length ≤ 1000000) (s : ByteArray) (i' : Nat) (e' : Int)
    (HN : ∀ v2 kvs2 md2 w2, RS E v2 kvs2 md2 i d e w2 → Calls Tryz.prog 97 #[.pointer (some ⟨E.b, 0, none⟩)] w2 fun x w' => x = .returned (.string s) ∧ Kp E v2 kvs2 md2 i' d e' w2 w') :
    Calls Tryz.prog 99 #[.pointer (some ⟨E.b, 0, none⟩), .int .i64 (j : Int)] w fun x w' => x = .returned (.tuple #[]) ∧ ∃ v' kvs', RS E v' kvs' (kidOf md j ++ [⟨5, (RT E i).at', s, 0, []⟩]) i' d e' w' ∧ Fq E w.heap.size v kvs v' kvs' w w' := by
  have KD := Lib.hid (kid_at h j hj (by omega) hkids)
  have HNN := Lib.hid HN
  have HRM := Lib.hid hroom
  clear h HN hj hkids
  go_enter Tryz.func99, Tryz.ntmps99
  go_wp2_with fail
  (with_reducible refine KD.out.mono ?_)
  rintro x w1 ⟨rfl, kvs1, hs1, hf1⟩
  have F1 := Lib.hid hf1
  have ND := Lib.hid (node_at hs1 5 (by rw [kidOf_len]; exact HRM.out))
  clear hs1 hf1 KD
  go_wp2_with fail
  (with_reducible refine ND.out.mono ?_)
  rintro x w2 ⟨v2, rfl, hs2, hf2⟩
  rw [kidOf_len]
  obtain ⟨g, cap, rfl, _, _⟩ := hs2.own.form (by simp)
  have F2 := Lib.hid (F1.out.trans ((Fq.of_fr hf2 (nw_nil _)).mono F1.out.size))
  have S2 := Lib.hid hs2
  obtain ⟨_, _, _, c3, _⟩ := hs2.rowCells
  have hbg : E.b ≠ g := by have := (hs2.vlt g rfl).1; omega
  have hlen : (kidOf md j ++ [nodeR0 5 (RT E i).at']).length = md.length + 1 := by simp [kidOf_len]
  rw [hlen] at c3 S2 F2
  have HLN := Lib.hid hlen
  have b0 : (0 : Int) ≤ (md.length : Int) := by omega
  have b1 : (md.length : Int) < (md.length : Int) + 1 := by omega
  have TXT : Hid (∀ kv2 : List Value, kv2.length = (kidOf md j ++ [nodeR0 5 (RT E i).at']).length → (cellsM (kidOf md j ++ [nodeR0 5 (RT E i).at']) kv2)[md.length * 5 + 2]? = some (.string ⟨#[]⟩)) := Lib.hid (fun kv2 hk => by
    rw [cellsM_get _ _ hk md.length (by simp [kidOf_len]) 2 (by decide)]
    simp [nodeC, nodeR0, List.getD, kidOf_len])
  have NM := Lib.hid (HNN.out _ _ _ _ S2.out.drew)
  clear hs2 hf2 ND F1 hlen
  go_wp2_with fail
  go_region_held3 (fun w' => w'.cell? ⟨E.b, 3, none⟩ = some (.slice (some ⟨g, 0, none⟩) (md.length + 1) cap)) (first | exact c3 | exact k3 | exact (World.cell?_of_block (w := w5) (a := ⟨E.b, 3, none⟩) (Below.heap_setCell _ _ _ _ hbg)).trans k3)
    (first
      | (go_at_call 97; (with_reducible refine NM.out.mono ?_); rintro x w5 ⟨rfl, hk⟩; obtain ⟨_, _, _, k3, _⟩ := hk.rs.rowCells; have hro := hk.rs.own; rw [HLN.out] at hro; have z5 := hro.frozenAt (md.length * 5 + 2); have t5 := (hro.cellAt (md.length * 5 + 2) (by omega)).trans (TXT.out _ hk.rs.klen); have HK := Lib.hid hk; clear hk hro))
  have hln : (kidOf md j ++ [nodeR0 5 (RT E i).at']).length = md.length + 1 := HLN.out
  have hgt : (kidOf md j ++ [nodeR0 5 (RT E i).at']).getD md.length default = nodeR0 5 (RT E i).at' := by simp [List.getD, kidOf_len]
  have HP := Lib.hid (RS.putf HK.out.rs hln.symm md.length (by omega) 2 (by decide) (.string s) ⟨5, (RT E i).at', s, 0, []⟩ (by rw [hgt]; rfl) (by rw [hgt]; rfl))
  have hset : (kidOf md j ++ [nodeR0 5 (RT E i).at']).set md.length ⟨5, (RT E i).at', s, 0, []⟩ = kidOf md j ++ [⟨5, (RT E i).at', s, 0, []⟩] := by
    rw [List.set_append_right _ _ (by rw [kidOf_len]; exact Nat.le_refl _), kidOf_len, Nat.sub_self]
    rfl
  have FK := Lib.hid ((S2.out.keep.drewN 1).trans HK.out).fq
  have FF := Lib.hid (F2.out.trans ((FK.out.trans ((Fq.of_fr0 HP.out.2).mono FK.out.size)).mono F2.out.size))
  have HR := Lib.hid HP.out.1
  rw [hset] at HR
  clear z5 t5 k3 c3 hln hgt hset
  go_wp2
  simp [bodyPost, results, Tryz.results99, go_sem]
  exact ⟨_, _, HR.out, FF.out⟩
theorem word_yes (h : RS E v kvs md i d 0 w) (j : Nat) (hj : j < md.length) (hroom : md.length + 1 ≤ 1000000) (hkids : (md.getD j default).kids.length ≤ 1000000) (ht : (RT E i).kind = 1) :
    Calls Tryz.prog 99 #[.pointer (some ⟨E.b, 0, none⟩), .int .i64 (j : Int)] w fun x w' => x = .returned (.tuple #[]) ∧ ∃ v' kvs', RS E v' kvs' (kidOf md j ++ [⟨5, (RT E i).at', (RT E i).txt, 0, []⟩]) (i + 1) d 0 w' ∧ Fq E w.heap.size v kvs v' kvs' w w' :=
  word_of h j hj hroom hkids _ _ _ fun _ _ _ _ h2 => name_yes h2 ht
theorem word_no (h : RS E v kvs md i d 0 w) (j : Nat) (hj : j < md.length) (hroom : md.length + 1 ≤ 1000000) (hkids : (md.getD j default).kids.length ≤ 1000000) (ht : (RT E i).kind ≠ 1) :
    Calls Tryz.prog 99 #[.pointer (some ⟨E.b, 0, none⟩), .int .i64 (j : Int)] w fun x w' => x = .returned (.tuple #[]) ∧ ∃ v' kvs', RS E v' kvs' (kidOf md j ++ [⟨5, (RT E i).at', ⟨#[]⟩, 0, []⟩]) i d 50 w' ∧ Fq E w.heap.size v kvs v' kvs' w w' :=
  word_of h j hj hroom hkids _ _ _ fun _ _ _ _ h2 => name_no h2 ht
theorem word_err (h : RS E v kvs md i d e w) (he : e ≠ 0) (j : Nat) (hj : j < md.length) (hroom : md.length + 1 ≤ 1000000) (hkids : (md.getD j default).kids.length ≤ 1000000) :
    Calls Tryz.prog 99 #[.pointer (some ⟨E.b, 0, none⟩), .int .i64 (j : Int)] w fun x w' => x = .returned (.tuple #[]) ∧ ∃ v' kvs', RS E v' kvs' (kidOf md j ++ [⟨5, (RT E i).at', ⟨#[]⟩, 0, []⟩]) i d e w' ∧ Fq E w.heap.size v kvs v' kvs' w w' :=
  word_of h j hj hroom hkids _ _ _ fun _ _ _ _ h2 => name_err h2 he
end
end Go.Proofs.YtpemghcafbedeaaGreatDoor.Rf
end
