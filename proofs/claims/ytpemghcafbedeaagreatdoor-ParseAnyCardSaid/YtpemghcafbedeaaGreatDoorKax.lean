/- Contracts on the way to the laws of layer 5: ParseLz, ParseSh, ParseSi, ParseSj, ParseSk. -/
import Derived.Test.YtpemghcafbedeaaGreatDoorKad
import Derived.Test.YtpemghcafbedeaaGreatDoorKai
import Derived.Test.YtpemghcafbedeaaGreatDoorKao
import Derived.Test.YtpemghcafbedeaaGreatDoorKaw
import Derived.Deep.RegionHeld3
import Derived.Deep.LoopGhost
import Derived.Deep.Cut
set_option linter.all false
section
namespace Go.Proofs.YtpemghcafbedeaaGreatDoor
open Go.RowKit
theorem lexAt_er (xs : List Int) (m p : Nat) (hm : xs.length - p ≤ m) (hp : p ≤ xs.length) (i : Nat) (er : Int) (h : lexAt xs p = .error (i, er)) : er = 30 ∨ er = 31 := by
  induction m generalizing p with
  | zero =>
    rw [lexAt_end xs p (by omega)] at h
    simp at h
  | succ m ih =>
    rw [lexAt_bl xs p hp] at h
    have hb := bl_le xs p hp
    have hi := bl_idem xs p
    generalize bl xs p = j at *
    by_cases hlt : j < xs.length
    · cases hs : step (xs.drop j) with
      | err e =>
        rw [lexAt_err xs j e hlt hi hs] at h
        simp only [Except.error.injEq, Prod.mk.injEq] at h
        rw [← h.2]
        exact step_err hs (by rw [List.length_drop]; omega)
      | tok k l n =>
        rw [lexAt_tok xs j k l n hlt hi hs] at h
        have hl := step_len hs
        rw [List.length_drop] at hl
        cases hr : lexAt xs (j + l) with
        | error e =>
          rw [hr] at h
          simp only [pre, Except.error.injEq] at h
          subst h
          exact ih (j + l) (by omega) (by omega) hr
        | ok us => rw [hr] at h; simp [pre] at h
    · rw [lexAt_end xs j (by omega)] at h
      simp at h
theorem ref_ok {w : World} {p : Option Addr} {len c : Nat} {xs : List Int} {ts : List Tok} (h : Src w p len c xs) (hb : len ≤ 65536) (he : lexS xs = .ok ts) :
    Calls Tryz.prog 40 #[.slice p len c] w fun e w' => ∃ g cap, e = .returned (.tuple #[.slice (some ⟨g, 0, none⟩) ts.length cap, .int .i64 0, .int .i64 0]) ∧ TR w' g cap ts ∧ Below w.heap.size w w' :=
  (refLex_at w p len c xs h hb).mono fun e w' ⟨h1, h2⟩ => by
    rw [he] at h1
    obtain ⟨g, cap, e1, ho⟩ := h1
    refine ⟨g, cap, e1, ⟨(ho.lt g rfl).2, ?_, fun j u hj => ?_⟩, h2⟩
    · rcases ho.2 with ⟨h, _⟩ | ⟨g', cap', cur, hv, _, _, hc, _⟩
      · simp at h
      · simp at hv
        omega
    · rw [ho.cellAt j (by rw [← ho.1]; exact (List.getElem?_eq_some_iff.1 hj).1)]
      exact hj
theorem ref_no {w : World} {p : Option Addr} {len c : Nat} {xs : List Int} {i : Nat} {er : Int} (h : Src w p len c xs) (hb : len ≤ 65536) (he : lexS xs = .error (i, er)) :
    Calls Tryz.prog 40 #[.slice p len c] w fun e w' => e = .returned (.tuple #[.slice none 0 0, .int .i64 i, .int .i64 er]) ∧ Below w.heap.size w w' :=
  (refLex_at w p len c xs h hb).mono fun e w' ⟨h1, h2⟩ => by
    rw [he] at h1
    exact ⟨h1, h2⟩
theorem own_src (w : World) (p : Option Addr) (len c : Nat) (xs : List Int) (hs : Src w p len c xs) : ∃ s w1 cap, (convert 22 9 (.slice p len c)).run Tryz.prog w = .ok (.string s) w ∧ (convert 9 22 (.string s)).run Tryz.prog w = .ok (.slice (some ⟨w.heap.size, 0, none⟩) len cap) w1 ∧ Below w.heap.size w w1 ∧ Src w1 (some ⟨w.heap.size, 0, none⟩) len cap xs := by
  obtain ⟨w1, cap, h1, h2, h3⟩ := bytes_conv w (strOfNums xs)
  have hsz : (strOfNums xs).size = len := by rw [strOfNums_size]; exact hs.1
  rw [hsz] at h1 h3
  rw [bytesI_of xs (mem_byteX hs.2.1)] at h3
  exact ⟨strOfNums xs, w1, cap, src_conv hs, h1, h2, h3⟩
set_option maxHeartbeats 1000000 in
theorem sameBytes_at (w : World) (p p2 : Option Addr) (n c c2 : Nat) (xs : List Int) (h1 : Src w p n c xs) (h2 : Src w p2 n c2 xs) :
    Calls Tryz.prog 19 #[.slice p n c, .slice p2 n c2] w fun e w' => e = .returned (.bool true) ∧ w = w' := by
  have e1 := src_conv h1
  have e2 := src_conv h2
  generalize strOfNums xs = s at *
  clear h1 h2
  go_enter Tryz.func19, Tryz.ntmps19
  go_wp2
  go_ret
  exact ⟨rfl, rfl⟩
end Go.Proofs.YtpemghcafbedeaaGreatDoor
end
section
namespace Go.Proofs.YtpemghcafbedeaaGreatDoor.Rf
open Go.RowKit Par
section
variable {E : Env} {v : Value} {kvs : List Value} {md : List Nd} {i : Nat} {d e : Int} {w w' : World} {R : Res (List Ast)}
theorem RS.tv (h : RS E v kvs md i d e w) (hp : 0 < md.length) : ∃ g cap, v = .slice (some ⟨g, 0, none⟩) md.length cap ∧ Tr.TV w (some ⟨g, 0, none⟩) md.length cap md := by
  obtain ⟨g, cap, rfl, _, _⟩ := h.own.form hp
  refine ⟨g, cap, rfl, ⟨rfl, ?_, fun hl => ⟨g, 0, rfl, (h.own.lt g rfl).2, fun j hj => ?_⟩⟩⟩
  · rcases h.own.2 with ⟨h1, _⟩ | ⟨g', cap', cur, h1, _, _, h2, _⟩
    · simp at h1
    · simp only [Value.slice.injEq] at h1; omega
  · have hc : ∀ q u, q < 5 → (nodeC (md.getD j default) (kvs.getD j default))[q]? = some u → w.cell? ⟨g, 0 + j * 5 + q, none⟩ = some u := fun q u h5 hq => by
      rw [Nat.zero_add, h.own.cellAt (j * 5 + q) (by omega), cellsM_get md kvs h.klen j hj q h5]
      exact hq
    obtain ⟨k1, k2⟩ := h.kids j hj
    rcases k2 with ⟨k2, k3⟩ | ⟨g', cap', cur, k2, k3⟩
    · have k3' : (md.getD j default).kids = [] := List.length_eq_zero_iff.1 k3
      exact ⟨none, 0, 0, ⟨hc 0 _ (by decide) rfl, hc 1 _ (by decide) rfl, hc 2 _ (by decide) rfl, hc 3 _ (by decide) rfl, by rw [← k2]; exact hc 4 _ (by decide) rfl, ⟨by rw [k3']; rfl, Nat.le_refl _, fun h0 => absurd h0 (by omega)⟩⟩⟩
    · refine ⟨some ⟨g', 0, none⟩, (md.getD j default).kids.length, cap', ⟨hc 0 _ (by decide) rfl, hc 1 _ (by decide) rfl, hc 2 _ (by decide) rfl, hc 3 _ (by decide) rfl, by rw [← k2]; exact hc 4 _ (by decide) rfl, ⟨rfl, k3.2.2.1, fun h0 => ?_⟩⟩⟩
      have hown : w.ownsRow (E.b + 1) 3 1 (.slice (some ⟨g', 0, none⟩) (md.getD j default).kids.length cap') (md.getD j default).kids.length ((md.getD j default).kids.map (Value.int .i64)) := ⟨k1, .inr ⟨g', cap', cur, rfl, k3⟩⟩
      refine ⟨g', 0, rfl, (hown.lt g' rfl).2, fun q hq => ?_⟩
      rw [Nat.zero_add, hown.cellAt q (by omega)]
      show _ = some (Value.int .i64 ((md.getD j default).kids.getD q 0))
      generalize (md.getD j default).kids = zs at hq ⊢
      simp only [List.getElem?_map, List.getD]
      simp [hq]
theorem prog_table (hy : nxt R ⟨#[116, 97, 98, 108, 101]⟩ = true) (hk : ∀ ks u l, R = .ok ks (u :: l) → u.kind ≠ 4) : then' R (many progStep) = then' (knd R tableP) (many progStep) := by
  cases R with
  | err q c => rfl
  | ok ks l =>
    cases l with
    | nil => simp [nxt] at hy
    | cons u l =>
      have k1 := is_yes hy
      have k4 := hk ks u l rfl
      simp only [then', knd, Par.bind, Par.pure]
      have hs : progStep ks (u :: l) = match tableP (u :: l) with | .err p c => .err p c | .ok x l' => .ok (some (ks ++ [x])) l' := by
        simp only [progStep, Par.bind, peekP, if_neg k4, k1, Par.pure]
        cases tableP (u :: l) <;> rfl
      cases hf : tableP (u :: l) with
      | err q c => rw [hf] at hs; exact many_err hs
      | ok x l' => rw [hf] at hs; exact many_more step_prog hs
theorem prog_proc (hy : nxt R ⟨#[116, 97, 98, 108, 101]⟩ = false) (hk : ∀ ks u l, R = .ok ks (u :: l) → u.kind ≠ 4) (hn : ∀ ks l, R = .ok ks l → l ≠ []) : then' R (many progStep) = then' (knd R procP) (many progStep) := by
  cases R with
  | err q c => rfl
  | ok ks l =>
    cases l with
    | nil => exact absurd rfl (hn ks [] rfl)
    | cons u l =>
      have k1 := is_no (hn _ _ rfl) hy
      have k4 := hk ks u l rfl
      simp only [then', knd, Par.bind, Par.pure]
      have hs : progStep ks (u :: l) = match procP (u :: l) with | .err p c => .err p c | .ok x l' => .ok (some (ks ++ [x])) l' := by
        simp only [progStep, Par.bind, peekP, if_neg k4, k1, Par.pure]
        cases procP (u :: l) <;> rfl
      cases hf : procP (u :: l) with
      | err q c => rw [hf] at hs; exact many_err hs
      | ok x l' => rw [hf] at hs; exact many_more step_prog hs
theorem proc_no (hy : nxt R ⟨#[112, 114, 111, 99]⟩ = false) (hn : ∀ ks l, R = .ok ks l → l ≠ []) : knd R procP = then' R fun _ => (failP : Par (List Ast)) := by
  cases R with
  | err q c => rfl
  | ok ks l =>
    cases l with
    | nil => exact absurd rfl (hn ks [] rfl)
    | cons u l =>
      simp only [nxt, decide_eq_false_iff_not] at hy
      simp only [knd, then', Par.bind, procP, expectP, if_neg hy, failP]
theorem prog_done {ks : List Ast} {u : PT} {l : List PT} (hk : u.kind = 4) : then' (.ok ks (u :: l)) (many progStep) = .ok ks (u :: l) := by
  simp only [then']
  refine many_done ?_
  simp only [progStep, Par.bind, peekP, if_pos hk, Par.pure]
theorem left_knd {F : Par Ast} (hF : Takes F) {ks : List Ast} {l : List PT} (hl : l ≠ []) : left (knd (.ok ks l) F) < left (.ok ks l : Res (List Ast)) := by
  simp only [knd, then', Par.bind]
  cases hs : F l with
  | err q c => cases l with | nil => exact absurd rfl hl | cons t l => simp [left]
  | ok x l' => exact hF l x l' hs
theorem RS.begin (w4 : World) (g cap : Nat) (ts : List Tok) (xs : List Int) (hT : TR w4 g cap ts) (hx : lexS xs = .ok ts) (hb : xs.length ≤ 65536) :
    RS { W := w4, b := w4.heap.size, g := g, cap := cap, toks := ts, mp := .nilIface } (.slice none 0 0) [] [] 0 0 0 (w4.alloc (.cells #[.slice (some ⟨g, 0, none⟩) ts.length cap, .int .i64 0, .int .i64 0, .slice none 0 0, .int .i64 0] 81)) := by
  obtain ⟨vs, hts, hvs⟩ := lexS_shape hx
  have hlen := lexN_len _ _ _ _ hx
  have hgl := hT.lt
  have hpos : 0 < ts.length := by rw [hts]; simp
  refine { below := (Below.refl _ _).alloc (Nat.le_refl _) _, lt := by simp, gl := hgl, cap := hT.le, tok := ?_, oks := lexN_oks _ _ _ _ hx, last := ?_, row := by simp only; rw [World.alloc_heap_new]; rfl, it := hpos, few := ?_, dd := by omega, klen := rfl, own := World.ownsRow_nil _ _ _ _, kids := fun j hj => by simp at hj, apart := fun x hx => by simp at hx, pair := List.Pairwise.nil }
  · intro j i u hj hi
    have h5 : i < 5 := by have := (List.getElem?_eq_some_iff.1 hi).1; simpa [tokC5] using this
    have h1 : ts[j]? = some (ts.getD j (Tok.endAt 0)) := by simp only at hj; simp [List.getD, hj]
    have h2 := hT.cell (j * 5 + i) u (by rw [tok_cell ts j i _ h1 h5]; exact hi)
    simp only
    rw [World.cell?_of_block (w := w4) (a := ⟨g, j * 5 + i, none⟩) (Below.heap_alloc _ _ _ hgl)]
    exact h2
  · intro j hj hk
    simp only at hj hk ⊢
    rcases Nat.lt_or_ge (j + 1) ts.length with h | h
    · exact h
    · have hl : ts.length = vs.length + 1 := by rw [hts]; simp
      have : j = vs.length := by omega
      refine absurd ?_ hk
      rw [this, hts]
      simp [List.getD, Tok.endAt]
  · simp only; omega
end
def RefP (xs : List Int) (w : World) (x : Ending) (w' : World) : Prop := Below w.heap.size w w' ∧ match parseS xs with
  | .error (q, c) => x = .returned (.tuple #[.slice none 0 0, .int .i64 (q : Int), .int .i64 c]) ∧ c ≠ 0
  | .ok ns => ∃ g cap, x = .returned (.tuple #[.slice (some ⟨g, 0, none⟩) ns.length cap, .int .i64 0, .int .i64 0]) ∧ Tr.TV w' (some ⟨g, 0, none⟩) ns.length cap ns
end Go.Proofs.YtpemghcafbedeaaGreatDoor.Rf
end
section
namespace Go.Proofs.YtpemghcafbedeaaGreatDoor.Rf
open Go.RowKit Par
theorem prog_of {pts : List PT} {t0 : PT} {l0 : List PT} (h : pts = t0 :: l0) : programP pts = match many progStep [] pts with | .err q c => .err q c | .ok ks l => .ok (nodeA 1 t0.at' ks) l := by
  subst h
  simp only [programP, Par.bind, peekP, Par.pure]
  cases many progStep [] (t0 :: l0) <;> rfl
set_option maxRecDepth 1000000 in
set_option maxHeartbeats 8000000 in
theorem refParse_lex (w : World) (p : Option Addr) (len c : Nat) (xs : List Int) (h : Src w p len c xs) (hb : len ≤ 65536) (i : Nat) (er : Int) (hx : lexS xs = .error (i, er)) :
    Calls Tryz.prog 15 #[.slice p len c] w (RefP xs w) := by
  have her := lexAt_er xs xs.length 0 (by omega) (by omega) i er (by rw [← lexS_at]; exact hx)
  have her0 : (er != 0) = true := by simp; omega
  have HX : Hid (parseS xs = .error (i, er)) := Lib.hid (by simp only [parseS, hx])
  have LN := Lib.hid (ref_no h hb hx)
  clear h hx her
  go_enter Tryz.func15, Tryz.ntmps15
  go_wp2_with fail
  (with_reducible refine LN.out.mono ?_)
  rintro x w1 ⟨rfl, hb1⟩
  have HB := Lib.hid hb1
  clear LN hb1
  go_wp2
  simp [bodyPost, results, Tryz.results15, go_sem]
  refine ⟨HB.out, ?_⟩
  rw [HX.out]
  exact ⟨rfl, by simpa using her0⟩
set_option maxRecDepth 1000000 in
set_option maxHeartbeats 8000000 in
theorem refParse_run (w : World) (p : Option Addr) (len c : Nat) (xs : List Int) (h : Src w p len c xs) (hb : len ≤ 65536) (ts : List Tok) (hx : lexS xs = .ok ts) :
    Calls Tryz.prog 15 #[.slice p len c] w (RefP xs w) := by
  have LX := Lib.hid (ref_ok h hb hx)
  have HX := Lib.hid hx
  have HLN : Hid (xs.length ≤ 65536) := Lib.hid (by rw [h.1]; exact hb)
  clear h hx hb
  go_enter Tryz.func15, Tryz.ntmps15
  go_wp2_with fail
  (with_reducible refine LX.out.mono ?_)
  rintro x w4 ⟨g, cap, rfl, hT, hb4⟩
  have HB4 := Lib.hid hb4
  obtain ⟨E, hEW, hEb, hEt, hR0⟩ : ∃ E : Env, E.W = w4 ∧ w4.heap.size = E.b ∧ E.toks = ts ∧ RS E (.slice none 0 0) [] [] 0 0 0 (w4.alloc (.cells #[.slice (some ⟨g, 0, none⟩) ts.length cap, .int .i64 0, .int .i64 0, .slice none 0 0, .int .i64 0] 81)) :=
    ⟨_, rfl, rfl, rfl, RS.begin w4 g cap ts xs hT HX.out HLN.out⟩
  have HEW := Lib.hid hEW
  have HET := Lib.hid hEt
  have H0 := Lib.hid hR0
  clear LX hT hb4 hEW hEt hR0
  go_wp2_with fail
  obtain ⟨w5, hw5⟩ : ∃ w5, w4.alloc (.cells #[.slice (some ⟨g, 0, none⟩) ts.length cap, .int .i64 0, .int .i64 0, .slice none 0 0, .int .i64 0] 81) = w5 := ⟨_, rfl⟩
  rw [hw5] at H0 ⊢
  clear hw5
  have C5 := Lib.hid (node_at H0.out 1 (by decide))
  go_wp2_with fail
  (with_reducible refine C5.out.mono ?_)
  rintro x w6 ⟨v6, rfl, h6, _⟩
  have HP0 : Hid (E.pts = RT E 0 :: E.pts.drop 1) := Lib.hid (by have := h6.drop; simpa using this)
  have hpl : E.pts.length = ts.length := by simp [Env.pts, HET.out]
  have H6 : Hid (In E [] 1 (RT E 0).at' none0 0 (64 - ((64 : Nat) : Int)) (ts.length + 1) (ts.length + 1 + 1310) (.ok [] E.pts) w6) := Lib.hid ⟨v6, _, _, ⟨by simp only [List.length_nil, sizeL]; omega, by rw [open_nil]; rfl⟩, 0, by simp, h6⟩
  have HQ : Hid (ts.length + 1 ≤ 70001) := Lib.hid (by have := h6.few; rw [HET.out] at this; omega)
  have HPE : Hid (∀ q c, many progStep [] E.pts = .err q c → parseS xs = .error (q, c)) := Lib.hid fun q c e => by
    have h1 : ts.map ptOf = E.pts := by simp [Env.pts, HET.out]
    simp only [parseS, HX.out, h1, prog_of HP0.out, e]
  have HPO : Hid (∀ ks l, many progStep [] E.pts = .ok ks l → parseS xs = .ok (openN [] 1 (RT E 0).at' none0 0 ks)) := Lib.hid fun ks l e => by
    have h1 : ts.map ptOf = E.pts := by simp [Env.pts, HET.out]
    simp only [parseS, HX.out, h1, prog_of HP0.out, e, open_done, List.nil_append, List.length_nil, nodeA]
  clear C5 h6 H0 hpl
  go_wp2_with fail
  go_loopg [] (left (.ok [] E.pts : Res (List Ast))) (fun g wr => ∃ R1 : Res (List Ast), Hid (left R1 ≤ g) ∧ Hid (then' R1 (many progStep) = many progStep [] E.pts) ∧ Hid (In E [] 1 (RT E 0).at' none0 0 (64 - ((64 : Nat) : Int)) (ts.length + 1) (ts.length + 1 + 1310) R1 wr))
  case atStart => exact ⟨_, Lib.hid (Nat.le_refl _), Lib.hid rfl, H6⟩
  case round =>
    clear H6
    obtain ⟨R1, HG, HE, HL⟩ := hrel
    cases R1 with
    | err q c =>
      obtain ⟨v1, kvs1, md1, hs1, i, d', _, hc, ha, h1⟩ := HL.out
      have HH := Lib.hid h1
      obtain ⟨c0, c1, _, _, c4⟩ := h1.rowCells
      obtain ⟨_, k1, _, _⟩ := h1.tokCells
      rw [ha] at k1
      have b0 : (0 : Int) ≤ (i : Int) := by omega
      have b1 : (i : Int) < (E.toks.length : Int) := by have := h1.it; omega
      have hcap := h1.cap
      have hb : (c == 0) = false := by simpa using hc
      have hb' : (c != 0) = true := by simpa using hc
      have HF : Hid (∀ W, RS E v1 kvs1 md1 i d' c W → RefP xs w (.returned (.tuple #[.slice none 0 0, .int .i64 (q : Int), .int .i64 c])) W) := Lib.hid fun W hW => ⟨HB4.out.trans ((by have := hW.below; rw [HEW.out, ← hEb] at this; exact this : Below w4.heap.size w4 W).mono HB4.out.size), by rw [HPE.out q c HE.out.symm]; exact ⟨rfl, hc⟩⟩
      have HA := Lib.hid ha
      clear h1 hs1 ha hc hEb
      go_wp2_with fail
      go_quiet (fail)
      have HD := Lib.hid (HH.out.drewN nq)
      generalize wr.drewN nq = w2 at *
      clear c0 c1 c4 k1
      obtain ⟨c0, c1, _, _, c4⟩ := HD.out.rowCells
      obtain ⟨_, k1, _, _⟩ := HD.out.tokCells
      rw [HA.out] at k1
      go_wp2_with fail
      go_quiet (fail)
      have HG2 := Lib.hid (HF.out _ (HD.out.drewN nq))
      go_wp2
      simp [bodyPost, results, Tryz.results15, go_sem]
      exact HG2.out
    | ok ks l =>
      obtain ⟨v1, kvs1, md1, i, rfl, h1, hs1⟩ := HL.out.first
      have HH := Lib.hid h1
      obtain ⟨c0, c1, _, c3, c4⟩ := h1.rowCells
      obtain ⟨k0, _, _, _⟩ := h1.tokCells
      have b0 : (0 : Int) ≤ (i : Int) := by omega
      have b1 : (i : Int) < (E.toks.length : Int) := by have := h1.it; omega
      have hcap := h1.cap
      by_cases hk : (RT E i).kind = 4
      · have hb : ((RT E i).kind != 4) = false := by simp [hk]
        obtain ⟨g1, cap1, rfl, _, _⟩ := h1.own.form (by have := hs1.lt; omega)
        have HF : Hid (∀ W, RS E (.slice (some ⟨g1, 0, none⟩) md1.length cap1) kvs1 md1 i (64 - ((64 : Nat) : Int)) 0 W → RefP xs w (.returned (.tuple #[.slice (some ⟨g1, 0, none⟩) md1.length cap1, .int .i64 0, .int .i64 0])) W) := Lib.hid fun W hW => by
          refine ⟨HB4.out.trans ((by have := hW.below; rw [HEW.out, ← hEb] at this; exact this : Below w4.heap.size w4 W).mono HB4.out.size), ?_⟩
          rw [HPO.out ks _ (HE.out.symm.trans (prog_done hk))]
          obtain ⟨_, rfl⟩ := hs1
          obtain ⟨g', cap', e, ht⟩ := hW.tv (by rw [open_len]; omega)
          simp only [Value.slice.injEq, Option.some.injEq, Addr.mk.injEq, and_true, true_and] at e
          obtain ⟨rfl, rfl⟩ := e
          exact ⟨_, _, rfl, ht⟩
        clear h1 hs1 hk hEb
        generalize (RT E i).kind = kd at *
        go_wp2_with fail
        go_quiet (fail)
        have HD := Lib.hid (HH.out.drewN nq)
        generalize wr.drewN nq = w2 at *
        clear c0 c1 c3 c4 k0
        obtain ⟨c0, c1, _, c3, c4⟩ := HD.out.rowCells
        have HG2 := Lib.hid (HF.out _ HD.out)
        go_wp2
        simp [bodyPost, results, Tryz.results15, go_sem]
        exact HG2.out
      · have hb : ((RT E i).kind != 4) = true := by simp [hk]
        have HK4 : Hid (∀ ks' u l', (.ok ks (RT E i :: E.pts.drop (i + 1)) : Res (List Ast)) = .ok ks' (u :: l') → u.kind ≠ 4) := Lib.hid fun ks' u l' e => by
          simp only [Res.ok.injEq, List.cons.injEq] at e
          rw [← e.2.1]; exact hk
        have HLT : Hid (∀ F, Takes F → left (knd (.ok ks (RT E i :: E.pts.drop (i + 1))) F) < gk) := Lib.hid fun F hF => Nat.lt_of_lt_of_le (left_knd hF (by simp)) HG.out
        have HL0 : Hid (0 < gk) := Lib.hid (by have := HG.out; simp only [left, List.length_cons] at this; omega)
        clear h1 hs1 hk
        generalize (RT E i).kind = kd at *
        go_wp2_with fail
        go_quiet (fail)
        have HD := Lib.hid (HL.out.drewN nq)
        generalize wr.drewN nq = w2 at *
        clear c0 c1 c3 c4 k0
        have HN := Lib.hid HD.out.ne
        have C5 := Lib.hid (is_I HD.out ⟨#[116, 97, 98, 108, 101]⟩ (by decide) (by decide))
        obtain ⟨b5, y5⟩ := HD.out.look ⟨#[116, 97, 98, 108, 101]⟩
        rw [y5] at C5
        have HY5 := Lib.hid y5
        clear y5
        go_wp2_with fail
        (with_reducible refine C5.out.mono ?_)
        rintro x wd ⟨rfl, m, rfl⟩
        have H5 := Lib.hid (HD.out.drewN m)
        generalize w2.drewN m = w5 at *
        clear C5
        cases b5 with
        | true =>
          have C7 := Lib.hid (table_I H5.out HY5.out (by have := HQ.out; omega))
          go_wp2_with fail
          (with_reducible refine C7.out.mono ?_)
          rintro x w7 ⟨rfl, h7⟩
          have H7 := Lib.hid h7
          clear C7 h7
          have HE7 := Lib.hid ((prog_table HY5.out HK4.out).symm.trans HE.out)
          go_wp2_with fail
          go_roundg (left (knd (Res.ok ks (RT E i :: E.pts.drop (i + 1)) : Res (List Ast)) tableP))
          case rel => exact ⟨_, Lib.hid (Nat.le_refl _), HE7, H7⟩
          case measure => exact HLT.out _ takes_table
        | false =>
          have C6 := Lib.hid (is_I H5.out ⟨#[112, 114, 111, 99]⟩ (by decide) (by decide))
          obtain ⟨b6, y6⟩ := H5.out.look ⟨#[112, 114, 111, 99]⟩
          rw [y6] at C6
          have HY6 := Lib.hid y6
          clear y6
          go_wp2_with fail
          (with_reducible refine C6.out.mono ?_)
          rintro x wd ⟨rfl, m, rfl⟩
          have H6 := Lib.hid (H5.out.drewN m)
          generalize w5.drewN m = w6 at *
          clear C6
          cases b6 with
          | true =>
            have C7 := Lib.hid (proc_I H6.out HY6.out (by have := HQ.out; omega))
            go_wp2_with fail
            (with_reducible refine C7.out.mono ?_)
            rintro x w7 ⟨rfl, h7⟩
            have H7 := Lib.hid h7
            clear C7 h7
            have HE7 := Lib.hid ((prog_proc HY5.out HK4.out HN.out).symm.trans HE.out)
            go_wp2_with fail
            go_roundg (left (knd (Res.ok ks (RT E i :: E.pts.drop (i + 1)) : Res (List Ast)) procP))
            case rel => exact ⟨_, Lib.hid (Nat.le_refl _), HE7, H7⟩
            case measure => exact HLT.out _ takes_proc
          | false =>
            have C7 := Lib.hid (fail_I H6.out (by have := HQ.out; omega))
            go_wp2_with fail
            (with_reducible refine C7.out.mono ?_)
            rintro x w7 ⟨rfl, h7⟩
            have H7 := Lib.hid h7
            clear C7 h7
            have HE7 : Hid (then' (then' (Res.ok ks (RT E i :: E.pts.drop (i + 1)) : Res (List Ast)) fun _ => (failP : Par (List Ast))) (many progStep) = many progStep [] E.pts) := Lib.hid (by rw [← proc_no HY6.out HN.out]; exact (prog_proc HY5.out HK4.out HN.out).symm.trans HE.out)
            go_wp2_with fail
            go_roundg (left (then' (Res.ok ks (RT E i :: E.pts.drop (i + 1)) : Res (List Ast)) fun _ => (failP : Par (List Ast))))
            case rel => exact ⟨_, Lib.hid (Nat.le_refl _), HE7, H7⟩
            case measure => exact HL0.out
theorem refParse_at (w : World) (p : Option Addr) (len c : Nat) (xs : List Int) (h : Src w p len c xs) (hb : len ≤ 65536) : Calls Tryz.prog 15 #[.slice p len c] w (RefP xs w) := by
  cases hx : lexS xs with
  | error e => exact refParse_lex w p len c xs h hb e.1 e.2 hx
  | ok ts => exact refParse_run w p len c xs h hb ts hx
end Go.Proofs.YtpemghcafbedeaaGreatDoor.Rf
end
section
namespace Go.Proofs.YtpemghcafbedeaaGreatDoor.Rf
open Go.RowKit Par
set_option maxHeartbeats 4000000 in
set_option maxRecDepth 1000000 in
theorem sameInts_at (w : World) (p p2 : Option Addr) (len c c2 : Nat) (xs : List Int) (h : Tr.IV w p len c xs) (h2 : Tr.IV w p2 len c2 xs) (hl : len ≤ 70000) :
    Calls Tryz.prog 49 #[.slice p len c, .slice p2 len c2] w fun e w' => e = .returned (.bool true) ∧ Below w.heap.size w w' := by
  have H := Lib.hid h
  have H2 := Lib.hid h2
  clear h h2
  go_enter Tryz.func49, Tryz.ntmps49
  go_wp2_with fail
  go_loopw [5] (fun iv wr => ∃ k : Nat, k ≤ len ∧ iv = .int .i64 k ∧ Hid (Below w.heap.size w wr)) (fun iv _ => len - (intOf iv).toNat)
  case atStart => exact ⟨0, by omega, rfl, Lib.hid (Below.refl _ _)⟩
  case round =>
    obtain ⟨k, hk, rfl, HB⟩ := hrel
    by_cases hlt : k < len
    · obtain ⟨b, off, rfl, _, hc⟩ := (H.out.on HB.out).cell (by omega)
      obtain ⟨b2, off2, rfl, _, hc2⟩ := (H2.out.on HB.out).cell (by omega)
      have k0 := hc k hlt
      have u0 := hc2 k hlt
      generalize xs.getD k 0 = x at *
      clear hc hc2
      have hk0 : (0 : Int) ≤ (k : Int) := by omega
      have hk1 : (k : Int) < (len : Int) := by omega
      go_wp2_with fail
      go_quiet (fail)
      have HB2 := Lib.hid (HB.out.trans (Tr.drewN_below _ wr nq))
      clear k0 u0
      go_wp2
      go_roundw
      case rel => exact ⟨k + 1, by omega, by go_num, HB2⟩
      case measure => simp [intOf]; omega
    · go_wp2
      go_ret
      exact ⟨rfl, HB.out⟩
set_option maxHeartbeats 8000000 in
set_option maxRecDepth 1000000 in
theorem sameTree_at (W : World) (p1 p2 : Option Addr) (n c1 c2 : Nat) (ns : List Nd) (h1 : Tr.TV W p1 n c1 ns) (h2 : Tr.TV W p2 n c2 ns) (hn : n ≤ 70000) (hk : ∀ nd ∈ ns, nd.kids.length ≤ 70000) :
    Calls Tryz.prog 18 #[.agg #[.slice p1 n c1], .slice p2 n c2] W fun e w' => e = .returned (.bool true) ∧ Below W.heap.size W w' := by
  have H1 := Lib.hid h1
  have H2 := Lib.hid h2
  have HK := Lib.hid hk
  have HA := Lib.hid h1.len_eq
  clear h1 h2 hk
  go_enter Tryz.func18, Tryz.ntmps18
  go_wp2_with fail
  obtain ⟨W0, hW0⟩ : ∃ W0, W.alloc (.cells #[.slice p1 n c1] 26) = W0 := ⟨_, rfl⟩
  have hb0 : Below W.heap.size W W0 := by rw [← hW0]; exact (Below.refl _ _).alloc (Nat.le_refl _) _
  have BX : Hid (W.heap.size < W0.heap.size ∧ W0.cell? ⟨W.heap.size, 0, none⟩ = some (.slice p1 n c1)) := Lib.hid (by rw [← hW0]; exact ⟨by simp, by rw [cell_of_row _ _ _ _ _ _ (heap_alloc_new W _)]; rfl⟩)
  have B0 := Lib.hid hb0
  rw [hW0]
  clear hW0 hb0
  go_loopw [5] (fun iv wr => ∃ k : Nat, k ≤ n ∧ iv = .int .i64 k ∧ Hid (Below W0.heap.size W0 wr)) (fun iv _ => n - (intOf iv).toNat)
  case atStart => exact ⟨0, by omega, rfl, Lib.hid (Below.refl _ _)⟩
  case round =>
    obtain ⟨k, hk, rfl, HB⟩ := hrel
    have hbw : Below W.heap.size W wr := B0.out.trans (HB.out.mono B0.out.size)
    by_cases hlt : k < n
    · obtain ⟨b, off, rfl, hbl, hc⟩ := (H1.out.on hbw).node (by omega)
      obtain ⟨b2, off2, rfl, hbl2, hc2⟩ := (H2.out.on hbw).node (by omega)
      obtain ⟨kp, kl, kc, hn1⟩ := hc k hlt
      obtain ⟨kp2, kl2, kc2, hn2⟩ := hc2 k hlt
      obtain rfl : kl2 = kl := by rw [← hn1.iv.len_eq, ← hn2.iv.len_eq]
      have hkl : kl2 ≤ 70000 := by
        rw [← hn1.iv.len_eq]
        exact HK.out _ (by have := HA.out; simp [List.getD, show k < ns.length by omega])
      generalize ns.getD k default = nd at *
      have kx := (HB.out.cell (p := ⟨W.heap.size, 0, none⟩) BX.out.1).trans BX.out.2
      have k0 := hn1.kind
      have k1 := hn1.at'
      have k2 := hn1.text
      have k3 := hn1.n
      have k4 := hn1.kids
      have m0 := hn2.kind
      have m1 := hn2.at'
      have m2 := hn2.text
      have m3 := hn2.n
      have m4 := hn2.kids
      have V1 := Lib.hid hn1.iv
      have V2 := Lib.hid hn2.iv
      have hk0 : (0 : Int) ≤ (k : Int) := by omega
      have hk1 : (k : Int) < (n : Int) := by omega
      clear hc hc2 hn1 hn2 hbw
      go_wp2_with fail
      obtain ⟨W1, hW1⟩ : ∃ W1, wr.alloc (.cells #[.int .u8 nd.kind, .int .i64 nd.at', .string nd.text, .int .i64 nd.n, .slice kp kl2 kc] 53) = W1 := ⟨_, rfl⟩
      obtain ⟨q, hq⟩ : ∃ q, wr.heap.size = q := ⟨_, rfl⟩
      have hrow : W1.heap[q]? = some (.cells #[.int .u8 nd.kind, .int .i64 nd.at', .string nd.text, .int .i64 nd.n, .slice kp kl2 kc] 53 (0, 0)) := by rw [← hW1, ← hq]; exact heap_alloc_new wr _
      have hB1 : Below wr.heap.size wr W1 := by rw [← hW1]; exact (Below.refl _ _).alloc (Nat.le_refl _) _
      have hq1 : q < W1.heap.size := (Array.getElem?_eq_some_iff.1 hrow).1
      have f0 : W1.cell? ⟨q, 0, none⟩ = some (.int .u8 nd.kind) := by rw [cell_of_row _ _ _ _ _ _ hrow]; rfl
      have f1 : W1.cell? ⟨q, 1, none⟩ = some (.int .i64 nd.at') := by rw [cell_of_row _ _ _ _ _ _ hrow]; rfl
      have f2 : W1.cell? ⟨q, 2, none⟩ = some (.string nd.text) := by rw [cell_of_row _ _ _ _ _ _ hrow]; rfl
      have f3 : W1.cell? ⟨q, 3, none⟩ = some (.int .i64 nd.n) := by rw [cell_of_row _ _ _ _ _ _ hrow]; rfl
      have f4 : W1.cell? ⟨q, 4, none⟩ = some (.slice kp kl2 kc) := by rw [cell_of_row _ _ _ _ _ _ hrow]; rfl
      have g0 := (hB1.cell (p := ⟨b2, off2 + k * 5, none⟩) hbl2).trans m0
      have g1 := (hB1.cell (p := ⟨b2, off2 + k * 5 + 1, none⟩) hbl2).trans m1
      have g2 := (hB1.cell (p := ⟨b2, off2 + k * 5 + 2, none⟩) hbl2).trans m2
      have g3 := (hB1.cell (p := ⟨b2, off2 + k * 5 + 3, none⟩) hbl2).trans m3
      have g4 := (hB1.cell (p := ⟨b2, off2 + k * 5 + 4, none⟩) hbl2).trans m4
      have hb2 : b2 < W1.heap.size := Nat.lt_of_lt_of_le hbl2 hB1.size
      have SI : Hid (∀ W', Below W1.heap.size W1 W' → Calls Tryz.prog 49 #[.slice kp kl2 kc, .slice kp2 kl2 kc2] W' fun e W'' => e = .returned (.bool true) ∧
          W''.cell? ⟨q, 0, none⟩ = some (.int .u8 nd.kind) ∧ W''.cell? ⟨q, 1, none⟩ = some (.int .i64 nd.at') ∧ W''.cell? ⟨q, 2, none⟩ = some (.string nd.text) ∧ W''.cell? ⟨q, 3, none⟩ = some (.int .i64 nd.n) ∧ W''.cell? ⟨q, 4, none⟩ = some (.slice kp kl2 kc) ∧
          W''.cell? ⟨b2, off2 + k * 5, none⟩ = some (.int .u8 nd.kind) ∧ W''.cell? ⟨b2, off2 + k * 5 + 1, none⟩ = some (.int .i64 nd.at') ∧ W''.cell? ⟨b2, off2 + k * 5 + 2, none⟩ = some (.string nd.text) ∧ W''.cell? ⟨b2, off2 + k * 5 + 3, none⟩ = some (.int .i64 nd.n) ∧ W''.cell? ⟨b2, off2 + k * 5 + 4, none⟩ = some (.slice kp2 kl2 kc2) ∧ Below W1.heap.size W1 W'') := Lib.hid fun W' hb =>
        (sameInts_at W' kp kp2 kl2 kc kc2 nd.kids (V1.out.on (hB1.trans (hb.mono hB1.size))) (V2.out.on (hB1.trans (hb.mono hB1.size))) hkl).mono fun e W'' ⟨h, hbb⟩ => by
          have hb' : Below W1.heap.size W1 W'' := hb.trans (hbb.mono hb.size)
          exact ⟨h, (hb'.cell (p := ⟨q, 0, none⟩) hq1).trans f0, (hb'.cell (p := ⟨q, 1, none⟩) hq1).trans f1, (hb'.cell (p := ⟨q, 2, none⟩) hq1).trans f2, (hb'.cell (p := ⟨q, 3, none⟩) hq1).trans f3, (hb'.cell (p := ⟨q, 4, none⟩) hq1).trans f4,
            (hb'.cell (p := ⟨b2, off2 + k * 5, none⟩) hb2).trans g0, (hb'.cell (p := ⟨b2, off2 + k * 5 + 1, none⟩) hb2).trans g1, (hb'.cell (p := ⟨b2, off2 + k * 5 + 2, none⟩) hb2).trans g2, (hb'.cell (p := ⟨b2, off2 + k * 5 + 3, none⟩) hb2).trans g3, (hb'.cell (p := ⟨b2, off2 + k * 5 + 4, none⟩) hb2).trans g4, hb'⟩
      have hbd : Below W1.heap.size W1 W1.drew := (Below.refl _ _).drew
      have HB3 : Hid (Below W0.heap.size W0 W1) := Lib.hid (HB.out.trans (hB1.mono HB.out.size))
      rw [hW1, hq]
      clear kx k0 k1 k2 k3 k4 m0 m1 m2 m3 m4 hW1 hq hrow hB1 hbl hbl2 HB V1 V2
      go_region_held3 (fun w' => w'.cell? ⟨q, 0, none⟩ = some (.int .u8 nd.kind) ∧ w'.cell? ⟨q, 1, none⟩ = some (.int .i64 nd.at') ∧ w'.cell? ⟨q, 2, none⟩ = some (.string nd.text) ∧ w'.cell? ⟨q, 3, none⟩ = some (.int .i64 nd.n) ∧ w'.cell? ⟨q, 4, none⟩ = some (.slice kp kl2 kc) ∧
          w'.cell? ⟨b2, off2 + k * 5, none⟩ = some (.int .u8 nd.kind) ∧ w'.cell? ⟨b2, off2 + k * 5 + 1, none⟩ = some (.int .i64 nd.at') ∧ w'.cell? ⟨b2, off2 + k * 5 + 2, none⟩ = some (.string nd.text) ∧ w'.cell? ⟨b2, off2 + k * 5 + 3, none⟩ = some (.int .i64 nd.n) ∧ w'.cell? ⟨b2, off2 + k * 5 + 4, none⟩ = some (.slice kp2 kl2 kc2) ∧ Below W1.heap.size W1 w') (go_keep)
        (first
          | (go_at_call 49; (with_reducible refine (SI.out _ ?_).mono ?_); (first | assumption | exact hbd); rintro e w' ⟨rfl, q0, q1, q2, q3, q4, q5, q6, q7, q8, q9, q10⟩))
      go_wp2_with fail
      go_roundw
      case rel => exact ⟨k + 1, by omega, by first | rfl | go_num, Lib.hid (HB3.out.trans (q10.mono HB3.out.size))⟩
      case measure => simp [intOf]; omega
    · go_wp2
      go_ret
      exact ⟨rfl, B0.out.trans (HB.out.mono B0.out.size)⟩
end Go.Proofs.YtpemghcafbedeaaGreatDoor.Rf
end
section
namespace Go.Proofs.YtpemghcafbedeaaGreatDoor
open Go.RowKit
set_option maxHeartbeats 1000000 in
theorem any_big (w : World) (p : Option Addr) (len c : Nat) (hg : ET w) (hb : 1000 < len) :
    Calls Tryz.prog 3 #[.slice p len c] w fun e w' => e = .returned (.bool true) ∧ Below w.heap.size w w' := by
  have WK := Lib.hid (works_at w hg)
  clear hg
  go_enter Tryz.func3, Tryz.ntmps3
  go_wp2_with fail
  (with_reducible refine WK.out.mono ?_)
  rintro e w1 ⟨rfl, hb1⟩
  go_wp2
  go_ret
  exact ⟨rfl, hb1⟩
theorem parse_no {w : World} {p : Option Addr} {len c : Nat} {xs : List Int} {i : Nat} {er : Int} (h : Src w p len c xs) (hb : len ≤ 65536) (he : parseS xs = .error (i, er)) :
    Calls Tryz.prog 14 #[.slice p len c] w fun e w' => ∃ C l cc, e = .returned (.tuple #[.agg #[.slice none 0 0], .iface 86 (.pointer (some ⟨C, 0, none⟩))]) ∧ ErrAt w' C (i : Int) l cc er ∧ Below w.heap.size w w' :=
  (parse_at w p len c xs h hb).mono fun e w' ⟨h1, h2⟩ => by
    rw [he] at h2
    obtain ⟨C, l, cc, e1, e2⟩ := h2
    exact ⟨C, l, cc, e1, e2, h1⟩
theorem parse_ok {w : World} {p : Option Addr} {len c : Nat} {xs : List Int} {ns : List Nd} (h : Src w p len c xs) (hb : len ≤ 65536) (he : parseS xs = .ok ns) :
    Calls Tryz.prog 14 #[.slice p len c] w fun e w' => ∃ q n cap, e = .returned (.tuple #[.agg #[.slice q n cap], .nilIface]) ∧ Tr.TV w' q n cap ns ∧ Below w.heap.size w w' :=
  (parse_at w p len c xs h hb).mono fun e w' ⟨h1, h2⟩ => by
    rw [he] at h2
    obtain ⟨q, n, cap, e1, e2⟩ := h2
    exact ⟨q, n, cap, e1, e2, h1⟩
theorem rparse_no {w : World} {p : Option Addr} {len c : Nat} {xs : List Int} {i : Nat} {er : Int} (h : Src w p len c xs) (hb : len ≤ 65536) (he : parseS xs = .error (i, er)) :
    Calls Tryz.prog 15 #[.slice p len c] w fun e w' => e = .returned (.tuple #[.slice none 0 0, .int .i64 (i : Int), .int .i64 er]) ∧ er ≠ 0 ∧ Below w.heap.size w w' :=
  (Rf.refParse_at w p len c xs h hb).mono fun e w' ⟨h1, h2⟩ => by
    rw [he] at h2
    exact ⟨h2.1, h2.2, h1⟩
theorem rparse_ok {w : World} {p : Option Addr} {len c : Nat} {xs : List Int} {ns : List Nd} (h : Src w p len c xs) (hb : len ≤ 65536) (he : parseS xs = .ok ns) :
    Calls Tryz.prog 15 #[.slice p len c] w fun e w' => ∃ g cap, e = .returned (.tuple #[.slice (some ⟨g, 0, none⟩) ns.length cap, .int .i64 0, .int .i64 0]) ∧ Tr.TV w' (some ⟨g, 0, none⟩) ns.length cap ns ∧ Below w.heap.size w w' :=
  (Rf.refParse_at w p len c xs h hb).mono fun e w' ⟨h1, h2⟩ => by
    rw [he] at h2
    obtain ⟨g, cap, e1, e2⟩ := h2
    exact ⟨g, cap, e1, e2, h1⟩
theorem tv_none (W : World) : Tr.TV W none 0 0 [] := ⟨rfl, Nat.le_refl _, fun h => absurd h (by omega)⟩
set_option maxHeartbeats 4000000 in
set_option maxRecDepth 1000000 in
theorem any_err (w : World) (p : Option Addr) (len c : Nat) (xs : List Int) (hs : Src w p len c xs) (hg : ET w) (hb : len ≤ 1000) (i : Nat) (er : Int) (hx : parseS xs = .error (i, er)) :
    Calls Tryz.prog 3 #[.slice p len c] w fun e w' => e = .returned (.bool true) ∧ Below w.heap.size w w' := by
  obtain ⟨s, w1, cap0, hc1, hc2, hb1, hs1⟩ := own_src w p len c xs hs
  have LX := Lib.hid (parse_no hs1 (by omega) hx)
  have HG := Lib.hid hg
  have HS := Lib.hid hs
  have HS1 := Lib.hid hs1
  have HXX := Lib.hid hx
  have B1 := Lib.hid hb1
  clear hg hs hs1 hx hb1
  go_enter Tryz.func3, Tryz.ntmps3
  go_wp2_with fail
  clear hc1 hc2
  (with_reducible refine LX.out.mono ?_)
  rintro e w2 ⟨b, l, cc, rfl, hE, hb2⟩
  have hb23 : Below w2.heap.size w2 (w2.alloc (.cells #[.slice none 0 0] 26)) := (Below.refl _ _).alloc (Nat.le_refl _) _
  have BX : Hid (w2.heap.size < (w2.alloc (.cells #[.slice none 0 0] 26)).heap.size ∧ (w2.alloc (.cells #[.slice none 0 0] 26)).cell? ⟨w2.heap.size, 0, none⟩ = some (.slice none 0 0)) := Lib.hid ⟨by simp, by rw [cell_of_row _ _ _ _ _ _ (heap_alloc_new w2 _)]; rfl⟩
  have B3 := Lib.hid (B1.out.trans ((hb2.trans (hb23.mono hb2.size)).mono B1.out.size))
  have E3 := Lib.hid (hE.on hb23)
  have S3 := Lib.hid ((HS1.out.below hb2).below hb23)
  have RF := Lib.hid (rparse_no (HS.out.below B3.out) (by omega) HXX.out)
  clear LX hE hb2 HS1
  go_wp2_with fail
  generalize w2.alloc (.cells #[.slice none 0 0] 26) = w3 at *
  clear hb23
  (with_reducible refine RF.out.mono ?_)
  rintro e w4 ⟨rfl, her, hb4⟩
  have hea : (er != 0) = true := by simpa using her
  have B4 := Lib.hid (B3.out.trans (hb4.mono B3.out.size))
  have E4 := Lib.hid (E3.out.on hb4)
  have S4 := Lib.hid (S3.out.below hb4)
  have X4 : Hid (w2.heap.size < w4.heap.size ∧ w4.cell? ⟨w2.heap.size, 0, none⟩ = some (.slice none 0 0)) := Lib.hid ⟨Nat.lt_of_lt_of_le BX.out.1 hb4.size, (hb4.cell (p := ⟨w2.heap.size, 0, none⟩) BX.out.1).trans BX.out.2⟩
  have PE := Lib.hid (place_err (HG.out.below B4.out) E4.out)
  clear RF hb4 E3 S3 B3 BX her
  go_wp2_with fail
  (with_reducible refine PE.out.mono ?_)
  rintro e w5 ⟨rfl, hb5⟩
  have B5 := Lib.hid (B4.out.trans (hb5.mono B4.out.size))
  have E5 := Lib.hid (E4.out.on hb5)
  have S5 := Lib.hid (S4.out.below hb5)
  have X5 : Hid (w2.heap.size < w5.heap.size ∧ w5.cell? ⟨w2.heap.size, 0, none⟩ = some (.slice none 0 0)) := Lib.hid ⟨Nat.lt_of_lt_of_le X4.out.1 hb5.size, (hb5.cell (p := ⟨w2.heap.size, 0, none⟩) X4.out.1).trans X4.out.2⟩
  have CE := Lib.hid (code_err (HG.out.below B5.out) E5.out)
  clear PE hb5 E4 S4 B4 X4
  go_wp2_with fail
  (with_reducible refine CE.out.mono ?_)
  rintro e w6 ⟨rfl, hb6⟩
  have B6 := Lib.hid (B5.out.trans (hb6.mono B5.out.size))
  have S6 := Lib.hid (S5.out.below hb6)
  have x6 := (hb6.cell (p := ⟨w2.heap.size, 0, none⟩) X5.out.1).trans X5.out.2
  have SN := Lib.hid (Rf.sameTree_at w6 none none 0 0 0 [] (tv_none _) (tv_none _) (by omega) (by simp))
  clear CE hb6 E5 S5 B5 X5
  go_wp2_with fail
  (with_reducible refine SN.out.mono ?_)
  rintro e w7 ⟨rfl, hb7⟩
  have B7 := Lib.hid (B6.out.trans (hb7.mono B6.out.size))
  have SB := Lib.hid (sameBytes_at w7 _ _ len cap0 c xs (S6.out.below hb7) (HS.out.below B7.out))
  clear SN hb7 S6 B6 x6
  go_wp2_with fail
  (with_reducible refine SB.out.mono ?_)
  rintro e w8 ⟨rfl, rfl⟩
  have WK := Lib.hid (works_at w7 (HG.out.below B7.out))
  clear SB
  go_wp2_with fail
  (with_reducible refine WK.out.mono ?_)
  rintro e w9 ⟨rfl, hb9⟩
  have B9 := Lib.hid (B7.out.trans (hb9.mono B7.out.size))
  clear WK hb9 B7
  go_wp2
  go_ret
  exact ⟨rfl, B9.out⟩
set_option maxHeartbeats 4000000 in
set_option maxRecDepth 1000000 in
theorem any_ok (w : World) (p : Option Addr) (len c : Nat) (xs : List Int) (hs : Src w p len c xs) (hg : ET w) (hb : len ≤ 1000) (ns : List Nd) (hx : parseS xs = .ok ns) :
    Calls Tryz.prog 3 #[.slice p len c] w fun e w' => e = .returned (.bool true) ∧ Below w.heap.size w w' := by
  obtain ⟨s, w1, cap0, hc1, hc2, hb1, hs1⟩ := own_src w p len c xs hs
  have hsm := parse_few hx (by have := hs.1; omega)
  have LX := Lib.hid (parse_ok hs1 (by omega) hx)
  have HG := Lib.hid hg
  have HS := Lib.hid hs
  have HS1 := Lib.hid hs1
  have HXX := Lib.hid hx
  have HSM := Lib.hid hsm
  have B1 := Lib.hid hb1
  clear hg hs hs1 hx hb1 hsm
  go_enter Tryz.func3, Tryz.ntmps3
  go_wp2_with fail
  clear hc1 hc2
  (with_reducible refine LX.out.mono ?_)
  rintro e w2 ⟨q, n, cap, rfl, hT, hb2⟩
  have hb23 : Below w2.heap.size w2 (w2.alloc (.cells #[.slice q n cap] 26)) := (Below.refl _ _).alloc (Nat.le_refl _) _
  have BX : Hid (w2.heap.size < (w2.alloc (.cells #[.slice q n cap] 26)).heap.size ∧ (w2.alloc (.cells #[.slice q n cap] 26)).cell? ⟨w2.heap.size, 0, none⟩ = some (.slice q n cap)) := Lib.hid ⟨by simp, by rw [cell_of_row _ _ _ _ _ _ (heap_alloc_new w2 _)]; rfl⟩
  have B3 := Lib.hid (B1.out.trans ((hb2.trans (hb23.mono hb2.size)).mono B1.out.size))
  have T3 := Lib.hid (hT.on hb23)
  have S3 := Lib.hid ((HS1.out.below hb2).below hb23)
  have RF0 := rparse_ok (HS.out.below B3.out) (by omega) HXX.out
  rw [hT.len_eq] at RF0
  have RF := Lib.hid RF0
  clear LX hT hb2 HS1 RF0
  go_wp2_with fail
  generalize w2.alloc (.cells #[.slice q n cap] 26) = w3 at *
  clear hb23
  (with_reducible refine RF.out.mono ?_)
  rintro e w4 ⟨g, cap2, rfl, hR, hb4⟩
  have B4 := Lib.hid (B3.out.trans (hb4.mono B3.out.size))
  have T4 := Lib.hid (T3.out.on hb4)
  have R4 := Lib.hid hR
  have S4 := Lib.hid (S3.out.below hb4)
  have X4 : Hid (w2.heap.size < w4.heap.size ∧ w4.cell? ⟨w2.heap.size, 0, none⟩ = some (.slice q n cap)) := Lib.hid ⟨Nat.lt_of_lt_of_le BX.out.1 hb4.size, (hb4.cell (p := ⟨w2.heap.size, 0, none⟩) BX.out.1).trans BX.out.2⟩
  have PE := Lib.hid (place_nilA w4)
  clear RF hb4 T3 S3 B3 BX hR
  go_wp2_with fail
  (with_reducible refine PE.out.mono ?_)
  rintro e w5 ⟨rfl, hb5⟩
  have B5 := Lib.hid (B4.out.trans (hb5.mono B4.out.size))
  have T5 := Lib.hid (T4.out.on hb5)
  have R5 := Lib.hid (R4.out.on hb5)
  have S5 := Lib.hid (S4.out.below hb5)
  have X5 : Hid (w2.heap.size < w5.heap.size ∧ w5.cell? ⟨w2.heap.size, 0, none⟩ = some (.slice q n cap)) := Lib.hid ⟨Nat.lt_of_lt_of_le X4.out.1 hb5.size, (hb5.cell (p := ⟨w2.heap.size, 0, none⟩) X4.out.1).trans X4.out.2⟩
  have CE := Lib.hid (code_none w5)
  clear PE hb5 T4 R4 S4 B4 X4
  go_wp2_with fail
  (with_reducible refine CE.out.mono ?_)
  rintro e w6 ⟨rfl, hb6⟩
  have B6 := Lib.hid (B5.out.trans (hb6.mono B5.out.size))
  have S6 := Lib.hid (S5.out.below hb6)
  have x6 := (hb6.cell (p := ⟨w2.heap.size, 0, none⟩) X5.out.1).trans X5.out.2
  have SN := Lib.hid (Rf.sameTree_at w6 q (some ⟨g, 0, none⟩) n cap cap2 ns (T5.out.on hb6) (R5.out.on hb6) (by rw [← T5.out.len_eq]; exact HSM.out.1) HSM.out.2)
  clear CE hb6 T5 R5 S5 B5 X5
  go_wp2_with fail
  (with_reducible refine SN.out.mono ?_)
  rintro e w7 ⟨rfl, hb7⟩
  have B7 := Lib.hid (B6.out.trans (hb7.mono B6.out.size))
  have SB := Lib.hid (sameBytes_at w7 _ _ len cap0 c xs (S6.out.below hb7) (HS.out.below B7.out))
  clear SN hb7 S6 B6 x6
  go_wp2_with fail
  (with_reducible refine SB.out.mono ?_)
  rintro e w8 ⟨rfl, rfl⟩
  have WK := Lib.hid (works_at w7 (HG.out.below B7.out))
  clear SB
  go_wp2_with fail
  (with_reducible refine WK.out.mono ?_)
  rintro e w9 ⟨rfl, hb9⟩
  have B9 := Lib.hid (B7.out.trans (hb9.mono B7.out.size))
  clear WK hb9 B7
  go_wp2
  go_ret
  exact ⟨rfl, B9.out⟩
theorem parseAny (w : World) (p : Option Addr) (len c : Nat) (xs : List Int) (hs : Src w p len c xs) (hg : ET w) :
    Calls Tryz.prog 3 #[.slice p len c] w fun e w' => e = .returned (.bool true) ∧ Below w.heap.size w w' := by
  by_cases hb : len ≤ 1000
  · cases hx : parseS xs with
    | error e => exact any_err w p len c xs hs hg hb e.1 e.2 hx
    | ok ns => exact any_ok w p len c xs hs hg hb ns hx
  · exact any_big w p len c hg (by omega)
end Go.Proofs.YtpemghcafbedeaaGreatDoor
end
