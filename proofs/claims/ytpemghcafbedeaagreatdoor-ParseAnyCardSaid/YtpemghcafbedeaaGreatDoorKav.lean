/- Contracts on the way to the laws of layer 5: ParseSb6, ParseSb7, ParseSb8, ParseSb9, ParseSb10, ParseSb11, ParseSb12, ParseSd. -/
import Derived.Test.YtpemghcafbedeaaGreatDoorKau
import Derived.Deep.LoopGhost
import Derived.Deep.RegionHeld3
import Derived.Deep.Cut
set_option linter.all false
section
namespace Go.Proofs.YtpemghcafbedeaaGreatDoor.Rf
open Go.RowKit Par
section
variable {p : List Nd} {k : Int} {a : Nat} {t : ByteArray} {n : Int} {Q B : Nat} {R : Res (List Ast)} {md : List Nd} {E : Env} {v : Value} {kvs : List Value} {d : Int} {w w' : World} {i : Nat}
set_option maxRecDepth 1000000 in
set_option maxHeartbeats 8000000 in
theorem stmt_6 {r : Nat} {ks : List Ast} (hbk : HasB r) (hs : Sh p k a t n Q B (.ok ks (RT E i :: E.pts.drop (i + 1))) md) (h : RS E v kvs md i (64 - (r : Int)) 0 w) (hr : r ≤ 64) (hQ : Q + 20 * r + 24 ≤ B ∧ Q ≤ 200000) (hj : words13.idxOf (RT E i).txt = 6) :
    Calls Tryz.prog 146 #[.pointer (some ⟨E.b, 0, none⟩), .int .i64 (p.length : Int)] w fun x w' => x = .returned (.tuple #[]) ∧ In E p k a t n (64 - (r : Int)) Q B (knd (.ok ks (RT E i :: E.pts.drop (i + 1))) (stmtP r (blockP r))) w' := by
  obtain ⟨c0, c1, _, _, c4⟩ := h.rowCells
  obtain ⟨k0, _, _, _⟩ := h.tokCells
  have b0 : (0 : Int) ≤ (i : Int) := by omega
  have b1 : (i : Int) < (E.toks.length : Int) := by have := h.it; omega
  have hcap := h.cap
  have hwj := word13_ne (j := 6) (by decide)
  have ht : (RT E i).kind = 1 := pt_word h.ptOk (words13.getD 6 none0) hwj.2 hwj.1 (word13 hj (by decide))
  have hb : ((RT E i).kind == 1) = true := by simp [ht]
  have HN : Hid ((RT E i).txt ≠ none0) := Lib.hid (by rw [word13 hj (by decide)]; exact hwj.1)
  have HH := Lib.hid h
  have HSh := Lib.hid hs
  have HQ := Lib.hid hQ
  have HR := Lib.hid hr
  have HJ := Lib.hid hj
  have HBK := Lib.hid hbk
  have HB : Hid (Q + 20 * r + 24 ≤ 400000) := Lib.hid (by omega)
  have HK0 : Hid (kindW (RT E i).txt = 13) := Lib.hid (by unfold kindW; rw [hj]; rfl)
  clear h hs hQ hj hbk hr ht hwj
  generalize (RT E i).kind = kd at *
  go_enter Tryz.func146, Tryz.ntmps146
  go_wp2_with fail
  go_quiet (fail)
  have HD := Lib.hid (HH.out.drewN nq)
  have C1 := Lib.hid (text_at HD.out)
  generalize w.drewN nq = w1 at *
  clear c0 c1 c4 k0
  go_wp2_with fail
  (with_reducible refine C1.out.mono ?_)
  rintro x wd ⟨rfl, m, rfl⟩
  have H2 := Lib.hid (HD.out.drewN m)
  generalize w1.drewN m = w2 at *
  clear C1
  have C2 : Hid (Calls Tryz.prog 186 #[.string (RT E i).txt] w2 fun x w' => x = .returned (.int .u8 13) ∧ w' = w2.alloc (.cells C13 9)) := Lib.hid (by have := kind_at w2 (RT E i).txt; rw [HK0.out] at this; exact this)
  go_wp2_with fail
  (with_reducible refine C2.out.mono ?_)
  rintro x wd ⟨rfl, rfl⟩
  have H3 := Lib.hid (In.of_first HSh.out (H2.out.alloc (.cells C13 9)) (Q + 20 * r + 12))
  generalize w2.alloc (.cells C13 9) = w3 at *
  clear C2
  have C4 := Lib.hid (kid_I H3.out (by omega) (by have := HB.out; omega))
  go_wp2_with fail
  (with_reducible refine C4.out.mono ?_)
  rintro x w4 ⟨rfl, v4, kvs4, p2, ho, h4⟩
  have HO := Lib.hid ho
  have C5 := Lib.hid (node_I ho h4 (by omega) (by have := HB.out; omega) 13)
  clear C4 ho h4
  go_wp2_with fail
  (with_reducible refine C5.out.mono ?_)
  rintro x w5 ⟨rfl, h5⟩
  have h5 : In E p2 13 (RT E i).at' none0 0 (64 - (r : Int)) (Q + 1) (Q + 20 * r + 12 + 1) (.ok [] (RT E i :: E.pts.drop (i + 1))) w5 := h5
  obtain ⟨i6, h63, c16, cz6, h6⟩ := inc_ok h5 (by omega) HN.out
  have H6 := Lib.hid h6
  clear C5 h5 h6
  go_upto_region 8 with fail
  generalize w5.setCell ⟨E.b, 1, none⟩ (.int .i64 ((i6 : Int) + 1)) = w6 at *
  clear c16 cz6
  have C7 := Lib.hid (kid_I H6.out (by omega) (by have := HB.out; omega))
  go_wp2_with fail
  (with_reducible refine C7.out.mono ?_)
  rintro x w7 ⟨rfl, v7, kvs7, p3, ho, h7⟩
  have HO2 := Lib.hid ho
  have C8 := Lib.hid (node_I ho h7 (by omega) (by have := HB.out; omega) 5)
  clear C7 ho h7
  go_wp2_with fail
  (with_reducible refine C8.out.mono ?_)
  rintro x w8 ⟨rfl, h8⟩
  have h8 : In E p3 5 (hda (Res.ok [] (E.pts.drop (i + 1)) : Res (List Ast))) none0 0 (64 - (r : Int)) (Q + 1) (Q + 20 * r + 12 + 1 + 1) (.ok [] (E.pts.drop (i + 1))) w8 := h8
  have H8 := Lib.hid h8
  clear C8 h8
  obtain ⟨g9, len9, cap9, hn9, hc9⟩ := name_IT H8.out.drew (by have := HQ.out; omega)
  have c39 := hn9.c3
  have b09 : (0 : Int) ≤ (p3.length : Int) := by omega
  have b19 : (p3.length : Int) < (len9 : Int) := by have := hn9.lt; omega
  have gb9 := hn9.gb
  have NM9 := Lib.hid hc9
  clear hn9 hc9
  go_wp2_with fail
  go_region_held3 (fun w' => w'.cell? ⟨E.b, 3, none⟩ = some (.slice (some ⟨g9, 0, none⟩) len9 cap9)) (first | exact c39 | exact k39 | exact (World.cell?_of_block (w := v9) (a := ⟨E.b, 3, none⟩) (Below.heap_setCell _ _ _ _ gb9)).trans k39)
    (first
      | (go_at_call 97; (with_reducible refine NM9.out.mono ?_); rintro x v9 ⟨s9, rfl, hd9, hm9, hi9⟩; have k39 := hm9.c3; have z59 := hm9.fz 2; obtain ⟨t59, k59⟩ := hm9.t0; have H9 := Lib.hid hi9; have HD9 := Lib.hid hd9; clear hm9 hi9 hd9))
  generalize v9.setCell ⟨g9, p3.length * 5 + 2, none⟩ (.string s9) = w9 at *
  clear c39 k39 z59 k59 NM9
  have C10 := Lib.hid (is_I H9.out ⟨#[91]⟩ (by decide) (by decide))
  obtain ⟨b10, y10⟩ := H9.out.look ⟨#[91]⟩
  rw [y10] at C10
  have HY10 := Lib.hid y10
  have HN10 := Lib.hid H9.out.ne
  clear y10
  go_wp2_with fail
  (with_reducible refine C10.out.mono ?_)
  rintro x wd ⟨rfl, m, rfl⟩
  have H10 := Lib.hid (H9.out.drewN m)
  generalize w9.drewN m = w10 at *
  clear C10
  cases b10 with
  | true =>
    obtain ⟨g11, len11, cap11, hn11, _, _, hs11⟩ := H10.out.nod
    have c311 := hn11.c3
    have z311 : w10.frozen? ⟨g11, p3.length * 5, none⟩ = false := hn11.fz 0
    obtain ⟨o11, f11⟩ := hn11.k0
    have b011 : (0 : Int) ≤ (p3.length : Int) := by omega
    have b111 : (p3.length : Int) < (len11 : Int) := by have := hn11.lt; omega
    have H11 := Lib.hid (hs11 20)
    clear hn11 hs11
    go_upto_region 53 with fail
    generalize w10.setCell ⟨g11, p3.length * 5, none⟩ (.int .u8 20) = w11 at *
    clear c311 z311 f11
    have C12 := Lib.hid (bracket_I H11.out HR.out (by have := HQ.out; omega) (by have := HB.out; omega))
    go_wp2_with fail
    (with_reducible refine C12.out.mono ?_)
    rintro x w12 ⟨rfl, h12⟩
    have H12 := Lib.hid h12
    clear C12 h12
    have HI := Lib.hid (In.close (B' := Q + 20 * r + 16) HO2.out (H12.out.mono (Nat.le_refl _) (by omega)) (by omega) (by omega) (fun q c e => by cases e))
    have C13 := Lib.hid (take_I HI.out (by have := HQ.out; omega) ⟨#[59]⟩ (by decide) (by decide))
    go_wp2_with fail
    (with_reducible refine C13.out.mono ?_)
    rintro x w13 ⟨rfl, h13⟩
    have H13 := Lib.hid h13
    clear C13 h13
    have HF := Lib.hid (In.close (B' := B) HO.out (H13.out.mono (Nat.le_refl _) (B' := B) (by have := HQ.out; omega)) (by omega) (by have := HQ.out; omega) (fun q c e => by cases e))
    rw [stmt_eq HJ.out (by decide) (eq6y (r := r) HD9.out HY10.out)] at HF
    go_wp2
    simp [bodyPost, results, Tryz.results146, go_sem]
    exact HF.out
  | false =>
    have HI := Lib.hid (In.close (B' := Q + 20 * r + 16) HO2.out (H10.out.mono (Nat.le_refl _) (by omega)) (by omega) (by omega) (fun q c e => by cases e))
    have C14 := Lib.hid (take_I HI.out (by have := HQ.out; omega) ⟨#[59]⟩ (by decide) (by decide))
    go_wp2_with fail
    (with_reducible refine C14.out.mono ?_)
    rintro x w14 ⟨rfl, h14⟩
    have H14 := Lib.hid h14
    clear C14 h14
    have HF := Lib.hid (In.close (B' := B) HO.out (H14.out.mono (Nat.le_refl _) (B' := B) (by have := HQ.out; omega)) (by omega) (by have := HQ.out; omega) (fun q c e => by cases e))
    rw [stmt_eq HJ.out (by decide) (eq6n (r := r) HD9.out HY10.out HN10.out)] at HF
    go_wp2
    simp [bodyPost, results, Tryz.results146, go_sem]
    exact HF.out
end
end Go.Proofs.YtpemghcafbedeaaGreatDoor.Rf
end
section
namespace Go.Proofs.YtpemghcafbedeaaGreatDoor.Rf
open Go.RowKit Par
section
variable {p : List Nd} {k : Int} {a : Nat} {t : ByteArray} {n : Int} {Q B : Nat} {R : Res (List Ast)} {md : List Nd} {E : Env} {v : Value} {kvs : List Value} {d : Int} {w w' : World} {i : Nat}
set_option maxRecDepth 1000000 in
set_option maxHeartbeats 8000000 in
theorem stmt_7 {r : Nat} {ks : List Ast} (hbk : HasB r) (hs : Sh p k a t n Q B (.ok ks (RT E i :: E.pts.drop (i + 1))) md) (h : RS E v kvs md i (64 - (r : Int)) 0 w) (hr : r ≤ 64) (hQ : Q + 20 * r + 24 ≤ B ∧ Q ≤ 200000) (hj : words13.idxOf (RT E i).txt = 7) :
    Calls Tryz.prog 146 #[.pointer (some ⟨E.b, 0, none⟩), .int .i64 (p.length : Int)] w fun x w' => x = .returned (.tuple #[]) ∧ In E p k a t n (64 - (r : Int)) Q B (knd (.ok ks (RT E i :: E.pts.drop (i + 1))) (stmtP r (blockP r))) w' := by
  obtain ⟨c0, c1, _, _, c4⟩ := h.rowCells
  obtain ⟨k0, _, _, _⟩ := h.tokCells
  have b0 : (0 : Int) ≤ (i : Int) := by omega
  have b1 : (i : Int) < (E.toks.length : Int) := by have := h.it; omega
  have hcap := h.cap
  have hwj := word13_ne (j := 7) (by decide)
  have ht : (RT E i).kind = 1 := pt_word h.ptOk (words13.getD 7 none0) hwj.2 hwj.1 (word13 hj (by decide))
  have hb : ((RT E i).kind == 1) = true := by simp [ht]
  have HN : Hid ((RT E i).txt ≠ none0) := Lib.hid (by rw [word13 hj (by decide)]; exact hwj.1)
  have HH := Lib.hid h
  have HSh := Lib.hid hs
  have HQ := Lib.hid hQ
  have HR := Lib.hid hr
  have HJ := Lib.hid hj
  have HBK := Lib.hid hbk
  have HB : Hid (Q + 20 * r + 24 ≤ 400000) := Lib.hid (by omega)
  have HK0 : Hid (kindW (RT E i).txt = 14) := Lib.hid (by unfold kindW; rw [hj]; rfl)
  clear h hs hQ hj hbk hr ht hwj
  generalize (RT E i).kind = kd at *
  go_enter Tryz.func146, Tryz.ntmps146
  go_wp2_with fail
  go_quiet (fail)
  have HD := Lib.hid (HH.out.drewN nq)
  have C1 := Lib.hid (text_at HD.out)
  generalize w.drewN nq = w1 at *
  clear c0 c1 c4 k0
  go_wp2_with fail
  (with_reducible refine C1.out.mono ?_)
  rintro x wd ⟨rfl, m, rfl⟩
  have H2 := Lib.hid (HD.out.drewN m)
  generalize w1.drewN m = w2 at *
  clear C1
  have C2 : Hid (Calls Tryz.prog 186 #[.string (RT E i).txt] w2 fun x w' => x = .returned (.int .u8 14) ∧ w' = w2.alloc (.cells C13 9)) := Lib.hid (by have := kind_at w2 (RT E i).txt; rw [HK0.out] at this; exact this)
  go_wp2_with fail
  (with_reducible refine C2.out.mono ?_)
  rintro x wd ⟨rfl, rfl⟩
  have H3 := Lib.hid (In.of_first HSh.out (H2.out.alloc (.cells C13 9)) (Q + 20 * r + 12))
  generalize w2.alloc (.cells C13 9) = w3 at *
  clear C2
  have C4 := Lib.hid (kid_I H3.out (by omega) (by have := HB.out; omega))
  go_wp2_with fail
  (with_reducible refine C4.out.mono ?_)
  rintro x w4 ⟨rfl, v4, kvs4, p2, ho, h4⟩
  have HO := Lib.hid ho
  have C5 := Lib.hid (node_I ho h4 (by omega) (by have := HB.out; omega) 14)
  clear C4 ho h4
  go_wp2_with fail
  (with_reducible refine C5.out.mono ?_)
  rintro x w5 ⟨rfl, h5⟩
  have h5 : In E p2 14 (RT E i).at' none0 0 (64 - (r : Int)) (Q + 1) (Q + 20 * r + 12 + 1) (.ok [] (RT E i :: E.pts.drop (i + 1))) w5 := h5
  obtain ⟨i6, h63, c16, cz6, h6⟩ := inc_ok h5 (by omega) HN.out
  have H6 := Lib.hid h6
  clear C5 h5 h6
  go_upto_region 8 with fail
  generalize w5.setCell ⟨E.b, 1, none⟩ (.int .i64 ((i6 : Int) + 1)) = w6 at *
  clear c16 cz6
  have C7 := Lib.hid (branch_I HBK.out H6.out HR.out (by have := HQ.out; omega) (by have := HB.out; omega))
  go_wp2_with fail
  (with_reducible refine C7.out.mono ?_)
  rintro x w7 ⟨rfl, s7, n7, R7, h7, e7⟩
  have HF := Lib.hid (In.close (B' := B) HO.out (h7.mono (Nat.le_refl _) (B' := B) (by have := HQ.out; omega)) (by omega) (by have := HQ.out; omega) (fun q c e => by cases e))
  rw [stmt_eq HJ.out (by decide) e7] at HF
  clear C7 h7 e7
  go_wp2
  simp [bodyPost, results, Tryz.results146, go_sem]
  exact HF.out
end
end Go.Proofs.YtpemghcafbedeaaGreatDoor.Rf
end
section
namespace Go.Proofs.YtpemghcafbedeaaGreatDoor.Rf
open Go.RowKit Par
section
variable {p : List Nd} {k : Int} {a : Nat} {t : ByteArray} {n : Int} {Q B : Nat} {R : Res (List Ast)} {md : List Nd} {E : Env} {v : Value} {kvs : List Value} {d : Int} {w w' : World} {i : Nat}
set_option maxRecDepth 1000000 in
set_option maxHeartbeats 8000000 in
theorem stmt_8 {r : Nat} {ks : List Ast} (hbk : HasB r) (hs : Sh p k a t n Q B (.ok ks (RT E i :: E.pts.drop (i + 1))) md) (h : RS E v kvs md i (64 - (r : Int)) 0 w) (hr : r ≤ 64) (hQ : Q + 20 * r + 24 ≤ B ∧ Q ≤ 200000) (hj : words13.idxOf (RT E i).txt = 8) :
    Calls Tryz.prog 146 #[.pointer (some ⟨E.b, 0, none⟩), .int .i64 (p.length : Int)] w fun x w' => x = .returned (.tuple #[]) ∧ In E p k a t n (64 - (r : Int)) Q B (knd (.ok ks (RT E i :: E.pts.drop (i + 1))) (stmtP r (blockP r))) w' := by
  obtain ⟨c0, c1, _, _, c4⟩ := h.rowCells
  obtain ⟨k0, _, _, _⟩ := h.tokCells
  have b0 : (0 : Int) ≤ (i : Int) := by omega
  have b1 : (i : Int) < (E.toks.length : Int) := by have := h.it; omega
  have hcap := h.cap
  have hwj := word13_ne (j := 8) (by decide)
  have ht : (RT E i).kind = 1 := pt_word h.ptOk (words13.getD 8 none0) hwj.2 hwj.1 (word13 hj (by decide))
  have hb : ((RT E i).kind == 1) = true := by simp [ht]
  have HN : Hid ((RT E i).txt ≠ none0) := Lib.hid (by rw [word13 hj (by decide)]; exact hwj.1)
  have HH := Lib.hid h
  have HSh := Lib.hid hs
  have HQ := Lib.hid hQ
  have HR := Lib.hid hr
  have HJ := Lib.hid hj
  have HBK := Lib.hid hbk
  have HB : Hid (Q + 20 * r + 24 ≤ 400000) := Lib.hid (by omega)
  have HK0 : Hid (kindW (RT E i).txt = 15) := Lib.hid (by unfold kindW; rw [hj]; rfl)
  clear h hs hQ hj hbk hr ht hwj
  generalize (RT E i).kind = kd at *
  go_enter Tryz.func146, Tryz.ntmps146
  go_wp2_with fail
  go_quiet (fail)
  have HD := Lib.hid (HH.out.drewN nq)
  have C1 := Lib.hid (text_at HD.out)
  generalize w.drewN nq = w1 at *
  clear c0 c1 c4 k0
  go_wp2_with fail
  (with_reducible refine C1.out.mono ?_)
  rintro x wd ⟨rfl, m, rfl⟩
  have H2 := Lib.hid (HD.out.drewN m)
  generalize w1.drewN m = w2 at *
  clear C1
  have C2 : Hid (Calls Tryz.prog 186 #[.string (RT E i).txt] w2 fun x w' => x = .returned (.int .u8 15) ∧ w' = w2.alloc (.cells C13 9)) := Lib.hid (by have := kind_at w2 (RT E i).txt; rw [HK0.out] at this; exact this)
  go_wp2_with fail
  (with_reducible refine C2.out.mono ?_)
  rintro x wd ⟨rfl, rfl⟩
  have H3 := Lib.hid (In.of_first HSh.out (H2.out.alloc (.cells C13 9)) (Q + 20 * r + 12))
  generalize w2.alloc (.cells C13 9) = w3 at *
  clear C2
  have C4 := Lib.hid (kid_I H3.out (by omega) (by have := HB.out; omega))
  go_wp2_with fail
  (with_reducible refine C4.out.mono ?_)
  rintro x w4 ⟨rfl, v4, kvs4, p2, ho, h4⟩
  have HO := Lib.hid ho
  have C5 := Lib.hid (node_I ho h4 (by omega) (by have := HB.out; omega) 15)
  clear C4 ho h4
  go_wp2_with fail
  (with_reducible refine C5.out.mono ?_)
  rintro x w5 ⟨rfl, h5⟩
  have h5 : In E p2 15 (RT E i).at' none0 0 (64 - (r : Int)) (Q + 1) (Q + 20 * r + 12 + 1) (.ok [] (RT E i :: E.pts.drop (i + 1))) w5 := h5
  obtain ⟨i6, h63, c16, cz6, h6⟩ := inc_ok h5 (by omega) HN.out
  have H6 := Lib.hid h6
  clear C5 h5 h6
  go_upto_region 8 with fail
  generalize w5.setCell ⟨E.b, 1, none⟩ (.int .i64 ((i6 : Int) + 1)) = w6 at *
  clear c16 cz6
  have C7 := Lib.hid (loop_I HBK.out H6.out HR.out (by have := HQ.out; omega) (by have := HB.out; omega))
  go_wp2_with fail
  (with_reducible refine C7.out.mono ?_)
  rintro x w7 ⟨rfl, s7, n7, R7, h7, e7⟩
  have HF := Lib.hid (In.close (B' := B) HO.out (h7.mono (Nat.le_refl _) (B' := B) (by have := HQ.out; omega)) (by omega) (by have := HQ.out; omega) (fun q c e => by cases e))
  rw [stmt_eq HJ.out (by decide) e7] at HF
  clear C7 h7 e7
  go_wp2
  simp [bodyPost, results, Tryz.results146, go_sem]
  exact HF.out
end
end Go.Proofs.YtpemghcafbedeaaGreatDoor.Rf
end
section
namespace Go.Proofs.YtpemghcafbedeaaGreatDoor.Rf
open Go.RowKit Par
section
variable {p : List Nd} {k : Int} {a : Nat} {t : ByteArray} {n : Int} {Q B : Nat} {R : Res (List Ast)} {md : List Nd} {E : Env} {v : Value} {kvs : List Value} {d : Int} {w w' : World} {i : Nat}
set_option maxRecDepth 1000000 in
set_option maxHeartbeats 8000000 in
theorem stmt_9 {r : Nat} {ks : List Ast} (hbk : HasB r) (hs : Sh p k a t n Q B (.ok ks (RT E i :: E.pts.drop (i + 1))) md) (h : RS E v kvs md i (64 - (r : Int)) 0 w) (hr : r ≤ 64) (hQ : Q + 20 * r + 24 ≤ B ∧ Q ≤ 200000) (hj : words13.idxOf (RT E i).txt = 9) :
    Calls Tryz.prog 146 #[.pointer (some ⟨E.b, 0, none⟩), .int .i64 (p.length : Int)] w fun x w' => x = .returned (.tuple #[]) ∧ In E p k a t n (64 - (r : Int)) Q B (knd (.ok ks (RT E i :: E.pts.drop (i + 1))) (stmtP r (blockP r))) w' := by
  obtain ⟨c0, c1, _, _, c4⟩ := h.rowCells
  obtain ⟨k0, _, _, _⟩ := h.tokCells
  have b0 : (0 : Int) ≤ (i : Int) := by omega
  have b1 : (i : Int) < (E.toks.length : Int) := by have := h.it; omega
  have hcap := h.cap
  have hwj := word13_ne (j := 9) (by decide)
  have ht : (RT E i).kind = 1 := pt_word h.ptOk (words13.getD 9 none0) hwj.2 hwj.1 (word13 hj (by decide))
  have hb : ((RT E i).kind == 1) = true := by simp [ht]
  have HN : Hid ((RT E i).txt ≠ none0) := Lib.hid (by rw [word13 hj (by decide)]; exact hwj.1)
  have HH := Lib.hid h
  have HSh := Lib.hid hs
  have HQ := Lib.hid hQ
  have HR := Lib.hid hr
  have HJ := Lib.hid hj
  have HBK := Lib.hid hbk
  have HB : Hid (Q + 20 * r + 24 ≤ 400000) := Lib.hid (by omega)
  have HK0 : Hid (kindW (RT E i).txt = 16) := Lib.hid (by unfold kindW; rw [hj]; rfl)
  clear h hs hQ hj hbk hr ht hwj
  generalize (RT E i).kind = kd at *
  go_enter Tryz.func146, Tryz.ntmps146
  go_wp2_with fail
  go_quiet (fail)
  have HD := Lib.hid (HH.out.drewN nq)
  have C1 := Lib.hid (text_at HD.out)
  generalize w.drewN nq = w1 at *
  clear c0 c1 c4 k0
  go_wp2_with fail
  (with_reducible refine C1.out.mono ?_)
  rintro x wd ⟨rfl, m, rfl⟩
  have H2 := Lib.hid (HD.out.drewN m)
  generalize w1.drewN m = w2 at *
  clear C1
  have C2 : Hid (Calls Tryz.prog 186 #[.string (RT E i).txt] w2 fun x w' => x = .returned (.int .u8 16) ∧ w' = w2.alloc (.cells C13 9)) := Lib.hid (by have := kind_at w2 (RT E i).txt; rw [HK0.out] at this; exact this)
  go_wp2_with fail
  (with_reducible refine C2.out.mono ?_)
  rintro x wd ⟨rfl, rfl⟩
  have H3 := Lib.hid (In.of_first HSh.out (H2.out.alloc (.cells C13 9)) (Q + 20 * r + 12))
  generalize w2.alloc (.cells C13 9) = w3 at *
  clear C2
  have C4 := Lib.hid (kid_I H3.out (by omega) (by have := HB.out; omega))
  go_wp2_with fail
  (with_reducible refine C4.out.mono ?_)
  rintro x w4 ⟨rfl, v4, kvs4, p2, ho, h4⟩
  have HO := Lib.hid ho
  have C5 := Lib.hid (node_I ho h4 (by omega) (by have := HB.out; omega) 16)
  clear C4 ho h4
  go_wp2_with fail
  (with_reducible refine C5.out.mono ?_)
  rintro x w5 ⟨rfl, h5⟩
  have h5 : In E p2 16 (RT E i).at' none0 0 (64 - (r : Int)) (Q + 1) (Q + 20 * r + 12 + 1) (.ok [] (RT E i :: E.pts.drop (i + 1))) w5 := h5
  obtain ⟨i6, h63, c16, cz6, h6⟩ := inc_ok h5 (by omega) HN.out
  have H6 := Lib.hid h6
  clear C5 h5 h6
  go_upto_region 8 with fail
  generalize w5.setCell ⟨E.b, 1, none⟩ (.int .i64 ((i6 : Int) + 1)) = w6 at *
  clear c16 cz6
  obtain ⟨g7, len7, cap7, hn7, hc7⟩ := name_I H6.out.drew (by have := HQ.out; omega)
  have c37 := hn7.c3
  have b07 : (0 : Int) ≤ (p2.length : Int) := by omega
  have b17 : (p2.length : Int) < (len7 : Int) := by have := hn7.lt; omega
  have gb7 := hn7.gb
  have NM7 := Lib.hid hc7
  clear hn7 hc7
  go_wp2_with fail
  go_region_held3 (fun w' => w'.cell? ⟨E.b, 3, none⟩ = some (.slice (some ⟨g7, 0, none⟩) len7 cap7)) (first | exact c37 | exact k37 | exact (World.cell?_of_block (w := v7) (a := ⟨E.b, 3, none⟩) (Below.heap_setCell _ _ _ _ gb7)).trans k37)
    (first
      | (go_at_call 97; (with_reducible refine NM7.out.mono ?_); rintro x v7 ⟨s7, rfl, hd7, hm7, hi7⟩; have k37 := hm7.c3; have z57 := hm7.fz 2; obtain ⟨t57, k57⟩ := hm7.t0; have H7 := Lib.hid hi7; have HD7 := Lib.hid hd7; clear hm7 hi7 hd7))
  generalize v7.setCell ⟨g7, p2.length * 5 + 2, none⟩ (.string s7) = w7 at *
  clear c37 k37 z57 k57 NM7
  have C8 := Lib.hid (take_I H7.out (by have := HQ.out; omega) ⟨#[61]⟩ (by decide) (by decide))
  go_wp2_with fail
  (with_reducible refine C8.out.mono ?_)
  rintro x w8 ⟨rfl, h8⟩
  have H8 := Lib.hid h8
  clear C8 h8
  have C9 := Lib.hid (expr_I H8.out HR.out (by have := HQ.out; omega) (by have := HB.out; omega))
  go_wp2_with fail
  (with_reducible refine C9.out.mono ?_)
  rintro x w9 ⟨rfl, h9⟩
  have H9 := Lib.hid h9
  clear C9 h9
  have C10 := Lib.hid (take_I H9.out (by have := HQ.out; omega) ⟨#[59]⟩ (by decide) (by decide))
  go_wp2_with fail
  (with_reducible refine C10.out.mono ?_)
  rintro x w10 ⟨rfl, h10⟩
  have H10 := Lib.hid h10
  clear C10 h10
  have HF := Lib.hid (In.close (B' := B) HO.out (H10.out.mono (Nat.le_refl _) (B' := B) (by have := HQ.out; omega)) (by omega) (by have := HQ.out; omega) (fun q c e => by cases e))
  rw [stmt_eq HJ.out (by decide) (eq9 (r := r) HD7.out)] at HF
  go_wp2
  simp [bodyPost, results, Tryz.results146, go_sem]
  exact HF.out
end
end Go.Proofs.YtpemghcafbedeaaGreatDoor.Rf
end
section
namespace Go.Proofs.YtpemghcafbedeaaGreatDoor.Rf
open Go.RowKit Par
section
variable {p : List Nd} {k : Int} {a : Nat} {t : ByteArray} {n : Int} {Q B : Nat} {R : Res (List Ast)} {md : List Nd} {E : Env} {v : Value} {kvs : List Value} {d : Int} {w w' : World} {i : Nat}
set_option maxRecDepth 1000000 in
set_option maxHeartbeats 8000000 in
theorem stmt_10 {r : Nat} {ks : List Ast} (hbk : HasB r) (hs : Sh p k a t n Q B (.ok ks (RT E i :: E.pts.drop (i + 1))) md) (h : RS E v kvs md i (64 - (r : Int)) 0 w) (hr : r ≤ 64) (hQ : Q + 20 * r + 24 ≤ B ∧ Q ≤ 200000) (hj : words13.idxOf (RT E i).txt = 10) :
    Calls Tryz.prog 146 #[.pointer (some ⟨E.b, 0, none⟩), .int .i64 (p.length : Int)] w fun x w' => x = .returned (.tuple #[]) ∧ In E p k a t n (64 - (r : Int)) Q B (knd (.ok ks (RT E i :: E.pts.drop (i + 1))) (stmtP r (blockP r))) w' := by
  obtain ⟨c0, c1, _, _, c4⟩ := h.rowCells
  obtain ⟨k0, _, _, _⟩ := h.tokCells
  have b0 : (0 : Int) ≤ (i : Int) := by omega
  have b1 : (i : Int) < (E.toks.length : Int) := by have := h.it; omega
  have hcap := h.cap
  have hwj := word13_ne (j := 10) (by decide)
  have ht : (RT E i).kind = 1 := pt_word h.ptOk (words13.getD 10 none0) hwj.2 hwj.1 (word13 hj (by decide))
  have hb : ((RT E i).kind == 1) = true := by simp [ht]
  have HN : Hid ((RT E i).txt ≠ none0) := Lib.hid (by rw [word13 hj (by decide)]; exact hwj.1)
  have HH := Lib.hid h
  have HSh := Lib.hid hs
  have HQ := Lib.hid hQ
  have HR := Lib.hid hr
  have HJ := Lib.hid hj
  have HBK := Lib.hid hbk
  have HB : Hid (Q + 20 * r + 24 ≤ 400000) := Lib.hid (by omega)
  have HK0 : Hid (kindW (RT E i).txt = 17) := Lib.hid (by unfold kindW; rw [hj]; rfl)
  clear h hs hQ hj hbk hr ht hwj
  generalize (RT E i).kind = kd at *
  go_enter Tryz.func146, Tryz.ntmps146
  go_wp2_with fail
  go_quiet (fail)
  have HD := Lib.hid (HH.out.drewN nq)
  have C1 := Lib.hid (text_at HD.out)
  generalize w.drewN nq = w1 at *
  clear c0 c1 c4 k0
  go_wp2_with fail
  (with_reducible refine C1.out.mono ?_)
  rintro x wd ⟨rfl, m, rfl⟩
  have H2 := Lib.hid (HD.out.drewN m)
  generalize w1.drewN m = w2 at *
  clear C1
  have C2 : Hid (Calls Tryz.prog 186 #[.string (RT E i).txt] w2 fun x w' => x = .returned (.int .u8 17) ∧ w' = w2.alloc (.cells C13 9)) := Lib.hid (by have := kind_at w2 (RT E i).txt; rw [HK0.out] at this; exact this)
  go_wp2_with fail
  (with_reducible refine C2.out.mono ?_)
  rintro x wd ⟨rfl, rfl⟩
  have H3 := Lib.hid (In.of_first HSh.out (H2.out.alloc (.cells C13 9)) (Q + 20 * r + 12))
  generalize w2.alloc (.cells C13 9) = w3 at *
  clear C2
  have C4 := Lib.hid (kid_I H3.out (by omega) (by have := HB.out; omega))
  go_wp2_with fail
  (with_reducible refine C4.out.mono ?_)
  rintro x w4 ⟨rfl, v4, kvs4, p2, ho, h4⟩
  have HO := Lib.hid ho
  have C5 := Lib.hid (node_I ho h4 (by omega) (by have := HB.out; omega) 17)
  clear C4 ho h4
  go_wp2_with fail
  (with_reducible refine C5.out.mono ?_)
  rintro x w5 ⟨rfl, h5⟩
  have h5 : In E p2 17 (RT E i).at' none0 0 (64 - (r : Int)) (Q + 1) (Q + 20 * r + 12 + 1) (.ok [] (RT E i :: E.pts.drop (i + 1))) w5 := h5
  obtain ⟨i6, h63, c16, cz6, h6⟩ := inc_ok h5 (by omega) HN.out
  have H6 := Lib.hid h6
  clear C5 h5 h6
  go_upto_region 8 with fail
  generalize w5.setCell ⟨E.b, 1, none⟩ (.int .i64 ((i6 : Int) + 1)) = w6 at *
  clear c16 cz6
  have C7 := Lib.hid (expr_I H6.out HR.out (by have := HQ.out; omega) (by have := HB.out; omega))
  go_wp2_with fail
  (with_reducible refine C7.out.mono ?_)
  rintro x w7 ⟨rfl, h7⟩
  have H7 := Lib.hid h7
  clear C7 h7
  have C8 := Lib.hid (take_I H7.out (by have := HQ.out; omega) ⟨#[59]⟩ (by decide) (by decide))
  go_wp2_with fail
  (with_reducible refine C8.out.mono ?_)
  rintro x w8 ⟨rfl, h8⟩
  have H8 := Lib.hid h8
  clear C8 h8
  have HF := Lib.hid (In.close (B' := B) HO.out (H8.out.mono (Nat.le_refl _) (B' := B) (by have := HQ.out; omega)) (by omega) (by have := HQ.out; omega) (fun q c e => by cases e))
  rw [stmt_eq HJ.out (by decide) (eq10 (r := r))] at HF
  go_wp2
  simp [bodyPost, results, Tryz.results146, go_sem]
  exact HF.out
end
end Go.Proofs.YtpemghcafbedeaaGreatDoor.Rf
end
section
namespace Go.Proofs.YtpemghcafbedeaaGreatDoor.Rf
open Go.RowKit Par
section
variable {p : List Nd} {k : Int} {a : Nat} {t : ByteArray} {n : Int} {Q B : Nat} {R : Res (List Ast)} {md : List Nd} {E : Env} {v : Value} {kvs : List Value} {d : Int} {w w' : World} {i : Nat}
set_option maxRecDepth 1000000 in
set_option maxHeartbeats 8000000 in
theorem stmt_11 {r : Nat} {ks : List Ast} (hbk : HasB r) (hs : Sh p k a t n Q B (.ok ks (RT E i :: E.pts.drop (i + 1))) md) (h : RS E v kvs md i (64 - (r : Int)) 0 w) (hr : r ≤ 64) (hQ : Q + 20 * r + 24 ≤ B ∧ Q ≤ 200000) (hj : words13.idxOf (RT E i).txt = 11) :
    Calls Tryz.prog 146 #[.pointer (some ⟨E.b, 0, none⟩), .int .i64 (p.length : Int)] w fun x w' => x = .returned (.tuple #[]) ∧ In E p k a t n (64 - (r : Int)) Q B (knd (.ok ks (RT E i :: E.pts.drop (i + 1))) (stmtP r (blockP r))) w' := by
  obtain ⟨c0, c1, _, _, c4⟩ := h.rowCells
  obtain ⟨k0, _, _, _⟩ := h.tokCells
  have b0 : (0 : Int) ≤ (i : Int) := by omega
  have b1 : (i : Int) < (E.toks.length : Int) := by have := h.it; omega
  have hcap := h.cap
  have hwj := word13_ne (j := 11) (by decide)
  have ht : (RT E i).kind = 1 := pt_word h.ptOk (words13.getD 11 none0) hwj.2 hwj.1 (word13 hj (by decide))
  have hb : ((RT E i).kind == 1) = true := by simp [ht]
  have HN : Hid ((RT E i).txt ≠ none0) := Lib.hid (by rw [word13 hj (by decide)]; exact hwj.1)
  have HH := Lib.hid h
  have HSh := Lib.hid hs
  have HQ := Lib.hid hQ
  have HR := Lib.hid hr
  have HJ := Lib.hid hj
  have HBK := Lib.hid hbk
  have HB : Hid (Q + 20 * r + 24 ≤ 400000) := Lib.hid (by omega)
  have HK0 : Hid (kindW (RT E i).txt = 18) := Lib.hid (by unfold kindW; rw [hj]; rfl)
  clear h hs hQ hj hbk hr ht hwj
  generalize (RT E i).kind = kd at *
  go_enter Tryz.func146, Tryz.ntmps146
  go_wp2_with fail
  go_quiet (fail)
  have HD := Lib.hid (HH.out.drewN nq)
  have C1 := Lib.hid (text_at HD.out)
  generalize w.drewN nq = w1 at *
  clear c0 c1 c4 k0
  go_wp2_with fail
  (with_reducible refine C1.out.mono ?_)
  rintro x wd ⟨rfl, m, rfl⟩
  have H2 := Lib.hid (HD.out.drewN m)
  generalize w1.drewN m = w2 at *
  clear C1
  have C2 : Hid (Calls Tryz.prog 186 #[.string (RT E i).txt] w2 fun x w' => x = .returned (.int .u8 18) ∧ w' = w2.alloc (.cells C13 9)) := Lib.hid (by have := kind_at w2 (RT E i).txt; rw [HK0.out] at this; exact this)
  go_wp2_with fail
  (with_reducible refine C2.out.mono ?_)
  rintro x wd ⟨rfl, rfl⟩
  have H3 := Lib.hid (In.of_first HSh.out (H2.out.alloc (.cells C13 9)) (Q + 20 * r + 12))
  generalize w2.alloc (.cells C13 9) = w3 at *
  clear C2
  have C4 := Lib.hid (kid_I H3.out (by omega) (by have := HB.out; omega))
  go_wp2_with fail
  (with_reducible refine C4.out.mono ?_)
  rintro x w4 ⟨rfl, v4, kvs4, p2, ho, h4⟩
  have HO := Lib.hid ho
  have C5 := Lib.hid (node_I ho h4 (by omega) (by have := HB.out; omega) 18)
  clear C4 ho h4
  go_wp2_with fail
  (with_reducible refine C5.out.mono ?_)
  rintro x w5 ⟨rfl, h5⟩
  have h5 : In E p2 18 (RT E i).at' none0 0 (64 - (r : Int)) (Q + 1) (Q + 20 * r + 12 + 1) (.ok [] (RT E i :: E.pts.drop (i + 1))) w5 := h5
  obtain ⟨i6, h63, c16, cz6, h6⟩ := inc_ok h5 (by omega) HN.out
  have H6 := Lib.hid h6
  clear C5 h5 h6
  go_upto_region 8 with fail
  generalize w5.setCell ⟨E.b, 1, none⟩ (.int .i64 ((i6 : Int) + 1)) = w6 at *
  clear c16 cz6
  have C7 := Lib.hid (take_I H6.out (by have := HQ.out; omega) ⟨#[59]⟩ (by decide) (by decide))
  go_wp2_with fail
  (with_reducible refine C7.out.mono ?_)
  rintro x w7 ⟨rfl, h7⟩
  have H7 := Lib.hid h7
  clear C7 h7
  have HF := Lib.hid (In.close (B' := B) HO.out (H7.out.mono (Nat.le_refl _) (B' := B) (by have := HQ.out; omega)) (by omega) (by have := HQ.out; omega) (fun q c e => by cases e))
  rw [stmt_eq HJ.out (by decide) (eq11 (r := r))] at HF
  go_wp2
  simp [bodyPost, results, Tryz.results146, go_sem]
  exact HF.out
end
end Go.Proofs.YtpemghcafbedeaaGreatDoor.Rf
end
section
namespace Go.Proofs.YtpemghcafbedeaaGreatDoor.Rf
open Go.RowKit Par
section
variable {p : List Nd} {k : Int} {a : Nat} {t : ByteArray} {n : Int} {Q B : Nat} {R : Res (List Ast)} {md : List Nd} {E : Env} {v : Value} {kvs : List Value} {d : Int} {w w' : World} {i : Nat}
set_option maxRecDepth 1000000 in
set_option maxHeartbeats 8000000 in
theorem stmt_12 {r : Nat} {ks : List Ast} (hbk : HasB r) (hs : Sh p k a t n Q B (.ok ks (RT E i :: E.pts.drop (i + 1))) md) (h : RS E v kvs md i (64 - (r : Int)) 0 w) (hr : r ≤ 64) (hQ : Q + 20 * r + 24 ≤ B ∧ Q ≤ 200000) (hj : words13.idxOf (RT E i).txt = 12) :
    Calls Tryz.prog 146 #[.pointer (some ⟨E.b, 0, none⟩), .int .i64 (p.length : Int)] w fun x w' => x = .returned (.tuple #[]) ∧ In E p k a t n (64 - (r : Int)) Q B (knd (.ok ks (RT E i :: E.pts.drop (i + 1))) (stmtP r (blockP r))) w' := by
  obtain ⟨c0, c1, _, _, c4⟩ := h.rowCells
  obtain ⟨k0, _, _, _⟩ := h.tokCells
  have b0 : (0 : Int) ≤ (i : Int) := by omega
  have b1 : (i : Int) < (E.toks.length : Int) := by have := h.it; omega
  have hcap := h.cap
  have hwj := word13_ne (j := 12) (by decide)
  have ht : (RT E i).kind = 1 := pt_word h.ptOk (words13.getD 12 none0) hwj.2 hwj.1 (word13 hj (by decide))
  have hb : ((RT E i).kind == 1) = true := by simp [ht]
  have HN : Hid ((RT E i).txt ≠ none0) := Lib.hid (by rw [word13 hj (by decide)]; exact hwj.1)
  have HH := Lib.hid h
  have HSh := Lib.hid hs
  have HQ := Lib.hid hQ
  have HR := Lib.hid hr
  have HJ := Lib.hid hj
  have HBK := Lib.hid hbk
  have HB : Hid (Q + 20 * r + 24 ≤ 400000) := Lib.hid (by omega)
  have HK0 : Hid (kindW (RT E i).txt = 19) := Lib.hid (by unfold kindW; rw [hj]; rfl)
  clear h hs hQ hj hbk hr ht hwj
  generalize (RT E i).kind = kd at *
  go_enter Tryz.func146, Tryz.ntmps146
  go_wp2_with fail
  go_quiet (fail)
  have HD := Lib.hid (HH.out.drewN nq)
  have C1 := Lib.hid (text_at HD.out)
  generalize w.drewN nq = w1 at *
  clear c0 c1 c4 k0
  go_wp2_with fail
  (with_reducible refine C1.out.mono ?_)
  rintro x wd ⟨rfl, m, rfl⟩
  have H2 := Lib.hid (HD.out.drewN m)
  generalize w1.drewN m = w2 at *
  clear C1
  have C2 : Hid (Calls Tryz.prog 186 #[.string (RT E i).txt] w2 fun x w' => x = .returned (.int .u8 19) ∧ w' = w2.alloc (.cells C13 9)) := Lib.hid (by have := kind_at w2 (RT E i).txt; rw [HK0.out] at this; exact this)
  go_wp2_with fail
  (with_reducible refine C2.out.mono ?_)
  rintro x wd ⟨rfl, rfl⟩
  have H3 := Lib.hid (In.of_first HSh.out (H2.out.alloc (.cells C13 9)) (Q + 20 * r + 12))
  generalize w2.alloc (.cells C13 9) = w3 at *
  clear C2
  have C4 := Lib.hid (kid_I H3.out (by omega) (by have := HB.out; omega))
  go_wp2_with fail
  (with_reducible refine C4.out.mono ?_)
  rintro x w4 ⟨rfl, v4, kvs4, p2, ho, h4⟩
  have HO := Lib.hid ho
  have C5 := Lib.hid (node_I ho h4 (by omega) (by have := HB.out; omega) 19)
  clear C4 ho h4
  go_wp2_with fail
  (with_reducible refine C5.out.mono ?_)
  rintro x w5 ⟨rfl, h5⟩
  have h5 : In E p2 19 (RT E i).at' none0 0 (64 - (r : Int)) (Q + 1) (Q + 20 * r + 12 + 1) (.ok [] (RT E i :: E.pts.drop (i + 1))) w5 := h5
  obtain ⟨i6, h63, c16, cz6, h6⟩ := inc_ok h5 (by omega) HN.out
  have H6 := Lib.hid h6
  clear C5 h5 h6
  go_upto_region 8 with fail
  generalize w5.setCell ⟨E.b, 1, none⟩ (.int .i64 ((i6 : Int) + 1)) = w6 at *
  clear c16 cz6
  have C7 := Lib.hid (take_I H6.out (by have := HQ.out; omega) ⟨#[59]⟩ (by decide) (by decide))
  go_wp2_with fail
  (with_reducible refine C7.out.mono ?_)
  rintro x w7 ⟨rfl, h7⟩
  have H7 := Lib.hid h7
  clear C7 h7
  have HF := Lib.hid (In.close (B' := B) HO.out (H7.out.mono (Nat.le_refl _) (B' := B) (by have := HQ.out; omega)) (by omega) (by have := HQ.out; omega) (fun q c e => by cases e))
  rw [stmt_eq HJ.out (by decide) (eq12 (r := r))] at HF
  go_wp2
  simp [bodyPost, results, Tryz.results146, go_sem]
  exact HF.out
end
end Go.Proofs.YtpemghcafbedeaaGreatDoor.Rf
end
section
namespace Go.Proofs.YtpemghcafbedeaaGreatDoor.Rf
open Go.RowKit Par
theorem stmt_of {r : Nat} (hr : r ≤ 64) (hbk : HasB r) : HasS r := by
  intro E p k a t n Q B ks l w h hQ
  obtain ⟨v, kvs, md, i, rfl, h1, hs⟩ := h.first
  by_cases hj : words13.idxOf (RT E i).txt < 13
  · obtain ⟨j, he⟩ : ∃ j, words13.idxOf (RT E i).txt = j := ⟨_, rfl⟩
    rw [he] at hj
    rcases (by omega : j = 0 ∨ j = 1 ∨ j = 2 ∨ j = 3 ∨ j = 4 ∨ j = 5 ∨ j = 6 ∨ j = 7 ∨ j = 8 ∨ j = 9 ∨ j = 10 ∨ j = 11 ∨ j = 12) with rfl | rfl | rfl | rfl | rfl | rfl | rfl | rfl | rfl | rfl | rfl | rfl | rfl
    · exact stmt_0 hbk hs h1 hr hQ he
    · exact stmt_1 hbk hs h1 hr hQ he
    · exact stmt_2 hbk hs h1 hr hQ he
    · exact stmt_3 hbk hs h1 hr hQ he
    · exact stmt_4 hbk hs h1 hr hQ he
    · exact stmt_5 hbk hs h1 hr hQ he
    · exact stmt_6 hbk hs h1 hr hQ he
    · exact stmt_7 hbk hs h1 hr hQ he
    · exact stmt_8 hbk hs h1 hr hQ he
    · exact stmt_9 hbk hs h1 hr hQ he
    · exact stmt_10 hbk hs h1 hr hQ he
    · exact stmt_11 hbk hs h1 hr hQ he
    · exact stmt_12 hbk hs h1 hr hQ he
  · exact stmt_none hs h1 (by omega) hj
theorem block_all : ∀ r : Nat, r ≤ 64 → HasB r
  | 0, h => block_of h fun r' e => by omega
  | r + 1, h => block_of h fun r' e => by
    obtain rfl : r' = r := by omega
    exact stmt_of (by omega) (block_all r' (by omega))
end Go.Proofs.YtpemghcafbedeaaGreatDoor.Rf
end
