/- Contracts on the way to the laws of layer 5: ParseSa, ParseSb0, ParseSb1, ParseSc, ParseSb2, ParseSb3, ParseSb4, ParseSb5. -/
import Derived.Test.YtpemghcafbedeaaGreatDoorKaq
import Derived.Test.YtpemghcafbedeaaGreatDoorKat
import Derived.Deep.LoopGhost
import Derived.Deep.RegionHeld3
import Derived.Deep.Cut
set_option linter.all false
section
namespace Go.Proofs.YtpemghcafbedeaaGreatDoor.Rf
open Go.RowKit Par
section
variable {p : List Nd} {k : Int} {a : Nat} {t : ByteArray} {n : Int} {Q B : Nat} {R : Res (List Ast)} {md : List Nd} {E : Env} {v : Value} {kvs : List Value} {d : Int} {w w' : World} {i : Nat}
theorem idx_get (s dflt : ByteArray) (l : List ByteArray) (h : l.idxOf s < l.length) : l.getD (l.idxOf s) dflt = s := by
  induction l with
  | nil => simp at h
  | cons a r ih =>
    rw [List.idxOf_cons] at h ⊢
    by_cases ha : a = s
    · subst ha
      rw [show (a == a) = true by rw [bbeq]; simp]
      simp
    · have hb : (a == s) = false := by rw [bbeq]; exact decide_eq_false ha
      rw [hb] at h ⊢
      simp only [cond_false] at h ⊢
      simp only [List.getD_cons_succ]
      exact ih (by simpa using h)
theorem word13 {s : ByteArray} {j : Nat} (hj : words13.idxOf s = j) (h : j < 13) : s = words13.getD j none0 := by
  subst hj
  exact (idx_get s none0 words13 h).symm
theorem word13_ne {j : Nat} (h : j < 13) : words13.getD j none0 ≠ none0 ∧ 97 ≤ head0 (words13.getD j none0) ∧ head0 (words13.getD j none0) ≤ 122 := by
  rcases (by omega : j = 0 ∨ j = 1 ∨ j = 2 ∨ j = 3 ∨ j = 4 ∨ j = 5 ∨ j = 6 ∨ j = 7 ∨ j = 8 ∨ j = 9 ∨ j = 10 ∨ j = 11 ∨ j = 12) with rfl | rfl | rfl | rfl | rfl | rfl | rfl | rfl | rfl | rfl | rfl | rfl | rfl <;> decide
theorem stmt_eq {r j : Nat} {ks : List Ast} {u : PT} {l : List PT} {S : Res (List Ast)} {kk n2 : Int} {s : ByteArray} (hj : words13.idxOf u.txt = j) (hlt : j < 13)
    (hS : then' S (fun ks2 l1 => Res.ok (Ast.mk kk u.at' s n2 ks2) l1) = restP r (blockP r) j u.at' l) :
    (then' (Res.ok ks (u :: l)) fun ks _ => then' S fun ks2 l1 => Res.ok (ks ++ [Ast.mk kk u.at' s n2 ks2]) l1) = knd (.ok ks (u :: l)) (stmtP r (blockP r)) := by
  rw [then_ok, then_pure, hS]
  simp only [knd, then', Par.bind, stmtP, peekP, nextP, hj, if_pos hlt, Par.pure]
  cases restP r (blockP r) j u.at' l <;> rfl
theorem stmt_no {r : Nat} {ks : List Ast} {u : PT} {l : List PT} (h : ¬ words13.idxOf u.txt < 13) : (then' (Res.ok ks (u :: l)) fun _ => (failP : Par (List Ast))) = knd (.ok ks (u :: l)) (stmtP r (blockP r)) := by
  simp only [knd, then', Par.bind, stmtP, peekP, if_neg h, failP]
theorem inc_ok {ks : List Ast} {u : PT} {l : List PT} (h : In E p k a t n d (Q + 1) B (.ok ks (u :: l)) w) (hQ : Q + 1 ≤ B) (hn : u.txt ≠ none0) : ∃ (i : Nat), (i : Int) + 1 ≤ 9223372036854775807 ∧ w.cell? ⟨E.b, 1, none⟩ = some (.int .i64 (i : Int)) ∧ w.frozen? ⟨E.b, 1, none⟩ = false ∧ In E p k a t n d Q B (.ok ks l) (w.setCell ⟨E.b, 1, none⟩ (.int .i64 ((i : Int) + 1))) := by
  obtain ⟨i, h1, h2, h3, h4⟩ := h.inc hQ hn (show nxt (Res.ok ks (u :: l)) u.txt = true from decide_eq_true rfl)
  refine ⟨i, h1, h2, h3, ?_⟩
  simpa only [skp, then', Par.bind, skipP, if_true, Par.pure] using h4
theorem In.first {ks : List Ast} {l : List PT} (h : In E p k a t n d Q B (.ok ks l) w) : ∃ v kvs md i, l = RT E i :: E.pts.drop (i + 1) ∧ RS E v kvs md i d 0 w ∧ Sh p k a t n Q B (.ok ks l) md := by
  obtain ⟨v, kvs, md, hs, hm⟩ := h
  obtain ⟨i, rfl, h1⟩ := hm.ok_of
  exact ⟨v, kvs, md, i, rfl, h1, hs⟩
theorem In.of_first {ks : List Ast} (hs : Sh p k a t n Q B (.ok ks (RT E i :: E.pts.drop (i + 1))) md) (h : RS E v kvs md i d 0 w) (B' : Nat) : In E p k a t n d Q B' (.ok ks (RT E i :: E.pts.drop (i + 1))) w :=
  ⟨v, kvs, md, hs, i, h.drop.symm, h⟩
theorem nxt_ok {s : ByteArray} (hy : nxt R s = true) : ∃ ks l, R = .ok ks l := by
  cases R with
  | err q c => simp [nxt] at hy
  | ok ks l => exact ⟨ks, l, rfl⟩
set_option maxRecDepth 1000000 in
set_option maxHeartbeats 4000000 in
theorem stmt_none {r : Nat} {ks : List Ast} (hs : Sh p k a t n Q B (.ok ks (RT E i :: E.pts.drop (i + 1))) md) (h : RS E v kvs md i (64 - (r : Int)) 0 w) (hQ : Q ≤ B) (hj : ¬ words13.idxOf (RT E i).txt < 13) :
    Calls Tryz.prog 146 #[.pointer (some ⟨E.b, 0, none⟩), .int .i64 (p.length : Int)] w fun x w' => x = .returned (.tuple #[]) ∧ In E p k a t n (64 - (r : Int)) Q B (knd (.ok ks (RT E i :: E.pts.drop (i + 1))) (stmtP r (blockP r))) w' := by
  obtain ⟨c0, c1, _, _, c4⟩ := h.rowCells
  obtain ⟨k0, _, _, _⟩ := h.tokCells
  have b0 : (0 : Int) ≤ (i : Int) := by omega
  have b1 : (i : Int) < (E.toks.length : Int) := by have := h.it; omega
  have hcap := h.cap
  have HH := Lib.hid h
  have HSh := Lib.hid hs
  have HQ := Lib.hid hQ
  have HJ := Lib.hid hj
  have HK0 : Hid (kindW (RT E i).txt = 0) := Lib.hid (by unfold kindW; rw [if_neg hj])
  clear h hs hQ hj
  by_cases ht : (RT E i).kind = 1
  · have hb : ((RT E i).kind == 1) = true := by simp [ht]
    generalize (RT E i).kind = kd at *
    go_enter Tryz.func146, Tryz.ntmps146
    go_wp2_with fail
    go_quiet (fail)
    have HD := Lib.hid (HH.out.drewN nq)
    have C1 := Lib.hid (text_at HD.out)
    generalize w.drewN nq = w1 at *
    clear c0 c1 c4 k0
    go_wp2_with fail
    (with_reducible refine C1.out.mono ?_)
    rintro x wd ⟨rfl, m, rfl⟩
    have H2 := Lib.hid (HD.out.drewN m)
    generalize w1.drewN m = w2 at *
    clear C1
    have C2 := Lib.hid (kind_at w2 (RT E i).txt)
    rw [HK0.out] at C2
    go_wp2_with fail
    (with_reducible refine C2.out.mono ?_)
    rintro x wd ⟨rfl, rfl⟩
    have H3 := Lib.hid (In.of_first HSh.out (H2.out.alloc (.cells C13 9)) B)
    generalize w2.alloc (.cells C13 9) = w3 at *
    clear C2
    have C4 := Lib.hid (fail_I H3.out HQ.out)
    go_wp2_with fail
    (with_reducible refine C4.out.mono ?_)
    rintro x w4 ⟨rfl, h4⟩
    rw [stmt_no (r := r) HJ.out] at h4
    have H4 := Lib.hid h4
    clear C4 h4
    go_wp2
    simp [bodyPost, results, Tryz.results146, go_sem]
    exact H4.out
  · have hb : ((RT E i).kind == 1) = false := by simp [ht]
    generalize (RT E i).kind = kd at *
    go_enter Tryz.func146, Tryz.ntmps146
    go_wp2_with fail
    go_quiet (fail)
    have H3 := Lib.hid (In.of_first HSh.out (HH.out.drewN nq) B)
    generalize w.drewN nq = w3 at *
    clear c0 c1 c4 k0
    have C4 := Lib.hid (fail_I H3.out HQ.out)
    go_wp2_with fail
    (with_reducible refine C4.out.mono ?_)
    rintro x w4 ⟨rfl, h4⟩
    rw [stmt_no (r := r) HJ.out] at h4
    have H4 := Lib.hid h4
    clear C4 h4
    go_wp2
    simp [bodyPost, results, Tryz.results146, go_sem]
    exact H4.out
end
end Go.Proofs.YtpemghcafbedeaaGreatDoor.Rf
end
section
namespace Go.Proofs.YtpemghcafbedeaaGreatDoor.Rf
open Go.RowKit Par
section
variable {p : List Nd} {k : Int} {a : Nat} {t : ByteArray} {n : Int} {Q B : Nat} {R : Res (List Ast)} {md : List Nd} {E : Env} {v : Value} {kvs : List Value} {d : Int} {w w' : World} {i : Nat}
set_option maxRecDepth 1000000 in
set_option maxHeartbeats 8000000 in
theorem stmt_0 {r : Nat} {ks : List Ast} (hbk : HasB r) (hs : Sh p k a t n Q B (.ok ks (RT E i :: E.pts.drop (i + 1))) md) (h : RS E v kvs md i (64 - (r : Int)) 0 w) (hr : r ≤ 64) (hQ : Q + 20 * r + 24 ≤ B ∧ Q ≤ 200000) (hj : words13.idxOf (RT E i).txt = 0) :
    Calls Tryz.prog 146 #[.pointer (some ⟨E.b, 0, none⟩), .int .i64 (p.length : Int)] w fun x w' => x = .returned (.tuple #[]) ∧ In E p k a t n (64 - (r : Int)) Q B (knd (.ok ks (RT E i :: E.pts.drop (i + 1))) (stmtP r (blockP r))) w' := by
  obtain ⟨c0, c1, _, _, c4⟩ := h.rowCells
  obtain ⟨k0, _, _, _⟩ := h.tokCells
  have b0 : (0 : Int) ≤ (i : Int) := by omega
  have b1 : (i : Int) < (E.toks.length : Int) := by have := h.it; omega
  have hcap := h.cap
  have hwj := word13_ne (j := 0) (by decide)
  have ht : (RT E i).kind = 1 := pt_word h.ptOk (words13.getD 0 none0) hwj.2 hwj.1 (word13 hj (by decide))
  have hb : ((RT E i).kind == 1) = true := by simp [ht]
  have HN : Hid ((RT E i).txt ≠ none0) := Lib.hid (by rw [word13 hj (by decide)]; exact hwj.1)
  have HH := Lib.hid h
  have HSh := Lib.hid hs
  have HQ := Lib.hid hQ
  have HR := Lib.hid hr
  have HJ := Lib.hid hj
  have HBK := Lib.hid hbk
  have HB : Hid (Q + 20 * r + 24 ≤ 400000) := Lib.hid (by omega)
  have HK0 : Hid (kindW (RT E i).txt = 7) := Lib.hid (by unfold kindW; rw [hj]; rfl)
  clear h hs hQ hj hbk hr ht hwj
  generalize (RT E i).kind = kd at *
  go_enter Tryz.func146, Tryz.ntmps146
  go_wp2_with fail
  go_quiet (fail)
  have HD := Lib.hid (HH.out.drewN nq)
  have C1 := Lib.hid (text_at HD.out)
  generalize w.drewN nq = w1 at *
  clear c0 c1 c4 k0
  go_wp2_with fail
  (with_reducible refine C1.out.mono ?_)
  rintro x wd ⟨rfl, m, rfl⟩
  have H2 := Lib.hid (HD.out.drewN m)
  generalize w1.drewN m = w2 at *
  clear C1
  have C2 : Hid (Calls Tryz.prog 186 #[.string (RT E i).txt] w2 fun x w' => x = .returned (.int .u8 7) ∧ w' = w2.alloc (.cells C13 9)) := Lib.hid (by have := kind_at w2 (RT E i).txt; rw [HK0.out] at this; exact this)
  go_wp2_with fail
  (with_reducible refine C2.out.mono ?_)
  rintro x wd ⟨rfl, rfl⟩
  have H3 := Lib.hid (In.of_first HSh.out (H2.out.alloc (.cells C13 9)) (Q + 20 * r + 12))
  generalize w2.alloc (.cells C13 9) = w3 at *
  clear C2
  have C4 := Lib.hid (kid_I H3.out (by omega) (by have := HB.out; omega))
  go_wp2_with fail
  (with_reducible refine C4.out.mono ?_)
  rintro x w4 ⟨rfl, v4, kvs4, p2, ho, h4⟩
  have HO := Lib.hid ho
  have C5 := Lib.hid (node_I ho h4 (by omega) (by have := HB.out; omega) 7)
  clear C4 ho h4
  go_wp2_with fail
  (with_reducible refine C5.out.mono ?_)
  rintro x w5 ⟨rfl, h5⟩
  have h5 : In E p2 7 (RT E i).at' none0 0 (64 - (r : Int)) (Q + 1) (Q + 20 * r + 12 + 1) (.ok [] (RT E i :: E.pts.drop (i + 1))) w5 := h5
  obtain ⟨i6, h63, c16, cz6, h6⟩ := inc_ok h5 (by omega) HN.out
  have H6 := Lib.hid h6
  clear C5 h5 h6
  go_upto_region 8 with fail
  generalize w5.setCell ⟨E.b, 1, none⟩ (.int .i64 ((i6 : Int) + 1)) = w6 at *
  clear c16 cz6
  obtain ⟨g7, len7, cap7, hn7, hc7⟩ := name_I H6.out.drew (by have := HQ.out; omega)
  have c37 := hn7.c3
  have b07 : (0 : Int) ≤ (p2.length : Int) := by omega
  have b17 : (p2.length : Int) < (len7 : Int) := by have := hn7.lt; omega
  have gb7 := hn7.gb
  have NM7 := Lib.hid hc7
  clear hn7 hc7
  go_wp2_with fail
  go_region_held3 (fun w' => w'.cell? ⟨E.b, 3, none⟩ = some (.slice (some ⟨g7, 0, none⟩) len7 cap7)) (first | exact c37 | exact k37 | exact (World.cell?_of_block (w := v7) (a := ⟨E.b, 3, none⟩) (Below.heap_setCell _ _ _ _ gb7)).trans k37)
    (first
      | (go_at_call 97; (with_reducible refine NM7.out.mono ?_); rintro x v7 ⟨s7, rfl, hd7, hm7, hi7⟩; have k37 := hm7.c3; have z57 := hm7.fz 2; obtain ⟨t57, k57⟩ := hm7.t0; have H7 := Lib.hid hi7; have HD7 := Lib.hid hd7; clear hm7 hi7 hd7))
  generalize v7.setCell ⟨g7, p2.length * 5 + 2, none⟩ (.string s7) = w7 at *
  clear c37 k37 z57 k57 NM7
  have C8 := Lib.hid (take_I H7.out (by have := HQ.out; omega) ⟨#[61]⟩ (by decide) (by decide))
  go_wp2_with fail
  (with_reducible refine C8.out.mono ?_)
  rintro x w8 ⟨rfl, h8⟩
  have H8 := Lib.hid h8
  clear C8 h8
  have C9 := Lib.hid (row_I H8.out HR.out (by have := HQ.out; omega) (by have := HB.out; omega))
  go_wp2_with fail
  (with_reducible refine C9.out.mono ?_)
  rintro x w9 ⟨rfl, h9⟩
  have H9 := Lib.hid h9
  clear C9 h9
  have C10 := Lib.hid (take_I H9.out (by have := HQ.out; omega) ⟨#[46]⟩ (by decide) (by decide))
  go_wp2_with fail
  (with_reducible refine C10.out.mono ?_)
  rintro x w10 ⟨rfl, h10⟩
  have H10 := Lib.hid h10
  clear C10 h10
  have C11 := Lib.hid (word_I H10.out (by have := HQ.out; omega) (by have := HB.out; omega))
  go_wp2_with fail
  (with_reducible refine C11.out.mono ?_)
  rintro x w11 ⟨rfl, h11⟩
  have H11 := Lib.hid h11
  clear C11 h11
  have C12 := Lib.hid (is_I H11.out ⟨#[102, 111, 114]⟩ (by decide) (by decide))
  obtain ⟨b12, y12⟩ := H11.out.look ⟨#[102, 111, 114]⟩
  rw [y12] at C12
  have HY12 := Lib.hid y12
  have HN12 := Lib.hid H11.out.ne
  clear y12
  go_wp2_with fail
  (with_reducible refine C12.out.mono ?_)
  rintro x wd ⟨rfl, m, rfl⟩
  have H12 := Lib.hid (H11.out.drewN m)
  generalize w11.drewN m = w12 at *
  clear C12
  cases b12 with
  | true =>
    obtain ⟨i13, h6313, c113, cz13, h13⟩ := (H12.out.mono (Nat.le_succ _) (Nat.le_refl _)).inc (by have := HQ.out; omega) (by decide) HY12.out
    have H13 := Lib.hid h13
    clear h13
    go_upto_region 17 with fail
    generalize w12.setCell ⟨E.b, 1, none⟩ (.int .i64 ((i13 : Int) + 1)) = w13 at *
    clear c113 cz13
    have C14 := Lib.hid (take_I H13.out (by have := HQ.out; omega) ⟨#[117, 112, 100, 97, 116, 101]⟩ (by decide) (by decide))
    go_wp2_with fail
    (with_reducible refine C14.out.mono ?_)
    rintro x w14 ⟨rfl, h14⟩
    have H14 := Lib.hid h14
    clear C14 h14
    obtain ⟨g15, len15, cap15, hn15, _, hs15, _⟩ := H14.out.nod
    have c315 := hn15.c3
    have z315 : w14.frozen? ⟨g15, p2.length * 5 + 3, none⟩ = false := hn15.fz 3
    obtain ⟨o15, f15⟩ := hn15.n0
    have b015 : (0 : Int) ≤ (p2.length : Int) := by omega
    have b115 : (p2.length : Int) < (len15 : Int) := by have := hn15.lt; omega
    have H15 := Lib.hid (hs15 1)
    clear hn15 hs15
    go_upto_region 64 with fail
    generalize w14.setCell ⟨g15, p2.length * 5 + 3, none⟩ (.int .i64 1) = w15 at *
    clear c315 z315 f15
    have C16 := Lib.hid (take_I H15.out (by have := HQ.out; omega) ⟨#[59]⟩ (by decide) (by decide))
    go_wp2_with fail
    (with_reducible refine C16.out.mono ?_)
    rintro x w16 ⟨rfl, h16⟩
    have H16 := Lib.hid h16
    clear C16 h16
    have HF := Lib.hid (In.close (B' := B) HO.out (H16.out.mono (Nat.le_refl _) (B' := B) (by have := HQ.out; omega)) (by omega) (by have := HQ.out; omega) (fun q c e => by cases e))
    rw [stmt_eq HJ.out (by decide) (eq0y (r := r) HD7.out HY12.out)] at HF
    go_wp2
    simp [bodyPost, results, Tryz.results146, go_sem]
    exact HF.out
  | false =>
    have C17 := Lib.hid (take_I H12.out (by have := HQ.out; omega) ⟨#[59]⟩ (by decide) (by decide))
    go_wp2_with fail
    (with_reducible refine C17.out.mono ?_)
    rintro x w17 ⟨rfl, h17⟩
    have H17 := Lib.hid h17
    clear C17 h17
    have HF := Lib.hid (In.close (B' := B) HO.out (H17.out.mono (Nat.le_refl _) (B' := B) (by have := HQ.out; omega)) (by omega) (by have := HQ.out; omega) (fun q c e => by cases e))
    rw [stmt_eq HJ.out (by decide) (eq0n (r := r) HD7.out HY12.out HN12.out)] at HF
    go_wp2
    simp [bodyPost, results, Tryz.results146, go_sem]
    exact HF.out
end
end Go.Proofs.YtpemghcafbedeaaGreatDoor.Rf
end
section
namespace Go.Proofs.YtpemghcafbedeaaGreatDoor.Rf
open Go.RowKit Par
section
variable {p : List Nd} {k : Int} {a : Nat} {t : ByteArray} {n : Int} {Q B : Nat} {R : Res (List Ast)} {md : List Nd} {E : Env} {v : Value} {kvs : List Value} {d : Int} {w w' : World} {i : Nat}
set_option maxRecDepth 1000000 in
set_option maxHeartbeats 8000000 in
theorem stmt_1 {r : Nat} {ks : List Ast} (hbk : HasB r) (hs : Sh p k a t n Q B (.ok ks (RT E i :: E.pts.drop (i + 1))) md) (h : RS E v kvs md i (64 - (r : Int)) 0 w) (hr : r ≤ 64) (hQ : Q + 20 * r + 24 ≤ B ∧ Q ≤ 200000) (hj : words13.idxOf (RT E i).txt = 1) :
    Calls Tryz.prog 146 #[.pointer (some ⟨E.b, 0, none⟩), .int .i64 (p.length : Int)] w fun x w' => x = .returned (.tuple #[]) ∧ In E p k a t n (64 - (r : Int)) Q B (knd (.ok ks (RT E i :: E.pts.drop (i + 1))) (stmtP r (blockP r))) w' := by
  obtain ⟨c0, c1, _, _, c4⟩ := h.rowCells
  obtain ⟨k0, _, _, _⟩ := h.tokCells
  have b0 : (0 : Int) ≤ (i : Int) := by omega
  have b1 : (i : Int) < (E.toks.length : Int) := by have := h.it; omega
  have hcap := h.cap
  have hwj := word13_ne (j := 1) (by decide)
  have ht : (RT E i).kind = 1 := pt_word h.ptOk (words13.getD 1 none0) hwj.2 hwj.1 (word13 hj (by decide))
  have hb : ((RT E i).kind == 1) = true := by simp [ht]
  have HN : Hid ((RT E i).txt ≠ none0) := Lib.hid (by rw [word13 hj (by decide)]; exact hwj.1)
  have HH := Lib.hid h
  have HSh := Lib.hid hs
  have HQ := Lib.hid hQ
  have HR := Lib.hid hr
  have HJ := Lib.hid hj
  have HBK := Lib.hid hbk
  have HB : Hid (Q + 20 * r + 24 ≤ 400000) := Lib.hid (by omega)
  have HK0 : Hid (kindW (RT E i).txt = 8) := Lib.hid (by unfold kindW; rw [hj]; rfl)
  clear h hs hQ hj hbk hr ht hwj
  generalize (RT E i).kind = kd at *
  go_enter Tryz.func146, Tryz.ntmps146
  go_wp2_with fail
  go_quiet (fail)
  have HD := Lib.hid (HH.out.drewN nq)
  have C1 := Lib.hid (text_at HD.out)
  generalize w.drewN nq = w1 at *
  clear c0 c1 c4 k0
  go_wp2_with fail
  (with_reducible refine C1.out.mono ?_)
  rintro x wd ⟨rfl, m, rfl⟩
  have H2 := Lib.hid (HD.out.drewN m)
  generalize w1.drewN m = w2 at *
  clear C1
  have C2 : Hid (Calls Tryz.prog 186 #[.string (RT E i).txt] w2 fun x w' => x = .returned (.int .u8 8) ∧ w' = w2.alloc (.cells C13 9)) := Lib.hid (by have := kind_at w2 (RT E i).txt; rw [HK0.out] at this; exact this)
  go_wp2_with fail
  (with_reducible refine C2.out.mono ?_)
  rintro x wd ⟨rfl, rfl⟩
  have H3 := Lib.hid (In.of_first HSh.out (H2.out.alloc (.cells C13 9)) (Q + 20 * r + 12))
  generalize w2.alloc (.cells C13 9) = w3 at *
  clear C2
  have C4 := Lib.hid (kid_I H3.out (by omega) (by have := HB.out; omega))
  go_wp2_with fail
  (with_reducible refine C4.out.mono ?_)
  rintro x w4 ⟨rfl, v4, kvs4, p2, ho, h4⟩
  have HO := Lib.hid ho
  have C5 := Lib.hid (node_I ho h4 (by omega) (by have := HB.out; omega) 8)
  clear C4 ho h4
  go_wp2_with fail
  (with_reducible refine C5.out.mono ?_)
  rintro x w5 ⟨rfl, h5⟩
  have h5 : In E p2 8 (RT E i).at' none0 0 (64 - (r : Int)) (Q + 1) (Q + 20 * r + 12 + 1) (.ok [] (RT E i :: E.pts.drop (i + 1))) w5 := h5
  obtain ⟨i6, h63, c16, cz6, h6⟩ := inc_ok h5 (by omega) HN.out
  have H6 := Lib.hid h6
  clear C5 h5 h6
  go_upto_region 8 with fail
  generalize w5.setCell ⟨E.b, 1, none⟩ (.int .i64 ((i6 : Int) + 1)) = w6 at *
  clear c16 cz6
  have C7 := Lib.hid (row_I H6.out HR.out (by have := HQ.out; omega) (by have := HB.out; omega))
  go_wp2_with fail
  (with_reducible refine C7.out.mono ?_)
  rintro x w7 ⟨rfl, h7⟩
  have H7 := Lib.hid h7
  clear C7 h7
  have C8 := Lib.hid (take_I H7.out (by have := HQ.out; omega) ⟨#[46]⟩ (by decide) (by decide))
  go_wp2_with fail
  (with_reducible refine C8.out.mono ?_)
  rintro x w8 ⟨rfl, h8⟩
  have H8 := Lib.hid h8
  clear C8 h8
  have C9 := Lib.hid (word_I H8.out (by have := HQ.out; omega) (by have := HB.out; omega))
  go_wp2_with fail
  (with_reducible refine C9.out.mono ?_)
  rintro x w9 ⟨rfl, h9⟩
  have H9 := Lib.hid h9
  clear C9 h9
  have C10 := Lib.hid (take_I H9.out (by have := HQ.out; omega) ⟨#[61]⟩ (by decide) (by decide))
  go_wp2_with fail
  (with_reducible refine C10.out.mono ?_)
  rintro x w10 ⟨rfl, h10⟩
  have H10 := Lib.hid h10
  clear C10 h10
  have C11 := Lib.hid (expr_I H10.out HR.out (by have := HQ.out; omega) (by have := HB.out; omega))
  go_wp2_with fail
  (with_reducible refine C11.out.mono ?_)
  rintro x w11 ⟨rfl, h11⟩
  have H11 := Lib.hid h11
  clear C11 h11
  have C12 := Lib.hid (take_I H11.out (by have := HQ.out; omega) ⟨#[59]⟩ (by decide) (by decide))
  go_wp2_with fail
  (with_reducible refine C12.out.mono ?_)
  rintro x w12 ⟨rfl, h12⟩
  have H12 := Lib.hid h12
  clear C12 h12
  have HF := Lib.hid (In.close (B' := B) HO.out (H12.out.mono (Nat.le_refl _) (B' := B) (by have := HQ.out; omega)) (by omega) (by have := HQ.out; omega) (fun q c e => by cases e))
  rw [stmt_eq HJ.out (by decide) (eq1 (r := r))] at HF
  go_wp2
  simp [bodyPost, results, Tryz.results146, go_sem]
  exact HF.out
end
end Go.Proofs.YtpemghcafbedeaaGreatDoor.Rf
end
section
namespace Go.Proofs.YtpemghcafbedeaaGreatDoor.Rf
open Go.RowKit Par
section
variable {R : Res (List Ast)}
def listStep (F : Par Ast) (ks : List Ast) : Par (Option (List Ast)) := Par.bind (skipP ⟨#[44]⟩) fun
  | true => Par.bind F fun w => Par.pure (some (ks ++ [w]))
  | false => Par.pure none
theorem list_put (r : Nat) : putStep r = listStep (exprR r) := by
  funext ks l
  simp only [putStep, listStep, Par.bind]
  cases skipP ⟨#[44]⟩ l with
  | err q c => rfl
  | ok b l' => cases b <;> rfl
theorem list_words : wordsStep = listStep wordP := by
  funext ks l
  simp only [wordsStep, listStep, Par.bind]
  cases skipP ⟨#[44]⟩ l with
  | err q c => rfl
  | ok b l' => cases b <;> rfl
theorem adv_list {F : Par Ast} (hF : Less F) : Adv (listStep F) := adv_skip (fun _ => Less.bind hF fun _ => Less.pure _) (fun _ => Less.pure _) none_no
theorem list_more {F : Par Ast} (hF : Less F) (hy : nxt R ⟨#[44]⟩ = true) : then' R (many (listStep F)) = then' (knd (skp R (skipP ⟨#[44]⟩)) F) (many (listStep F)) := by
  cases R with
  | err q c => simp [nxt] at hy
  | ok ks l =>
    cases l with
    | nil => simp [nxt] at hy
    | cons t l =>
      simp only [nxt, decide_eq_true_eq] at hy
      simp only [then', knd, skp, Par.bind, Par.pure, skipP, if_pos hy]
      have hs : listStep F ks (t :: l) = match F l with | .err p c => .err p c | .ok x l' => .ok (some (ks ++ [x])) l' := by
        simp only [listStep, Par.bind, skipP, if_pos hy, Par.pure]
        cases F l <;> rfl
      cases hf : F l with
      | err q c => rw [hf] at hs; exact many_err hs
      | ok x l' => rw [hf] at hs; exact many_more (adv_list hF) hs
theorem list_done {F : Par Ast} (hne : ∀ ks l, R = .ok ks l → l ≠ []) (hy : nxt R ⟨#[44]⟩ = false) : then' R (many (listStep F)) = R := by
  cases R with
  | err q c => rfl
  | ok ks l =>
    simp only [then']
    refine many_done ?_
    simp only [listStep, Par.bind, skip_no (hne ks l rfl) hy, Par.pure]
theorem list_left {F : Par Ast} (hF : Less F) (hy : nxt R ⟨#[44]⟩ = true) : left (knd (skp R (skipP ⟨#[44]⟩)) F) < left R := by
  cases R with
  | err q c => simp [nxt] at hy
  | ok ks l =>
    cases l with
    | nil => simp [nxt] at hy
    | cons t l =>
      simp only [nxt, decide_eq_true_eq] at hy
      simp only [then', knd, skp, Par.bind, Par.pure, skipP, if_pos hy]
      cases hf : F l with
      | err q c => simp [left]
      | ok x l' => have := hF l x l' hf; simp only [left, List.length_cons]; omega
end
section
variable {r a : Nat} {l : List PT}
theorem eq2 {S : Res (List Ast)} (hS : S = then' (knd (skp (knd (Res.ok [] l : Res (List Ast)) (rowP r)) (expectP ⟨#[40]⟩)) (exprR r)) (many (listStep (exprR r)))) :
    then' (skp (skp S (expectP ⟨#[41]⟩)) (expectP ⟨#[59]⟩)) (fun ks2 l1 => Res.ok (Ast.mk 9 a none0 0 ks2) l1) = putP r a l := by
  subst hS
  rw [← list_put]
  cases h1 : rowP r l with
  | err q c => simp only [skp, knd, then', Par.bind, Par.pure, putP, h1]
  | ok x1 l1 =>
    cases h2 : expectP ⟨#[40]⟩ l1 with
    | err q c => simp only [skp, knd, then', Par.bind, Par.pure, putP, h1, h2]
    | ok x2 l2 =>
      cases h3 : exprR r l2 with
      | err q c => simp only [skp, knd, then', Par.bind, Par.pure, putP, h1, h2, h3]
      | ok x3 l3 =>
        cases h4 : many (putStep r) [x1, x3] l3 with
        | err q c => simp only [skp, knd, then', Par.bind, Par.pure, putP, h1, h2, h3, h4, List.nil_append, List.cons_append]
        | ok x4 l4 =>
          cases h5 : expectP ⟨#[41]⟩ l4 with
          | err q c => simp only [skp, knd, then', Par.bind, Par.pure, putP, h1, h2, h3, h4, h5, List.nil_append, List.cons_append]
          | ok x5 l5 =>
            cases h6 : expectP ⟨#[59]⟩ l5 with
            | err q c => simp only [skp, knd, then', Par.bind, Par.pure, putP, endP, nodeA, h1, h2, h3, h4, h5, h6, List.nil_append, List.cons_append]
            | ok x6 l6 => simp only [skp, knd, then', Par.bind, Par.pure, putP, endP, nodeA, h1, h2, h3, h4, h5, h6, List.nil_append, List.cons_append]
theorem is_yes {ks : List Ast} {s : ByteArray} (hy : nxt (.ok ks l) s = true) : isNextP s l = .ok true l := by
  cases l with
  | nil => simp [nxt] at hy
  | cons t l => simp only [nxt] at hy; simp only [isNextP, hy]
theorem is_no {ks : List Ast} {s : ByteArray} (hl : l ≠ []) (hy : nxt (.ok ks l) s = false) : isNextP s l = .ok false l := by
  cases l with
  | nil => exact absurd rfl hl
  | cons t l => simp only [nxt] at hy; simp only [isNextP, hy]
theorem eq6y {s : ByteArray} (hd : hdk (Res.ok [] l : Res (List Ast)) = 1 → s = hdt (Res.ok [] l : Res (List Ast))) (hy : nxt (skp (Res.ok [] l : Res (List Ast)) (takeP 1)) ⟨#[91]⟩ = true) :
    then' (skp (then' (Res.ok [] l : Res (List Ast)) fun ks _ => then' (knd (skp (Res.ok [] l : Res (List Ast)) (takeP 1)) (brkP r)) fun ks2 l9 => Res.ok (ks ++ [Ast.mk 20 (hda (Res.ok [] l : Res (List Ast))) s 0 ks2]) l9) (expectP ⟨#[59]⟩)) (fun ks2 l1 => Res.ok (Ast.mk 13 a none0 0 ks2) l1) = releaseP r a l := by
  have e := row_eq (R := (Res.ok [] l : Res (List Ast))) (r := r) hd
  simp only [then_ok, Par.pure] at e ⊢
  rw [e]
  cases h1 : takeP 1 l with
  | err q c => simp only [skp, knd, then', Par.bind, Par.pure, releaseP, rowP, h1]
  | ok x1 l1 =>
    simp only [skp, knd, then', Par.bind, Par.pure, h1] at hy
    have k1 := is_yes hy
    cases h2 : rowOfP r x1 l1 with
    | err q c => simp only [skp, knd, then', Par.bind, Par.pure, releaseP, rowP, h1, k1, h2]
    | ok x2 l2 =>
      cases h3 : expectP ⟨#[59]⟩ l2 with
      | err q c => simp only [skp, knd, then', Par.bind, Par.pure, releaseP, rowP, endP, nodeA, h1, k1, h2, h3, List.nil_append]
      | ok x3 l3 => simp only [skp, knd, then', Par.bind, Par.pure, releaseP, rowP, endP, nodeA, h1, k1, h2, h3, List.nil_append]
theorem take_at {k : Int} {u : PT} {l' : List PT} (h : takeP k l = .ok u l') : hda (Res.ok [] l : Res (List Ast)) = u.at' := by
  cases l with
  | nil => simp [takeP] at h
  | cons t l =>
    simp only [takeP] at h
    split at h
    · simp only [Res.ok.injEq] at h; rw [← h.1]; rfl
    · simp at h
theorem eq6n {s : ByteArray} (hd : hdk (Res.ok [] l : Res (List Ast)) = 1 → s = hdt (Res.ok [] l : Res (List Ast))) (hy : nxt (skp (Res.ok [] l : Res (List Ast)) (takeP 1)) ⟨#[91]⟩ = false) (hn : ∀ ks l1, skp (Res.ok [] l : Res (List Ast)) (takeP 1) = .ok ks l1 → l1 ≠ []) :
    then' (skp (then' (Res.ok [] l : Res (List Ast)) fun ks _ => then' (skp (Res.ok [] l : Res (List Ast)) (takeP 1)) fun ks2 l9 => Res.ok (ks ++ [Ast.mk 5 (hda (Res.ok [] l : Res (List Ast))) s 0 ks2]) l9) (expectP ⟨#[59]⟩)) (fun ks2 l1 => Res.ok (Ast.mk 13 a none0 0 ks2) l1) = releaseP r a l := by
  cases h1 : takeP 1 l with
  | err q c => simp only [skp, then', Par.bind, Par.pure, releaseP, h1]
  | ok x1 l1 =>
    obtain rfl := take_hd hd h1
    rw [take_at h1]
    simp only [skp, then', Par.bind, Par.pure, h1] at hy hn
    have k1 := is_no (hn _ _ rfl) hy
    cases h3 : expectP ⟨#[59]⟩ l1 with
    | err q c => simp only [skp, then', Par.bind, Par.pure, releaseP, endP, nodeA, wordA, h1, k1, h3, List.nil_append]
    | ok x3 l3 => simp only [skp, then', Par.bind, Par.pure, releaseP, endP, nodeA, wordA, h1, k1, h3, List.nil_append]
end
end Go.Proofs.YtpemghcafbedeaaGreatDoor.Rf
end
section
namespace Go.Proofs.YtpemghcafbedeaaGreatDoor.Rf
open Go.RowKit Par
section
variable {p : List Nd} {k : Int} {a : Nat} {t : ByteArray} {n : Int} {Q B : Nat} {R : Res (List Ast)} {md : List Nd} {E : Env} {v : Value} {kvs : List Value} {d : Int} {w w' : World} {i : Nat}
set_option maxRecDepth 1000000 in
set_option maxHeartbeats 8000000 in
theorem stmt_2 {r : Nat} {ks : List Ast} (hbk : HasB r) (hs : Sh p k a t n Q B (.ok ks (RT E i :: E.pts.drop (i + 1))) md) (h : RS E v kvs md i (64 - (r : Int)) 0 w) (hr : r ≤ 64) (hQ : Q + 20 * r + 24 ≤ B ∧ Q ≤ 200000) (hj : words13.idxOf (RT E i).txt = 2) :
    Calls Tryz.prog 146 #[.pointer (some ⟨E.b, 0, none⟩), .int .i64 (p.length : Int)] w fun x w' => x = .returned (.tuple #[]) ∧ In E p k a t n (64 - (r : Int)) Q B (knd (.ok ks (RT E i :: E.pts.drop (i + 1))) (stmtP r (blockP r))) w' := by
  obtain ⟨c0, c1, _, _, c4⟩ := h.rowCells
  obtain ⟨k0, _, _, _⟩ := h.tokCells
  have b0 : (0 : Int) ≤ (i : Int) := by omega
  have b1 : (i : Int) < (E.toks.length : Int) := by have := h.it; omega
  have hcap := h.cap
  have hwj := word13_ne (j := 2) (by decide)
  have ht : (RT E i).kind = 1 := pt_word h.ptOk (words13.getD 2 none0) hwj.2 hwj.1 (word13 hj (by decide))
  have hb : ((RT E i).kind == 1) = true := by simp [ht]
  have HN : Hid ((RT E i).txt ≠ none0) := Lib.hid (by rw [word13 hj (by decide)]; exact hwj.1)
  have HH := Lib.hid h
  have HSh := Lib.hid hs
  have HQ := Lib.hid hQ
  have HR := Lib.hid hr
  have HJ := Lib.hid hj
  have HBK := Lib.hid hbk
  have HB : Hid (Q + 20 * r + 24 ≤ 400000) := Lib.hid (by omega)
  have HK0 : Hid (kindW (RT E i).txt = 9) := Lib.hid (by unfold kindW; rw [hj]; rfl)
  clear h hs hQ hj hbk hr ht hwj
  generalize (RT E i).kind = kd at *
  go_enter Tryz.func146, Tryz.ntmps146
  go_wp2_with fail
  go_quiet (fail)
  have HD := Lib.hid (HH.out.drewN nq)
  have C1 := Lib.hid (text_at HD.out)
  generalize w.drewN nq = w1 at *
  clear c0 c1 c4 k0
  go_wp2_with fail
  (with_reducible refine C1.out.mono ?_)
  rintro x wd ⟨rfl, m, rfl⟩
  have H2 := Lib.hid (HD.out.drewN m)
  generalize w1.drewN m = w2 at *
  clear C1
  have C2 : Hid (Calls Tryz.prog 186 #[.string (RT E i).txt] w2 fun x w' => x = .returned (.int .u8 9) ∧ w' = w2.alloc (.cells C13 9)) := Lib.hid (by have := kind_at w2 (RT E i).txt; rw [HK0.out] at this; exact this)
  go_wp2_with fail
  (with_reducible refine C2.out.mono ?_)
  rintro x wd ⟨rfl, rfl⟩
  have H3 := Lib.hid (In.of_first HSh.out (H2.out.alloc (.cells C13 9)) (Q + 20 * r + 12))
  generalize w2.alloc (.cells C13 9) = w3 at *
  clear C2
  have C4 := Lib.hid (kid_I H3.out (by omega) (by have := HB.out; omega))
  go_wp2_with fail
  (with_reducible refine C4.out.mono ?_)
  rintro x w4 ⟨rfl, v4, kvs4, p2, ho, h4⟩
  have HO := Lib.hid ho
  have C5 := Lib.hid (node_I ho h4 (by omega) (by have := HB.out; omega) 9)
  clear C4 ho h4
  go_wp2_with fail
  (with_reducible refine C5.out.mono ?_)
  rintro x w5 ⟨rfl, h5⟩
  have h5 : In E p2 9 (RT E i).at' none0 0 (64 - (r : Int)) (Q + 1) (Q + 20 * r + 12 + 1) (.ok [] (RT E i :: E.pts.drop (i + 1))) w5 := h5
  obtain ⟨i6, h63, c16, cz6, h6⟩ := inc_ok h5 (by omega) HN.out
  have H6 := Lib.hid h6
  clear C5 h5 h6
  go_upto_region 8 with fail
  generalize w5.setCell ⟨E.b, 1, none⟩ (.int .i64 ((i6 : Int) + 1)) = w6 at *
  clear c16 cz6
  have C7 := Lib.hid (row_I H6.out HR.out (by have := HQ.out; omega) (by have := HB.out; omega))
  go_wp2_with fail
  (with_reducible refine C7.out.mono ?_)
  rintro x w7 ⟨rfl, h7⟩
  have H7 := Lib.hid h7
  clear C7 h7
  have C8 := Lib.hid (take_I H7.out (by have := HQ.out; omega) ⟨#[40]⟩ (by decide) (by decide))
  go_wp2_with fail
  (with_reducible refine C8.out.mono ?_)
  rintro x w8 ⟨rfl, h8⟩
  have H8 := Lib.hid h8
  clear C8 h8
  have C9 := Lib.hid (expr_I H8.out HR.out (by have := HQ.out; omega) (by have := HB.out; omega))
  go_wp2_with fail
  (with_reducible refine C9.out.mono ?_)
  rintro x w9 ⟨rfl, h9⟩
  have H9 := Lib.hid h9
  clear C9 h9
  go_wp2_with fail
  go_loopg [] (left (knd (skp (knd (Res.ok [] (E.pts.drop (i + 1)) : Res (List Ast)) (rowP r)) (expectP ⟨#[40]⟩)) (exprR r))) (fun g wr => ∃ R1 : Res (List Ast), Hid (left R1 ≤ g) ∧ Hid (then' R1 (many (listStep (exprR r))) = then' (knd (skp (knd (Res.ok [] (E.pts.drop (i + 1)) : Res (List Ast)) (rowP r)) (expectP ⟨#[40]⟩)) (exprR r)) (many (listStep (exprR r)))) ∧ Hid (In E p2 9 (RT E i).at' none0 0 (64 - (r : Int)) Q (Q + 20 * r + 18) R1 wr))
  case atStart => exact ⟨_, Lib.hid (Nat.le_refl _), Lib.hid rfl, Lib.hid (H9.out.mono (Nat.le_refl _) (by omega))⟩
  case round =>
    clear H9
    obtain ⟨R1, HG, HE, HL⟩ := hrel
    have C10 := Lib.hid (is_I HL.out ⟨#[44]⟩ (by decide) (by decide))
    obtain ⟨b10, y10⟩ := HL.out.look ⟨#[44]⟩
    rw [y10] at C10
    have HY10 := Lib.hid y10
    have HN10 := Lib.hid HL.out.ne
    clear y10
    go_wp2_with fail
    (with_reducible refine C10.out.mono ?_)
    rintro x wd ⟨rfl, m, rfl⟩
    have H10 := Lib.hid (HL.out.drewN m)
    generalize wr.drewN m = w10 at *
    clear C10
    cases b10 with
    | false =>
      have HE2 := Lib.hid ((list_done HN10.out HY10.out).symm.trans HE.out)
      have C11 := Lib.hid (take_I H10.out (by have := HQ.out; omega) ⟨#[41]⟩ (by decide) (by decide))
      go_wp2_with fail
      (with_reducible refine C11.out.mono ?_)
      rintro x w11 ⟨rfl, h11⟩
      have H11 := Lib.hid h11
      clear C11 h11
      have C12 := Lib.hid (take_I H11.out (by have := HQ.out; omega) ⟨#[59]⟩ (by decide) (by decide))
      go_wp2_with fail
      (with_reducible refine C12.out.mono ?_)
      rintro x w12 ⟨rfl, h12⟩
      have H12 := Lib.hid h12
      clear C12 h12
      have HF := Lib.hid (In.close (B' := B) HO.out (H12.out.mono (Nat.le_refl _) (B' := B) (by have := HQ.out; omega)) (by omega) (by have := HQ.out; omega) (fun q c e => by cases e))
      rw [stmt_eq HJ.out (by decide) (eq2 HE2.out)] at HF
      go_wp2
      simp [bodyPost, results, Tryz.results146, go_sem]
      exact HF.out
    | true =>
      obtain ⟨ks1, l1, rfl⟩ := nxt_ok HY10.out
      have HL2 := Lib.hid (H10.out.okB (Q + 20 * r + 17))
      obtain ⟨i13, h6313, c113, cz13, h13⟩ := (HL2.out.mono (Nat.le_succ _) (Nat.le_refl _)).inc (by have := HQ.out; omega) (by decide) HY10.out
      have H13 := Lib.hid h13
      clear h13
      go_upto_region 31 with fail
      generalize w10.setCell ⟨E.b, 1, none⟩ (.int .i64 ((i13 : Int) + 1)) = w13 at *
      clear c113 cz13
      have C14 := Lib.hid (expr_I H13.out HR.out (by have := HQ.out; omega) (by have := HB.out; omega))
      go_wp2_with fail
      (with_reducible refine C14.out.mono ?_)
      rintro x w14 ⟨rfl, h14⟩
      have H14 := Lib.hid h14
      clear C14 h14
      have HLT : Hid (left (knd (skp (Res.ok ks1 l1) (skipP ⟨#[44]⟩)) (exprR r)) < gk) := Lib.hid (by have := HG.out; have := list_left (less_exprR r) HY10.out; omega)
      have HE3 := Lib.hid ((list_more (less_exprR r) HY10.out).symm.trans HE.out)
      go_wp2_with fail
      go_roundg (left (knd (skp (Res.ok ks1 l1) (skipP ⟨#[44]⟩)) (exprR r)))
      case rel => exact ⟨_, Lib.hid (Nat.le_refl _), HE3, H14⟩
      case measure => exact HLT.out
end
end Go.Proofs.YtpemghcafbedeaaGreatDoor.Rf
end
section
namespace Go.Proofs.YtpemghcafbedeaaGreatDoor.Rf
open Go.RowKit Par
section
variable {p : List Nd} {k : Int} {a : Nat} {t : ByteArray} {n : Int} {Q B : Nat} {R : Res (List Ast)} {md : List Nd} {E : Env} {v : Value} {kvs : List Value} {d : Int} {w w' : World} {i : Nat}
set_option maxRecDepth 1000000 in
set_option maxHeartbeats 8000000 in
theorem stmt_3 {r : Nat} {ks : List Ast} (hbk : HasB r) (hs : Sh p k a t n Q B (.ok ks (RT E i :: E.pts.drop (i + 1))) md) (h : RS E v kvs md i (64 - (r : Int)) 0 w) (hr : r ≤ 64) (hQ : Q + 20 * r + 24 ≤ B ∧ Q ≤ 200000) (hj : words13.idxOf (RT E i).txt = 3) :
    Calls Tryz.prog 146 #[.pointer (some ⟨E.b, 0, none⟩), .int .i64 (p.length : Int)] w fun x w' => x = .returned (.tuple #[]) ∧ In E p k a t n (64 - (r : Int)) Q B (knd (.ok ks (RT E i :: E.pts.drop (i + 1))) (stmtP r (blockP r))) w' := by
  obtain ⟨c0, c1, _, _, c4⟩ := h.rowCells
  obtain ⟨k0, _, _, _⟩ := h.tokCells
  have b0 : (0 : Int) ≤ (i : Int) := by omega
  have b1 : (i : Int) < (E.toks.length : Int) := by have := h.it; omega
  have hcap := h.cap
  have hwj := word13_ne (j := 3) (by decide)
  have ht : (RT E i).kind = 1 := pt_word h.ptOk (words13.getD 3 none0) hwj.2 hwj.1 (word13 hj (by decide))
  have hb : ((RT E i).kind == 1) = true := by simp [ht]
  have HN : Hid ((RT E i).txt ≠ none0) := Lib.hid (by rw [word13 hj (by decide)]; exact hwj.1)
  have HH := Lib.hid h
  have HSh := Lib.hid hs
  have HQ := Lib.hid hQ
  have HR := Lib.hid hr
  have HJ := Lib.hid hj
  have HBK := Lib.hid hbk
  have HB : Hid (Q + 20 * r + 24 ≤ 400000) := Lib.hid (by omega)
  have HK0 : Hid (kindW (RT E i).txt = 10) := Lib.hid (by unfold kindW; rw [hj]; rfl)
  clear h hs hQ hj hbk hr ht hwj
  generalize (RT E i).kind = kd at *
  go_enter Tryz.func146, Tryz.ntmps146
  go_wp2_with fail
  go_quiet (fail)
  have HD := Lib.hid (HH.out.drewN nq)
  have C1 := Lib.hid (text_at HD.out)
  generalize w.drewN nq = w1 at *
  clear c0 c1 c4 k0
  go_wp2_with fail
  (with_reducible refine C1.out.mono ?_)
  rintro x wd ⟨rfl, m, rfl⟩
  have H2 := Lib.hid (HD.out.drewN m)
  generalize w1.drewN m = w2 at *
  clear C1
  have C2 : Hid (Calls Tryz.prog 186 #[.string (RT E i).txt] w2 fun x w' => x = .returned (.int .u8 10) ∧ w' = w2.alloc (.cells C13 9)) := Lib.hid (by have := kind_at w2 (RT E i).txt; rw [HK0.out] at this; exact this)
  go_wp2_with fail
  (with_reducible refine C2.out.mono ?_)
  rintro x wd ⟨rfl, rfl⟩
  have H3 := Lib.hid (In.of_first HSh.out (H2.out.alloc (.cells C13 9)) (Q + 20 * r + 12))
  generalize w2.alloc (.cells C13 9) = w3 at *
  clear C2
  have C4 := Lib.hid (kid_I H3.out (by omega) (by have := HB.out; omega))
  go_wp2_with fail
  (with_reducible refine C4.out.mono ?_)
  rintro x w4 ⟨rfl, v4, kvs4, p2, ho, h4⟩
  have HO := Lib.hid ho
  have C5 := Lib.hid (node_I ho h4 (by omega) (by have := HB.out; omega) 10)
  clear C4 ho h4
  go_wp2_with fail
  (with_reducible refine C5.out.mono ?_)
  rintro x w5 ⟨rfl, h5⟩
  have h5 : In E p2 10 (RT E i).at' none0 0 (64 - (r : Int)) (Q + 1) (Q + 20 * r + 12 + 1) (.ok [] (RT E i :: E.pts.drop (i + 1))) w5 := h5
  obtain ⟨i6, h63, c16, cz6, h6⟩ := inc_ok h5 (by omega) HN.out
  have H6 := Lib.hid h6
  clear C5 h5 h6
  go_upto_region 8 with fail
  generalize w5.setCell ⟨E.b, 1, none⟩ (.int .i64 ((i6 : Int) + 1)) = w6 at *
  clear c16 cz6
  have C7 := Lib.hid (row_I H6.out HR.out (by have := HQ.out; omega) (by have := HB.out; omega))
  go_wp2_with fail
  (with_reducible refine C7.out.mono ?_)
  rintro x w7 ⟨rfl, h7⟩
  have H7 := Lib.hid h7
  clear C7 h7
  have C8 := Lib.hid (take_I H7.out (by have := HQ.out; omega) ⟨#[59]⟩ (by decide) (by decide))
  go_wp2_with fail
  (with_reducible refine C8.out.mono ?_)
  rintro x w8 ⟨rfl, h8⟩
  have H8 := Lib.hid h8
  clear C8 h8
  have HF := Lib.hid (In.close (B' := B) HO.out (H8.out.mono (Nat.le_refl _) (B' := B) (by have := HQ.out; omega)) (by omega) (by have := HQ.out; omega) (fun q c e => by cases e))
  rw [stmt_eq HJ.out (by decide) (eq3 (r := r))] at HF
  go_wp2
  simp [bodyPost, results, Tryz.results146, go_sem]
  exact HF.out
end
end Go.Proofs.YtpemghcafbedeaaGreatDoor.Rf
end
section
namespace Go.Proofs.YtpemghcafbedeaaGreatDoor.Rf
open Go.RowKit Par
section
variable {p : List Nd} {k : Int} {a : Nat} {t : ByteArray} {n : Int} {Q B : Nat} {R : Res (List Ast)} {md : List Nd} {E : Env} {v : Value} {kvs : List Value} {d : Int} {w w' : World} {i : Nat}
set_option maxRecDepth 1000000 in
set_option maxHeartbeats 8000000 in
theorem stmt_4 {r : Nat} {ks : List Ast} (hbk : HasB r) (hs : Sh p k a t n Q B (.ok ks (RT E i :: E.pts.drop (i + 1))) md) (h : RS E v kvs md i (64 - (r : Int)) 0 w) (hr : r ≤ 64) (hQ : Q + 20 * r + 24 ≤ B ∧ Q ≤ 200000) (hj : words13.idxOf (RT E i).txt = 4) :
    Calls Tryz.prog 146 #[.pointer (some ⟨E.b, 0, none⟩), .int .i64 (p.length : Int)] w fun x w' => x = .returned (.tuple #[]) ∧ In E p k a t n (64 - (r : Int)) Q B (knd (.ok ks (RT E i :: E.pts.drop (i + 1))) (stmtP r (blockP r))) w' := by
  obtain ⟨c0, c1, _, _, c4⟩ := h.rowCells
  obtain ⟨k0, _, _, _⟩ := h.tokCells
  have b0 : (0 : Int) ≤ (i : Int) := by omega
  have b1 : (i : Int) < (E.toks.length : Int) := by have := h.it; omega
  have hcap := h.cap
  have hwj := word13_ne (j := 4) (by decide)
  have ht : (RT E i).kind = 1 := pt_word h.ptOk (words13.getD 4 none0) hwj.2 hwj.1 (word13 hj (by decide))
  have hb : ((RT E i).kind == 1) = true := by simp [ht]
  have HN : Hid ((RT E i).txt ≠ none0) := Lib.hid (by rw [word13 hj (by decide)]; exact hwj.1)
  have HH := Lib.hid h
  have HSh := Lib.hid hs
  have HQ := Lib.hid hQ
  have HR := Lib.hid hr
  have HJ := Lib.hid hj
  have HBK := Lib.hid hbk
  have HB : Hid (Q + 20 * r + 24 ≤ 400000) := Lib.hid (by omega)
  have HK0 : Hid (kindW (RT E i).txt = 11) := Lib.hid (by unfold kindW; rw [hj]; rfl)
  clear h hs hQ hj hbk hr ht hwj
  generalize (RT E i).kind = kd at *
  go_enter Tryz.func146, Tryz.ntmps146
  go_wp2_with fail
  go_quiet (fail)
  have HD := Lib.hid (HH.out.drewN nq)
  have C1 := Lib.hid (text_at HD.out)
  generalize w.drewN nq = w1 at *
  clear c0 c1 c4 k0
  go_wp2_with fail
  (with_reducible refine C1.out.mono ?_)
  rintro x wd ⟨rfl, m, rfl⟩
  have H2 := Lib.hid (HD.out.drewN m)
  generalize w1.drewN m = w2 at *
  clear C1
  have C2 : Hid (Calls Tryz.prog 186 #[.string (RT E i).txt] w2 fun x w' => x = .returned (.int .u8 11) ∧ w' = w2.alloc (.cells C13 9)) := Lib.hid (by have := kind_at w2 (RT E i).txt; rw [HK0.out] at this; exact this)
  go_wp2_with fail
  (with_reducible refine C2.out.mono ?_)
  rintro x wd ⟨rfl, rfl⟩
  have H3 := Lib.hid (In.of_first HSh.out (H2.out.alloc (.cells C13 9)) (Q + 20 * r + 12))
  generalize w2.alloc (.cells C13 9) = w3 at *
  clear C2
  have C4 := Lib.hid (kid_I H3.out (by omega) (by have := HB.out; omega))
  go_wp2_with fail
  (with_reducible refine C4.out.mono ?_)
  rintro x w4 ⟨rfl, v4, kvs4, p2, ho, h4⟩
  have HO := Lib.hid ho
  have C5 := Lib.hid (node_I ho h4 (by omega) (by have := HB.out; omega) 11)
  clear C4 ho h4
  go_wp2_with fail
  (with_reducible refine C5.out.mono ?_)
  rintro x w5 ⟨rfl, h5⟩
  have h5 : In E p2 11 (RT E i).at' none0 0 (64 - (r : Int)) (Q + 1) (Q + 20 * r + 12 + 1) (.ok [] (RT E i :: E.pts.drop (i + 1))) w5 := h5
  obtain ⟨i6, h63, c16, cz6, h6⟩ := inc_ok h5 (by omega) HN.out
  have H6 := Lib.hid h6
  clear C5 h5 h6
  go_upto_region 8 with fail
  generalize w5.setCell ⟨E.b, 1, none⟩ (.int .i64 ((i6 : Int) + 1)) = w6 at *
  clear c16 cz6
  obtain ⟨g7, len7, cap7, hn7, hc7⟩ := name_I H6.out.drew (by have := HQ.out; omega)
  have c37 := hn7.c3
  have b07 : (0 : Int) ≤ (p2.length : Int) := by omega
  have b17 : (p2.length : Int) < (len7 : Int) := by have := hn7.lt; omega
  have gb7 := hn7.gb
  have NM7 := Lib.hid hc7
  clear hn7 hc7
  go_wp2_with fail
  go_region_held3 (fun w' => w'.cell? ⟨E.b, 3, none⟩ = some (.slice (some ⟨g7, 0, none⟩) len7 cap7)) (first | exact c37 | exact k37 | exact (World.cell?_of_block (w := v7) (a := ⟨E.b, 3, none⟩) (Below.heap_setCell _ _ _ _ gb7)).trans k37)
    (first
      | (go_at_call 97; (with_reducible refine NM7.out.mono ?_); rintro x v7 ⟨s7, rfl, hd7, hm7, hi7⟩; have k37 := hm7.c3; have z57 := hm7.fz 2; obtain ⟨t57, k57⟩ := hm7.t0; have H7 := Lib.hid hi7; have HD7 := Lib.hid hd7; clear hm7 hi7 hd7))
  generalize v7.setCell ⟨g7, p2.length * 5 + 2, none⟩ (.string s7) = w7 at *
  clear c37 k37 z57 k57 NM7
  have C8 := Lib.hid (take_I H7.out (by have := HQ.out; omega) ⟨#[61]⟩ (by decide) (by decide))
  go_wp2_with fail
  (with_reducible refine C8.out.mono ?_)
  rintro x w8 ⟨rfl, h8⟩
  have H8 := Lib.hid h8
  clear C8 h8
  have C9 := Lib.hid (word_I H8.out (by have := HQ.out; omega) (by have := HB.out; omega))
  go_wp2_with fail
  (with_reducible refine C9.out.mono ?_)
  rintro x w9 ⟨rfl, h9⟩
  have H9 := Lib.hid h9
  clear C9 h9
  have C10 := Lib.hid (take_I H9.out (by have := HQ.out; omega) ⟨#[46]⟩ (by decide) (by decide))
  go_wp2_with fail
  (with_reducible refine C10.out.mono ?_)
  rintro x w10 ⟨rfl, h10⟩
  have H10 := Lib.hid h10
  clear C10 h10
  have C11 := Lib.hid (word_I H10.out (by have := HQ.out; omega) (by have := HB.out; omega))
  go_wp2_with fail
  (with_reducible refine C11.out.mono ?_)
  rintro x w11 ⟨rfl, h11⟩
  have H11 := Lib.hid h11
  clear C11 h11
  have C12 := Lib.hid (take_I H11.out (by have := HQ.out; omega) ⟨#[59]⟩ (by decide) (by decide))
  go_wp2_with fail
  (with_reducible refine C12.out.mono ?_)
  rintro x w12 ⟨rfl, h12⟩
  have H12 := Lib.hid h12
  clear C12 h12
  have HF := Lib.hid (In.close (B' := B) HO.out (H12.out.mono (Nat.le_refl _) (B' := B) (by have := HQ.out; omega)) (by omega) (by have := HQ.out; omega) (fun q c e => by cases e))
  rw [stmt_eq HJ.out (by decide) (eq4 (r := r) HD7.out)] at HF
  go_wp2
  simp [bodyPost, results, Tryz.results146, go_sem]
  exact HF.out
end
end Go.Proofs.YtpemghcafbedeaaGreatDoor.Rf
end
section
namespace Go.Proofs.YtpemghcafbedeaaGreatDoor.Rf
open Go.RowKit Par
section
variable {p : List Nd} {k : Int} {a : Nat} {t : ByteArray} {n : Int} {Q B : Nat} {R : Res (List Ast)} {md : List Nd} {E : Env} {v : Value} {kvs : List Value} {d : Int} {w w' : World} {i : Nat}
set_option maxRecDepth 1000000 in
set_option maxHeartbeats 8000000 in
theorem stmt_5 {r : Nat} {ks : List Ast} (hbk : HasB r) (hs : Sh p k a t n Q B (.ok ks (RT E i :: E.pts.drop (i + 1))) md) (h : RS E v kvs md i (64 - (r : Int)) 0 w) (hr : r ≤ 64) (hQ : Q + 20 * r + 24 ≤ B ∧ Q ≤ 200000) (hj : words13.idxOf (RT E i).txt = 5) :
    Calls Tryz.prog 146 #[.pointer (some ⟨E.b, 0, none⟩), .int .i64 (p.length : Int)] w fun x w' => x = .returned (.tuple #[]) ∧ In E p k a t n (64 - (r : Int)) Q B (knd (.ok ks (RT E i :: E.pts.drop (i + 1))) (stmtP r (blockP r))) w' := by
  obtain ⟨c0, c1, _, _, c4⟩ := h.rowCells
  obtain ⟨k0, _, _, _⟩ := h.tokCells
  have b0 : (0 : Int) ≤ (i : Int) := by omega
  have b1 : (i : Int) < (E.toks.length : Int) := by have := h.it; omega
  have hcap := h.cap
  have hwj := word13_ne (j := 5) (by decide)
  have ht : (RT E i).kind = 1 := pt_word h.ptOk (words13.getD 5 none0) hwj.2 hwj.1 (word13 hj (by decide))
  have hb : ((RT E i).kind == 1) = true := by simp [ht]
  have HN : Hid ((RT E i).txt ≠ none0) := Lib.hid (by rw [word13 hj (by decide)]; exact hwj.1)
  have HH := Lib.hid h
  have HSh := Lib.hid hs
  have HQ := Lib.hid hQ
  have HR := Lib.hid hr
  have HJ := Lib.hid hj
  have HBK := Lib.hid hbk
  have HB : Hid (Q + 20 * r + 24 ≤ 400000) := Lib.hid (by omega)
  have HK0 : Hid (kindW (RT E i).txt = 12) := Lib.hid (by unfold kindW; rw [hj]; rfl)
  clear h hs hQ hj hbk hr ht hwj
  generalize (RT E i).kind = kd at *
  go_enter Tryz.func146, Tryz.ntmps146
  go_wp2_with fail
  go_quiet (fail)
  have HD := Lib.hid (HH.out.drewN nq)
  have C1 := Lib.hid (text_at HD.out)
  generalize w.drewN nq = w1 at *
  clear c0 c1 c4 k0
  go_wp2_with fail
  (with_reducible refine C1.out.mono ?_)
  rintro x wd ⟨rfl, m, rfl⟩
  have H2 := Lib.hid (HD.out.drewN m)
  generalize w1.drewN m = w2 at *
  clear C1
  have C2 : Hid (Calls Tryz.prog 186 #[.string (RT E i).txt] w2 fun x w' => x = .returned (.int .u8 12) ∧ w' = w2.alloc (.cells C13 9)) := Lib.hid (by have := kind_at w2 (RT E i).txt; rw [HK0.out] at this; exact this)
  go_wp2_with fail
  (with_reducible refine C2.out.mono ?_)
  rintro x wd ⟨rfl, rfl⟩
  have H3 := Lib.hid (In.of_first HSh.out (H2.out.alloc (.cells C13 9)) (Q + 20 * r + 12))
  generalize w2.alloc (.cells C13 9) = w3 at *
  clear C2
  have C4 := Lib.hid (kid_I H3.out (by omega) (by have := HB.out; omega))
  go_wp2_with fail
  (with_reducible refine C4.out.mono ?_)
  rintro x w4 ⟨rfl, v4, kvs4, p2, ho, h4⟩
  have HO := Lib.hid ho
  have C5 := Lib.hid (node_I ho h4 (by omega) (by have := HB.out; omega) 12)
  clear C4 ho h4
  go_wp2_with fail
  (with_reducible refine C5.out.mono ?_)
  rintro x w5 ⟨rfl, h5⟩
  have h5 : In E p2 12 (RT E i).at' none0 0 (64 - (r : Int)) (Q + 1) (Q + 20 * r + 12 + 1) (.ok [] (RT E i :: E.pts.drop (i + 1))) w5 := h5
  obtain ⟨i6, h63, c16, cz6, h6⟩ := inc_ok h5 (by omega) HN.out
  have H6 := Lib.hid h6
  clear C5 h5 h6
  go_upto_region 8 with fail
  generalize w5.setCell ⟨E.b, 1, none⟩ (.int .i64 ((i6 : Int) + 1)) = w6 at *
  clear c16 cz6
  have C7 := Lib.hid (word_I H6.out (by have := HQ.out; omega) (by have := HB.out; omega))
  go_wp2_with fail
  (with_reducible refine C7.out.mono ?_)
  rintro x w7 ⟨rfl, h7⟩
  have H7 := Lib.hid h7
  clear C7 h7
  have C8 := Lib.hid (is_I H7.out ⟨#[97, 108, 108]⟩ (by decide) (by decide))
  obtain ⟨b8, y8⟩ := H7.out.look ⟨#[97, 108, 108]⟩
  rw [y8] at C8
  have HY8 := Lib.hid y8
  have HN8 := Lib.hid H7.out.ne
  clear y8
  go_wp2_with fail
  (with_reducible refine C8.out.mono ?_)
  rintro x wd ⟨rfl, m, rfl⟩
  have H8 := Lib.hid (H7.out.drewN m)
  generalize w7.drewN m = w8 at *
  clear C8
  cases b8 with
  | true =>
    obtain ⟨g9, len9, cap9, hn9, _, hs9, _⟩ := H8.out.nod
    have c39 := hn9.c3
    have z39 : w8.frozen? ⟨g9, p2.length * 5 + 3, none⟩ = false := hn9.fz 3
    obtain ⟨o9, f9⟩ := hn9.n0
    have b09 : (0 : Int) ≤ (p2.length : Int) := by omega
    have b19 : (p2.length : Int) < (len9 : Int) := by have := hn9.lt; omega
    have H9 := Lib.hid (hs9 1)
    clear hn9 hs9
    go_upto_region 45 with fail
    generalize w8.setCell ⟨g9, p2.length * 5 + 3, none⟩ (.int .i64 1) = w9 at *
    clear c39 z39 f9
    obtain ⟨i10, h6310, c110, cz10, h10⟩ := (H9.out.mono (Nat.le_succ _) (Nat.le_refl _)).inc (by have := HQ.out; omega) (by decide) HY8.out
    have H10 := Lib.hid h10
    clear h10
    go_upto_region 64 with fail
    generalize w9.setCell ⟨E.b, 1, none⟩ (.int .i64 ((i10 : Int) + 1)) = w10 at *
    clear c110 cz10
    have C11 := Lib.hid (take_I H10.out (by have := HQ.out; omega) ⟨#[59]⟩ (by decide) (by decide))
    go_wp2_with fail
    (with_reducible refine C11.out.mono ?_)
    rintro x w11 ⟨rfl, h11⟩
    have H11 := Lib.hid h11
    clear C11 h11
    have HF := Lib.hid (In.close (B' := B) HO.out (H11.out.mono (Nat.le_refl _) (B' := B) (by have := HQ.out; omega)) (by omega) (by have := HQ.out; omega) (fun q c e => by cases e))
    rw [stmt_eq HJ.out (by decide) (eq5y (r := r) HY8.out)] at HF
    go_wp2
    simp [bodyPost, results, Tryz.results146, go_sem]
    exact HF.out
  | false =>
    have C12 := Lib.hid (take_I H8.out (by have := HQ.out; omega) ⟨#[115, 104, 97, 114, 101, 100]⟩ (by decide) (by decide))
    go_wp2_with fail
    (with_reducible refine C12.out.mono ?_)
    rintro x w12 ⟨rfl, h12⟩
    have H12 := Lib.hid h12
    clear C12 h12
    have C13 := Lib.hid (take_I H12.out (by have := HQ.out; omega) ⟨#[59]⟩ (by decide) (by decide))
    go_wp2_with fail
    (with_reducible refine C13.out.mono ?_)
    rintro x w13 ⟨rfl, h13⟩
    have H13 := Lib.hid h13
    clear C13 h13
    have HF := Lib.hid (In.close (B' := B) HO.out (H13.out.mono (Nat.le_refl _) (B' := B) (by have := HQ.out; omega)) (by omega) (by have := HQ.out; omega) (fun q c e => by cases e))
    rw [stmt_eq HJ.out (by decide) (eq5n (r := r) HY8.out HN8.out)] at HF
    go_wp2
    simp [bodyPost, results, Tryz.results146, go_sem]
    exact HF.out
end
end Go.Proofs.YtpemghcafbedeaaGreatDoor.Rf
end
