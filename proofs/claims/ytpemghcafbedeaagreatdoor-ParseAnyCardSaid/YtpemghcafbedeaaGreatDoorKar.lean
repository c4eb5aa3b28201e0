/- Contracts on the way to the laws of layer 5: ParseRo1, ParseRo2, ParseRo3, ParseRo4, ParseRo5, ParseRo6, ParseRo7, ParseRr. -/
import Derived.Test.YtpemghcafbedeaaGreatDoorKaq
import Derived.Deep.RegionHeld3
import Derived.Deep.Cut
set_option linter.all false
section
namespace Go.Proofs.YtpemghcafbedeaaGreatDoor.Rf
open Go.RowKit Par
section
variable {E : Env} {v : Value} {kvs : List Value} {md : List Nd} {i : Nat} {d e : Int} {w : World}
set_option maxRecDepth 1000000 in
set_option maxHeartbeats 4000000 in
theorem factor_kname (h : RS E v kvs md i d 0 w) (ht : (RT E i).kind = 1) : Calls Tryz.prog 229 #[.pointer (some ⟨E.b, 0, none⟩)] w (PostX E v kvs md d (.ok (.mk 22 (RT E i).at' (RT E i).txt 0 []) (E.pts.drop (i + 1))) w) := by
  have b0 : (0 : Int) ≤ (i : Int) := by omega
  have b1 : (i : Int) < (E.toks.length : Int) := by have := h.it; omega
  have hcap := h.cap
  have hA := h.alloc (.cells #[.int .u8 0, .int .i64 0, .string ⟨#[]⟩, .int .i64 0, .slice none 0 0] 231)
  have HA := Lib.hid hA
  have HS0 := Lib.hid h
  have HF := Lib.hid (show Fr E w.heap.size v v w _ from (Fr.refl E w.heap.size v w).alloc (Nat.le_refl _) (.cells #[.int .u8 0, .int .i64 0, .string ⟨#[]⟩, .int .i64 0, .slice none 0 0] 231))
  obtain ⟨c0, c1, _, _, c4⟩ := hA.rowCells
  obtain ⟨k0, k1, k3, k4⟩ := hA.tokCells
  obtain ⟨ST, k2⟩ : ∃ ST : Nat, (w.alloc (.cells #[.int .u8 0, .int .i64 0, .string ⟨#[]⟩, .int .i64 0, .slice none 0 0] 231)).cell? ⟨E.g, i * 5 + 2, none⟩ = some (.int .i64 (ST : Int)) := ⟨_, hA.tok i 2 _ hA.it rfl⟩
  have HL := Lib.hid (h.last i h.it (show (RT E i).kind ≠ 4 by rw [ht]; decide))
  have HT := Lib.hid ht
  have h63 : (i : Int) + 1 ≤ 9223372036854775807 := by have := h.it; have := h.few; omega
  clear h hA ht
  go_enter Tryz.func229, Tryz.ntmps229
  go_wp2_with fail
  go_region_held3 (fun w' => w'.cell? ⟨E.b, 0, none⟩ = some (.slice (some ⟨E.g, 0, none⟩) E.toks.length E.cap) ∧ w'.cell? ⟨E.b, 1, none⟩ = some (.int .i64 (i : Int)) ∧ w'.cell? ⟨E.g, i * 5, none⟩ = some (.int .u8 (RT E i).kind) ∧ w'.cell? ⟨E.g, i * 5 + 1, none⟩ = some (.int .i64 ((RT E i).at' : Int)) ∧ w'.cell? ⟨E.g, i * 5 + 2, none⟩ = some (.int .i64 (ST : Int)) ∧ w'.cell? ⟨E.g, i * 5 + 3, none⟩ = some (.string (RT E i).txt) ∧ w'.cell? ⟨E.g, i * 5 + 4, none⟩ = some (.int .i64 (RT E i).n)) (go_keep) (first | fail)
  generalize (RT E i).kind = kd at *
  generalize (RT E i).at' = aa at *
  generalize (RT E i).txt = tx at *
  generalize (RT E i).n = nn at *
  have HS1 := Lib.hid ((HA.out.alloc (.cells #[.int .u8 kd, .int .i64 (aa : Int), .int .i64 (ST : Int), .string tx, .int .i64 nn] 83)).drewN 1)
  have L0 := Lib.hid (Lcl.drew' ((HS0.out.lcl (.cells #[.int .u8 0, .int .i64 0, .string ⟨#[]⟩, .int .i64 0, .slice none 0 0] 231)).alloc (.cells #[.int .u8 kd, .int .i64 (aa : Int), .int .i64 (ST : Int), .string tx, .int .i64 nn] 83)))
  have L1 := Lib.hid (Lcl.drew' (HA.out.lcl (.cells #[.int .u8 kd, .int .i64 (aa : Int), .int .i64 (ST : Int), .string tx, .int .i64 nn] 83)))
  have HF1 := Lib.hid ((HF.out.alloc (by simp) (.cells #[.int .u8 kd, .int .i64 (aa : Int), .int .i64 (ST : Int), .string tx, .int .i64 nn] 83)).drewN 1)
  have hsz : (w.alloc (.cells #[.int .u8 0, .int .i64 0, .string ⟨#[]⟩, .int .i64 0, .slice none 0 0] 231)).heap.size = w.heap.size + 1 := by simp
  rw [hsz] at L1
  obtain ⟨W1, hW1⟩ : ∃ W1, ((w.alloc (.cells #[.int .u8 0, .int .i64 0, .string ⟨#[]⟩, .int .i64 0, .slice none 0 0] 231)).alloc (.cells #[.int .u8 kd, .int .i64 (aa : Int), .int .i64 (ST : Int), .string tx, .int .i64 nn] 83)).drew = W1 := ⟨_, rfl⟩
  rw [show ((w.alloc (.cells #[.int .u8 0, .int .i64 0, .string ⟨#[]⟩, .int .i64 0, .slice none 0 0] 231)).alloc (.cells #[.int .u8 kd, .int .i64 (aa : Int), .int .i64 (ST : Int), .string tx, .int .i64 nn] 83)).drewN 1 = W1 from hW1] at HS1 HF1
  rw [hW1] at L0 L1 ⊢
  have hs1 : w.heap.size + 1 < W1.heap.size := L1.out.lt
  clear hW1 k0 k1 k2 k3 k4 c0 c1 c4 HA HF hsz HS0
  have g1 := L1.out.cell 1 rfl
  have g3 := L1.out.cell 3 rfl
  go_upto_region 4 with fail
  have M0 := Lib.hid (L0.out.alloc (.cells #[.int .u8 0, .int .i64 (aa : Int), .string tx, .int .i64 0, .slice none 0 0] 231))
  have M1 := Lib.hid (L1.out.alloc (.cells #[.int .u8 0, .int .i64 (aa : Int), .string tx, .int .i64 0, .slice none 0 0] 231))
  have M2 := Lib.hid (HS1.out.lcl (.cells #[.int .u8 0, .int .i64 (aa : Int), .string tx, .int .i64 0, .slice none 0 0] 231))
  have HS2 := Lib.hid (HS1.out.alloc (.cells #[.int .u8 0, .int .i64 (aa : Int), .string tx, .int .i64 0, .slice none 0 0] 231))
  have HF2 := Lib.hid (HF1.out.alloc (by omega) (.cells #[.int .u8 0, .int .i64 (aa : Int), .string tx, .int .i64 0, .slice none 0 0] 231))
  obtain ⟨q2, hq2⟩ : ∃ q2, W1.heap.size = q2 := ⟨_, rfl⟩
  obtain ⟨W2, hW2⟩ : ∃ W2, W1.alloc (.cells #[.int .u8 0, .int .i64 (aa : Int), .string tx, .int .i64 0, .slice none 0 0] 231) = W2 := ⟨_, rfl⟩
  rw [hW2] at M0 M1 M2 HS2 HF2 ⊢
  rw [hq2] at M2 hs1 ⊢
  clear hW2 hq2 L0 L1 HS1 HF1 g1 g3 W1
  have hs2 : q2 < W2.heap.size := M2.out.lt
  have hb0 : E.b < w.heap.size := M0.out.loc.lt
  have n02 : w.heap.size ≠ q2 := by omega
  have n20 : q2 ≠ w.heap.size := by omega
  have n12 : w.heap.size + 1 ≠ q2 := by omega
  have n0b : w.heap.size ≠ E.b := by have := M0.out.loc.lt; omega
  have n2b : q2 ≠ E.b := by have := M2.out.loc.lt; omega
  have nb0 : E.b ≠ w.heap.size := by omega
  have nb2 : E.b ≠ q2 := by omega
  have g0 := M1.out.cell 0 rfl
  have m0 := M2.out.cell 0 rfl
  have m1 := M2.out.cell 1 rfl
  have m2 := M2.out.cell 2 rfl
  have m3 := M2.out.cell 3 rfl
  have m4 := M2.out.cell 4 rfl
  have mz := M2.out.fz
  have r0 := M0.out.cell 0 rfl
  have r1 := M0.out.cell 1 rfl
  have r2 := M0.out.cell 2 rfl
  have r3 := M0.out.cell 3 rfl
  have r4 := M0.out.cell 4 rfl
  have rz := M0.out.fz
  obtain ⟨_, c1, _, _, c4⟩ := HS2.out.rowCells
  have cz := HS2.out.fz
  have hk1 : (kd == 1) = true := by rw [HT.out]; rfl
  have HK := Lib.hid ((HS2.out.set (a := ⟨q2, 0, none⟩) M2.out.loc (.int .u8 22)).inc HL.out)
  have HG := Lib.hid ((HF2.out.set (by first | omega | (simp [size_set]; omega)) (a := ⟨q2, 0, none⟩) (show w.heap.size ≤ q2 by omega) (.int .u8 22)).trans (HK.out.fr.mono (by first | omega | (simp [size_set]; omega))))
  have LB := Lib.hid ((M0.out.grown (grownBy_set _ ⟨q2, 0, none⟩ (.int .u8 22)) (fun e => n20 (Option.some.inj e))).setB 1 (.int .i64 ((i : Int) + 1)))
  have R := Lib.hid ((LB.out).set5 (.int .u8 22) (.int .i64 (aa : Int)) (.string tx) (.int .i64 0) (.slice none 0 0))
  have RR := Lib.hid ((At.of_ok (d := d) (Ast.mk 22 aa tx 0 []) HK.out.rs).set5 M0.out.loc (.int .u8 22) (.int .i64 (aa : Int)) (.string tx) (.int .i64 0) (.slice none 0 0))
  have RF := Lib.hid ((HG.out).set5 (by first | omega | (simp [size_set]; omega)) (q := w.heap.size) (Nat.le_refl _) (.int .u8 22) (.int .i64 (aa : Int)) (.string tx) (.int .i64 0) (.slice none 0 0))
  go_wp2_with fail
  generalize (((((((W2.setCell ⟨q2, 0, none⟩ (.int .u8 22)).setCell ⟨E.b, 1, none⟩ (.int .i64 ((i : Int) + 1))).setCell ⟨w.heap.size, 0, none⟩ (.int .u8 22)).setCell ⟨w.heap.size, 1, none⟩ (.int .i64 (aa : Int))).setCell ⟨w.heap.size, 2, none⟩ (.string tx)).setCell ⟨w.heap.size, 3, none⟩ (.int .i64 0)).setCell ⟨w.heap.size, 4, none⟩ (.slice none 0 0)) = Wz at *
  clear m0 m1 m2 m3 m4 mz r0 r1 r2 r3 r4 rz c1 c4 cz
  have y0 := R.out.cell 0 rfl
  have y1 := R.out.cell 1 rfl
  have y2 := R.out.cell 2 rfl
  have y3 := R.out.cell 3 rfl
  have y4 := R.out.cell 4 rfl
  simp [bodyPost, results, Tryz.results229, go_sem, y0, y1, y2, y3, y4]
  exact ⟨_, rfl, ⟨_, _, _, _, _, _, _, rfl⟩, RR.out, RF.out, fun y l' e => by
    simp only [Res.ok.injEq] at e
    obtain ⟨rfl, _⟩ := e
    exact ExprV.leaf _ _ _ _ _ _⟩
end
end Go.Proofs.YtpemghcafbedeaaGreatDoor.Rf
end
section
namespace Go.Proofs.YtpemghcafbedeaaGreatDoor.Rf
open Go.RowKit Par
section
variable {E : Env} {v : Value} {kvs : List Value} {md : List Nd} {i : Nat} {d e : Int} {w : World}
set_option maxRecDepth 1000000 in
set_option maxHeartbeats 4000000 in
theorem factor_knum (h : RS E v kvs md i d 0 w) (ht : (RT E i).kind = 2) : Calls Tryz.prog 229 #[.pointer (some ⟨E.b, 0, none⟩)] w (PostX E v kvs md d (.ok (.mk 21 (RT E i).at' none0 (RT E i).n []) (E.pts.drop (i + 1))) w) := by
  have b0 : (0 : Int) ≤ (i : Int) := by omega
  have b1 : (i : Int) < (E.toks.length : Int) := by have := h.it; omega
  have hcap := h.cap
  have hA := h.alloc (.cells #[.int .u8 0, .int .i64 0, .string ⟨#[]⟩, .int .i64 0, .slice none 0 0] 231)
  have HA := Lib.hid hA
  have HS0 := Lib.hid h
  have HF := Lib.hid (show Fr E w.heap.size v v w _ from (Fr.refl E w.heap.size v w).alloc (Nat.le_refl _) (.cells #[.int .u8 0, .int .i64 0, .string ⟨#[]⟩, .int .i64 0, .slice none 0 0] 231))
  obtain ⟨c0, c1, _, _, c4⟩ := hA.rowCells
  obtain ⟨k0, k1, k3, k4⟩ := hA.tokCells
  obtain ⟨ST, k2⟩ : ∃ ST : Nat, (w.alloc (.cells #[.int .u8 0, .int .i64 0, .string ⟨#[]⟩, .int .i64 0, .slice none 0 0] 231)).cell? ⟨E.g, i * 5 + 2, none⟩ = some (.int .i64 (ST : Int)) := ⟨_, hA.tok i 2 _ hA.it rfl⟩
  have HL := Lib.hid (h.last i h.it (show (RT E i).kind ≠ 4 by rw [ht]; decide))
  have HT := Lib.hid ht
  have h63 : (i : Int) + 1 ≤ 9223372036854775807 := by have := h.it; have := h.few; omega
  clear h hA ht
  go_enter Tryz.func229, Tryz.ntmps229
  go_wp2_with fail
  go_region_held3 (fun w' => w'.cell? ⟨E.b, 0, none⟩ = some (.slice (some ⟨E.g, 0, none⟩) E.toks.length E.cap) ∧ w'.cell? ⟨E.b, 1, none⟩ = some (.int .i64 (i : Int)) ∧ w'.cell? ⟨E.g, i * 5, none⟩ = some (.int .u8 (RT E i).kind) ∧ w'.cell? ⟨E.g, i * 5 + 1, none⟩ = some (.int .i64 ((RT E i).at' : Int)) ∧ w'.cell? ⟨E.g, i * 5 + 2, none⟩ = some (.int .i64 (ST : Int)) ∧ w'.cell? ⟨E.g, i * 5 + 3, none⟩ = some (.string (RT E i).txt) ∧ w'.cell? ⟨E.g, i * 5 + 4, none⟩ = some (.int .i64 (RT E i).n)) (go_keep) (first | fail)
  generalize (RT E i).kind = kd at *
  generalize (RT E i).at' = aa at *
  generalize (RT E i).txt = tx at *
  generalize (RT E i).n = nn at *
  have HS1 := Lib.hid ((HA.out.alloc (.cells #[.int .u8 kd, .int .i64 (aa : Int), .int .i64 (ST : Int), .string tx, .int .i64 nn] 83)).drewN 1)
  have L0 := Lib.hid (Lcl.drew' ((HS0.out.lcl (.cells #[.int .u8 0, .int .i64 0, .string ⟨#[]⟩, .int .i64 0, .slice none 0 0] 231)).alloc (.cells #[.int .u8 kd, .int .i64 (aa : Int), .int .i64 (ST : Int), .string tx, .int .i64 nn] 83)))
  have L1 := Lib.hid (Lcl.drew' (HA.out.lcl (.cells #[.int .u8 kd, .int .i64 (aa : Int), .int .i64 (ST : Int), .string tx, .int .i64 nn] 83)))
  have HF1 := Lib.hid ((HF.out.alloc (by simp) (.cells #[.int .u8 kd, .int .i64 (aa : Int), .int .i64 (ST : Int), .string tx, .int .i64 nn] 83)).drewN 1)
  have hsz : (w.alloc (.cells #[.int .u8 0, .int .i64 0, .string ⟨#[]⟩, .int .i64 0, .slice none 0 0] 231)).heap.size = w.heap.size + 1 := by simp
  rw [hsz] at L1
  obtain ⟨W1, hW1⟩ : ∃ W1, ((w.alloc (.cells #[.int .u8 0, .int .i64 0, .string ⟨#[]⟩, .int .i64 0, .slice none 0 0] 231)).alloc (.cells #[.int .u8 kd, .int .i64 (aa : Int), .int .i64 (ST : Int), .string tx, .int .i64 nn] 83)).drew = W1 := ⟨_, rfl⟩
  rw [show ((w.alloc (.cells #[.int .u8 0, .int .i64 0, .string ⟨#[]⟩, .int .i64 0, .slice none 0 0] 231)).alloc (.cells #[.int .u8 kd, .int .i64 (aa : Int), .int .i64 (ST : Int), .string tx, .int .i64 nn] 83)).drewN 1 = W1 from hW1] at HS1 HF1
  rw [hW1] at L0 L1 ⊢
  have hs1 : w.heap.size + 1 < W1.heap.size := L1.out.lt
  clear hW1 k0 k1 k2 k3 k4 c0 c1 c4 HA HF hsz HS0
  have g1 := L1.out.cell 1 rfl
  have g3 := L1.out.cell 3 rfl
  go_upto_region 4 with fail
  have M0 := Lib.hid (L0.out.alloc (.cells #[.int .u8 0, .int .i64 (aa : Int), .string tx, .int .i64 0, .slice none 0 0] 231))
  have M1 := Lib.hid (L1.out.alloc (.cells #[.int .u8 0, .int .i64 (aa : Int), .string tx, .int .i64 0, .slice none 0 0] 231))
  have M2 := Lib.hid (HS1.out.lcl (.cells #[.int .u8 0, .int .i64 (aa : Int), .string tx, .int .i64 0, .slice none 0 0] 231))
  have HS2 := Lib.hid (HS1.out.alloc (.cells #[.int .u8 0, .int .i64 (aa : Int), .string tx, .int .i64 0, .slice none 0 0] 231))
  have HF2 := Lib.hid (HF1.out.alloc (by omega) (.cells #[.int .u8 0, .int .i64 (aa : Int), .string tx, .int .i64 0, .slice none 0 0] 231))
  obtain ⟨q2, hq2⟩ : ∃ q2, W1.heap.size = q2 := ⟨_, rfl⟩
  obtain ⟨W2, hW2⟩ : ∃ W2, W1.alloc (.cells #[.int .u8 0, .int .i64 (aa : Int), .string tx, .int .i64 0, .slice none 0 0] 231) = W2 := ⟨_, rfl⟩
  rw [hW2] at M0 M1 M2 HS2 HF2 ⊢
  rw [hq2] at M2 hs1 ⊢
  clear hW2 hq2 L0 L1 HS1 HF1 g1 g3 W1
  have hs2 : q2 < W2.heap.size := M2.out.lt
  have hb0 : E.b < w.heap.size := M0.out.loc.lt
  have n02 : w.heap.size ≠ q2 := by omega
  have n20 : q2 ≠ w.heap.size := by omega
  have n12 : w.heap.size + 1 ≠ q2 := by omega
  have n0b : w.heap.size ≠ E.b := by have := M0.out.loc.lt; omega
  have n2b : q2 ≠ E.b := by have := M2.out.loc.lt; omega
  have nb0 : E.b ≠ w.heap.size := by omega
  have nb2 : E.b ≠ q2 := by omega
  have g0 := M1.out.cell 0 rfl
  have g4 := M1.out.cell 4 rfl
  have m0 := M2.out.cell 0 rfl
  have m1 := M2.out.cell 1 rfl
  have m2 := M2.out.cell 2 rfl
  have m3 := M2.out.cell 3 rfl
  have m4 := M2.out.cell 4 rfl
  have mz := M2.out.fz
  have r0 := M0.out.cell 0 rfl
  have r1 := M0.out.cell 1 rfl
  have r2 := M0.out.cell 2 rfl
  have r3 := M0.out.cell 3 rfl
  have r4 := M0.out.cell 4 rfl
  have rz := M0.out.fz
  obtain ⟨_, c1, _, _, c4⟩ := HS2.out.rowCells
  have cz := HS2.out.fz
  have hk1 : (kd == 1) = false := by rw [HT.out]; rfl
  have hk2 : (kd == 2) = true := by rw [HT.out]; rfl
  have HK := Lib.hid ((((HS2.out.set (a := ⟨q2, 0, none⟩) M2.out.loc (.int .u8 21)).set (a := ⟨q2, 2, none⟩) M2.out.loc (.string ⟨#[]⟩)).set (a := ⟨q2, 3, none⟩) M2.out.loc (.int .i64 nn)).inc HL.out)
  have HG := Lib.hid ((((HF2.out.set (by first | omega | (simp [size_set]; omega)) (a := ⟨q2, 0, none⟩) (show w.heap.size ≤ q2 by omega) (.int .u8 21)).set (by first | omega | (simp [size_set]; omega)) (a := ⟨q2, 2, none⟩) (show w.heap.size ≤ q2 by omega) (.string ⟨#[]⟩)).set (by first | omega | (simp [size_set]; omega)) (a := ⟨q2, 3, none⟩) (show w.heap.size ≤ q2 by omega) (.int .i64 nn)).trans (HK.out.fr.mono (by first | omega | (simp [size_set]; omega))))
  have LB := Lib.hid ((((M0.out.grown (grownBy_set _ ⟨q2, 0, none⟩ (.int .u8 21)) (fun e => n20 (Option.some.inj e))).grown (grownBy_set _ ⟨q2, 2, none⟩ (.string ⟨#[]⟩)) (fun e => n20 (Option.some.inj e))).grown (grownBy_set _ ⟨q2, 3, none⟩ (.int .i64 nn)) (fun e => n20 (Option.some.inj e))).setB 1 (.int .i64 ((i : Int) + 1)))
  have R := Lib.hid ((LB.out).set5 (.int .u8 21) (.int .i64 (aa : Int)) (.string ⟨#[]⟩) (.int .i64 nn) (.slice none 0 0))
  have RR := Lib.hid ((At.of_ok (d := d) (Ast.mk 21 aa none0 nn []) HK.out.rs).set5 M0.out.loc (.int .u8 21) (.int .i64 (aa : Int)) (.string ⟨#[]⟩) (.int .i64 nn) (.slice none 0 0))
  have RF := Lib.hid ((HG.out).set5 (by first | omega | (simp [size_set]; omega)) (q := w.heap.size) (Nat.le_refl _) (.int .u8 21) (.int .i64 (aa : Int)) (.string ⟨#[]⟩) (.int .i64 nn) (.slice none 0 0))
  go_wp2_with fail
  generalize (((((((((W2.setCell ⟨q2, 0, none⟩ (.int .u8 21)).setCell ⟨q2, 2, none⟩ (.string ⟨#[]⟩)).setCell ⟨q2, 3, none⟩ (.int .i64 nn)).setCell ⟨E.b, 1, none⟩ (.int .i64 ((i : Int) + 1))).setCell ⟨w.heap.size, 0, none⟩ (.int .u8 21)).setCell ⟨w.heap.size, 1, none⟩ (.int .i64 (aa : Int))).setCell ⟨w.heap.size, 2, none⟩ (.string ⟨#[]⟩)).setCell ⟨w.heap.size, 3, none⟩ (.int .i64 nn)).setCell ⟨w.heap.size, 4, none⟩ (.slice none 0 0)) = Wz at *
  clear m0 m1 m2 m3 m4 mz r0 r1 r2 r3 r4 rz c1 c4 cz
  have y0 := R.out.cell 0 rfl
  have y1 := R.out.cell 1 rfl
  have y2 := R.out.cell 2 rfl
  have y3 := R.out.cell 3 rfl
  have y4 := R.out.cell 4 rfl
  simp [bodyPost, results, Tryz.results229, go_sem, y0, y1, y2, y3, y4]
  exact ⟨_, rfl, ⟨_, _, _, _, _, _, _, rfl⟩, RR.out, RF.out, fun y l' e => by
    simp only [Res.ok.injEq] at e
    obtain ⟨rfl, _⟩ := e
    exact ExprV.leaf _ _ _ _ _ _⟩
end
end Go.Proofs.YtpemghcafbedeaaGreatDoor.Rf
end
section
namespace Go.Proofs.YtpemghcafbedeaaGreatDoor.Rf
open Go.RowKit Par
section
variable {E : Env} {v : Value} {kvs : List Value} {md : List Nd} {i : Nat} {d e : Int} {w : World}
set_option maxRecDepth 1000000 in
set_option maxHeartbeats 4000000 in
theorem factor_kno (h : RS E v kvs md i d 0 w) (h1 : (RT E i).kind ≠ 1) (h2 : (RT E i).kind ≠ 2) (h3 : ¬ (RT E i).txt = ⟨#[40]⟩) (h4 : ¬ (RT E i).txt = ⟨#[45]⟩) : Calls Tryz.prog 229 #[.pointer (some ⟨E.b, 0, none⟩)] w (PostX E v kvs md d (.err (RT E i).at' 50) w) := by
  have b0 : (0 : Int) ≤ (i : Int) := by omega
  have b1 : (i : Int) < (E.toks.length : Int) := by have := h.it; omega
  have hcap := h.cap
  have hA := h.alloc (.cells #[.int .u8 0, .int .i64 0, .string ⟨#[]⟩, .int .i64 0, .slice none 0 0] 231)
  have HA := Lib.hid hA
  have HS0 := Lib.hid h
  have HF := Lib.hid (show Fr E w.heap.size v v w _ from (Fr.refl E w.heap.size v w).alloc (Nat.le_refl _) (.cells #[.int .u8 0, .int .i64 0, .string ⟨#[]⟩, .int .i64 0, .slice none 0 0] 231))
  obtain ⟨c0, c1, _, _, c4⟩ := hA.rowCells
  obtain ⟨k0, k1, k3, k4⟩ := hA.tokCells
  obtain ⟨ST, k2⟩ : ∃ ST : Nat, (w.alloc (.cells #[.int .u8 0, .int .i64 0, .string ⟨#[]⟩, .int .i64 0, .slice none 0 0] 231)).cell? ⟨E.g, i * 5 + 2, none⟩ = some (.int .i64 (ST : Int)) := ⟨_, hA.tok i 2 _ hA.it rfl⟩
  have H1 := Lib.hid h1
  have H2 := Lib.hid h2
  have IS1 : Hid (∀ W, RS E v kvs md i d 0 W → Calls Tryz.prog 42 #[.pointer (some ⟨E.b, 0, none⟩), .string ⟨#[40]⟩] W fun x w' => x = .returned (.bool false) ∧ ∃ m, w' = W.drewN m) := Lib.hid fun W hW => by
    have := is_at hW ⟨#[40]⟩ (by decide) (by decide)
    rwa [decide_eq_false h3] at this
  have IS2 : Hid (∀ W, RS E v kvs md i d 0 W → Calls Tryz.prog 42 #[.pointer (some ⟨E.b, 0, none⟩), .string ⟨#[45]⟩] W fun x w' => x = .returned (.bool false) ∧ ∃ m, w' = W.drewN m) := Lib.hid fun W hW => by
    have := is_at hW ⟨#[45]⟩ (by decide) (by decide)
    rwa [decide_eq_false h4] at this
  have HE : Hid (∀ W, RS E v kvs md i d 50 W → At E v kvs md d (.err (RT E i).at' 50 : Res Ast) W) := Lib.hid fun W hW => At.of_err _ (Int.le_refl _) (by decide) rfl hW
  clear h hA h1 h2 h3 h4
  go_enter Tryz.func229, Tryz.ntmps229
  go_wp2_with fail
  go_region_held3 (fun w' => w'.cell? ⟨E.b, 0, none⟩ = some (.slice (some ⟨E.g, 0, none⟩) E.toks.length E.cap) ∧ w'.cell? ⟨E.b, 1, none⟩ = some (.int .i64 (i : Int)) ∧ w'.cell? ⟨E.g, i * 5, none⟩ = some (.int .u8 (RT E i).kind) ∧ w'.cell? ⟨E.g, i * 5 + 1, none⟩ = some (.int .i64 ((RT E i).at' : Int)) ∧ w'.cell? ⟨E.g, i * 5 + 2, none⟩ = some (.int .i64 (ST : Int)) ∧ w'.cell? ⟨E.g, i * 5 + 3, none⟩ = some (.string (RT E i).txt) ∧ w'.cell? ⟨E.g, i * 5 + 4, none⟩ = some (.int .i64 (RT E i).n)) (go_keep) (first | fail)
  generalize (RT E i).kind = kd at *
  generalize (RT E i).at' = aa at *
  generalize (RT E i).txt = tx at *
  generalize (RT E i).n = nn at *
  have HS1 := Lib.hid ((HA.out.alloc (.cells #[.int .u8 kd, .int .i64 (aa : Int), .int .i64 (ST : Int), .string tx, .int .i64 nn] 83)).drewN 1)
  have L0 := Lib.hid (Lcl.drew' ((HS0.out.lcl (.cells #[.int .u8 0, .int .i64 0, .string ⟨#[]⟩, .int .i64 0, .slice none 0 0] 231)).alloc (.cells #[.int .u8 kd, .int .i64 (aa : Int), .int .i64 (ST : Int), .string tx, .int .i64 nn] 83)))
  have L1 := Lib.hid (Lcl.drew' (HA.out.lcl (.cells #[.int .u8 kd, .int .i64 (aa : Int), .int .i64 (ST : Int), .string tx, .int .i64 nn] 83)))
  have HF1 := Lib.hid ((HF.out.alloc (by simp) (.cells #[.int .u8 kd, .int .i64 (aa : Int), .int .i64 (ST : Int), .string tx, .int .i64 nn] 83)).drewN 1)
  have hsz : (w.alloc (.cells #[.int .u8 0, .int .i64 0, .string ⟨#[]⟩, .int .i64 0, .slice none 0 0] 231)).heap.size = w.heap.size + 1 := by simp
  rw [hsz] at L1
  obtain ⟨W1, hW1⟩ : ∃ W1, ((w.alloc (.cells #[.int .u8 0, .int .i64 0, .string ⟨#[]⟩, .int .i64 0, .slice none 0 0] 231)).alloc (.cells #[.int .u8 kd, .int .i64 (aa : Int), .int .i64 (ST : Int), .string tx, .int .i64 nn] 83)).drew = W1 := ⟨_, rfl⟩
  rw [show ((w.alloc (.cells #[.int .u8 0, .int .i64 0, .string ⟨#[]⟩, .int .i64 0, .slice none 0 0] 231)).alloc (.cells #[.int .u8 kd, .int .i64 (aa : Int), .int .i64 (ST : Int), .string tx, .int .i64 nn] 83)).drewN 1 = W1 from hW1] at HS1 HF1
  rw [hW1] at L0 L1 ⊢
  have hs1 : w.heap.size + 1 < W1.heap.size := L1.out.lt
  clear hW1 k0 k1 k2 k3 k4 c0 c1 c4 HA HF hsz HS0
  have g1 := L1.out.cell 1 rfl
  have g3 := L1.out.cell 3 rfl
  go_upto_region 4 with fail
  have M0 := Lib.hid (L0.out.alloc (.cells #[.int .u8 0, .int .i64 (aa : Int), .string tx, .int .i64 0, .slice none 0 0] 231))
  have M1 := Lib.hid (L1.out.alloc (.cells #[.int .u8 0, .int .i64 (aa : Int), .string tx, .int .i64 0, .slice none 0 0] 231))
  have M2 := Lib.hid (HS1.out.lcl (.cells #[.int .u8 0, .int .i64 (aa : Int), .string tx, .int .i64 0, .slice none 0 0] 231))
  have HS2 := Lib.hid (HS1.out.alloc (.cells #[.int .u8 0, .int .i64 (aa : Int), .string tx, .int .i64 0, .slice none 0 0] 231))
  have HF2 := Lib.hid (HF1.out.alloc (by omega) (.cells #[.int .u8 0, .int .i64 (aa : Int), .string tx, .int .i64 0, .slice none 0 0] 231))
  obtain ⟨q2, hq2⟩ : ∃ q2, W1.heap.size = q2 := ⟨_, rfl⟩
  obtain ⟨W2, hW2⟩ : ∃ W2, W1.alloc (.cells #[.int .u8 0, .int .i64 (aa : Int), .string tx, .int .i64 0, .slice none 0 0] 231) = W2 := ⟨_, rfl⟩
  rw [hW2] at M0 M1 M2 HS2 HF2 ⊢
  rw [hq2] at M2 hs1 ⊢
  clear hW2 hq2 L0 L1 HS1 HF1 g1 g3 W1
  have hs2 : q2 < W2.heap.size := M2.out.lt
  have hb0 : E.b < w.heap.size := M0.out.loc.lt
  have n02 : w.heap.size ≠ q2 := by omega
  have n20 : q2 ≠ w.heap.size := by omega
  have n12 : w.heap.size + 1 ≠ q2 := by omega
  have n0b : w.heap.size ≠ E.b := by have := M0.out.loc.lt; omega
  have n2b : q2 ≠ E.b := by have := M2.out.loc.lt; omega
  have nb0 : E.b ≠ w.heap.size := by omega
  have nb2 : E.b ≠ q2 := by omega
  have hk1 : (kd == 1) = false := by simpa using H1.out
  have hk2 : (kd == 2) = false := by simpa using H2.out
  have g0 := M1.out.cell 0 rfl
  obtain ⟨_, c1, _, _, c4⟩ := HS2.out.rowCells
  have C1 := Lib.hid (IS1.out _ HS2.out)
  go_wp2_with fail
  (with_reducible refine C1.out.mono ?_)
  rintro x w3 ⟨rfl, n3, rfl⟩
  have C2 := Lib.hid (IS2.out _ (HS2.out.drewN n3))
  clear C1
  go_wp2_with fail
  (with_reducible refine C2.out.mono ?_)
  rintro x w4 ⟨rfl, n4, rfl⟩
  have C3 := Lib.hid (fail_at (HS2.out.drewN (n3 + n4)) 50)
  clear C2 c1 c4 g0
  go_wp2_with fail
  (with_reducible refine C3.out.mono ?_)
  rintro x w5 ⟨rfl, hk⟩
  have HK := Lib.hid hk
  have A2 := Lib.hid (Lcl.on0 (show Lcl E v kvs q2 _ (W2.drewN (n3 + n4)) from ⟨M2.out.loc, M2.out.lt, M2.out.obj⟩) hk.fr)
  have A0 := Lib.hid (Lcl.on0 (show Lcl E v kvs w.heap.size _ (W2.drewN (n3 + n4)) from ⟨M0.out.loc, M0.out.lt, M0.out.obj⟩) hk.fr)
  have HG := Lib.hid (HF2.out.drewN (n3 + n4) |>.trans (hk.fr.mono (show w.heap.size ≤ W2.heap.size by omega)))
  have hs5 : W2.heap.size ≤ w5.heap.size := hk.fr.size
  clear C3 hk
  have m0 := A2.out.cell 0 rfl
  have m1 := A2.out.cell 1 rfl
  have m2 := A2.out.cell 2 rfl
  have m3 := A2.out.cell 3 rfl
  have m4 := A2.out.cell 4 rfl
  have mz := A2.out.fz
  have r0 := A0.out.cell 0 rfl
  have r1 := A0.out.cell 1 rfl
  have r2 := A0.out.cell 2 rfl
  have r3 := A0.out.cell 3 rfl
  have r4 := A0.out.cell 4 rfl
  have rz := A0.out.fz
  have R := Lib.hid ((A0.out).set5 (.int .u8 0) (.int .i64 (aa : Int)) (.string tx) (.int .i64 0) (.slice none 0 0))
  have RR := Lib.hid ((HE.out _ HK.out.rs).set5 M0.out.loc (.int .u8 0) (.int .i64 (aa : Int)) (.string tx) (.int .i64 0) (.slice none 0 0))
  have RF := Lib.hid ((HG.out).set5 (by first | omega | (simp [size_set]; omega)) (q := w.heap.size) (Nat.le_refl _) (.int .u8 0) (.int .i64 (aa : Int)) (.string tx) (.int .i64 0) (.slice none 0 0))
  go_wp2_with fail
  generalize (((((w5.setCell ⟨w.heap.size, 0, none⟩ (.int .u8 0)).setCell ⟨w.heap.size, 1, none⟩ (.int .i64 (aa : Int))).setCell ⟨w.heap.size, 2, none⟩ (.string tx)).setCell ⟨w.heap.size, 3, none⟩ (.int .i64 0)).setCell ⟨w.heap.size, 4, none⟩ (.slice none 0 0)) = Wz at *
  clear m0 m1 m2 m3 m4 mz r0 r1 r2 r3 r4 rz
  have y0 := R.out.cell 0 rfl
  have y1 := R.out.cell 1 rfl
  have y2 := R.out.cell 2 rfl
  have y3 := R.out.cell 3 rfl
  have y4 := R.out.cell 4 rfl
  simp [bodyPost, results, Tryz.results229, go_sem, y0, y1, y2, y3, y4]
  exact ⟨_, rfl, ⟨_, _, _, _, _, _, _, rfl⟩, RR.out, RF.out, fun y l' e => by simp at e⟩
end
end Go.Proofs.YtpemghcafbedeaaGreatDoor.Rf
end
section
namespace Go.Proofs.YtpemghcafbedeaaGreatDoor.Rf
open Go.RowKit Par
section
variable {E : Env} {v : Value} {kvs : List Value} {md : List Nd} {i : Nat} {d e : Int} {w : World}
set_option maxRecDepth 1000000 in
set_option maxHeartbeats 4000000 in
theorem factor_kopen0 (h : RS E v kvs md i 64 0 w) (h1 : (RT E i).kind ≠ 1) (h2 : (RT E i).kind ≠ 2) (h3 : (RT E i).txt = ⟨#[40]⟩) : Calls Tryz.prog 229 #[.pointer (some ⟨E.b, 0, none⟩)] w (PostX E v kvs md 64 (.err (RT E i).at' 51) w) := by
  have b0 : (0 : Int) ≤ (i : Int) := by omega
  have b1 : (i : Int) < (E.toks.length : Int) := by have := h.it; omega
  have hcap := h.cap
  have hA := h.alloc (.cells #[.int .u8 0, .int .i64 0, .string ⟨#[]⟩, .int .i64 0, .slice none 0 0] 231)
  have HA := Lib.hid hA
  have HS0 := Lib.hid h
  have HF := Lib.hid (show Fr E w.heap.size v v w _ from (Fr.refl E w.heap.size v w).alloc (Nat.le_refl _) (.cells #[.int .u8 0, .int .i64 0, .string ⟨#[]⟩, .int .i64 0, .slice none 0 0] 231))
  obtain ⟨c0, c1, _, _, c4⟩ := hA.rowCells
  obtain ⟨k0, k1, k3, k4⟩ := hA.tokCells
  obtain ⟨ST, k2⟩ : ∃ ST : Nat, (w.alloc (.cells #[.int .u8 0, .int .i64 0, .string ⟨#[]⟩, .int .i64 0, .slice none 0 0] 231)).cell? ⟨E.g, i * 5 + 2, none⟩ = some (.int .i64 (ST : Int)) := ⟨_, hA.tok i 2 _ hA.it rfl⟩
  have H1 := Lib.hid h1
  have H2 := Lib.hid h2
  have IS1 : Hid (∀ W, RS E v kvs md i 64 0 W → Calls Tryz.prog 42 #[.pointer (some ⟨E.b, 0, none⟩), .string ⟨#[40]⟩] W fun x w' => x = .returned (.bool true) ∧ ∃ m, w' = W.drewN m) := Lib.hid fun W hW => by
    have := is_at hW ⟨#[40]⟩ (by decide) (by decide)
    rwa [decide_eq_true h3] at this
  have HE : Hid (∀ W, RS E v kvs md i 65 51 W → At E v kvs md (64 + 1) (.err (RT E i).at' 51 : Res Ast) W) := Lib.hid fun W hW => At.of_err _ (Int.le_refl _) (by decide) rfl hW
  clear h hA h1 h2 h3
  go_enter Tryz.func229, Tryz.ntmps229
  go_wp2_with fail
  go_region_held3 (fun w' => w'.cell? ⟨E.b, 0, none⟩ = some (.slice (some ⟨E.g, 0, none⟩) E.toks.length E.cap) ∧ w'.cell? ⟨E.b, 1, none⟩ = some (.int .i64 (i : Int)) ∧ w'.cell? ⟨E.g, i * 5, none⟩ = some (.int .u8 (RT E i).kind) ∧ w'.cell? ⟨E.g, i * 5 + 1, none⟩ = some (.int .i64 ((RT E i).at' : Int)) ∧ w'.cell? ⟨E.g, i * 5 + 2, none⟩ = some (.int .i64 (ST : Int)) ∧ w'.cell? ⟨E.g, i * 5 + 3, none⟩ = some (.string (RT E i).txt) ∧ w'.cell? ⟨E.g, i * 5 + 4, none⟩ = some (.int .i64 (RT E i).n)) (go_keep) (first | fail)
  generalize (RT E i).kind = kd at *
  generalize (RT E i).at' = aa at *
  generalize (RT E i).txt = tx at *
  generalize (RT E i).n = nn at *
  have HS1 := Lib.hid ((HA.out.alloc (.cells #[.int .u8 kd, .int .i64 (aa : Int), .int .i64 (ST : Int), .string tx, .int .i64 nn] 83)).drewN 1)
  have L0 := Lib.hid (Lcl.drew' ((HS0.out.lcl (.cells #[.int .u8 0, .int .i64 0, .string ⟨#[]⟩, .int .i64 0, .slice none 0 0] 231)).alloc (.cells #[.int .u8 kd, .int .i64 (aa : Int), .int .i64 (ST : Int), .string tx, .int .i64 nn] 83)))
  have L1 := Lib.hid (Lcl.drew' (HA.out.lcl (.cells #[.int .u8 kd, .int .i64 (aa : Int), .int .i64 (ST : Int), .string tx, .int .i64 nn] 83)))
  have HF1 := Lib.hid ((HF.out.alloc (by simp) (.cells #[.int .u8 kd, .int .i64 (aa : Int), .int .i64 (ST : Int), .string tx, .int .i64 nn] 83)).drewN 1)
  have hsz : (w.alloc (.cells #[.int .u8 0, .int .i64 0, .string ⟨#[]⟩, .int .i64 0, .slice none 0 0] 231)).heap.size = w.heap.size + 1 := by simp
  rw [hsz] at L1
  obtain ⟨W1, hW1⟩ : ∃ W1, ((w.alloc (.cells #[.int .u8 0, .int .i64 0, .string ⟨#[]⟩, .int .i64 0, .slice none 0 0] 231)).alloc (.cells #[.int .u8 kd, .int .i64 (aa : Int), .int .i64 (ST : Int), .string tx, .int .i64 nn] 83)).drew = W1 := ⟨_, rfl⟩
  rw [show ((w.alloc (.cells #[.int .u8 0, .int .i64 0, .string ⟨#[]⟩, .int .i64 0, .slice none 0 0] 231)).alloc (.cells #[.int .u8 kd, .int .i64 (aa : Int), .int .i64 (ST : Int), .string tx, .int .i64 nn] 83)).drewN 1 = W1 from hW1] at HS1 HF1
  rw [hW1] at L0 L1 ⊢
  have hs1 : w.heap.size + 1 < W1.heap.size := L1.out.lt
  clear hW1 k0 k1 k2 k3 k4 c0 c1 c4 HA HF hsz HS0
  have g1 := L1.out.cell 1 rfl
  have g3 := L1.out.cell 3 rfl
  go_upto_region 4 with fail
  have M0 := Lib.hid (L0.out.alloc (.cells #[.int .u8 0, .int .i64 (aa : Int), .string tx, .int .i64 0, .slice none 0 0] 231))
  have M1 := Lib.hid (L1.out.alloc (.cells #[.int .u8 0, .int .i64 (aa : Int), .string tx, .int .i64 0, .slice none 0 0] 231))
  have M2 := Lib.hid (HS1.out.lcl (.cells #[.int .u8 0, .int .i64 (aa : Int), .string tx, .int .i64 0, .slice none 0 0] 231))
  have HS2 := Lib.hid (HS1.out.alloc (.cells #[.int .u8 0, .int .i64 (aa : Int), .string tx, .int .i64 0, .slice none 0 0] 231))
  have HF2 := Lib.hid (HF1.out.alloc (by omega) (.cells #[.int .u8 0, .int .i64 (aa : Int), .string tx, .int .i64 0, .slice none 0 0] 231))
  obtain ⟨q2, hq2⟩ : ∃ q2, W1.heap.size = q2 := ⟨_, rfl⟩
  obtain ⟨W2, hW2⟩ : ∃ W2, W1.alloc (.cells #[.int .u8 0, .int .i64 (aa : Int), .string tx, .int .i64 0, .slice none 0 0] 231) = W2 := ⟨_, rfl⟩
  rw [hW2] at M0 M1 M2 HS2 HF2 ⊢
  rw [hq2] at M2 hs1 ⊢
  clear hW2 hq2 L0 L1 HS1 HF1 g1 g3 W1
  have hs2 : q2 < W2.heap.size := M2.out.lt
  have hb0 : E.b < w.heap.size := M0.out.loc.lt
  have n02 : w.heap.size ≠ q2 := by omega
  have n20 : q2 ≠ w.heap.size := by omega
  have n12 : w.heap.size + 1 ≠ q2 := by omega
  have n0b : w.heap.size ≠ E.b := by have := M0.out.loc.lt; omega
  have n2b : q2 ≠ E.b := by have := M2.out.loc.lt; omega
  have nb0 : E.b ≠ w.heap.size := by omega
  have nb2 : E.b ≠ q2 := by omega
  have hk1 : (kd == 1) = false := by simpa using H1.out
  have hk2 : (kd == 2) = false := by simpa using H2.out
  have g0 := M1.out.cell 0 rfl
  obtain ⟨_, c1, _, _, c4⟩ := HS2.out.rowCells
  have C1 := Lib.hid (IS1.out _ HS2.out)
  go_wp2_with fail
  (with_reducible refine C1.out.mono ?_)
  rintro x w3 ⟨rfl, n3, rfl⟩
  clear C1 c1 c4 g0
  obtain ⟨W3, hW3⟩ : ∃ W3, (W2.drewN n3) = W3 := ⟨_, rfl⟩
  have HS3 : Hid (RS E v kvs md i 64 0 W3) := Lib.hid (by rw [← hW3]; exact HS2.out.drewN n3)
  have HF3 : Hid (Fr E w.heap.size v v w W3) := Lib.hid (by rw [← hW3]; exact HF2.out.drewN n3)
  have A2 : Hid (Lcl E v kvs q2 (.cells #[.int .u8 0, .int .i64 (aa : Int), .string tx, .int .i64 0, .slice none 0 0] 231) W3) := Lib.hid (by rw [← hW3]; exact ⟨M2.out.loc, M2.out.lt, M2.out.obj⟩)
  have A0 : Hid (Lcl E v kvs w.heap.size (.cells #[.int .u8 0, .int .i64 0, .string ⟨#[]⟩, .int .i64 0, .slice none 0 0] 231) W3) := Lib.hid (by rw [← hW3]; exact ⟨M0.out.loc, M0.out.lt, M0.out.obj⟩)
  have hs3 : W2.heap.size = W3.heap.size := by rw [← hW3]; rfl
  rw [hW3]
  clear hW3
  have C3 := Lib.hid (in_deep HS3.out)
  go_wp2_with fail
  (with_reducible refine C3.out.mono ?_)
  rintro x w5 ⟨rfl, hk⟩
  have D2 := Lib.hid (A2.out.on0 hk.fr)
  have D0 := Lib.hid (A0.out.on0 hk.fr)
  have DF := Lib.hid (HF3.out.trans (hk.fr.mono (show w.heap.size ≤ W3.heap.size by first | omega | (simp [size_set]; omega))))
  have hs5 : W3.heap.size ≤ w5.heap.size := by have := hk.fr.size; simpa [size_set] using this
  obtain ⟨d5, _, hd5, c2, cz, ha, hf⟩ := (HE.out _ hk.rs).deep (by decide)
  have hw : IntKind.i64.wrap (d5 - 1) = d5 - 1 := IntWalk.i64_in _ (by omega)
  have l63 : -9223372036854775808 ≤ d5 - 1 := by omega
  have u63 : d5 - 1 ≤ 9223372036854775807 := by omega
  have HA := Lib.hid ha
  have F0 := Lib.hid (D0.out.setB 2 (.int .i64 (d5 - 1)))
  have FF := Lib.hid (DF.out.trans (hf.mono (show w.heap.size ≤ w5.heap.size by omega)))
  clear C3 hk ha hf 
  have m0 := D2.out.cell 0 rfl
  have m1 := D2.out.cell 1 rfl
  have m2 := D2.out.cell 2 rfl
  have m3 := D2.out.cell 3 rfl
  have m4 := D2.out.cell 4 rfl
  have mz := D2.out.fz
  have r0 := D0.out.cell 0 rfl
  have r1 := D0.out.cell 1 rfl
  have r2 := D0.out.cell 2 rfl
  have r3 := D0.out.cell 3 rfl
  have r4 := D0.out.cell 4 rfl
  have rz := D0.out.fz
  have R := Lib.hid ((F0.out).set5 (.int .u8 0) (.int .i64 (aa : Int)) (.string tx) (.int .i64 0) (.slice none 0 0))
  have RR := Lib.hid ((HA.out).set5 M0.out.loc (.int .u8 0) (.int .i64 (aa : Int)) (.string tx) (.int .i64 0) (.slice none 0 0))
  have RF := Lib.hid ((FF.out).set5 (by first | omega | (simp [size_set]; omega)) (q := w.heap.size) (Nat.le_refl _) (.int .u8 0) (.int .i64 (aa : Int)) (.string tx) (.int .i64 0) (.slice none 0 0))
  go_wp2_with fail
  generalize ((((((w5.setCell ⟨E.b, 2, none⟩ (.int .i64 (d5 - 1))).setCell ⟨w.heap.size, 0, none⟩ (.int .u8 0)).setCell ⟨w.heap.size, 1, none⟩ (.int .i64 (aa : Int))).setCell ⟨w.heap.size, 2, none⟩ (.string tx)).setCell ⟨w.heap.size, 3, none⟩ (.int .i64 0)).setCell ⟨w.heap.size, 4, none⟩ (.slice none 0 0)) = Wz at *
  clear m0 m1 m2 m3 m4 mz r0 r1 r2 r3 r4 rz c2 cz
  have y0 := R.out.cell 0 rfl
  have y1 := R.out.cell 1 rfl
  have y2 := R.out.cell 2 rfl
  have y3 := R.out.cell 3 rfl
  have y4 := R.out.cell 4 rfl
  simp [bodyPost, results, Tryz.results229, go_sem, y0, y1, y2, y3, y4]
  exact ⟨_, rfl, ⟨_, _, _, _, _, _, _, rfl⟩, RR.out, RF.out, fun y l' e => by simp at e⟩
end
end Go.Proofs.YtpemghcafbedeaaGreatDoor.Rf
end
section
namespace Go.Proofs.YtpemghcafbedeaaGreatDoor.Rf
open Go.RowKit Par
section
variable {E : Env} {v : Value} {kvs : List Value} {md : List Nd} {i : Nat} {d e : Int} {w : World}
set_option maxRecDepth 1000000 in
set_option maxHeartbeats 4000000 in
theorem factor_kneg0 (h : RS E v kvs md i 64 0 w) (h1 : (RT E i).kind ≠ 1) (h2 : (RT E i).kind ≠ 2) (h3 : (RT E i).txt = ⟨#[45]⟩) : Calls Tryz.prog 229 #[.pointer (some ⟨E.b, 0, none⟩)] w (PostX E v kvs md 64 (.err (RT E i).at' 51) w) := by
  have b0 : (0 : Int) ≤ (i : Int) := by omega
  have b1 : (i : Int) < (E.toks.length : Int) := by have := h.it; omega
  have hcap := h.cap
  have hA := h.alloc (.cells #[.int .u8 0, .int .i64 0, .string ⟨#[]⟩, .int .i64 0, .slice none 0 0] 231)
  have HA := Lib.hid hA
  have HS0 := Lib.hid h
  have HF := Lib.hid (show Fr E w.heap.size v v w _ from (Fr.refl E w.heap.size v w).alloc (Nat.le_refl _) (.cells #[.int .u8 0, .int .i64 0, .string ⟨#[]⟩, .int .i64 0, .slice none 0 0] 231))
  obtain ⟨c0, c1, _, _, c4⟩ := hA.rowCells
  obtain ⟨k0, k1, k3, k4⟩ := hA.tokCells
  obtain ⟨ST, k2⟩ : ∃ ST : Nat, (w.alloc (.cells #[.int .u8 0, .int .i64 0, .string ⟨#[]⟩, .int .i64 0, .slice none 0 0] 231)).cell? ⟨E.g, i * 5 + 2, none⟩ = some (.int .i64 (ST : Int)) := ⟨_, hA.tok i 2 _ hA.it rfl⟩
  have H1 := Lib.hid h1
  have H2 := Lib.hid h2
  have IS0 : Hid (∀ W, RS E v kvs md i 64 0 W → Calls Tryz.prog 42 #[.pointer (some ⟨E.b, 0, none⟩), .string ⟨#[40]⟩] W fun x w' => x = .returned (.bool false) ∧ ∃ m, w' = W.drewN m) := Lib.hid fun W hW => by
    have := is_at hW ⟨#[40]⟩ (by decide) (by decide)
    rwa [decide_eq_false (show ¬ (RT E i).txt = ⟨#[40]⟩ by rw [h3]; decide)] at this
  have IS1 : Hid (∀ W, RS E v kvs md i 64 0 W → Calls Tryz.prog 42 #[.pointer (some ⟨E.b, 0, none⟩), .string ⟨#[45]⟩] W fun x w' => x = .returned (.bool true) ∧ ∃ m, w' = W.drewN m) := Lib.hid fun W hW => by
    have := is_at hW ⟨#[45]⟩ (by decide) (by decide)
    rwa [decide_eq_true h3] at this
  have HE : Hid (∀ W, RS E v kvs md i 65 51 W → At E v kvs md (64 + 1) (.err (RT E i).at' 51 : Res Ast) W) := Lib.hid fun W hW => At.of_err _ (Int.le_refl _) (by decide) rfl hW
  clear h hA h1 h2 h3
  go_enter Tryz.func229, Tryz.ntmps229
  go_wp2_with fail
  go_region_held3 (fun w' => w'.cell? ⟨E.b, 0, none⟩ = some (.slice (some ⟨E.g, 0, none⟩) E.toks.length E.cap) ∧ w'.cell? ⟨E.b, 1, none⟩ = some (.int .i64 (i : Int)) ∧ w'.cell? ⟨E.g, i * 5, none⟩ = some (.int .u8 (RT E i).kind) ∧ w'.cell? ⟨E.g, i * 5 + 1, none⟩ = some (.int .i64 ((RT E i).at' : Int)) ∧ w'.cell? ⟨E.g, i * 5 + 2, none⟩ = some (.int .i64 (ST : Int)) ∧ w'.cell? ⟨E.g, i * 5 + 3, none⟩ = some (.string (RT E i).txt) ∧ w'.cell? ⟨E.g, i * 5 + 4, none⟩ = some (.int .i64 (RT E i).n)) (go_keep) (first | fail)
  generalize (RT E i).kind = kd at *
  generalize (RT E i).at' = aa at *
  generalize (RT E i).txt = tx at *
  generalize (RT E i).n = nn at *
  have HS1 := Lib.hid ((HA.out.alloc (.cells #[.int .u8 kd, .int .i64 (aa : Int), .int .i64 (ST : Int), .string tx, .int .i64 nn] 83)).drewN 1)
  have L0 := Lib.hid (Lcl.drew' ((HS0.out.lcl (.cells #[.int .u8 0, .int .i64 0, .string ⟨#[]⟩, .int .i64 0, .slice none 0 0] 231)).alloc (.cells #[.int .u8 kd, .int .i64 (aa : Int), .int .i64 (ST : Int), .string tx, .int .i64 nn] 83)))
  have L1 := Lib.hid (Lcl.drew' (HA.out.lcl (.cells #[.int .u8 kd, .int .i64 (aa : Int), .int .i64 (ST : Int), .string tx, .int .i64 nn] 83)))
  have HF1 := Lib.hid ((HF.out.alloc (by simp) (.cells #[.int .u8 kd, .int .i64 (aa : Int), .int .i64 (ST : Int), .string tx, .int .i64 nn] 83)).drewN 1)
  have hsz : (w.alloc (.cells #[.int .u8 0, .int .i64 0, .string ⟨#[]⟩, .int .i64 0, .slice none 0 0] 231)).heap.size = w.heap.size + 1 := by simp
  rw [hsz] at L1
  obtain ⟨W1, hW1⟩ : ∃ W1, ((w.alloc (.cells #[.int .u8 0, .int .i64 0, .string ⟨#[]⟩, .int .i64 0, .slice none 0 0] 231)).alloc (.cells #[.int .u8 kd, .int .i64 (aa : Int), .int .i64 (ST : Int), .string tx, .int .i64 nn] 83)).drew = W1 := ⟨_, rfl⟩
  rw [show ((w.alloc (.cells #[.int .u8 0, .int .i64 0, .string ⟨#[]⟩, .int .i64 0, .slice none 0 0] 231)).alloc (.cells #[.int .u8 kd, .int .i64 (aa : Int), .int .i64 (ST : Int), .string tx, .int .i64 nn] 83)).drewN 1 = W1 from hW1] at HS1 HF1
  rw [hW1] at L0 L1 ⊢
  have hs1 : w.heap.size + 1 < W1.heap.size := L1.out.lt
  clear hW1 k0 k1 k2 k3 k4 c0 c1 c4 HA HF hsz HS0
  have g1 := L1.out.cell 1 rfl
  have g3 := L1.out.cell 3 rfl
  go_upto_region 4 with fail
  have M0 := Lib.hid (L0.out.alloc (.cells #[.int .u8 0, .int .i64 (aa : Int), .string tx, .int .i64 0, .slice none 0 0] 231))
  have M1 := Lib.hid (L1.out.alloc (.cells #[.int .u8 0, .int .i64 (aa : Int), .string tx, .int .i64 0, .slice none 0 0] 231))
  have M2 := Lib.hid (HS1.out.lcl (.cells #[.int .u8 0, .int .i64 (aa : Int), .string tx, .int .i64 0, .slice none 0 0] 231))
  have HS2 := Lib.hid (HS1.out.alloc (.cells #[.int .u8 0, .int .i64 (aa : Int), .string tx, .int .i64 0, .slice none 0 0] 231))
  have HF2 := Lib.hid (HF1.out.alloc (by omega) (.cells #[.int .u8 0, .int .i64 (aa : Int), .string tx, .int .i64 0, .slice none 0 0] 231))
  obtain ⟨q2, hq2⟩ : ∃ q2, W1.heap.size = q2 := ⟨_, rfl⟩
  obtain ⟨W2, hW2⟩ : ∃ W2, W1.alloc (.cells #[.int .u8 0, .int .i64 (aa : Int), .string tx, .int .i64 0, .slice none 0 0] 231) = W2 := ⟨_, rfl⟩
  rw [hW2] at M0 M1 M2 HS2 HF2 ⊢
  rw [hq2] at M2 hs1 ⊢
  clear hW2 hq2 L0 L1 HS1 HF1 g1 g3 W1
  have hs2 : q2 < W2.heap.size := M2.out.lt
  have hb0 : E.b < w.heap.size := M0.out.loc.lt
  have n02 : w.heap.size ≠ q2 := by omega
  have n20 : q2 ≠ w.heap.size := by omega
  have n12 : w.heap.size + 1 ≠ q2 := by omega
  have n0b : w.heap.size ≠ E.b := by have := M0.out.loc.lt; omega
  have n2b : q2 ≠ E.b := by have := M2.out.loc.lt; omega
  have nb0 : E.b ≠ w.heap.size := by omega
  have nb2 : E.b ≠ q2 := by omega
  have hk1 : (kd == 1) = false := by simpa using H1.out
  have hk2 : (kd == 2) = false := by simpa using H2.out
  have g0 := M1.out.cell 0 rfl
  obtain ⟨_, c1, _, _, c4⟩ := HS2.out.rowCells
  have C0 := Lib.hid (IS0.out _ HS2.out)
  go_wp2_with fail
  (with_reducible refine C0.out.mono ?_)
  rintro x w0 ⟨rfl, n0, rfl⟩
  clear C0
  have C1 := Lib.hid (IS1.out _ (HS2.out.drewN n0))
  go_wp2_with fail
  (with_reducible refine C1.out.mono ?_)
  rintro x w3 ⟨rfl, n3, rfl⟩
  clear C1 c1 c4 g0
  obtain ⟨W3, hW3⟩ : ∃ W3, ((W2.drewN n0).drewN n3) = W3 := ⟨_, rfl⟩
  have HS3 : Hid (RS E v kvs md i 64 0 W3) := Lib.hid (by rw [← hW3]; exact (HS2.out.drewN n0).drewN n3)
  have HF3 : Hid (Fr E w.heap.size v v w W3) := Lib.hid (by rw [← hW3]; exact (HF2.out.drewN n0).drewN n3)
  have A2 : Hid (Lcl E v kvs q2 (.cells #[.int .u8 0, .int .i64 (aa : Int), .string tx, .int .i64 0, .slice none 0 0] 231) W3) := Lib.hid (by rw [← hW3]; exact ⟨M2.out.loc, M2.out.lt, M2.out.obj⟩)
  have A0 : Hid (Lcl E v kvs w.heap.size (.cells #[.int .u8 0, .int .i64 0, .string ⟨#[]⟩, .int .i64 0, .slice none 0 0] 231) W3) := Lib.hid (by rw [← hW3]; exact ⟨M0.out.loc, M0.out.lt, M0.out.obj⟩)
  have hs3 : W2.heap.size = W3.heap.size := by rw [← hW3]; rfl
  rw [hW3]
  clear hW3
  have m0 := A2.out.cell 0 rfl
  have m1 := A2.out.cell 1 rfl
  have m2 := A2.out.cell 2 rfl
  have m3 := A2.out.cell 3 rfl
  have m4 := A2.out.cell 4 rfl
  have mz := A2.out.fz
  have B2 := Lib.hid ((A2.out.set 0 (.int .u8 26)).set 2 (.string ⟨#[]⟩))
  have B0 := Lib.hid ((A0.out.grown (grownBy_set _ ⟨q2, 0, none⟩ (.int .u8 26)) (fun e => n20 (Option.some.inj e))).grown (grownBy_set _ ⟨q2, 2, none⟩ (.string ⟨#[]⟩)) (fun e => n20 (Option.some.inj e)))
  have BS := Lib.hid ((HS3.out.set (a := ⟨q2, 0, none⟩) A2.out.loc (.int .u8 26)).set (a := ⟨q2, 2, none⟩) A2.out.loc (.string ⟨#[]⟩))
  have BF := Lib.hid ((HF3.out.set (by first | omega | (simp [size_set]; omega)) (a := ⟨q2, 0, none⟩) (show w.heap.size ≤ q2 by omega) (.int .u8 26)).set (by first | omega | (simp [size_set]; omega)) (a := ⟨q2, 2, none⟩) (show w.heap.size ≤ q2 by omega) (.string ⟨#[]⟩))
  have C3 := Lib.hid (in_deep BS.out)
  go_wp2_with fail
  (with_reducible refine C3.out.mono ?_)
  rintro x w5 ⟨rfl, hk⟩
  have D2 := Lib.hid (B2.out.on0 hk.fr)
  have D0 := Lib.hid (B0.out.on0 hk.fr)
  have DF := Lib.hid (BF.out.trans (hk.fr.mono (show w.heap.size ≤ ((W3.setCell ⟨q2, 0, none⟩ (.int .u8 26)).setCell ⟨q2, 2, none⟩ (.string ⟨#[]⟩)).heap.size by first | omega | (simp [size_set]; omega))))
  have hs5 : W3.heap.size ≤ w5.heap.size := by have := hk.fr.size; simpa [size_set] using this
  obtain ⟨d5, _, hd5, c2, cz, ha, hf⟩ := (HE.out _ hk.rs).deep (by decide)
  have hw : IntKind.i64.wrap (d5 - 1) = d5 - 1 := IntWalk.i64_in _ (by omega)
  have l63 : -9223372036854775808 ≤ d5 - 1 := by omega
  have u63 : d5 - 1 ≤ 9223372036854775807 := by omega
  have HA := Lib.hid ha
  have F0 := Lib.hid (D0.out.setB 2 (.int .i64 (d5 - 1)))
  have FF := Lib.hid (DF.out.trans (hf.mono (show w.heap.size ≤ w5.heap.size by omega)))
  clear C3 hk ha hf m0 m1 m2 m3 m4 mz
  have m0 := D2.out.cell 0 rfl
  have m1 := D2.out.cell 1 rfl
  have m2 := D2.out.cell 2 rfl
  have m3 := D2.out.cell 3 rfl
  have m4 := D2.out.cell 4 rfl
  have mz := D2.out.fz
  have r0 := D0.out.cell 0 rfl
  have r1 := D0.out.cell 1 rfl
  have r2 := D0.out.cell 2 rfl
  have r3 := D0.out.cell 3 rfl
  have r4 := D0.out.cell 4 rfl
  have rz := D0.out.fz
  have R := Lib.hid ((F0.out).set5 (.int .u8 26) (.int .i64 (aa : Int)) (.string ⟨#[]⟩) (.int .i64 0) (.slice none 0 0))
  have RR := Lib.hid ((HA.out).set5 M0.out.loc (.int .u8 26) (.int .i64 (aa : Int)) (.string ⟨#[]⟩) (.int .i64 0) (.slice none 0 0))
  have RF := Lib.hid ((FF.out).set5 (by first | omega | (simp [size_set]; omega)) (q := w.heap.size) (Nat.le_refl _) (.int .u8 26) (.int .i64 (aa : Int)) (.string ⟨#[]⟩) (.int .i64 0) (.slice none 0 0))
  go_wp2_with fail
  generalize ((((((w5.setCell ⟨E.b, 2, none⟩ (.int .i64 (d5 - 1))).setCell ⟨w.heap.size, 0, none⟩ (.int .u8 26)).setCell ⟨w.heap.size, 1, none⟩ (.int .i64 (aa : Int))).setCell ⟨w.heap.size, 2, none⟩ (.string ⟨#[]⟩)).setCell ⟨w.heap.size, 3, none⟩ (.int .i64 0)).setCell ⟨w.heap.size, 4, none⟩ (.slice none 0 0)) = Wz at *
  clear m0 m1 m2 m3 m4 mz r0 r1 r2 r3 r4 rz c2 cz
  have y0 := R.out.cell 0 rfl
  have y1 := R.out.cell 1 rfl
  have y2 := R.out.cell 2 rfl
  have y3 := R.out.cell 3 rfl
  have y4 := R.out.cell 4 rfl
  simp [bodyPost, results, Tryz.results229, go_sem, y0, y1, y2, y3, y4]
  exact ⟨_, rfl, ⟨_, _, _, _, _, _, _, rfl⟩, RR.out, RF.out, fun y l' e => by simp at e⟩
end
end Go.Proofs.YtpemghcafbedeaaGreatDoor.Rf
end
section
namespace Go.Proofs.YtpemghcafbedeaaGreatDoor.Rf
open Go.RowKit Par
section
variable {E : Env} {v : Value} {kvs : List Value} {md : List Nd} {i : Nat} {d e : Int} {w : World}
set_option maxRecDepth 1000000 in
set_option maxHeartbeats 4000000 in
theorem factor_kopen {fac : Par Ast} (HX : HasX 209 (d + 1) (exprP fac)) (hd : 0 ≤ d ∧ d < 64) (h : RS E v kvs md i d 0 w) (h1 : (RT E i).kind ≠ 1) (h2 : (RT E i).kind ≠ 2) (h3 : (RT E i).txt = ⟨#[40]⟩) : Calls Tryz.prog 229 #[.pointer (some ⟨E.b, 0, none⟩)] w (PostX E v kvs md d (skp (exprP fac (E.pts.drop (i + 1))) (expectP ⟨#[41]⟩)) w) := by
  have b0 : (0 : Int) ≤ (i : Int) := by omega
  have b1 : (i : Int) < (E.toks.length : Int) := by have := h.it; omega
  have hcap := h.cap
  have hA := h.alloc (.cells #[.int .u8 0, .int .i64 0, .string ⟨#[]⟩, .int .i64 0, .slice none 0 0] 231)
  have HA := Lib.hid hA
  have HS0 := Lib.hid h
  have HF := Lib.hid (show Fr E w.heap.size v v w _ from (Fr.refl E w.heap.size v w).alloc (Nat.le_refl _) (.cells #[.int .u8 0, .int .i64 0, .string ⟨#[]⟩, .int .i64 0, .slice none 0 0] 231))
  obtain ⟨c0, c1, _, _, c4⟩ := hA.rowCells
  obtain ⟨k0, k1, k3, k4⟩ := hA.tokCells
  obtain ⟨ST, k2⟩ : ∃ ST : Nat, (w.alloc (.cells #[.int .u8 0, .int .i64 0, .string ⟨#[]⟩, .int .i64 0, .slice none 0 0] 231)).cell? ⟨E.g, i * 5 + 2, none⟩ = some (.int .i64 (ST : Int)) := ⟨_, hA.tok i 2 _ hA.it rfl⟩
  have H1 := Lib.hid h1
  have H2 := Lib.hid h2
  have IS1 : Hid (∀ W, RS E v kvs md i d 0 W → Calls Tryz.prog 42 #[.pointer (some ⟨E.b, 0, none⟩), .string ⟨#[40]⟩] W fun x w' => x = .returned (.bool true) ∧ ∃ m, w' = W.drewN m) := Lib.hid fun W hW => by
    have := is_at hW ⟨#[40]⟩ (by decide) (by decide)
    rwa [decide_eq_true h3] at this
  have HXX := Lib.hid HX
  have HD := Lib.hid hd
  have HL := Lib.hid (h.last i h.it (pt_no4 h.ptOk ⟨#[40]⟩ (by decide) h3))
  have h63 : (i : Int) + 1 ≤ 9223372036854775807 := by have := h.it; have := h.few; omega
  clear h hA h1 h2 h3 HX hd
  go_enter Tryz.func229, Tryz.ntmps229
  go_wp2_with fail
  go_region_held3 (fun w' => w'.cell? ⟨E.b, 0, none⟩ = some (.slice (some ⟨E.g, 0, none⟩) E.toks.length E.cap) ∧ w'.cell? ⟨E.b, 1, none⟩ = some (.int .i64 (i : Int)) ∧ w'.cell? ⟨E.g, i * 5, none⟩ = some (.int .u8 (RT E i).kind) ∧ w'.cell? ⟨E.g, i * 5 + 1, none⟩ = some (.int .i64 ((RT E i).at' : Int)) ∧ w'.cell? ⟨E.g, i * 5 + 2, none⟩ = some (.int .i64 (ST : Int)) ∧ w'.cell? ⟨E.g, i * 5 + 3, none⟩ = some (.string (RT E i).txt) ∧ w'.cell? ⟨E.g, i * 5 + 4, none⟩ = some (.int .i64 (RT E i).n)) (go_keep) (first | fail)
  generalize (RT E i).kind = kd at *
  generalize (RT E i).at' = aa at *
  generalize (RT E i).txt = tx at *
  generalize (RT E i).n = nn at *
  have HS1 := Lib.hid ((HA.out.alloc (.cells #[.int .u8 kd, .int .i64 (aa : Int), .int .i64 (ST : Int), .string tx, .int .i64 nn] 83)).drewN 1)
  have L0 := Lib.hid (Lcl.drew' ((HS0.out.lcl (.cells #[.int .u8 0, .int .i64 0, .string ⟨#[]⟩, .int .i64 0, .slice none 0 0] 231)).alloc (.cells #[.int .u8 kd, .int .i64 (aa : Int), .int .i64 (ST : Int), .string tx, .int .i64 nn] 83)))
  have L1 := Lib.hid (Lcl.drew' (HA.out.lcl (.cells #[.int .u8 kd, .int .i64 (aa : Int), .int .i64 (ST : Int), .string tx, .int .i64 nn] 83)))
  have HF1 := Lib.hid ((HF.out.alloc (by simp) (.cells #[.int .u8 kd, .int .i64 (aa : Int), .int .i64 (ST : Int), .string tx, .int .i64 nn] 83)).drewN 1)
  have hsz : (w.alloc (.cells #[.int .u8 0, .int .i64 0, .string ⟨#[]⟩, .int .i64 0, .slice none 0 0] 231)).heap.size = w.heap.size + 1 := by simp
  rw [hsz] at L1
  obtain ⟨W1, hW1⟩ : ∃ W1, ((w.alloc (.cells #[.int .u8 0, .int .i64 0, .string ⟨#[]⟩, .int .i64 0, .slice none 0 0] 231)).alloc (.cells #[.int .u8 kd, .int .i64 (aa : Int), .int .i64 (ST : Int), .string tx, .int .i64 nn] 83)).drew = W1 := ⟨_, rfl⟩
  rw [show ((w.alloc (.cells #[.int .u8 0, .int .i64 0, .string ⟨#[]⟩, .int .i64 0, .slice none 0 0] 231)).alloc (.cells #[.int .u8 kd, .int .i64 (aa : Int), .int .i64 (ST : Int), .string tx, .int .i64 nn] 83)).drewN 1 = W1 from hW1] at HS1 HF1
  rw [hW1] at L0 L1 ⊢
  have hs1 : w.heap.size + 1 < W1.heap.size := L1.out.lt
  clear hW1 k0 k1 k2 k3 k4 c0 c1 c4 HA HF hsz HS0
  have g1 := L1.out.cell 1 rfl
  have g3 := L1.out.cell 3 rfl
  go_upto_region 4 with fail
  have M0 := Lib.hid (L0.out.alloc (.cells #[.int .u8 0, .int .i64 (aa : Int), .string tx, .int .i64 0, .slice none 0 0] 231))
  have M1 := Lib.hid (L1.out.alloc (.cells #[.int .u8 0, .int .i64 (aa : Int), .string tx, .int .i64 0, .slice none 0 0] 231))
  have M2 := Lib.hid (HS1.out.lcl (.cells #[.int .u8 0, .int .i64 (aa : Int), .string tx, .int .i64 0, .slice none 0 0] 231))
  have HS2 := Lib.hid (HS1.out.alloc (.cells #[.int .u8 0, .int .i64 (aa : Int), .string tx, .int .i64 0, .slice none 0 0] 231))
  have HF2 := Lib.hid (HF1.out.alloc (by omega) (.cells #[.int .u8 0, .int .i64 (aa : Int), .string tx, .int .i64 0, .slice none 0 0] 231))
  obtain ⟨q2, hq2⟩ : ∃ q2, W1.heap.size = q2 := ⟨_, rfl⟩
  obtain ⟨W2, hW2⟩ : ∃ W2, W1.alloc (.cells #[.int .u8 0, .int .i64 (aa : Int), .string tx, .int .i64 0, .slice none 0 0] 231) = W2 := ⟨_, rfl⟩
  rw [hW2] at M0 M1 M2 HS2 HF2 ⊢
  rw [hq2] at M2 hs1 ⊢
  clear hW2 hq2 L0 L1 HS1 HF1 g1 g3 W1
  have hs2 : q2 < W2.heap.size := M2.out.lt
  have hb0 : E.b < w.heap.size := M0.out.loc.lt
  have n02 : w.heap.size ≠ q2 := by omega
  have n20 : q2 ≠ w.heap.size := by omega
  have n12 : w.heap.size + 1 ≠ q2 := by omega
  have n0b : w.heap.size ≠ E.b := by have := M0.out.loc.lt; omega
  have n2b : q2 ≠ E.b := by have := M2.out.loc.lt; omega
  have nb0 : E.b ≠ w.heap.size := by omega
  have nb2 : E.b ≠ q2 := by omega
  have hk1 : (kd == 1) = false := by simpa using H1.out
  have hk2 : (kd == 2) = false := by simpa using H2.out
  have g0 := M1.out.cell 0 rfl
  obtain ⟨_, c1, _, _, c4⟩ := HS2.out.rowCells
  have C1 := Lib.hid (IS1.out _ HS2.out)
  go_wp2_with fail
  (with_reducible refine C1.out.mono ?_)
  rintro x w3 ⟨rfl, n3, rfl⟩
  clear C1 c1 c4 g0
  obtain ⟨W3, hW3⟩ : ∃ W3, (W2.drewN n3) = W3 := ⟨_, rfl⟩
  have HS3 : Hid (RS E v kvs md i d 0 W3) := Lib.hid (by rw [← hW3]; exact HS2.out.drewN n3)
  have HF3 : Hid (Fr E w.heap.size v v w W3) := Lib.hid (by rw [← hW3]; exact HF2.out.drewN n3)
  have A2 : Hid (Lcl E v kvs q2 (.cells #[.int .u8 0, .int .i64 (aa : Int), .string tx, .int .i64 0, .slice none 0 0] 231) W3) := Lib.hid (by rw [← hW3]; exact ⟨M2.out.loc, M2.out.lt, M2.out.obj⟩)
  have A0 : Hid (Lcl E v kvs w.heap.size (.cells #[.int .u8 0, .int .i64 0, .string ⟨#[]⟩, .int .i64 0, .slice none 0 0] 231) W3) := Lib.hid (by rw [← hW3]; exact ⟨M0.out.loc, M0.out.lt, M0.out.obj⟩)
  have hs3 : W2.heap.size = W3.heap.size := by rw [← hW3]; rfl
  rw [hW3]
  clear hW3
  have C3 := Lib.hid (in_ok HS3.out HD.out.2)
  go_wp2_with fail
  (with_reducible refine C3.out.mono ?_)
  rintro x w4 ⟨rfl, hk⟩
  have D2 := Lib.hid (A2.out.on0 hk.fr)
  have D0 := Lib.hid (A0.out.on0 hk.fr)
  have DF := Lib.hid (HF3.out.trans (hk.fr.mono (show w.heap.size ≤ W3.heap.size by first | omega | (simp [size_set]; omega))))
  have hs4 : W3.heap.size ≤ w4.heap.size := by have := hk.fr.size; simpa [size_set] using this
  obtain ⟨_, c1, _, _, _⟩ := hk.rs.rowCells
  have cz := hk.rs.fz
  have hki := hk.rs.inc HL.out
  have HA := Lib.hid (At.of_ok (d := d + 1) () hki.rs)
  have E2 := Lib.hid (D2.out.setB 1 (.int .i64 ((i : Int) + 1)))
  have E0 := Lib.hid (D0.out.setB 1 (.int .i64 ((i : Int) + 1)))
  have EF := Lib.hid (DF.out.trans (hki.fr.mono (show w.heap.size ≤ w4.heap.size by omega)))
  have C5 := Lib.hid (HXX.out E v kvs md _ Unit _ HA.out)
  have hs5 : (w4.setCell ⟨E.b, 1, none⟩ (.int .i64 ((i : Int) + 1))).heap.size = w4.heap.size := size_set _ _ _
  clear C3 hk hki 
  go_wp2_with fail
  (with_reducible refine C5.out.mono ?_)
  rintro x w6 ⟨ev, rfl, ⟨k6, a6, t6, m6, p6, l6, c6, rfl⟩, ha6, hf6, hx6⟩
  have G2 := Lib.hid (E2.out.on0 hf6)
  have G0 := Lib.hid (E0.out.on0 hf6)
  have hs6 : w4.heap.size ≤ w6.heap.size := by have := hf6.size; rwa [hs5] at this
  have GF := Lib.hid (EF.out.trans (hf6.mono (show w.heap.size ≤ _ by rw [hs5]; omega)))
  have GA := Lib.hid ha6
  have GX := Lib.hid hx6
  clear C5 ha6 hf6 hx6 c1 cz
  have m0 := G2.out.cell 0 rfl
  have m1 := G2.out.cell 1 rfl
  have m2 := G2.out.cell 2 rfl
  have m3 := G2.out.cell 3 rfl
  have m4 := G2.out.cell 4 rfl
  have mz := G2.out.fz
  have K2 := Lib.hid (G2.out.set5 (.int .u8 k6) (.int .i64 a6) (.string t6) (.int .i64 m6) (.slice p6 l6 c6))
  have K0 := Lib.hid (((((G0.out.grown (grownBy_set _ ⟨q2, 0, none⟩ (.int .u8 k6)) (fun e => n20 (Option.some.inj e))).grown (grownBy_set _ ⟨q2, 1, none⟩ (.int .i64 a6)) (fun e => n20 (Option.some.inj e))).grown (grownBy_set _ ⟨q2, 2, none⟩ (.string t6)) (fun e => n20 (Option.some.inj e))).grown (grownBy_set _ ⟨q2, 3, none⟩ (.int .i64 m6)) (fun e => n20 (Option.some.inj e))).grown (grownBy_set _ ⟨q2, 4, none⟩ (.slice p6 l6 c6)) (fun e => n20 (Option.some.inj e)))
  have KA := Lib.hid (GA.out.set5 G2.out.loc (.int .u8 k6) (.int .i64 a6) (.string t6) (.int .i64 m6) (.slice p6 l6 c6))
  have KF := Lib.hid (GF.out.set5 (by first | omega | (simp [size_set]; omega)) (q := q2) (show w.heap.size ≤ q2 by omega) (.int .u8 k6) (.int .i64 a6) (.string t6) (.int .i64 m6) (.slice p6 l6 c6))
  have KX := Lib.hid (fun y l' e => (GX.out y l' e).set5 (q := q2) (show q2 < _ by rw [hs5]; omega) (.int .u8 k6) (.int .i64 a6) (.string t6) (.int .i64 m6) (.slice p6 l6 c6))
  have hs7 : (((((w6.setCell ⟨q2, 0, none⟩ (.int .u8 k6)).setCell ⟨q2, 1, none⟩ (.int .i64 a6)).setCell ⟨q2, 2, none⟩ (.string t6)).setCell ⟨q2, 3, none⟩ (.int .i64 m6)).setCell ⟨q2, 4, none⟩ (.slice p6 l6 c6)).heap.size = w6.heap.size := by simp [size_set]
  have C7 := Lib.hid (take_R KA.out ⟨#[41]⟩ (by decide) (by decide))
  clear G2 G0 GA GF GX
  go_wp2_with fail
  generalize (((((w6.setCell ⟨q2, 0, none⟩ (.int .u8 k6)).setCell ⟨q2, 1, none⟩ (.int .i64 a6)).setCell ⟨q2, 2, none⟩ (.string t6)).setCell ⟨q2, 3, none⟩ (.int .i64 m6)).setCell ⟨q2, 4, none⟩ (.slice p6 l6 c6)) = W6 at *
  (with_reducible refine C7.out.mono ?_)
  rintro x w7 ⟨rfl, ha7, hf7⟩
  have L2 := Lib.hid (K2.out.on0 hf7)
  have L0 := Lib.hid (K0.out.on0 hf7)
  have hs8 : w6.heap.size ≤ w7.heap.size := by have := hf7.size; omega
  have LF := Lib.hid (KF.out.trans (hf7.mono (show w.heap.size ≤ W6.heap.size by omega)))
  have LX := Lib.hid (fun y l' e => (KX.out y l' e).fr hf7 (Nat.le_refl _))
  clear C7
  obtain ⟨d5, _, hd5, c2, cz, ha, hf⟩ := ha7.deep HD.out.1
  clear m0 m1 m2 m3 m4 mz
  have hw : IntKind.i64.wrap (d5 - 1) = d5 - 1 := IntWalk.i64_in _ (by have := HD.out.1; omega)
  have l63 : -9223372036854775808 ≤ d5 - 1 := by have := HD.out.1; omega
  have u63 : d5 - 1 ≤ 9223372036854775807 := by omega
  have HA9 := Lib.hid ha
  have F0 := Lib.hid (L0.out.setB 2 (.int .i64 (d5 - 1)))
  have FF := Lib.hid (LF.out.trans (hf.mono (show w.heap.size ≤ w7.heap.size by omega)))
  have FX := Lib.hid (fun y l' e => (LX.out y l' e).set (q := ⟨E.b, 2, none⟩) (show E.b < _ by rw [hs5]; omega) (.int .i64 (d5 - 1)))
  clear ha hf
  have m0 := L2.out.cell 0 rfl
  have m1 := L2.out.cell 1 rfl
  have m2 := L2.out.cell 2 rfl
  have m3 := L2.out.cell 3 rfl
  have m4 := L2.out.cell 4 rfl
  have mz := L2.out.fz
  have r0 := L0.out.cell 0 rfl
  have r1 := L0.out.cell 1 rfl
  have r2 := L0.out.cell 2 rfl
  have r3 := L0.out.cell 3 rfl
  have r4 := L0.out.cell 4 rfl
  have rz := L0.out.fz
  have R := Lib.hid ((F0.out).set5 (.int .u8 k6) (.int .i64 a6) (.string t6) (.int .i64 m6) (.slice p6 l6 c6))
  have RR := Lib.hid ((HA9.out).set5 M0.out.loc (.int .u8 k6) (.int .i64 a6) (.string t6) (.int .i64 m6) (.slice p6 l6 c6))
  have RF := Lib.hid ((FF.out).set5 (by first | omega | (simp [size_set]; omega)) (q := w.heap.size) (Nat.le_refl _) (.int .u8 k6) (.int .i64 a6) (.string t6) (.int .i64 m6) (.slice p6 l6 c6))
  have RX := Lib.hid (fun y l' e => (FX.out y l' e).set5 (q := w.heap.size) (show w.heap.size < _ by rw [hs5]; omega) (.int .u8 k6) (.int .i64 a6) (.string t6) (.int .i64 m6) (.slice p6 l6 c6))
  go_wp2_with fail
  generalize ((((((w7.setCell ⟨E.b, 2, none⟩ (.int .i64 (d5 - 1))).setCell ⟨w.heap.size, 0, none⟩ (.int .u8 k6)).setCell ⟨w.heap.size, 1, none⟩ (.int .i64 a6)).setCell ⟨w.heap.size, 2, none⟩ (.string t6)).setCell ⟨w.heap.size, 3, none⟩ (.int .i64 m6)).setCell ⟨w.heap.size, 4, none⟩ (.slice p6 l6 c6)) = Wz at *
  clear m0 m1 m2 m3 m4 mz r0 r1 r2 r3 r4 rz c2 cz
  have y0 := R.out.cell 0 rfl
  have y1 := R.out.cell 1 rfl
  have y2 := R.out.cell 2 rfl
  have y3 := R.out.cell 3 rfl
  have y4 := R.out.cell 4 rfl
  simp [bodyPost, results, Tryz.results229, go_sem, y0, y1, y2, y3, y4]
  exact ⟨_, rfl, ⟨_, _, _, _, _, _, _, rfl⟩, RR.out, RF.out, fun y l' e => by
    obtain ⟨l1, e1⟩ := skp_inv e
    have hx := RX.out y l1 e1
    exact hx.less (by rw [hs5]; omega)⟩
end
end Go.Proofs.YtpemghcafbedeaaGreatDoor.Rf
end
section
namespace Go.Proofs.YtpemghcafbedeaaGreatDoor.Rf
open Go.RowKit Par
section
variable {E : Env} {v : Value} {kvs : List Value} {md : List Nd} {i : Nat} {d e : Int} {w : World}
set_option maxRecDepth 1000000 in
set_option maxHeartbeats 4000000 in
theorem factor_kneg {fac : Par Ast} (HX : HasX 229 (d + 1) fac) (hd : 0 ≤ d ∧ d < 64) (h : RS E v kvs md i d 0 w) (h1 : (RT E i).kind ≠ 1) (h2 : (RT E i).kind ≠ 2) (h3 : (RT E i).txt = ⟨#[45]⟩) (a' : Nat) (ha' : (RT E i).at' = a') : Calls Tryz.prog 229 #[.pointer (some ⟨E.b, 0, none⟩)] w (PostX E v kvs md d (then' (fac (E.pts.drop (i + 1))) fun a => Par.pure (nodeA 26 a' [a])) w) := by
  have b0 : (0 : Int) ≤ (i : Int) := by omega
  have b1 : (i : Int) < (E.toks.length : Int) := by have := h.it; omega
  have hcap := h.cap
  have hA := h.alloc (.cells #[.int .u8 0, .int .i64 0, .string ⟨#[]⟩, .int .i64 0, .slice none 0 0] 231)
  have HA := Lib.hid hA
  have HS0 := Lib.hid h
  have HF := Lib.hid (show Fr E w.heap.size v v w _ from (Fr.refl E w.heap.size v w).alloc (Nat.le_refl _) (.cells #[.int .u8 0, .int .i64 0, .string ⟨#[]⟩, .int .i64 0, .slice none 0 0] 231))
  obtain ⟨c0, c1, _, _, c4⟩ := hA.rowCells
  obtain ⟨k0, k1, k3, k4⟩ := hA.tokCells
  obtain ⟨ST, k2⟩ : ∃ ST : Nat, (w.alloc (.cells #[.int .u8 0, .int .i64 0, .string ⟨#[]⟩, .int .i64 0, .slice none 0 0] 231)).cell? ⟨E.g, i * 5 + 2, none⟩ = some (.int .i64 (ST : Int)) := ⟨_, hA.tok i 2 _ hA.it rfl⟩
  have H1 := Lib.hid h1
  have H2 := Lib.hid h2
  have IS0 : Hid (∀ W, RS E v kvs md i d 0 W → Calls Tryz.prog 42 #[.pointer (some ⟨E.b, 0, none⟩), .string ⟨#[40]⟩] W fun x w' => x = .returned (.bool false) ∧ ∃ m, w' = W.drewN m) := Lib.hid fun W hW => by
    have := is_at hW ⟨#[40]⟩ (by decide) (by decide)
    rwa [decide_eq_false (show ¬ (RT E i).txt = ⟨#[40]⟩ by rw [h3]; decide)] at this
  have IS1 : Hid (∀ W, RS E v kvs md i d 0 W → Calls Tryz.prog 42 #[.pointer (some ⟨E.b, 0, none⟩), .string ⟨#[45]⟩] W fun x w' => x = .returned (.bool true) ∧ ∃ m, w' = W.drewN m) := Lib.hid fun W hW => by
    have := is_at hW ⟨#[45]⟩ (by decide) (by decide)
    rwa [decide_eq_true h3] at this
  have HXX := Lib.hid HX
  have HAT := Lib.hid ha'
  have HD := Lib.hid hd
  have HL := Lib.hid (h.last i h.it (pt_no4 h.ptOk ⟨#[45]⟩ (by decide) h3))
  have h63 : (i : Int) + 1 ≤ 9223372036854775807 := by have := h.it; have := h.few; omega
  clear h hA h1 h2 h3 HX hd ha'
  go_enter Tryz.func229, Tryz.ntmps229
  go_wp2_with fail
  go_region_held3 (fun w' => w'.cell? ⟨E.b, 0, none⟩ = some (.slice (some ⟨E.g, 0, none⟩) E.toks.length E.cap) ∧ w'.cell? ⟨E.b, 1, none⟩ = some (.int .i64 (i : Int)) ∧ w'.cell? ⟨E.g, i * 5, none⟩ = some (.int .u8 (RT E i).kind) ∧ w'.cell? ⟨E.g, i * 5 + 1, none⟩ = some (.int .i64 ((RT E i).at' : Int)) ∧ w'.cell? ⟨E.g, i * 5 + 2, none⟩ = some (.int .i64 (ST : Int)) ∧ w'.cell? ⟨E.g, i * 5 + 3, none⟩ = some (.string (RT E i).txt) ∧ w'.cell? ⟨E.g, i * 5 + 4, none⟩ = some (.int .i64 (RT E i).n)) (go_keep) (first | fail)
  generalize (RT E i).kind = kd at *
  generalize (RT E i).at' = aa at *
  generalize (RT E i).txt = tx at *
  generalize (RT E i).n = nn at *
  have HS1 := Lib.hid ((HA.out.alloc (.cells #[.int .u8 kd, .int .i64 (aa : Int), .int .i64 (ST : Int), .string tx, .int .i64 nn] 83)).drewN 1)
  have L0 := Lib.hid (Lcl.drew' ((HS0.out.lcl (.cells #[.int .u8 0, .int .i64 0, .string ⟨#[]⟩, .int .i64 0, .slice none 0 0] 231)).alloc (.cells #[.int .u8 kd, .int .i64 (aa : Int), .int .i64 (ST : Int), .string tx, .int .i64 nn] 83)))
  have L1 := Lib.hid (Lcl.drew' (HA.out.lcl (.cells #[.int .u8 kd, .int .i64 (aa : Int), .int .i64 (ST : Int), .string tx, .int .i64 nn] 83)))
  have HF1 := Lib.hid ((HF.out.alloc (by simp) (.cells #[.int .u8 kd, .int .i64 (aa : Int), .int .i64 (ST : Int), .string tx, .int .i64 nn] 83)).drewN 1)
  have hsz : (w.alloc (.cells #[.int .u8 0, .int .i64 0, .string ⟨#[]⟩, .int .i64 0, .slice none 0 0] 231)).heap.size = w.heap.size + 1 := by simp
  rw [hsz] at L1
  obtain ⟨W1, hW1⟩ : ∃ W1, ((w.alloc (.cells #[.int .u8 0, .int .i64 0, .string ⟨#[]⟩, .int .i64 0, .slice none 0 0] 231)).alloc (.cells #[.int .u8 kd, .int .i64 (aa : Int), .int .i64 (ST : Int), .string tx, .int .i64 nn] 83)).drew = W1 := ⟨_, rfl⟩
  rw [show ((w.alloc (.cells #[.int .u8 0, .int .i64 0, .string ⟨#[]⟩, .int .i64 0, .slice none 0 0] 231)).alloc (.cells #[.int .u8 kd, .int .i64 (aa : Int), .int .i64 (ST : Int), .string tx, .int .i64 nn] 83)).drewN 1 = W1 from hW1] at HS1 HF1
  rw [hW1] at L0 L1 ⊢
  have hs1 : w.heap.size + 1 < W1.heap.size := L1.out.lt
  clear hW1 k0 k1 k2 k3 k4 c0 c1 c4 HA HF hsz HS0
  have g1 := L1.out.cell 1 rfl
  have g3 := L1.out.cell 3 rfl
  go_upto_region 4 with fail
  have M0 := Lib.hid (L0.out.alloc (.cells #[.int .u8 0, .int .i64 (aa : Int), .string tx, .int .i64 0, .slice none 0 0] 231))
  have M1 := Lib.hid (L1.out.alloc (.cells #[.int .u8 0, .int .i64 (aa : Int), .string tx, .int .i64 0, .slice none 0 0] 231))
  have M2 := Lib.hid (HS1.out.lcl (.cells #[.int .u8 0, .int .i64 (aa : Int), .string tx, .int .i64 0, .slice none 0 0] 231))
  have HS2 := Lib.hid (HS1.out.alloc (.cells #[.int .u8 0, .int .i64 (aa : Int), .string tx, .int .i64 0, .slice none 0 0] 231))
  have HF2 := Lib.hid (HF1.out.alloc (by omega) (.cells #[.int .u8 0, .int .i64 (aa : Int), .string tx, .int .i64 0, .slice none 0 0] 231))
  obtain ⟨q2, hq2⟩ : ∃ q2, W1.heap.size = q2 := ⟨_, rfl⟩
  obtain ⟨W2, hW2⟩ : ∃ W2, W1.alloc (.cells #[.int .u8 0, .int .i64 (aa : Int), .string tx, .int .i64 0, .slice none 0 0] 231) = W2 := ⟨_, rfl⟩
  rw [hW2] at M0 M1 M2 HS2 HF2 ⊢
  rw [hq2] at M2 hs1 ⊢
  clear hW2 hq2 L0 L1 HS1 HF1 g1 g3 W1
  have hs2 : q2 < W2.heap.size := M2.out.lt
  have hb0 : E.b < w.heap.size := M0.out.loc.lt
  have n02 : w.heap.size ≠ q2 := by omega
  have n20 : q2 ≠ w.heap.size := by omega
  have n12 : w.heap.size + 1 ≠ q2 := by omega
  have n0b : w.heap.size ≠ E.b := by have := M0.out.loc.lt; omega
  have n2b : q2 ≠ E.b := by have := M2.out.loc.lt; omega
  have nb0 : E.b ≠ w.heap.size := by omega
  have nb2 : E.b ≠ q2 := by omega
  have hk1 : (kd == 1) = false := by simpa using H1.out
  have hk2 : (kd == 2) = false := by simpa using H2.out
  have g0 := M1.out.cell 0 rfl
  obtain ⟨_, c1, _, _, c4⟩ := HS2.out.rowCells
  have C0 := Lib.hid (IS0.out _ HS2.out)
  go_wp2_with fail
  (with_reducible refine C0.out.mono ?_)
  rintro x w0 ⟨rfl, n0, rfl⟩
  clear C0
  have C1 := Lib.hid (IS1.out _ (HS2.out.drewN n0))
  go_wp2_with fail
  (with_reducible refine C1.out.mono ?_)
  rintro x w3 ⟨rfl, n3, rfl⟩
  clear C1 c1 c4 g0
  obtain ⟨W3, hW3⟩ : ∃ W3, ((W2.drewN n0).drewN n3) = W3 := ⟨_, rfl⟩
  have HS3 : Hid (RS E v kvs md i d 0 W3) := Lib.hid (by rw [← hW3]; exact (HS2.out.drewN n0).drewN n3)
  have HF3 : Hid (Fr E w.heap.size v v w W3) := Lib.hid (by rw [← hW3]; exact (HF2.out.drewN n0).drewN n3)
  have A2 : Hid (Lcl E v kvs q2 (.cells #[.int .u8 0, .int .i64 (aa : Int), .string tx, .int .i64 0, .slice none 0 0] 231) W3) := Lib.hid (by rw [← hW3]; exact ⟨M2.out.loc, M2.out.lt, M2.out.obj⟩)
  have A0 : Hid (Lcl E v kvs w.heap.size (.cells #[.int .u8 0, .int .i64 0, .string ⟨#[]⟩, .int .i64 0, .slice none 0 0] 231) W3) := Lib.hid (by rw [← hW3]; exact ⟨M0.out.loc, M0.out.lt, M0.out.obj⟩)
  have hs3 : W2.heap.size = W3.heap.size := by rw [← hW3]; rfl
  rw [hW3]
  clear hW3
  have m0 := A2.out.cell 0 rfl
  have m1 := A2.out.cell 1 rfl
  have m2 := A2.out.cell 2 rfl
  have m3 := A2.out.cell 3 rfl
  have m4 := A2.out.cell 4 rfl
  have mz := A2.out.fz
  have B2 := Lib.hid ((A2.out.set 0 (.int .u8 26)).set 2 (.string ⟨#[]⟩))
  have B0 := Lib.hid ((A0.out.grown (grownBy_set _ ⟨q2, 0, none⟩ (.int .u8 26)) (fun e => n20 (Option.some.inj e))).grown (grownBy_set _ ⟨q2, 2, none⟩ (.string ⟨#[]⟩)) (fun e => n20 (Option.some.inj e)))
  have BS := Lib.hid ((HS3.out.set (a := ⟨q2, 0, none⟩) A2.out.loc (.int .u8 26)).set (a := ⟨q2, 2, none⟩) A2.out.loc (.string ⟨#[]⟩))
  have BF := Lib.hid ((HF3.out.set (by first | omega | (simp [size_set]; omega)) (a := ⟨q2, 0, none⟩) (show w.heap.size ≤ q2 by omega) (.int .u8 26)).set (by first | omega | (simp [size_set]; omega)) (a := ⟨q2, 2, none⟩) (show w.heap.size ≤ q2 by omega) (.string ⟨#[]⟩))
  have C3 := Lib.hid (in_ok BS.out HD.out.2)
  go_wp2_with fail
  (with_reducible refine C3.out.mono ?_)
  rintro x w4 ⟨rfl, hk⟩
  have D2 := Lib.hid (B2.out.on0 hk.fr)
  have D0 := Lib.hid (B0.out.on0 hk.fr)
  have DF := Lib.hid (BF.out.trans (hk.fr.mono (show w.heap.size ≤ ((W3.setCell ⟨q2, 0, none⟩ (.int .u8 26)).setCell ⟨q2, 2, none⟩ (.string ⟨#[]⟩)).heap.size by first | omega | (simp [size_set]; omega))))
  have hs4 : W3.heap.size ≤ w4.heap.size := by have := hk.fr.size; simpa [size_set] using this
  obtain ⟨_, c1, _, _, _⟩ := hk.rs.rowCells
  have cz := hk.rs.fz
  have hki := hk.rs.inc HL.out
  have HA := Lib.hid (At.of_ok (d := d + 1) () hki.rs)
  have E2 := Lib.hid (D2.out.setB 1 (.int .i64 ((i : Int) + 1)))
  have E0 := Lib.hid (D0.out.setB 1 (.int .i64 ((i : Int) + 1)))
  have EF := Lib.hid (DF.out.trans (hki.fr.mono (show w.heap.size ≤ w4.heap.size by omega)))
  have C5 := Lib.hid (HXX.out E v kvs md _ Unit _ HA.out)
  have hs5 : (w4.setCell ⟨E.b, 1, none⟩ (.int .i64 ((i : Int) + 1))).heap.size = w4.heap.size := size_set _ _ _
  clear C3 hk hki m0 m1 m2 m3 m4 mz
  go_wp2_with fail
  (with_reducible refine C5.out.mono ?_)
  rintro x w6 ⟨ev, rfl, ⟨k6, a6, t6, m6, p6, l6, c6, rfl⟩, ha6, hf6, hx6⟩
  have G2 := Lib.hid (E2.out.on0 hf6)
  have G0 := Lib.hid (E0.out.on0 hf6)
  have hs6 : w4.heap.size ≤ w6.heap.size := by have := hf6.size; rwa [hs5] at this
  have GF := Lib.hid (EF.out.trans (hf6.mono (show w.heap.size ≤ _ by rw [hs5]; omega)))
  have GA := Lib.hid ha6
  have GX := Lib.hid hx6
  clear C5 ha6 hf6 hx6 c1 cz
  have hbs := bs_one w6 (.int .u8 k6) (.int .i64 a6) (.string t6) (.int .i64 m6) (.slice p6 l6 c6)
  rename_i Kx ax
  refine ax _ _ ?_
  refine wpList_bs rfl 229 1 #[(0, .tmp 94)] rfl #[(0, .agg #[.int .u8 k6, .int .i64 a6, .string t6, .int .i64 m6, .slice p6 l6 c6])] (by simp [Act.eval, Act.put]) _ _ hbs ?_
  clear hbs ax
  have P2 := Lib.hid (G2.out.alloc (.cells #[.int .u8 k6, .int .i64 a6, .string t6, .int .i64 m6, .slice p6 l6 c6] 231))
  have P0 := Lib.hid (G0.out.alloc (.cells #[.int .u8 k6, .int .i64 a6, .string t6, .int .i64 m6, .slice p6 l6 c6] 231))
  have PA := Lib.hid (GA.out.alloc (.cells #[.int .u8 k6, .int .i64 a6, .string t6, .int .i64 m6, .slice p6 l6 c6] 231))
  have PF := Lib.hid (GF.out.alloc (by omega) (.cells #[.int .u8 k6, .int .i64 a6, .string t6, .int .i64 m6, .slice p6 l6 c6] 231))
  have PX := Lib.hid (fun y l' e => (GX.out y l' e).alloc (.cells #[.int .u8 k6, .int .i64 a6, .string t6, .int .i64 m6, .slice p6 l6 c6] 231))
  have KL := Lib.hid GA.out.fresh
  have PQ : Hid ((w6.alloc (.cells #[.int .u8 k6, .int .i64 a6, .string t6, .int .i64 m6, .slice p6 l6 c6] 231)).heap[w6.heap.size]? = some (.cells #[.int .u8 k6, .int .i64 a6, .string t6, .int .i64 m6, .slice p6 l6 c6] 231 (0, 0))) := Lib.hid (heap_alloc_new w6 (.cells #[.int .u8 k6, .int .i64 a6, .string t6, .int .i64 m6, .slice p6 l6 c6] 231))
  have hs7 : (w6.alloc (.cells #[.int .u8 k6, .int .i64 a6, .string t6, .int .i64 m6, .slice p6 l6 c6] 231)).heap.size = w6.heap.size + 1 := by simp
  obtain ⟨q6, hq6⟩ : ∃ q6, w6.heap.size = q6 := ⟨_, rfl⟩
  rw [hq6] at hs7 hs6 KL PQ ⊢
  clear hq6
  generalize (w6.alloc (.cells #[.int .u8 k6, .int .i64 a6, .string t6, .int .i64 m6, .slice p6 l6 c6] 231)) = w7 at *
  clear G2 G0 GA GF GX
  have m0 := P2.out.cell 0 rfl
  have m1 := P2.out.cell 1 rfl
  have m2 := P2.out.cell 2 rfl
  have m3 := P2.out.cell 3 rfl
  have m4 := P2.out.cell 4 rfl
  have mz := P2.out.fz
  have r0 := P0.out.cell 0 rfl
  have r1 := P0.out.cell 1 rfl
  have r2 := P0.out.cell 2 rfl
  have r3 := P0.out.cell 3 rfl
  have r4 := P0.out.cell 4 rfl
  have rz := P0.out.fz
  have n2x : q2 ≠ q6 := by omega
  have n0x : w.heap.size ≠ q6 := by omega
  have KA := Lib.hid (PA.out.set (a := ⟨q2, 4, none⟩) P2.out.loc (.slice (some ⟨q6, 0, none⟩) 1 1))
  have K0 := Lib.hid (P0.out.grown (grownBy_set _ ⟨q2, 4, none⟩ (.slice (some ⟨q6, 0, none⟩) 1 1)) (fun e => n20 (Option.some.inj e)))
  have KF := Lib.hid (PF.out.set (by first | omega | (simp [size_set]; omega)) (a := ⟨q2, 4, none⟩) (show w.heap.size ≤ q2 by omega) (.slice (some ⟨q6, 0, none⟩) 1 1))
  have KX := Lib.hid (fun y l' e => (PX.out y l' e).set (q := ⟨q2, 4, none⟩) (show q2 < _ by rw [hs5]; omega) (.slice (some ⟨q6, 0, none⟩) 1 1))
  have KQ : Hid (((w7.setCell ⟨q2, 4, none⟩ (.slice (some ⟨q6, 0, none⟩) 1 1))).heap[q6]? = some (.cells #[.int .u8 k6, .int .i64 a6, .string t6, .int .i64 m6, .slice p6 l6 c6] 231 (0, 0))) := Lib.hid ((Below.heap_setCell w7 ⟨q2, 4, none⟩ (.slice (some ⟨q6, 0, none⟩) 1 1) q6 (fun e => n2x e.symm)).trans PQ.out)
  obtain ⟨d5, _, hd5, c2p, czp, ha, hf⟩ := KA.out.deep HD.out.1
  have c2 := (World.cell?_of_block (w := w7) (a := ⟨E.b, 2, none⟩) (Below.heap_setCell w7 ⟨q2, 4, none⟩ (.slice (some ⟨q6, 0, none⟩) 1 1) E.b nb2)).symm.trans c2p
  have cz := (World.frozen?_of_block (w := w7) (a := ⟨E.b, 2, none⟩) (Below.heap_setCell w7 ⟨q2, 4, none⟩ (.slice (some ⟨q6, 0, none⟩) 1 1) E.b nb2)).symm.trans czp
  clear c2p czp
  have hs8 : (w7.setCell ⟨q2, 4, none⟩ (.slice (some ⟨q6, 0, none⟩) 1 1)).heap.size = w7.heap.size := size_set _ _ _
  have hw : IntKind.i64.wrap (d5 - 1) = d5 - 1 := IntWalk.i64_in _ (by have := HD.out.1; omega)
  have l63 : -9223372036854775808 ≤ d5 - 1 := by have := HD.out.1; omega
  have u63 : d5 - 1 ≤ 9223372036854775807 := by omega
  have HA9 := Lib.hid ha
  have F0 := Lib.hid (K0.out.setB 2 (.int .i64 (d5 - 1)))
  have FF := Lib.hid (KF.out.trans (hf.mono (show w.heap.size ≤ (w7.setCell ⟨q2, 4, none⟩ (.slice (some ⟨q6, 0, none⟩) 1 1)).heap.size by omega)))
  have FX := Lib.hid (fun y l' e => (KX.out y l' e).set (q := ⟨E.b, 2, none⟩) (show E.b < _ by rw [hs5]; omega) (.int .i64 (d5 - 1)))
  clear ha hf
  have R := Lib.hid ((F0.out).set5 (.int .u8 26) (.int .i64 (aa : Int)) (.string ⟨#[]⟩) (.int .i64 0) (.slice (some ⟨q6, 0, none⟩) 1 1))
  have RR := Lib.hid (((HA9.out.mapv fun a => nodeA 26 aa [a])).set5 M0.out.loc (.int .u8 26) (.int .i64 (aa : Int)) (.string ⟨#[]⟩) (.int .i64 0) (.slice (some ⟨q6, 0, none⟩) 1 1))
  have RF := Lib.hid ((FF.out).set5 (by first | omega | (simp [size_set]; omega)) (q := w.heap.size) (Nat.le_refl _) (.int .u8 26) (.int .i64 (aa : Int)) (.string ⟨#[]⟩) (.int .i64 0) (.slice (some ⟨q6, 0, none⟩) 1 1))
  have RX := Lib.hid (fun y l' e => (FX.out y l' e).set5 (q := w.heap.size) (show w.heap.size < _ by rw [hs5]; omega) (.int .u8 26) (.int .i64 (aa : Int)) (.string ⟨#[]⟩) (.int .i64 0) (.slice (some ⟨q6, 0, none⟩) 1 1))
  have hqb : q6 ≠ E.b := by omega
  have RQ : Hid ((((((((w7.setCell ⟨q2, 4, none⟩ (.slice (some ⟨q6, 0, none⟩) 1 1)).setCell ⟨E.b, 2, none⟩ (.int .i64 (d5 - 1))).setCell ⟨w.heap.size, 0, none⟩ (.int .u8 26)).setCell ⟨w.heap.size, 1, none⟩ (.int .i64 (aa : Int))).setCell ⟨w.heap.size, 2, none⟩ (.string ⟨#[]⟩)).setCell ⟨w.heap.size, 3, none⟩ (.int .i64 0)).setCell ⟨w.heap.size, 4, none⟩ (.slice (some ⟨q6, 0, none⟩) 1 1)).heap[q6]? = some (.cells #[.int .u8 k6, .int .i64 a6, .string t6, .int .i64 m6, .slice p6 l6 c6] 231 (0, 0))) := Lib.hid (by
    rw [heap_set5 n0x, Below.heap_setCell _ ⟨E.b, 2, none⟩ _ q6 hqb]
    exact KQ.out)
  have RS : Hid (q6 < (((((((w7.setCell ⟨q2, 4, none⟩ (.slice (some ⟨q6, 0, none⟩) 1 1)).setCell ⟨E.b, 2, none⟩ (.int .i64 (d5 - 1))).setCell ⟨w.heap.size, 0, none⟩ (.int .u8 26)).setCell ⟨w.heap.size, 1, none⟩ (.int .i64 (aa : Int))).setCell ⟨w.heap.size, 2, none⟩ (.string ⟨#[]⟩)).setCell ⟨w.heap.size, 3, none⟩ (.int .i64 0)).setCell ⟨w.heap.size, 4, none⟩ (.slice (some ⟨q6, 0, none⟩) 1 1)).heap.size) := Lib.hid (by simp only [size_set]; omega)
  go_wp2_with fail
  generalize (((((((w7.setCell ⟨q2, 4, none⟩ (.slice (some ⟨q6, 0, none⟩) 1 1)).setCell ⟨E.b, 2, none⟩ (.int .i64 (d5 - 1))).setCell ⟨w.heap.size, 0, none⟩ (.int .u8 26)).setCell ⟨w.heap.size, 1, none⟩ (.int .i64 (aa : Int))).setCell ⟨w.heap.size, 2, none⟩ (.string ⟨#[]⟩)).setCell ⟨w.heap.size, 3, none⟩ (.int .i64 0)).setCell ⟨w.heap.size, 4, none⟩ (.slice (some ⟨q6, 0, none⟩) 1 1)) = Wz at *
  clear m0 m1 m2 m3 m4 mz r0 r1 r2 r3 r4 rz c2 cz
  have y0 := R.out.cell 0 rfl
  have y1 := R.out.cell 1 rfl
  have y2 := R.out.cell 2 rfl
  have y3 := R.out.cell 3 rfl
  have y4 := R.out.cell 4 rfl
  simp [bodyPost, results, Tryz.results229, go_sem, y0, y1, y2, y3, y4]
  have hat := HAT.out
  subst hat
  exact ⟨_, rfl, ⟨_, _, _, _, _, _, _, rfl⟩, RR.out, RF.out, fun y l' e => by
    obtain ⟨y1, e1, rfl⟩ := thenv_inv e
    have hx := RX.out y1 _ e1
    rw [hs5] at hx
    exact ExprV.node1 KL.out (show w.heap.size ≤ q6 by omega) RS.out RQ.out 26 aa none0 0 (hx.less (by omega))⟩
end
end Go.Proofs.YtpemghcafbedeaaGreatDoor.Rf
end
section
namespace Go.Proofs.YtpemghcafbedeaaGreatDoor.Rf
open Go.RowKit Par
theorem factor_x {r : Nat} {fac : Par Ast} {d : Int} (hd : d = 64 - (r : Int)) (hr : r ≤ 64) (hS : ∀ r', r = r' + 1 → HasX 209 (d + 1) (exprP fac) ∧ HasX 229 (d + 1) fac) : HasX 229 d (factorOf r fac) := by
  intro E v kvs md w α R h
  cases R with
  | err p c =>
    obtain ⟨i, d', g1, g2, g3, h⟩ := h
    refine (factor_err h g2).mono ?_
    rintro x w' ⟨ev, rfl, hs, hk⟩
    exact ⟨ev, rfl, hs, ⟨i, d', g1, g2, g3, hk.rs⟩, hk.fr, fun y l' e => by simp [then'] at e⟩
  | ok a l =>
    obtain ⟨i, rfl, h1⟩ := h.ok_of
    simp only [then']
    by_cases k1 : (RT E i).kind = 1
    · rw [factor_name k1]; exact factor_kname h1 k1
    by_cases k2 : (RT E i).kind = 2
    · rw [factor_num k2]; exact factor_knum h1 k2
    by_cases t1 : (RT E i).txt = ⟨#[40]⟩
    · cases r with
      | zero =>
        obtain rfl : d = 64 := by simpa using hd
        rw [factor_open0 k1 k2 t1]; exact factor_kopen0 h1 k1 k2 t1
      | succ r => rw [factor_open k1 k2 t1]; exact factor_kopen (hS r rfl).1 (by omega) h1 k1 k2 t1
    by_cases t2 : (RT E i).txt = ⟨#[45]⟩
    · cases r with
      | zero =>
        obtain rfl : d = 64 := by simpa using hd
        rw [factor_neg0 k1 k2 t2]; exact factor_kneg0 h1 k1 k2 t2
      | succ r => rw [factor_neg k1 k2 t2]; exact factor_kneg (hS r rfl).2 (by omega) h1 k1 k2 t2 _ rfl
    · rw [factor_no k1 k2 t1 t2]; exact factor_kno h1 k1 k2 t1 t2
end Go.Proofs.YtpemghcafbedeaaGreatDoor.Rf
end
