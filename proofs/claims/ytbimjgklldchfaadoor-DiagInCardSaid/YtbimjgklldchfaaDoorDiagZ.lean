/- The text of an error within others. -/
import Derived.Test.YtbimjgklldchfaaDoorDiagW
import Derived.Test.YtbimjgklldchfaaDoorDiagY
namespace Go.Proofs.YtbimjgklldchfaaDoor
open Go.RowKit Go.Shelf

theorem textDone (p : Addr) (w : World) :
    CallsD Tryd.prog 80 #[.pointer (some p)] .returning w fun e u' w' => e = .returned (.tuple #[]) ∧ u' = .returning ∧ w' = w := by
  refine callsD_of_wpS Tryd.func80 rfl fun c₀ cs hu => ?_
  apply wpS_seq
  apply wpS_region
  simp [wpOpsS, go_sem, recoverD, hu, Tryd.ntmps80, Exit.thenS]
  refine wpS_cond (t := false) (by simp [Act.eval, Array.replicate]) ?_
  simp only [Bool.false_eq_true, if_false]
  refine wpS_of_wp (wp_skip ?_)
  cases c₀
  simp_all [bodyPostS, results, Tryd.results80]
set_option maxHeartbeats 4000000 in
set_option maxRecDepth 1000000 in
theorem text_of (I : Int → ByteArray) (S : World → Prop) (hI : ItoaIs I S) (B : Nat) (l c n : Int) (w : World) (a0 : -9223372036854775808 ≤ l) (a1 : l ≤ 9223372036854775807) (b0 : -9223372036854775808 ≤ c) (b1 : c ≤ 9223372036854775807) (c0 : -9223372036854775808 ≤ n) (c1 : n ≤ 9223372036854775807)
    (hk : ErrKeep S B l c n w w) :
    Calls Tryd.prog 77 #[.iface 45 (.pointer (some ⟨B, 0, none⟩))] w fun e w' => e = .returned (.string (errT I l c n)) ∧ Below w.heap.size w w' := by
  have hmf : ∀ (fn : Fn) (first cap : Array Value) (w : World), (Instr.makeFunc fn first cap).run Tryd.prog w = .ok (.func fn first cap) w := fun _ _ _ _ => rfl
  have b1' : Below w.heap.size w (w.alloc (.cells #[.string ⟨#[]⟩] 9)) := (Below.refl _ _).alloc (Nat.le_refl _) _
  have K1 := hk.on hI b1'
  have H := err_text I S hI B l c n _ K1.st a0 a1 b0 b1 c0 c1 K1.c1 K1.c2 K1.c3
  have HB := Lib.hid b1'
  generalize errT I l c n = s at *
  clear hk K1 b1' hI
  have H' := H.mono (R' := fun ev w' => ev = .returned (.string s) ∧ Below w.heap.size w w' ∧ w'.cell? ⟨w.heap.size, 0, none⟩ = some (.string ⟨#[]⟩) ∧ w'.frozen? ⟨w.heap.size, 0, none⟩ = false) (by
    rintro ev w' ⟨rfl, hb⟩
    simp only [World.size_alloc] at hb
    refine ⟨rfl, HB.out.trans (hb.mono (by omega)), ?_, ?_⟩
    · rw [hb.cell (p := ⟨w.heap.size, 0, none⟩) (by simp)]; simp
    · rw [hb.frozen (p := ⟨w.heap.size, 0, none⟩) (by simp)]; simp)
  clear H
  go_enter_defers Tryd.func77, Tryd.ntmps77
  go_wp2_with (go_at_call 72; (with_reducible refine H'.mono ?_); rintro e' w' ⟨rfl, hb, q1, q2⟩)
  refine leaves_cons (f := 80) (args := #[.pointer (some ⟨w.heap.size, 0, none⟩)]) (by simp) (by simp [go_sem]) ?_
  refine (textDone ⟨w.heap.size, 0, none⟩ _).mono ?_
  rintro e u' w'' ⟨rfl, rfl, rfl⟩
  simp [Leaves, settle, results, Tryd.results77, go_sem, q1]
  exact hb.setCell (Nat.le_refl w.heap.size) _

/-- in the world W block K is a 'within', however deep, of the error in block E, whose text is T: its text is s -/
inductive Wrap (W : World) (E : Nat) (T : ByteArray) : Nat → ByteArray → Nat → Prop
  | last (K : Nat) (what : ByteArray) : W.cell? ⟨K, 0, none⟩ = some (.string what) → W.cell? ⟨K, 1, none⟩ = some (.iface 45 (.pointer (some ⟨E, 0, none⟩))) → Wrap W E T K (what ++ ⟨#[58, 32]⟩ ++ T) 0
  | more (K K' : Nat) (what s : ByteArray) (n : Nat) : W.cell? ⟨K, 0, none⟩ = some (.string what) → W.cell? ⟨K, 1, none⟩ = some (.iface 54 (.pointer (some ⟨K', 0, none⟩))) → Wrap W E T K' s n → Wrap W E T K (what ++ ⟨#[58, 32]⟩ ++ s) (n + 1)
theorem Wrap.path {W : World} {E : Nat} {T : ByteArray} {K : Nat} {s : ByteArray} {n : Nat} (h : Wrap W E T K s n) : Path W false (.iface 45 (.pointer (some ⟨E, 0, none⟩))) (.iface 54 (.pointer (some ⟨K, 0, none⟩))) (n + 1) := by
  induction h with
  | last K what h0 h1 => exact .inn K 45 _ 0 h1 .here
  | more K K' what s n h0 h1 _ ih => exact .inn K 54 _ (n + 1) h1 ih
theorem Wrap.onto {W W' : World} {E : Nat} {T : ByteArray} {K : Nat} {s : ByteArray} {n : Nat} (h : Wrap W E T K s n) (hb : Below W.heap.size W W') : Wrap W' E T K s n := by
  induction h with
  | last K what h0 h1 => exact .last K what (by rw [hb.cell (p := ⟨K, 0, none⟩) (cell_lt h0)]; exact h0) (by rw [hb.cell (p := ⟨K, 1, none⟩) (cell_lt h1)]; exact h1)
  | more K K' what s n h0 h1 _ ih => exact .more K K' what s n (by rw [hb.cell (p := ⟨K, 0, none⟩) (cell_lt h0)]; exact h0) (by rw [hb.cell (p := ⟨K, 1, none⟩) (cell_lt h1)]; exact h1) ih
theorem sizeDD : (⟨#[58, 32]⟩ : ByteArray).size = 2 := rfl
theorem dataApp (a b : ByteArray) : (a ++ b).data.toList = a.data.toList ++ b.data.toList := by simp
theorem as54_54 (v : Value) (w : World) : (Instr.typeAssert (.iface 54 v) 26 54 true).run Tryd.prog w = .ok (.tuple #[v, .bool true]) w := by kernel_rfl
theorem as45_54 (v : Value) (w : World) : (Instr.typeAssert (.iface 45 v) 26 54 true).run Tryd.prog w = .ok (.tuple #[.pointer none, .bool false]) w := by kernel_rfl
set_option maxHeartbeats 4000000 in
set_option maxRecDepth 1000000 in
theorem within_text (I : Int → ByteArray) (S : World → Prop) (hI : ItoaIs I S) (E : Nat) (l c n : Int) (w : World) (a0 : -9223372036854775808 ≤ l) (a1 : l ≤ 9223372036854775807) (b0 : -9223372036854775808 ≤ c) (b1 : c ≤ 9223372036854775807) (c0 : -9223372036854775808 ≤ n) (c1 : n ≤ 9223372036854775807)
    (hk : ErrKeep S E l c n w w) (K0 d0 : Nat) (s0 : ByteArray) (hs0 : s0.size ≤ 100000) (hW : Wrap w E (errT I l c n) K0 s0 d0) :
    Calls Tryd.prog 74 #[.pointer (some ⟨K0, 0, none⟩)] w fun e w' => e = .returned (.string s0) ∧ Below w.heap.size w w' := by
  have s54 := as54_54
  have s45 := as45_54
  have HT := Lib.hid (fun (W : World) (h : ErrKeep S E l c n W W) => text_of I S hI E l c n W a0 a1 b0 b1 c0 c1 h)
  have HK := Lib.hid hk
  have HI := Lib.hid hI
  have HW := Lib.hid hW
  clear hk hI hW
  generalize errT I l c n = T at *
  go_enter Tryd.func74, Tryd.ntmps74
  go_wp2
  go_loopw [0] (fun v wr => ∃ (K d : Nat) (acc : List UInt8) (s : ByteArray), v = .pointer (some ⟨K, 0, none⟩) ∧ Hid (Wrap w E T K s d) ∧ Hid (Lib.IsBuilderF 124 5 w.heap.size w.heap.size (Lib.byteCells acc) wr) ∧ Hid (Below w.heap.size w wr) ∧ Hid (acc ++ s.data.toList = s0.data.toList)) (fun v _ => far w false (.iface 45 (.pointer (some ⟨E, 0, none⟩))) (.iface 54 v))
  case atStart => exact ⟨K0, d0, [], s0, rfl, HW, Lib.hid (Lib.IsBuilderF.of (Lib.fresh_isBuilder 124 5 w)), Lib.hid ((Below.refl _ w).alloc (Nat.le_refl _) _), Lib.hid rfl⟩
  case round =>
    obtain ⟨K, d, acc, s, rfl, HC, HBd, HBl, HA⟩ := hrel
    rename World => W0
    clear HW
    have hBw : w.heap.size ≤ W0.heap.size := HBl.out.size
    have key : ∀ (what s' : ByteArray), s = what ++ ⟨#[58, 32]⟩ ++ s' → acc.length + what.size + 2 + s'.size ≤ 100000 ∧ (acc ++ what.data.toList ++ [58, 32]) ++ s'.data.toList = s0.data.toList := by
      intro what s' e
      have h := HA.out
      rw [e, dataApp, dataApp] at h
      have hl := congrArg List.length h
      have hz : s0.data.toList.length = s0.size := rfl
      have hz1 : what.data.toList.length = what.size := rfl
      have hz2 : s'.data.toList.length = s'.size := rfl
      simp only [List.length_append, hz, hz1, hz2, List.length_cons, List.length_nil] at hl
      exact ⟨by omega, by rw [← h]; simp⟩
    have hC := HC.out
    cases hC with
    | last _ what h0 h1 =>
      obtain ⟨kz, ke⟩ := key what T rfl
      have KE := Lib.hid ke
      clear ke key HC HA
      have q0 : W0.cell? ⟨K, 0, none⟩ = some (.string what) := by rw [HBl.out.cell (p := ⟨K, 0, none⟩) (cell_lt h0)]; exact h0
      have H1 := Lib.hid h1
      clear h0 h1
      go_wp2_with fail
      (with_reducible refine (write_any w.heap.size w.heap.size _ what _ HBd.out (by rw [Lib.byteCells_length]; omega) hBw).mono ?_)
      rintro e1 W1 ⟨rfl, g1, hb1⟩
      have G1 : Hid (Lib.IsBuilderF 124 5 w.heap.size w.heap.size (Lib.byteCells acc ++ Lib.strCells what) W1) := Lib.hid (Or.inr g1)
      have L1 := Lib.hid (HBl.out.trans hb1)
      clear g1 hb1 q0 HBd HBl
      go_wp2_with fail
      (with_reducible refine (write_any w.heap.size w.heap.size _ ⟨#[58, 32]⟩ _ G1.out (by rw [List.length_append, Lib.byteCells_length, Lib.strCells_length, sizeDD]; omega) L1.out.size).mono ?_)
      rintro e2 W2 ⟨rfl, g2, hb2⟩
      have G2 : Hid (Lib.IsBuilderF 124 5 w.heap.size w.heap.size (Lib.byteCells acc ++ Lib.strCells what ++ Lib.strCells ⟨#[58, 32]⟩) W2) := Lib.hid (Or.inr g2)
      have L2 := Lib.hid (L1.out.trans hb2)
      have q1 : W2.cell? ⟨K, 1, none⟩ = some (.iface 45 (.pointer (some ⟨E, 0, none⟩))) := by rw [L2.out.cell (p := ⟨K, 1, none⟩) (cell_lt H1.out)]; exact H1.out
      have k2 := HK.out.on HI.out L2.out
      have TX := HT.out W2 ⟨k2.st, Below.refl _ _, k2.c1, k2.c2, k2.c3⟩
      clear g2 hb2 G1 L1 k2 hBw
      go_wp2_with fail
      (with_reducible refine TX.mono ?_)
      rintro e3 W3 ⟨rfl, hb3⟩
      have G3 := Lib.hid (isBuilder_old G2.out hb3)
      have L3 := Lib.hid (L2.out.trans (hb3.mono L2.out.size))
      clear TX hb3 G2 L2 q1
      go_wp2_with fail
      (with_reducible refine (write_any w.heap.size w.heap.size _ T _ G3.out (by rw [List.length_append, List.length_append, Lib.byteCells_length, Lib.strCells_length, Lib.strCells_length, sizeDD]; omega) L3.out.size).mono ?_)
      rintro e4 W4 ⟨rfl, g4, hb4⟩
      have G4 : Hid (Lib.IsBuilderF 124 5 w.heap.size w.heap.size (Lib.byteCells s0.data.toList) W4) := Lib.hid (by
        rw [← KE.out, Lib.byteCells_append, Lib.byteCells_append, Lib.byteCells_append]
        exact Or.inr g4)
      have L4 := Lib.hid (L3.out.trans hb4)
      clear g4 hb4 G3 L3 KE
      go_wp2_with fail
      (with_reducible refine (Tryd.Builder_String_any_k w.heap.size w.heap.size s0.data.toList _ G4.out L4.out.size).mono ?_)
      rintro e5 W5 ⟨rfl, _, hb5, _⟩
      have L5 := Lib.hid (L4.out.trans hb5)
      clear hb5 G4 L4
      go_wp2
      go_ret
      exact ⟨rfl, L5.out⟩
    | more _ K' what s' d' h0 h1 hq =>
      obtain ⟨kz, ke⟩ := key what s' rfl
      have KE := Lib.hid ke
      clear ke key HA
      have FK := Lib.hid (far_eq (by simp) (by simp) HC.out.path)
      have FK' := Lib.hid (far_eq (by simp) (by simp) hq.path)
      have HQ := Lib.hid hq
      have q0 : W0.cell? ⟨K, 0, none⟩ = some (.string what) := by rw [HBl.out.cell (p := ⟨K, 0, none⟩) (cell_lt h0)]; exact h0
      have H1 := Lib.hid h1
      clear h0 h1 HC hq
      go_wp2_with fail
      (with_reducible refine (write_any w.heap.size w.heap.size _ what _ HBd.out (by rw [Lib.byteCells_length]; omega) hBw).mono ?_)
      rintro e1 W1 ⟨rfl, g1, hb1⟩
      have G1 : Hid (Lib.IsBuilderF 124 5 w.heap.size w.heap.size (Lib.byteCells acc ++ Lib.strCells what) W1) := Lib.hid (Or.inr g1)
      have L1 := Lib.hid (HBl.out.trans hb1)
      clear g1 hb1 q0 HBd HBl
      go_wp2_with fail
      (with_reducible refine (write_any w.heap.size w.heap.size _ ⟨#[58, 32]⟩ _ G1.out (by rw [List.length_append, Lib.byteCells_length, Lib.strCells_length, sizeDD]; omega) L1.out.size).mono ?_)
      rintro e2 W2 ⟨rfl, g2, hb2⟩
      have G2 : Hid (Lib.IsBuilderF 124 5 w.heap.size w.heap.size (Lib.byteCells (acc ++ what.data.toList ++ [58, 32])) W2) := Lib.hid (by
        rw [Lib.byteCells_append, Lib.byteCells_append]
        exact Or.inr g2)
      have L2 := Lib.hid (L1.out.trans hb2)
      have q1 : W2.cell? ⟨K, 1, none⟩ = some (.iface 54 (.pointer (some ⟨K', 0, none⟩))) := by rw [L2.out.cell (p := ⟨K, 1, none⟩) (cell_lt H1.out)]; exact H1.out
      clear g2 hb2 G1 L1
      go_wp2
      go_roundw
      case rel => exact ⟨K', d', acc ++ what.data.toList ++ [58, 32], s', rfl, HQ, G2, L2, KE⟩
      case measure => rw [FK.out, FK'.out]; omega
end Go.Proofs.YtbimjgklldchfaaDoor
