import Derived.Test.YtbimjgklldchfaaDoorDiagH
import Derived.Test.YtbimjgklldchfaaDoorShelf
import Derived.Deep.RegionHeld3
namespace Go.Proofs.YtbimjgklldchfaaDoor
open Go.RowKit

/-- Itoa answers I of its number wherever S holds, and no old block turns. -/
def ItoaIs (I : Int → ByteArray) (S : World → Prop) : Prop :=
  (∀ (n : Int) (w : World), -9223372036854775808 ≤ n → n ≤ 9223372036854775807 → S w → Calls Tryd.prog 11 #[.int .i64 n] w fun e w' => e = .returned (.string (I n)) ∧ Below w.heap.size w w')
  ∧ (∀ n, (I n).size ≤ 24) ∧ (∀ w w', S w → Below w.heap.size w w' → S w')
set_option maxHeartbeats 4000000 in
theorem errno_text (I : Int → ByteArray) (S : World → Prop) (hI : ItoaIs I S) (n : Int) (w : World) (h0 : -9223372036854775808 ≤ n) (h1 : n ≤ 9223372036854775807) (hS : S w) :
    Calls Tryd.prog 12 #[.int .i64 n] w fun e w' => e = .returned (.string (⟨#[105, 110, 116, 101, 114, 108, 111, 99, 107, 58, 32, 101, 114, 114, 111, 114, 32]⟩ ++ I n)) ∧ Below w.heap.size w w' := by
  have H := hI.1 n w h0 h1 hS
  have hz := hI.2.1 n
  clear hI
  generalize I n = s at *
  go_enter Tryd.func12, Tryd.ntmps12
  go_wp2_with fail
  (with_reducible refine H.mono ?_)
  rintro e w1 ⟨rfl, hb⟩
  go_wp2
  go_ret
  exact ⟨rfl, hb⟩

def ErrKeep (S : World → Prop) (B : Nat) (l c n : Int) (w0 w : World) : Prop := S w ∧ Below w0.heap.size w0 w ∧ w.cell? ⟨B, 1, none⟩ = some (.int .i64 l) ∧ w.cell? ⟨B, 2, none⟩ = some (.int .i64 c) ∧ w.cell? ⟨B, 3, none⟩ = some (.int .i64 n)
theorem ErrKeep.on {I : Int → ByteArray} {S : World → Prop} (hI : ItoaIs I S) {B : Nat} {l c n : Int} {w0 w w' : World} (h : ErrKeep S B l c n w0 w) (hb : Below w.heap.size w w') : ErrKeep S B l c n w0 w' := by
  obtain ⟨h1, h2, h3, h4, h5⟩ := h
  exact ⟨hI.2.2 w w' h1 hb, h2.trans (hb.mono h2.size), by rw [hb.cell (p := ⟨B, 1, none⟩) (cell_lt h3)]; exact h3, by rw [hb.cell (p := ⟨B, 2, none⟩) (cell_lt h4)]; exact h4, by rw [hb.cell (p := ⟨B, 3, none⟩) (cell_lt h5)]; exact h5⟩
theorem ErrKeep.below {S : World → Prop} {B : Nat} {l c n : Int} {w0 w : World} (h : ErrKeep S B l c n w0 w) : Below w0.heap.size w0 w := h.2.1
/-- the text of an error at a place -/
def errT (I : Int → ByteArray) (l c n : Int) : ByteArray := (⟨#[108, 105, 110, 101, 32]⟩ : ByteArray) ++ I l ++ ⟨#[44, 32, 99, 111, 108, 117, 109, 110, 32]⟩ ++ I c ++ ⟨#[58, 32]⟩ ++ (⟨#[105, 110, 116, 101, 114, 108, 111, 99, 107, 58, 32, 101, 114, 114, 111, 114, 32]⟩ ++ I n)
theorem itoa_keep (I : Int → ByteArray) (S : World → Prop) (hI : ItoaIs I S) (B : Nat) (l c n : Int) (w0 : World) (m : Int) (w : World) (h0 : -9223372036854775808 ≤ m) (h1 : m ≤ 9223372036854775807) (hk : ErrKeep S B l c n w0 w) :
    Calls Tryd.prog 11 #[.int .i64 m] w fun e w' => e = .returned (.string (I m)) ∧ w'.cell? ⟨B, 1, none⟩ = some (.int .i64 l) ∧ w'.cell? ⟨B, 2, none⟩ = some (.int .i64 c) ∧ w'.cell? ⟨B, 3, none⟩ = some (.int .i64 n) ∧ ErrKeep S B l c n w0 w' :=
  (hI.1 m w h0 h1 hk.1).mono fun e w' ⟨he, hb⟩ => by
    have h := hk.on hI hb
    exact ⟨he, h.2.2.1, h.2.2.2.1, h.2.2.2.2, h⟩
theorem errno_keep (I : Int → ByteArray) (S : World → Prop) (hI : ItoaIs I S) (B : Nat) (l c n : Int) (w0 : World) (m : Int) (w : World) (h0 : -9223372036854775808 ≤ m) (h1 : m ≤ 9223372036854775807) (hk : ErrKeep S B l c n w0 w) :
    Calls Tryd.prog 12 #[.int .i64 m] w fun e w' => e = .returned (.string (⟨#[105, 110, 116, 101, 114, 108, 111, 99, 107, 58, 32, 101, 114, 114, 111, 114, 32]⟩ ++ I m)) ∧ w'.cell? ⟨B, 1, none⟩ = some (.int .i64 l) ∧ w'.cell? ⟨B, 2, none⟩ = some (.int .i64 c) ∧ w'.cell? ⟨B, 3, none⟩ = some (.int .i64 n) ∧ ErrKeep S B l c n w0 w' :=
  (errno_text I S hI m w h0 h1 hk.1).mono fun e w' ⟨he, hb⟩ => by
    have h := hk.on hI hb
    exact ⟨he, h.2.2.1, h.2.2.2.1, h.2.2.2.2, h⟩
set_option maxRecDepth 100000 in
set_option maxHeartbeats 4000000 in
theorem err_text (I : Int → ByteArray) (S : World → Prop) (hI : ItoaIs I S) (B : Nat) (l c n : Int) (w : World) (hS : S w) (a0 : -9223372036854775808 ≤ l) (a1 : l ≤ 9223372036854775807) (b0 : -9223372036854775808 ≤ c) (b1 : c ≤ 9223372036854775807) (c0 : -9223372036854775808 ≤ n) (c1 : n ≤ 9223372036854775807)
    (h1 : w.cell? ⟨B, 1, none⟩ = some (.int .i64 l)) (h2 : w.cell? ⟨B, 2, none⟩ = some (.int .i64 c)) (h3 : w.cell? ⟨B, 3, none⟩ = some (.int .i64 n)) :
    Calls Tryd.prog 72 #[.pointer (some ⟨B, 0, none⟩)] w fun e w' => e = .returned (.string (errT I l c n)) ∧ Below w.heap.size w w' := by
  have hk : ErrKeep S B l c n w w := ⟨hS, Below.refl _ _, h1, h2, h3⟩
  have hk0 : ErrKeep S B l c n w w.drew := hk.on hI (Below.refl _ _).drew
  have z1 := hI.2.1 l
  have z2 := hI.2.1 c
  have z3 := hI.2.1 n
  have K1 := itoa_keep I S hI B l c n w
  have K2 := errno_keep I S hI B l c n w
  unfold errT
  clear hI hk hS
  generalize hl : I l = sl at *
  generalize hc : I c = sc at *
  generalize hn : I n = sn at *
  have HL := Lib.hid hl
  have HC := Lib.hid hc
  have HN := Lib.hid hn
  have KL := Lib.hid (K1 l)
  have KC := Lib.hid (K1 c)
  have KN := Lib.hid (K2 n)
  rw [hl] at KL
  rw [hc] at KC
  rw [hn] at KN
  clear hl hc hn K1 K2
  have A1 : ¬ 9223372036854775807 < 5 + sl.size := by omega
  have A2 : ¬ 9223372036854775807 < 5 + sl.size + 9 := by omega
  have A3 : ¬ 9223372036854775807 < 5 + sl.size + 9 + sc.size := by omega
  have A4 : ¬ 9223372036854775807 < 5 + sl.size + 9 + sc.size + 2 := by omega
  have A5 : ¬ 9223372036854775807 < 5 + sl.size + 9 + sc.size + 2 + (17 + sn.size) := by omega
  go_enter Tryd.func72, Tryd.ntmps72
  go_wp2_with fail
  go_region_held3 (fun w' => w'.cell? ⟨B, 1, none⟩ = some (.int .i64 l) ∧ w'.cell? ⟨B, 2, none⟩ = some (.int .i64 c) ∧ w'.cell? ⟨B, 3, none⟩ = some (.int .i64 n) ∧ ErrKeep S B l c n w w') (go_keep)
    (first
      | (go_at_call_of 11 (Value.int IntKind.i64 l); (with_reducible refine (KL.out _ a0 a1 ?_).mono ?_); (assumption); rintro e w' ⟨rfl, q1, q2, q3, q4⟩)
      | (go_at_call_of 11 (Value.int IntKind.i64 c); (with_reducible refine (KC.out _ b0 b1 ?_).mono ?_); (assumption); rintro e w' ⟨rfl, q1, q2, q3, q4⟩)
      | (go_at_call 12; (with_reducible refine (KN.out _ c0 c1 ?_).mono ?_); (assumption); rintro e w' ⟨rfl, q1, q2, q3, q4⟩))
  all_goals go_wp2
  all_goals go_ret
  all_goals
    refine ⟨rfl, ?_⟩
    exact ErrKeep.below (S := S) (B := B) (l := l) (c := c) (n := n) (by assumption)
end Go.Proofs.YtbimjgklldchfaaDoor
