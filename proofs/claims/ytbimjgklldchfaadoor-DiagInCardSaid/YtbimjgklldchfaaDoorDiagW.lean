import Derived.Test.YtbimjgklldchfaaDoorDiagU
import Derived.Test.YtbimjgklldchfaaDoorDiagV
namespace Go.Proofs.YtbimjgklldchfaaDoor
open Go.RowKit

theorem ItoaIs.call {I : Int → ByteArray} {S : World → Prop} (h : ItoaIs I S) (n : Int) (w : World) (h0 : -9223372036854775808 ≤ n) (h1 : n ≤ 9223372036854775807) (hS : S w) : Calls Tryd.prog 11 #[.int .i64 n] w fun e w' => e = .returned (.string (I n)) ∧ Below w.heap.size w w' := h.1 n w h0 h1 hS
theorem ErrKeep.st {S : World → Prop} {B : Nat} {l c n : Int} {w0 w : World} (h : ErrKeep S B l c n w0 w) : S w := h.1
theorem ErrKeep.c1 {S : World → Prop} {B : Nat} {l c n : Int} {w0 w : World} (h : ErrKeep S B l c n w0 w) : w.cell? ⟨B, 1, none⟩ = some (.int .i64 l) := h.2.2.1
theorem ErrKeep.c2 {S : World → Prop} {B : Nat} {l c n : Int} {w0 w : World} (h : ErrKeep S B l c n w0 w) : w.cell? ⟨B, 2, none⟩ = some (.int .i64 c) := h.2.2.2.1
theorem ErrKeep.c3 {S : World → Prop} {B : Nat} {l c n : Int} {w0 w : World} (h : ErrKeep S B l c n w0 w) : w.cell? ⟨B, 3, none⟩ = some (.int .i64 n) := h.2.2.2.2
set_option maxHeartbeats 4000000 in
set_option maxRecDepth 1000000 in
theorem new_great (p : Option Addr) (len c : Nat) (a n : Int) (w : World) (hg : ET w) (hl : 500 < len) :
    Calls Tryd.prog 3 #[.slice p len c, .int .i64 a, .int .i64 n] w fun e w' => e = .returned (.bool true) ∧ Below w.heap.size w w' := by
  have HW := works w hg
  clear hg
  go_enter Tryd.func3, Tryd.ntmps3
  go_wp2_with fail
  (with_reducible refine HW.mono ?_)
  rintro e1 w1 ⟨rfl, hb⟩
  have B := Lib.hid hb
  clear hb
  go_wp2
  go_ret
  exact ⟨rfl, B.out⟩
set_option maxHeartbeats 4000000 in
set_option maxRecDepth 1000000 in
theorem new_none_walk (p : Option Addr) (len c : Nat) (a : Int) (w : World) (hg : ET w) (hl : len ≤ 500) :
    Calls Tryd.prog 3 #[.slice p len c, .int .i64 a, .int .i64 0] w fun e w' => e = .returned (.bool true) ∧ Below w.heap.size w w' := by
  have b0 : Below w.heap.size w (w.alloc (.cells #[.int .i64 0] 23)) := (Below.refl _ _).alloc (Nat.le_refl _) _
  have HW := works _ (hg.below b0)
  simp only [World.size_alloc] at HW
  have B0 := Lib.hid b0
  clear hg b0
  go_enter Tryd.func3, Tryd.ntmps3
  go_wp2_with fail
  (with_reducible refine (new_ok _ _ _).mono ?_)
  rintro e1 w1 ⟨rfl, rfl⟩
  go_wp2_with fail
  (with_reducible refine (code_nil _).mono ?_)
  rintro e2 w2 ⟨rfl, rfl⟩
  go_wp2_with fail
  (with_reducible refine HW.mono ?_)
  rintro e3 w3 ⟨rfl, hb⟩
  have B := Lib.hid (B0.out.trans (hb.mono (by omega)))
  clear hb
  go_wp2
  go_ret
  exact ⟨rfl, B.out⟩
set_option maxHeartbeats 8000000 in
set_option maxRecDepth 1000000 in
theorem new_walk (I : Int → ByteArray) (S : World → Prop) (hI : ItoaIs I S) (p : Option Addr) (len c k : Nat) (xs : List Int) (a n l cc : Int) (w : World) (hg : ET w) (hS : S w) (hs : Src w p len c xs) (hl : len ≤ 500) (h0 : n ≠ 0)
    (n0 : -9223372036854775808 ≤ n) (n1 : n ≤ 9223372036854775807) (hk : min (max a 0) (len : Int) = (k : Int))
    (l1 : 1 ≤ l) (l2 : l ≤ 501) (c1 : 1 ≤ cc) (c2 : cc ≤ 501)
    (N1 : Calls Tryd.prog 7 #[.slice p len c, .int .i64 a, .int .i64 n] w fun e w' => e = .returned (.iface 45 (.pointer (some ⟨w.heap.size + 1, 0, none⟩))) ∧ NewW w w' k l cc n)
    (N2 : ∀ W, Src W p len c xs → Calls Tryd.prog 9 #[.slice p len c, .int .i64 a] W fun e w' => e = .returned (.tuple #[.int .i64 l, .int .i64 cc]) ∧ W = w') :
    Calls Tryd.prog 3 #[.slice p len c, .int .i64 a, .int .i64 n] w fun e w' => e = .returned (.bool true) ∧ Below w.heap.size w w' := by
  have hz : (n == 0) = false := by simpa using h0
  have HG := Lib.hid hg
  have HS := Lib.hid hs
  have HSS := Lib.hid hS
  have HN2 := Lib.hid N2
  have HI := Lib.hid hI
  have HK := Lib.hid hk
  have z1 := hI.2.1 l
  have z2 := hI.2.1 cc
  have z3 := hI.2.1 n
  have eE := eqlE
  clear hg hs hS N2 hI hk
  go_enter Tryd.func3, Tryd.ntmps3
  go_wp2_with fail
  (with_reducible refine N1.mono ?_)
  rintro e1 w1 ⟨rfl, hN⟩
  have b1 := Lib.hid hN.below
  have NN := Lib.hid hN
  have M1 := HN2.out w1 (HS.out.below b1.out)
  clear hN N1
  go_wp2_with fail
  (with_reducible refine M1.mono ?_)
  rintro e2 w2 ⟨rfl, rfl⟩
  clear M1
  have P1 := place_new HG.out NN.out
  go_wp2_with fail
  (with_reducible refine P1.mono ?_)
  rintro e3 w3 ⟨rfl, hb3⟩
  clear P1
  have s1 := NN.out.size
  have q1 := Lib.hid (show w3.cell? ⟨w.heap.size + 1, 1, none⟩ = some (.int .i64 l) by rw [hb3.cell (p := ⟨w.heap.size + 1, 1, none⟩) s1]; exact NN.out.c1)
  have q2 := Lib.hid (show w3.cell? ⟨w.heap.size + 1, 2, none⟩ = some (.int .i64 cc) by rw [hb3.cell (p := ⟨w.heap.size + 1, 2, none⟩) s1]; exact NN.out.c2)
  have q3 := Lib.hid (show w3.cell? ⟨w.heap.size + 1, 3, none⟩ = some (.int .i64 n) by rw [hb3.cell (p := ⟨w.heap.size + 1, 3, none⟩) s1]; exact NN.out.c3)
  have b3 := Lib.hid (b1.out.trans (hb3.mono b1.out.size))
  have k3 : ErrKeep S (w.heap.size + 1) l cc n w w3 := ⟨HI.out.2.2 _ _ HSS.out b3.out, b3.out, q1.out, q2.out, q3.out⟩
  have K3 := Lib.hid k3
  clear hb3 NN b1 s1 k3 q1 q2 q3 b3
  go_wp2_with fail
  (with_reducible refine (HI.out.call l _ (by omega) (by omega) K3.out.st).mono ?_)
  rintro e4 w4 ⟨rfl, hb4⟩
  have K4 := Lib.hid (K3.out.on HI.out hb4)
  clear hb4 K3
  go_wp2_with fail
  (with_reducible refine (HI.out.call cc _ (by omega) (by omega) K4.out.st).mono ?_)
  rintro e5 w5 ⟨rfl, hb5⟩
  have K5 := Lib.hid (K4.out.on HI.out hb5)
  clear hb5 K4
  go_wp2_with fail
  (with_reducible refine (errno_text I S HI.out n _ n0 n1 K5.out.st).mono ?_)
  rintro e6 w6 ⟨rfl, hb6⟩
  have K6 := Lib.hid (K5.out.on HI.out hb6)
  clear hb6 K5
  go_wp2_with fail
  (with_reducible refine (at_any p len c k a _ hl HK.out).mono ?_)
  rintro e7 w7 ⟨rfl, rfl⟩
  go_wp2_with fail
  (with_reducible refine (err_text I S HI.out (w.heap.size + 1) l cc n _ K6.out.st (by omega) (by omega) (by omega) (by omega) n0 n1 K6.out.c1 K6.out.c2 K6.out.c3).mono ?_)
  rintro e8 w8 ⟨rfl, hb8⟩
  have K8 := Lib.hid (K6.out.on HI.out hb8)
  clear hb8 K6
  unfold errT
  go_wp2_with fail
  (with_reducible refine (unwrap_err (w.heap.size + 1) n _ K8.out.c3).mono ?_)
  rintro e9 w9 ⟨rfl, rfl⟩
  go_wp2_with fail
  (with_reducible refine (code_in 45 (.pointer (some ⟨w.heap.size + 1, 0, none⟩)) n 1 _ (HG.out.below K8.out.below) (.err (w.heap.size + 1) n 0 rfl K8.out.c3 .here)).mono ?_)
  rintro e10 w10 ⟨rfl, hb10⟩
  have K10 := Lib.hid (K8.out.on HI.out hb10)
  clear hb10 K8
  go_wp2_with fail
  (with_reducible refine (works _ (HG.out.below K10.out.below)).mono ?_)
  rintro e11 w11 ⟨rfl, hb11⟩
  have K11 := Lib.hid (K10.out.on HI.out hb11)
  clear hb11 K10
  go_wp2
  go_ret
  exact ⟨rfl, K11.out.below⟩
theorem diagNew (I : Int → ByteArray) (S : World → Prop) (hI : ItoaIs I S) (p : Option Addr) (len c : Nat) (xs : List Int) (a n : Int) (w : World) (hg : ET w) (hS : S w) (hs : Src w p len c xs)
    (n0 : -9223372036854775808 ≤ n) (n1 : n ≤ 9223372036854775807) :
    Calls Tryd.prog 3 #[.slice p len c, .int .i64 a, .int .i64 n] w fun e w' => e = .returned (.bool true) ∧ Below w.heap.size w w' := by
  by_cases hl : len ≤ 500
  · by_cases h0 : n = 0
    · subst h0
      exact new_none_walk p len c a w hg hl
    · obtain ⟨k, hk⟩ : ∃ k : Nat, min (max a 0) (len : Int) = (k : Int) := ⟨(min (max a 0) (len : Int)).toNat, by omega⟩
      have l1 := line_bd xs k
      have l2 := last_bd xs k
      exact new_walk I S hI p len c k xs a n (lineF xs k) ((k : Int) - lastF xs k) w hg hS hs hl h0 n0 n1 hk (by omega) (by omega) (by omega) (by omega) (new_src p len c k xs a n w h0 hl hk hs) (fun W h => where_src p len c k xs a W hl hk h)
  · exact new_great p len c a n w hg (by omega)
end Go.Proofs.YtbimjgklldchfaaDoor
