/- DiagIn's walk. -/
import Derived.Test.YtbimjgklldchfaaDoorDiagZ
import Derived.Test.YtbimjgklldchfaaDoorDiagS
namespace Go.Proofs.YtbimjgklldchfaaDoor
open Go.RowKit

def Words (w : World) (q : Option Addr) (wl wc : Nat) (ws : List ByteArray) : Prop :=
  wl ≤ wc ∧ (wl = 0 ∨ ∃ b off, q = some ⟨b, off, none⟩ ∧ b < w.heap.size ∧ ∀ i, i < wl → w.cell? ⟨b, off + i, none⟩ = some (.string (ws.getD i ByteArray.empty)))
def ErrIs (W : World) (E : Nat) (T : ByteArray) (v : Value) (s : ByteArray) : Prop :=
  (v = .iface 45 (.pointer (some ⟨E, 0, none⟩)) ∧ s = T) ∨ ∃ K d, v = .iface 54 (.pointer (some ⟨K, 0, none⟩)) ∧ Wrap W E T K s d
theorem errT_size (I : Int → ByteArray) (S : World → Prop) (hI : ItoaIs I S) (l c n : Int) : (errT I l c n).size ≤ 200 := by
  have z1 := hI.2.1 l
  have z2 := hI.2.1 c
  have z3 := hI.2.1 n
  unfold errT
  simp only [ByteArray.size_append]
  have e1 : (⟨#[108, 105, 110, 101, 32]⟩ : ByteArray).size = 5 := rfl
  have e2 : (⟨#[44, 32, 99, 111, 108, 117, 109, 110, 32]⟩ : ByteArray).size = 9 := rfl
  have e3 : (⟨#[58, 32]⟩ : ByteArray).size = 2 := rfl
  have e4 : (⟨#[105, 110, 116, 101, 114, 108, 111, 99, 107, 58, 32, 101, 114, 114, 111, 114, 32]⟩ : ByteArray).size = 17 := rfl
  omega
/-- what the loop keeps -/
structure InK (S : World → Prop) (E : Nat) (x l c n : Int) (w0 w : World) : Prop where
  keep : ErrKeep S E l c n w0 w
  c0 : w.cell? ⟨E, 0, none⟩ = some (.int .i64 x)
theorem InK.on {I : Int → ByteArray} {S : World → Prop} (hI : ItoaIs I S) {E : Nat} {x l c n : Int} {w0 w w' : World} (h : InK S E x l c n w0 w) (hb : Below w.heap.size w w') : InK S E x l c n w0 w' :=
  ⟨h.keep.on hI hb, by rw [hb.cell (p := ⟨E, 0, none⟩) (cell_lt h.c0)]; exact h.c0⟩
theorem ErrIs.onto {W W' : World} {E : Nat} {T : ByteArray} {v : Value} {s : ByteArray} (h : ErrIs W E T v s) (hb : Below W.heap.size W W') : ErrIs W' E T v s := by
  rcases h with h | ⟨K, d, e, h⟩
  · exact .inl h
  · exact .inr ⟨K, d, e, h.onto hb⟩
theorem path_true {W : World} {E : Nat} {n : Int} (hc : W.cell? ⟨E, 3, none⟩ = some (.int .i64 n)) {v : Value} {d : Nat} (h : Path W false (.iface 45 (.pointer (some ⟨E, 0, none⟩))) v d) : Path W true (.iface 23 (.int .i64 n)) v (d + 1) := by
  induction h with
  | here => exact .err E n 0 rfl hc .here
  | inn B T x m h1 _ ih => exact .inn B T x (m + 1) h1 ih
  | err B k m e => cases e
set_option maxHeartbeats 4000000 in
set_option maxRecDepth 1000000 in
theorem in_great (p : Option Addr) (len c : Nat) (a n : Int) (q : Option Addr) (wl wc : Nat) (w : World) (hg : ET w) (hl : 500 < len) :
    Calls Tryd.prog 4 #[.slice p len c, .int .i64 a, .int .i64 n, .slice q wl wc] w fun e w' => e = .returned (.bool true) ∧ Below w.heap.size w w' := by
  have HW := works w hg
  clear hg
  have d1 : decide (500 < len) = true := by simpa using hl
  go_enter Tryd.func4, Tryd.ntmps4
  go_wp2_with fail
  (with_reducible refine HW.mono ?_)
  rintro e1 w1 ⟨rfl, hb⟩
  have B := Lib.hid hb
  clear hb
  go_wp2
  go_ret
  exact ⟨rfl, B.out⟩
set_option maxHeartbeats 4000000 in
set_option maxRecDepth 1000000 in
theorem in_many (p : Option Addr) (len c : Nat) (a n : Int) (q : Option Addr) (wl wc : Nat) (w : World) (hg : ET w) (hl : len ≤ 500) (hm : 20 < wl) :
    Calls Tryd.prog 4 #[.slice p len c, .int .i64 a, .int .i64 n, .slice q wl wc] w fun e w' => e = .returned (.bool true) ∧ Below w.heap.size w w' := by
  have HW := works w hg
  clear hg
  have d1 : decide (500 < len) = false := by simpa using hl
  have d2 : decide (20 < wl) = true := by simpa using hm
  go_enter Tryd.func4, Tryd.ntmps4
  go_wp2_with fail
  (with_reducible refine HW.mono ?_)
  rintro e1 w1 ⟨rfl, hb⟩
  have B := Lib.hid hb
  clear hb
  go_wp2
  go_ret
  exact ⟨rfl, B.out⟩
set_option maxHeartbeats 4000000 in
set_option maxRecDepth 1000000 in
theorem in_zero (p : Option Addr) (len c : Nat) (a : Int) (q : Option Addr) (wl wc : Nat) (w : World) (hg : ET w) (hl : len ≤ 500) (hm : wl ≤ 20) :
    Calls Tryd.prog 4 #[.slice p len c, .int .i64 a, .int .i64 0, .slice q wl wc] w fun e w' => e = .returned (.bool true) ∧ Below w.heap.size w w' := by
  have HW := works w hg
  clear hg
  have d1 : decide (500 < len) = false := by simpa using hl
  have d2 : decide (20 < wl) = false := by simpa using hm
  go_enter Tryd.func4, Tryd.ntmps4
  go_wp2_with fail
  (with_reducible refine HW.mono ?_)
  rintro e1 w1 ⟨rfl, hb⟩
  have B := Lib.hid hb
  clear hb
  go_wp2
  go_ret
  exact ⟨rfl, B.out⟩
set_option maxHeartbeats 8000000 in
set_option maxRecDepth 1000000 in
theorem in_walk (I : Int → ByteArray) (S : World → Prop) (hI : ItoaIs I S) (p : Option Addr) (len c : Nat) (a n k l cc : Int) (q : Option Addr) (wl wc : Nat) (ws : List ByteArray) (w : World) (hg : ET w) (hS : S w) (hws : Words w q wl wc ws) (hl : len ≤ 500) (hm : wl ≤ 20) (h0 : n ≠ 0)
    (n0 : -9223372036854775808 ≤ n) (n1 : n ≤ 9223372036854775807)
    (l1 : 1 ≤ l) (l2 : l ≤ 501) (c1 : 1 ≤ cc) (c2 : cc ≤ 501)
    (N1 : Calls Tryd.prog 7 #[.slice p len c, .int .i64 a, .int .i64 n] w fun e w' => e = .returned (.iface 45 (.pointer (some ⟨w.heap.size + 1, 0, none⟩))) ∧ NewW w w' k l cc n) :
    Calls Tryd.prog 4 #[.slice p len c, .int .i64 a, .int .i64 n, .slice q wl wc] w fun e w' => e = .returned (.bool true) ∧ Below w.heap.size w w' := by
  have hz : (n == 0) = false := by simpa using h0
  have d1 : decide (500 < len) = false := by simpa using hl
  have d2 : decide (20 < wl) = false := by simpa using hm
  have HG := Lib.hid hg
  have HWS := Lib.hid hws
  have HSS := Lib.hid hS
  have HI := Lib.hid hI
  have hTz := errT_size I S hI l cc n
  have ETX := Lib.hid (fun (W : World) (h : ErrKeep S (w.heap.size + 1) l cc n w W) => err_text I S hI (w.heap.size + 1) l cc n W h.st (by omega) (by omega) (by omega) (by omega) n0 n1 h.c1 h.c2 h.c3)
  have WTX := Lib.hid (fun (W : World) (h : ErrKeep S (w.heap.size + 1) l cc n w W) => within_text I S hI (w.heap.size + 1) l cc n W (by omega) (by omega) (by omega) (by omega) n0 n1 ⟨h.st, Below.refl _ _, h.c1, h.c2, h.c3⟩)
  clear hg hws hS hI
  generalize errT I l cc n = T at *
  go_enter Tryd.func4, Tryd.ntmps4
  go_wp2_with fail
  (with_reducible refine N1.mono ?_)
  rintro e1 w1 ⟨rfl, hN⟩
  have b1 := hN.below
  have k1 : InK S (w.heap.size + 1) k l cc n w w1 := ⟨⟨HI.out.2.2 _ _ HSS.out b1, b1, hN.c1, hN.c2, hN.c3⟩, hN.c0⟩
  have K1 := Lib.hid k1
  clear hN b1 N1 k1
  go_wp2_with fail
  (with_reducible refine (ETX.out _ K1.out.keep).mono ?_)
  rintro e2 w2 ⟨rfl, hb2⟩
  have K2 := Lib.hid (K1.out.on HI.out hb2)
  clear hb2 K1
  go_wp2_with fail
  go_loopw [10, 11, 12] (fun ve vt vi wr => ∃ (m : Nat) (s : ByteArray), m ≤ wl ∧ vi = .int .i64 m ∧ vt = .string s ∧ s.size ≤ 200 + 60 * m ∧ Hid (ErrIs wr (w.heap.size + 1) T ve s) ∧ Hid (InK S (w.heap.size + 1) k l cc n w wr)) (fun _ _ vi _ => wl - (RowKit.intOf vi).toNat)
  case atStart => exact ⟨0, T, Nat.zero_le _, rfl, rfl, by omega, Lib.hid (.inl ⟨rfl, rfl⟩), K2⟩
  case round =>
    clear K2
    obtain ⟨m, s, hmw, rfl, rfl, hsz, HE, HK⟩ := hrel
    rename World => W0
    by_cases hlt : m < wl
    · have hwc := HWS.out.1
      obtain ⟨b, off, rfl, hbl, hcell⟩ : ∃ b off, q = some ⟨b, off, none⟩ ∧ b < w.heap.size ∧ ∀ i, i < wl → w.cell? ⟨b, off + i, none⟩ = some (.string (ws.getD i ByteArray.empty)) := by
        rcases HWS.out.2 with h | h
        · omega
        · exact h
      have hx : W0.cell? ⟨b, off + m, none⟩ = some (.string (ws.getD m ByteArray.empty)) := by rw [HK.out.keep.below.cell (p := ⟨b, off + m, none⟩) hbl]; exact hcell m hlt
      generalize ws.getD m ByteArray.empty = x at hx
      clear hcell HWS
      have i1 : (m : Int) < wl := by omega
      by_cases h50 : 50 < x.size
      · have d3 : decide (50 < x.size) = true := by simpa using h50
        have HW := works W0 (HG.out.below HK.out.keep.below)
        go_wp2_with fail
        (with_reducible refine HW.mono ?_)
        rintro e3 w3 ⟨rfl, hb3⟩
        have K3 := Lib.hid (HK.out.on HI.out hb3)
        clear hb3 HW hx
        go_wp2
        go_ret
        exact ⟨rfl, K3.out.keep.below⟩
      · have d3 : decide (50 < x.size) = false := by simpa using h50
        have hE := HE.out
        clear HE
        rcases hE with ⟨rfl, rfl⟩ | ⟨K, d, rfl, hW⟩
        · have B4 : Below W0.heap.size W0 (W0.alloc (.cells #[.string x, .iface 45 (.pointer (some ⟨w.heap.size + 1, 0, none⟩))] 56)) := (Below.refl _ _).alloc (Nat.le_refl _) _
          have K4 := Lib.hid (HK.out.on HI.out B4)
          have E4 : Hid (ErrIs (W0.alloc (.cells #[.string x, .iface 45 (.pointer (some ⟨w.heap.size + 1, 0, none⟩))] 56)) (w.heap.size + 1) s (.iface 54 (.pointer (some ⟨W0.heap.size, 0, none⟩))) (x ++ ⟨#[58, 32]⟩ ++ s)) := Lib.hid (.inr ⟨W0.heap.size, 0, rfl, .last _ x (by simp) (by simp)⟩)
          have x4 : (W0.alloc (.cells #[.string x, .iface 45 (.pointer (some ⟨w.heap.size + 1, 0, none⟩))] 56)).cell? ⟨b, off + m, none⟩ = some (.string x) := by rw [B4.cell (p := ⟨b, off + m, none⟩) (Nat.lt_of_lt_of_le hbl HK.out.keep.below.size)]; exact hx
          clear B4
          go_wp2_with fail
          (with_reducible refine (in_some _ _ _ _).mono ?_)
          rintro e4 w4 ⟨rfl, rfl⟩
          clear hx HK
          generalize (W0.alloc (.cells #[.string x, .iface 45 (.pointer (some ⟨w.heap.size + 1, 0, none⟩))] 56)) = W4 at *
          go_wp2
          go_roundw
          case rel => exact ⟨m + 1, _, by omega, by go_num, rfl, by simp only [ByteArray.size_append, sizeDD]; omega, E4, K4⟩
          case measure => simp [RowKit.intOf]; omega
        · have HWr := Lib.hid hW
          clear hW
          have B4 : Below W0.heap.size W0 (W0.alloc (.cells #[.string x, .iface 54 (.pointer (some ⟨K, 0, none⟩))] 56)) := (Below.refl _ _).alloc (Nat.le_refl _) _
          have K4 := Lib.hid (HK.out.on HI.out B4)
          have E4 : Hid (ErrIs (W0.alloc (.cells #[.string x, .iface 54 (.pointer (some ⟨K, 0, none⟩))] 56)) (w.heap.size + 1) T (.iface 54 (.pointer (some ⟨W0.heap.size, 0, none⟩))) (x ++ ⟨#[58, 32]⟩ ++ s)) := Lib.hid (.inr ⟨W0.heap.size, d + 1, rfl, .more _ K x s d (by simp) (by simp) (HWr.out.onto B4)⟩)
          clear HWr
          have x4 : (W0.alloc (.cells #[.string x, .iface 54 (.pointer (some ⟨K, 0, none⟩))] 56)).cell? ⟨b, off + m, none⟩ = some (.string x) := by rw [B4.cell (p := ⟨b, off + m, none⟩) (Nat.lt_of_lt_of_le hbl HK.out.keep.below.size)]; exact hx
          clear B4
          go_wp2_with fail
          (with_reducible refine (in_some _ _ _ _).mono ?_)
          rintro e4 w4 ⟨rfl, rfl⟩
          clear hx HK
          generalize (W0.alloc (.cells #[.string x, .iface 54 (.pointer (some ⟨K, 0, none⟩))] 56)) = W4 at *
          go_wp2
          go_roundw
          case rel => exact ⟨m + 1, _, by omega, by go_num, rfl, by simp only [ByteArray.size_append, sizeDD]; omega, E4, K4⟩
          case measure => simp [RowKit.intOf]; omega
    · obtain rfl : m = wl := by omega
      have hE := HE.out
      clear HE HWS
      rcases hE with ⟨rfl, rfl⟩ | ⟨K, d, rfl, hW⟩
      · have PA : ∀ W, Hid (Path W false (.iface 45 (.pointer (some ⟨w.heap.size + 1, 0, none⟩))) (.iface 45 (.pointer (some ⟨w.heap.size + 1, 0, none⟩))) 0) := fun W => Lib.hid .here
        have K0 := HK
        clear HK
        go_wp2_with fail
        (with_reducible refine (place_in (w.heap.size + 1) 45 (.pointer (some ⟨w.heap.size + 1, 0, none⟩)) k l cc 0 _ (HG.out.below K0.out.keep.below) (PA _).out K0.out.c0 K0.out.keep.c1 K0.out.keep.c2).mono ?_)
        rintro f1 y1 ⟨rfl, hb1⟩
        have K1 := Lib.hid (K0.out.on HI.out hb1)
        clear hb1 K0
        go_wp2_with fail
        (with_reducible refine (place_in (w.heap.size + 1) 45 (.pointer (some ⟨w.heap.size + 1, 0, none⟩)) k l cc 0 _ (HG.out.below K1.out.keep.below) .here K1.out.c0 K1.out.keep.c1 K1.out.keep.c2).mono ?_)
        rintro f2 y2 ⟨rfl, hb2⟩
        have K2 := Lib.hid (K1.out.on HI.out hb2)
        clear hb2 K1
        have hb3 : Below y2.heap.size y2 (y2.alloc (.cells #[.string ⟨#[112]⟩, .iface 23 (.int .i64 n)] 56)) := (Below.refl _ _).alloc (Nat.le_refl _) _
        have pl : (y2.alloc (.cells #[.string ⟨#[112]⟩, .iface 23 (.int .i64 n)] 56)).cell? ⟨y2.heap.size, 1, none⟩ = some (.iface 23 (.int .i64 n)) := by simp
        have PL3 := Lib.hid pl
        clear pl
        have K3 := Lib.hid (K2.out.on HI.out hb3)
        clear hb3 K2
        go_wp2_with fail
        (with_reducible refine (in_some _ _ _ _).mono ?_)
        rintro f3 y3 ⟨rfl, rfl⟩
        generalize (y2.alloc (.cells #[.string ⟨#[112]⟩, .iface 23 (.int .i64 n)] 56)) = W3 at *
        generalize y2.heap.size = H at *
        go_wp2_with fail
        (with_reducible refine (place_no 54 (.pointer (some ⟨H, 0, none⟩)) n 1 _ (HG.out.below K3.out.keep.below) (.inn H 23 (.int .i64 n) 0 PL3.out .here)).mono ?_)
        rintro f4 y4 ⟨rfl, hb4⟩
        have PL4 := Lib.hid (show y4.cell? ⟨H, 1, none⟩ = some (.iface 23 (.int .i64 n)) by rw [hb4.cell (p := ⟨H, 1, none⟩) (cell_lt PL3.out)]; exact PL3.out)
        clear PL3
        have K4 := Lib.hid (K3.out.on HI.out hb4)
        clear hb4 K3
        go_wp2_with fail
        (with_reducible refine (code_in 45 (.pointer (some ⟨w.heap.size + 1, 0, none⟩)) n (0 + 1) _ (HG.out.below K4.out.keep.below) (path_true K4.out.keep.c3 (PA _).out)).mono ?_)
        rintro f5 y5 ⟨rfl, hb5⟩
        have PL5 := Lib.hid (show y5.cell? ⟨H, 1, none⟩ = some (.iface 23 (.int .i64 n)) by rw [hb5.cell (p := ⟨H, 1, none⟩) (cell_lt PL4.out)]; exact PL4.out)
        clear PL4
        have K5 := Lib.hid (K4.out.on HI.out hb5)
        clear hb5 K4
        go_wp2_with fail
        (with_reducible refine (Is23 n 45 (.pointer (some ⟨w.heap.size + 1, 0, none⟩)) (0 + 1) _ (path_true K5.out.keep.c3 (PA _).out)).mono ?_)
        rintro f6 y6 ⟨rfl, rfl⟩
        go_wp2_with fail
        (with_reducible refine (Is45 ⟨w.heap.size + 1, 0, none⟩ 45 (.pointer (some ⟨w.heap.size + 1, 0, none⟩)) 0 _ (PA _).out).mono ?_)
        rintro f7 y7 ⟨rfl, rfl⟩
        go_wp2_with fail
        (with_reducible refine (ETX.out _ K5.out.keep).mono ?_)
        rintro f8 y8 ⟨rfl, hb8⟩
        have PL8 := Lib.hid (show y8.cell? ⟨H, 1, none⟩ = some (.iface 23 (.int .i64 n)) by rw [hb8.cell (p := ⟨H, 1, none⟩) (cell_lt PL5.out)]; exact PL5.out)
        clear PL5
        have K6 := Lib.hid (K5.out.on HI.out hb8)
        clear hb8 K5
        go_wp2_with fail
        (with_reducible refine (code_in 54 (.pointer (some ⟨H, 0, none⟩)) n 1 _ (HG.out.below K6.out.keep.below) (.inn H 23 (.int .i64 n) 0 PL8.out .here)).mono ?_)
        rintro f9 y9 ⟨rfl, hb9⟩
        clear PL8
        have K7 := Lib.hid (K6.out.on HI.out hb9)
        clear hb9 K6
        go_wp2_with fail
        (with_reducible refine (works _ (HG.out.below K7.out.keep.below)).mono ?_)
        rintro f10 y10 ⟨rfl, hb10⟩
        have K8 := Lib.hid (K7.out.on HI.out hb10)
        clear hb10 K7
        go_wp2
        go_ret
        exact ⟨rfl, K8.out.keep.below⟩
      · have R0 := Lib.hid hW
        clear hW
        have K0 := HK
        clear HK
        go_wp2_with fail
        (with_reducible refine (place_in (w.heap.size + 1) 54 (.pointer (some ⟨K, 0, none⟩)) k l cc (d + 1) _ (HG.out.below K0.out.keep.below) R0.out.path K0.out.c0 K0.out.keep.c1 K0.out.keep.c2).mono ?_)
        rintro f1 y1 ⟨rfl, hb1⟩
        have K1 := Lib.hid (K0.out.on HI.out hb1)
        have R1 := Lib.hid (R0.out.onto hb1)
        clear hb1 K0 R0
        go_wp2_with fail
        (with_reducible refine (place_in (w.heap.size + 1) 45 (.pointer (some ⟨w.heap.size + 1, 0, none⟩)) k l cc 0 _ (HG.out.below K1.out.keep.below) .here K1.out.c0 K1.out.keep.c1 K1.out.keep.c2).mono ?_)
        rintro f2 y2 ⟨rfl, hb2⟩
        have K2 := Lib.hid (K1.out.on HI.out hb2)
        have R2 := Lib.hid (R1.out.onto hb2)
        clear hb2 K1 R1
        have hb3 : Below y2.heap.size y2 (y2.alloc (.cells #[.string ⟨#[112]⟩, .iface 23 (.int .i64 n)] 56)) := (Below.refl _ _).alloc (Nat.le_refl _) _
        have pl : (y2.alloc (.cells #[.string ⟨#[112]⟩, .iface 23 (.int .i64 n)] 56)).cell? ⟨y2.heap.size, 1, none⟩ = some (.iface 23 (.int .i64 n)) := by simp
        have PL3 := Lib.hid pl
        clear pl
        have K3 := Lib.hid (K2.out.on HI.out hb3)
        have R3 := Lib.hid (R2.out.onto hb3)
        clear hb3 K2 R2
        go_wp2_with fail
        (with_reducible refine (in_some _ _ _ _).mono ?_)
        rintro f3 y3 ⟨rfl, rfl⟩
        generalize (y2.alloc (.cells #[.string ⟨#[112]⟩, .iface 23 (.int .i64 n)] 56)) = W3 at *
        generalize y2.heap.size = H at *
        go_wp2_with fail
        (with_reducible refine (place_no 54 (.pointer (some ⟨H, 0, none⟩)) n 1 _ (HG.out.below K3.out.keep.below) (.inn H 23 (.int .i64 n) 0 PL3.out .here)).mono ?_)
        rintro f4 y4 ⟨rfl, hb4⟩
        have PL4 := Lib.hid (show y4.cell? ⟨H, 1, none⟩ = some (.iface 23 (.int .i64 n)) by rw [hb4.cell (p := ⟨H, 1, none⟩) (cell_lt PL3.out)]; exact PL3.out)
        clear PL3
        have K4 := Lib.hid (K3.out.on HI.out hb4)
        have R4 := Lib.hid (R3.out.onto hb4)
        clear hb4 K3 R3
        go_wp2_with fail
        (with_reducible refine (code_in 54 (.pointer (some ⟨K, 0, none⟩)) n ((d + 1) + 1) _ (HG.out.below K4.out.keep.below) (path_true K4.out.keep.c3 R4.out.path)).mono ?_)
        rintro f5 y5 ⟨rfl, hb5⟩
        have PL5 := Lib.hid (show y5.cell? ⟨H, 1, none⟩ = some (.iface 23 (.int .i64 n)) by rw [hb5.cell (p := ⟨H, 1, none⟩) (cell_lt PL4.out)]; exact PL4.out)
        clear PL4
        have K5 := Lib.hid (K4.out.on HI.out hb5)
        have R5 := Lib.hid (R4.out.onto hb5)
        clear hb5 K4 R4
        go_wp2_with fail
        (with_reducible refine (Is23 n 54 (.pointer (some ⟨K, 0, none⟩)) ((d + 1) + 1) _ (path_true K5.out.keep.c3 R5.out.path)).mono ?_)
        rintro f6 y6 ⟨rfl, rfl⟩
        go_wp2_with fail
        (with_reducible refine (Is45 ⟨w.heap.size + 1, 0, none⟩ 54 (.pointer (some ⟨K, 0, none⟩)) (d + 1) _ R5.out.path).mono ?_)
        rintro f7 y7 ⟨rfl, rfl⟩
        go_wp2_with fail
        (with_reducible refine (WTX.out _ K5.out.keep K d s (by omega) R5.out).mono ?_)
        rintro f8 y8 ⟨rfl, hb8⟩
        have PL8 := Lib.hid (show y8.cell? ⟨H, 1, none⟩ = some (.iface 23 (.int .i64 n)) by rw [hb8.cell (p := ⟨H, 1, none⟩) (cell_lt PL5.out)]; exact PL5.out)
        clear PL5
        have K6 := Lib.hid (K5.out.on HI.out hb8)
        have R6 := Lib.hid (R5.out.onto hb8)
        clear hb8 K5 R5
        go_wp2_with fail
        (with_reducible refine (code_in 54 (.pointer (some ⟨H, 0, none⟩)) n 1 _ (HG.out.below K6.out.keep.below) (.inn H 23 (.int .i64 n) 0 PL8.out .here)).mono ?_)
        rintro f9 y9 ⟨rfl, hb9⟩
        clear PL8
        have K7 := Lib.hid (K6.out.on HI.out hb9)
        have R7 := Lib.hid (R6.out.onto hb9)
        clear hb9 K6 R6
        go_wp2_with fail
        (with_reducible refine (works _ (HG.out.below K7.out.keep.below)).mono ?_)
        rintro f10 y10 ⟨rfl, hb10⟩
        have K8 := Lib.hid (K7.out.on HI.out hb10)
        have R8 := Lib.hid (R7.out.onto hb10)
        clear hb10 K7 R7
        go_wp2
        go_ret
        exact ⟨rfl, K8.out.keep.below⟩
theorem diagIn (I : Int → ByteArray) (S : World → Prop) (hI : ItoaIs I S) (p : Option Addr) (len c : Nat) (xs : List Int) (a n : Int) (q : Option Addr) (wl wc : Nat) (ws : List ByteArray) (w : World) (hg : ET w) (hS : S w) (hs : Src w p len c xs) (hws : Words w q wl wc ws)
    (n0 : -9223372036854775808 ≤ n) (n1 : n ≤ 9223372036854775807) :
    Calls Tryd.prog 4 #[.slice p len c, .int .i64 a, .int .i64 n, .slice q wl wc] w fun e w' => e = .returned (.bool true) ∧ Below w.heap.size w w' := by
  by_cases hl : len ≤ 500
  · by_cases hm : wl ≤ 20
    · by_cases h0 : n = 0
      · subst h0
        exact in_zero p len c a q wl wc w hg hl hm
      · obtain ⟨k, hk⟩ : ∃ k : Nat, min (max a 0) (len : Int) = (k : Int) := ⟨(min (max a 0) (len : Int)).toNat, by omega⟩
        have l1 := line_bd xs k
        have l2 := last_bd xs k
        exact in_walk I S hI p len c a n k (lineF xs k) ((k : Int) - lastF xs k) q wl wc ws w hg hS hws hl hm h0 n0 n1 (by omega) (by omega) (by omega) (by omega) (new_src p len c k xs a n w h0 hl hk hs)
    · exact in_many p len c a n q wl wc w hg hl (by omega)
  · exact in_great p len c a n q wl wc w hg (by omega)
end Go.Proofs.YtbimjgklldchfaaDoor
