/- Contracts on the way to the laws of layer 5: PrintL. -/
import Derived.Test.YthdioipfdbbmmaaGreatDoorKaa
import Derived.Test.YthdioipfdbbmmaaGreatDoorKao
import Derived.Test.YthdioipfdbbmmaaGreatDoorKap
set_option linter.all false
set_option maxRecDepth 1000000
set_option maxHeartbeats 16000000
namespace Go.Proofs.YthdioipfdbbmmaaGreatDoor
section
open Go.RowKit Tr
structure Pc where
 text : ByteArray
 node : Int
 brk : Bool
def Pc.cells (x : Pc) : List Value := [.string x.text, .int .i64 x.node, .bool x.brk]
def pcT (s : ByteArray) : Pc := ⟨s, 0, false⟩
def pcN (q : Nat) (b : Bool) : Pc := ⟨⟨#[]⟩, (q : Int), b⟩
def PcsAt (w w' : World) (v : Value) (l : List Pc) : Prop := ∃ g, v = .slice (some ⟨g, 0, none⟩) l.length l.length ∧ w'.heap[g]? = some (.cells (l.flatMap Pc.cells).toArray 184 (0, 0)) ∧ w.heap.size ≤ g ∧ g < w'.heap.size
structure NodeArg (w : World) (b : Nat) (p : Option Addr) (len c : Nat) (ns : List Nd) (kp : Option Addr) (kl kc : Nat) (ks : List Int) : Prop where
 c0 : w.cell? ⟨b, 0, none⟩ = some (.slice p len c)
 tv : TV w p len c ns
 iv : IV w kp kl kc ks
theorem NodeArg.on {w w' : World} {b : Nat} {p : Option Addr} {len c : Nat} {ns : List Nd} {kp : Option Addr} {kl kc : Nat} {ks : List Int} (h : NodeArg w b p len c ns kp kl kc ks) (hb : Below w.heap.size w w') : NodeArg w' b p len c ns kp kl kc ks :=
 ⟨by rw [hb.cell (p := ⟨b, 0, none⟩) (cellLt h.c0)]; exact h.c0, h.tv.on hb, h.iv.on hb⟩
abbrev PW (w : World) (b : Nat) (k a n : Int) (s : ByteArray) (kp : Option Addr) (kl kc : Nat) : World := (((w.alloc (.cells #[.pointer (some ⟨b, 0, none⟩)] 163)).alloc (.cells #[.int .u8 k, .int .i64 a, .string s, .int .i64 n, .slice kp kl kc] 54)).alloc (.cells #[.int .u8 k] 5)).alloc (.cells #[.func (.func 228) #[] #[.pointer (some ⟨w.heap.size + 1 + 1, 0, none⟩)]] 245)
theorem PW_size (w : World) (b : Nat) (k a n : Int) (s : ByteArray) (kp : Option Addr) (kl kc : Nat) : (PW w b k a n s kp kl kc).heap.size = w.heap.size + 4 := by simp [PW]
theorem PW_below (w : World) (b : Nat) (k a n : Int) (s : ByteArray) (kp : Option Addr) (kl kc : Nat) : Below w.heap.size w (PW w b k a n s kp kl kc) := ((((Below.refl _ _).alloc (Nat.le_refl _) _).alloc (by simp) _).alloc (by simp <;> omega) _).alloc (by simp <;> omega) _
theorem PW_cells (w : World) (b : Nat) (k a n : Int) (s : ByteArray) (kp : Option Addr) (kl kc : Nat) :
 (PW w b k a n s kp kl kc).cell? ⟨w.heap.size, 0, none⟩ = some (.pointer (some ⟨b, 0, none⟩)) ∧ (PW w b k a n s kp kl kc).cell? ⟨w.heap.size + 1, 0, none⟩ = some (.int .u8 k) ∧ (PW w b k a n s kp kl kc).cell? ⟨w.heap.size + 1, 2, none⟩ = some (.string s) ∧ (PW w b k a n s kp kl kc).cell? ⟨w.heap.size + 1, 3, none⟩ = some (.int .i64 n) ∧ (PW w b k a n s kp kl kc).cell? ⟨w.heap.size + 1, 4, none⟩ = some (.slice kp kl kc) ∧ (PW w b k a n s kp kl kc).cell? ⟨w.heap.size + 1 + 1, 0, none⟩ = some (.int .u8 k) ∧ (PW w b k a n s kp kl kc).cell? ⟨w.heap.size + 1 + 1 + 1, 0, none⟩ = some (.func (.func 228) #[] #[.pointer (some ⟨w.heap.size + 1 + 1, 0, none⟩)]) := by
 have h1 := heap_alloc_new w (.cells #[.pointer (some ⟨b, 0, none⟩)] 163)
 have h2 := heap_alloc_new (w.alloc (.cells #[.pointer (some ⟨b, 0, none⟩)] 163)) (.cells #[.int .u8 k, .int .i64 a, .string s, .int .i64 n, .slice kp kl kc] 54)
 have h3 := heap_alloc_new ((w.alloc (.cells #[.pointer (some ⟨b, 0, none⟩)] 163)).alloc (.cells #[.int .u8 k, .int .i64 a, .string s, .int .i64 n, .slice kp kl kc] 54)) (.cells #[.int .u8 k] 5)
 have h4 := heap_alloc_new (((w.alloc (.cells #[.pointer (some ⟨b, 0, none⟩)] 163)).alloc (.cells #[.int .u8 k, .int .i64 a, .string s, .int .i64 n, .slice kp kl kc] 54)).alloc (.cells #[.int .u8 k] 5)) (.cells #[.func (.func 228) #[] #[.pointer (some ⟨w.heap.size + 1 + 1, 0, none⟩)]] 245)
 simp only [World.size_alloc] at h2 h3 h4
 have g1 : (PW w b k a n s kp kl kc).heap[w.heap.size]? = _ := ((Below.heap_alloc _ _ _ (by simp <;> omega)).trans ((Below.heap_alloc _ _ _ (by simp <;> omega)).trans (Below.heap_alloc _ _ _ (by simp)))).trans h1
 have g2 : (PW w b k a n s kp kl kc).heap[w.heap.size + 1]? = _ := ((Below.heap_alloc _ _ _ (by simp <;> omega)).trans (Below.heap_alloc _ _ _ (by simp))).trans h2
 have g3 : (PW w b k a n s kp kl kc).heap[w.heap.size + 1 + 1]? = _ := (Below.heap_alloc _ _ _ (by simp)).trans h3
 clear h1 h2 h3
 exact ⟨by rw [cell_of_row _ _ _ _ _ _ g1]; first | done | rfl, by rw [cell_of_row _ _ _ _ _ _ g2]; first | done | rfl, by rw [cell_of_row _ _ _ _ _ _ g2]; first | done | rfl, by rw [cell_of_row _ _ _ _ _ _ g2]; first | done | rfl, by rw [cell_of_row _ _ _ _ _ _ g2]; first | done | rfl, by rw [cell_of_row _ _ _ _ _ _ g3]; first | done | rfl, by rw [cell_of_row _ _ _ _ _ _ h4]; first | done | rfl⟩
theorem piecesO (w : World) (b : Nat) (p : Option Addr) (len c : Nat) (ns : List Nd) (k : Int) (hk : (k == 20) = false ∧ (k == 21) = false ∧ (k == 23) = false ∧ (k == 24) = false ∧ (k == 25) = false ∧ (k == 26) = false) (a n : Int) (s : ByteArray) (kp : Option Addr) (kl kc : Nat) (ks : List Int) (hA : NodeArg w b p len c ns kp kl kc ks) :
 Calls Tryz.prog 112 #[.pointer (some ⟨b, 0, none⟩), .agg #[.int .u8 k, .int .i64 a, .string s, .int .i64 n, .slice kp kl kc]] w fun e w' => (∃ v, e = .returned v ∧ PcsAt w w' v [pcT s]) ∧ Below w.heap.size w w' := by
 have hPB := PW_below w b k a n s kp kl kc
 have HPS := lh (PW_size w b k a n s kp kl kc)
 obtain ⟨e0, e1, e2, e3, e4, e5, e6⟩ := PW_cells w b k a n s kp kl kc
 have HA := lh (hA.on hPB)
 have HPB := lh hPB
 obtain ⟨f0, f1, f2, f3, f4, f5⟩ := hk
 clear hA hPB
 go_enter Tryz.func112, Tryz.ntmps112
 go_wp2_with fail
 (with_reducible refine (brackets_at _ _).mono ?_)
 rintro e wk ⟨rfl, rfl⟩
 go_upto_region 16 with fail
 obtain ⟨W4, hW4⟩ : ∃ W4, (((w.alloc (.cells #[.pointer (some ⟨b, 0, none⟩)] 163)).alloc (.cells #[.int .u8 k, .int .i64 a, .string s, .int .i64 n, .slice kp kl kc] 54)).alloc (.cells #[.int .u8 k] 5)).alloc (.cells #[.func (.func 228) #[] #[.pointer (some ⟨w.heap.size + 1 + 1, 0, none⟩)]] 245) = W4 := ⟨_, rfl⟩
 rw [hW4]
 rw [show PW w b k a n s kp kl kc = W4 from hW4] at e0 e1 e2 e3 e4 e5 e6 HPB HPS
 clear hW4
 go_wp2_with fail
 go_ret
 exact ⟨⟨_, rfl, _, rfl, heap_alloc_new W4 _, by have := ((Below.refl W4.heap.size W4)).size; have := HPS.out; omega, by simp⟩, (HPB.out.trans (((Below.refl W4.heap.size W4)).mono HPB.out.size)).trans ((one_below W4 _).mono (by have := ((Below.refl W4.heap.size W4)).size; have := HPS.out; omega))⟩
theorem piecesN (w : World) (b : Nat) (p : Option Addr) (len c : Nat) (ns : List Nd) (a n : Int) (s : ByteArray) (kp : Option Addr) (kl kc : Nat) (ks : List Int) (hA : NodeArg w b p len c ns kp kl kc ks) (hn : 0 ≤ n ∧ n ≤ 2147483647) (ht : PT10 w) :
 Calls Tryz.prog 112 #[.pointer (some ⟨b, 0, none⟩), .agg #[.int .u8 21, .int .i64 a, .string s, .int .i64 n, .slice kp kl kc]] w fun e w' => (∃ v, e = .returned v ∧ PcsAt w w' v [pcT (numT n)]) ∧ Below w.heap.size w w' := by
 have hPB := PW_below w b 21 a n s kp kl kc
 have HPS := lh (PW_size w b 21 a n s kp kl kc)
 obtain ⟨e0, e1, e2, e3, e4, e5, e6⟩ := PW_cells w b 21 a n s kp kl kc
 have HA := lh (hA.on hPB)
 have HPB := lh hPB
 have FM := lh (fun w' hb => fmt_at w' n hn.1 hn.2 ((ht.below HPB.out).below hb))
 clear hA hPB
 go_enter Tryz.func112, Tryz.ntmps112
 go_wp2_with fail
 (with_reducible refine (brackets_at _ _).mono ?_)
 rintro e wk ⟨rfl, rfl⟩
 go_upto_region 7 with fail
 obtain ⟨W4, hW4⟩ : ∃ W4, (((w.alloc (.cells #[.pointer (some ⟨b, 0, none⟩)] 163)).alloc (.cells #[.int .u8 21, .int .i64 a, .string s, .int .i64 n, .slice kp kl kc] 54)).alloc (.cells #[.int .u8 21] 5)).alloc (.cells #[.func (.func 228) #[] #[.pointer (some ⟨w.heap.size + 1 + 1, 0, none⟩)]] 245) = W4 := ⟨_, rfl⟩
 rw [hW4]
 rw [show PW w b 21 a n s kp kl kc = W4 from hW4] at e0 e1 e2 e3 e4 e5 e6 HPB HPS FM
 clear hW4
 go_wp2_with fail
 (with_reducible refine (FM.out _ (Below.refl W4.heap.size W4)).mono ?_)
 rintro e w5 ⟨rfl, hb5⟩
 have B5 := lh hb5
 clear hb5
 go_wp2_with fail
 go_ret
 exact ⟨⟨_, rfl, _, rfl, heap_alloc_new w5 _, by have := (B5.out).size; have := HPS.out; omega, by simp⟩, (HPB.out.trans ((B5.out).mono HPB.out.size)).trans ((one_below w5 _).mono (by have := (B5.out).size; have := HPS.out; omega))⟩
theorem pieces23 (w : World) (b : Nat) (p : Option Addr) (len c : Nat) (ns : List Nd) (a n : Int) (s : ByteArray) (kp : Option Addr) (kl kc : Nat) (ks : List Int) (q0 : Nat) (y0 : Int) (hq0 : ks.getD 0 0 = (q0 : Int)) (hl0 : q0 < len) (hy0 : (ns.getD q0 default).kind = y0) (q1 : Nat) (y1 : Int) (hq1 : ks.getD 1 0 = (q1 : Int)) (hl1 : q1 < len) (hy1 : (ns.getD q1 default).kind = y1) (hkl : 2 ≤ kl) (hA : NodeArg w b p len c ns kp kl kc ks) :
 Calls Tryz.prog 112 #[.pointer (some ⟨b, 0, none⟩), .agg #[.int .u8 23, .int .i64 a, .string s, .int .i64 n, .slice kp kl kc]] w fun e w' => (∃ v, e = .returned v ∧ PcsAt w w' v [pcN q0 (br 23 false y0), pcT ⟨#[32, 43, 32]⟩, pcN q1 (br 23 true y1)]) ∧ Below w.heap.size w w' := by
 have hPB := PW_below w b 23 a n s kp kl kc
 have HPS := lh (PW_size w b 23 a n s kp kl kc)
 obtain ⟨e0, e1, e2, e3, e4, e5, e6⟩ := PW_cells w b 23 a n s kp kl kc
 have HA := lh (hA.on hPB)
 have HPB := lh hPB
 have HP0 : Hid (∀ w', Below (PW w b 23 a n s kp kl kc).heap.size (PW w b 23 a n s kp kl kc) w' → Calls Tryz.prog 179 #[.int .i64 0, .pointer (some ⟨w.heap.size + 1, 0, none⟩), .pointer (some ⟨w.heap.size + 1 + 1 + 1, 0, none⟩), .pointer (some ⟨w.heap.size, 0, none⟩)] w' fun e w'' => e = .returned (.agg #[.string ⟨#[]⟩, .int .i64 (q0 : Int), .bool (br 23 false y0)]) ∧ Below w'.heap.size w' w'') := lh (fun w' hb =>
  have hA2 := HA.out.on hb
  part_at w' _ _ _ (w.heap.size + 1 + 1) b 23 0 q0 y0 p len c kp kl kc ks ns (by rw [hb.cell (cellLt e4)]; exact e4) (by rw [hb.cell (cellLt e6)]; exact e6) (by rw [hb.cell (cellLt e0)]; exact e0) (by rw [hb.cell (cellLt e5)]; exact e5) hA2.c0 hA2.tv hA2.iv (by omega) hq0 hl0 hy0)
 have HP1 : Hid (∀ w', Below (PW w b 23 a n s kp kl kc).heap.size (PW w b 23 a n s kp kl kc) w' → Calls Tryz.prog 179 #[.int .i64 1, .pointer (some ⟨w.heap.size + 1, 0, none⟩), .pointer (some ⟨w.heap.size + 1 + 1 + 1, 0, none⟩), .pointer (some ⟨w.heap.size, 0, none⟩)] w' fun e w'' => e = .returned (.agg #[.string ⟨#[]⟩, .int .i64 (q1 : Int), .bool (br 23 true y1)]) ∧ Below w'.heap.size w' w'') := lh (fun w' hb =>
  have hA2 := HA.out.on hb
  part_at w' _ _ _ (w.heap.size + 1 + 1) b 23 1 q1 y1 p len c kp kl kc ks ns (by rw [hb.cell (cellLt e4)]; exact e4) (by rw [hb.cell (cellLt e6)]; exact e6) (by rw [hb.cell (cellLt e0)]; exact e0) (by rw [hb.cell (cellLt e5)]; exact e5) hA2.c0 hA2.tv hA2.iv (by omega) hq1 hl1 hy1)
 clear hA hPB
 go_enter Tryz.func112, Tryz.ntmps112
 go_wp2_with fail
 (with_reducible refine (brackets_at _ _).mono ?_)
 rintro e wk ⟨rfl, rfl⟩
 go_upto_region 9 with fail
 obtain ⟨W4, hW4⟩ : ∃ W4, (((w.alloc (.cells #[.pointer (some ⟨b, 0, none⟩)] 163)).alloc (.cells #[.int .u8 23, .int .i64 a, .string s, .int .i64 n, .slice kp kl kc] 54)).alloc (.cells #[.int .u8 23] 5)).alloc (.cells #[.func (.func 228) #[] #[.pointer (some ⟨w.heap.size + 1 + 1, 0, none⟩)]] 245) = W4 := ⟨_, rfl⟩
 rw [hW4]
 rw [show PW w b 23 a n s kp kl kc = W4 from hW4] at e0 e1 e2 e3 e4 e5 e6 HPB HPS HP0 HP1
 clear hW4
 go_wp2_with fail
 (with_reducible refine (HP0.out _ (Below.refl W4.heap.size W4)).mono ?_)
 rintro e w5 ⟨rfl, hb5⟩
 have B5 := lh hb5
 clear hb5
 have x0 := fun q (hq : q < W4.heap.size) o => B5.out.cell (p := ⟨q, o, none⟩) hq
 go_wp2_with fail
 (with_reducible refine (HP1.out _ B5.out).mono ?_)
 rintro e w6 ⟨rfl, hb6⟩
 have B6 := lh (B5.out.trans (hb6.mono B5.out.size))
 clear hb6
 go_wp2_with fail
 go_ret
 exact ⟨⟨_, rfl, _, rfl, heap_alloc_new w6 _, by have := (B6.out).size; have := HPS.out; omega, by simp⟩, (HPB.out.trans ((B6.out).mono HPB.out.size)).trans ((one_below w6 _).mono (by have := (B6.out).size; have := HPS.out; omega))⟩
theorem pieces24 (w : World) (b : Nat) (p : Option Addr) (len c : Nat) (ns : List Nd) (a n : Int) (s : ByteArray) (kp : Option Addr) (kl kc : Nat) (ks : List Int) (q0 : Nat) (y0 : Int) (hq0 : ks.getD 0 0 = (q0 : Int)) (hl0 : q0 < len) (hy0 : (ns.getD q0 default).kind = y0) (q1 : Nat) (y1 : Int) (hq1 : ks.getD 1 0 = (q1 : Int)) (hl1 : q1 < len) (hy1 : (ns.getD q1 default).kind = y1) (hkl : 2 ≤ kl) (hA : NodeArg w b p len c ns kp kl kc ks) :
 Calls Tryz.prog 112 #[.pointer (some ⟨b, 0, none⟩), .agg #[.int .u8 24, .int .i64 a, .string s, .int .i64 n, .slice kp kl kc]] w fun e w' => (∃ v, e = .returned v ∧ PcsAt w w' v [pcN q0 (br 24 false y0), pcT ⟨#[32, 45, 32]⟩, pcN q1 (br 24 true y1)]) ∧ Below w.heap.size w w' := by
 have hPB := PW_below w b 24 a n s kp kl kc
 have HPS := lh (PW_size w b 24 a n s kp kl kc)
 obtain ⟨e0, e1, e2, e3, e4, e5, e6⟩ := PW_cells w b 24 a n s kp kl kc
 have HA := lh (hA.on hPB)
 have HPB := lh hPB
 have HP0 : Hid (∀ w', Below (PW w b 24 a n s kp kl kc).heap.size (PW w b 24 a n s kp kl kc) w' → Calls Tryz.prog 179 #[.int .i64 0, .pointer (some ⟨w.heap.size + 1, 0, none⟩), .pointer (some ⟨w.heap.size + 1 + 1 + 1, 0, none⟩), .pointer (some ⟨w.heap.size, 0, none⟩)] w' fun e w'' => e = .returned (.agg #[.string ⟨#[]⟩, .int .i64 (q0 : Int), .bool (br 24 false y0)]) ∧ Below w'.heap.size w' w'') := lh (fun w' hb =>
  have hA2 := HA.out.on hb
  part_at w' _ _ _ (w.heap.size + 1 + 1) b 24 0 q0 y0 p len c kp kl kc ks ns (by rw [hb.cell (cellLt e4)]; exact e4) (by rw [hb.cell (cellLt e6)]; exact e6) (by rw [hb.cell (cellLt e0)]; exact e0) (by rw [hb.cell (cellLt e5)]; exact e5) hA2.c0 hA2.tv hA2.iv (by omega) hq0 hl0 hy0)
 have HP1 : Hid (∀ w', Below (PW w b 24 a n s kp kl kc).heap.size (PW w b 24 a n s kp kl kc) w' → Calls Tryz.prog 179 #[.int .i64 1, .pointer (some ⟨w.heap.size + 1, 0, none⟩), .pointer (some ⟨w.heap.size + 1 + 1 + 1, 0, none⟩), .pointer (some ⟨w.heap.size, 0, none⟩)] w' fun e w'' => e = .returned (.agg #[.string ⟨#[]⟩, .int .i64 (q1 : Int), .bool (br 24 true y1)]) ∧ Below w'.heap.size w' w'') := lh (fun w' hb =>
  have hA2 := HA.out.on hb
  part_at w' _ _ _ (w.heap.size + 1 + 1) b 24 1 q1 y1 p len c kp kl kc ks ns (by rw [hb.cell (cellLt e4)]; exact e4) (by rw [hb.cell (cellLt e6)]; exact e6) (by rw [hb.cell (cellLt e0)]; exact e0) (by rw [hb.cell (cellLt e5)]; exact e5) hA2.c0 hA2.tv hA2.iv (by omega) hq1 hl1 hy1)
 clear hA hPB
 go_enter Tryz.func112, Tryz.ntmps112
 go_wp2_with fail
 (with_reducible refine (brackets_at _ _).mono ?_)
 rintro e wk ⟨rfl, rfl⟩
 go_upto_region 11 with fail
 obtain ⟨W4, hW4⟩ : ∃ W4, (((w.alloc (.cells #[.pointer (some ⟨b, 0, none⟩)] 163)).alloc (.cells #[.int .u8 24, .int .i64 a, .string s, .int .i64 n, .slice kp kl kc] 54)).alloc (.cells #[.int .u8 24] 5)).alloc (.cells #[.func (.func 228) #[] #[.pointer (some ⟨w.heap.size + 1 + 1, 0, none⟩)]] 245) = W4 := ⟨_, rfl⟩
 rw [hW4]
 rw [show PW w b 24 a n s kp kl kc = W4 from hW4] at e0 e1 e2 e3 e4 e5 e6 HPB HPS HP0 HP1
 clear hW4
 go_wp2_with fail
 (with_reducible refine (HP0.out _ (Below.refl W4.heap.size W4)).mono ?_)
 rintro e w5 ⟨rfl, hb5⟩
 have B5 := lh hb5
 clear hb5
 have x0 := fun q (hq : q < W4.heap.size) o => B5.out.cell (p := ⟨q, o, none⟩) hq
 go_wp2_with fail
 (with_reducible refine (HP1.out _ B5.out).mono ?_)
 rintro e w6 ⟨rfl, hb6⟩
 have B6 := lh (B5.out.trans (hb6.mono B5.out.size))
 clear hb6
 go_wp2_with fail
 go_ret
 exact ⟨⟨_, rfl, _, rfl, heap_alloc_new w6 _, by have := (B6.out).size; have := HPS.out; omega, by simp⟩, (HPB.out.trans ((B6.out).mono HPB.out.size)).trans ((one_below w6 _).mono (by have := (B6.out).size; have := HPS.out; omega))⟩
theorem pieces25 (w : World) (b : Nat) (p : Option Addr) (len c : Nat) (ns : List Nd) (a n : Int) (s : ByteArray) (kp : Option Addr) (kl kc : Nat) (ks : List Int) (q0 : Nat) (y0 : Int) (hq0 : ks.getD 0 0 = (q0 : Int)) (hl0 : q0 < len) (hy0 : (ns.getD q0 default).kind = y0) (q1 : Nat) (y1 : Int) (hq1 : ks.getD 1 0 = (q1 : Int)) (hl1 : q1 < len) (hy1 : (ns.getD q1 default).kind = y1) (hkl : 2 ≤ kl) (hA : NodeArg w b p len c ns kp kl kc ks) :
 Calls Tryz.prog 112 #[.pointer (some ⟨b, 0, none⟩), .agg #[.int .u8 25, .int .i64 a, .string s, .int .i64 n, .slice kp kl kc]] w fun e w' => (∃ v, e = .returned v ∧ PcsAt w w' v [pcN q0 (br 25 false y0), pcT ⟨#[32, 42, 32]⟩, pcN q1 (br 25 true y1)]) ∧ Below w.heap.size w w' := by
 have hPB := PW_below w b 25 a n s kp kl kc
 have HPS := lh (PW_size w b 25 a n s kp kl kc)
 obtain ⟨e0, e1, e2, e3, e4, e5, e6⟩ := PW_cells w b 25 a n s kp kl kc
 have HA := lh (hA.on hPB)
 have HPB := lh hPB
 have HP0 : Hid (∀ w', Below (PW w b 25 a n s kp kl kc).heap.size (PW w b 25 a n s kp kl kc) w' → Calls Tryz.prog 179 #[.int .i64 0, .pointer (some ⟨w.heap.size + 1, 0, none⟩), .pointer (some ⟨w.heap.size + 1 + 1 + 1, 0, none⟩), .pointer (some ⟨w.heap.size, 0, none⟩)] w' fun e w'' => e = .returned (.agg #[.string ⟨#[]⟩, .int .i64 (q0 : Int), .bool (br 25 false y0)]) ∧ Below w'.heap.size w' w'') := lh (fun w' hb =>
  have hA2 := HA.out.on hb
  part_at w' _ _ _ (w.heap.size + 1 + 1) b 25 0 q0 y0 p len c kp kl kc ks ns (by rw [hb.cell (cellLt e4)]; exact e4) (by rw [hb.cell (cellLt e6)]; exact e6) (by rw [hb.cell (cellLt e0)]; exact e0) (by rw [hb.cell (cellLt e5)]; exact e5) hA2.c0 hA2.tv hA2.iv (by omega) hq0 hl0 hy0)
 have HP1 : Hid (∀ w', Below (PW w b 25 a n s kp kl kc).heap.size (PW w b 25 a n s kp kl kc) w' → Calls Tryz.prog 179 #[.int .i64 1, .pointer (some ⟨w.heap.size + 1, 0, none⟩), .pointer (some ⟨w.heap.size + 1 + 1 + 1, 0, none⟩), .pointer (some ⟨w.heap.size, 0, none⟩)] w' fun e w'' => e = .returned (.agg #[.string ⟨#[]⟩, .int .i64 (q1 : Int), .bool (br 25 true y1)]) ∧ Below w'.heap.size w' w'') := lh (fun w' hb =>
  have hA2 := HA.out.on hb
  part_at w' _ _ _ (w.heap.size + 1 + 1) b 25 1 q1 y1 p len c kp kl kc ks ns (by rw [hb.cell (cellLt e4)]; exact e4) (by rw [hb.cell (cellLt e6)]; exact e6) (by rw [hb.cell (cellLt e0)]; exact e0) (by rw [hb.cell (cellLt e5)]; exact e5) hA2.c0 hA2.tv hA2.iv (by omega) hq1 hl1 hy1)
 clear hA hPB
 go_enter Tryz.func112, Tryz.ntmps112
 go_wp2_with fail
 (with_reducible refine (brackets_at _ _).mono ?_)
 rintro e wk ⟨rfl, rfl⟩
 go_upto_region 13 with fail
 obtain ⟨W4, hW4⟩ : ∃ W4, (((w.alloc (.cells #[.pointer (some ⟨b, 0, none⟩)] 163)).alloc (.cells #[.int .u8 25, .int .i64 a, .string s, .int .i64 n, .slice kp kl kc] 54)).alloc (.cells #[.int .u8 25] 5)).alloc (.cells #[.func (.func 228) #[] #[.pointer (some ⟨w.heap.size + 1 + 1, 0, none⟩)]] 245) = W4 := ⟨_, rfl⟩
 rw [hW4]
 rw [show PW w b 25 a n s kp kl kc = W4 from hW4] at e0 e1 e2 e3 e4 e5 e6 HPB HPS HP0 HP1
 clear hW4
 go_wp2_with fail
 (with_reducible refine (HP0.out _ (Below.refl W4.heap.size W4)).mono ?_)
 rintro e w5 ⟨rfl, hb5⟩
 have B5 := lh hb5
 clear hb5
 have x0 := fun q (hq : q < W4.heap.size) o => B5.out.cell (p := ⟨q, o, none⟩) hq
 go_wp2_with fail
 (with_reducible refine (HP1.out _ B5.out).mono ?_)
 rintro e w6 ⟨rfl, hb6⟩
 have B6 := lh (B5.out.trans (hb6.mono B5.out.size))
 clear hb6
 go_wp2_with fail
 go_ret
 exact ⟨⟨_, rfl, _, rfl, heap_alloc_new w6 _, by have := (B6.out).size; have := HPS.out; omega, by simp⟩, (HPB.out.trans ((B6.out).mono HPB.out.size)).trans ((one_below w6 _).mono (by have := (B6.out).size; have := HPS.out; omega))⟩
theorem piecesR (w : World) (b : Nat) (p : Option Addr) (len c : Nat) (ns : List Nd) (a n : Int) (s : ByteArray) (kp : Option Addr) (kl kc : Nat) (ks : List Int) (q0 : Nat) (y0 : Int) (hq0 : ks.getD 0 0 = (q0 : Int)) (hl0 : q0 < len) (hy0 : (ns.getD q0 default).kind = y0) (hkl : 1 ≤ kl) (hA : NodeArg w b p len c ns kp kl kc ks) :
 Calls Tryz.prog 112 #[.pointer (some ⟨b, 0, none⟩), .agg #[.int .u8 20, .int .i64 a, .string s, .int .i64 n, .slice kp kl kc]] w fun e w' => (∃ v, e = .returned v ∧ PcsAt w w' v [pcT s, pcT ⟨#[91]⟩, pcN q0 (br 20 false y0), pcT ⟨#[93]⟩]) ∧ Below w.heap.size w w' := by
 have hPB := PW_below w b 20 a n s kp kl kc
 have HPS := lh (PW_size w b 20 a n s kp kl kc)
 obtain ⟨e0, e1, e2, e3, e4, e5, e6⟩ := PW_cells w b 20 a n s kp kl kc
 have HA := lh (hA.on hPB)
 have HPB := lh hPB
 have HP0 : Hid (∀ w', Below (PW w b 20 a n s kp kl kc).heap.size (PW w b 20 a n s kp kl kc) w' → Calls Tryz.prog 179 #[.int .i64 0, .pointer (some ⟨w.heap.size + 1, 0, none⟩), .pointer (some ⟨w.heap.size + 1 + 1 + 1, 0, none⟩), .pointer (some ⟨w.heap.size, 0, none⟩)] w' fun e w'' => e = .returned (.agg #[.string ⟨#[]⟩, .int .i64 (q0 : Int), .bool (br 20 false y0)]) ∧ Below w'.heap.size w' w'') := lh (fun w' hb =>
  have hA2 := HA.out.on hb
  part_at w' _ _ _ (w.heap.size + 1 + 1) b 20 0 q0 y0 p len c kp kl kc ks ns (by rw [hb.cell (cellLt e4)]; exact e4) (by rw [hb.cell (cellLt e6)]; exact e6) (by rw [hb.cell (cellLt e0)]; exact e0) (by rw [hb.cell (cellLt e5)]; exact e5) hA2.c0 hA2.tv hA2.iv (by omega) hq0 hl0 hy0)
 have hbd : Below (PW w b 20 a n s kp kl kc).heap.size (PW w b 20 a n s kp kl kc) (PW w b 20 a n s kp kl kc).drew := (Below.refl _ _).drew
 clear hA hPB
 go_enter Tryz.func112, Tryz.ntmps112
 go_wp2_with fail
 (with_reducible refine (brackets_at _ _).mono ?_)
 rintro e wk ⟨rfl, rfl⟩
 go_upto_region 5 with fail
 obtain ⟨W4, hW4⟩ : ∃ W4, (((w.alloc (.cells #[.pointer (some ⟨b, 0, none⟩)] 163)).alloc (.cells #[.int .u8 20, .int .i64 a, .string s, .int .i64 n, .slice kp kl kc] 54)).alloc (.cells #[.int .u8 20] 5)).alloc (.cells #[.func (.func 228) #[] #[.pointer (some ⟨w.heap.size + 1 + 1, 0, none⟩)]] 245) = W4 := ⟨_, rfl⟩
 rw [hW4]
 rw [show PW w b 20 a n s kp kl kc = W4 from hW4] at e0 e1 e2 e3 e4 e5 e6 HPB HPS HP0 hbd
 clear hW4
 have HR : Hid (∀ w', Below W4.heap.size W4 w' → Calls Tryz.prog 179 #[.int .i64 0, .pointer (some ⟨w.heap.size + 1, 0, none⟩), .pointer (some ⟨w.heap.size + 1 + 1 + 1, 0, none⟩), .pointer (some ⟨w.heap.size, 0, none⟩)] w' fun e w'' => e = .returned (.agg #[.string ⟨#[]⟩, .int .i64 (q0 : Int), .bool (br 20 false y0)]) ∧ w''.cell? ⟨w.heap.size + 1, 2, none⟩ = some (.string s) ∧ Below W4.heap.size W4 w'') := lh (fun w' hb => (HP0.out w' hb).mono fun e w'' ⟨he, hb2⟩ => ⟨he, by rw [(hb.trans (hb2.mono hb.size)).cell (cellLt e2)]; exact e2, hb.trans (hb2.mono hb.size)⟩)
 clear HP0
 go_region_held3 (fun w' => w'.cell? ⟨w.heap.size + 1, 2, none⟩ = some (.string s)) (go_keep) (first | (go_at_call 179; (with_reducible refine (HR.out _ ?_).mono ?_); (exact hbd); rintro e w5 ⟨rfl, r0, rb⟩))
 have RB := lh rb
 clear rb
 go_wp2_with fail
 go_ret
 exact ⟨⟨_, rfl, _, rfl, heap_alloc_new w5 _, by have := RB.out.size; have := HPS.out; omega, by simp⟩, (HPB.out.trans (RB.out.mono HPB.out.size)).trans ((one_below w5 _).mono (by have := RB.out.size; have := HPS.out; omega))⟩
theorem pieces26 (w : World) (b : Nat) (p : Option Addr) (len c : Nat) (ns : List Nd) (a n : Int) (s : ByteArray) (kp : Option Addr) (kl kc : Nat) (ks : List Int) (q0 : Nat) (y0 : Int) (hq0 : ks.getD 0 0 = (q0 : Int)) (hl0 : q0 < len) (hy0 : (ns.getD q0 default).kind = y0) (hkl : 1 ≤ kl) (hA : NodeArg w b p len c ns kp kl kc ks) :
 Calls Tryz.prog 112 #[.pointer (some ⟨b, 0, none⟩), .agg #[.int .u8 26, .int .i64 a, .string s, .int .i64 n, .slice kp kl kc]] w fun e w' => (∃ v, e = .returned v ∧ PcsAt w w' v [pcT ⟨#[45]⟩, pcN q0 (br 26 false y0)]) ∧ Below w.heap.size w w' := by
 have hPB := PW_below w b 26 a n s kp kl kc
 have HPS := lh (PW_size w b 26 a n s kp kl kc)
 obtain ⟨e0, e1, e2, e3, e4, e5, e6⟩ := PW_cells w b 26 a n s kp kl kc
 have HA := lh (hA.on hPB)
 have HPB := lh hPB
 have HP0 : Hid (∀ w', Below (PW w b 26 a n s kp kl kc).heap.size (PW w b 26 a n s kp kl kc) w' → Calls Tryz.prog 179 #[.int .i64 0, .pointer (some ⟨w.heap.size + 1, 0, none⟩), .pointer (some ⟨w.heap.size + 1 + 1 + 1, 0, none⟩), .pointer (some ⟨w.heap.size, 0, none⟩)] w' fun e w'' => e = .returned (.agg #[.string ⟨#[]⟩, .int .i64 (q0 : Int), .bool (br 26 false y0)]) ∧ Below w'.heap.size w' w'') := lh (fun w' hb =>
  have hA2 := HA.out.on hb
  part_at w' _ _ _ (w.heap.size + 1 + 1) b 26 0 q0 y0 p len c kp kl kc ks ns (by rw [hb.cell (cellLt e4)]; exact e4) (by rw [hb.cell (cellLt e6)]; exact e6) (by rw [hb.cell (cellLt e0)]; exact e0) (by rw [hb.cell (cellLt e5)]; exact e5) hA2.c0 hA2.tv hA2.iv (by omega) hq0 hl0 hy0)
 clear hA hPB
 go_enter Tryz.func112, Tryz.ntmps112
 go_wp2_with fail
 (with_reducible refine (brackets_at _ _).mono ?_)
 rintro e wk ⟨rfl, rfl⟩
 go_upto_region 15 with fail
 obtain ⟨W4, hW4⟩ : ∃ W4, (((w.alloc (.cells #[.pointer (some ⟨b, 0, none⟩)] 163)).alloc (.cells #[.int .u8 26, .int .i64 a, .string s, .int .i64 n, .slice kp kl kc] 54)).alloc (.cells #[.int .u8 26] 5)).alloc (.cells #[.func (.func 228) #[] #[.pointer (some ⟨w.heap.size + 1 + 1, 0, none⟩)]] 245) = W4 := ⟨_, rfl⟩
 rw [hW4]
 rw [show PW w b 26 a n s kp kl kc = W4 from hW4] at e0 e1 e2 e3 e4 e5 e6 HPB HPS HP0
 clear hW4
 go_wp2_with fail
 (with_reducible refine (HP0.out _ (Below.refl W4.heap.size W4)).mono ?_)
 rintro e w5 ⟨rfl, hb5⟩
 have B5 := lh hb5
 clear hb5
 go_wp2_with fail
 go_ret
 exact ⟨⟨_, rfl, _, rfl, heap_alloc_new w5 _, by have := (B5.out).size; have := HPS.out; omega, by simp⟩, (HPB.out.trans ((B5.out).mono HPB.out.size)).trans ((one_below w5 _).mono (by have := (B5.out).size; have := HPS.out; omega))⟩
theorem heads_ge : ∀ (ks : List Ast) (o j : Nat), j < ks.length → (o : Int) ≤ (heads o ks).getD j 0
 | [], _, j, h => absurd h (by simp)
 | x :: r, o, 0, _ => by simp [heads]
 | x :: r, o, j + 1, h => by
  have := heads_ge r (o + x.size) j (by simpa using h)
  simp only [heads, List.getD_cons_succ]
  omega
def PcOk (ns : List Nd) (pc : Pc) (T : ByteArray) (m : Nat) : Prop := (pc.node = 0 ∧ T = pc.text ∧ m = 1) ∨ ∃ (q : Nat) (y : Ast), pc.node = (q : Int) ∧ 0 < q ∧ On ns q y ∧ isTx y ∧ wfR y ∧ T = inB pc.brk (exT y) ∧ m = 16 * y.size + (if pc.brk then 3 else 0)
inductive Told (ns : List Nd) : List Pc → ByteArray → Nat → Prop
 | nil : Told ns [] none0 0
 | cons {pc : Pc} {T : ByteArray} {m : Nat} {l : List Pc} {S : ByteArray} {k : Nat} : PcOk ns pc T m → Told ns l S k → Told ns (pc :: l) (T ++ S) (m + k)
theorem Told.append {ns : List Nd} {l : List Pc} {S : ByteArray} {k : Nat} (h : Told ns l S k) {l' : List Pc} {S' : ByteArray} {k' : Nat} (h' : Told ns l' S' k') : Told ns (l ++ l') (S ++ S') (k + k') := by
 induction h with
 | nil => rw [none_app, Nat.zero_add]; exact h'
 | cons hp _ ih => rw [app_assoc, Nat.add_assoc]; exact Told.cons hp ih
theorem told_one {ns : List Nd} {pc : Pc} {T : ByteArray} {m : Nat} (h : PcOk ns pc T m) : Told ns [pc] T m := by
 have := Told.cons h Told.nil
 rwa [app_none] at this
theorem pc_text (ns : List Nd) (s : ByteArray) : PcOk ns (pcT s) s 1 := Or.inl ⟨rfl, rfl, rfl⟩
theorem pc_node {ns : List Nd} {q : Nat} {y : Ast} (hq : 0 < q) (hO : On ns q y) (hx : isTx y) (hw : wfR y) (b : Bool) : PcOk ns (pcN q b) (inB b (exT y)) (16 * y.size + (if b then 3 else 0)) := Or.inr ⟨q, y, rfl, hq, hO, hx, hw, rfl, rfl⟩
theorem br_le (b : Bool) : (if b then 3 else 0) ≤ 3 := by cases b <;> decide
theorem ex_tx {y : Ast} (h : isExprK y.kind = true) : isTx y := Or.inr (by have := (isExprK_iff _).1 h; omega)
theorem pieces_at (w : World) (b : Nat) (p : Option Addr) (len c : Nat) (ns : List Nd) (o : Nat) (k : Int) (a0 : Nat) (s : ByteArray) (n : Int) (kids : List Ast) (a : Int) (kp : Option Addr) (kl kc : Nat) (hO : On ns o (.mk k a0 s n kids)) (hw : wfR (.mk k a0 s n kids)) (hx : isTx (.mk k a0 s n kids)) (ht : PT10 w) (hA : NodeArg w b p len c ns kp kl kc (heads (o + 1) kids)) :
 Calls Tryz.prog 112 #[.pointer (some ⟨b, 0, none⟩), .agg #[.int .u8 k, .int .i64 a, .string s, .int .i64 n, .slice kp kl kc]] w fun e w' => (∃ v l, e = .returned v ∧ PcsAt w w' v l ∧ ∃ m, Told ns l (exT (.mk k a0 s n kids)) m ∧ m < 16 * (Ast.mk k a0 s n kids).size ∧ l.length ≤ 4) ∧ Below w.heap.size w w' := by
 have hle := hA.tv.len_eq
 have hkl : kids.length = kl := by rw [← hA.iv.len_eq, heads_length]
 have hp := hw.parts
 have hK : ∀ j (hj : j < kids.length), ∃ q : Nat, (heads (o + 1) kids).getD j 0 = (q : Int) ∧ 0 < q ∧ q < len ∧ On ns q kids[j] ∧ (ns.getD q default).kind = kids[j].kind := fun j hj => by
  obtain ⟨q, h1, h2, h3⟩ := hO.kid j hj
  have h4 := heads_ge kids (o + 1) j hj
  exact ⟨q, h1, by omega, by omega, h3, h3.kind⟩
 have hc : k = 20 ∨ k = 21 ∨ k = 23 ∨ k = 24 ∨ k = 25 ∨ k = 26 ∨ (k = 5 ∨ k = 22) := by
  have h1 : k = 5 ∨ 20 ≤ k := hx
  omega
 rcases hc with rfl | rfl | rfl | rfl | rfl | rfl | hc
 · obtain ⟨x, rfl, hx1⟩ := shape1 (show isR (kids.map Ast.kind) [0] = true from hp.2.2.2)
   obtain ⟨q0, a1, a2, a3, a4, a5⟩ := hK 0 (by simp)
   simp only [List.getElem_cons_zero] at a4 a5
   refine (piecesR w b p len c ns a n s kp kl kc _ q0 _ a1 a3 a5 (by simp at hkl; omega) hA).mono fun e w' ⟨⟨v, he, hv⟩, hb⟩ => ⟨⟨v, _, he, hv, 1 + (1 + (16 * x.size + (if br 20 false x.kind then 3 else 0) + 1)), ?_, ?_, by simp⟩, hb⟩
   · have h := Told.cons (pc_text ns s) (Told.cons (pc_text ns ⟨#[91]⟩) (Told.cons (pc_node a2 a4 (ex_tx hx1) hw.2.1 (br 20 false x.kind)) (told_one (pc_text ns ⟨#[93]⟩))))
     have e1 : s ++ (⟨#[91]⟩ ++ (inB (br 20 false x.kind) (exT x) ++ ⟨#[93]⟩)) = exT (.mk 20 a0 s n [x]) := by
      show _ = s ++ ⟨#[91]⟩ ++ inB (br 20 (0 == 1) x.kind) (exT x) ++ ⟨#[93]⟩
      rw [app_assoc, app_assoc]
      rfl
     rw [e1] at h
     exact h
   · have : br 20 false x.kind = false := by unfold br; split <;> simp
     rw [this]
     simp only [Ast.size, sizeL]
     simp
     omega
 · obtain rfl := shape0 (show decide ((kids.map Ast.kind).length = 0) = true from hp.2.2.2)
   exact (piecesN w b p len c ns a n s kp kl kc _ hA ⟨hp.2.1.1, hp.2.1.2⟩ ht).mono fun e w' ⟨⟨v, he, hv⟩, hb⟩ => ⟨⟨v, _, he, hv, _, told_one (pc_text ns _), by simp [Ast.size, sizeL], by simp⟩, hb⟩
 · obtain ⟨x, y, rfl, hx1, hy1⟩ := shape2 (show isR (kids.map Ast.kind) [0, 0] = true from hp.2.2.2)
   obtain ⟨q0, a1, a2, a3, a4, a5⟩ := hK 0 (by simp)
   obtain ⟨q1, b1, b2, b3, b4, b5⟩ := hK 1 (by simp)
   simp only [List.getElem_cons_zero, List.getElem_cons_succ] at a4 a5 b4 b5
   have h := (told_one (pc_node a2 a4 (ex_tx hx1) hw.2.1 (br 23 false x.kind))).append (Told.cons (pc_text ns ⟨#[32, 43, 32]⟩) (told_one (pc_node b2 b4 (ex_tx hy1) hw.2.2.1 (br 23 true y.kind))))
   have e1 : inB (br 23 false x.kind) (exT x) ++ (⟨#[32, 43, 32]⟩ ++ inB (br 23 true y.kind) (exT y)) = exT (.mk 23 a0 s n [x, y]) := by
    show _ = inB (br 23 (0 == 1) x.kind) (exT x) ++ markT 23 ++ inB (br 23 (1 == 1) y.kind) (exT y)
    rw [app_assoc]
    rfl
   rw [e1] at h
   refine (pieces23 w b p len c ns a n s kp kl kc _ q0 _ a1 a3 a5 q1 _ b1 b3 b5 (by simp at hkl; omega) hA).mono fun e w' ⟨⟨v, he, hv⟩, hb⟩ => ⟨⟨v, _, he, hv, _, h, ?_, by simp⟩, hb⟩
   have := br_le (br 23 false x.kind)
   have := br_le (br 23 true y.kind)
   simp only [Ast.size, sizeL]
   omega
 · obtain ⟨x, y, rfl, hx1, hy1⟩ := shape2 (show isR (kids.map Ast.kind) [0, 0] = true from hp.2.2.2)
   obtain ⟨q0, a1, a2, a3, a4, a5⟩ := hK 0 (by simp)
   obtain ⟨q1, b1, b2, b3, b4, b5⟩ := hK 1 (by simp)
   simp only [List.getElem_cons_zero, List.getElem_cons_succ] at a4 a5 b4 b5
   have h := (told_one (pc_node a2 a4 (ex_tx hx1) hw.2.1 (br 24 false x.kind))).append (Told.cons (pc_text ns ⟨#[32, 45, 32]⟩) (told_one (pc_node b2 b4 (ex_tx hy1) hw.2.2.1 (br 24 true y.kind))))
   have e1 : inB (br 24 false x.kind) (exT x) ++ (⟨#[32, 45, 32]⟩ ++ inB (br 24 true y.kind) (exT y)) = exT (.mk 24 a0 s n [x, y]) := by
    show _ = inB (br 24 (0 == 1) x.kind) (exT x) ++ markT 24 ++ inB (br 24 (1 == 1) y.kind) (exT y)
    rw [app_assoc]
    rfl
   rw [e1] at h
   refine (pieces24 w b p len c ns a n s kp kl kc _ q0 _ a1 a3 a5 q1 _ b1 b3 b5 (by simp at hkl; omega) hA).mono fun e w' ⟨⟨v, he, hv⟩, hb⟩ => ⟨⟨v, _, he, hv, _, h, ?_, by simp⟩, hb⟩
   have := br_le (br 24 false x.kind)
   have := br_le (br 24 true y.kind)
   simp only [Ast.size, sizeL]
   omega
 · obtain ⟨x, y, rfl, hx1, hy1⟩ := shape2 (show isR (kids.map Ast.kind) [0, 0] = true from hp.2.2.2)
   obtain ⟨q0, a1, a2, a3, a4, a5⟩ := hK 0 (by simp)
   obtain ⟨q1, b1, b2, b3, b4, b5⟩ := hK 1 (by simp)
   simp only [List.getElem_cons_zero, List.getElem_cons_succ] at a4 a5 b4 b5
   have h := (told_one (pc_node a2 a4 (ex_tx hx1) hw.2.1 (br 25 false x.kind))).append (Told.cons (pc_text ns ⟨#[32, 42, 32]⟩) (told_one (pc_node b2 b4 (ex_tx hy1) hw.2.2.1 (br 25 true y.kind))))
   have e1 : inB (br 25 false x.kind) (exT x) ++ (⟨#[32, 42, 32]⟩ ++ inB (br 25 true y.kind) (exT y)) = exT (.mk 25 a0 s n [x, y]) := by
    show _ = inB (br 25 (0 == 1) x.kind) (exT x) ++ markT 25 ++ inB (br 25 (1 == 1) y.kind) (exT y)
    rw [app_assoc]
    rfl
   rw [e1] at h
   refine (pieces25 w b p len c ns a n s kp kl kc _ q0 _ a1 a3 a5 q1 _ b1 b3 b5 (by simp at hkl; omega) hA).mono fun e w' ⟨⟨v, he, hv⟩, hb⟩ => ⟨⟨v, _, he, hv, _, h, ?_, by simp⟩, hb⟩
   have := br_le (br 25 false x.kind)
   have := br_le (br 25 true y.kind)
   simp only [Ast.size, sizeL]
   omega
 · obtain ⟨x, rfl, hx1⟩ := shape1 (show isR (kids.map Ast.kind) [0] = true from hp.2.2.2)
   obtain ⟨q0, a1, a2, a3, a4, a5⟩ := hK 0 (by simp)
   simp only [List.getElem_cons_zero] at a4 a5
   refine (pieces26 w b p len c ns a n s kp kl kc _ q0 _ a1 a3 a5 (by simp at hkl; omega) hA).mono fun e w' ⟨⟨v, he, hv⟩, hb⟩ => ⟨⟨v, _, he, hv, _, Told.cons (pc_text ns _) (told_one (pc_node a2 a4 (ex_tx hx1) hw.2.1 _)), ?_, by simp⟩, hb⟩
   have := br_le (br 26 false x.kind)
   simp only [Ast.size, sizeL]
   omega
 · have hk : (k == 20) = false ∧ (k == 21) = false ∧ (k == 23) = false ∧ (k == 24) = false ∧ (k == 25) = false ∧ (k == 26) = false := by rcases hc with rfl | rfl <;> decide
   have e1 : exT (.mk k a0 s n kids) = s := by rcases hc with rfl | rfl <;> rfl
   rw [e1]
   exact (piecesO w b p len c ns k hk a n s kp kl kc _ hA).mono fun e w' ⟨⟨v, he, hv⟩, hb⟩ => ⟨⟨v, _, he, hv, _, told_one (pc_text ns _), by have := ast_pos (.mk k a0 s n kids); omega, by simp⟩, hb⟩
end
end Go.Proofs.YthdioipfdbbmmaaGreatDoor
