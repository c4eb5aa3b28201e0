/- Contracts on the way to the laws of layer 5: PrintY, PrintZ, PrintZa, PrintEa. -/
import Derived.Test.YthdioipfdbbmmaaGreatDoorKaa
import Derived.Test.YthdioipfdbbmmaaGreatDoorKah
import Derived.Test.YthdioipfdbbmmaaGreatDoorKai
import Derived.Test.YthdioipfdbbmmaaGreatDoorKaw
import Derived.Test.YthdioipfdbbmmaaGreatDoorKaz
import Derived.Test.YthdioipfdbbmmaaGreatDoorKba
import Derived.Test.YthdioipfdbbmmaaGreatDoorKbb
import Derived.Test.YthdioipfdbbmmaaGreatDoorKbc
import Derived.Test.YthdioipfdbbmmaaGreatDoorKbd
import Derived.Test.YthdioipfdbbmmaaGreatDoorKbe
import Derived.Test.YthdioipfdbbmmaaGreatDoorKbf
import Derived.Test.YthdioipfdbbmmaaGreatDoorKbg
import Derived.Test.YthdioipfdbbmmaaGreatDoorKbh
import Derived.Test.YthdioipfdbbmmaaGreatDoorKbi
import Derived.Test.YthdioipfdbbmmaaGreatDoorKbk
set_option linter.all false
set_option maxRecDepth 1000000
set_option maxHeartbeats 16000000
namespace Go.Proofs.YthdioipfdbbmmaaGreatDoor
section
open Go.RowKit Tr Go.Shelf
theorem hasAl_of (ns : List Nd) (k : Int) (a : Nat) (s : ByteArray) (n : Int) (ks : List Ast) (ih : ∀ y ∈ ks, HasF ns stT y) : HasAl ns (.mk k a s n ks) := by
 intro d o w0 w b p len c most v L hT hO hw ht hlen hd hb hP hmost hfit
 have e : blT d (.mk k a s n ks) = catF stT d ks := stL_cat d ks
 rw [e] at hfit ⊢
 exact all_of ns stT k a s n ks ih d o w0 w b p len c most v L hT hO hw ht hlen hd hb hP hmost hfit
mutual
theorem write_at (ns : List Nd) : ∀ (m : Nat) (x : Ast), x.size ≤ m → wfR x → isStmtK x.kind = true → HasF ns stT x
 | 0, x, h, _, _ => absurd h (by have := ast_pos x; omega)
 | m + 1, .mk k a s n ks, h, hw, hk => by
  have h1 : sizeL ks ≤ m := by simp only [Ast.size] at h; omega
  have ih : ∀ y ∈ ks, y.kind = 6 → HasAl ns y := fun y hy hy6 => writeAll_at ns m y (Nat.le_trans (sizeL_mem hy) h1) (wfRL_mem hw.2 y hy) hy6
  have hp := hw.parts.2.2.2
  have hk1 : 7 ≤ k ∧ k ≤ 19 := by
   have h9 : isStmtK k = true := hk
   simpa [isStmtK] using h9
  have hkk : k = 7 ∨ k = 8 ∨ k = 9 ∨ k = 10 ∨ k = 11 ∨ k = 12 ∨ k = 13 ∨ k = 14 ∨ k = 15 ∨ k = 16 ∨ k = 17 ∨ k = 18 ∨ k = 19 := by omega
  clear hk hk1
  show HasW ns k a s n ks (fun d => stT d (.mk k a s n ks))
  rcases hkk with rfl | rfl | rfl | rfl | rfl | rfl | rfl | rfl | rfl | rfl | rfl | rfl | rfl
  · exact write7 ns a s n ks hp
  · exact write8 ns a s n ks hp
  · obtain ⟨x0, xs, rfl, h2, h3, h4⟩ := sh9 hp
    exact write9 ns a s n x0 xs h2 h3 h4
  · exact write10 ns a s n ks hp
  · exact write11 ns a s n ks hp
  · exact write12 ns a s n ks hp
  · rcases sh13 hp with hp | hp
    · first | exact write13 ns a s n ks hp | exact write13b ns a s n ks hp
    · first | exact write13 ns a s n ks hp | exact write13b ns a s n ks hp
  · refine write14 ns a s n ks _ ?_
    rcases sh14 hp with hp | hp
    · first | exact choice3 ns a s n ks hp ih | exact choice4 ns a s n ks hp ih
    · first | exact choice3 ns a s n ks hp ih | exact choice4 ns a s n ks hp ih
  · exact write15 ns a s n ks hp ih
  · exact write16 ns a s n ks hp
  · exact write17 ns a s n ks hp
  · exact write18 ns a s n ks
  · exact write19 ns a s n ks
theorem writeAll_at (ns : List Nd) : ∀ (m : Nat) (x : Ast), x.size ≤ m → wfR x → x.kind = 6 → HasAl ns x
 | 0, x, h, _, _ => absurd h (by have := ast_pos x; omega)
 | m + 1, .mk k a s n ks, h, hw, hk => by
  have h1 : sizeL ks ≤ m := by simp only [Ast.size] at h; omega
  refine hasAl_of ns k a s n ks fun y hy => write_at ns m y (Nat.le_trans (sizeL_mem hy) h1) (wfRL_mem hw.2 y hy) ?_
  have hk6 : k = 6 := hk
  subst hk6
  have h2 : (ks.map Ast.kind).all isStmtK = true := hw.parts.2.2.2
  exact List.all_eq_true.1 h2 _ (List.mem_map_of_mem hy)
end
end
section
open Go.RowKit Tr Go.Shelf
theorem part_of (ns : List Nd) (x : Ast) (hw : wfR x) (hk : x.kind = 2 ∨ x.kind = 3) : HasF ns partD x := by
 cases x with
 | mk k a s n ks =>
  have hp := hw.parts.2.2.2
  rcases hk with hk | hk
  · have hk2 : k = 2 := hk
    subst hk2
    refine write2 ns a s n ks fun x hx => ?_
    have h2 : (decide (0 < (ks.map Ast.kind).length) && (ks.map Ast.kind).all (· == 5)) = true := hp
    have h3 := Bool.and_eq_true_iff.1 h2
    have := List.all_eq_true.1 h3.2 _ (List.mem_map_of_mem hx)
    simpa using this
  · have hk2 : k = 3 := hk
    subst hk2
    have h2 : isR (ks.map Ast.kind) [4, 6] = true := hp
    obtain ⟨x0, x1, rfl, h0, h1⟩ := sh3 h2
    refine write3 ns a s n x0 x1 (fun y hy => ?_) h1 (writeAll_at ns x1.size x1 (Nat.le_refl _) hw.2.2.1 h1)
    cases x0 with
    | mk k0 a0 s0 n0 ks0 =>
     have hk0 : k0 = 4 := h0
     subst hk0
     have h4 : (ks0.map Ast.kind).all (· == 5) = true := hw.2.1.parts.2.2.2
     have := List.all_eq_true.1 h4 _ (List.mem_map_of_mem (f := Ast.kind) hy)
     simpa using this
theorem root_of (ns : List Nd) (a0 : Nat) (s0 : ByteArray) (n0 : Int) (ks : List Ast) (hO : On ns 0 (.mk 1 a0 s0 n0 ks)) (hw : wfR (.mk 1 a0 s0 n0 ks)) (w0 w : World) (b : Nat) (p : Option Addr) (len c : Nat) (v : Value) (hT : TV w0 p len c ns) (ht : PT10 w0) (hlen : len ≤ 70000) (hb : b = w0.heap.size)
 (hP : PrW w0 b (.slice p len c) 65536 v none0 w) (hfit : (progL ks).size ≤ 65536) :
 Calls Tryz.prog 54 #[.pointer (some ⟨b, 0, none⟩), .int .i64 0, .int .i64 0] w fun e w' => e = .returned (.tuple #[]) ∧ ∃ v', PrW w0 b (.slice p len c) 65536 v' (progL ks) w' := by
 have hk1 : (ks.map Ast.kind).all (fun k => k == 2 || k == 3) = true := hw.parts.2.2.2
 have hsz := hO.size
 have hle := hT.len_eq
 have h := all_of ns partD 1 a0 s0 n0 ks (fun y hy => part_of ns y (wfRL_mem hw.2 y hy) (by have := List.all_eq_true.1 hk1 _ (List.mem_map_of_mem hy); simpa using this)) 0 0 w0 w b p len c 65536 v none0 hT hO hw ht hlen (by omega) hb hP (by decide) (by rw [← progL_cat]; show ((0 + (progL ks).size : Nat) : Int) ≤ _; omega)
 rw [none_app, ← progL_cat] at h
 exact h
end
section
open Go.RowKit Tr Go.Shelf
theorem ownsRow_weaken {W : World} {B B' e size n : Nat} {v : Value} {xs : List Value} (h : W.ownsRow B e size v n xs) (hB : B' ≤ B) : W.ownsRow B' e size v n xs :=
 ⟨h.1, h.2.imp id fun ⟨g, cap, cur, h1, h2, h3⟩ => ⟨g, cap, cur, h1, Nat.le_trans hB h2, h3⟩⟩
theorem print_yes (w : World) (p : Option Addr) (len c : Nat) (ns : List Nd) (hT : TV w p len c ns) (hS : SmallT ns) (ht : PT10 w) (hr : rightP ns = true) (a0 : Nat) (s0 : ByteArray) (n0 : Int) (ks : List Ast) (hO : On ns 0 (.mk 1 a0 s0 n0 ks)) (hw : wfR (.mk 1 a0 s0 n0 ks)) (hlen : len ≤ 70000) (hfit : (progL ks).size ≤ 65536) :
 Calls Tryz.prog 23 #[.agg #[.slice p len c]] w fun e w' => ∃ v, e = .returned (.tuple #[v, .nilIface]) ∧ Below w.heap.size w w' ∧ w'.ownsRow w.heap.size 5 1 v (progL ks).size (Lib.strCells (progL ks)) := by
 have hb1 := one_below w (.cells #[.slice p len c] 39)
 have R := lh (right_at (w.alloc (.cells #[.slice p len c] 39)) p len c ns (hT.on hb1) hS)
 rw [hr] at R
 have HR : Hid (∀ w5, Below (w.alloc (.cells #[.slice p len c] 39)).heap.size (w.alloc (.cells #[.slice p len c] 39)) w5 → Calls Tryz.prog 54 #[.pointer (some ⟨w5.heap.size, 0, none⟩), .int .i64 0, .int .i64 0] (w5.alloc (.cells #[.slice p len c, .int .i64 65536, .slice none 0 0] 101)) fun e w' => e = .returned (.tuple #[]) ∧ ∃ v', PrW w5 w5.heap.size (.slice p len c) 65536 v' (progL ks) w') := lh (fun w5 h5 =>
  root_of ns a0 s0 n0 ks hO hw w5 _ w5.heap.size p len c (.slice none 0 0) ((hT.on hb1).on h5) ((ht.below hb1).below h5) hlen rfl ⟨one_below w5 _, heap_alloc_new w5 _, World.ownsRow_nil _ _ _ _⟩ hfit)
 have HFIT := lh hfit
 have HB1 := lh hb1
 generalize progL ks = PL at *
 clear hT hS ht hr hO hw hlen hfit hb1
 go_enter Tryz.func23, Tryz.ntmps23
 go_wp2_with (first | (go_at_call 29; (with_reducible refine R.out.mono ?_); rintro e w5 ⟨rfl, h5⟩; have kt : w5.cell? ⟨w.heap.size, 0, none⟩ = some (.slice p len c) := (h5.cell (p := ⟨w.heap.size, 0, none⟩) (by simp)).trans (by simp)) | (go_at_call 54; (with_reducible refine (HR.out w5 h5).mono ?_); rintro e w6 ⟨rfl, v', HP⟩; obtain ⟨vp, vc, hvs⟩ := ownsRow_shape HP.own; subst hvs; have HP := lh HP; have HOV := lh (isOver_at w6 w5.heap.size 65536 vp PL.size vc HP.out.cell.2.1); have hno : decide ((65536 : Int) < (PL.size : Int)) = false := (by rw [decide_eq_false_iff_not]; have := HFIT.out; omega); rw [hno] at HOV; have e2 := HP.out.cell.2.2.1; have HB5 := lh h5; clear hno h5 kt) | (go_at_call 55; (with_reducible refine HOV.out.mono ?_); rintro e w7 ⟨rfl, hw7⟩; have hw8 := hw7.symm; subst hw8))
 go_ret2
 have hs5 : w.heap.size + 1 ≤ w5.heap.size := by have := HB5.out.size; simpa using this
 exact ⟨_, rfl, HB1.out.trans ((HB5.out.mono (by simp)).trans (HP.out.below.mono (by omega))), ownsRow_weaken HP.out.own (by omega)⟩
end
section
open Go.RowKit Tr Go.Shelf
theorem expr_yes (w : World) (p : Option Addr) (len c : Nat) (ns : List Nd) (hT : TV w p len c ns) (hS : SmallT ns) (ht : PT10 w) (hr : rightP ns = true) (i k : Int) (q a : Nat) (s : ByteArray) (n : Int) (ks : List Ast) (hi : i = (q : Int)) (hO : On ns q (.mk k a s n ks)) (hw : wfR (.mk k a s n ks)) (hk : 20 ≤ k) (hq : 0 < q) (hlen : len ≤ 70000) :
 Calls Tryz.prog 27 #[.agg #[.slice p len c], .int .i64 i] w fun e w' => e = .returned (.tuple #[.string (exT (.mk k a s n ks)), .nilIface]) ∧ Below w.heap.size w w' := by
 subst hi
 have hb1 := one_below w (.cells #[.slice p len c] 39)
 have R := lh (right_at (w.alloc (.cells #[.slice p len c] 39)) p len c ns (hT.on hb1) hS)
 rw [hr] at R
 have hk2 : k ≤ 26 := hw.parts.1.2
 have hol := hO.lt
 have hle := hT.len_eq
 have hXs := exT_size _ hw
 have hsz := hO.size
 obtain ⟨a', hnd⟩ := hO.node
 have hT1 := hT.on hb1
 obtain ⟨nb, off, hp, hbl, hc⟩ := hT1.node (by omega)
 obtain ⟨kp, kl, kc, hn⟩ := hc q (by omega)
 rw [hnd] at hn
 have k0 : (w.alloc (.cells #[.slice p len c] 39)).cell? ⟨nb, off + q * 5, none⟩ = some (.int .u8 k) := hn.kind
 have IR := lh (isRowOrExpr_at (w.alloc (.cells #[.slice p len c] 39)) k)
 have hdk : (decide (20 ≤ k) && decide (k ≤ 26)) = true := by simp [hk, hk2]
 rw [hdk] at IR
 have HTX : Hid (∀ w5, Below (w.alloc (.cells #[.slice p len c] 39)).heap.size (w.alloc (.cells #[.slice p len c] 39)) w5 → Calls Tryz.prog 64 #[.pointer (some ⟨w5.heap.size, 0, none⟩), .slice (some ⟨w5.heap.size + 1, 0, none⟩) 1 1] ((w5.alloc (.cells #[.slice p len c, .int .i64 9223372036854775807, .slice none 0 0] 101)).alloc (.cells #[.int .i64 (q : Int)] 3)) fun e w' => e = .returned (.string (exT (.mk k a s n ks))) ∧ Below w5.heap.size w5 w') := lh (fun w5 h5 => by
  have hP : PrW w5 w5.heap.size (.slice p len c) 9223372036854775807 (.slice none 0 0) none0 ((w5.alloc (.cells #[.slice p len c, .int .i64 9223372036854775807, .slice none 0 0] 101)).alloc (.cells #[.int .i64 (q : Int)] 3)) :=
   PrW.on ⟨one_below w5 _, heap_alloc_new w5 _, World.ownsRow_nil _ _ _ _⟩ (one_below _ _)
  have hg := heap_alloc_new (w5.alloc (.cells #[.slice p len c, .int .i64 9223372036854775807, .slice none 0 0] 101)) (.cells #[.int .i64 (q : Int)] 3)
  rw [World.size_alloc] at hg
  exact (text_one hP rfl (hT1.on h5) ((ht.below hb1).below h5) hlen hO hq (Or.inr hk) hw (by omega) (w5.heap.size + 1) hg).mono fun e w' ⟨h1, h2⟩ => ⟨h1, hP.below.trans (h2.mono (Nat.le_of_lt hP.lt))⟩)
 have HB1 := lh hb1
 generalize exT (.mk k a s n ks) = X at *
 subst hp
 have hq0 : (0 : Int) ≤ (q : Int) := by omega
 have hq1 : (q : Int) < (len : Int) := by omega
 have hq2 : ¬ ((q : Int) < 0) := by omega
 have hq3 : ¬ ((len : Int) ≤ (q : Int)) := by omega
 clear hT hS ht hr hO hw hlen hb1 hT1 hc hn hnd hXs hsz hle hol hdk hk hk2 hq
 go_enter Tryz.func27, Tryz.ntmps27
 go_wp2_with (first | (go_at_call 63; (with_reducible refine IR.out.mono ?_); rintro e w4 ⟨rfl, hw4⟩; have hw9 := hw4; subst hw9) | (go_at_call 29; (with_reducible refine R.out.mono ?_); rintro e w5 ⟨rfl, h5⟩; have kt : w5.cell? ⟨w.heap.size, 0, none⟩ = some (.slice (some ⟨nb, off, none⟩) len c) := (h5.cell (p := ⟨w.heap.size, 0, none⟩) (by simp)).trans (by simp)) | (go_at_call 64; (with_reducible refine (HTX.out w5 h5).mono ?_); rintro e w6 ⟨rfl, h6⟩))
 go_ret2
 have hs5 : w.heap.size + 1 ≤ w5.heap.size := by have := h5.size; simpa using this
 exact ⟨rfl, HB1.out.trans ((h5.mono (by simp)).trans (h6.mono (by omega)))⟩
end
end Go.Proofs.YthdioipfdbbmmaaGreatDoor
