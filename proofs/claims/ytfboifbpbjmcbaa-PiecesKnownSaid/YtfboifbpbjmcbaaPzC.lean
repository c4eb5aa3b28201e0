import Derived.Test.YtfboifbpbjmcbaaPzB
namespace Go.Proofs.Ytfboifbpbjmcbaa.Pz
open Go.RowKit Go.Shelf
attribute [local go_sem] Oper.semAt_some
/-- What lies below n₀ stays, and two blocks more. -/
structure Kq (n₀ q : Nat) (A B : World) : Prop where
  size : A.heap.size ≤ B.heap.size
  block : ∀ g, g < n₀ ∨ g = q ∨ g = q + 1 → g < A.heap.size → B.heap[g]? = A.heap[g]?
theorem Kq.refl (n₀ q : Nat) (A : World) : Kq n₀ q A A := ⟨Nat.le_refl _, fun _ _ _ => rfl⟩
theorem Kq.trans {n₀ q : Nat} {A B C : World} (h : Kq n₀ q A B) (h' : Kq n₀ q B C) : Kq n₀ q A C := ⟨Nat.le_trans h.size h'.size, fun g hg hl => (h'.block g hg (Nat.lt_of_lt_of_le hl h.size)).trans (h.block g hg hl)⟩
theorem Kq.kb {n₀ q : Nat} {A B : World} (h : Kq n₀ q A B) : Kb n₀ A B := ⟨h.size, fun g hg hl => h.block g (Or.inl hg) hl⟩
theorem Kq.cell {n₀ q : Nat} {A B : World} (h : Kq n₀ q A B) {b : Nat} {u : Value} (hg : b < n₀ ∨ b = q ∨ b = q + 1) (hc : A.cell? ⟨b, 0, none⟩ = some u) : B.cell? ⟨b, 0, none⟩ = some u := by
  rw [World.cell?_of_block (w := A) (a := ⟨b, 0, none⟩) (h.block b hg (cell_lt hc))]; exact hc
theorem Kq.putObj {n₀ q : Nat} {w : World} (hn : n₀ ≤ w.heap.size) (hq : q + 1 < w.heap.size) (W : World) (l : Nat) (o o' : Obj) (hl : w.heap.size ≤ l) (_ : W.heap[l]? = some o) (_ : o.isCells = false) (_ : o.isWalk = false) : Kq n₀ q W (W.putObj l o') :=
  ⟨by simp, fun g hg _ => World.putObj_heap_other (by rcases hg with hg | rfl | rfl <;> omega)⟩
theorem Kq.of {n₀ q : Nat} {A B : World} (h : Below A.heap.size A B) : Kq n₀ q A B := ⟨h.size, fun g _ hl => h.block g hl⟩
abbrev encU (x : Nat × Nat) : Array Value := #[.agg #[.int .i64 (x.1 : Nat), .int .i64 (x.2 : Nat)]]
set_option maxRecDepth 100000 in
set_option maxHeartbeats 4000000 in
/-- The closure of units. -/
theorem units1_in (F : Fence) (n : Nat) (h24 : F.fn 24) (hro : F.round = none) (hn : 1 ≤ n) (l q n₀ len cap : Nat) (p : Option Addr) (is : List Ins) (way : Int) (hl : is.length = len) (hreach : len ≤ 100000) (J Jx : List (Nat × Nat) → World → Prop)
    (hY : ∀ pre x W, J pre W → pre.length < len → YieldAt F (n - 1) Try.prog l (encU x) W fun e W' =>
      (e = .returned (.bool true) ∧ J (pre ++ [x]) W' ∧ Kq n₀ q W W') ∨ (e = .returned (.bool false) ∧ Jx (pre ++ [x]) W'))
    (W : World) (hJ : AbidesFrom W.heap.size J) (hs0 : W.cell? ⟨q, 0, none⟩ = some (.slice p len cap)) (hw0 : W.cell? ⟨q + 1, 0, none⟩ = some (.int .u8 way)) (hI : IsIn n₀ W p len cap is) (h0 : J [] W) :
    CallsIn F n Try.prog 24 #[.func (.yield l) #[] #[], .pointer (some ⟨q, 0, none⟩), .pointer (some ⟨q + 1, 0, none⟩)] W fun e W' => (∃ v, e = .returned v) ∧
      ((∃ ys, ys = unitsP (opsOf is) way ∧ J ys W') ∨ (∃ pre, (∃ k, k ≤ len ∧ pre = (unitsTo (opsOf is) way k).2) ∧ Jx pre W')) := by
  have HI := Lib.hid hI
  have HL := Lib.hid hl
  have hops := opsOf_len is
  clear hI hl
  refine callsIn_of_wp Try.func24 rfl h24 ?_ hro
  simp only [Try.ntmps24, List.size_toArray, List.length_cons, List.length_nil, Nat.reduceAdd, Nat.reduceSub, Array.replicate_succ, Array.replicate_zero, List.push_toArray, List.append_toArray, List.nil_append, List.cons_append]
  gi_wp2
  gi_loopw [4, 9] (fun f i wr => ∃ k : Nat, k ≤ len ∧ i = .int .i64 k ∧ f = .int .i64 ((unitsTo (opsOf is) way k).1 : Nat) ∧ J (unitsTo (opsOf is) way k).2 wr ∧ Kq n₀ q W wr)
    (fun _ i _ => len - (intOf i).toNat)
  case atStart => exact ⟨0, Nat.zero_le _, rfl, rfl, h0, Kq.refl _ _ _⟩
  case round =>
    obtain ⟨k, hk, rfl, rfl, hJs, hnx⟩ := hrel
    have hs := hnx.cell (b := q) (Or.inr (Or.inl rfl)) hs0
    have hw := hnx.cell (b := q + 1) (Or.inr (Or.inr rfl)) hw0
    have hU := unitsTo_len (opsOf is) way k
    by_cases hlt : k < len
    · obtain ⟨b, off, rfl, hb, hc⟩ := (HI.out.on hnx.kb).cell (by omega)
      obtain ⟨kp, kl, kc, vp, vl, vc, ic⟩ := hc k hlt
      have c0 := ic.c0
      have c1 := ic.c1
      have c2 := ic.c2
      have c3 := ic.c3
      have c4 := ic.c4
      have c5 := ic.c5
      have c6 := ic.c6
      have c7 := ic.c7
      have c8 := ic.c8
      have c9 := ic.c9
      have c10 := ic.c10
      have c11 := ic.c11
      have c12 := ic.c12
      have hop : (opsOf is).getD k 0 = (is.getD k default).op := opsOf_get is k
      obtain ⟨x, hx⟩ : ∃ x, is.getD k default = x := ⟨_, rfl⟩
      rw [hx] at c0 c1 c2 c3 c4 c5 c6 c7 c8 c9 c10 hop
      obtain ⟨xo, hxo⟩ : ∃ xo, x.op = xo := ⟨_, rfl⟩
      rw [hxo] at c0 hop
      clear hxo
      obtain ⟨o, ho⟩ : ∃ o, off + k * 13 = o := ⟨_, rfl⟩
      rw [ho] at c0 c1 c2 c3 c4 c5 c6 c7 c8 c9 c10 c11 c12
      have hcap := HI.out.cap
      obtain ⟨w1, hw1⟩ : ∃ w1, wr.alloc (.cells #[.int .u8 xo, .int .i64 x.nd, .int .u8 x.md, .int .i64 x.tb, .bool x.row, .int .i64 x.col, .int .i64 x.vr, .int .i64 x.to, .bool x.eq, .int .i64 x.frm, .int .i64 x.upt, .slice kp kl kc, .slice vp vl vc] 45) = w1 := ⟨_, rfl⟩
      have hJA : J (unitsTo (opsOf is) way k).2 w1 := by rw [← hw1]; exact hJ _ wr _ none hJs (World.grownBy_alloc _ _ _) (fun r e => by cases e)
      have hqA : Kq n₀ q wr w1 := by rw [← hw1]; exact Kq.of (one_below _ _)
      have hsA := hqA.cell (b := q) (Or.inr (Or.inl rfl)) hs
      have hwA := hqA.cell (b := q + 1) (Or.inr (Or.inr rfl)) hw
      have hbA : w1.cell? ⟨wr.heap.size, 0, none⟩ = some (.int .u8 xo) := by rw [← hw1]; simp
      clear ic hc hx
      cases hE : isEnd (opsOf is) way k with
      | false =>
        have hE2 := hE
        simp only [isEnd, hops, HL.out, hop, Bool.not_eq_false', Bool.and_eq_true, decide_eq_true_eq, Bool.not_eq_true', Bool.and_eq_false_iff, decide_eq_false_iff_not] at hE2
        have h1 : (k : Int) < (len : Int) - 1 := by omega
        have hG := unitsTo_no hE
        rcases hE2.2 with h2 | h2
        · have h2' : (way == 1) = false := by simpa using h2
          gi_wp2
          go_roundw
          case rel => exact ⟨k + 1, by omega, by simp, by rw [hG], by rw [hG]; exact hJA, hnx.trans hqA⟩
          case measure => simp [intOf]; omega
        · have h2' : (xo == 15) = false := by simpa using h2
          by_cases hw1 : way = 1
          · have h3' : (way == 1) = true := by simpa using hw1
            gi_wp2
            go_roundw
            case rel => exact ⟨k + 1, by omega, by simp, by rw [hG], by rw [hG]; exact hJA, hnx.trans hqA⟩
            case measure => simp [intOf]; omega
          · have h3' : (way == 1) = false := by simpa using hw1
            gi_wp2
            go_roundw
            case rel => exact ⟨k + 1, by omega, by simp, by rw [hG], by rw [hG]; exact hJA, hnx.trans hqA⟩
            case measure => simp [intOf]; omega
      | true =>
        have hG := unitsTo_yes hE
        obtain ⟨fn, tmps, assign, body, hy, hR⟩ := hY _ ((unitsTo (opsOf is) way k).1, k + 1) w1 hJA (by omega)
        have hy2 := hy
        simp only [encU] at hy
        rw [show (((k + 1 : Nat)) : Int) = (k : Int) + 1 by omega] at hy
        have FIN : ∀ W3 : World, J ((unitsTo (opsOf is) way k).2 ++ [((unitsTo (opsOf is) way k).1, k + 1)]) W3 → Kq n₀ q w1 W3 → J (unitsTo (opsOf is) way (k + 1)).2 W3 ∧ Kq n₀ q W W3 := fun W3 h3 h4 => ⟨by rw [hG]; exact h3, (hnx.trans hqA).trans h4⟩
        by_cases h1 : (k : Int) < (len : Int) - 1
        · obtain ⟨h2, h3⟩ := isEnd_piece hE (by rw [hops, HL.out]; omega)
          rw [hop] at h3
          subst h2 h3
          gi_wp2
          refine hR.mono ?_
          rintro e W3 (⟨rfl, hJ3, hk3⟩ | ⟨rfl, hJx3⟩)
          · gi_wp2
            go_roundw
            case rel => exact ⟨k + 1, by omega, by simp, by rw [hG]; simp, (FIN W3 hJ3 hk3).1, (FIN W3 hJ3 hk3).2⟩
            case measure => simp [intOf]; omega
          · gi_wp2
            refine bodyPost_ret (results_none rfl _ _ _) rfl ?_
            exact ⟨⟨_, rfl⟩, .inr ⟨_, ⟨k + 1, by omega, by rw [hG]⟩, hJx3⟩⟩
        · gi_wp2
          refine hR.mono ?_
          rintro e W3 (⟨rfl, hJ3, hk3⟩ | ⟨rfl, hJx3⟩)
          · gi_wp2
            go_roundw
            case rel => exact ⟨k + 1, by omega, by simp, by rw [hG]; simp, (FIN W3 hJ3 hk3).1, (FIN W3 hJ3 hk3).2⟩
            case measure => simp [intOf]; omega
          · gi_wp2
            refine bodyPost_ret (results_none rfl _ _ _) rfl ?_
            exact ⟨⟨_, rfl⟩, .inr ⟨_, ⟨k + 1, by omega, by rw [hG]⟩, hJx3⟩⟩
    · obtain rfl : k = len := by omega
      have hend : (unitsTo (opsOf is) way k).2 = unitsP (opsOf is) way := by unfold unitsP; rw [hops, HL.out]
      gi_wp2
      go_end0
      exact ⟨⟨_, rfl⟩, .inl ⟨_, rfl, by rw [← hend]; exact hJs⟩⟩
theorem units_at (p : Option Addr) (len cap : Nat) (way : Int) (w : World) :
    Calls Try.prog 18 #[.slice p len cap, .int .u8 way] w fun e w' => e = .returned (.func (.func 24) #[] #[.pointer (some ⟨w.heap.size, 0, none⟩), .pointer (some ⟨w.heap.size + 1, 0, none⟩)]) ∧ w' = (w.alloc (.cells #[.slice p len cap] 22)).alloc (.cells #[.int .u8 way] 5) := by
  go_enter Try.func18, Try.ntmps18
  go_wp2_with fail
  go_ret
  exact ⟨rfl, rfl⟩
end Go.Proofs.Ytfboifbpbjmcbaa.Pz
