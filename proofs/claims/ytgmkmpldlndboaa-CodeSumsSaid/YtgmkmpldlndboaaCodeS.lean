import Derived.Test.YtgmkmpldlndboaaCodeW
import Derived.Laws.AppendOwnNone
namespace Go.Proofs.Ytgmkmpldlndboaa.Cd
open Go.RowKit
theorem wpList_append_ts {ops : Array Oper} {rest : List Oper} {o : Oper} {a : Act} {w : World} {Q : Exit → Act → World → Prop} (hgd : o.guard = none) (s x : Operand)
    (ho : o.op = .call { callee := .builtin .append, args := #[s, x], argTypes := #[33, 33] }) (base : Nat) (v : Value) (n : Nat) (xs : List Value) (hs : a.eval s = v) (hown : w.ownsRow base 39 3 v n xs)
    (p : Option Addr) (m c : Nat) (ts : List Tm) (hx : a.eval x = .slice p m c) (hsrc : TsIn w p m c ts) (hb : n + m ≤ 100000) (hbase : base ≤ w.heap.size)
    (h : ∀ v' w', w'.ownsRow base 39 3 v' (n + m) (xs ++ flatT ts) → w.grownBy w' v.ownBlock → wpList Try.prog ops Q rest (a.put o.dst v') w') : wpList Try.prog ops Q (o :: rest) a w := by
  obtain ⟨i0, hi, hz0, hz1, hz2⟩ := info_of infoT
  obtain ⟨hl, hc, hnil, hor⟩ := hsrc
  cases p with
  | none =>
    have hm : m = 0 := by
      rcases Nat.eq_zero_or_pos m with h | h
      · exact h
      · obtain ⟨b, off, e, _⟩ := hor h
        cases e
    obtain rfl := hm
    have e : ts = [] := List.eq_nil_of_length_eq_zero hl
    subst e
    rw [hnil rfl] at hx
    exact wpList_append_own_none hgd s x 33 ho base 39 i0 3 Try.underlying33 hi v n xs hs hown hx (h v w (by simpa [flatT] using hown) (World.grownBy.refl w _))
  | some ad =>
    refine wpList_append_own w hgd s x 33 ho base 39 i0 _ 3 24 Try.underlying33 hi hz0 hz1 hz2 rfl (by omega) v n xs hs hown ad m c (flatT ts) hx (by rw [flatT_length, hl]) ?_ (flatT_one ts) (by unfold maxLen; omega) (by omega) hbase (fun v' w' h1 h2 _ => h v' w' h1 h2)
    intro j u hj
    have hjl : j < m * 3 := by
      have := (List.getElem?_eq_some_iff.1 hj).1
      rwa [flatT_length, hl] at this
    obtain ⟨b, off, e, _, hcell⟩ := hor (by omega)
    cases e
    have hd : j / 3 < m := by omega
    obtain ⟨c0, c1, c2⟩ := hcell (j / 3) hd
    have hg := flatT_get ts (j / 3) (j % 3) (by omega) (by omega)
    rw [show j / 3 * 3 + j % 3 = j by omega, hj] at hg
    have ea : (⟨b, off, none⟩ : Addr).add j = ⟨b, off + j, none⟩ := by unfold Addr.add; split <;> simp_all
    rw [ea]
    rcases (by omega : j % 3 = 0 ∨ j % 3 = 1 ∨ j % 3 = 2) with e | e | e
    · rw [e] at hg
      rw [show off + j = off + j / 3 * 3 by omega, c0, hg]; rfl
    · rw [e] at hg
      rw [show off + j = off + j / 3 * 3 + 1 by omega, c1, hg]; rfl
    · rw [e] at hg
      rw [show off + j = off + j / 3 * 3 + 2 by omega, c2, hg]; rfl
set_option maxHeartbeats 4000000 in
theorem sums_big (w : World) (p p2 q : Option Addr) (len c len2 c2 lv cv : Nat) (hb : 100 < len ∨ 100 < len2 ∨ 100 < lv) :
    Calls Try.prog 4 #[.slice p len c, .slice p2 len2 c2, .slice q lv cv] w fun e w' => e = .returned (.bool true) ∧ Below w.heap.size w w' := by
  have WK := Lib.hid (works w)
  by_cases h1 : 100 < len
  · clear hb
    go_enter Try.func4, Try.ntmps4
    go_wp2_with fail
    (with_reducible refine WK.out.mono ?_)
    rintro e w1 ⟨rfl, hb1⟩
    go_wp2
    go_ret
    exact ⟨rfl, hb1⟩
  · by_cases h2 : 100 < len2
    · clear hb
      go_enter Try.func4, Try.ntmps4
      go_wp2_with fail
      (with_reducible refine WK.out.mono ?_)
      rintro e w1 ⟨rfl, hb1⟩
      go_wp2
      go_ret
      exact ⟨rfl, hb1⟩
    · have h3 : 100 < lv := by omega
      clear hb
      go_enter Try.func4, Try.ntmps4
      go_wp2_with fail
      (with_reducible refine WK.out.mono ?_)
      rintro e w1 ⟨rfl, hb1⟩
      go_wp2
      go_ret
      exact ⟨rfl, hb1⟩
theorem evalV_some {ts : List Tm} {vs : List Int} {x : Int} (h : evalP ts vs = some x) : evalV ts vs = .tuple #[.int .i64 x, .bool true] := by unfold evalV; rw [h]
theorem evalV_none {ts : List Tm} {vs : List Int} (h : evalP ts vs = none) : evalV ts vs = .tuple #[.int .i64 0, .bool false] := by unfold evalV; rw [h]
set_option maxHeartbeats 4000000 in
theorem sums_not (w : World) (p p2 q : Option Addr) (len c len2 c2 lv cv : Nat) (a b : List Tm) (vs : List Int) (ha : TsIn w p len c a) (hb : TsIn w p2 len2 c2 b) (hv : VsIn w q lv cv vs) (l1 : len ≤ 100) (l2 : len2 ≤ 100) (l3 : lv ≤ 100) (hn : evalP a vs = none ∨ evalP b vs = none) :
    Calls Try.prog 4 #[.slice p len c, .slice p2 len2 c2, .slice q lv cv] w fun e w' => e = .returned (.bool true) ∧ Below w.heap.size w w' := by
  have HB := Lib.hid hb
  have HV := Lib.hid hv
  have C1 := Lib.hid (eval_at w p len c a q lv cv vs ha hv (by omega) (by omega))
  unfold EvalE at C1
  clear ha hb hv
  cases hA : evalP a vs with
  | none =>
    rw [evalV_none hA] at C1
    obtain ⟨v2, hv2⟩ : ∃ v2, evalV b vs = v2 := ⟨_, rfl⟩
    have HV2 := Lib.hid hv2
    have sh : ∃ x y, v2 = .tuple #[.int .i64 x, .bool y] := by
      rw [← hv2]; unfold evalV; split <;> exact ⟨_, _, rfl⟩
    obtain ⟨x, y, rfl⟩ := sh
    clear hn hA hv2
    go_enter Try.func4, Try.ntmps4
    go_wp2_with fail
    (with_reducible refine C1.out.mono ?_)
    rintro e w1 ⟨rfl, hb1⟩
    have C2 := Lib.hid (eval_at w1 p2 len2 c2 b q lv cv vs (HB.out.on hb1) (HV.out.on hb1) (by omega) (by omega))
    unfold EvalE at C2
    rw [HV2.out] at C2
    have B1 := Lib.hid hb1
    clear hb1
    go_wp2_with fail
    (with_reducible refine C2.out.mono ?_)
    rintro e w2 ⟨rfl, hb2⟩
    have B2 := Lib.hid (B1.out.trans (hb2.mono B1.out.size))
    have WK := Lib.hid (works w2)
    clear hb2
    go_wp2_with fail
    (with_reducible refine WK.out.mono ?_)
    rintro e w3 ⟨rfl, hb3⟩
    go_wp2
    go_ret
    exact ⟨rfl, B2.out.trans (hb3.mono B2.out.size)⟩
  | some x =>
    have hB : evalP b vs = none := by
      rcases hn with h | h
      · rw [h] at hA; cases hA
      · exact h
    rw [evalV_some hA] at C1
    have HV2 := Lib.hid (evalV_none hB)
    clear hn hA hB
    go_enter Try.func4, Try.ntmps4
    go_wp2_with fail
    (with_reducible refine C1.out.mono ?_)
    rintro e w1 ⟨rfl, hb1⟩
    have C2 := Lib.hid (eval_at w1 p2 len2 c2 b q lv cv vs (HB.out.on hb1) (HV.out.on hb1) (by omega) (by omega))
    unfold EvalE at C2
    rw [HV2.out] at C2
    have B1 := Lib.hid hb1
    clear hb1
    go_wp2_with fail
    (with_reducible refine C2.out.mono ?_)
    rintro e w2 ⟨rfl, hb2⟩
    have B2 := Lib.hid (B1.out.trans (hb2.mono B1.out.size))
    have WK := Lib.hid (works w2)
    clear hb2
    go_wp2_with fail
    (with_reducible refine WK.out.mono ?_)
    rintro e w3 ⟨rfl, hb3⟩
    go_wp2
    go_ret
    exact ⟨rfl, B2.out.trans (hb3.mono B2.out.size)⟩
end Go.Proofs.Ytgmkmpldlndboaa.Cd
