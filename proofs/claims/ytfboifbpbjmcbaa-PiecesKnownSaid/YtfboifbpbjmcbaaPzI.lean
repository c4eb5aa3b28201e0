import Derived.Test.YtfboifbpbjmcbaaPzH
import Derived.Maps.OwnIn
import Derived.Maps.OwnSet
namespace Go.Proofs.Ytfboifbpbjmcbaa.Pz
open Go.RowKit Go.Maps
/-- The number of the next Piece, and the places of those that are dropped, before the k-th instruction. -/
def placesTo (ops drop : List Int) : Nat → Nat × List Int
  | 0 => (0, [])
  | k + 1 => if ops.getD k 0 = 15 then ((placesTo ops drop k).1 + 1, if (((placesTo ops drop k).1 : Nat) : Int) ∈ drop then (placesTo ops drop k).2 ++ [(k : Int)] else (placesTo ops drop k).2) else placesTo ops drop k
def placesP (ops drop : List Int) : List Int := (placesTo ops drop ops.length).2
theorem placesTo_num (ops drop : List Int) (k : Nat) : (placesTo ops drop k).1 ≤ k := by
  induction k with
  | zero => simp [placesTo]
  | succ k ih =>
    simp only [placesTo]
    split
    · simp; omega
    · omega
theorem placesTo_len (ops drop : List Int) (k : Nat) : (placesTo ops drop k).2.length ≤ k := by
  induction k with
  | zero => simp [placesTo]
  | succ k ih =>
    simp only [placesTo]
    split
    · split
      · simp; omega
      · simp; omega
    · omega
theorem placesTo_lt (ops drop : List Int) (k : Nat) : ∀ x ∈ (placesTo ops drop k).2, 0 ≤ x ∧ x < k := by
  induction k with
  | zero => simp [placesTo]
  | succ k ih =>
    intro x hx
    simp only [placesTo] at hx
    split at hx
    · split at hx
      · rcases List.mem_append.1 hx with h | h
        · have := ih x h; omega
        · simp at h; omega
      · have := ih x hx; omega
    · have := ih x hx; omega
theorem placesTo_rise (ops drop : List Int) (k : Nat) : (placesTo ops drop k).2.Pairwise (· < ·) := by
  induction k with
  | zero => simp [placesTo]
  | succ k ih =>
    simp only [placesTo]
    split
    · split
      · refine List.pairwise_append.2 ⟨ih, by simp, fun a ha b hb => ?_⟩
        simp at hb
        have := placesTo_lt ops drop k a ha
        omega
      · exact ih
    · exact ih
abbrev intC (xs : List Int) : List Value := xs.map (Value.int .i64)
theorem infoI : (Try.prog.info? 3).map (fun i => (i.zero, i.size, i.bytes)) = some (some (.int .i64 0), 1, 8) := by kernel_rfl
theorem zeroE (w : World) : (zeroValue 68).run Try.prog w = .ok (.agg #[]) w := by kernel_rfl
def wfI (x : Int) : Bool := (Lit.int .i64 x).wf
theorem wfI_nat (n : Nat) (h : n ≤ 1000000) : wfI (n : Int) = true := by
  have h1 : IntKind.i64.min = -9223372036854775808 := by decide
  have h2 : IntKind.i64.max = 9223372036854775807 := by decide
  show (decide (IntKind.i64.min ≤ (n : Int)) && decide ((n : Int) ≤ IntKind.i64.max)) = true
  rw [h1, h2]
  simp
  omega
/-- A set of numbers. -/
structure SetOf (W : World) (b n : Nat) (xs : List Int) : Prop where
  own : ∃ D : DataW Unit, W.ownsMap Try.prog 3 unitElem b n D ∧ ∀ z, wfI z = true → Maps.has D (.int .i64 z) = decide (z ∈ xs)
theorem SetOf.look {W : World} {b n : Nat} {xs : List Int} (h : SetOf W b n xs) (z : Int) (hz : wfI z = true) : (Instr.lookup 67 (.map (some b)) (.int .i64 z) true).run Try.prog W = .ok (.tuple #[.agg #[], .bool (decide (z ∈ xs))]) W := by
  obtain ⟨D, h1, h2⟩ := h.own
  obtain ⟨v, ps, hr, hv⟩ := h1.look_ok (int_keyed Try.underlying3) Try.underlying67 (zeroE W) unitElem_mk (keyOf_int_mk Try.underlying3 hz)
  obtain ⟨rfl, _⟩ := unitElem_inv hv
  rw [hr, h2 z hz]
theorem SetOf.kept {W W' : World} {b n : Nat} {xs : List Int} {row : Option Nat} (h : SetOf W b n xs) (hg : W.grownBy W' row) (hr : row ≠ some b) : SetOf W' b n xs := by
  obtain ⟨D, h1, h2⟩ := h.own
  exact ⟨D, h1.kept hg (fun e => hr e.symm), h2⟩
theorem SetOf.lt {W : World} {b n : Nat} {xs : List Int} (h : SetOf W b n xs) : b < W.heap.size := by
  obtain ⟨D, h1, h2⟩ := h.own
  exact h1.lt
theorem SetOf.put {D : DataW Unit} {W W' : World} {b n : Nat} {xs : List Int} {z : Int} (h1 : W.ownsMap Try.prog 3 unitElem b n D) (h2 : ∀ z, wfI z = true → Maps.has D (.int .i64 z) = decide (z ∈ xs)) (h : W'.ownsMap Try.prog 3 unitElem b (n + 1) (D.put (.int .i64 z) (.agg []))) (_hz : wfI z = true) : SetOf W' b (n + 1) (xs ++ [z]) := by
  refine ⟨_, h, fun y hy => ?_⟩
  by_cases e : y = z
  · subst e
    rw [has_put_same h1.isMap (by simp [WideAt.IsKeyLit])]
    simp
  · rw [has_put_other (fun h => e (by injection h)), h2 y hy]
    simp [e]
theorem SetOf.made (W : World) : SetOf (W.alloc (.map #[] 0)) W.heap.size 0 [] := ⟨_, World.ownsMap_made W Try.prog 3 unitElem, fun z _ => by simp [Maps.has]⟩
set_option maxHeartbeats 8000000 in
set_option maxRecDepth 1000000 in
theorem placesOf_at (w : World) (n₀ len c dl dc : Nat) (p dp : Option Addr) (is : List Ins) (drop : List Int) (hI : IsIn n₀ w p len c is) (hD : VIn n₀ w dp dl dc drop) (hwf : ∀ x ∈ drop, wfI x = true) (hn : n₀ ≤ w.heap.size) (b1 : len ≤ 100000) (b2 : dl ≤ 100000) :
    Calls Try.prog 20 #[.slice p len c, .slice dp dl dc] w fun e w' => ∃ v, e = .returned v ∧ w'.ownsRow w.heap.size 3 1 v (placesP (opsOf is) drop).length (intC (placesP (opsOf is) drop)) ∧ Below w.heap.size w w' := by
  obtain ⟨i0, hi, hz0, hz1, hz2⟩ := info_of infoI
  have hmm := @run_makeMap Try.prog
  have HI := Lib.hid hI
  have HD := Lib.hid hD
  have HW := Lib.hid hwf
  have hlen := hI.len_eq
  have hdl := hD.len_eq
  clear hI hD hwf
  go_enter Try.func20, Try.ntmps20
  go_wp2_with fail
  go_loopw [17] (fun i wr => ∃ k : Nat, i = .int .i64 k ∧ k ≤ dl ∧ Hid (SetOf wr w.heap.size k (drop.take k)) ∧ Hid (Below w.heap.size w wr)) (fun i _ => dl - (intOf i).toNat)
  case atStart => exact ⟨0, rfl, Nat.zero_le _, Lib.hid (SetOf.made w), Lib.hid (one_below _ _)⟩
  case round =>
    obtain ⟨k, rfl, hk, HS, HB⟩ := hrel
    by_cases hlt : k < dl
    · obtain ⟨D, h1, h2⟩ := HS.out.own
      have H2 := Lib.hid h2
      obtain ⟨b, off, rfl, hbn, hc⟩ := (HD.out.on (Kb.of HB.out hn)).cell (by omega)
      have ck := hc k hlt
      have hwk : wfI (drop.getD k 0) = true := HW.out _ (by simp [List.getD, show k < drop.length by omega])
      have htk : drop.take (k + 1) = drop.take k ++ [drop.getD k 0] := by
        rw [List.take_succ_eq_append_getElem (by omega)]
        simp [List.getD, show k < drop.length by omega]
      obtain ⟨z, hz⟩ : ∃ z, drop.getD k 0 = z := ⟨_, rfl⟩
      rw [hz] at ck hwk htk
      have hcap := HD.out.cap
      have HTK := Lib.hid htk
      have HWK := Lib.hid hwk
      have HZ := Lib.hid hz
      clear hc htk h2 hz
      go_wp2_with (at_mapUpdate; refine wpList_mapUpdate_own _ rfl _ _ _ 67 rfl 3 68 (int_keyed Try.underlying3) Try.underlying67 (unitElem (H := Unit)) w.heap.size k _ rfl h1 (by unfold maxLen; omega) _ _ _ rfl rfl (keyOf_int_mk Try.underlying3 hwk) _ [] unitElem_mk ?_; intro w1 hown1 hgrow1)
      go_roundw
      case rel => exact ⟨k + 1, by simp, by omega, Lib.hid (by rw [HTK.out]; exact SetOf.put h1 H2.out hown1 HWK.out), Lib.hid (HB.out.grown hgrow1 HB.out.size (fun r e => by cases e; exact Nat.le_refl _))⟩
      case measure => simp [intOf]; omega
    · obtain rfl : k = dl := by omega
      have HS2 : Hid (SetOf wr w.heap.size k drop) := Lib.hid (by have := HS.out; rwa [List.take_of_length_le (by omega)] at this)
      have hz := zeroE
      clear HS hmm
      go_wp2_with fail
      go_loopw [8, 9, 27] (fun v nu i wr' => ∃ j : Nat, i = .int .i64 j ∧ j ≤ len ∧ nu = .int .i64 ((placesTo (opsOf is) drop j).1 : Nat) ∧ Hid (wr'.ownsRow w.heap.size 3 1 v (placesTo (opsOf is) drop j).2.length (intC (placesTo (opsOf is) drop j).2)) ∧ Hid (SetOf wr' w.heap.size k drop) ∧ Hid (Below w.heap.size w wr')) (fun _ _ i _ => len - (intOf i).toNat)
      case atStart => exact ⟨0, rfl, Nat.zero_le _, rfl, Lib.hid ⟨rfl, Or.inl ⟨rfl, rfl⟩⟩, HS2, HB⟩
      case round =>
        clear HS2 HB
        obtain ⟨j, rfl, hj, rfl, HO, HS, HB⟩ := hrel
        by_cases hlt : j < len
        · obtain ⟨b, off, rfl, hbn, hc⟩ := (HI.out.on (Kb.of HB.out hn)).cell (by omega)
          obtain ⟨kp, kl, kc, vp, vl, vc, ic⟩ := hc j hlt
          have c0 := ic.c0
          have c1 := ic.c1
          have c2 := ic.c2
          have c3 := ic.c3
          have c4 := ic.c4
          have c5 := ic.c5
          have c6 := ic.c6
          have c7 := ic.c7
          have c8 := ic.c8
          have c9 := ic.c9
          have c10 := ic.c10
          have c11 := ic.c11
          have c12 := ic.c12
          have hop : (opsOf is).getD j 0 = (is.getD j default).op := opsOf_get is j
          obtain ⟨x, hx⟩ : ∃ x, is.getD j default = x := ⟨_, rfl⟩
          rw [hx] at c0 c1 c2 c3 c4 c5 c6 c7 c8 c9 c10 hop
          obtain ⟨xo, hxo⟩ : ∃ xo, x.op = xo := ⟨_, rfl⟩
          rw [hxo] at c0 hop
          clear hxo
          obtain ⟨o, ho⟩ : ∃ o, off + j * 13 = o := ⟨_, rfl⟩
          rw [ho] at c0 c1 c2 c3 c4 c5 c6 c7 c8 c9 c10 c11 c12
          have hcap := HI.out.cap
          obtain ⟨w1, hw1⟩ : ∃ w1, wr.alloc (.cells #[.int .u8 xo, .int .i64 x.nd, .int .u8 x.md, .int .i64 x.tb, .bool x.row, .int .i64 x.col, .int .i64 x.vr, .int .i64 x.to, .bool x.eq, .int .i64 x.frm, .int .i64 x.upt, .slice kp kl kc, .slice vp vl vc] 45) = w1 := ⟨_, rfl⟩
          have hbA : w1.cell? ⟨wr.heap.size, 0, none⟩ = some (.int .u8 xo) := by rw [← hw1]; simp
          have hg1 : wr.grownBy w1 none := by rw [← hw1]; exact World.grownBy_alloc _ _ none
          have HS1 := Lib.hid (HS.out.kept hg1 (by simp))
          have HO1 := Lib.hid (own_apart HO.out hg1 (fun r e => by cases e))
          have HB1 := Lib.hid (HB.out.grown hg1 HB.out.size (fun r e => by cases e))
          have hnum := placesTo_num (opsOf is) drop j
          have hpl := placesTo_len (opsOf is) drop j
          obtain ⟨vg, vq, rfl⟩ := own_shape HO.out
          clear ic hc hx hg1 HS HB HO
          by_cases hxo : xo = 15
          · subst hxo
            have hP1 : (placesTo (opsOf is) drop (j + 1)).1 = (placesTo (opsOf is) drop j).1 + 1 := by simp only [placesTo, hop, if_true]
            have hP2 : (placesTo (opsOf is) drop (j + 1)).2 = if (((placesTo (opsOf is) drop j).1 : Nat) : Int) ∈ drop then (placesTo (opsOf is) drop j).2 ++ [(j : Int)] else (placesTo (opsOf is) drop j).2 := by simp only [placesTo, hop, if_true]
            have HP1 := Lib.hid hP1
            have HP2 := Lib.hid hP2
            clear hop hP1 hP2
            generalize (placesTo (opsOf is) drop j).1 = nu at *
            generalize (placesTo (opsOf is) drop j).2 = pl at *
            have LK := HS1.out.look (nu : Int) (wfI_nat nu (by omega))
            obtain ⟨w2, hw2⟩ : ∃ w2, w1.alloc (.cells #[] 68) = w2 := ⟨_, rfl⟩
            have hg2 : w1.grownBy w2 none := by rw [← hw2]; exact World.grownBy_alloc _ _ none
            have HS2 := Lib.hid (HS1.out.kept hg2 (by simp))
            have HO2 := Lib.hid (own_apart HO1.out hg2 (fun r e => by cases e))
            have HB2 := Lib.hid (HB1.out.grown hg2 HB1.out.size (fun r e => by cases e))
            have hsz2 := HB2.out.size
            clear hg2
            by_cases hm : (nu : Int) ∈ drop
            · rw [decide_eq_true hm] at LK
              rw [if_pos hm] at HP2
              go_wp2_with (at_builtin; refine wpList_append_own _ rfl (.tmp 42) (.tmp 44) 23 rfl w.heap.size 3 i0 _ 1 8 Try.underlying23 hi hz0 hz1 hz2 rfl (by decide) (.slice vg pl.length vq) pl.length (intC pl) rfl (HO2.out.alloc _) ⟨w2.heap.size, 0, none⟩ 1 1 [.int .i64 (j : Int)] rfl rfl (World.news_of_block (cs := #[.int .i64 (j : Int)]) (t := 3) (fr := (0, 0)) (heap_alloc_new _ _)) (by simp [Value.oneCell']) (by unfold maxLen; omega) (by omega) (by simp; omega) ?_; intro v' w3 hown3 hgrow3 _)
              go_roundw
              case rel =>
                refine ⟨j + 1, by simp, by omega, by rw [HP1.out]; simp, ?_, ?_, ?_⟩
                · rw [HP2.out, List.length_append]
                  exact Lib.hid (by simpa [intC] using hown3)
                · exact Lib.hid ((HS2.out.kept (World.grownBy_alloc _ _ none) (by simp)).kept hgrow3 (fun e => by
                    have h1 := HO2.out.lt w.heap.size e
                    obtain ⟨D, h2, _⟩ := HS2.out.own
                    obtain ⟨c, fz, h3⟩ := Lib.ownsRow_kind HO2.out _ e
                    obtain ⟨es, cl, h4, _⟩ := h2
                    rw [h3] at h4
                    cases h4))
                · exact Lib.hid ((HB2.out.grown (World.grownBy_alloc _ _ none) hsz2 (fun r e => by cases e)).grown hgrow3 (by simp; omega) (fun r e => (HO2.out.lt r e).1))
              case measure => simp [intOf]; omega
            · rw [decide_eq_false hm] at LK
              rw [if_neg hm] at HP2
              go_wp2_with fail
              go_roundw
              case rel => exact ⟨j + 1, by simp, by omega, by rw [HP1.out]; simp, by rw [HP2.out]; exact HO2, HS2, HB2⟩
              case measure => simp [intOf]; omega
          · have hP : placesTo (opsOf is) drop (j + 1) = placesTo (opsOf is) drop j := by simp only [placesTo, hop, if_neg hxo]
            have hx2 : (xo == 15) = false := by simpa using hxo
            have hx3 : (xo != 15) = true := by simpa using hxo
            clear hop
            go_wp2_with fail
            go_roundw
            case rel => exact ⟨j + 1, by simp, by omega, by rw [hP], by rw [hP]; exact HO1, HS1, HB1⟩
            case measure => simp [intOf]; omega
        · obtain rfl : j = len := by omega
          have hP : placesP (opsOf is) drop = (placesTo (opsOf is) drop j).2 := by unfold placesP; rw [opsOf_len, hlen]
          have HP := Lib.hid hP
          obtain ⟨vg, vq, rfl⟩ := own_shape HO.out
          clear hP
          go_wp2_with fail
          go_ret
          exact ⟨_, rfl, by rw [HP.out]; exact HO.out, HB.out⟩
end Go.Proofs.Ytfboifbpbjmcbaa.Pz
