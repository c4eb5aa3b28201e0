import Derived.Test.YtabbodbnjegllaaDoorLexQ
import Derived.Lib.AppendStr
namespace Go.Proofs.YtabbodbnjegllaaDoor
open Go.RowKit
set_option maxHeartbeats 4000000 in
set_option maxRecDepth 1000000 in
theorem words_at (W : World) (g1 c1 g2 c2 n : Nat) (ls ms : List Tok) (h1 : TR W g1 c1 ls) (h2 : TR W g2 c2 ms) (hs : sameAll ls ms) (ha : ls.length = n) (hn : n ≤ 70000) :
    Calls Tryd.prog 19 #[.slice (some ⟨g1, 0, none⟩) n c1, .slice (some ⟨g2, 0, none⟩) n c2] W fun e w' => e = .returned (.bool true) ∧ Below W.heap.size W w' := by
  have q1 := h1.le
  have q2 := h2.le
  rw [ha] at q1
  have hbl : ms.length = n := by rw [← sameAll_length hs]; exact ha
  rw [hbl] at q2
  have H1 := Lib.hid h1
  have H2 := Lib.hid h2
  have HS := Lib.hid hs
  have HA := Lib.hid ha
  have HBl := Lib.hid hbl
  clear h1 h2 hs ha hbl
  go_enter Tryd.func19, Tryd.ntmps19
  go_wp2_with fail
  go_loopw [5] (fun iv wr => ∃ k : Nat, k ≤ n ∧ iv = .int .i64 k ∧ Hid (Below W.heap.size W wr)) (fun iv _ => n - (intOf iv).toNat)
  case atStart => exact ⟨0, by omega, rfl, Lib.hid (Below.refl _ _)⟩
  case round =>
    obtain ⟨k, hk, rfl, HB⟩ := hrel
    by_cases hlt : k < n
    · obtain ⟨t, ht⟩ : ∃ t, ls[k]? = some t := ⟨ls[k]'(by have := HA.out; omega), List.getElem?_eq_getElem _⟩
      obtain ⟨u, hu⟩ : ∃ u, ms[k]? = some u := ⟨ms[k]'(by have := HBl.out; omega), List.getElem?_eq_getElem _⟩
      have h3 := sameAll_get HS.out k t u ht hu
      have T1 := H1.out.on HB.out
      have T2 := H2.out.on HB.out
      have k0 := T1.cell (k * 5 + 0) (.int .u8 t.kind) (by rw [tok_cell ls k 0 t ht (by omega)]; rfl)
      have k3 := T1.cell (k * 5 + 3) (.string (strOfNums t.text)) (by rw [tok_cell ls k 3 t ht (by omega)]; rfl)
      have k4 := T1.cell (k * 5 + 4) (.int .i64 t.n) (by rw [tok_cell ls k 4 t ht (by omega)]; rfl)
      have u0 := T2.cell (k * 5 + 0) (.int .u8 t.kind) (by rw [tok_cell ms k 0 u hu (by omega), h3.1]; rfl)
      have u3 := T2.cell (k * 5 + 3) (.string (strOfNums t.text)) (by rw [tok_cell ms k 3 u hu (by omega), h3.2.1]; rfl)
      have u4 := T2.cell (k * 5 + 4) (.int .i64 t.n) (by rw [tok_cell ms k 4 u hu (by omega), h3.2.2]; rfl)
      rw [Nat.add_zero] at k0 u0
      generalize t.kind = kd at *
      generalize strOfNums t.text = tx at *
      generalize t.n = tn at *
      clear h3 T1 T2 ht hu
      have hk1 : (k : Int) < (n : Int) := by omega
      go_wp2_with fail
      go_quiet (fail)
      have HB2 := Lib.hid (HB.out.trans (drewN_below _ wr nq))
      clear k0 k3 k4 u0 u3 u4
      go_wp2
      go_roundw
      case rel => exact ⟨k + 1, by omega, by go_num, HB2⟩
      case measure => simp [intOf]; omega
    · go_wp2
      go_ret
      exact ⟨rfl, HB.out⟩
end Go.Proofs.YtabbodbnjegllaaDoor
