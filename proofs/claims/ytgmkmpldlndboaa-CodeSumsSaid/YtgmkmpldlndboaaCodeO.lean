import Derived.Test.YtgmkmpldlndboaaCodeB
import Derived.Test.YtgmkmpldlndboaaRows
import Derived.ProofKit
import Derived.OpenShut
import Derived.RowKit
import Derived.ReadAgain
import Derived.ChangeAt
import Derived.ChangeShapes
import Derived.WideShapes
import Derived.ChangeSlices
import Derived.ChangeArms
namespace Go.Proofs.Ytgmkmpldlndboaa.Cd
open Go.ChangeShapes Go.WideShapes Go.ChangeAt Go.RowKit
theorem addr_plain {W : World} {a : Addr} {v : Value} (h : W.cell? a = some v) : a = ⟨a.block, a.off, none⟩ := by
  obtain ⟨b, o, s⟩ := a
  cases s with
  | none => rfl
  | some x =>
    unfold World.cell? at h
    split at h <;> simp_all
theorem add_plain (b o i : Nat) : (⟨b, o, none⟩ : Addr).add i = ⟨b, o + i, none⟩ := by
  unfold Addr.add
  split
  · rename_i h; subst h; rfl
  · rfl
section
variable {H : Type} {enc : TypeId × Value → H} {W : World} {fuel : Nat} {cs : List Value} {x : DataW H × List MemPlace}
theorem open_vs (h : DataW.trod enc Try.prog W 0 (fun _ => true) true fuel 34 cs = some x) : ∃ p l c xs, cs = [.slice p l c] ∧ VsIn W p l c xs := by
  rcases open_ints Try.underlying34 Try.underlying2 (by kernel_rfl) h with ⟨rfl, _⟩ | ⟨a, len, cap, zs, rfl, _, h2, _, h4, _, h6, _⟩
  · exact ⟨none, 0, 0, [], rfl, rfl, Nat.le_refl _, fun h => absurd h (by omega)⟩
  · simp only [if_true] at h4
    refine ⟨some a, len, cap, zs.take len, rfl, by rw [List.length_take]; omega, h2, fun hl => ?_⟩
    have h0 := h6 0 (by omega)
    have ha : a = ⟨a.block, a.off, none⟩ := by
      have : a.add 0 = a := rfl
      rw [this] at h0
      exact addr_plain h0
    refine ⟨a.block, a.off, by rw [← ha], ?_, fun i hi => ?_⟩
    · have : a.add 0 = a := rfl
      rw [this] at h0
      exact World.block_lt_of_cell? W a h0
    · have h1 := h6 i (by omega)
      rw [ha, add_plain] at h1
      rw [h1]
      congr 2
      simp [List.getD, hi]
set_option maxRecDepth 100000 in
theorem open_tm (h : DataW.trod enc Try.prog W 0 (fun _ => true) true fuel 39 cs = some x) : ∃ t : Tm, cs = [.int .u8 t.k, .int .i64 t.n, .int .i64 t.v] := by
  obtain ⟨xs, n, _, rfl, hl, hlen, hf⟩ := DataW.trod_struct Try.underlying39 h
  have hc : Try.prog.cellsOf 39 = 3 := by kernel_rfl
  rw [hc] at hl
  have c5 : Try.prog.cellsOf 5 = 1 := by kernel_rfl
  have c3 : Try.prog.cellsOf 3 = 1 := by kernel_rfl
  have c2 : Try.prog.cellsOf 2 = 1 := by kernel_rfl
  match cs, hl with
  | [a0, a1, a2], _ =>
    match xs, hlen with
    | [y0, y1, y2], _ =>
      have f0 : DataW.trod enc Try.prog W 0 (fun _ => true) true n 5 [a0] = some y0 := by simpa [c5] using hf 0 { name := "Kind", type := 5, offset := 0, embedded := false, tag := "", pkgPath := "", byteOffset := 0 } rfl
      have f1 : DataW.trod enc Try.prog W 0 (fun _ => true) true n 2 [a1] = some y1 := by simpa [c2] using hf 1 { name := "N", type := 2, offset := 1, embedded := false, tag := "", pkgPath := "", byteOffset := 8 } rfl
      have f2 : DataW.trod enc Try.prog W 0 (fun _ => true) true n 3 [a2] = some y2 := by simpa [c3] using hf 2 { name := "Var", type := 3, offset := 2, embedded := false, tag := "", pkgPath := "", byteOffset := 16 } rfl
      obtain ⟨v0, e0, _, _⟩ := DataW.trod_int Try.underlying5 f0
      obtain ⟨v1, e1, _, _⟩ := DataW.trod_int Try.underlying2 f1
      obtain ⟨v2, e2, _, _⟩ := DataW.trod_int Try.underlying3 f2
      simp only [List.cons.injEq, and_true] at e0 e1 e2
      subst e0 e1 e2
      exact ⟨⟨v0, v1, v2⟩, rfl⟩
set_option maxRecDepth 100000 in
theorem open_ts (h : DataW.trod enc Try.prog W 0 (fun _ => true) true fuel 33 cs = some x) : ∃ p len c ts, cs = [.slice p len c] ∧ TsIn W p len c ts := by
  have hc39 : Try.prog.cellsOf 39 = 3 := by kernel_rfl
  rcases DataW.trod_slice Try.underlying33 h with ⟨rfl, _⟩ | ⟨a, len, cap, elems, rest, m, _, rfl, _, _, h2, _, h4, h5, _, _⟩
  · exact ⟨none, 0, 0, [], rfl, rfl, Nat.le_refl _, fun _ => rfl, fun h => absurd h (by omega)⟩
  · have each : ∀ i, i < len → ∃ t : Tm, ∀ j v, j < 3 → [Value.int .u8 t.k, .int .i64 t.n, .int .i64 t.v][j]? = some v → W.cell? ((a.add (i * 3)).add j) = some v := by
      intro i hi
      have h6 := h5 i hi
      rw [hc39] at h6
      have hi2 : i < elems.length := by omega
      rw [List.getElem?_eq_getElem hi2, Option.bind_eq_some_iff] at h6
      obtain ⟨cs', h7, h8⟩ := h6
      obtain ⟨t, rfl⟩ := open_tm h8
      obtain ⟨_, _, h10⟩ := World.cells?_some h7
      exact ⟨t, fun j v hj hv => by rw [h10 j hj, hv]⟩
    have pick : ∀ i, ∃ t : Tm, i < len → ∀ j v, j < 3 → [Value.int .u8 t.k, .int .i64 t.n, .int .i64 t.v][j]? = some v → W.cell? ((a.add (i * 3)).add j) = some v := by
      intro i
      by_cases hi : i < len
      · obtain ⟨t, h⟩ := each i hi
        exact ⟨t, fun _ => h⟩
      · exact ⟨default, fun h => absurd h hi⟩
    obtain ⟨f, hf⟩ : ∃ f : Nat → Tm, ∀ i, i < len → ∀ j v, j < 3 → [Value.int .u8 (f i).k, .int .i64 (f i).n, .int .i64 (f i).v][j]? = some v → W.cell? ((a.add (i * 3)).add j) = some v := ⟨fun i => Classical.choose (pick i), fun i => Classical.choose_spec (pick i)⟩
    refine ⟨some a, len, cap, (List.range len).map f, rfl, by simp, h2, (fun h => by cases h), fun hl => ?_⟩
    have ha : a = ⟨a.block, a.off, none⟩ ∧ a.block < W.heap.size := by
      have h8 := hf 0 hl 0 _ (by omega) rfl
      have e : (a.add (0 * 3)).add 0 = a := by simp [Addr.add]
      rw [e] at h8
      exact ⟨addr_plain h8, World.block_lt_of_cell? W a h8⟩
    refine ⟨a.block, a.off, by rw [← ha.1], ha.2, fun i hi => ?_⟩
    have e : ((List.range len).map f).getD i default = f i := by simp [List.getD, hi]
    rw [e]
    have hc : ∀ j v, j < 3 → [Value.int .u8 (f i).k, .int .i64 (f i).n, .int .i64 (f i).v][j]? = some v → W.cell? ⟨a.block, a.off + i * 3 + j, none⟩ = some v := by
      intro j v hj hv
      have h9 := hf i hi j v hj hv
      rw [ha.1, add_plain, add_plain] at h9
      exact h9
    exact ⟨hc 0 _ (by omega) rfl, hc 1 _ (by omega) rfl, hc 2 _ (by omega) rfl⟩
end
theorem own : ownKnob Try.prog.godebug = none := by kernel_rfl
end Go.Proofs.Ytgmkmpldlndboaa.Cd
