import Derived.Test.YtfboifbpbjmcbaaPzI
import Derived.Test.YtfboifbpbjmcbaaRows
import Derived.ProofKit
import Derived.OpenShut
import Derived.RowKit
import Derived.ReadAgain
import Derived.ChangeAt
import Derived.ChangeShapes
import Derived.WideShapes
import Derived.ChangeSlices
import Derived.ChangeArms
import Derived.SizedLaws
namespace Go.Proofs.Ytfboifbpbjmcbaa.Pz
open Go.ChangeShapes Go.WideShapes Go.ChangeAt Go.RowKit
theorem addr_plain {W : World} {a : Addr} {v : Value} (h : W.cell? a = some v) : a = ⟨a.block, a.off, none⟩ := by
  obtain ⟨b, o, s⟩ := a
  cases s with
  | none => rfl
  | some x =>
    unfold World.cell? at h
    split at h <;> simp_all
section
variable {H : Type} {enc : TypeId × Value → H} {W : World} {fuel : Nat} {cs : List Value} {x : DataW H × List MemPlace}
/-- Nothing that is read is greater than memory. -/
def Bnd (t : TypeId) (d : DataW H) : Prop := ∀ n ∈ d.weights Try.prog t, n ≤ reachBytes
theorem all_mem (e : TypeId) (l : List (DataW H)) (d : DataW H) (hd : d ∈ l) : ∀ n ∈ d.weights Try.prog e, n ∈ DataW.weightsAll Try.prog e l := by
  induction l with
  | nil => simp at hd
  | cons y r ih =>
    intro n hn
    rw [DataW.weightsAll, List.mem_append]
    rcases List.mem_cons.1 hd with rfl | hd
    · exact Or.inl hn
    · exact Or.inr (ih hd n hn)
theorem Bnd.slice {t e : TypeId} {elems spare : List (DataW H)} (hu : Try.prog.underlying t = some (.slice e)) (h : Bnd t (.slice elems spare)) : (elems.length + spare.length) * Try.prog.bytesOf e ≤ reachBytes ∧ ∀ d ∈ elems, Bnd e d := by
  unfold Bnd at h
  simp only [DataW.weights, hu] at h
  exact ⟨h _ (by simp), fun d hd n hn => h n (by simp only [List.mem_cons, List.mem_append]; exact Or.inr (Or.inl (all_mem e elems d hd n hn)))⟩
theorem Bnd.agg {t : TypeId} {fs : Array Field} {parts : List (DataW H)} (hu : Try.prog.underlying t = some (.struct fs)) (h : Bnd t (.agg parts)) (j : Nat) (f : Field) (hf : fs[j]? = some f) (d : DataW H) (hd : parts[j]? = some d) : Bnd f.type d := by
  unfold Bnd at h
  simp only [DataW.weights, hu] at h
  exact fun n hn => h n (DataW.weights_mem_each (by simp [hf]) hd n hn)
/-- A slice that is read, item by item. -/
theorem open_row {t e : TypeId} {sz : Nat} (hu : Try.prog.underlying t = some (.slice e)) (hsz : Try.prog.cellsOf e = sz) (h0 : 0 < sz) (h : DataW.trod enc Try.prog W 0 (fun _ => true) true fuel t cs = some x) (hb : Bnd t x.1) :
    ∃ p len c, cs = [.slice p len c] ∧ len ≤ c ∧ (p = none → c = 0) ∧ len * Try.prog.bytesOf e ≤ reachBytes ∧ (0 < len → ∃ b off, p = some ⟨b, off, none⟩ ∧ b < W.heap.size ∧ ∀ i, i < len → ∃ (cs' : List Value) (fuel' : Nat) (y : DataW H × List MemPlace), DataW.trod enc Try.prog W 0 (fun _ => true) true fuel' e cs' = some y ∧ Bnd e y.1 ∧ cs'.length = sz ∧ ∀ j v, cs'[j]? = some v → W.cell? ⟨b, off + i * sz + j, none⟩ = some v) := by
  rcases DataW.trod_slice hu h with ⟨rfl, _⟩ | ⟨a, len, cap, elems, rest, m, _, rfl, hx, _, h2, _, h4, h5, _, _⟩
  · exact ⟨none, 0, 0, rfl, Nat.le_refl _, fun _ => rfl, by simp, fun h => absurd h (by omega)⟩
  · have hB := Bnd.slice hu (elems := elems.map (·.1)) (spare := rest.map (·.1)) (by rw [hx] at hb; exact hb)
    have hlen : len * Try.prog.bytesOf e ≤ reachBytes := by
      refine Nat.le_trans (Nat.mul_le_mul_right _ ?_) hB.1
      simp; omega
    refine ⟨some a, len, cap, rfl, h2, (fun h => by cases h), hlen, fun hl => ?_⟩
    have each : ∀ i, i < len → ∃ (cs' : List Value) (y : DataW H × List MemPlace), DataW.trod enc Try.prog W 0 (fun _ => true) true m e cs' = some y ∧ Bnd e y.1 ∧ cs'.length = sz ∧ ∀ j, j < sz → W.cell? ((a.add (i * sz)).add j) = cs'[j]? := by
      intro i hi
      have h6 := h5 i hi
      rw [hsz] at h6
      have hi2 : i < elems.length := by omega
      rw [List.getElem?_eq_getElem hi2, Option.bind_eq_some_iff] at h6
      obtain ⟨cs', h7, h8⟩ := h6
      obtain ⟨_, hl9, h10⟩ := World.cells?_some h7
      exact ⟨cs', _, h8, hB.2 _ (List.mem_map.2 ⟨_, List.getElem_mem hi2, rfl⟩), hl9, h10⟩
    have ha : a = ⟨a.block, a.off, none⟩ ∧ a.block < W.heap.size := by
      obtain ⟨cs', y, _, _, hl9, h10⟩ := each 0 hl
      have h8 := h10 0 h0
      have e : (a.add (0 * sz)).add 0 = a := by simp [Addr.add]
      rw [e, List.getElem?_eq_getElem (by omega)] at h8
      exact ⟨addr_plain h8, World.block_lt_of_cell? W a h8⟩
    refine ⟨a.block, a.off, by rw [← ha.1], ha.2, fun i hi => ?_⟩
    obtain ⟨cs', y, h8, hb8, hl9, h10⟩ := each i hi
    refine ⟨cs', m, y, h8, hb8, hl9, fun j v hv => ?_⟩
    have hj : j < sz := by have := (List.getElem?_eq_some_iff.1 hv).1; omega
    have h9 := h10 j hj
    rw [ha.1, add_plain, add_plain, hv] at h9
    exact h9
set_option maxRecDepth 100000 in
theorem open_tm (h : DataW.trod enc Try.prog W 0 (fun _ => true) true fuel 63 cs = some x) : ∃ t : Tm, cs = tmC t := by
  obtain ⟨xs, n, _, rfl, hl, hlen, hf⟩ := DataW.trod_struct Try.underlying63 h
  have hc : Try.prog.cellsOf 63 = 3 := by kernel_rfl
  rw [hc] at hl
  have c5 : Try.prog.cellsOf 5 = 1 := by kernel_rfl
  have c3 : Try.prog.cellsOf 3 = 1 := by kernel_rfl
  have c2 : Try.prog.cellsOf 2 = 1 := by kernel_rfl
  match cs, hl with
  | [a0, a1, a2], _ =>
    match xs, hlen with
    | [y0, y1, y2], _ =>
      have f0 : DataW.trod enc Try.prog W 0 (fun _ => true) true n 5 [a0] = some y0 := by simpa [c5] using hf 0 _ rfl
      have f1 : DataW.trod enc Try.prog W 0 (fun _ => true) true n 2 [a1] = some y1 := by simpa [c2] using hf 1 _ rfl
      have f2 : DataW.trod enc Try.prog W 0 (fun _ => true) true n 3 [a2] = some y2 := by simpa [c3] using hf 2 _ rfl
      obtain ⟨v0, e0, _, _⟩ := DataW.trod_int Try.underlying5 f0
      obtain ⟨v1, e1, _, _⟩ := DataW.trod_int Try.underlying2 f1
      obtain ⟨v2, e2, _, _⟩ := DataW.trod_int Try.underlying3 f2
      simp only [List.cons.injEq, and_true] at e0 e1 e2
      subst e0 e1 e2
      exact ⟨⟨v0, v1, v2⟩, rfl⟩
theorem pick_list {α : Type} [Inhabited α] {len : Nat} {Q : Nat → α → Prop} (h : ∀ i, i < len → ∃ t, Q i t) : ∃ l : List α, l.length = len ∧ ∀ i, i < len → Q i (l.getD i default) := by
  have pick : ∀ i, ∃ t : α, i < len → Q i t := fun i => by
    by_cases hi : i < len
    · obtain ⟨t, ht⟩ := h i hi
      exact ⟨t, fun _ => ht⟩
    · exact ⟨default, fun h => absurd h hi⟩
  obtain ⟨f, hf⟩ := Classical.axiomOfChoice pick
  refine ⟨(List.range len).map f, by simp, fun i hi => ?_⟩
  have e : ((List.range len).map f).getD i default = f i := by simp [List.getD, hi]
  rw [e]
  exact hf i hi
theorem reach_eq : reachBytes = 140737488351232 := by decide
theorem open_ts (h : DataW.trod enc Try.prog W 0 (fun _ => true) true fuel 42 cs = some x) (hb : Bnd 42 x.1) : ∃ p len c ts, cs = [.slice p len c] ∧ TsIn W.heap.size W p len c ts := by
  obtain ⟨p, len, c, rfl, h1, h2, h3, h4⟩ := open_row Try.underlying42 (sz := 3) (by kernel_rfl) (by decide) h hb
  have hby : Try.prog.bytesOf 63 = 24 := by kernel_rfl
  rw [hby, reach_eq] at h3
  rcases Nat.eq_zero_or_pos len with h0 | h0
  · subst h0
    exact ⟨p, 0, c, [], rfl, rfl, h1, by omega, h2, fun h => by omega⟩
  · obtain ⟨b, off, rfl, hbl, hc⟩ := h4 h0
    obtain ⟨ts, hl, ht⟩ := pick_list (Q := fun i t => ∀ j v, (tmC t)[j]? = some v → W.cell? ⟨b, off + i * 3 + j, none⟩ = some v) (fun i hi => by
      obtain ⟨cs', f', y, h5, _, _, h6⟩ := hc i hi
      obtain ⟨t, rfl⟩ := open_tm h5
      exact ⟨t, h6⟩)
    exact ⟨_, len, c, ts, rfl, hl, h1, by omega, h2, fun _ => ⟨b, off, rfl, hbl, fun i hi => ⟨ht i hi 0 _ rfl, ht i hi 1 _ rfl, ht i hi 2 _ rfl⟩⟩⟩
theorem open_vs (h : DataW.trod enc Try.prog W 0 (fun _ => true) true fuel 43 cs = some x) (hb : Bnd 43 x.1) : ∃ p len c vs, cs = [.slice p len c] ∧ VsIn W.heap.size W p len c vs := by
  obtain ⟨p, len, c, rfl, h1, h2, h3, h4⟩ := open_row Try.underlying43 (sz := 1) (by kernel_rfl) (by decide) h hb
  have hby : Try.prog.bytesOf 42 = 24 := by kernel_rfl
  rw [hby, reach_eq] at h3
  rcases Nat.eq_zero_or_pos len with h0 | h0
  · subst h0
    exact ⟨p, 0, c, [], rfl, rfl, h1, by omega, h2, fun h => by omega⟩
  · obtain ⟨b, off, rfl, hbl, hc⟩ := h4 h0
    obtain ⟨vs, hl, ht⟩ := pick_list (α := List Tm) (Q := fun i t => ∃ q l d, W.cell? ⟨b, off + i, none⟩ = some (.slice q l d) ∧ TsIn W.heap.size W q l d t) (fun i hi => by
      obtain ⟨cs', f', y, h5, hb5, _, h6⟩ := hc i hi
      obtain ⟨q, l, d, ts, rfl, hT⟩ := open_ts h5 hb5
      exact ⟨ts, q, l, d, by simpa using h6 0 _ rfl, hT⟩)
    exact ⟨_, len, c, vs, rfl, hl, h1, by omega, h2, fun _ => ⟨b, off, rfl, hbl, ht⟩⟩
set_option maxRecDepth 100000 in
set_option maxHeartbeats 4000000 in
theorem open_ins (h : DataW.trod enc Try.prog W 0 (fun _ => true) true fuel 45 cs = some x) (hb : Bnd 45 x.1) : ∃ (y : Ins) (kp : Option Addr) (kl kc : Nat) (vp : Option Addr) (vl vc : Nat), cs = insC y (.slice kp kl kc) (.slice vp vl vc) ∧ TsIn W.heap.size W kp kl kc y.key ∧ VsIn W.heap.size W vp vl vc y.vals := by
  obtain ⟨xs, n, _, rfl, hl, hlen, hf⟩ := DataW.trod_struct Try.underlying45 h
  have hc : Try.prog.cellsOf 45 = 13 := by kernel_rfl
  rw [hc] at hl
  have c5 : Try.prog.cellsOf 5 = 1 := by kernel_rfl
  have c3 : Try.prog.cellsOf 3 = 1 := by kernel_rfl
  have c41 : Try.prog.cellsOf 41 = 1 := by kernel_rfl
  have c4 : Try.prog.cellsOf 4 = 1 := by kernel_rfl
  have c2 : Try.prog.cellsOf 2 = 1 := by kernel_rfl
  have c42 : Try.prog.cellsOf 42 = 1 := by kernel_rfl
  have c43 : Try.prog.cellsOf 43 = 1 := by kernel_rfl
  match cs, hl with
  | [a0, a1, a2, a3, a4, a5, a6, a7, a8, a9, a10, a11, a12], _ =>
    match xs, hlen with
    | [y0, y1, y2, y3, y4, y5, y6, y7, y8, y9, y10, y11, y12], _ =>
      have f0 : DataW.trod enc Try.prog W 0 (fun _ => true) true n 5 [a0] = some y0 := by simpa [c5] using hf 0 _ rfl
      have f1 : DataW.trod enc Try.prog W 0 (fun _ => true) true n 3 [a1] = some y1 := by simpa [c3] using hf 1 _ rfl
      have f2 : DataW.trod enc Try.prog W 0 (fun _ => true) true n 41 [a2] = some y2 := by simpa [c41] using hf 2 _ rfl
      have f3 : DataW.trod enc Try.prog W 0 (fun _ => true) true n 3 [a3] = some y3 := by simpa [c3] using hf 3 _ rfl
      have f4 : DataW.trod enc Try.prog W 0 (fun _ => true) true n 4 [a4] = some y4 := by simpa [c4] using hf 4 _ rfl
      have f5 : DataW.trod enc Try.prog W 0 (fun _ => true) true n 3 [a5] = some y5 := by simpa [c3] using hf 5 _ rfl
      have f6 : DataW.trod enc Try.prog W 0 (fun _ => true) true n 3 [a6] = some y6 := by simpa [c3] using hf 6 _ rfl
      have f7 : DataW.trod enc Try.prog W 0 (fun _ => true) true n 3 [a7] = some y7 := by simpa [c3] using hf 7 _ rfl
      have f8 : DataW.trod enc Try.prog W 0 (fun _ => true) true n 4 [a8] = some y8 := by simpa [c4] using hf 8 _ rfl
      have f9 : DataW.trod enc Try.prog W 0 (fun _ => true) true n 2 [a9] = some y9 := by simpa [c2] using hf 9 _ rfl
      have f10 : DataW.trod enc Try.prog W 0 (fun _ => true) true n 2 [a10] = some y10 := by simpa [c2] using hf 10 _ rfl
      have f11 : DataW.trod enc Try.prog W 0 (fun _ => true) true n 42 [a11] = some y11 := by simpa [c42] using hf 11 _ rfl
      have f12 : DataW.trod enc Try.prog W 0 (fun _ => true) true n 43 [a12] = some y12 := by simpa [c43] using hf 12 _ rfl
      obtain ⟨v0, e0, _, _⟩ := DataW.trod_int Try.underlying5 f0
      obtain ⟨v1, e1, _, _⟩ := DataW.trod_int Try.underlying3 f1
      obtain ⟨v2, e2, _, _⟩ := DataW.trod_int Try.underlying41 f2
      obtain ⟨v3, e3, _, _⟩ := DataW.trod_int Try.underlying3 f3
      obtain ⟨v4, e4, _⟩ := DataW.trod_bool Try.underlying4 f4
      obtain ⟨v5, e5, _, _⟩ := DataW.trod_int Try.underlying3 f5
      obtain ⟨v6, e6, _, _⟩ := DataW.trod_int Try.underlying3 f6
      obtain ⟨v7, e7, _, _⟩ := DataW.trod_int Try.underlying3 f7
      obtain ⟨v8, e8, _⟩ := DataW.trod_bool Try.underlying4 f8
      obtain ⟨v9, e9, _, _⟩ := DataW.trod_int Try.underlying2 f9
      obtain ⟨v10, e10, _, _⟩ := DataW.trod_int Try.underlying2 f10
      obtain ⟨kp, kl, kc, ts, e11, hT⟩ := open_ts f11 (Bnd.agg Try.underlying45 hb 11 _ rfl _ rfl)
      obtain ⟨vp, vl, vc, vs, e12, hV⟩ := open_vs f12 (Bnd.agg Try.underlying45 hb 12 _ rfl _ rfl)
      simp only [List.cons.injEq, and_true] at e0 e1 e2 e3 e4 e5 e6 e7 e8 e9 e10 e11 e12
      subst e0 e1 e2 e3 e4 e5 e6 e7 e8 e9 e10 e11 e12
      exact ⟨⟨v0, v1, v2, v3, v4, v5, v6, v7, v8, v9, v10, ts, vs⟩, kp, kl, kc, vp, vl, vc, rfl, hT, hV⟩
theorem open_is (h : DataW.trod enc Try.prog W 0 (fun _ => true) true fuel 22 cs = some x) (hb : Bnd 22 x.1) : ∃ p len c is, cs = [.slice p len c] ∧ IsIn W.heap.size W p len c is := by
  obtain ⟨p, len, c, rfl, h1, h2, h3, h4⟩ := open_row Try.underlying22 (sz := 13) (by kernel_rfl) (by decide) h hb
  rcases Nat.eq_zero_or_pos len with h0 | h0
  · subst h0
    exact ⟨p, 0, c, [], rfl, rfl, h1, fun h => by omega⟩
  · obtain ⟨b, off, rfl, hbl, hc⟩ := h4 h0
    obtain ⟨is, hl, ht⟩ := pick_list (Q := fun i y => ∃ kp kl kc vp vl vc, IC W.heap.size W b (off + i * 13) y kp kl kc vp vl vc) (fun i hi => by
      obtain ⟨cs', f', y, h5, hb5, _, h6⟩ := hc i hi
      obtain ⟨z, kp, kl, kc, vp, vl, vc, rfl, hT, hV⟩ := open_ins h5 hb5
      exact ⟨z, kp, kl, kc, vp, vl, vc, h6, hT, hV⟩)
    exact ⟨_, len, c, is, rfl, hl, h1, fun _ => ⟨b, off, rfl, hbl, ht⟩⟩
theorem open_iv (h : DataW.trod enc Try.prog W 0 (fun _ => true) true fuel 23 cs = some x) (hb : Bnd 23 x.1) : ∃ p len c xs, cs = [.slice p len c] ∧ VIn W.heap.size W p len c xs ∧ ∀ y ∈ xs, wfI y = true := by
  obtain ⟨p, len, c, rfl, h1, h2, h3, h4⟩ := open_row Try.underlying23 (sz := 1) (by kernel_rfl) (by decide) h hb
  rcases Nat.eq_zero_or_pos len with h0 | h0
  · subst h0
    exact ⟨p, 0, c, [], rfl, ⟨rfl, h1, fun h => by omega⟩, fun y hy => by simp at hy⟩
  · obtain ⟨b, off, rfl, hbl, hc⟩ := h4 h0
    obtain ⟨xs, hl, ht⟩ := pick_list (Q := fun i y => W.cell? ⟨b, off + i, none⟩ = some (.int .i64 y) ∧ wfI y = true) (fun i hi => by
      obtain ⟨cs', f', y, h5, hb5, _, h6⟩ := hc i hi
      obtain ⟨z, rfl, _, hw⟩ := DataW.trod_int Try.underlying3 h5
      exact ⟨z, by simpa using h6 0 _ rfl, hw⟩)
    refine ⟨_, len, c, xs, rfl, ⟨hl, h1, fun _ => ⟨b, off, rfl, hbl, fun i hi => (ht i hi).1⟩⟩, fun y hy => ?_⟩
    obtain ⟨j, hj, rfl⟩ := List.getElem_of_mem hy
    have := (ht j (by omega)).2
    simpa [List.getD, hj] using this
end
theorem own : ownKnob Try.prog.godebug = none := by kernel_rfl
end Go.Proofs.Ytfboifbpbjmcbaa.Pz
