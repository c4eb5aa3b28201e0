import Derived.Test.YtfboifbpbjmcbaaPzF
import Derived.Laws.OwnMore
namespace Go.Proofs.Ytfboifbpbjmcbaa.Pz
open Go.RowKit
def tmC (t : Tm) : List Value := [.int .u8 t.k, .int .i64 t.n, .int .i64 t.v]
def flatT : List Tm → List Value
  | [] => []
  | t :: r => tmC t ++ flatT r
theorem flatT_length (ts : List Tm) : (flatT ts).length = ts.length * 3 := by
  induction ts with
  | nil => rfl
  | cons t r ih => simp only [flatT, List.length_append, ih, tmC, List.length_cons, List.length_nil]; omega
theorem flatT_append (a b : List Tm) : flatT (a ++ b) = flatT a ++ flatT b := by
  induction a with
  | nil => rfl
  | cons t r ih => simp only [List.cons_append, flatT, ih, List.append_assoc]
theorem flatT_get (ts : List Tm) (i j : Nat) (hi : i < ts.length) (hj : j < 3) : (flatT ts)[i * 3 + j]? = (tmC (ts.getD i default))[j]? := by
  induction ts generalizing i with
  | nil => simp at hi
  | cons t r ih =>
    cases i with
    | zero =>
      simp only [flatT, Nat.zero_mul, Nat.zero_add]
      rw [List.getElem?_append_left (by simpa [tmC] using hj)]
      rfl
    | succ i =>
      simp only [flatT]
      rw [List.getElem?_append_right (by simp [tmC]; omega)]
      have := ih i (by simpa using hi)
      rw [show (i + 1) * 3 + j - (tmC t).length = i * 3 + j by simp [tmC]; omega, this]
      simp [List.getD]
theorem flatT_one (ts : List Tm) : ∀ u ∈ flatT ts, u.oneCell' = true := by
  induction ts with
  | nil => simp [flatT]
  | cons t r ih =>
    intro u hu
    simp only [flatT, List.mem_append] at hu
    rcases hu with hu | hu
    · simp only [tmC, List.mem_cons, List.not_mem_nil, or_false] at hu
      rcases hu with rfl | rfl | rfl <;> rfl
    · exact ih u hu
theorem own_on {W W' : World} {B e s n m : Nat} {v : Value} {xs : List Value} (h : W.ownsRow B e s v n xs) (hb : Below m W W') (hm : W.heap.size ≤ m) : W'.ownsRow B e s v n xs := by
  refine ⟨h.1, ?_⟩
  rcases h.2 with h0 | ⟨g, c, cur, e1, e2, e3, e4⟩
  · exact Or.inl h0
  · exact Or.inr ⟨g, c, cur, e1, e2, (hb.block g (by have := (Array.getElem?_eq_some_iff.1 e3).1; omega)).trans e3, e4⟩
/-- A row is no block of another type. -/
theorem own_apart {W W' : World} {B e s n : Nat} {v : Value} {xs : List Value} {row : Option Nat} (h : W.ownsRow B e s v n xs) (hg : W.grownBy W' row) (hr : ∀ r, row = some r → ∀ cs fr, W.heap[r]? ≠ some (.cells cs e fr)) : W'.ownsRow B e s v n xs :=
  h.kept hg (by
    cases hv : v.ownBlock with
    | none => exact Or.inl rfl
    | some g =>
      obtain ⟨c, fz, h1⟩ := Lib.ownsRow_kind h g hv
      exact Or.inr (fun e => hr g e.symm _ _ h1))
theorem own_row_kind {W : World} {B e s n : Nat} {v : Value} {xs : List Value} (h : W.ownsRow B e s v n xs) {t : Nat} (ht : t ≠ e) : ∀ r, v.ownBlock = some r → ∀ cs fr, W.heap[r]? ≠ some (.cells cs t fr) := fun r e1 cs fr e2 => by
  obtain ⟨c, fz, h1⟩ := Lib.ownsRow_kind h r e1
  rw [h1] at e2
  simp at e2
  exact ht e2.2.1.symm
theorem own_base {W : World} {B B' e s n : Nat} {v : Value} {xs : List Value} (h : W.ownsRow B e s v n xs) (hb : B' ≤ B) : W.ownsRow B' e s v n xs := by
  refine ⟨h.1, ?_⟩
  rcases h.2 with h0 | ⟨g, c, cur, e1, e2, e3⟩
  · exact Or.inl h0
  · exact Or.inr ⟨g, c, cur, e1, by omega, e3⟩
theorem ts_block {W : World} {b : Nat} {cs : Array Value} {T : TypeId} {fr : Nat × Nat} (hb : W.heap[b]? = some (.cells cs T fr)) (ts : List Tm) (hcs : cs.toList.take (ts.length * 3) = flatT ts) (c : Nat) (hc : ts.length ≤ c) (hz : ts.length * 24 ≤ 140737488351232) : TsIn W.heap.size W (some ⟨b, 0, none⟩) ts.length c ts where
  len_eq := rfl
  cap := hc
  sz := hz
  nil := fun h => by cases h
  cell := fun _ => by
    refine ⟨b, 0, rfl, (Array.getElem?_eq_some_iff.1 hb).1, fun i hi => ?_⟩
    have cell : ∀ j u, j < 3 → (tmC (ts.getD i default))[j]? = some u → W.cell? ⟨b, 0 + i * 3 + j, none⟩ = some u := fun j u hj hu => by
      rw [cell_of_row W b _ cs T fr hb]
      have h1 := flatT_get ts i j hi hj
      rw [← hcs, List.getElem?_take, if_pos (by omega)] at h1
      rw [Nat.zero_add, ← Array.getElem?_toList, h1, hu]
    exact ⟨cell 0 _ (by omega) rfl, cell 1 _ (by omega) rfl, cell 2 _ (by omega) rfl⟩
theorem ts_own {W : World} {B e : Nat} {v : Value} {ts : List Tm} {n : Nat} (hn : ts.length = n) (hz : n * 24 ≤ 140737488351232) (h : W.ownsRow B e 3 v n (flatT ts)) : ∃ p c, v = .slice p n c ∧ TsIn W.heap.size W p n c ts := by
  subst hn
  rcases h.2 with ⟨rfl, h0⟩ | ⟨g, c, cur, rfl, _, hg, hc, _, _, ht⟩
  · exact ⟨none, 0, by rw [h0], rfl, by omega, hz, fun _ => rfl, fun h => by omega⟩
  · exact ⟨_, _, rfl, ts_block hg ts ht c hc hz⟩
theorem infoT : (Try.prog.info? 63).map (fun i => (i.zero, i.size, i.bytes)) = some (some (.agg #[.int .u8 0, .int .i64 0, .int .i64 0]), 3, 24) := by kernel_rfl
theorem infoS : (Try.prog.info? 42).map (fun i => (i.zero, i.size, i.bytes)) = some (some (.slice none 0 0), 1, 24) := by kernel_rfl
theorem add_plain (b o i : Nat) : (⟨b, o, none⟩ : Addr).add i = ⟨b, o + i, none⟩ := by
  unfold Addr.add
  split
  · rename_i h; subst h; rfl
  · rfl
theorem TsIn.news {n₀ : Nat} {W : World} {ad : Addr} {m c : Nat} {ts : List Tm} (h : TsIn n₀ W (some ad) m c ts) : ∀ j u, (flatT ts)[j]? = some u → W.cell? (ad.add j) = some u := by
  intro j u hj
  have hl := h.len_eq
  have hjl : j < m * 3 := by
    have := (List.getElem?_eq_some_iff.1 hj).1
    rwa [flatT_length, hl] at this
  obtain ⟨b, off, e, _, hcell⟩ := h.cell (by omega)
  cases e
  have hd : j / 3 < m := by omega
  obtain ⟨c0, c1, c2⟩ := hcell (j / 3) hd
  have hg := flatT_get ts (j / 3) (j % 3) (by omega) (by omega)
  rw [show j / 3 * 3 + j % 3 = j by omega, hj] at hg
  rw [add_plain]
  rcases (by omega : j % 3 = 0 ∨ j % 3 = 1 ∨ j % 3 = 2) with e | e | e
  · rw [e] at hg
    rw [show off + j = off + j / 3 * 3 by omega, c0, hg]; rfl
  · rw [e] at hg
    rw [show off + j = off + j / 3 * 3 + 1 by omega, c1, hg]; rfl
  · rw [e] at hg
    rw [show off + j = off + j / 3 * 3 + 2 by omega, c2, hg]; rfl
theorem VsIn.kvs {n₀ : Nat} {W : World} {p : Option Addr} {m c : Nat} {vs : List (List Tm)} (h : VsIn n₀ W p m c vs) : ∃ kvs : List Value, kvs.length = m ∧ (∀ i, i < m → ∃ q l d, kvs.getD i default = .slice q l d ∧ TsIn n₀ W q l d (vs.getD i [])) ∧ (0 < m → ∃ b off, p = some ⟨b, off, none⟩ ∧ b < n₀ ∧ ∀ i, i < m → W.cell? ⟨b, off + i, none⟩ = some (kvs.getD i default)) := by
  rcases Nat.eq_zero_or_pos m with h0 | h0
  · exact ⟨[], by simp [h0], fun i hi => by omega, fun h => by omega⟩
  · obtain ⟨b, off, e, hb, hc⟩ := h.cell h0
    have ex : ∀ i, ∃ v : Value, i < m → ∃ q l d, v = .slice q l d ∧ W.cell? ⟨b, off + i, none⟩ = some v ∧ TsIn n₀ W q l d (vs.getD i []) := fun i => by
      by_cases hi : i < m
      · obtain ⟨q, l, d, h1, h2⟩ := hc i hi
        exact ⟨.slice q l d, fun _ => ⟨q, l, d, rfl, h1, h2⟩⟩
      · exact ⟨.bool false, fun h => absurd h hi⟩
    obtain ⟨f, hf⟩ := Classical.axiomOfChoice ex
    refine ⟨(List.range m).map f, by simp, fun i hi => ?_, fun _ => ⟨b, off, e, hb, fun i hi => ?_⟩⟩
    · obtain ⟨q, l, d, h1, _, h3⟩ := hf i hi
      exact ⟨q, l, d, by simp [List.getD, hi, h1], h3⟩
    · obtain ⟨q, l, d, h1, h2, _⟩ := hf i hi
      rw [h2]
      simp [List.getD, hi]
theorem eqT_nil (W : World) : (binOp .eql 42 (.slice none 0 0) (.slice none 0 0)).run Try.prog W = .ok (.bool true) W := by kernel_rfl
theorem eqT_some (g : Addr) (n c : Nat) (W : World) : (binOp .eql 42 (.slice (some g) n c) (.slice none 0 0)).run Try.prog W = .ok (.bool false) W := by kernel_rfl
theorem eqV_nil (W : World) : (binOp .eql 43 (.slice none 0 0) (.slice none 0 0)).run Try.prog W = .ok (.bool true) W := by kernel_rfl
theorem eqV_some (g : Addr) (n c : Nat) (W : World) : (binOp .eql 43 (.slice (some g) n c) (.slice none 0 0)).run Try.prog W = .ok (.bool false) W := by kernel_rfl
set_option maxHeartbeats 4000000 in
set_option maxRecDepth 100000 in
theorem cloneT_at (w : World) (n₀ len c : Nat) (p : Option Addr) (ts : List Tm) (h : TsIn n₀ w p len c ts) (hn : n₀ ≤ w.heap.size) :
    Calls Try.prog 27 #[.slice p len c] w fun e w' => ∃ v, e = .returned v ∧ w'.ownsRow w.heap.size 63 3 v len (flatT ts) ∧ Below w.heap.size w w' := by
  obtain ⟨i0, hi, hz0, hz1, hz2⟩ := info_of infoT
  cases p with
  | none =>
    obtain rfl := h.nil rfl
    have h1 := h.cap
    obtain rfl : len = 0 := by omega
    obtain rfl : ts = [] := List.eq_nil_of_length_eq_zero h.len_eq
    clear h h1
    have eqn := eqT_nil
    go_enter Try.func27, Try.ntmps27
    go_wp2_with fail
    go_ret
    exact ⟨_, rfl, ⟨rfl, Or.inl ⟨rfl, rfl⟩⟩, Below.refl _ _⟩
  | some ad =>
    have hl := h.len_eq
    have hsz := h.sz
    have HN := Lib.hid h
    have hz := World.ownsRow_lit (base := w.heap.size) (e := 63) (size := 3) w #[] 0 (Nat.le_refl _) (by simp [maxLen]) rfl
    have hA := (h.on (W' := w.alloc (.cells #[] 63)) (Kb.of (one_below _ _) hn)).news
    clear h
    have eqn := eqT_some
    go_enter Try.func27, Try.ntmps27
    go_wp2_with (at_builtin; refine wpList_append_own _ rfl (.tmp 5) (.tmp 6) 42 rfl w.heap.size 63 i0 _ 3 24 Try.underlying42 hi hz0 hz1 hz2 rfl (by decide) (.slice (some ⟨w.heap.size, 0, none⟩) 0 0) 0 [] rfl hz ad len c (flatT ts) rfl (by rw [flatT_length, hl]) hA (flatT_one ts) (by unfold maxLen; omega) (by omega) (by simp) ?_; intro v' w' hown hgrow _)
    have hb2 : Below w.heap.size w w' := (one_below w _).grown hgrow (by simp) (fun k hk => by simp [Value.ownBlock] at hk; omega)
    go_ret
    exact ⟨_, rfl, by simpa using hown, hb2⟩
theorem one_of_kvs {kvs : List Value} {m : Nat} (h : kvs.length = m) (hs : ∀ i, i < m → ∃ q l d, kvs.getD i default = .slice q l d) : ∀ u ∈ kvs, u.oneCell' = true := fun u hu => by
  obtain ⟨j, hj, rfl⟩ := List.getElem_of_mem hu
  obtain ⟨q, l, d, e⟩ := hs j (by omega)
  simp only [List.getD, hj, List.getElem?_eq_getElem, Option.getD_some] at e
  rw [e]; rfl
set_option maxHeartbeats 4000000 in
set_option maxRecDepth 100000 in
theorem cloneV_at (w : World) (n₀ len c : Nat) (p : Option Addr) (vs : List (List Tm)) (h : VsIn n₀ w p len c vs) (hn : n₀ ≤ w.heap.size) :
    Calls Try.prog 28 #[.slice p len c] w fun e w' => ∃ v, e = .returned v ∧ ∃ kvs, w'.ownsRow w.heap.size 42 1 v len kvs ∧ (∀ i, i < len → ∃ q l d, kvs.getD i default = .slice q l d ∧ TsIn n₀ w q l d (vs.getD i [])) ∧ Below w.heap.size w w' := by
  obtain ⟨i0, hi, hz0, hz1, hz2⟩ := info_of infoS
  obtain ⟨kvs, hkl, hks, hkc⟩ := h.kvs
  cases p with
  | none =>
    obtain rfl := h.nil rfl
    have h1 := h.cap
    obtain rfl : len = 0 := by omega
    clear h h1 hks hkc
    have eqn := eqV_nil
    go_enter Try.func28, Try.ntmps28
    go_wp2_with fail
    go_ret
    exact ⟨_, rfl, [], ⟨rfl, Or.inl ⟨rfl, rfl⟩⟩, fun i hi => by omega, Below.refl _ _⟩
  | some ad =>
    have HK := Lib.hid hks
    have hsz := h.sz
    have hz := World.ownsRow_lit (base := w.heap.size) (e := 42) (size := 1) w #[] 0 (Nat.le_refl _) (by simp [maxLen]) rfl
    have hA : ∀ j u, kvs[j]? = some u → (w.alloc (.cells #[] 42)).cell? (ad.add j) = some u := fun j u hj => by
      have hjl := (List.getElem?_eq_some_iff.1 hj).1
      obtain ⟨b, off, e, hbn, hcell⟩ := hkc (by omega)
      cases e
      have h1 := hcell j (by omega)
      rw [add_plain]
      rw [(Kb.of (one_below w (.cells #[] 42)) hn).cell hbn h1]
      simp [List.getD, hj]
    have h1 : ∀ u ∈ kvs, u.oneCell' = true := one_of_kvs hkl (fun i hi => by obtain ⟨q, l, d, e, _⟩ := hks i hi; exact ⟨q, l, d, e⟩)
    clear h hks hkc
    have eqn := eqV_some
    go_enter Try.func28, Try.ntmps28
    go_wp2_with (at_builtin; refine wpList_append_own _ rfl (.tmp 5) (.tmp 6) 43 rfl w.heap.size 42 i0 _ 1 24 Try.underlying43 hi hz0 hz1 hz2 rfl (by decide) (.slice (some ⟨w.heap.size, 0, none⟩) 0 0) 0 [] rfl hz ad len c kvs rfl (by rw [hkl]; omega) hA h1 (by unfold maxLen; omega) (by omega) (by simp) ?_; intro v' w' hown hgrow _)
    have hb2 : Below w.heap.size w w' := (one_below w _).grown hgrow (by simp) (fun k hk => by simp [Value.ownBlock] at hk; omega)
    go_ret
    exact ⟨_, rfl, kvs, by simpa using hown, HK.out, hb2⟩
end Go.Proofs.Ytfboifbpbjmcbaa.Pz
