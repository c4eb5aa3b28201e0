import Derived.Test.YtfboifbpbjmcbaaPzI
namespace Go.Proofs.Ytfboifbpbjmcbaa.Pz
open Go.RowKit
def flatI : List Ins → List Value → List Value → List Value
  | x :: r, k :: ks, v :: vs => insC x k v ++ flatI r ks vs
  | _, _, _ => []
theorem insC_len (x : Ins) (k v : Value) : (insC x k v).length = 13 := rfl
theorem flatI_len (is : List Ins) (ks vs : List Value) (h1 : ks.length = is.length) (h2 : vs.length = is.length) : (flatI is ks vs).length = is.length * 13 := by
  induction is generalizing ks vs with
  | nil => cases ks <;> cases vs <;> simp_all [flatI]
  | cons x r ih =>
    match ks, vs, h1, h2 with
    | k :: ks, v :: vs, h1, h2 =>
      simp only [flatI, List.length_append, insC_len, ih ks vs (by simpa using h1) (by simpa using h2), List.length_cons]; omega
theorem flatI_snoc (is : List Ins) (ks vs : List Value) (h1 : ks.length = is.length) (h2 : vs.length = is.length) (x : Ins) (k v : Value) : flatI (is ++ [x]) (ks ++ [k]) (vs ++ [v]) = flatI is ks vs ++ insC x k v := by
  induction is generalizing ks vs with
  | nil =>
    match ks, vs, h1, h2 with
    | [], [], _, _ => simp [flatI]
  | cons y r ih =>
    match ks, vs, h1, h2 with
    | k' :: ks, v' :: vs, h1, h2 =>
      simp only [List.cons_append, flatI, ih ks vs (by simpa using h1) (by simpa using h2), List.append_assoc]
theorem flatI_get (is : List Ins) (ks vs : List Value) (h1 : ks.length = is.length) (h2 : vs.length = is.length) (i j : Nat) (hi : i < is.length) (hj : j < 13) : (flatI is ks vs)[i * 13 + j]? = (insC (is.getD i default) (ks.getD i default) (vs.getD i default))[j]? := by
  induction is generalizing ks vs i with
  | nil => simp at hi
  | cons x r ih =>
    match ks, vs, h1, h2 with
    | k :: ks, v :: vs, h1, h2 =>
      cases i with
      | zero =>
        simp only [flatI, Nat.zero_mul, Nat.zero_add]
        rw [List.getElem?_append_left (by rw [insC_len]; exact hj)]
        rfl
      | succ i =>
        simp only [flatI]
        rw [List.getElem?_append_right (by rw [insC_len]; omega), insC_len, show (i + 1) * 13 + j - 13 = i * 13 + j by omega, ih ks vs (by simpa using h1) (by simpa using h2) i (by simpa using hi)]
        simp [List.getD]
/-- Instructions that a call has laid. -/
structure OL (W : World) (base T tT tS : Nat) (v : Value) (is : List Ins) : Prop where
  row : ∃ ks vs : List Value, ks.length = is.length ∧ vs.length = is.length ∧ W.ownsRow base T 13 v is.length (flatI is ks vs) ∧ ∀ i, i < is.length → OI W base tT tS (is.getD i default) (ks.getD i default) (vs.getD i default)
section
variable {W W' : World} {base T tT tS : Nat} {v : Value} {is : List Ins} {x : Ins} {kv vv : Value}
theorem OI.on (h : OI W base tT tS x kv vv) {m : Nat} (hb : Below m W W') (hm : W.heap.size ≤ m) : OI W' base tT tS x kv vv where
  key := own_on h.key hb hm
  vals := by
    obtain ⟨kvs, h1, h2⟩ := h.vals
    exact ⟨kvs, own_on h1 hb hm, fun i hi => own_on (h2 i hi) hb hm⟩
theorem OI.apart (h : OI W base tT tS x kv vv) {row : Option Nat} (hg : W.grownBy W' row) (h1 : ∀ r, row = some r → ∀ cs fr, W.heap[r]? ≠ some (.cells cs tT fr)) (h2 : ∀ r, row = some r → ∀ cs fr, W.heap[r]? ≠ some (.cells cs tS fr)) : OI W' base tT tS x kv vv where
  key := own_apart h.key hg h1
  vals := by
    obtain ⟨kvs, h3, h4⟩ := h.vals
    exact ⟨kvs, own_apart h3 hg h2, fun i hi => own_apart (h4 i hi) hg h1⟩
theorem OI.based (h : OI W base tT tS x kv vv) {B : Nat} (hb : B ≤ base) : OI W B tT tS x kv vv where
  key := own_base h.key hb
  vals := by
    obtain ⟨kvs, h3, h4⟩ := h.vals
    exact ⟨kvs, own_base h3 hb, fun i hi => own_base (h4 i hi) hb⟩
theorem OI.to (h : OI W base tT tS x kv vv) (t : Int) : OI W base tT tS { x with to := t } kv vv := ⟨h.key, h.vals⟩
theorem OL.on (h : OL W base T tT tS v is) {m : Nat} (hb : Below m W W') (hm : W.heap.size ≤ m) : OL W' base T tT tS v is where
  row := by
    obtain ⟨ks, vs, h1, h2, h3, h4⟩ := h.row
    exact ⟨ks, vs, h1, h2, own_on h3 hb hm, fun i hi => (h4 i hi).on hb hm⟩
/-- Nothing of a row of another type is touched. -/
theorem OL.apart (h : OL W base T tT tS v is) {row : Option Nat} (hg : W.grownBy W' row) (h0 : ∀ r, row = some r → ∀ cs t fr, t = T ∨ t = tT ∨ t = tS → W.heap[r]? ≠ some (.cells cs t fr)) : OL W' base T tT tS v is where
  row := by
    obtain ⟨ks, vs, h1, h2, h3, h4⟩ := h.row
    exact ⟨ks, vs, h1, h2, own_apart h3 hg (fun r e cs fr => h0 r e cs _ fr (Or.inl rfl)), fun i hi => (h4 i hi).apart hg (fun r e cs fr => h0 r e cs _ fr (Or.inr (Or.inl rfl))) (fun r e cs fr => h0 r e cs _ fr (Or.inr (Or.inr rfl)))⟩
theorem OL.based (h : OL W base T tT tS v is) {B : Nat} (hb : B ≤ base) : OL W B T tT tS v is where
  row := by
    obtain ⟨ks, vs, h1, h2, h3, h4⟩ := h.row
    exact ⟨ks, vs, h1, h2, own_base h3 hb, fun i hi => (h4 i hi).based hb⟩
theorem OL.nil (W : World) (base T tT tS : Nat) : OL W base T tT tS (.slice none 0 0) [] := ⟨[], [], rfl, rfl, ⟨rfl, Or.inl ⟨rfl, rfl⟩⟩, fun i hi => by simp at hi⟩
theorem OL.shape (h : OL W base T tT tS v is) : ∃ vg vc, v = .slice vg is.length vc := by
  obtain ⟨ks, vs, h1, h2, h3, h4⟩ := h.row
  exact own_shape h3
/-- One more. -/
theorem OL.snoc {w1 w2 : World} {v' : Value} {ks vs : List Value} (hk : ks.length = is.length) (hv : vs.length = is.length) (hr : w1.ownsRow base T 13 v is.length (flatI is ks vs)) (hi : ∀ i, i < is.length → OI w1 base tT tS (is.getD i default) (ks.getD i default) (vs.getD i default)) (hx : OI w1 base tT tS x kv vv) (hTt : tT ≠ T) (hTs : tS ≠ T)
    (hown : w2.ownsRow base T 13 v' (is.length + 1) (flatI is ks vs ++ insC x kv vv)) (hg : w1.grownBy w2 v.ownBlock) : OL w2 base T tT tS v' (is ++ [x]) where
  row := by
    refine ⟨ks ++ [kv], vs ++ [vv], by simp [hk], by simp [hv], by rw [flatI_snoc is ks vs hk hv, List.length_append]; exact hown, fun i hi' => ?_⟩
    have a1 := own_row_kind hr hTt
    have a2 := own_row_kind hr hTs
    by_cases h' : i < is.length
    · have e1 : (is ++ [x]).getD i default = is.getD i default := by simp [List.getD, List.getElem?_append_left h']
      have e2 : (ks ++ [kv]).getD i default = ks.getD i default := by simp [List.getD, List.getElem?_append_left (show i < ks.length by omega)]
      have e3 : (vs ++ [vv]).getD i default = vs.getD i default := by simp [List.getD, List.getElem?_append_left (show i < vs.length by omega)]
      rw [e1, e2, e3]
      exact (hi i h').apart hg a1 a2
    · obtain rfl : i = is.length := by simp at hi'; omega
      have e1 : (is ++ [x]).getD is.length default = x := by simp [List.getD]
      have e2 : (ks ++ [kv]).getD is.length default = kv := by simp [List.getD, ← hk]
      have e3 : (vs ++ [vv]).getD is.length default = vv := by simp [List.getD, ← hv]
      rw [e1, e2, e3]
      exact hx.apart hg a1 a2
end
/-- No terms of an instruction are too many. -/
def SzI (x : Ins) : Prop := x.key.length * 24 ≤ 140737488351232 ∧ x.vals.length * 24 ≤ 140737488351232 ∧ ∀ v ∈ x.vals, v.length * 24 ≤ 140737488351232
theorem vs_own {W : World} {base tT tS : Nat} {vv : Value} {vs : List (List Tm)} {kvs : List Value} (hz : vs.length * 24 ≤ 140737488351232) (hzs : ∀ v ∈ vs, v.length * 24 ≤ 140737488351232) (h : W.ownsRow base tS 1 vv vs.length kvs) (hs : ∀ i, i < vs.length → W.ownsRow base tT 3 (kvs.getD i default) (vs.getD i []).length (flatT (vs.getD i []))) : ∃ p c, vv = .slice p vs.length c ∧ VsIn W.heap.size W p vs.length c vs := by
  have hl : kvs.length = vs.length := by have := h.1; omega
  rcases h.2 with ⟨rfl, h0⟩ | ⟨g, c, cur, rfl, _, hg, hc, _, _, ht⟩
  · exact ⟨none, 0, by rw [h0], rfl, by omega, hz, fun _ => rfl, fun h => by omega⟩
  · refine ⟨_, _, rfl, rfl, hc, hz, fun h => by (cases h), fun _ => ⟨g, 0, rfl, (Array.getElem?_eq_some_iff.1 hg).1, fun i hi => ?_⟩⟩
    have hm : vs.getD i [] ∈ vs := by simp [List.getD, hi]
    obtain ⟨q, d, e, hT⟩ := ts_own rfl (hzs _ hm) (hs i hi)
    refine ⟨q, _, d, ?_, hT⟩
    rw [cell_of_row W g _ cur _ _ hg, ← e, Nat.zero_add, ← Array.getElem?_toList]
    have h1 : kvs[i]? = cur.toList[i]? := by rw [← ht, List.getElem?_take, if_pos (by omega)]
    rw [← h1]
    simp [List.getD, show i < kvs.length by omega]
theorem is_own {W : World} {base T tT tS : Nat} {v : Value} {is : List Ins} (h : OL W base T tT tS v is) (hz : ∀ x ∈ is, SzI x) : ∃ p c, v = .slice p is.length c ∧ IsIn W.heap.size W p is.length c is := by
  obtain ⟨ks, vs, h1, h2, h3, h4⟩ := h.row
  rcases h3.2 with ⟨rfl, h0⟩ | ⟨g, c, cur, rfl, _, hg, hc, _, _, ht⟩
  · exact ⟨none, 0, by rw [h0], rfl, by omega, fun h => by omega⟩
  · refine ⟨_, _, rfl, rfl, hc, fun _ => ⟨g, 0, rfl, (Array.getElem?_eq_some_iff.1 hg).1, fun i hi => ?_⟩⟩
    have hm : is.getD i default ∈ is := by simp [List.getD, hi]
    obtain ⟨z1, z2, z3⟩ := hz _ hm
    have o := h4 i hi
    obtain ⟨kvs, o1, o2⟩ := o.vals
    obtain ⟨kp, kc, e1, hT⟩ := ts_own rfl z1 o.key
    obtain ⟨vp, vc, e2, hV⟩ := vs_own z2 z3 o1 o2
    refine ⟨kp, _, kc, vp, _, vc, fun j u hj => ?_, hT, hV⟩
    have hj13 : j < 13 := (List.getElem?_eq_some_iff.1 hj).1
    rw [← e1, ← e2, ← flatI_get is ks vs h1 h2 i j hi hj13, ← ht, List.getElem?_take, if_pos (by omega)] at hj
    rw [cell_of_row W g _ cur _ _ hg, Nat.zero_add, ← Array.getElem?_toList, hj]
theorem vi_own {W : World} {B : Nat} {v : Value} {xs : List Int} {n : Nat} (hn : xs.length = n) (h : W.ownsRow B 3 1 v n (intC xs)) : ∃ p c, v = .slice p n c ∧ VIn W.heap.size W p n c xs := by
  subst hn
  rcases h.2 with ⟨rfl, h0⟩ | ⟨g, c, cur, rfl, _, hg, hc, _, _, ht⟩
  · exact ⟨none, 0, by rw [h0], rfl, by omega, fun h => by omega⟩
  · refine ⟨_, _, rfl, rfl, hc, fun _ => ⟨g, 0, rfl, (Array.getElem?_eq_some_iff.1 hg).1, fun i hi => ?_⟩⟩
    rw [cell_of_row W g _ cur _ _ hg, Nat.zero_add, ← Array.getElem?_toList]
    have h1 : (intC xs)[i]? = cur.toList[i]? := by rw [← ht, List.getElem?_take, if_pos (by omega)]
    rw [← h1]
    simp [intC, List.getD, hi]
/-- Without the Pieces that are dropped, of the first k. -/
def withTo (is : List Ins) (places : List Int) : Nat → List Ins
  | 0 => []
  | k + 1 => if foundP places k then withTo is places k else withTo is places k ++ [{ is.getD k default with to := wrap64 ((is.getD k default).to - lowP places (is.getD k default).to) }]
def withoutP (is : List Ins) (drop : List Int) : List Ins := withTo is (placesP (opsOf is) drop) is.length
theorem infoIns : (Try.prog.info? 45).map (fun i => (i.zero, i.size, i.bytes)) = some (some (.agg #[.int .u8 0, .int .i64 0, .int .u8 0, .int .i64 0, .bool false, .int .i64 0, .int .i64 0, .int .i64 0, .bool false, .int .i64 0, .int .i64 0, .slice none 0 0, .slice none 0 0]), 13, 136) := by kernel_rfl
end Go.Proofs.Ytfboifbpbjmcbaa.Pz
