import Derived.Test.YtfboifbpbjmcbaaPzS
import Derived.Test.YtfboifbpbjmcbaaPzK
namespace Go.Proofs.Ytfboifbpbjmcbaa.Pz
open Go.RowKit
/-- Instructions in a row of its own, whose terms lie below n₀. -/
structure RL (n₀ : Nat) (W : World) (base : Nat) (v : Value) (is : List Ins) : Prop where
  row : ∃ ks vs : List Value, ks.length = is.length ∧ vs.length = is.length ∧ W.ownsRow base 51 13 v is.length (flatI is ks vs) ∧ ∀ i, i < is.length → ∃ kp kl kc vp vl vc, ks.getD i default = .slice kp kl kc ∧ vs.getD i default = .slice vp vl vc ∧ TsIn n₀ W kp kl kc (is.getD i default).key ∧ VsIn n₀ W vp vl vc (is.getD i default).vals
theorem RL.nil (n₀ : Nat) (W : World) (base : Nat) : RL n₀ W base (.slice none 0 0) [] := ⟨[], [], rfl, rfl, ⟨rfl, Or.inl ⟨rfl, rfl⟩⟩, fun i hi => by simp at hi⟩
theorem RL.on {n₀ : Nat} {W W' : World} {base : Nat} {v : Value} {is : List Ins} (h : RL n₀ W base v is) {m : Nat} (hb : Below m W W') (hm : W.heap.size ≤ m) (hn : n₀ ≤ m) : RL n₀ W' base v is where
  row := by
    obtain ⟨ks, vs, h1, h2, h3, h4⟩ := h.row
    refine ⟨ks, vs, h1, h2, own_on h3 hb hm, fun i hi => ?_⟩
    obtain ⟨kp, kl, kc, vp, vl, vc, e1, e2, t1, t2⟩ := h4 i hi
    exact ⟨kp, kl, kc, vp, vl, vc, e1, e2, t1.on (Kb.of hb hn), t2.on (Kb.of hb hn)⟩
theorem RL.shapeN {n₀ : Nat} {W : World} {base : Nat} {v : Value} {is : List Ins} {n : Nat} (h : RL n₀ W base v is) (hl : is.length = n) : ∃ vg vc, v = .slice vg n vc := by
  subst hl
  obtain ⟨ks, vs, h1, h2, h3, h4⟩ := h.row
  exact own_shape h3
theorem RL.snoc {n₀ : Nat} {w1 w2 : World} {base : Nat} {v v' : Value} {is : List Ins} {x : Ins} {kp vp : Option Addr} {kl kc vl vc : Nat} {ks vs : List Value} (hk : ks.length = is.length) (hv : vs.length = is.length) (hr : w1.ownsRow base 51 13 v is.length (flatI is ks vs))
    (hi : ∀ i, i < is.length → ∃ kp kl kc vp vl vc, ks.getD i default = .slice kp kl kc ∧ vs.getD i default = .slice vp vl vc ∧ TsIn n₀ w1 kp kl kc (is.getD i default).key ∧ VsIn n₀ w1 vp vl vc (is.getD i default).vals) (hx1 : TsIn n₀ w1 kp kl kc x.key) (hx2 : VsIn n₀ w1 vp vl vc x.vals) (hnb : n₀ ≤ base)
    (hown : w2.ownsRow base 51 13 v' (is.length + 1) (flatI is ks vs ++ insC x (.slice kp kl kc) (.slice vp vl vc))) (hg : w1.grownBy w2 v.ownBlock) : RL n₀ w2 base v' (is ++ [x]) where
  row := by
    have hK : Kb n₀ w1 w2 := ⟨hg.size, fun g hgn hl => hg.block g hl (fun e => by have := (hr.lt g e.symm).1; omega)⟩
    refine ⟨ks ++ [.slice kp kl kc], vs ++ [.slice vp vl vc], by simp [hk], by simp [hv], by rw [flatI_snoc is ks vs hk hv, List.length_append]; exact hown, fun i hi' => ?_⟩
    by_cases h' : i < is.length
    · have e1 : (is ++ [x]).getD i default = is.getD i default := by simp [List.getD, List.getElem?_append_left h']
      have e2 : (ks ++ [Value.slice kp kl kc]).getD i default = ks.getD i default := by simp [List.getD, List.getElem?_append_left (show i < ks.length by omega)]
      have e3 : (vs ++ [Value.slice vp vl vc]).getD i default = vs.getD i default := by simp [List.getD, List.getElem?_append_left (show i < vs.length by omega)]
      rw [e1, e2, e3]
      obtain ⟨kp', kl', kc', vp', vl', vc', e4, e5, t1, t2⟩ := hi i h'
      exact ⟨kp', kl', kc', vp', vl', vc', e4, e5, t1.on hK, t2.on hK⟩
    · obtain rfl : i = is.length := by simp at hi'; omega
      have e1 : (is ++ [x]).getD is.length default = x := by simp [List.getD]
      have e2 : (ks ++ [Value.slice kp kl kc]).getD is.length default = .slice kp kl kc := by simp [List.getD, ← hk]
      have e3 : (vs ++ [Value.slice vp vl vc]).getD is.length default = .slice vp vl vc := by simp [List.getD, ← hv]
      rw [e1, e2, e3]
      exact ⟨kp, kl, kc, vp, vl, vc, rfl, rfl, hx1.on hK, hx2.on hK⟩
theorem is_rl {n₀ : Nat} {W : World} {base : Nat} {v : Value} {is : List Ins} (h : RL n₀ W base v is) (hn : n₀ ≤ W.heap.size) : ∃ p c, v = .slice p is.length c ∧ IsIn W.heap.size W p is.length c is := by
  obtain ⟨ks, vs, h1, h2, h3, h4⟩ := h.row
  rcases h3.2 with ⟨rfl, h0⟩ | ⟨g, c, cur, rfl, _, hg, hc, _, _, ht⟩
  · exact ⟨none, 0, by rw [h0], rfl, by omega, fun h => by omega⟩
  · refine ⟨_, _, rfl, rfl, hc, fun _ => ⟨g, 0, rfl, (Array.getElem?_eq_some_iff.1 hg).1, fun i hi => ?_⟩⟩
    obtain ⟨kp, kl, kc, vp, vl, vc, e1, e2, t1, t2⟩ := h4 i hi
    refine ⟨kp, kl, kc, vp, vl, vc, fun j u hj => ?_, t1.mono hn, t2.mono hn⟩
    have hj13 : j < 13 := (List.getElem?_eq_some_iff.1 hj).1
    rw [← e1, ← e2, ← flatI_get is ks vs h1 h2 i j hi hj13, ← ht, List.getElem?_take, if_pos (by omega)] at hj
    rw [cell_of_row W g _ cur _ _ hg, Nat.zero_add, ← Array.getElem?_toList, hj]
theorem infoB : (Try.prog.info? 4).map (fun i => (i.zero, i.size, i.bytes)) = some (some (.bool false), 1, 1) := by kernel_rfl
/-- A row of truths. -/
def RB (W : World) (g n : Nat) (l : List Bool) : Prop := W.heap[g]? = some (.cells (l.map Value.bool).toArray 4 (0, 0)) ∧ l.length = n
theorem RB.cell {W : World} {g n : Nat} {l : List Bool} (h : RB W g n l) (i : Nat) (hi : i < n) : W.cell? ⟨g, i, none⟩ = some (.bool (l.getD i false)) := by
  rw [cell_of_row W g _ _ _ _ h.1]
  simp [List.getD, show i < l.length by rw [h.2]; exact hi]
theorem RB.frozen {W : World} {g n : Nat} {l : List Bool} (h : RB W g n l) (i : Nat) : W.frozen? ⟨g, i, none⟩ = false := by simp [World.frozen?, h.1]
theorem RB.lt {W : World} {g n : Nat} {l : List Bool} (h : RB W g n l) : g < W.heap.size := (Array.getElem?_eq_some_iff.1 h.1).1
theorem RB.set {W : World} {g n : Nat} {l : List Bool} (h : RB W g n l) (i : Nat) (b : Bool) : RB (W.setCell ⟨g, i, none⟩ (.bool b)) g n (l.set i b) := by
  refine ⟨?_, by simpa using h.2⟩
  rw [heap_set_same h.1]
  simp
theorem RB.on {W W' : World} {g n : Nat} {l : List Bool} (h : RB W g n l) {m : Nat} (hb : Below m W W') (hm : W.heap.size ≤ m) : RB W' g n l := ⟨(hb.block g (by have := h.lt; omega)).trans h.1, h.2⟩
theorem RB.grown {W W' : World} {g n : Nat} {l : List Bool} (h : RB W g n l) {row : Option Nat} (hg : W.grownBy W' row) (hr : row ≠ some g) : RB W' g n l := ⟨(hg.block g h.lt (fun e => hr e.symm)).trans h.1, h.2⟩
theorem made_bool (W : World) (n : Nat) : RB (W.alloc (.cells (madeCells #[.bool false] (n * 1)) 4)) W.heap.size n (List.replicate n false) := by
  refine ⟨?_, by simp⟩
  rw [heap_alloc_new]
  congr 2
  apply Array.ext
  · simp [size_madeCells]
  · intro i h1 h2
    simp [madeCells, Nat.mod_one]
end Go.Proofs.Ytfboifbpbjmcbaa.Pz
