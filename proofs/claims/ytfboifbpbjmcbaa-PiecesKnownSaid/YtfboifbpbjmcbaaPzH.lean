import Derived.Test.YtfboifbpbjmcbaaPzG
import Derived.Deep.RegionHeld3
namespace Go.Proofs.Ytfboifbpbjmcbaa.Pz
open Go.RowKit
abbrev zI : Ins := ⟨0, 0, 0, 0, false, 0, 0, 0, false, 0, 0, [], []⟩
/-- An instruction in a variable's box. -/
def BI (W : World) (B T : Nat) (x : Ins) (kv vv : Value) : Prop := W.heap[B]? = some (.cells (insC x kv vv).toArray T (0, 0))
section
variable {W W' : World} {B T : Nat} {x : Ins} {kv vv : Value}
theorem BI.lt (h : BI W B T x kv vv) : B < W.heap.size := (Array.getElem?_eq_some_iff.1 h).1
theorem BI.cell (h : BI W B T x kv vv) (j : Nat) (v : Value) (hj : (insC x kv vv)[j]? = some v) : W.cell? ⟨B, j, none⟩ = some v := by
  rw [cell_of_row W B _ _ _ _ h, ← Array.getElem?_toList]
  exact hj
theorem BI.frozen (h : BI W B T x kv vv) (j : Nat) : W.frozen? ⟨B, j, none⟩ = false := by simp [World.frozen?, show W.heap[B]? = _ from h]
theorem BI.c0 (h : BI W B T x kv vv) : W.cell? ⟨B, 0, none⟩ = some (.int .u8 x.op) := h.cell 0 _ rfl
theorem BI.c1 (h : BI W B T x kv vv) : W.cell? ⟨B, 1, none⟩ = some (.int .i64 x.nd) := h.cell 1 _ rfl
theorem BI.c2 (h : BI W B T x kv vv) : W.cell? ⟨B, 2, none⟩ = some (.int .u8 x.md) := h.cell 2 _ rfl
theorem BI.c3 (h : BI W B T x kv vv) : W.cell? ⟨B, 3, none⟩ = some (.int .i64 x.tb) := h.cell 3 _ rfl
theorem BI.c4 (h : BI W B T x kv vv) : W.cell? ⟨B, 4, none⟩ = some (.bool x.row) := h.cell 4 _ rfl
theorem BI.c5 (h : BI W B T x kv vv) : W.cell? ⟨B, 5, none⟩ = some (.int .i64 x.col) := h.cell 5 _ rfl
theorem BI.c6 (h : BI W B T x kv vv) : W.cell? ⟨B, 6, none⟩ = some (.int .i64 x.vr) := h.cell 6 _ rfl
theorem BI.c7 (h : BI W B T x kv vv) : W.cell? ⟨B, 7, none⟩ = some (.int .i64 x.to) := h.cell 7 _ rfl
theorem BI.c8 (h : BI W B T x kv vv) : W.cell? ⟨B, 8, none⟩ = some (.bool x.eq) := h.cell 8 _ rfl
theorem BI.c9 (h : BI W B T x kv vv) : W.cell? ⟨B, 9, none⟩ = some (.int .i64 x.frm) := h.cell 9 _ rfl
theorem BI.c10 (h : BI W B T x kv vv) : W.cell? ⟨B, 10, none⟩ = some (.int .i64 x.upt) := h.cell 10 _ rfl
theorem BI.c11 (h : BI W B T x kv vv) : W.cell? ⟨B, 11, none⟩ = some kv := h.cell 11 _ rfl
theorem BI.c12 (h : BI W B T x kv vv) : W.cell? ⟨B, 12, none⟩ = some vv := h.cell 12 _ rfl
theorem BI.on (h : BI W B T x kv vv) {m : Nat} (hb : Below m W W') (hm : W.heap.size ≤ m) : BI W' B T x kv vv := (hb.block B (by have := h.lt; omega)).trans h
theorem BI.grown (h : BI W B T x kv vv) {row : Option Nat} (hg : W.grownBy W' row) (hr : row ≠ some B) : BI W' B T x kv vv := (hg.block B h.lt (fun e => hr e.symm)).trans h
theorem BI.drew (h : BI W B T x kv vv) : BI W.drew B T x kv vv := h
theorem BI.new (W : World) (T : Nat) (x : Ins) (kv vv : Value) : BI (W.alloc (.cells (insC x kv vv).toArray T)) W.heap.size T x kv vv := World.alloc_heap_new W _
theorem heap_set_same {cur : Array Value} {fr : Nat × Nat} (h : W.heap[B]? = some (.cells cur T fr)) (o : Nat) (u : Value) : (W.setCell ⟨B, o, none⟩ u).heap[B]? = some (.cells (cur.setIfInBounds o u) T fr) := by
  obtain ⟨hlt, hk⟩ := Array.getElem?_eq_some_iff.1 h
  show (W.heap.modify B _)[B]? = _
  rw [Array.getElem?_eq_getElem (by rw [Array.size_modify]; exact hlt), Array.getElem_modify_self, hk]
  rfl
theorem grown_set (W : World) (b o : Nat) (u : Value) : W.grownBy (W.setCell ⟨b, o, none⟩ u) (some b) :=
  ⟨rfl, rfl, rfl, (KeepsWalks.setCell W _ u).size, fun k _ hk => Below.heap_setCell _ _ _ k (fun e => hk (by rw [e]))⟩
theorem BI.setKey (h : BI W B T x kv vv) (u : Value) : BI (W.setCell ⟨B, 11, none⟩ u) B T x u vv := by
  unfold BI
  rw [heap_set_same h]; rfl
theorem BI.setVals (h : BI W B T x kv vv) (u : Value) : BI (W.setCell ⟨B, 12, none⟩ u) B T x kv u := by
  unfold BI
  rw [heap_set_same h]; rfl
theorem BI.setTo (h : BI W B T x kv vv) (t : Int) : BI (W.setCell ⟨B, 7, none⟩ (.int .i64 t)) B T { x with to := t } kv vv := by
  unfold BI
  rw [heap_set_same h]; rfl
end
/-- All cells of an instruction are written. -/
def fill (W : World) (B : Nat) (x : Ins) (kv vv : Value) : World := (((((((((((((W.setCell ⟨B, 0, none⟩ (.int .u8 x.op)).setCell ⟨B, 1, none⟩ (.int .i64 x.nd)).setCell ⟨B, 2, none⟩ (.int .u8 x.md)).setCell ⟨B, 3, none⟩ (.int .i64 x.tb)).setCell ⟨B, 4, none⟩ (.bool x.row)).setCell ⟨B, 5, none⟩ (.int .i64 x.col)).setCell ⟨B, 6, none⟩ (.int .i64 x.vr)).setCell ⟨B, 7, none⟩ (.int .i64 x.to)).setCell ⟨B, 8, none⟩ (.bool x.eq)).setCell ⟨B, 9, none⟩ (.int .i64 x.frm)).setCell ⟨B, 10, none⟩ (.int .i64 x.upt)).setCell ⟨B, 11, none⟩ kv).setCell ⟨B, 12, none⟩ vv)
theorem fill_box {W : World} {B T : Nat} {z : Ins} {k0 v0 : Value} (h : BI W B T z k0 v0) (x : Ins) (kv vv : Value) : BI (fill W B x kv vv) B T x kv vv := by
  unfold BI fill
  rw [heap_set_same (heap_set_same (heap_set_same (heap_set_same (heap_set_same (heap_set_same (heap_set_same (heap_set_same (heap_set_same (heap_set_same (heap_set_same (heap_set_same (heap_set_same h _ _) _ _) _ _) _ _) _ _) _ _) _ _) _ _) _ _) _ _) _ _) _ _) _ _]
  simp only [insC, List.setIfInBounds_toArray, List.set_cons_zero, List.set_cons_succ]
theorem grown_on {W W' : World} {b o : Nat} {u : Value} (h : W.grownBy W' (some b)) : W.grownBy (W'.setCell ⟨b, o, none⟩ u) (some b) :=
  ⟨h.os, h.tape, h.output, Nat.le_trans h.size (grown_set W' b o u).size, fun k hk hne => ((grown_set W' b o u).block k (Nat.lt_of_lt_of_le hk h.size) hne).trans (h.block k hk hne)⟩
theorem fill_grown (W : World) (B : Nat) (x : Ins) (kv vv : Value) : W.grownBy (fill W B x kv vv) (some B) := by
  unfold fill
  exact grown_on (grown_on (grown_on (grown_on (grown_on (grown_on (grown_on (grown_on (grown_on (grown_on (grown_on (grown_on (grown_set _ _ _ _))))))))))))
/-- Terms, and rows of them, that a call has laid. -/
structure OI (W : World) (base tT tS : Nat) (x : Ins) (kv vv : Value) : Prop where
  key : W.ownsRow base tT 3 kv x.key.length (flatT x.key)
  vals : ∃ kvs : List Value, W.ownsRow base tS 1 vv x.vals.length kvs ∧ ∀ i, i < x.vals.length → W.ownsRow base tT 3 (kvs.getD i default) (x.vals.getD i []).length (flatT (x.vals.getD i []))
/-- While clone goes through the rows. -/
structure CL (w : World) (n₀ : Nat) (x : Ins) (kv vv : Value) (kvs : List Value) (k : Nat) (W : World) : Prop where
  box : BI W w.heap.size 45 x kv vv
  res : BI W (w.heap.size + 1) 45 zI (.slice none 0 0) (.slice none 0 0)
  key : W.ownsRow w.heap.size 63 3 kv x.key.length (flatT x.key)
  row : W.ownsRow w.heap.size 42 1 vv x.vals.length kvs
  own : ∀ i, i < k → W.ownsRow w.heap.size 63 3 (kvs.getD i default) (x.vals.getD i []).length (flatT (x.vals.getD i []))
  rest : ∀ i, k ≤ i → i < x.vals.length → ∃ q l d, kvs.getD i default = .slice q l d ∧ TsIn n₀ W q l d (x.vals.getD i [])
  below : Below w.heap.size w W
theorem getD_set_ne {α : Type} {l : List α} {j k : Nat} {a b : α} (h : j ≠ k) : (l.set j a).getD k b = l.getD k b := by
  simp only [List.getD, List.getElem?_set_ne h]
theorem getD_set_eq {α : Type} {l : List α} {j : Nat} {a b : α} (h : j < l.length) : (l.set j a).getD j b = a := by
  simp [List.getD, h]
theorem CL.on {w : World} {n₀ : Nat} {x : Ins} {kv vv : Value} {kvs : List Value} {k : Nat} {W W' : World} (h : CL w n₀ x kv vv kvs k W) (hb : Below W.heap.size W W') (hn : n₀ ≤ w.heap.size) : CL w n₀ x kv vv kvs k W' where
  box := h.box.on hb (Nat.le_refl _)
  res := h.res.on hb (Nat.le_refl _)
  key := own_on h.key hb (Nat.le_refl _)
  row := own_on h.row hb (Nat.le_refl _)
  own := fun i hi => own_on (h.own i hi) hb (Nat.le_refl _)
  rest := fun i h1 h2 => by
    obtain ⟨q, l, d, e, ht⟩ := h.rest i h1 h2
    exact ⟨q, l, d, e, ht.on (Kb.of hb (Nat.le_trans hn h.below.size))⟩
  below := h.below.trans (hb.mono h.below.size)
/-- The k-th row is set. -/
theorem CL.set {w : World} {n₀ n : Nat} {x : Ins} {kv : Value} {g cap : Nat} {kvs : List Value} {k : Nat} {W : World} {v : Value} (hln : x.vals.length = n) (h : CL w n₀ x kv (.slice (some ⟨g, 0, none⟩) n cap) kvs k W) (hk : k < x.vals.length) (hn : n₀ ≤ w.heap.size)
    (hv : W.ownsRow w.heap.size 63 3 v (x.vals.getD k []).length (flatT (x.vals.getD k [])))   : CL w n₀ x kv (.slice (some ⟨g, 0, none⟩) n cap) (kvs.set k v) (k + 1) (W.setCell ⟨g, k, none⟩ v) := by
  subst hln
  have hst := h.row.stored k v
  obtain ⟨hgb, hgl⟩ := h.row.lt g rfl
  have hkl : kvs.length = x.vals.length := by have := h.row.1; omega
  have hkind := Lib.ownsRow_kind h.row g rfl
  obtain ⟨c, fz, hkind⟩ := hkind
  have ap : ∀ r, some g = some r → ∀ cs fr, W.heap[r]? ≠ some (.cells cs 63 fr) := fun r e cs fr e2 => by
    cases e
    rw [hkind] at e2
    simp at e2
  have hgr := grown_set W g k v
  have hbx := h.box
  have hrs := h.res
  refine ⟨hbx.grown hgr (fun e => ?_), hrs.grown hgr (fun e => ?_), own_apart h.key hgr ap, hst.1, fun i hi => ?_, fun i h1 h2 => ?_, h.below.grown hgr h.below.size (fun r e => by cases e; exact hgb)⟩
  · have e := Option.some.inj e
    rw [e] at hkind
    have := hkind.symm.trans (show W.heap[w.heap.size]? = _ from hbx)
    simp at this
  · have e := Option.some.inj e
    rw [e] at hkind
    have := hkind.symm.trans (show W.heap[w.heap.size + 1]? = _ from hrs)
    simp at this
  · by_cases e : k = i
    · subst e
      rw [getD_set_eq (by omega)]
      exact own_apart hv hgr ap
    · rw [getD_set_ne e]
      exact own_apart (h.own i (by omega)) hgr ap
  · rw [getD_set_ne (by omega)]
    obtain ⟨q, l, d, e, ht⟩ := h.rest i (by omega) h2
    exact ⟨q, l, d, e, ht.on ⟨hgr.size, fun r hr hl => hgr.block r hl (fun e => by cases e; omega)⟩⟩
set_option maxHeartbeats 8000000 in
set_option maxRecDepth 1000000 in
theorem clone_at (w : World) (n₀ kl kc vl vc : Nat) (kp vp : Option Addr) (x : Ins) (hk : TsIn n₀ w kp kl kc x.key) (hv : VsIn n₀ w vp vl vc x.vals) (hn : n₀ ≤ w.heap.size) :
    Calls Try.prog 22 #[insV x (.slice kp kl kc) (.slice vp vl vc)] w fun e w' => ∃ kv vv, e = .returned (insV x kv vv) ∧ OI w' w.heap.size 63 42 x kv vv ∧ Below w.heap.size w w' := by
  have hlk := hk.len_eq
  have hlv := hv.len_eq
  have hvs := hv.sz
  have B0 := BI.new w 45 x (.slice kp kl kc) (.slice vp vl vc)
  obtain ⟨w1, hw1⟩ : ∃ w1, w.alloc (.cells (insC x (.slice kp kl kc) (.slice vp vl vc)).toArray 45) = w1 := ⟨_, rfl⟩
  have R0 := BI.new w1 45 zI (.slice none 0 0) (.slice none 0 0)
  have hs1 : w1.heap.size = w.heap.size + 1 := by rw [← hw1]; simp
  have hb1 : Below w.heap.size w w1 := by rw [← hw1]; exact one_below _ _
  rw [hw1] at B0
  obtain ⟨w2, hw2⟩ : ∃ w2, w1.alloc (.cells (insC zI (.slice none 0 0) (.slice none 0 0)).toArray 45) = w2 := ⟨_, rfl⟩
  have hs2 : w2.heap.size = w.heap.size + 2 := by rw [← hw2]; simp [hs1]
  have hb2 : Below w.heap.size w w2 := by rw [← hw2]; exact hb1.alloc hb1.size _
  rw [hw2, hs1] at R0
  have B2 : BI w2 w.heap.size 45 x (.slice kp kl kc) (.slice vp vl vc) := by rw [← hw2]; exact B0.grown (World.grownBy_alloc _ _ none) (by simp)
  have HB2 := Lib.hid B2
  have HR2 := Lib.hid R0
  have HD2 := Lib.hid hb2
  have CK := Lib.hid (cloneT_at w2 n₀ kl kc kp x.key (hk.on (Kb.of hb2 hn)) (by omega))
  have c11 := B2.c11
  have HV := Lib.hid hv
  have HS2 := Lib.hid hs2
  unfold insV
  simp only [insC] at hw1 hw2 ⊢
  clear B0 R0 hb1 hb2 hs2 hk hv
  go_enter Try.func22, Try.ntmps22
  go_wp2_with fail
  (with_reducible refine CK.out.mono ?_)
  rintro e w3 ⟨kv, rfl, hk3, hb3⟩
  obtain ⟨kg, kq, rfl⟩ := own_shape hk3
  have HK3 := Lib.hid hk3
  have B3 := HB2.out.on hb3 (Nat.le_refl _)
  have HR3 := Lib.hid (HR2.out.on hb3 (Nat.le_refl _))
  have HD3 := Lib.hid (HD2.out.trans (hb3.mono HD2.out.size))
  have c11' := B3.c11
  have c12 := B3.c12
  have f11 := B3.frozen 11
  have HB3 := Lib.hid B3
  clear hk3 hb3 HB2 HR2 CK c11
  go_wp2_with fail
  have B4 := HB3.out.setKey (.slice kg kl kq)
  have R4 := HR3.out.grown (grown_set w3 w.heap.size 11 (.slice kg kl kq)) (by simp)
  have K4 := own_apart HK3.out (grown_set w3 w.heap.size 11 (.slice kg kl kq)) (fun r e cs fr h => by cases e; rw [show w3.heap[w.heap.size]? = _ from HB3.out] at h; simp at h)
  have D4 := HD3.out.setCell (p := ⟨w.heap.size, 11, none⟩) (Nat.le_refl _) (.slice kg kl kq)
  obtain ⟨w4, hw4⟩ : ∃ w4, w3.setCell ⟨w.heap.size, 11, none⟩ (.slice kg kl kq) = w4 := ⟨_, rfl⟩
  rw [hw4] at B4 R4 K4 D4 ⊢
  clear hw4 HB3 HR3 HK3 HD3 c11' f11 c12
  have CV := Lib.hid (cloneV_at w4 n₀ vl vc vp x.vals (HV.out.on (Kb.of D4 hn)) (by have := D4.size; omega))
  have HB4 := Lib.hid B4
  have HR4 := Lib.hid R4
  have HK4 := Lib.hid K4
  have HD4 := Lib.hid D4
  clear B4 R4 K4 D4
  (with_reducible refine CV.out.mono ?_)
  rintro e w5 ⟨vv, rfl, kvs, hrow5, hks5, hb5⟩
  obtain ⟨vg, vq, rfl⟩ := own_shape hrow5
  have hws : w.heap.size ≤ w4.heap.size := HD4.out.size
  have B5 := HB4.out.on hb5 (Nat.le_refl _)
  have c12' := B5.c12
  have f12 := B5.frozen 12
  have HB5 := Lib.hid B5
  have HR5 := Lib.hid (HR4.out.on hb5 (Nat.le_refl _))
  have HK5 := Lib.hid (own_on HK4.out hb5 (Nat.le_refl _))
  have HD5 := Lib.hid (HD4.out.trans (hb5.mono HD4.out.size))
  have HW5 := Lib.hid (own_base hrow5 hws)
  have HT5 : Hid (∀ i, i < vl → ∃ q l d, kvs.getD i default = .slice q l d ∧ TsIn n₀ w5 q l d (x.vals.getD i [])) := Lib.hid (fun i hi => by
    obtain ⟨q, l, d, e, ht⟩ := hks5 i hi
    exact ⟨q, l, d, e, ht.on (Kb.of hb5 (by omega))⟩)
  clear hrow5 hks5 hb5 HB4 HR4 HK4 HD4 CV B5
  go_wp2_with fail
  have hap : ∀ t, t ≠ 45 → ∀ r, some w.heap.size = some r → ∀ cs fr, w5.heap[r]? ≠ some (.cells cs t fr) := fun t ht r e cs fr h => by
    cases e; rw [show w5.heap[w.heap.size]? = _ from HB5.out] at h; simp at h; exact ht h.2.1.symm
  have L6 : CL w n₀ x (.slice kg kl kq) (.slice vg vl vq) kvs 0 (w5.setCell ⟨w.heap.size, 12, none⟩ (.slice vg vl vq)) := {
    box := HB5.out.setVals (.slice vg vl vq)
    res := HR5.out.grown (grown_set w5 w.heap.size 12 (.slice vg vl vq)) (by simp)
    key := own_base (own_apart (by rw [hlk]; exact HK5.out) (grown_set w5 w.heap.size 12 (.slice vg vl vq)) (hap _ (by decide))) (by have := HS2.out; omega)
    row := own_apart (by rw [hlv]; exact HW5.out) (grown_set w5 w.heap.size 12 (.slice vg vl vq)) (hap _ (by decide))
    own := fun i hi => by omega
    rest := fun i _ hi => by
      obtain ⟨q, l, d, e, ht⟩ := HT5.out i (by omega)
      exact ⟨q, l, d, e, ht.on ⟨by simp [World.setCell], fun g hg hl => Below.heap_setCell _ _ _ _ (by show g ≠ w.heap.size; omega)⟩⟩
    below := HD5.out.setCell (p := ⟨w.heap.size, 12, none⟩) (Nat.le_refl _) (.slice vg vl vq) }
  obtain ⟨w6, hw6⟩ : ∃ w6, w5.setCell ⟨w.heap.size, 12, none⟩ (.slice vg vl vq) = w6 := ⟨_, rfl⟩
  rw [hw6] at L6 ⊢
  clear hw6 HB5 HR5 HK5 HD5 HW5 HT5 c12' f12 hap
  have HL6 := Lib.hid L6
  clear L6 B2 B3 hw1 hw2
  go_loopw [16] (fun i wr => ∃ k : Nat, i = .int .i64 k ∧ k ≤ vl ∧ ∃ kvs, Hid (CL w n₀ x (.slice kg kl kq) (.slice vg vl vq) kvs k wr)) (fun i _ => vl - (intOf i).toNat)
  case atStart => exact ⟨0, rfl, Nat.zero_le _, kvs, HL6⟩
  case round =>
    obtain ⟨k, rfl, hk, kvs', HC⟩ := hrel
    by_cases hlt : k < vl
    · obtain ⟨q, l, d, hq, ht⟩ := HC.out.rest k (Nat.le_refl _) (by omega)
      have hrow := HC.out.row
      rw [hlv] at hrow
      obtain ⟨g, cap, hg⟩ := World.ownsRow.form hrow (by omega)
      obtain ⟨rfl, rfl⟩ : vg = some ⟨g, 0, none⟩ ∧ vq = cap := by simpa using hg.1
      have hkl : kvs'.length = vl := by have := hrow.1; omega
      have ck : wr.cell? ⟨g, k, none⟩ = some (.slice q l d) := by
        rw [hrow.cellAt k (by omega), ← hq]
        simp [List.getD, show k < kvs'.length by omega]
      have c12 := HC.out.box.c12
      have hcap : vl ≤ vq := by
        rcases hrow.2 with ⟨h1, _⟩ | ⟨_, _, _, h1, _, _, h2, _⟩
        · simp at h1
        · simp at h1; omega
      have hws := HC.out.below.size
      have CT := Lib.hid (cloneT_at wr.drew n₀ l d q (x.vals.getD k []) (ht.on (Kb.of (Below.refl n₀ wr).drew (Nat.le_refl _))) (by show n₀ ≤ wr.heap.size; omega))
      have hlt2 := ht.len_eq
      have TK : Hid (∀ w7 : World, w7.ownsRow w.heap.size 42 1 (.slice (some ⟨g, 0, none⟩) vl vq) vl kvs' → w7.cell? ⟨g, k, none⟩ = some (.slice q l d)) := Lib.hid (fun w7 h => by
        rw [h.cellAt k (by omega), ← hq]
        simp [List.getD, show k < kvs'.length by omega])
      clear hg hrow hkl
      go_wp2_with fail
      go_region_held3 (fun w' => w'.cell? ⟨w.heap.size, 12, none⟩ = some (.slice (some ⟨g, 0, none⟩) vl vq)) (first | exact c12 | exact c12' | exact c12s | go_keep)
        (first
          | (go_at_call 27; (with_reducible refine CT.out.mono ?_); rintro e w7 ⟨v, rfl, hown7, hb7⟩; obtain ⟨zg, zq, rfl⟩ := own_shape hown7; have L7 := HC.out.on ((Below.refl _ wr).drew.trans hb7) (by assumption); have c12' := L7.box.c12; have hro7 := L7.row; rw [hlv] at hro7; have z7 := hro7.frozenAt k; have t7 := TK.out w7 hro7; have LS := CL.set hlv L7 (by omega) (by assumption) (own_base (by rw [hlt2]; exact hown7) hws); have c12s := LS.box.c12; have HLS := Lib.hid LS; clear L7 hown7 hro7 LS))
      clear c12' c12s z7 t7 TK CT c12 ck ht
      go_wp2
      go_roundw
      case rel => exact ⟨k + 1, by simp, by omega, _, HLS⟩
      case measure => simp [intOf]; omega
    · obtain rfl : k = vl := by omega
      have hx := HC.out.box
      have hr := HC.out.res
      have c0 := hx.c0
      have c1 := hx.c1
      have c2 := hx.c2
      have c3 := hx.c3
      have c4 := hx.c4
      have c5 := hx.c5
      have c6 := hx.c6
      have c7 := hx.c7
      have c8 := hx.c8
      have c9 := hx.c9
      have c10 := hx.c10
      have c11 := hx.c11
      have c12 := hx.c12
      have d0 := hr.c0
      have d1 := hr.c1
      have d2 := hr.c2
      have d3 := hr.c3
      have d4 := hr.c4
      have d5 := hr.c5
      have d6 := hr.c6
      have d7 := hr.c7
      have d8 := hr.c8
      have d9 := hr.c9
      have d10 := hr.c10
      have d11 := hr.c11
      have d12 := hr.c12
      have e0 := hr.frozen 0
      have e1 := hr.frozen 1
      have e2 := hr.frozen 2
      have e3 := hr.frozen 3
      have e4 := hr.frozen 4
      have e5 := hr.frozen 5
      have e6 := hr.frozen 6
      have e7 := hr.frozen 7
      have e8 := hr.frozen 8
      have e9 := hr.frozen 9
      have e10 := hr.frozen 10
      have e11 := hr.frozen 11
      have e12 := hr.frozen 12
      have FIN : Hid (∀ W' : World, wr.grownBy W' (some (w.heap.size + 1)) → OI W' w.heap.size 63 42 x (.slice kg kl kq) (.slice vg k vq) ∧ Below w.heap.size w W') := Lib.hid (fun W' hg => by
        have ap : ∀ t, t ≠ 45 → ∀ r, some (w.heap.size + 1) = some r → ∀ cs fr, wr.heap[r]? ≠ some (.cells cs t fr) := fun t ht r e cs fr h => by
          cases e; rw [show wr.heap[w.heap.size + 1]? = _ from hr] at h; simp at h; exact ht h.2.1.symm
        exact ⟨⟨own_apart HC.out.key hg (ap _ (by decide)), kvs', own_apart HC.out.row hg (ap _ (by decide)), fun i hi => own_apart (HC.out.own i (by omega)) hg (ap _ (by decide))⟩, HC.out.below.grown hg HC.out.below.size (fun r e => by cases e; omega)⟩)
      clear hx hr
      go_wp2_with fail
      obtain ⟨W', hW'⟩ : ∃ W', fill wr (w.heap.size + 1) x (.slice kg kl kq) (.slice vg k vq) = W' := ⟨_, rfl⟩
      obtain ⟨h1, h2⟩ := FIN.out _ (fill_grown wr (w.heap.size + 1) x (.slice kg kl kq) (.slice vg k vq))
      have hB := fill_box HC.out.res x (.slice kg kl kq) (.slice vg k vq)
      rw [hW'] at h1 h2 hB
      unfold fill at hW'
      rw [hW']
      have g0 := hB.c0
      have g1 := hB.c1
      have g2 := hB.c2
      have g3 := hB.c3
      have g4 := hB.c4
      have g5 := hB.c5
      have g6 := hB.c6
      have g7 := hB.c7
      have g8 := hB.c8
      have g9 := hB.c9
      have g10 := hB.c10
      have g11 := hB.c11
      have g12 := hB.c12
      clear hW' FIN c0 c1 c2 c3 c4 c5 c6 c7 c8 c9 c10 c11 c12 d0 d1 d2 d3 d4 d5 d6 d7 d8 d9 d10 d11 d12 e0 e1 e2 e3 e4 e5 e6 e7 e8 e9 e10 e11 e12
      simp [bodyPost, results, Try.results22, go_sem, g0, g1, g2, g3, g4, g5, g6, g7, g8, g9, g10, g11, g12]
      first | exact ⟨_, _, ⟨rfl, rfl⟩, h1, h2⟩ | exact ⟨h1, h2⟩ | exact ⟨_, _, rfl, h1, h2⟩
end Go.Proofs.Ytfboifbpbjmcbaa.Pz
