import Derived.Test.YtfboifbpbjmcbaaPzD
namespace Go.Proofs.Ytfboifbpbjmcbaa.Pz
open Go.RowKit Go.Shelf
attribute [local go_sem] Oper.semAt_some
/-- Units that lie in a row below n₀. -/
structure UsIn (n₀ : Nat) (W : World) (p : Option Addr) (len c : Nat) (us : List (Nat × Nat)) : Prop where
  len_eq : us.length = len
  cap : len ≤ c
  cell : 0 < len → ∃ b, p = some ⟨b, 0, none⟩ ∧ b < n₀ ∧ ∀ i, i < len → W.cell? ⟨b, i * 2, none⟩ = some (.int .i64 ((us.getD i (0, 0)).1 : Nat)) ∧ W.cell? ⟨b, i * 2 + 1, none⟩ = some (.int .i64 ((us.getD i (0, 0)).2 : Nat))
theorem UsIn.on {n₀ : Nat} {W W' : World} {p : Option Addr} {len c : Nat} {us : List (Nat × Nat)} (h : UsIn n₀ W p len c us) (hb : Kb n₀ W W') : UsIn n₀ W' p len c us where
  len_eq := h.len_eq
  cap := h.cap
  cell := fun hl => by
    obtain ⟨b, e, hlt, hc⟩ := h.cell hl
    exact ⟨b, e, hlt, fun i hi => ⟨hb.cell hlt (hc i hi).1, hb.cell hlt (hc i hi).2⟩⟩
theorem us_own {W : World} {B e : Nat} {v : Value} {us : List (Nat × Nat)} (h : W.ownsRow B e 2 v us.length (flatU us)) : ∃ p c, v = .slice p us.length c ∧ UsIn W.heap.size W p us.length c us := by
  rcases h.2 with ⟨rfl, h0⟩ | ⟨g, c, cur, rfl, _, hg, hc, _, _, ht⟩
  · exact ⟨none, 0, by rw [h0], rfl, by omega, fun h => by omega⟩
  · refine ⟨_, _, rfl, rfl, hc, fun _ => ⟨g, rfl, (Array.getElem?_eq_some_iff.1 hg).1, fun i hi => ?_⟩⟩
    have cell : ∀ j u, j < us.length * 2 → (flatU us)[j]? = some u → W.cell? ⟨g, j, none⟩ = some u := fun j u hj hu => by
      rw [cell_of_row W g _ cur _ _ hg, ← Array.getElem?_toList]
      rw [← ht, List.getElem?_take, if_pos hj] at hu
      exact hu
    exact ⟨cell _ _ (by omega) (flatU_get us i hi).1, cell _ _ (by omega) (flatU_get us i hi).2⟩
set_option maxHeartbeats 4000000 in
set_option maxRecDepth 1000000 in
theorem units_row (w : World) (n₀ len cap : Nat) (p : Option Addr) (is : List Ins) (way : Int) (hI : IsIn n₀ w p len cap is) (hn₀ : n₀ ≤ w.heap.size) (hreach : len ≤ 100000) :
    Calls Try.prog 9 #[.slice p len cap, .int .u8 way] w fun e W' => ∃ v c, e = .returned (.slice v (unitsP (opsOf is) way).length c) ∧ UsIn W'.heap.size W' v (unitsP (opsOf is) way).length c (unitsP (opsOf is) way) ∧ Below w.heap.size w W' := by
  have U := units_at p len cap way w
  have hs : ((w.alloc (.cells #[.slice p len cap] 22)).alloc (.cells #[.int .u8 way] 5)).heap.size = w.heap.size + 1 + 1 := by simp
  have hB : Below w.heap.size w ((w.alloc (.cells #[.slice p len cap] 22)).alloc (.cells #[.int .u8 way] 5)) := (one_below _ _).alloc (by simp) _
  have C := appendSeq_at ((w.alloc (.cells #[.slice p len cap] 22)).alloc (.cells #[.int .u8 way] 5)) w.heap.size n₀ len cap p is way hI.len_eq hreach (by omega) (by omega) (by
    have := (Boxed.new w 22 (.slice p len cap)).alloc (.cells #[.int .u8 way] 5)
    exact this.cell) (by
    have := Boxed.new (w.alloc (.cells #[.slice p len cap] 22)) 5 (.int .u8 way)
    rw [World.size_alloc] at this
    exact this.cell) (hI.on (Kb.of hB hn₀))
  have D : Calls Try.prog 17 #[.func (.func 24) #[] #[.pointer (some ⟨w.heap.size, 0, none⟩), .pointer (some ⟨w.heap.size + 1, 0, none⟩)]] ((w.alloc (.cells #[.slice p len cap] 22)).alloc (.cells #[.int .u8 way] 5)) fun e W' => ∃ v c, e = .returned (.slice v (unitsP (opsOf is) way).length c) ∧ UsIn W'.heap.size W' v (unitsP (opsOf is) way).length c (unitsP (opsOf is) way) ∧ Below w.heap.size w W' := by
    have HB := Lib.hid hB
    have HS := Lib.hid hs
    have HC := Lib.hid C
    clear C hB hs U
    generalize (w.alloc (.cells #[.slice p len cap] 22)).alloc (.cells #[.int .u8 way] 5) = w2 at *
    go_enter Try.func17, Try.ntmps17
    go_wp2_with fail
    (with_reducible refine HC.out.mono ?_)
    rintro e w3 ⟨v, rfl, hown, hb⟩
    obtain ⟨a, c, rfl, hU⟩ := us_own hown
    have HU := Lib.hid hU
    have HB3 := Lib.hid (HB.out.trans (hb.mono HB.out.size))
    clear hU hown hb HB
    go_wp2
    go_ret
    exact ⟨a, c, rfl, HU.out, HB3.out⟩
  have HU := Lib.hid U
  have HD := Lib.hid D
  clear U D C hB hs
  go_enter Try.func9, Try.ntmps9
  go_wp2_with fail
  (with_reducible refine HU.out.mono ?_)
  rintro e w1 ⟨rfl, rfl⟩
  go_wp2_with fail
  (with_reducible refine HD.out.mono ?_)
  rintro e w3 ⟨a, c, rfl, hU, hb⟩
  have HU3 := Lib.hid hU
  have HB3 := Lib.hid hb
  clear hU hb HD HU
  go_wp2
  go_ret
  exact ⟨a, c, rfl, HU3.out, HB3.out⟩
def noneU (at' : Int) (l : List (Nat × Nat)) : Prop := ∀ u ∈ l, ¬ ((u.1 : Int) ≤ at' ∧ at' < u.2)
def inU (at' : Int) (u : Nat × Nat) : Prop := (u.1 : Int) ≤ at' ∧ at' < u.2
/-- While Of goes on. -/
structure OfI (w : World) (at' : Int) (r k : Int) (W : World) : Prop where
  b0 : Boxed W w.heap.size 3 (.int .i64 at')
  b1 : Boxed W (w.heap.size + 1) 3 (.int .i64 r)
  b2 : Boxed W (w.heap.size + 1 + 1) 3 (.int .i64 k)
  below : Below w.heap.size w W
/-- Of has found it. -/
def OfX (w : World) (at' : Int) (pre : List (Nat × Nat)) (W : World) : Prop := ∃ pr u, pre = pr ++ [u] ∧ inU at' u ∧ noneU at' pr ∧ OfI w at' pr.length pr.length W
theorem OfI.keep {w : World} {at' r k : Int} {X Y : World} {row : Option Nat} (h : OfI w at' r k X) (hg : X.grownBy Y row) (hB : ∀ r, row = some r → w.heap.size ≤ r) (hr : ∀ r, row = some r → ∀ cs t fr, X.heap[r]? ≠ some (.cells cs t fr)) : OfI w at' r k Y where
  b0 := h.b0.kept hg (fun e => hr _ e.symm _ _ _ h.b0)
  b1 := h.b1.kept hg (fun e => hr _ e.symm _ _ _ h.b1)
  b2 := h.b2.kept hg (fun e => hr _ e.symm _ _ _ h.b2)
  below := h.below.grown hg h.below.size hB
theorem OfI.set1 {w : World} {at' r k : Int} {X : World} (h : OfI w at' r k X) (r' : Int) : OfI w at' r' k (X.setCell ⟨w.heap.size + 1, 0, none⟩ (.int .i64 r')) where
  b0 := h.b0.kept (grownBy_setCell' _ _ _) (by simp)
  b1 := h.b1.set _
  b2 := h.b2.kept (grownBy_setCell' _ _ _) (by simp)
  below := h.below.setCell (p := ⟨w.heap.size + 1, 0, none⟩) (by simp) _
theorem OfI.set2 {w : World} {at' r k : Int} {X : World} (h : OfI w at' r k X) (k' : Int) : OfI w at' r k' (X.setCell ⟨w.heap.size + 1 + 1, 0, none⟩ (.int .i64 k')) where
  b0 := h.b0.kept (grownBy_setCell' _ _ _) (by simp; omega)
  b1 := h.b1.kept (grownBy_setCell' _ _ _) (by simp)
  b2 := h.b2.set _
  below := h.below.setCell (p := ⟨w.heap.size + 1 + 1, 0, none⟩) (by simp; omega) _
theorem OfI.kq {w : World} {at' r k r' k' : Int} {n₀ : Nat} {X Y : World} (h : OfI w at' r k X) (hX : X.heap.size ≤ Y.heap.size) (h' : OfI w at' r' k' Y) (hn : n₀ ≤ w.heap.size) (hq : ∀ g, g = w.heap.size + 1 + 1 + 1 ∨ g = w.heap.size + 1 + 1 + 1 + 1 → Y.heap[g]? = X.heap[g]?) : Kq n₀ (w.heap.size + 1 + 1 + 1) X Y :=
  ⟨hX, fun g hg _ => by
    rcases hg with hg | hg
    · rw [h'.below.block g (by omega), h.below.block g (by omega)]
    · exact hq g hg⟩
set_option maxHeartbeats 8000000 in
set_option maxRecDepth 1000000 in
theorem of_at (w : World) (n₀ len cap : Nat) (p : Option Addr) (is : List Ins) (way at' : Int) (hI : IsIn n₀ w p len cap is) (hn₀ : n₀ ≤ w.heap.size) (hreach : len ≤ 100000) :
    Calls Try.prog 11 #[.slice p len cap, .int .u8 way, .int .i64 at'] w fun e W' => e = .returned (.int .i64 (ofP (unitsP (opsOf is) way) at' 0)) ∧ Below w.heap.size w W' := by
  refine callsIn_wide.1 (callsIn_of_wp_marks (n := 4) Try.func11 rfl trivial ?_ rfl)
  simp only [Try.ntmps11, List.size_toArray, List.length_cons, List.length_nil, Nat.reduceAdd, Nat.reduceSub, Array.replicate_succ, Array.replicate_zero, List.push_toArray, List.append_toArray, List.nil_append, List.cons_append]
  gi_wp2
  refine ⟨trivial, (callsIn_wide.2 (units_at _ _ _ _ _)).mono ?_⟩
  rintro e w' ⟨rfl, rfl⟩
  gi_wp2
  have hbase : OfI w at' 0 0 (((((w.alloc (.cells #[.int .i64 at'] 3)).alloc (.cells #[.int .i64 0] 3)).alloc (.cells #[.int .i64 0] 3)).alloc (.cells #[.slice p len cap] 22)).alloc (.cells #[.int .u8 way] 5)) := {
    b0 := ((((Boxed.new w 3 (.int .i64 at')).alloc _).alloc _).alloc _).alloc _
    b1 := by
      have := (((Boxed.new (w.alloc (.cells #[.int .i64 at'] 3)) 3 (.int .i64 0)).alloc (.cells #[.int .i64 0] 3)).alloc (.cells #[.slice p len cap] 22)).alloc (.cells #[.int .u8 way] 5)
      simpa only [World.size_alloc] using this
    b2 := by
      have := ((Boxed.new ((w.alloc (.cells #[.int .i64 at'] 3)).alloc (.cells #[.int .i64 0] 3)) 3 (.int .i64 0)).alloc (.cells #[.slice p len cap] 22)).alloc (.cells #[.int .u8 way] 5)
      simpa only [World.size_alloc] using this
    below := ((((one_below w _).alloc (by simp) _).alloc (by simp; omega) _).alloc (by simp; omega) _).alloc (by simp; omega) _ }
  have hs0 : (((((w.alloc (.cells #[.int .i64 at'] 3)).alloc (.cells #[.int .i64 0] 3)).alloc (.cells #[.int .i64 0] 3)).alloc (.cells #[.slice p len cap] 22)).alloc (.cells #[.int .u8 way] 5)).cell? ⟨w.heap.size + 1 + 1 + 1, 0, none⟩ = some (.slice p len cap) := by
    have := (Boxed.new (((w.alloc (.cells #[.int .i64 at'] 3)).alloc (.cells #[.int .i64 0] 3)).alloc (.cells #[.int .i64 0] 3)) 22 (.slice p len cap)).alloc (.cells #[.int .u8 way] 5)
    simp only [World.size_alloc] at this
    exact this.cell
  have hw0 : (((((w.alloc (.cells #[.int .i64 at'] 3)).alloc (.cells #[.int .i64 0] 3)).alloc (.cells #[.int .i64 0] 3)).alloc (.cells #[.slice p len cap] 22)).alloc (.cells #[.int .u8 way] 5)).cell? ⟨w.heap.size + 1 + 1 + 1 + 1, 0, none⟩ = some (.int .u8 way) := by
    have := Boxed.new ((((w.alloc (.cells #[.int .i64 at'] 3)).alloc (.cells #[.int .i64 0] 3)).alloc (.cells #[.int .i64 0] 3)).alloc (.cells #[.slice p len cap] 22)) 5 (.int .u8 way)
    simp only [World.size_alloc] at this
    exact this.cell
  have hs2 : (((((w.alloc (.cells #[.int .i64 at'] 3)).alloc (.cells #[.int .i64 0] 3)).alloc (.cells #[.int .i64 0] 3)).alloc (.cells #[.slice p len cap] 22)).alloc (.cells #[.int .u8 way] 5)).heap.size = w.heap.size + 1 + 1 + 1 + 1 + 1 := by simp
  generalize ((((w.alloc (.cells #[.int .i64 at'] 3)).alloc (.cells #[.int .i64 0] 3)).alloc (.cells #[.int .i64 0] 3)).alloc (.cells #[.slice p len cap] 22)).alloc (.cells #[.int .u8 way] 5) = W2 at *
  have hIb : IsIn n₀ W2 p len cap is := hI.on (Kb.of hbase.below hn₀)
  have hlen := hI.len_eq
  have HS2 := Lib.hid hs2
  have hw2 : w.heap.size + 1 + 1 + 1 + 1 < W2.heap.size := by omega
  clear hs2
  refine wpIn_rangeFunc_ownH (F := Fence.wide) (n := 4) rfl (by omega) (gf := 24) (lb := #[.pointer (some ⟨w.heap.size + 1 + 1 + 1, 0, none⟩), .pointer (some ⟨w.heap.size + 1 + 1 + 1 + 1, 0, none⟩)]) rfl trivial (enters_of Try.func24 (by kernel_rfl) rfl)
    (units_stops Fence.wide 3 trivial rfl (by omega) (w.heap.size + 1 + 1 + 1) n₀ len cap p is way hlen hreach W2 (by omega) (by omega) hs0 hw0 hIb) (fun h1 h2 => h1.trans h2) (Kq.putObj (by omega) (by omega)) (Below.refl _ _) (fun _ => rfl)
    (fun (pre : List (Nat × Nat)) W => OfI w at' 0 pre.length W ∧ noneU at' pre)
    (fun c pre W => c = .ret ∧ OfX w at' pre W)
    (fun pre X Y row hs hg hr => ⟨hs.1.keep hg (fun r e => by have := (hr r e).1; omega) (fun r e cs t fr h => by
        obtain ⟨_, o, ho, hc⟩ := hr r e
        rw [h] at ho; cases ho; simp [Obj.isCells] at hc), hs.2⟩)
    (fun c pre X Y row hs hg hr => by
      obtain ⟨rfl, pr, u, e, h1, h2, h3⟩ := hs
      exact ⟨rfl, pr, u, e, h1, h2, h3.keep hg (fun r e => by have := (hr r e).1; omega) (fun r e cs t fr h => by
        obtain ⟨_, o, ho, hc⟩ := hr r e
        rw [h] at ho; cases ho; simp [Obj.isCells] at hc)⟩)
    ⟨hbase, fun u hu => by simp at hu⟩
    (fun x a' W => ∃ Bx, W.heap[Bx]? = some (.cells #[.int .i64 (x.1 : Nat), .int .i64 (x.2 : Nat)] 33 (0, 0)) ∧ a' = { tmps := #[.slice p len cap, .int .u8 way, .int .i64 at', undef, undef, .pointer (some ⟨w.heap.size, 0, none⟩), .pointer (some ⟨w.heap.size + 1, 0, none⟩), .pointer (some ⟨w.heap.size + 1 + 1, 0, none⟩), .pointer (some ⟨Bx, 0, none⟩), .slice p len cap, .int .u8 way, .func (.func 24) #[] #[.pointer (some ⟨w.heap.size + 1 + 1 + 1, 0, none⟩), .pointer (some ⟨w.heap.size + 1 + 1 + 1 + 1, 0, none⟩)], .agg #[.int .i64 (x.1 : Nat), .int .i64 (x.2 : Nat)], undef, undef, undef, undef, undef, undef, undef, undef, undef, undef, undef, undef, undef], defers := [] })
    (fun x a' _ X Y row hs hg hr => by
      obtain ⟨Bx, e1, e2⟩ := hs
      refine ⟨Bx, ?_, e2⟩
      rw [hg.block Bx (Array.getElem?_eq_some_iff.1 e1).1 (fun e => by
        obtain ⟨_, o, ho, hc⟩ := hr Bx e.symm
        rw [e1] at ho; cases ho; simp [Obj.isCells] at hc)]
      exact e1)
    ?assign ?body ?done ?stop
  case assign =>
    rintro l' pre x W K ⟨hv, hn⟩ hK
    gi_wp2
    exact hK _ _ ((KeepsOthers.alloc _ _).from _) (Kq.of (one_below _ _)) ⟨hv.keep (World.grownBy_alloc W _ none) (fun r e => by cases e) (fun r e => by cases e), hn⟩ ⟨W.heap.size, heap_alloc_new W _, rfl⟩
  case body =>
    rintro l' pre x a' W hl ⟨r, hr⟩ ⟨hv, hn⟩ ⟨Bx, bX, rfl⟩ hlt
    have c0 := hv.b0.cell
    have c1 := hv.b1.cell
    have c2 := hv.b2.cell
    have f1 := hv.b1.frozen
    have f2 := hv.b2.frozen
    have m0 : W.cell? ⟨Bx, 0, none⟩ = some (.int .i64 (x.1 : Nat)) := by rw [cell_of_row _ _ _ _ _ _ bX]; rfl
    have m1 : W.cell? ⟨Bx, 1, none⟩ = some (.int .i64 (x.2 : Nat)) := by rw [cell_of_row _ _ _ _ _ _ bX]; rfl
    have hX1 := hv.set1 (pre.length : Nat)
    have hX2 := hv.set2 ((pre.length : Nat) + 1)
    have hkq1 : ∀ (o : Nat) (v : Value), o = w.heap.size + 1 ∨ o = w.heap.size + 1 + 1 → KeepsFrom W2.heap.size W (W.setCell ⟨o, 0, none⟩ v) := fun o v _ => (KeepsOthers.setCell W ⟨o, 0, none⟩ v).from _
    have FIN : ¬ inU at' x → (KeepsFrom W2.heap.size W (W.setCell ⟨w.heap.size + 1 + 1, 0, none⟩ (.int .i64 ((pre.length : Nat) + 1))) ∧ Kq n₀ (w.heap.size + 1 + 1 + 1) W (W.setCell ⟨w.heap.size + 1 + 1, 0, none⟩ (.int .i64 ((pre.length : Nat) + 1))) ∧ OfI w at' 0 ((pre ++ [x]).length : Nat) (W.setCell ⟨w.heap.size + 1 + 1, 0, none⟩ (.int .i64 ((pre.length : Nat) + 1))) ∧ noneU at' (pre ++ [x])) := fun hx =>
      ⟨hkq1 _ _ (Or.inr rfl), hv.kq (by simp) hX2 hn₀ (fun g hg => Below.heap_setCell _ _ _ _ (by show ¬ _; simp; omega)), by
        rw [List.length_append]; exact hX2, fun u hu => by
        rcases List.mem_append.1 hu with h | h
        · exact hn u h
        · simp at h; subst h; exact hx⟩
    by_cases h1 : (x.1 : Int) ≤ at'
    · by_cases h2 : at' < (x.2 : Int)
      · gi_wp2
        exact ⟨hkq1 _ _ (Or.inl rfl), rfl, pre, x, rfl, ⟨h1, h2⟩, hn, hX1⟩
      · have hx : ¬ inU at' x := fun h => h2 h.2
        gi_wp2
        exact FIN hx
    · have hx : ¬ inU at' x := fun h => h1 h.1
      gi_wp2
      exact FIN hx
  case done =>
    rintro D ys W hD rfl ⟨hv, hn⟩ hK
    have c1 := hv.b1.cell
    have f1 := hv.b1.frozen
    have hX := hv.set1 (-1)
    gi_wp2
    have hK' := (KeepsOthers.setCell W ⟨w.heap.size + 1, 0, none⟩ (.int .i64 (-1))).same D _ hK rfl
    refine ⟨by simp, .inl ⟨_, _, rfl, run_takeDeferred hK', ?_⟩⟩
    have hc5 := cell_kept hX.b1.cell (grownBy_putObj' _ D (.deferred none)) (fun r e => by cases e; exact ⟨_, hK', rfl⟩)
    have hof : ofP (unitsP (opsOf is) way) at' 0 = -1 := by
      have := ofP_skip (unitsP (opsOf is) way) [] at' 0 hn
      simpa [ofP] using this
    refine ⟨.int .i64 (-1), ?_, by rw [hof], hX.below.grown (grownBy_putObj' _ D _) hX.below.size (fun k e => by cases e; omega)⟩
    simp [results, Try.f11, go_sem, hc5]
  case stop =>
    rintro D c pre W hD ⟨k, hk, hpre⟩ ⟨rfl, pr, u, e, hu, hn, hv⟩ hK
    gi_wp2
    refine ⟨by simp, .inl ⟨_, _, rfl, run_takeDeferred hK, ?_⟩⟩
    have hc5 := cell_kept hv.b1.cell (grownBy_putObj' _ D (.deferred none)) (fun r e => by cases e; exact ⟨_, hK, rfl⟩)
    obtain ⟨r, hr⟩ := unitsTo_pre (ops := opsOf is) (way := way) (k := k) (by rw [opsOf_len, hlen]; exact hk)
    have hof : ofP (unitsP (opsOf is) way) at' 0 = pr.length := by
      rw [hr, ← hpre, e, List.append_assoc, ofP_skip _ _ _ _ hn, List.singleton_append, ofP, if_pos (show (u.1 : Int) ≤ at' ∧ at' < u.2 from hu)]
      simp
    refine ⟨.int .i64 (pr.length : Nat), ?_, by rw [hof], hv.below.grown (grownBy_putObj' _ D _) hv.below.size (fun k e => by cases e; omega)⟩
    simp [results, Try.f11, go_sem, hc5]
end Go.Proofs.Ytfboifbpbjmcbaa.Pz
