import Derived.Test.YtfboifbpbjmcbaaPzC
import Derived.Maps.AppendAt
import Derived.WalkSmall
namespace Go.Proofs.Ytfboifbpbjmcbaa.Pz
open Go.RowKit Go.Shelf
attribute [local go_sem] Oper.semAt_some
theorem units_stops (F : Fence) (n : Nat) (h24 : F.fn 24) (hro : F.round = none) (hn : 1 ≤ n) (q n₀ len cap : Nat) (p : Option Addr) (is : List Ins) (way : Int) (hl : is.length = len) (hreach : len ≤ 100000) (w : World) (hq : q + 1 < w.heap.size) (hn₀ : n₀ ≤ w.heap.size)
    (hs0 : w.cell? ⟨q, 0, none⟩ = some (.slice p len cap)) (hw0 : w.cell? ⟨q + 1, 0, none⟩ = some (.int .u8 way)) (hI : IsIn n₀ w p len cap is) :
    SeqStopsK F n Try.prog 24 #[.pointer (some ⟨q, 0, none⟩), .pointer (some ⟨q + 1, 0, none⟩)] encU (Kq n₀ q) (fun ys => ys = unitsP (opsOf is) way) (fun pre => ∃ k, k ≤ len ∧ pre = (unitsTo (opsOf is) way k).2) len w := fun l J Jx W hW hJ _ hY h0 =>
  units1_in F n h24 hro hn l q n₀ len cap p is way hl hreach J Jx hY W hJ ((hW.cell (p := ⟨q, 0, none⟩) (by show q < _; omega)).trans hs0) ((hW.cell (p := ⟨q + 1, 0, none⟩) hq).trans hw0) (hI.on (Kb.of hW hn₀)) h0
/-- append within a fence, with where the row lies. -/
theorem wpListIn_append_lies {F : Fence} {n : Nat} {P : Program} (w : World) {ops : Array Oper} {rest : List Oper} {o : Oper} {a : Act} {Q : Exit → Act → World → Prop}
    (hg : o.guard = none) (s x : Operand) (t : TypeId) (hop : o.op = Op.call { callee := Callee.builtin Builtin.append, args := #[s, x], argTypes := #[t, t] })
    (base : Nat) (e : TypeId) (i : TypeInfo) (z : Value) (size bytes : Nat) (h1 : P.underlying t = some (.slice e)) (h2 : P.info? e = some i) (h3 : i.zero = some z) (h4 : i.size = size) (h5 : i.bytes = bytes) (h6 : z.cells.size = size) (h7 : 0 < size)
    (v : Value) (k : Nat) (xs : List Value) (hs : a.eval s = v) (hown : w.ownsRow base e size v k xs) (ad : Addr) (m c : Nat) (news : List Value) (hx : a.eval x = .slice (some ad) m c) (hn : news.length = m * size)
    (hc : ∀ j u, news[j]? = some u → w.cell? (ad.add j) = some u) (h1c : ∀ u ∈ news, u.oneCell' = true) (hm : 0 < m) (b1 : k + m ≤ maxLen) (b2 : (k + m) * bytes ≤ 140737488355328) (b3 : base ≤ w.heap.size) (H : Nat) (hH : w.heap.size = H)
    (hK : ∀ g cap w', w'.ownsRow base e size (.slice (some ⟨g, 0, none⟩) (k + m) cap) (k + m) (xs ++ news) → w.grownBy w' v.ownBlock → (v.ownBlock = some g ∨ g = H) → g < w'.heap.size → wpListIn F n P ops Q rest (a.put o.dst (.slice (some ⟨g, 0, none⟩) (k + m) cap)) w') :
    wpListIn F n P ops Q (o :: rest) a w := by
  refine wpListIn_plain hg fun K hK' => ?_
  obtain ⟨g, cap, w', hrun, r1, r2, r3, r4⟩ := run_append_lies (P := P) w t o.type base e i z size bytes h1 h2 h3 h4 h5 h6 h7 v k xs hown ad m c news hn hc h1c hm b1 b2 b3 H hH
  unfold Oper.wpIn
  refine ⟨?_, ?_⟩
  · simp [Oper.about, hop, resolve, Target.leads, Sem.run_pure]
  · rw [Oper.semAt_plain F _ _ (by rw [hop]; intro c hc'; cases hc')]
    simp [execOp, hop, resolve, invoke, builtin, hs, hx, hrun, Result.andThen]
    exact hK' _ _ (hK g cap w' r1 r2 r3 r4)
/-- Units' cells. -/
def flatU : List (Nat × Nat) → List Value
  | [] => []
  | u :: r => .int .i64 (u.1 : Nat) :: .int .i64 (u.2 : Nat) :: flatU r
theorem flatU_len (us : List (Nat × Nat)) : (flatU us).length = us.length * 2 := by
  induction us with
  | nil => rfl
  | cons u r ih => simp only [flatU, List.length_cons, ih]; omega
theorem flatU_app (a b : List (Nat × Nat)) : flatU (a ++ b) = flatU a ++ flatU b := by
  induction a with
  | nil => rfl
  | cons u r ih => simp only [List.cons_append, flatU, ih]
theorem flatU_get (us : List (Nat × Nat)) (i : Nat) (hi : i < us.length) : (flatU us)[i * 2]? = some (.int .i64 ((us.getD i (0, 0)).1 : Nat)) ∧ (flatU us)[i * 2 + 1]? = some (.int .i64 ((us.getD i (0, 0)).2 : Nat)) := by
  induction us generalizing i with
  | nil => simp at hi
  | cons u r ih =>
    cases i with
    | zero => exact ⟨rfl, rfl⟩
    | succ i =>
      have := ih i (by simpa using hi)
      rw [show (i + 1) * 2 = i * 2 + 1 + 1 by omega]
      simpa [flatU] using this
theorem infoU : (Try.prog.info? 33).map (fun i => (i.zero, i.size, i.bytes)) = some (some (.agg #[.int .i64 0, .int .i64 0]), 2, 16) := by kernel_rfl
/-- What AppendSeq has laid. -/
structure AI (w : World) (xs : List (Nat × Nat)) (v : Value) (W : World) : Prop where
  box : Boxed W w.heap.size 28 v
  own : W.ownsRow w.heap.size 33 2 v xs.length (flatU xs)
  below : Below w.heap.size w W
theorem AI.keep {w : World} {xs : List (Nat × Nat)} {v : Value} {X Y : World} {row : Option Nat} (h : AI w xs v X) (hg : X.grownBy Y row) (hB : ∀ r, row = some r → w.heap.size ≤ r) (hr : ∀ r, row = some r → ∀ cs t fr, X.heap[r]? ≠ some (.cells cs t fr)) : AI w xs v Y where
  box := h.box.kept hg (fun e => hr _ e.symm _ _ _ h.box)
  own := h.own.kept hg (by
    cases hv : v.ownBlock with
    | none => exact Or.inl rfl
    | some g =>
      obtain ⟨c, fz, h1⟩ := Lib.ownsRow_kind h.own g hv
      exact Or.inr (fun e => hr g e.symm _ _ _ h1))
  below := h.below.grown hg h.below.size hB
set_option maxHeartbeats 8000000 in
set_option maxRecDepth 1000000 in
theorem appendSeq_at (w : World) (q n₀ len cap : Nat) (p : Option Addr) (is : List Ins) (way : Int) (hl : is.length = len) (hreach : len ≤ 100000) (hq : q + 1 < w.heap.size) (hn₀ : n₀ ≤ w.heap.size)
    (hs0 : w.cell? ⟨q, 0, none⟩ = some (.slice p len cap)) (hw0 : w.cell? ⟨q + 1, 0, none⟩ = some (.int .u8 way)) (hI : IsIn n₀ w p len cap is) :
    Calls Try.prog 23 #[.slice none 0 0, .func (.func 24) #[] #[.pointer (some ⟨q, 0, none⟩), .pointer (some ⟨q + 1, 0, none⟩)]] w fun e W' => ∃ v, e = .returned v ∧ W'.ownsRow w.heap.size 33 2 v (unitsP (opsOf is) way).length (flatU (unitsP (opsOf is) way)) ∧ Below w.heap.size w W' := by
  obtain ⟨i0, hi, hz0, hz1, hz2⟩ := info_of infoU
  refine callsIn_wide.1 (callsIn_of_wp_marks (n := 4) Try.func23 rfl trivial ?_ rfl)
  simp only [Try.ntmps23, List.size_toArray, List.length_cons, List.length_nil, Nat.reduceAdd, Nat.reduceSub, Array.replicate_succ, Array.replicate_zero, List.push_toArray, List.append_toArray, List.nil_append, List.cons_append]
  gi_wp2
  have bN := Boxed.new w 28 (.slice none 0 0)
  have hB0 : Below w.heap.size w (w.alloc (.cells #[.slice none 0 0] 28)) := one_below _ _
  obtain ⟨W2, hW2⟩ : ∃ W2, w.alloc (.cells #[.slice none 0 0] 28) = W2 := ⟨_, rfl⟩
  have hs2 : W2.heap.size = w.heap.size + 1 := by rw [← hW2]; simp
  rw [hW2] at bN hB0 ⊢
  clear hW2
  have h0 : AI w [] (.slice none 0 0) W2 := ⟨bN, ⟨rfl, Or.inl ⟨rfl, rfl⟩⟩, hB0⟩
  have hsb : W2.cell? ⟨q, 0, none⟩ = some (.slice p len cap) := (hB0.cell (p := ⟨q, 0, none⟩) (by show q < _; omega)).trans hs0
  have hwb : W2.cell? ⟨q + 1, 0, none⟩ = some (.int .u8 way) := (hB0.cell (p := ⟨q + 1, 0, none⟩) hq).trans hw0
  have hIb : IsIn n₀ W2 p len cap is := hI.on (Kb.of hB0 hn₀)
  refine wpIn_rangeFunc_ownH (F := Fence.wide) (n := 4) rfl (by omega) (gf := 24) (lb := #[.pointer (some ⟨q, 0, none⟩), .pointer (some ⟨q + 1, 0, none⟩)]) rfl trivial (enters_of Try.func24 (by kernel_rfl) rfl)
    (units_stops Fence.wide 3 trivial rfl (by omega) q n₀ len cap p is way hl hreach W2 (by omega) (by omega) hsb hwb hIb) (fun h1 h2 => h1.trans h2) (Kq.putObj (by omega) (by omega)) (Below.refl _ _) (fun _ => rfl)
    (fun (pre : List (Nat × Nat)) W => ∃ v, AI w pre v W)
    (fun _ _ _ => False)
    (fun pre X Y row hs hg hr => by
      obtain ⟨v, hv⟩ := hs
      exact ⟨v, hv.keep hg (fun r e => by have := (hr r e).1; omega) (fun r e cs t fr h => by
        obtain ⟨_, o, ho, hc⟩ := hr r e
        rw [h] at ho; cases ho; simp [Obj.isCells] at hc)⟩)
    (fun _ _ _ _ _ hs _ _ => hs)
    ⟨_, h0⟩
    (fun x a' W => ∃ Bx, W.heap[Bx]? = some (.cells #[.int .i64 (x.1 : Nat), .int .i64 (x.2 : Nat)] 33 (0, 0)) ∧ a' = { tmps := #[.slice none 0 0, .func (.func 24) #[] #[.pointer (some ⟨q, 0, none⟩), .pointer (some ⟨q + 1, 0, none⟩)], .pointer (some ⟨w.heap.size, 0, none⟩), undef, .slice none 0 0, .pointer (some ⟨Bx, 0, none⟩), .func (.func 24) #[] #[.pointer (some ⟨q, 0, none⟩), .pointer (some ⟨q + 1, 0, none⟩)], .agg #[.int .i64 (x.1 : Nat), .int .i64 (x.2 : Nat)], undef, undef, undef, undef, undef], defers := [] })
    (fun x a' _ X Y row hs hg hr => by
      obtain ⟨Bx, e1, e2⟩ := hs
      refine ⟨Bx, ?_, e2⟩
      rw [hg.block Bx (Array.getElem?_eq_some_iff.1 e1).1 (fun e => by
        obtain ⟨_, o, ho, hc⟩ := hr Bx e.symm
        rw [e1] at ho; cases ho; simp [Obj.isCells] at hc)]
      exact e1)
    ?assign ?body ?done ?stop
  case assign =>
    rintro l' pre x W K ⟨v, hv⟩ hK
    gi_wp2
    exact hK _ _ ((KeepsOthers.alloc _ _).from _) (Kq.of (one_below _ _)) ⟨v, hv.keep (World.grownBy_alloc W _ none) (fun r e => by cases e) (fun r e => by cases e)⟩ ⟨W.heap.size, heap_alloc_new W _, rfl⟩
  case body =>
    rintro l' pre x a' W hl ⟨r, hr⟩ ⟨v, hv⟩ ⟨Bx, bX, rfl⟩ hlt
    obtain ⟨vg, vq, rfl⟩ := own_shape hv.own
    have hc := hv.box.cell
    have m0 : W.cell? ⟨Bx, 0, none⟩ = some (.int .i64 (x.1 : Nat)) := by rw [cell_of_row _ _ _ _ _ _ bX]; rfl
    have m1 : W.cell? ⟨Bx, 1, none⟩ = some (.int .i64 (x.2 : Nat)) := by rw [cell_of_row _ _ _ _ _ _ bX]; rfl
    have hWs := hv.below.size
    gi_wp2_with (gi_at_builtin; refine wpListIn_append_lies _ rfl (.tmp 8) (.tmp 10) 28 rfl w.heap.size 33 i0 _ 2 16 Try.underlying28 hi hz0 hz1 hz2 rfl (by decide) (.slice vg pre.length vq) pre.length _ rfl (hv.own.alloc _) ⟨W.heap.size, 0, none⟩ 1 1 [.int .i64 (x.1 : Nat), .int .i64 (x.2 : Nat)] rfl rfl (World.news_of_block (cs := #[.int .i64 (x.1 : Nat), .int .i64 (x.2 : Nat)]) (t := 33) (fr := (0, 0)) (heap_alloc_new W _)) (by simp [Value.oneCell']) (by decide) (by unfold maxLen; omega) (by omega) (by simp; omega) _ rfl ?_; intro g5 cap5 w5 hown5 hgrow5 hat5 hlt5; obtain ⟨a5, hv5, hr5, hk5, hb5⟩ := hv.box.appended (by decide) hv.own hWs (Nat.le_refl _) hown5 hgrow5; have hc5 := a5.cell; have hf5 := a5.frozen)
    refine ⟨hk5.from _, ⟨hb5.size, fun g hg hl => hb5.block g (by rcases hg with hg | rfl | rfl <;> omega)⟩, ⟨_, hv5, ?_, hv.below.trans hb5⟩⟩
    rw [List.length_append, flatU_app]
    exact hr5
  case done =>
    rintro D ys W hD rfl ⟨v, hv⟩ hK
    have hc := hv.box.cell
    gi_wp2
    refine ⟨by simp, .inl ⟨_, _, rfl, run_takeDeferred hK, ?_⟩⟩
    exact ⟨_, results_tmp rfl _ _ _, v, rfl, ownsRow_putObj hv.own _ hK rfl, hv.below.grown (grownBy_putObj' W D _) hv.below.size (fun k e => by cases e; omega)⟩
  case stop =>
    rintro D c pre W _ _ h _
    exact h.elim
end Go.Proofs.Ytfboifbpbjmcbaa.Pz
