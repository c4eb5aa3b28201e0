/- Contracts on the way to the laws of layer 5: ParseFs, ParseFt, ParseFu. -/
import Derived.Test.YtpemghcafbedeaaGreatDoorKah
import Derived.Test.YtpemghcafbedeaaGreatDoorKak
import Derived.Test.YtpemghcafbedeaaGreatDoorKan
import Derived.Recover
import Derived.Defers
import Derived.Lib.ConvBytes
set_option linter.all false
section
namespace Go.Proofs.YtpemghcafbedeaaGreatDoor
open Go.RowKit
set_option maxHeartbeats 4000000 in
set_option maxRecDepth 1000000 in
theorem rec_idle (p q r : Addr) (w : World) :
    CallsD Tryz.prog 35 #[.pointer (some p), .pointer (some q), .pointer (some r)] .returning w fun e u' w' => e = .returned (.tuple #[]) ∧ u' = .returning ∧ w' = w := by
  refine callsD_of_wpS Tryz.func35 rfl fun c₀ cs hu => ?_
  apply wpS_seq
  apply wpS_region
  simp [wpOpsS, go_sem, recoverD, hu, Tryz.ntmps35, Exit.thenS]
  refine wpS_of_wp ?_
  simp only [Array.replicate_succ, Array.replicate_zero, List.push_toArray, List.append_toArray, List.nil_append, List.cons_append, List.setIfInBounds_toArray, List.set_cons_zero, List.set_cons_succ]
  go_wp2_with fail
  cases c₀
  simp_all [bodyPostS, results, Tryz.results35]
theorem is_wrong (v : Value) (w : World) : (Instr.typeAssert (.iface 68 v) 20 68 true).run Tryz.prog w = .ok (.tuple #[v, .bool true]) w := by
  simp [Instr.typeAssert, Sem.run_bind, run_underlying Tryz.underlying68, Result.andThen]
set_option maxHeartbeats 4000000 in
set_option maxRecDepth 1000000 in
theorem rec_wrong (B : Nat) (bs bt be : Nat) (sp : Option Addr) (len c : Nat) (xs : List Int) (k : Nat) (code : Int) (vt ve : Value) (w : World) (hs : w.cell? ⟨bs, 0, none⟩ = some (.slice sp len c)) (hsrc : Src w sp len c xs) (hlen : len ≤ 65536) (hk : k ≤ len) (hc : code ≠ 0)
    (ht : Boxed w bt 26 vt) (he : Boxed w be 28 ve) (hte : bt ≠ be) (hB1 : B ≤ bt) (hB2 : B ≤ be) :
    CallsD Tryz.prog 35 #[.pointer (some ⟨bs, 0, none⟩), .pointer (some ⟨bt, 0, none⟩), .pointer (some ⟨be, 0, none⟩)] (.panicking [{ v := .iface 68 (.agg #[.int .i64 (k : Int), .int .i64 code]), recovered := false }]) w fun e u' w' =>
      e = .returned (.tuple #[]) ∧ u' = .panicking [{ v := .iface 68 (.agg #[.int .i64 (k : Int), .int .i64 code]), recovered := true }] ∧ ∃ C l cc, Boxed w' bt 26 (.slice none 0 0) ∧ Boxed w' be 28 (.iface 86 (.pointer (some ⟨C, 0, none⟩))) ∧ ErrAt w' C (k : Int) l cc code ∧ Below B w w' := by
  have hta := is_wrong
  have hs2 : (w.alloc (.cells #[.int .i64 (k : Int), .int .i64 code] 68)).cell? ⟨bs, 0, none⟩ = some (.slice sp len c) := (World.cell?_alloc_lt _ _ ⟨bs, 0, none⟩ (cell_lt hs)).trans hs
  have htc := ht.cell
  have htz := ht.frozen
  have hec := he.cell
  have hez := he.frozen
  have htl := ht.lt
  have hel := he.lt
  have hBw : B ≤ w.heap.size := by omega
  have NW := Lib.hid (new_src sp len c k xs (k : Int) code (w.alloc (.cells #[.int .i64 (k : Int), .int .i64 code] 68)) hc (by omega) (by omega) (hsrc.below ((Below.refl _ _).alloc (Nat.le_refl _) _)))
  have HT := Lib.hid ht
  have HE := Lib.hid he
  clear ht he hsrc
  refine callsD_of_wpS Tryz.func35 rfl fun c₀ cs hu => ?_
  apply wpS_seq
  apply wpS_region
  simp [wpOpsS, go_sem, recoverD, hu, Tryz.ntmps35, Exit.thenS]
  refine wpS_of_wp ?_
  simp only [Array.replicate_succ, Array.replicate_zero, List.push_toArray, List.append_toArray, List.nil_append, List.cons_append, List.setIfInBounds_toArray, List.set_cons_zero, List.set_cons_succ]
  go_wp2_with fail
  (with_reducible refine NW.out.mono ?_)
  rintro e w' ⟨rfl, hN⟩
  have hb := hN.below
  have hal : Below w.heap.size w (w.alloc (.cells #[.int .i64 (k : Int), .int .i64 code] 68)) := (Below.refl _ _).alloc (Nat.le_refl _) _
  have hbb : Below w.heap.size w w' := hal.trans (hb.mono hal.size)
  have bt1 : Boxed w' bt 26 vt := (hbb.block bt htl).trans HT.out
  have be1 : Boxed w' be 28 ve := (hbb.block be hel).trans HE.out
  have d1 := bt1.cell
  have d2 := bt1.frozen
  have d3 := be1.cell
  have d4 := be1.frozen
  have hne1 : ¬ bt = be := hte
  have hne2 : ¬ be = bt := fun e => hte e.symm
  have HN := Lib.hid hN
  have bt2 := bt1.set (.slice none 0 0)
  have be2 := (be1.kept (grownBy_set w' ⟨bt, 0, none⟩ (.slice none 0 0)) (fun e => hne2 (Option.some.inj e))).set (.iface 86 (.pointer (some ⟨(w.alloc (.cells #[.int .i64 (k : Int), .int .i64 code] 68)).heap.size + 1, 0, none⟩)))
  have bt3 := bt2.kept (grownBy_set (w'.setCell ⟨bt, 0, none⟩ (.slice none 0 0)) ⟨be, 0, none⟩ (.iface 86 (.pointer (some ⟨(w.alloc (.cells #[.int .i64 (k : Int), .int .i64 code] 68)).heap.size + 1, 0, none⟩)))) (fun e => hne1 (Option.some.inj e))
  have hEA : ErrAt ((w'.setCell ⟨bt, 0, none⟩ (.slice none 0 0)).setCell ⟨be, 0, none⟩ (.iface 86 (.pointer (some ⟨(w.alloc (.cells #[.int .i64 (k : Int), .int .i64 code] 68)).heap.size + 1, 0, none⟩)))) ((w.alloc (.cells #[.int .i64 (k : Int), .int .i64 code] 68)).heap.size + 1) (k : Int) (lineF xs k) ((k : Int) - lastF xs k) code := by
    have h1 := hN.at_
    have hq : ∀ i, ((w'.setCell ⟨bt, 0, none⟩ (.slice none 0 0)).setCell ⟨be, 0, none⟩ (.iface 86 (.pointer (some ⟨(w.alloc (.cells #[.int .i64 (k : Int), .int .i64 code] 68)).heap.size + 1, 0, none⟩)))).cell? ⟨(w.alloc (.cells #[.int .i64 (k : Int), .int .i64 code] 68)).heap.size + 1, i, none⟩ = w'.cell? ⟨(w.alloc (.cells #[.int .i64 (k : Int), .int .i64 code] 68)).heap.size + 1, i, none⟩ := fun i => by
      rw [World.cell?_setCell_other _ _ _ _ (by first | (simp; done) | (simp; omega)), World.cell?_setCell_other _ _ _ _ (by first | (simp; done) | (simp; omega))]
    exact ⟨by have := h1.lt; simpa [World.setCell] using this, by rw [hq]; exact h1.c0, by rw [hq]; exact h1.c1, by rw [hq]; exact h1.c2, by rw [hq]; exact h1.c3⟩
  have HEA := Lib.hid hEA
  have BT3 := Lib.hid bt3
  have BE2 := Lib.hid be2
  have hfb : Below B w ((w'.setCell ⟨bt, 0, none⟩ (.slice none 0 0)).setCell ⟨be, 0, none⟩ (.iface 86 (.pointer (some ⟨(w.alloc (.cells #[.int .i64 (k : Int), .int .i64 code] 68)).heap.size + 1, 0, none⟩)))) := ((hbb.mono hBw).setCell (p := ⟨bt, 0, none⟩) hB1 _).setCell (p := ⟨be, 0, none⟩) hB2 _
  clear hN bt1 be1 bt2 be2 bt3 hEA NW
  go_wp2_with fail
  have hsz : (w.alloc (.cells #[.int .i64 (k : Int), .int .i64 code] 68)).heap.size = w.heap.size + 1 := by simp
  have h1 := BT3.out
  have h2 := BE2.out
  have h3 := HEA.out
  rw [hsz] at h1 h2 h3 hfb
  exact ⟨rfl, _, rfl, .tuple #[], by simp [results, Tryz.results35, Tryz.f35, go_sem], rfl, rfl, h1, _, h2, ⟨_, _, h3⟩, hfb⟩
end Go.Proofs.YtpemghcafbedeaaGreatDoor
end
section
namespace Go.Proofs.YtpemghcafbedeaaGreatDoor
open Go.RowKit
def ParsePost (xs : List Int) (w : World) (e : Ending) (w' : World) : Prop := Below w.heap.size w w' ∧ match parseS xs with
  | .error (i, er) => ∃ C l cc, e = .returned (.tuple #[.agg #[.slice none 0 0], .iface 86 (.pointer (some ⟨C, 0, none⟩))]) ∧ ErrAt w' C (i : Int) l cc er
  | .ok ns => ∃ p len cap, e = .returned (.tuple #[.agg #[.slice p len cap], .nilIface]) ∧ Tr.TV w' p len cap ns
abbrev W3 (w : World) (p : Option Addr) (len c : Nat) : World := ((w.alloc (.cells #[.slice p len c] 22)).alloc (.cells #[.slice none 0 0] 26)).alloc (.cells #[.nilIface] 28)
theorem W3_below (w : World) (p : Option Addr) (len c : Nat) : Below w.heap.size w (W3 w p len c) := (((Below.refl _ _).alloc (Nat.le_refl _) _).alloc (by simp) _).alloc (by simp; omega) _
theorem W3_size (w : World) (p : Option Addr) (len c : Nat) : (W3 w p len c).heap.size = w.heap.size + 1 + 1 + 1 := by simp [W3]
theorem W3_boxes (w : World) (p : Option Addr) (len c : Nat) : Boxed (W3 w p len c) w.heap.size 22 (.slice p len c) ∧ Boxed (W3 w p len c) (w.heap.size + 1) 26 (.slice none 0 0) ∧ Boxed (W3 w p len c) (w.heap.size + 1 + 1) 28 .nilIface := by
  refine ⟨((Boxed.new w _ _).alloc _).alloc _, ?_, ?_⟩
  · have h := (Boxed.new (w.alloc (.cells #[.slice p len c] 22)) 26 (.slice none 0 0)).alloc (.cells #[.nilIface] 28)
    rw [World.size_alloc] at h
    exact h
  · have h := Boxed.new ((w.alloc (.cells #[.slice p len c] 22)).alloc (.cells #[.slice none 0 0] 26)) 28 .nilIface
    simp only [World.size_alloc] at h
    exact h
theorem ErrAt.ne {W : World} {C q T : Nat} {u : Value} {x l c n : Int} (h : ErrAt W C x l c n) (hb : Boxed W q T u) : C ≠ q := fun e => by
  have h1 := h.c1
  have h2 : W.heap[q]? = some (.cells #[u] T (0, 0)) := hb
  rw [e, cell_of_row _ _ _ _ _ _ h2] at h1
  simp at h1
theorem ErrAt.put {W : World} {C q : Nat} {u : Value} {x l c n : Int} (h : ErrAt W C x l c n) (hne : C ≠ q) : ErrAt (W.setCell ⟨q, 0, none⟩ u) C x l c n := by
  have hq : ∀ i, (W.setCell ⟨q, 0, none⟩ u).cell? ⟨C, i, none⟩ = W.cell? ⟨C, i, none⟩ := fun i => World.cell?_of_block (w := W) (Below.heap_setCell _ _ _ _ hne)
  exact ⟨by have := h.lt; simpa [World.setCell] using this, by rw [hq]; exact h.c0, by rw [hq]; exact h.c1, by rw [hq]; exact h.c2, by rw [hq]; exact h.c3⟩
set_option maxHeartbeats 4000000 in
set_option maxRecDepth 1000000 in
theorem parse_lex (w : World) (p : Option Addr) (len c : Nat) (xs : List Int) (h : Src w p len c xs) (hb : len ≤ 65536) (i : Nat) (er : Int) (hx : lexS xs = .error (i, er)) :
    Calls Tryz.prog 14 #[.slice p len c] w (ParsePost xs w) := by
  have LN := Lib.hid (lex_no (h.below (W3_below w p len c)) hb hx)
  have HX : Hid (parseS xs = .error (i, er)) := Lib.hid (by simp only [parseS, hx])
  obtain ⟨b1, b2, b3⟩ := W3_boxes w p len c
  have B1 := Lib.hid b1
  have B2 := Lib.hid b2
  have B3 := Lib.hid b3
  have hsz := W3_size w p len c
  have HSZ := Lib.hid hsz
  clear h hx b1 b2 b3 hsz
  go_enter_defers Tryz.func14, Tryz.ntmps14
  go_wp2_with fail
  (with_reducible refine LN.out.mono ?_)
  rintro e w4 ⟨C, l, cc, rfl, hE, hb4⟩
  have c1 : Boxed w4 w.heap.size 22 (.slice p len c) := (hb4.block _ B1.out.lt).trans B1.out
  have c2 : Boxed w4 (w.heap.size + 1) 26 (.slice none 0 0) := (hb4.block _ B2.out.lt).trans B2.out
  have c3 : Boxed w4 (w.heap.size + 1 + 1) 28 .nilIface := (hb4.block _ B3.out.lt).trans B3.out
  have d2 := c2.cell
  have z2 := c2.frozen
  have d3 := c3.cell
  have z3 := c3.frozen
  have hn2 := hE.ne c2
  have hn3 := hE.ne c3
  have hF := ((hE.put (u := .iface 86 (.pointer (some ⟨C, 0, none⟩))) hn3).put (u := .slice none 0 0) hn2).put (u := .iface 86 (.pointer (some ⟨C, 0, none⟩))) hn3
  have HF := Lib.hid hF
  have hfb : Below w.heap.size w (((w4.setCell ⟨w.heap.size + 1 + 1, 0, none⟩ (.iface 86 (.pointer (some ⟨C, 0, none⟩)))).setCell ⟨w.heap.size + 1, 0, none⟩ (.slice none 0 0)).setCell ⟨w.heap.size + 1 + 1, 0, none⟩ (.iface 86 (.pointer (some ⟨C, 0, none⟩)))) :=
    ((((W3_below w p len c).trans (hb4.mono (W3_below w p len c).size)).setCell (p := ⟨w.heap.size + 1 + 1, 0, none⟩) (by simp only; omega) _).setCell (p := ⟨w.heap.size + 1, 0, none⟩) (by simp only; omega) _).setCell (p := ⟨w.heap.size + 1 + 1, 0, none⟩) (by simp only; omega) _
  have HFB := Lib.hid hfb
  clear hF hfb
  clear hE hb4 c1 c2 c3 LN
  go_wp2_with fail
  go_region
  all_goals go_wp2_with fail
  all_goals simp [bodyPostD, Leaves, results, Tryz.results14, go_sem, d2, d3]
  all_goals
    refine ⟨HFB.out.drew, ?_⟩
    rw [HX.out]
    exact ⟨C, l, cc, rfl, ⟨HF.out.lt, HF.out.c0, HF.out.c1, HF.out.c2, HF.out.c3⟩⟩
theorem PS.begin (w4 w5 : World) (g cap : Nat) (ts : List Tok) (rb b : Nat) (xs : List Int) (hT : TR w4 g cap ts) (hg5 : w5.heap[g]? = w4.heap[g]?) (hs5 : w5.heap.size = w4.heap.size) (hrb : rb = w4.heap.size) (hbb : b = rb + 1) (hx : lexS xs = .ok ts) (hb : xs.length ≤ 65536) :
    PS { W := w5.alloc (.map ES13 13), b := b, g := g, cap := cap, toks := ts, mp := .map (some rb) } (.slice none 0 0) [] [] 64 (ts.map ptOf) ((w5.alloc (.map ES13 13)).alloc (.cells #[.slice (some ⟨g, 0, none⟩) ts.length cap, .int .i64 0, .int .i64 0, .map (some rb), .slice none 0 0] 73)) ∧ MapAt { W := w5.alloc (.map ES13 13), b := b, g := g, cap := cap, toks := ts, mp := .map (some rb) } := by
  obtain ⟨vs, hts, hvs⟩ := lexS_shape hx
  have hlen := lexN_len _ _ _ _ hx
  have hbs : b = (w5.alloc (.map ES13 13)).heap.size := by simp; omega
  have hgl := hT.lt
  refine ⟨{ below := ?_, lt := ?_, gl := by simp only; omega, cap := hT.le, tok := ?_, nx := ?_, r64 := Nat.le_refl _, ended := ?_, few := ?_, room := ?_, klen := rfl, own := World.ownsRow_nil _ _ _ _, kids := fun j hj => by simp at hj, apart := fun x hx => by simp at hx, pair := List.Pairwise.nil }, ⟨rb, rfl, by simp only; omega, ?_⟩⟩
  · simp only
    rw [hbs]
    exact (Below.refl _ _).alloc (Nat.le_refl _) _
  · simp only
    rw [hbs]
    simp
  · intro j i u hj hi
    have h5 : i < 5 := by have := (List.getElem?_eq_some_iff.1 hi).1; simpa [tokC5] using this
    have h1 : ts[j]? = some (ts.getD j (Tok.endAt 0)) := by simp only at hj; simp [List.getD, hj]
    have h2 := hT.cell (j * 5 + i) u (by rw [tok_cell ts j i _ h1 h5]; exact hi)
    simp only
    rw [World.cell?_of_block (w := w4) (a := ⟨g, j * 5 + i, none⟩) ?_]
    · exact h2
    · rw [Below.heap_alloc _ _ _ (by simp; omega), Below.heap_alloc _ _ _ (by simp only; omega)]
      exact hg5
  · refine ⟨0, rfl, ?_⟩
    simp only
    rw [hbs, World.alloc_heap_new]
    rfl
  · rw [hts, List.map_append]
    exact ended_snoc _ _ (end_pt _)
  · simp only; omega
  · simp only [List.length_nil, List.length_map]; omega
  · simp only
    rw [hrb, ← hs5]
    exact World.alloc_heap_new w5 _
set_option maxHeartbeats 4000000 in
set_option maxRecDepth 1000000 in
theorem parse_run (w : World) (p : Option Addr) (len c : Nat) (xs : List Int) (h : Src w p len c xs) (hb : len ≤ 65536) (ts : List Tok) (hx : lexS xs = .ok ts) :
    Calls Tryz.prog 14 #[.slice p len c] w (ParsePost xs w) := by
  have hmf : ∀ (fn : Fn) (first cap : Array Value) (w : World), (Instr.makeFunc fn first cap).run Tryz.prog w = .ok (.func fn first cap) w := fun _ _ _ _ => rfl
  have LK := Lib.hid (lex_ok (h.below (W3_below w p len c)) hb hx)
  have HXS := Lib.hid hx
  have HS := Lib.hid h
  have hlx : Hid (xs.length = len) := Lib.hid h.1
  obtain ⟨b1, b2, b3⟩ := W3_boxes w p len c
  have B1 := Lib.hid b1
  have B2 := Lib.hid b2
  have B3 := Lib.hid b3
  have HSZ := Lib.hid (W3_size w p len c)
  clear h hx b1 b2 b3
  go_enter_defers Tryz.func14, Tryz.ntmps14
  go_wp2_with fail
  (with_reducible refine LK.out.mono ?_)
  rintro e w4 ⟨g, cap, rfl, hT, hg, hb4⟩
  have c1 : Boxed w4 w.heap.size 22 (.slice p len c) := (hb4.block _ B1.out.lt).trans B1.out
  have c2 : Boxed w4 (w.heap.size + 1) 26 (.slice none 0 0) := (hb4.block _ B2.out.lt).trans B2.out
  have c3 : Boxed w4 (w.heap.size + 1 + 1) 28 .nilIface := (hb4.block _ B3.out.lt).trans B3.out
  have d3 := c3.cell
  have z3 := c3.frozen
  have HB4 := Lib.hid hb4
  have HT := Lib.hid hT
  have HG := Lib.hid hg
  have hn1 : ¬ w.heap.size = w.heap.size + 1 + 1 := by omega
  have C1 := Lib.hid (c1.kept (grownBy_set w4 ⟨w.heap.size + 1 + 1, 0, none⟩ .nilIface) (fun e => by have e := Option.some.inj e; simp only at e; omega))
  have C2 := Lib.hid (c2.kept (grownBy_set w4 ⟨w.heap.size + 1 + 1, 0, none⟩ .nilIface) (fun e => by have e := Option.some.inj e; simp only at e; omega))
  have C3 := Lib.hid (c3.set .nilIface)
  have ST := Lib.hid (statements_at (w4.setCell ⟨w.heap.size + 1 + 1, 0, none⟩ .nilIface))
  have hP := PS.begin w4 (w4.setCell ⟨w.heap.size + 1 + 1, 0, none⟩ .nilIface) g cap ts w4.heap.size (w4.heap.size + 1) xs hT (Below.heap_setCell _ _ _ _ (by have := HSZ.out; simp only; omega)) (by simp [World.setCell]) rfl rfl HXS.out (by have := hlx.out; omega)
  have HP := Lib.hid hP.1
  have HM := Lib.hid hP.2
  clear hT hg hb4 c1 c2 c3 LK hP
  go_wp2_with fail
  (with_reducible refine ST.out.mono ?_)
  rintro e w6 ⟨rfl, rfl⟩
  clear d3 z3 ST
  have hsz5 : (w4.setCell ⟨w.heap.size + 1 + 1, 0, none⟩ .nilIface).heap.size = w4.heap.size := by simp [World.setCell]
  go_wp2_with fail
  obtain ⟨E, hE⟩ : ∃ E : Env, E = { W := (w4.setCell ⟨w.heap.size + 1 + 1, 0, none⟩ .nilIface).alloc (.map ES13 13), b := w4.heap.size + 1, g := g, cap := cap, toks := ts, mp := .map (some w4.heap.size) } := ⟨_, rfl⟩
  rw [← hE] at HP HM
  have hEb : E.b = w4.heap.size + 1 := by rw [hE]
  have hEW : E.W = (w4.setCell ⟨w.heap.size + 1 + 1, 0, none⟩ .nilIface).alloc (.map ES13 13) := by rw [hE]
  have hptl : (ts.map ptOf).length ≤ 65537 := by have h1 := lexN_len _ _ _ _ HXS.out; have h2 := hlx.out; rw [List.length_map]; omega
  have PG := Lib.hid (program_at HP.out HM.out (by simp only [List.length_nil]; omega))
  rw [hEb] at PG
  have HEB := Lib.hid hEb
  have HEW := Lib.hid hEW
  have hs4 : w.heap.size + 1 + 1 + 1 ≤ w4.heap.size := by have h1 := HB4.out.size; have h2 := HSZ.out; omega
  have HSB : Hid (Below w.heap.size w E.W) := Lib.hid (by
    rw [HEW.out]
    exact (((W3_below w p len c).trans (HB4.out.mono (W3_below w p len c).size)).setCell (p := ⟨w.heap.size + 1 + 1, 0, none⟩) (by simp only; omega) _).alloc (by rw [hsz5]; omega) _)
  have HWS : Hid (E.W.heap.size = w4.heap.size + 1) := Lib.hid (by rw [HEW.out]; simp)
  have K1 := Lib.hid (show Boxed E.W w.heap.size 22 (.slice p len c) by rw [HEW.out]; exact C1.out.alloc _)
  have K2 := Lib.hid (show Boxed E.W (w.heap.size + 1) 26 (.slice none 0 0) by rw [HEW.out]; exact C2.out.alloc _)
  have K3 := Lib.hid (show Boxed E.W (w.heap.size + 1 + 1) 28 .nilIface by rw [HEW.out]; exact C3.out.alloc _)
  clear hE hEb hEW HP HM hsz5 C1 C2 C3 HT HG HB4
  (with_reducible refine PG.out.mono ?_)
  rintro e w8 hP8
  cases hp : programP (ts.map ptOf) with
  | err q d =>
    rw [hp] at hP8
    obtain ⟨rfl, hb8⟩ := hP8
    have HR : Hid (parseS xs = .error (q, d)) := Lib.hid (by simp only [parseS, HXS.out, hp])
    obtain ⟨hd0, hq0⟩ := ce_program.er _ _ _ hp
    have hql : q ≤ len := by
      rcases hq0 with rfl | ⟨t, ht, rfl⟩
      · exact Nat.zero_le _
      · obtain ⟨vs, hts, hvs⟩ := lexS_shape HXS.out
        rw [hts, List.map_append, List.mem_append] at ht
        rcases ht with ht | ht
        · obtain ⟨u, hu, rfl⟩ := List.mem_map.1 ht
          have h1 := (hvs u hu).2
          have h2 := hlx.out
          show u.at' ≤ len
          omega
        · simp only [List.map_cons, List.map_nil, List.mem_singleton] at ht
          subst ht
          have h2 := hlx.out
          show xs.length ≤ len
          omega
    rw [HEB.out] at hb8
    have hb8w : Below w.heap.size w w8 := HSB.out.trans (hb8.mono (by omega))
    have k1 : Boxed w8 w.heap.size 22 (.slice p len c) := (hb8.block _ (by omega)).trans K1.out
    have k2 : Boxed w8 (w.heap.size + 1) 26 (.slice none 0 0) := (hb8.block _ (by omega)).trans K2.out
    have k3 : Boxed w8 (w.heap.size + 1 + 1) 28 .nilIface := (hb8.block _ (by omega)).trans K3.out
    have RW := Lib.hid (rec_wrong w.heap.size w.heap.size (w.heap.size + 1) (w.heap.size + 1 + 1) p len c xs q d _ _ w8 k1.cell (HS.out.below hb8w) hb hql hd0 k2 k3 (by omega) (by omega) (by omega))
    have HB8 := Lib.hid hb8w
    clear hb8 hb8w k1 k2 k3 hp
    go_wp2_with fail
    refine leaves_cons (f := 35) (args := #[.pointer (some ⟨w.heap.size, 0, none⟩), .pointer (some ⟨w.heap.size + 1, 0, none⟩), .pointer (some ⟨w.heap.size + 1 + 1, 0, none⟩)]) (by simp) (by simp [go_sem]) ?_
    refine RW.out.mono ?_
    rintro e u' w9 ⟨rfl, rfl, C, l, cc, r2, r3, hEA, hb9⟩
    have d2 := r2.cell
    have d3 := r3.cell
    have hfin : Hid (ParsePost xs w (.returned (.tuple #[.agg #[.slice none 0 0], .iface 86 (.pointer (some ⟨C, 0, none⟩))])) w9) := Lib.hid (by
      refine ⟨HB8.out.trans hb9, ?_⟩
      rw [HR.out]
      exact ⟨C, l, cc, rfl, hEA⟩)
    clear r2 r3 hEA hb9
    simp [Leaves, settle, results, Tryz.results14, go_sem, d2, d3]
    exact hfin.out
  | ok a l1 =>
    rw [hp] at hP8
    obtain ⟨v', new, rfl, hps, hnw, hfr⟩ := hP8
    have HR : Hid (parseS xs = .ok (flat 0 a)) := Lib.hid (by simp only [parseS, HXS.out, hp])
    obtain ⟨_, _, _, _, _, _, c4⟩ := hps.cells
    have hmade : Made (E.b + 1) w8 v' new (post 0 a) := {
      base := hps.lt
      own := by simpa using hps.own
      klen := by simpa using hps.klen
      kids := fun j hj => by simpa using hps.kids j (by simpa using hj)
      apart := by simpa using hps.apart
      pair := by simpa using hps.pair
      few := by have := hps.room; simp at this; omega }
    have FL := flat_at (E.b + 1) v' new a w8 hmade
    have hroot : rootI ([] : List Nd).length a = (a.size : Int) - 1 := by simp [rootI]
    have hb8 := hps.below
    rw [HEB.out] at hb8 FL c4
    have hlt8 := hps.lt
    rw [HEB.out] at hlt8
    have hb8w : Below w.heap.size w w8 := HSB.out.trans (hb8.mono (by omega))
    have k2 : Boxed w8 (w.heap.size + 1) 26 (.slice none 0 0) := (hb8.block _ (by omega)).trans K2.out
    have k3 : Boxed w8 (w.heap.size + 1 + 1) 28 .nilIface := (hb8.block _ (by omega)).trans K3.out
    have FLH := Lib.hid FL
    have KK2 := Lib.hid k2
    have KK3 := Lib.hid k3
    have HB8 := Lib.hid hb8w
    have hr2 : (.int .i64 (rootI ([] : List Nd).length a) : Value) = .int .i64 ((a.size : Int) - 1) := by rw [hroot]
    rw [hr2]
    clear hps hnw hfr hmade FL hroot hb8 hb8w k2 k3 hp hr2
    go_wp2_with fail
    (with_reducible refine FLH.out.mono ?_)
    rintro e w9 ⟨p9, l9, c9, rfl, hTV, hb9⟩
    have k2 : Boxed w9 (w.heap.size + 1) 26 (.slice none 0 0) := (hb9.block _ (by omega)).trans KK2.out
    have k3 : Boxed w9 (w.heap.size + 1 + 1) 28 .nilIface := (hb9.block _ (by omega)).trans KK3.out
    have d2 := k2.cell
    have z2 := k2.frozen
    have d3 := k3.cell
    have z3 := k3.frozen
    have hfin : Hid (ParsePost xs w (.returned (.tuple #[.agg #[.slice p9 l9 c9], .nilIface])) ((w9.setCell ⟨w.heap.size + 1, 0, none⟩ (.slice p9 l9 c9)).setCell ⟨w.heap.size + 1 + 1, 0, none⟩ .nilIface)) := Lib.hid (by
      refine ⟨((HB8.out.trans (hb9.mono (by omega))).setCell (p := ⟨w.heap.size + 1, 0, none⟩) (by simp only; omega) _).setCell (p := ⟨w.heap.size + 1 + 1, 0, none⟩) (by simp only; omega) _, ?_⟩
      rw [HR.out]
      exact ⟨p9, l9, c9, rfl, hTV _ (fun k hk => by rw [Below.heap_setCell _ _ _ _ (by simp only; omega), Below.heap_setCell _ _ _ _ (by simp only; omega)])⟩)
    have RI := Lib.hid (rec_idle ⟨w.heap.size, 0, none⟩ ⟨w.heap.size + 1, 0, none⟩ ⟨w.heap.size + 1 + 1, 0, none⟩ ((w9.setCell ⟨w.heap.size + 1, 0, none⟩ (.slice p9 l9 c9)).setCell ⟨w.heap.size + 1 + 1, 0, none⟩ .nilIface))
    clear k2 k3 hTV hb9 FLH
    go_wp2_with fail
    refine leaves_cons (f := 35) (args := #[.pointer (some ⟨w.heap.size, 0, none⟩), .pointer (some ⟨w.heap.size + 1, 0, none⟩), .pointer (some ⟨w.heap.size + 1 + 1, 0, none⟩)]) (by simp) (by simp [go_sem]) ?_
    refine RI.out.mono ?_
    rintro e u' w'' ⟨rfl, rfl, rfl⟩
    simp [Leaves, settle, results, Tryz.results14, go_sem, d2, d3]
    exact hfin.out
theorem parse_at (w : World) (p : Option Addr) (len c : Nat) (xs : List Int) (h : Src w p len c xs) (hb : len ≤ 65536) : Calls Tryz.prog 14 #[.slice p len c] w (ParsePost xs w) := by
  cases hx : lexS xs with
  | error e => exact parse_lex w p len c xs h hb e.1 e.2 hx
  | ok ts => exact parse_run w p len c xs h hb ts hx
end Go.Proofs.YtpemghcafbedeaaGreatDoor
end
section
namespace Go.Proofs.YtpemghcafbedeaaGreatDoor
open Go.RowKit
theorem ex_c : parseS [112, 114, 111, 99, 32, 112, 40, 41, 32, 123, 32, 108, 101, 116, 32, 61, 32, 49, 59, 32, 125] = .error (15, 50) := by kernel_rfl
theorem ex_d : parseS [116, 97, 98, 108, 101, 32, 116, 40, 41, 32, 59] = .error (8, 50) := by kernel_rfl
theorem ex_a : parseS (Tr.bytesI ((⟨#[112, 114, 111, 99, 32, 112, 40, 41, 32, 123, 32, 101, 109, 105, 116, 32]⟩ ++ ⟨#[49, 32, 45, 32, 50, 32, 45, 32, 51]⟩) ++ ⟨#[59, 32, 125]⟩)) = .ok [⟨1, 0, ⟨#[]⟩, 0, [1]⟩, ⟨3, 0, ⟨#[112]⟩, 0, [2, 3]⟩, ⟨4, 7, ⟨#[]⟩, 0, []⟩, ⟨6, 9, ⟨#[]⟩, 0, [4]⟩, ⟨17, 11, ⟨#[]⟩, 0, [5]⟩, ⟨24, 16, ⟨#[]⟩, 0, [6, 9]⟩, ⟨24, 16, ⟨#[]⟩, 0, [7, 8]⟩, ⟨21, 16, ⟨#[]⟩, 1, []⟩, ⟨21, 20, ⟨#[]⟩, 2, []⟩, ⟨21, 24, ⟨#[]⟩, 3, []⟩] := by kernel_rfl
theorem ex_b : parseS (Tr.bytesI ((⟨#[112, 114, 111, 99, 32, 112, 40, 41, 32, 123, 32, 101, 109, 105, 116, 32]⟩ ++ ⟨#[45, 97, 32, 42, 32, 98]⟩) ++ ⟨#[59, 32, 125]⟩)) = .ok [⟨1, 0, ⟨#[]⟩, 0, [1]⟩, ⟨3, 0, ⟨#[112]⟩, 0, [2, 3]⟩, ⟨4, 7, ⟨#[]⟩, 0, []⟩, ⟨6, 9, ⟨#[]⟩, 0, [4]⟩, ⟨17, 11, ⟨#[]⟩, 0, [5]⟩, ⟨25, 16, ⟨#[]⟩, 0, [6, 8]⟩, ⟨26, 16, ⟨#[]⟩, 0, [7]⟩, ⟨22, 17, ⟨#[97]⟩, 0, []⟩, ⟨22, 21, ⟨#[98]⟩, 0, []⟩] := by kernel_rfl
theorem bw_below (w : World) (s : ByteArray) : Below w.heap.size w (Lib.bytesWorld w 5 s) where
  os := rfl
  tape := rfl
  output := rfl
  size := by rw [Lib.bytesWorld_size]; omega
  block := fun k hk => Lib.bytesWorld_at_old w 5 s k hk
theorem bw_src (w : World) (s : ByteArray) : Src (Lib.bytesWorld w 5 s) (some ⟨w.heap.size, 0, none⟩) s.size (grownCap w s.size 0 5) (Tr.bytesI s) := by
  refine ⟨Tr.bytesI_length s, fun i => ?_, Or.inr ⟨w.heap.size, 0, rfl, grownCap_ge w s.size 0 5, by rw [Lib.bytesWorld_size]; omega, fun i hi => ?_⟩⟩
  · by_cases hi : i < s.data.toList.length
    · have h1 : (Tr.bytesI s).getD i 0 = ((s.data.toList[i]).toNat : Int) := by simp [Tr.bytesI, List.getD]; simp at hi; simp [hi]
      rw [h1]
      have := (s.data.toList[i]).toNat_lt
      omega
    · have h1 : (Tr.bytesI s).getD i 0 = 0 := by simp only [Tr.bytesI, List.getD]; rw [List.getElem?_eq_none (by simpa using hi)]; rfl
      rw [h1]
      omega
  · rw [Nat.zero_add, Lib.bytesWorld_cell w 5 s i hi]
    have hi' : i < s.data.toList.length := by simpa using hi
    congr 2
    simp [Tr.bytesI, List.getD]
    simp at hi'
    simp [hi']
theorem tv_tail {W : World} {p : Option Addr} {len c k : Nat} {ns : List Nd} (h : Tr.TV W p len c ns) (hk : k < len) : ∃ b off, p = some ⟨b, off, none⟩ ∧ Tr.TV W (some ⟨b, off + k * 5, none⟩) (len - k) (c - k) (ns.drop k) := by
  obtain ⟨b, off, e, hlt, hn⟩ := h.node (by omega)
  refine ⟨b, off, e, ⟨by rw [List.length_drop, h.len_eq], by have := h.cap; omega, fun _ => ⟨b, off + k * 5, rfl, hlt, fun i hi => ?_⟩⟩⟩
  obtain ⟨kp, kl, kc, hnc⟩ := hn (k + i) (by omega)
  refine ⟨kp, kl, kc, ?_⟩
  rw [show off + k * 5 + i * 5 = off + (k + i) * 5 by omega, show (ns.drop k).getD i default = ns.getD (k + i) default by simp [List.getD]]
  exact hnc
set_option maxHeartbeats 4000000 in
set_option maxRecDepth 1000000 in
theorem emitted_at (w : World) (s : ByteArray) (hs : s.size ≤ 1000) (ns : List Nd) (hp : parseS (Tr.bytesI ((⟨#[112, 114, 111, 99, 32, 112, 40, 41, 32, 123, 32, 101, 109, 105, 116, 32]⟩ ++ s) ++ ⟨#[59, 32, 125]⟩)) = .ok ns) (hl : 6 ≤ ns.length) :
    Calls Tryz.prog 34 #[.string s] w fun e w' => ∃ p c, e = .returned (.slice p (ns.length - 5) c) ∧ Tr.TV w' p (ns.length - 5) c (ns.drop 5) ∧ Below w.heap.size w w' := by
  have hcv : ∀ (W : World) (s : ByteArray), (convert 9 22 (.string s)).run Tryz.prog W = .ok (.slice (some ⟨W.heap.size, 0, none⟩) s.size (grownCap W s.size 0 5)) (Lib.bytesWorld W 5 s) := fun W s => Lib.run_convert_string_bytes W 9 22 5 s Tryz.underlying9 Tryz.underlying22 Tryz.underlying5
  have hsz : ((⟨#[112, 114, 111, 99, 32, 112, 40, 41, 32, 123, 32, 101, 109, 105, 116, 32]⟩ ++ s) ++ ⟨#[59, 32, 125]⟩).size = 16 + s.size + 3 := by rw [ByteArray.size_append, ByteArray.size_append]; rfl
  have PA := parse_at (Lib.bytesWorld w 5 ((⟨#[112, 114, 111, 99, 32, 112, 40, 41, 32, 123, 32, 101, 109, 105, 116, 32]⟩ ++ s) ++ ⟨#[59, 32, 125]⟩)) (some ⟨w.heap.size, 0, none⟩) ((⟨#[112, 114, 111, 99, 32, 112, 40, 41, 32, 123, 32, 101, 109, 105, 116, 32]⟩ ++ s) ++ ⟨#[59, 32, 125]⟩).size (grownCap w ((⟨#[112, 114, 111, 99, 32, 112, 40, 41, 32, 123, 32, 101, 109, 105, 116, 32]⟩ ++ s) ++ ⟨#[59, 32, 125]⟩).size 0 5) (Tr.bytesI ((⟨#[112, 114, 111, 99, 32, 112, 40, 41, 32, 123, 32, 101, 109, 105, 116, 32]⟩ ++ s) ++ ⟨#[59, 32, 125]⟩)) (bw_src w _) (by rw [hsz]; omega)
  rw [hsz] at PA
  have PAH := Lib.hid PA
  have HP := Lib.hid hp
  clear hp PA
  go_enter Tryz.func34, Tryz.ntmps34
  go_wp2_with fail
  (with_reducible refine PAH.out.mono ?_)
  rintro e w4 ⟨hb4, hm⟩
  rw [HP.out] at hm
  obtain ⟨p, len, cap, rfl, hT⟩ := hm
  have hle := hT.len_eq
  subst hle
  obtain ⟨b, off, rfl, hT5⟩ := tv_tail hT (k := 5) (by omega)
  have hcap := hT.cap
  have hc0 : ¬ (ns.length : Int) < 6 := by omega
  have hc1 : (5 : Int) ≤ (ns.length : Int) := by omega
  have hc2 : (ns.length : Int) ≤ (cap : Int) := by omega
  have hc3 : ¬ cap = 5 := by omega
  have HT5 := Lib.hid (hT5.on (one_below w4 (.cells #[.slice (some ⟨b, off, none⟩) ns.length cap] 26)))
  have hbw := bw_below w ((⟨#[112, 114, 111, 99, 32, 112, 40, 41, 32, 123, 32, 101, 109, 105, 116, 32]⟩ ++ s) ++ ⟨#[59, 32, 125]⟩)
  have HB := Lib.hid ((hbw.trans (hb4.mono hbw.size)).trans ((one_below w4 (.cells #[.slice (some ⟨b, off, none⟩) ns.length cap] 26)).mono (hbw.trans (hb4.mono hbw.size)).size))
  clear hT hT5 hb4 PAH hbw
  go_wp2_with fail
  go_ret
  exact ⟨_, _, rfl, HT5.out, HB.out⟩
set_option maxHeartbeats 4000000 in
set_option maxRecDepth 1000000 in
theorem works_at (w : World) (hg : ET w) : Calls Tryz.prog 13 #[] w fun e w' => e = .returned (.bool true) ∧ Below w.heap.size w w' := by
  have HG := Lib.hid hg
  have HB := Lib.hid (Below.refl w.heap.size w)
  have kc := fun (w : World) (C : Array Value) (n c : Nat) => Lib.run_convert_bytes_const (P := Tryz.prog) w 22 5 C n c Tryz.underlying22 Tryz.underlying5
  clear hg
  have EA := Lib.hid (emitted_at w ⟨#[49, 32, 45, 32, 50, 32, 45, 32, 51]⟩ (by decide) _ ex_a (by decide))
  go_enter Tryz.func13, Tryz.ntmps13
  go_wp2_with fail
  (with_reducible refine EA.out.mono ?_)
  rintro e w1 ⟨pa, ca, rfl, hT, hb⟩
  clear EA
  have TA := Lib.hid hT
  have HBB := Lib.hid (hb)
  have HG := Lib.hid (HG.out.below HBB.out)
  have HB := Lib.hid (HB.out.trans (HBB.out.mono HB.out.size))
  clear HBB
  clear hT hb
  have EA := Lib.hid (emitted_at w1 ⟨#[45, 97, 32, 42, 32, 98]⟩ (by decide) _ ex_b (by decide))
  go_wp2_with fail
  (with_reducible refine EA.out.mono ?_)
  rintro e w2 ⟨pb, cb, rfl, hT, hb⟩
  clear EA
  have TB := Lib.hid hT
  have HBB := Lib.hid (hb)
  have HG := Lib.hid (HG.out.below HBB.out)
  have HB := Lib.hid (HB.out.trans (HBB.out.mono HB.out.size))
  have TA := Lib.hid (TA.out.on HBB.out)
  clear HBB
  clear hT hb
  have EA := parse_at (w2.alloc (.cells #[.int .u8 112, .int .u8 114, .int .u8 111, .int .u8 99, .int .u8 32, .int .u8 112, .int .u8 40, .int .u8 41, .int .u8 32, .int .u8 123, .int .u8 32, .int .u8 108, .int .u8 101, .int .u8 116, .int .u8 32, .int .u8 61, .int .u8 32, .int .u8 49, .int .u8 59, .int .u8 32, .int .u8 125] 5 (21, 22))) (some ⟨w2.heap.size, 0, none⟩) 21 21 _ (src_const w2 #[.int .u8 112, .int .u8 114, .int .u8 111, .int .u8 99, .int .u8 32, .int .u8 112, .int .u8 40, .int .u8 41, .int .u8 32, .int .u8 123, .int .u8 32, .int .u8 108, .int .u8 101, .int .u8 116, .int .u8 32, .int .u8 61, .int .u8 32, .int .u8 49, .int .u8 59, .int .u8 32, .int .u8 125] [112, 114, 111, 99, 32, 112, 40, 41, 32, 123, 32, 108, 101, 116, 32, 61, 32, 49, 59, 32, 125] 21 rfl rfl (by decide) 21 22) (by decide)
  have EA := Lib.hid EA
  go_wp2_with fail
  (with_reducible refine EA.out.mono ?_)
  rintro e w3 ⟨hb, hm⟩
  clear EA
  rw [ex_c] at hm
  obtain ⟨C1, l1, c1, rfl, hE⟩ := hm
  have E1 := Lib.hid (hE.on (one_below w3 (.cells #[.slice none 0 0] 26)))
  have HBB := Lib.hid (((one_below w2 (.cells #[.int .u8 112, .int .u8 114, .int .u8 111, .int .u8 99, .int .u8 32, .int .u8 112, .int .u8 40, .int .u8 41, .int .u8 32, .int .u8 123, .int .u8 32, .int .u8 108, .int .u8 101, .int .u8 116, .int .u8 32, .int .u8 61, .int .u8 32, .int .u8 49, .int .u8 59, .int .u8 32, .int .u8 125] 5 (21, 22))).trans (hb.mono (by simp))).trans ((one_below w3 (.cells #[.slice none 0 0] 26)).mono (((one_below w2 (.cells #[.int .u8 112, .int .u8 114, .int .u8 111, .int .u8 99, .int .u8 32, .int .u8 112, .int .u8 40, .int .u8 41, .int .u8 32, .int .u8 123, .int .u8 32, .int .u8 108, .int .u8 101, .int .u8 116, .int .u8 32, .int .u8 61, .int .u8 32, .int .u8 49, .int .u8 59, .int .u8 32, .int .u8 125] 5 (21, 22))).trans (hb.mono (by simp)))).size))
  have HG := Lib.hid (HG.out.below HBB.out)
  have HB := Lib.hid (HB.out.trans (HBB.out.mono HB.out.size))
  have TA := Lib.hid (TA.out.on HBB.out)
  have TB := Lib.hid (TB.out.on HBB.out)
  clear HBB
  clear hb hE
  have EA := parse_at ((w3.alloc (.cells #[.slice none 0 0] 26)).alloc (.cells #[.int .u8 116, .int .u8 97, .int .u8 98, .int .u8 108, .int .u8 101, .int .u8 32, .int .u8 116, .int .u8 40, .int .u8 41, .int .u8 32, .int .u8 59] 5 (11, 12))) (some ⟨(w3.alloc (.cells #[.slice none 0 0] 26)).heap.size, 0, none⟩) 11 11 _ (src_const (w3.alloc (.cells #[.slice none 0 0] 26)) #[.int .u8 116, .int .u8 97, .int .u8 98, .int .u8 108, .int .u8 101, .int .u8 32, .int .u8 116, .int .u8 40, .int .u8 41, .int .u8 32, .int .u8 59] [116, 97, 98, 108, 101, 32, 116, 40, 41, 32, 59] 11 rfl rfl (by decide) 11 12) (by decide)
  have hz9 : (w3.alloc (.cells #[.slice none 0 0] 26)).heap.size = w3.heap.size + 1 := by simp
  rw [hz9] at EA
  have kc2 := kc (w3.alloc (.cells #[.slice none 0 0] 26)) (#[.int .u8 116, .int .u8 97, .int .u8 98, .int .u8 108, .int .u8 101, .int .u8 32, .int .u8 116, .int .u8 40, .int .u8 41, .int .u8 32, .int .u8 59]) 11 11
  rw [hz9] at kc2
  clear hz9
  have EA := Lib.hid EA
  go_wp2_with fail
  (with_reducible refine EA.out.mono ?_)
  rintro e w4 ⟨hb, hm⟩
  clear EA
  rw [ex_d] at hm
  obtain ⟨C2, l2, c2, rfl, hE⟩ := hm
  have E2 := Lib.hid (hE.on (one_below w4 (.cells #[.slice none 0 0] 26)))
  have HBB := Lib.hid (((one_below (w3.alloc (.cells #[.slice none 0 0] 26)) (.cells #[.int .u8 116, .int .u8 97, .int .u8 98, .int .u8 108, .int .u8 101, .int .u8 32, .int .u8 116, .int .u8 40, .int .u8 41, .int .u8 32, .int .u8 59] 5 (11, 12))).trans (hb.mono (by simp))).trans ((one_below w4 (.cells #[.slice none 0 0] 26)).mono (((one_below (w3.alloc (.cells #[.slice none 0 0] 26)) (.cells #[.int .u8 116, .int .u8 97, .int .u8 98, .int .u8 108, .int .u8 101, .int .u8 32, .int .u8 116, .int .u8 40, .int .u8 41, .int .u8 32, .int .u8 59] 5 (11, 12))).trans (hb.mono (by simp)))).size))
  have HG := Lib.hid (HG.out.below HBB.out)
  have HB := Lib.hid (HB.out.trans (HBB.out.mono HB.out.size))
  have TA := Lib.hid (TA.out.on HBB.out)
  have TB := Lib.hid (TB.out.on HBB.out)
  have E1 := Lib.hid (E1.out.on HBB.out)
  clear HBB
  clear hb hE
  have EA := Lib.hid (place_err HG.out E1.out)
  go_wp2_with fail
  (with_reducible refine EA.out.mono ?_)
  rintro e w5 ⟨rfl, hb⟩
  clear EA
  have HBB := Lib.hid (hb)
  have HG := Lib.hid (HG.out.below HBB.out)
  have HB := Lib.hid (HB.out.trans (HBB.out.mono HB.out.size))
  have TA := Lib.hid (TA.out.on HBB.out)
  have TB := Lib.hid (TB.out.on HBB.out)
  have E1 := Lib.hid (E1.out.on HBB.out)
  have E2 := Lib.hid (E2.out.on HBB.out)
  clear HBB
  clear hb
  have EA := Lib.hid (place_err HG.out E2.out)
  go_wp2_with fail
  (with_reducible refine EA.out.mono ?_)
  rintro e w6 ⟨rfl, hb⟩
  clear EA
  have HBB := Lib.hid (hb)
  have HG := Lib.hid (HG.out.below HBB.out)
  have HB := Lib.hid (HB.out.trans (HBB.out.mono HB.out.size))
  have TA := Lib.hid (TA.out.on HBB.out)
  have TB := Lib.hid (TB.out.on HBB.out)
  have E1 := Lib.hid (E1.out.on HBB.out)
  have E2 := Lib.hid (E2.out.on HBB.out)
  clear HBB
  clear hb
  obtain ⟨ba, oa, rfl, _, hn⟩ := TA.out.node (by decide)
  obtain ⟨_, _, _, hnc⟩ := hn 0 (by decide)
  have qa0kind : w6.cell? ⟨ba, oa, none⟩ = some (.int .u8 24) := hnc.kind
  clear hnc
  obtain ⟨_, _, _, hnc⟩ := hn 1 (by decide)
  have qa1kind : w6.cell? ⟨ba, oa + 5, none⟩ = some (.int .u8 24) := hnc.kind
  clear hnc
  obtain ⟨_, _, _, hnc⟩ := hn 2 (by decide)
  have qa2n : w6.cell? ⟨ba, oa + 13, none⟩ = some (.int .i64 1) := hnc.n
  clear hnc
  obtain ⟨_, _, _, hnc⟩ := hn 4 (by decide)
  have qa4n : w6.cell? ⟨ba, oa + 23, none⟩ = some (.int .i64 3) := hnc.n
  clear hnc
  clear hn
  obtain ⟨bb, ob, rfl, _, hn⟩ := TB.out.node (by decide)
  obtain ⟨_, _, _, hnc⟩ := hn 0 (by decide)
  have qb0kind : w6.cell? ⟨bb, ob, none⟩ = some (.int .u8 25) := hnc.kind
  clear hnc
  obtain ⟨_, _, _, hnc⟩ := hn 1 (by decide)
  have qb1kind : w6.cell? ⟨bb, ob + 5, none⟩ = some (.int .u8 26) := hnc.kind
  clear hnc
  obtain ⟨_, _, _, hnc⟩ := hn 3 (by decide)
  have qb3text : w6.cell? ⟨bb, ob + 17, none⟩ = some (.string ⟨#[98]⟩) := hnc.text
  clear hnc
  clear hn
  have EA := Lib.hid (code_err HG.out E1.out)
  go_wp2_with fail
  (with_reducible refine EA.out.mono ?_)
  rintro e w7 ⟨rfl, hb⟩
  clear EA
  have HBB := Lib.hid (hb)
  have HG := Lib.hid (HG.out.below HBB.out)
  have HB := Lib.hid (HB.out.trans (HBB.out.mono HB.out.size))
  have TA := Lib.hid (TA.out.on HBB.out)
  have TB := Lib.hid (TB.out.on HBB.out)
  have E1 := Lib.hid (E1.out.on HBB.out)
  have E2 := Lib.hid (E2.out.on HBB.out)
  clear HBB
  clear hb
  have EA := Lib.hid (code_err HG.out E2.out)
  go_wp2_with fail
  (with_reducible refine EA.out.mono ?_)
  rintro e w8 ⟨rfl, hb⟩
  clear EA
  have HBB := Lib.hid (hb)
  have HG := Lib.hid (HG.out.below HBB.out)
  have HB := Lib.hid (HB.out.trans (HBB.out.mono HB.out.size))
  have TA := Lib.hid (TA.out.on HBB.out)
  have TB := Lib.hid (TB.out.on HBB.out)
  have E1 := Lib.hid (E1.out.on HBB.out)
  have E2 := Lib.hid (E2.out.on HBB.out)
  clear HBB
  clear hb
  go_wp2_with fail
  go_ret
  exact ⟨rfl, HB.out⟩
end Go.Proofs.YtpemghcafbedeaaGreatDoor
end
