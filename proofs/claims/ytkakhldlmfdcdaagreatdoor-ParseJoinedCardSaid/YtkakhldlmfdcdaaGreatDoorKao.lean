/- Contracts on the way to the laws of layer 5: ParseFs, ParseFt, ParseFu, ParseLb, ParseLc. -/
import Derived.Test.YtkakhldlmfdcdaaGreatDoorKad
import Derived.Test.YtkakhldlmfdcdaaGreatDoorKah
import Derived.Test.YtkakhldlmfdcdaaGreatDoorKak
import Derived.Test.YtkakhldlmfdcdaaGreatDoorKan
import Derived.Recover
import Derived.Defers
import Derived.Lib.ConvBytes
import Derived.Lib.AppendStr
import Derived.Deep.AppendLies
section
namespace Go.Proofs.YtkakhldlmfdcdaaGreatDoor
open Go.RowKit
set_option maxHeartbeats 4000000 in
set_option maxRecDepth 1000000 in
theorem rec_idle (p q r : Addr) (w : World) :
    CallsD Tryz.prog 20 #[.pointer (some p), .pointer (some q), .pointer (some r)] .returning w fun e u' w' => e = .returned (.tuple #[]) ∧ u' = .returning ∧ w' = w := by
  refine callsD_of_wpS Tryz.func20 rfl fun c₀ cs hu => ?_
  apply wpS_seq
  apply wpS_region
  simp [wpOpsS, go_sem, recoverD, hu, Tryz.ntmps20, Exit.thenS]
  refine wpS_of_wp ?_
  simp only [Array.replicate_succ, Array.replicate_zero, List.push_toArray, List.append_toArray, List.nil_append, List.cons_append, List.setIfInBounds_toArray, List.set_cons_zero, List.set_cons_succ]
  go_wp2_with fail
  cases c₀
  simp_all [bodyPostS, results, Tryz.results20]
theorem is_wrong (v : Value) (w : World) : (Instr.typeAssert (.iface 56 v) 20 56 true).run Tryz.prog w = .ok (.tuple #[v, .bool true]) w := by
  simp [Instr.typeAssert, Sem.run_bind, run_underlying Tryz.underlying56, Result.andThen]
set_option maxHeartbeats 4000000 in
set_option maxRecDepth 1000000 in
theorem rec_wrong (B : Nat) (bs bt be : Nat) (sp : Option Addr) (len c : Nat) (xs : List Int) (k : Nat) (code : Int) (vt ve : Value) (w : World) (hs : w.cell? ⟨bs, 0, none⟩ = some (.slice sp len c)) (hsrc : Src w sp len c xs) (hlen : len ≤ 65536) (hk : k ≤ len) (hc : code ≠ 0)
    (ht : Boxed w bt 26 vt) (he : Boxed w be 28 ve) (hte : bt ≠ be) (hB1 : B ≤ bt) (hB2 : B ≤ be) :
    CallsD Tryz.prog 20 #[.pointer (some ⟨bs, 0, none⟩), .pointer (some ⟨bt, 0, none⟩), .pointer (some ⟨be, 0, none⟩)] (.panicking [{ v := .iface 56 (.agg #[.int .i64 (k : Int), .int .i64 code]), recovered := false }]) w fun e u' w' =>
      e = .returned (.tuple #[]) ∧ u' = .panicking [{ v := .iface 56 (.agg #[.int .i64 (k : Int), .int .i64 code]), recovered := true }] ∧ ∃ C l cc, Boxed w' bt 26 (.slice none 0 0) ∧ Boxed w' be 28 (.iface 74 (.pointer (some ⟨C, 0, none⟩))) ∧ ErrAt w' C (k : Int) l cc code ∧ Below B w w' := by
  have hta := is_wrong
  have hs2 : (w.alloc (.cells #[.int .i64 (k : Int), .int .i64 code] 56)).cell? ⟨bs, 0, none⟩ = some (.slice sp len c) := (World.cell?_alloc_lt _ _ ⟨bs, 0, none⟩ (cell_lt hs)).trans hs
  have htc := ht.cell
  have htz := ht.frozen
  have hec := he.cell
  have hez := he.frozen
  have htl := ht.lt
  have hel := he.lt
  have hBw : B ≤ w.heap.size := by omega
  have NW := Lib.hid (new_src sp len c k xs (k : Int) code (w.alloc (.cells #[.int .i64 (k : Int), .int .i64 code] 56)) hc (by omega) (by omega) (hsrc.below ((Below.refl _ _).alloc (Nat.le_refl _) _)))
  have HT := Lib.hid ht
  have HE := Lib.hid he
  clear ht he hsrc
  refine callsD_of_wpS Tryz.func20 rfl fun c₀ cs hu => ?_
  apply wpS_seq
  apply wpS_region
  simp [wpOpsS, go_sem, recoverD, hu, Tryz.ntmps20, Exit.thenS]
  refine wpS_of_wp ?_
  simp only [Array.replicate_succ, Array.replicate_zero, List.push_toArray, List.append_toArray, List.nil_append, List.cons_append, List.setIfInBounds_toArray, List.set_cons_zero, List.set_cons_succ]
  go_wp2_with fail
  (with_reducible refine NW.out.mono ?_)
  rintro e w' ⟨rfl, hN⟩
  have hb := hN.below
  have hal : Below w.heap.size w (w.alloc (.cells #[.int .i64 (k : Int), .int .i64 code] 56)) := (Below.refl _ _).alloc (Nat.le_refl _) _
  have hbb : Below w.heap.size w w' := hal.trans (hb.mono hal.size)
  have bt1 : Boxed w' bt 26 vt := (hbb.block bt htl).trans HT.out
  have be1 : Boxed w' be 28 ve := (hbb.block be hel).trans HE.out
  have d1 := bt1.cell
  have d2 := bt1.frozen
  have d3 := be1.cell
  have d4 := be1.frozen
  have hne1 : ¬ bt = be := hte
  have hne2 : ¬ be = bt := fun e => hte e.symm
  have HN := Lib.hid hN
  have bt2 := bt1.set (.slice none 0 0)
  have be2 := (be1.kept (grownBy_set w' ⟨bt, 0, none⟩ (.slice none 0 0)) (fun e => hne2 (Option.some.inj e))).set (.iface 74 (.pointer (some ⟨(w.alloc (.cells #[.int .i64 (k : Int), .int .i64 code] 56)).heap.size + 1, 0, none⟩)))
  have bt3 := bt2.kept (grownBy_set (w'.setCell ⟨bt, 0, none⟩ (.slice none 0 0)) ⟨be, 0, none⟩ (.iface 74 (.pointer (some ⟨(w.alloc (.cells #[.int .i64 (k : Int), .int .i64 code] 56)).heap.size + 1, 0, none⟩)))) (fun e => hne1 (Option.some.inj e))
  have hEA : ErrAt ((w'.setCell ⟨bt, 0, none⟩ (.slice none 0 0)).setCell ⟨be, 0, none⟩ (.iface 74 (.pointer (some ⟨(w.alloc (.cells #[.int .i64 (k : Int), .int .i64 code] 56)).heap.size + 1, 0, none⟩)))) ((w.alloc (.cells #[.int .i64 (k : Int), .int .i64 code] 56)).heap.size + 1) (k : Int) (lineF xs k) ((k : Int) - lastF xs k) code := by
    have h1 := hN.at_
    have hq : ∀ i, ((w'.setCell ⟨bt, 0, none⟩ (.slice none 0 0)).setCell ⟨be, 0, none⟩ (.iface 74 (.pointer (some ⟨(w.alloc (.cells #[.int .i64 (k : Int), .int .i64 code] 56)).heap.size + 1, 0, none⟩)))).cell? ⟨(w.alloc (.cells #[.int .i64 (k : Int), .int .i64 code] 56)).heap.size + 1, i, none⟩ = w'.cell? ⟨(w.alloc (.cells #[.int .i64 (k : Int), .int .i64 code] 56)).heap.size + 1, i, none⟩ := fun i => by
      rw [World.cell?_setCell_other _ _ _ _ (by first | (simp; done) | (simp; omega)), World.cell?_setCell_other _ _ _ _ (by first | (simp; done) | (simp; omega))]
    exact ⟨by have := h1.lt; simpa [World.setCell] using this, by rw [hq]; exact h1.c0, by rw [hq]; exact h1.c1, by rw [hq]; exact h1.c2, by rw [hq]; exact h1.c3⟩
  have HEA := Lib.hid hEA
  have BT3 := Lib.hid bt3
  have BE2 := Lib.hid be2
  have hfb : Below B w ((w'.setCell ⟨bt, 0, none⟩ (.slice none 0 0)).setCell ⟨be, 0, none⟩ (.iface 74 (.pointer (some ⟨(w.alloc (.cells #[.int .i64 (k : Int), .int .i64 code] 56)).heap.size + 1, 0, none⟩)))) := ((hbb.mono hBw).setCell (p := ⟨bt, 0, none⟩) hB1 _).setCell (p := ⟨be, 0, none⟩) hB2 _
  clear hN bt1 be1 bt2 be2 bt3 hEA NW
  go_wp2_with fail
  have hsz : (w.alloc (.cells #[.int .i64 (k : Int), .int .i64 code] 56)).heap.size = w.heap.size + 1 := by simp
  have h1 := BT3.out
  have h2 := BE2.out
  have h3 := HEA.out
  rw [hsz] at h1 h2 h3 hfb
  exact ⟨rfl, _, rfl, .tuple #[], by simp [results, Tryz.results20, Tryz.f20, go_sem], rfl, rfl, h1, _, h2, ⟨_, _, h3⟩, hfb⟩
end Go.Proofs.YtkakhldlmfdcdaaGreatDoor
end
section
namespace Go.Proofs.YtkakhldlmfdcdaaGreatDoor
open Go.RowKit
/-- What Parse answers. -/
def ParsePost (xs : List Int) (w : World) (e : Ending) (w' : World) : Prop := Below w.heap.size w w' ∧ match parseS xs with
  | .error (i, er) => ∃ C l cc, e = .returned (.tuple #[.agg #[.slice none 0 0], .iface 74 (.pointer (some ⟨C, 0, none⟩))]) ∧ ErrAt w' C (i : Int) l cc er
  | .ok ns => ∃ p len cap, e = .returned (.tuple #[.agg #[.slice p len cap], .nilIface]) ∧ Tr.TV w' p len cap ns
abbrev W3 (w : World) (p : Option Addr) (len c : Nat) : World := ((w.alloc (.cells #[.slice p len c] 22)).alloc (.cells #[.slice none 0 0] 26)).alloc (.cells #[.nilIface] 28)
theorem W3_below (w : World) (p : Option Addr) (len c : Nat) : Below w.heap.size w (W3 w p len c) := (((Below.refl _ _).alloc (Nat.le_refl _) _).alloc (by simp) _).alloc (by simp; omega) _
theorem W3_size (w : World) (p : Option Addr) (len c : Nat) : (W3 w p len c).heap.size = w.heap.size + 1 + 1 + 1 := by simp [W3]
theorem W3_boxes (w : World) (p : Option Addr) (len c : Nat) : Boxed (W3 w p len c) w.heap.size 22 (.slice p len c) ∧ Boxed (W3 w p len c) (w.heap.size + 1) 26 (.slice none 0 0) ∧ Boxed (W3 w p len c) (w.heap.size + 1 + 1) 28 .nilIface := by
  refine ⟨((Boxed.new w _ _).alloc _).alloc _, ?_, ?_⟩
  · have h := (Boxed.new (w.alloc (.cells #[.slice p len c] 22)) 26 (.slice none 0 0)).alloc (.cells #[.nilIface] 28)
    rw [World.size_alloc] at h
    exact h
  · have h := Boxed.new ((w.alloc (.cells #[.slice p len c] 22)).alloc (.cells #[.slice none 0 0] 26)) 28 .nilIface
    simp only [World.size_alloc] at h
    exact h
theorem ErrAt.ne {W : World} {C q T : Nat} {u : Value} {x l c n : Int} (h : ErrAt W C x l c n) (hb : Boxed W q T u) : C ≠ q := fun e => by
  have h1 := h.c1
  have h2 : W.heap[q]? = some (.cells #[u] T (0, 0)) := hb
  rw [e, cell_of_row _ _ _ _ _ _ h2] at h1
  simp at h1
theorem ErrAt.put {W : World} {C q : Nat} {u : Value} {x l c n : Int} (h : ErrAt W C x l c n) (hne : C ≠ q) : ErrAt (W.setCell ⟨q, 0, none⟩ u) C x l c n := by
  have hq : ∀ i, (W.setCell ⟨q, 0, none⟩ u).cell? ⟨C, i, none⟩ = W.cell? ⟨C, i, none⟩ := fun i => World.cell?_of_block (w := W) (Below.heap_setCell _ _ _ _ hne)
  exact ⟨by have := h.lt; simpa [World.setCell] using this, by rw [hq]; exact h.c0, by rw [hq]; exact h.c1, by rw [hq]; exact h.c2, by rw [hq]; exact h.c3⟩
set_option maxHeartbeats 4000000 in
set_option maxRecDepth 1000000 in
theorem parse_lex (w : World) (p : Option Addr) (len c : Nat) (xs : List Int) (h : Src w p len c xs) (hb : len ≤ 65536) (i : Nat) (er : Int) (hx : lexS xs = .error (i, er)) :
    Calls Tryz.prog 9 #[.slice p len c] w (ParsePost xs w) := by
  have LN := Lib.hid (lex_no (h.below (W3_below w p len c)) hb hx)
  have HX : Hid (parseS xs = .error (i, er)) := Lib.hid (by simp only [parseS, hx])
  obtain ⟨b1, b2, b3⟩ := W3_boxes w p len c
  have B1 := Lib.hid b1
  have B2 := Lib.hid b2
  have B3 := Lib.hid b3
  have hsz := W3_size w p len c
  have HSZ := Lib.hid hsz
  clear h hx b1 b2 b3 hsz
  go_enter_defers Tryz.func9, Tryz.ntmps9
  go_wp2_with fail
  (with_reducible refine LN.out.mono ?_)
  rintro e w4 ⟨C, l, cc, rfl, hE, hb4⟩
  have c1 : Boxed w4 w.heap.size 22 (.slice p len c) := (hb4.block _ B1.out.lt).trans B1.out
  have c2 : Boxed w4 (w.heap.size + 1) 26 (.slice none 0 0) := (hb4.block _ B2.out.lt).trans B2.out
  have c3 : Boxed w4 (w.heap.size + 1 + 1) 28 .nilIface := (hb4.block _ B3.out.lt).trans B3.out
  have d2 := c2.cell
  have z2 := c2.frozen
  have d3 := c3.cell
  have z3 := c3.frozen
  have hn2 := hE.ne c2
  have hn3 := hE.ne c3
  have hF := ((hE.put (u := .iface 74 (.pointer (some ⟨C, 0, none⟩))) hn3).put (u := .slice none 0 0) hn2).put (u := .iface 74 (.pointer (some ⟨C, 0, none⟩))) hn3
  have HF := Lib.hid hF
  have hfb : Below w.heap.size w (((w4.setCell ⟨w.heap.size + 1 + 1, 0, none⟩ (.iface 74 (.pointer (some ⟨C, 0, none⟩)))).setCell ⟨w.heap.size + 1, 0, none⟩ (.slice none 0 0)).setCell ⟨w.heap.size + 1 + 1, 0, none⟩ (.iface 74 (.pointer (some ⟨C, 0, none⟩)))) :=
    ((((W3_below w p len c).trans (hb4.mono (W3_below w p len c).size)).setCell (p := ⟨w.heap.size + 1 + 1, 0, none⟩) (by simp only; omega) _).setCell (p := ⟨w.heap.size + 1, 0, none⟩) (by simp only; omega) _).setCell (p := ⟨w.heap.size + 1 + 1, 0, none⟩) (by simp only; omega) _
  have HFB := Lib.hid hfb
  clear hF hfb
  clear hE hb4 c1 c2 c3 LN
  go_wp2_with fail
  go_region
  all_goals go_wp2_with fail
  all_goals simp [bodyPostD, Leaves, results, Tryz.results9, go_sem, d2, d3]
  all_goals
    refine ⟨HFB.out.drew, ?_⟩
    rw [HX.out]
    exact ⟨C, l, cc, rfl, ⟨HF.out.lt, HF.out.c0, HF.out.c1, HF.out.c2, HF.out.c3⟩⟩
theorem PS.begin (w4 w5 : World) (g cap : Nat) (ts : List Tok) (rb b : Nat) (xs : List Int) (hT : TR w4 g cap ts) (hg5 : w5.heap[g]? = w4.heap[g]?) (hs5 : w5.heap.size = w4.heap.size) (hrb : rb = w4.heap.size) (hbb : b = rb + 1) (hx : lexS xs = .ok ts) (hb : xs.length ≤ 65536) :
    PS { W := w5.alloc (.map ES13 13), b := b, g := g, cap := cap, toks := ts, mp := .map (some rb) } (.slice none 0 0) [] [] 64 (ts.map ptOf) ((w5.alloc (.map ES13 13)).alloc (.cells #[.slice (some ⟨g, 0, none⟩) ts.length cap, .int .i64 0, .int .i64 0, .map (some rb), .slice none 0 0] 61)) ∧ MapAt { W := w5.alloc (.map ES13 13), b := b, g := g, cap := cap, toks := ts, mp := .map (some rb) } := by
  obtain ⟨vs, hts, hvs⟩ := lexS_shape hx
  have hlen := lexN_len _ _ _ _ hx
  have hbs : b = (w5.alloc (.map ES13 13)).heap.size := by simp; omega
  have hgl := hT.lt
  refine ⟨{ below := ?_, lt := ?_, gl := by simp only; omega, cap := hT.le, tok := ?_, nx := ?_, r64 := Nat.le_refl _, ended := ?_, few := ?_, room := ?_, klen := rfl, own := World.ownsRow_nil _ _ _ _, kids := fun j hj => by simp at hj, apart := fun x hx => by simp at hx, pair := List.Pairwise.nil }, ⟨rb, rfl, by simp only; omega, ?_⟩⟩
  · simp only
    rw [hbs]
    exact (Below.refl _ _).alloc (Nat.le_refl _) _
  · simp only
    rw [hbs]
    simp
  · intro j i u hj hi
    have h5 : i < 5 := by have := (List.getElem?_eq_some_iff.1 hi).1; simpa [tokC5] using this
    have h1 : ts[j]? = some (ts.getD j (Tok.endAt 0)) := by simp only at hj; simp [List.getD, hj]
    have h2 := hT.cell (j * 5 + i) u (by rw [tok_cell ts j i _ h1 h5]; exact hi)
    simp only
    rw [World.cell?_of_block (w := w4) (a := ⟨g, j * 5 + i, none⟩) ?_]
    · exact h2
    · rw [Below.heap_alloc _ _ _ (by simp; omega), Below.heap_alloc _ _ _ (by simp only; omega)]
      exact hg5
  · refine ⟨0, rfl, ?_⟩
    simp only
    rw [hbs, World.alloc_heap_new]
    rfl
  · rw [hts, List.map_append]
    exact ended_snoc _ _ (end_pt _)
  · simp only; omega
  · simp only [List.length_nil, List.length_map]; omega
  · simp only
    rw [hrb, ← hs5]
    exact World.alloc_heap_new w5 _
set_option maxHeartbeats 4000000 in
set_option maxRecDepth 1000000 in
theorem parse_run (w : World) (p : Option Addr) (len c : Nat) (xs : List Int) (h : Src w p len c xs) (hb : len ≤ 65536) (ts : List Tok) (hx : lexS xs = .ok ts) :
    Calls Tryz.prog 9 #[.slice p len c] w (ParsePost xs w) := by
  have hmf : ∀ (fn : Fn) (first cap : Array Value) (w : World), (Instr.makeFunc fn first cap).run Tryz.prog w = .ok (.func fn first cap) w := fun _ _ _ _ => rfl
  have LK := Lib.hid (lex_ok (h.below (W3_below w p len c)) hb hx)
  have HXS := Lib.hid hx
  have HS := Lib.hid h
  have hlx : Hid (xs.length = len) := Lib.hid h.1
  obtain ⟨b1, b2, b3⟩ := W3_boxes w p len c
  have B1 := Lib.hid b1
  have B2 := Lib.hid b2
  have B3 := Lib.hid b3
  have HSZ := Lib.hid (W3_size w p len c)
  clear h hx b1 b2 b3
  go_enter_defers Tryz.func9, Tryz.ntmps9
  go_wp2_with fail
  (with_reducible refine LK.out.mono ?_)
  rintro e w4 ⟨g, cap, rfl, hT, hg, hb4⟩
  have c1 : Boxed w4 w.heap.size 22 (.slice p len c) := (hb4.block _ B1.out.lt).trans B1.out
  have c2 : Boxed w4 (w.heap.size + 1) 26 (.slice none 0 0) := (hb4.block _ B2.out.lt).trans B2.out
  have c3 : Boxed w4 (w.heap.size + 1 + 1) 28 .nilIface := (hb4.block _ B3.out.lt).trans B3.out
  have d3 := c3.cell
  have z3 := c3.frozen
  have HB4 := Lib.hid hb4
  have HT := Lib.hid hT
  have HG := Lib.hid hg
  have hn1 : ¬ w.heap.size = w.heap.size + 1 + 1 := by omega
  have C1 := Lib.hid (c1.kept (grownBy_set w4 ⟨w.heap.size + 1 + 1, 0, none⟩ .nilIface) (fun e => by have e := Option.some.inj e; simp only at e; omega))
  have C2 := Lib.hid (c2.kept (grownBy_set w4 ⟨w.heap.size + 1 + 1, 0, none⟩ .nilIface) (fun e => by have e := Option.some.inj e; simp only at e; omega))
  have C3 := Lib.hid (c3.set .nilIface)
  have ST := Lib.hid (statements_at (w4.setCell ⟨w.heap.size + 1 + 1, 0, none⟩ .nilIface))
  have hP := PS.begin w4 (w4.setCell ⟨w.heap.size + 1 + 1, 0, none⟩ .nilIface) g cap ts w4.heap.size (w4.heap.size + 1) xs hT (Below.heap_setCell _ _ _ _ (by have := HSZ.out; simp only; omega)) (by simp [World.setCell]) rfl rfl HXS.out (by have := hlx.out; omega)
  have HP := Lib.hid hP.1
  have HM := Lib.hid hP.2
  clear hT hg hb4 c1 c2 c3 LK hP
  go_wp2_with fail
  (with_reducible refine ST.out.mono ?_)
  rintro e w6 ⟨rfl, rfl⟩
  clear d3 z3 ST
  have hsz5 : (w4.setCell ⟨w.heap.size + 1 + 1, 0, none⟩ .nilIface).heap.size = w4.heap.size := by simp [World.setCell]
  go_wp2_with fail
  obtain ⟨E, hE⟩ : ∃ E : Env, E = { W := (w4.setCell ⟨w.heap.size + 1 + 1, 0, none⟩ .nilIface).alloc (.map ES13 13), b := w4.heap.size + 1, g := g, cap := cap, toks := ts, mp := .map (some w4.heap.size) } := ⟨_, rfl⟩
  rw [← hE] at HP HM
  have hEb : E.b = w4.heap.size + 1 := by rw [hE]
  have hEW : E.W = (w4.setCell ⟨w.heap.size + 1 + 1, 0, none⟩ .nilIface).alloc (.map ES13 13) := by rw [hE]
  have hptl : (ts.map ptOf).length ≤ 65537 := by have h1 := lexN_len _ _ _ _ HXS.out; have h2 := hlx.out; rw [List.length_map]; omega
  have PG := Lib.hid (program_at HP.out HM.out (by simp only [List.length_nil]; omega))
  rw [hEb] at PG
  have HEB := Lib.hid hEb
  have HEW := Lib.hid hEW
  have hs4 : w.heap.size + 1 + 1 + 1 ≤ w4.heap.size := by have h1 := HB4.out.size; have h2 := HSZ.out; omega
  have HSB : Hid (Below w.heap.size w E.W) := Lib.hid (by
    rw [HEW.out]
    exact (((W3_below w p len c).trans (HB4.out.mono (W3_below w p len c).size)).setCell (p := ⟨w.heap.size + 1 + 1, 0, none⟩) (by simp only; omega) _).alloc (by rw [hsz5]; omega) _)
  have HWS : Hid (E.W.heap.size = w4.heap.size + 1) := Lib.hid (by rw [HEW.out]; simp)
  have K1 := Lib.hid (show Boxed E.W w.heap.size 22 (.slice p len c) by rw [HEW.out]; exact C1.out.alloc _)
  have K2 := Lib.hid (show Boxed E.W (w.heap.size + 1) 26 (.slice none 0 0) by rw [HEW.out]; exact C2.out.alloc _)
  have K3 := Lib.hid (show Boxed E.W (w.heap.size + 1 + 1) 28 .nilIface by rw [HEW.out]; exact C3.out.alloc _)
  clear hE hEb hEW HP HM hsz5 C1 C2 C3 HT HG HB4
  (with_reducible refine PG.out.mono ?_)
  rintro e w8 hP8
  cases hp : programP (ts.map ptOf) with
  | err q d =>
    rw [hp] at hP8
    obtain ⟨rfl, hb8⟩ := hP8
    have HR : Hid (parseS xs = .error (q, d)) := Lib.hid (by simp only [parseS, HXS.out, hp])
    obtain ⟨hd0, hq0⟩ := ce_program.er _ _ _ hp
    have hql : q ≤ len := by
      rcases hq0 with rfl | ⟨t, ht, rfl⟩
      · exact Nat.zero_le _
      · obtain ⟨vs, hts, hvs⟩ := lexS_shape HXS.out
        rw [hts, List.map_append, List.mem_append] at ht
        rcases ht with ht | ht
        · obtain ⟨u, hu, rfl⟩ := List.mem_map.1 ht
          have h1 := (hvs u hu).2
          have h2 := hlx.out
          show u.at' ≤ len
          omega
        · simp only [List.map_cons, List.map_nil, List.mem_singleton] at ht
          subst ht
          have h2 := hlx.out
          show xs.length ≤ len
          omega
    rw [HEB.out] at hb8
    have hb8w : Below w.heap.size w w8 := HSB.out.trans (hb8.mono (by omega))
    have k1 : Boxed w8 w.heap.size 22 (.slice p len c) := (hb8.block _ (by omega)).trans K1.out
    have k2 : Boxed w8 (w.heap.size + 1) 26 (.slice none 0 0) := (hb8.block _ (by omega)).trans K2.out
    have k3 : Boxed w8 (w.heap.size + 1 + 1) 28 .nilIface := (hb8.block _ (by omega)).trans K3.out
    have RW := Lib.hid (rec_wrong w.heap.size w.heap.size (w.heap.size + 1) (w.heap.size + 1 + 1) p len c xs q d _ _ w8 k1.cell (HS.out.below hb8w) hb hql hd0 k2 k3 (by omega) (by omega) (by omega))
    have HB8 := Lib.hid hb8w
    clear hb8 hb8w k1 k2 k3 hp
    go_wp2_with fail
    refine leaves_cons (f := 20) (args := #[.pointer (some ⟨w.heap.size, 0, none⟩), .pointer (some ⟨w.heap.size + 1, 0, none⟩), .pointer (some ⟨w.heap.size + 1 + 1, 0, none⟩)]) (by simp) (by simp [go_sem]) ?_
    refine RW.out.mono ?_
    rintro e u' w9 ⟨rfl, rfl, C, l, cc, r2, r3, hEA, hb9⟩
    have d2 := r2.cell
    have d3 := r3.cell
    have hfin : Hid (ParsePost xs w (.returned (.tuple #[.agg #[.slice none 0 0], .iface 74 (.pointer (some ⟨C, 0, none⟩))])) w9) := Lib.hid (by
      refine ⟨HB8.out.trans hb9, ?_⟩
      rw [HR.out]
      exact ⟨C, l, cc, rfl, hEA⟩)
    clear r2 r3 hEA hb9
    simp [Leaves, settle, results, Tryz.results9, go_sem, d2, d3]
    exact hfin.out
  | ok a l1 =>
    rw [hp] at hP8
    obtain ⟨v', new, rfl, hps, hnw, hfr⟩ := hP8
    have HR : Hid (parseS xs = .ok (flat 0 a)) := Lib.hid (by simp only [parseS, HXS.out, hp])
    obtain ⟨_, _, _, _, _, _, c4⟩ := hps.cells
    have hmade : Made (E.b + 1) w8 v' new (post 0 a) := {
      base := hps.lt
      own := by simpa using hps.own
      klen := by simpa using hps.klen
      kids := fun j hj => by simpa using hps.kids j (by simpa using hj)
      apart := by simpa using hps.apart
      pair := by simpa using hps.pair
      few := by have := hps.room; simp at this; omega }
    have FL := flat_at (E.b + 1) v' new a w8 hmade
    have hroot : rootI ([] : List Nd).length a = (a.size : Int) - 1 := by simp [rootI]
    have hb8 := hps.below
    rw [HEB.out] at hb8 FL c4
    have hlt8 := hps.lt
    rw [HEB.out] at hlt8
    have hb8w : Below w.heap.size w w8 := HSB.out.trans (hb8.mono (by omega))
    have k2 : Boxed w8 (w.heap.size + 1) 26 (.slice none 0 0) := (hb8.block _ (by omega)).trans K2.out
    have k3 : Boxed w8 (w.heap.size + 1 + 1) 28 .nilIface := (hb8.block _ (by omega)).trans K3.out
    have FLH := Lib.hid FL
    have KK2 := Lib.hid k2
    have KK3 := Lib.hid k3
    have HB8 := Lib.hid hb8w
    have hr2 : (.int .i64 (rootI ([] : List Nd).length a) : Value) = .int .i64 ((a.size : Int) - 1) := by rw [hroot]
    rw [hr2]
    clear hps hnw hfr hmade FL hroot hb8 hb8w k2 k3 hp hr2
    go_wp2_with fail
    (with_reducible refine FLH.out.mono ?_)
    rintro e w9 ⟨p9, l9, c9, rfl, hTV, hb9⟩
    have k2 : Boxed w9 (w.heap.size + 1) 26 (.slice none 0 0) := (hb9.block _ (by omega)).trans KK2.out
    have k3 : Boxed w9 (w.heap.size + 1 + 1) 28 .nilIface := (hb9.block _ (by omega)).trans KK3.out
    have d2 := k2.cell
    have z2 := k2.frozen
    have d3 := k3.cell
    have z3 := k3.frozen
    have hfin : Hid (ParsePost xs w (.returned (.tuple #[.agg #[.slice p9 l9 c9], .nilIface])) ((w9.setCell ⟨w.heap.size + 1, 0, none⟩ (.slice p9 l9 c9)).setCell ⟨w.heap.size + 1 + 1, 0, none⟩ .nilIface)) := Lib.hid (by
      refine ⟨((HB8.out.trans (hb9.mono (by omega))).setCell (p := ⟨w.heap.size + 1, 0, none⟩) (by simp only; omega) _).setCell (p := ⟨w.heap.size + 1 + 1, 0, none⟩) (by simp only; omega) _, ?_⟩
      rw [HR.out]
      exact ⟨p9, l9, c9, rfl, hTV _ (fun k hk => by rw [Below.heap_setCell _ _ _ _ (by simp only; omega), Below.heap_setCell _ _ _ _ (by simp only; omega)])⟩)
    have RI := Lib.hid (rec_idle ⟨w.heap.size, 0, none⟩ ⟨w.heap.size + 1, 0, none⟩ ⟨w.heap.size + 1 + 1, 0, none⟩ ((w9.setCell ⟨w.heap.size + 1, 0, none⟩ (.slice p9 l9 c9)).setCell ⟨w.heap.size + 1 + 1, 0, none⟩ .nilIface))
    clear k2 k3 hTV hb9 FLH
    go_wp2_with fail
    refine leaves_cons (f := 20) (args := #[.pointer (some ⟨w.heap.size, 0, none⟩), .pointer (some ⟨w.heap.size + 1, 0, none⟩), .pointer (some ⟨w.heap.size + 1 + 1, 0, none⟩)]) (by simp) (by simp [go_sem]) ?_
    refine RI.out.mono ?_
    rintro e u' w'' ⟨rfl, rfl, rfl⟩
    simp [Leaves, settle, results, Tryz.results9, go_sem, d2, d3]
    exact hfin.out
/-- Parse: what the document's parser answers. -/
theorem parse_at (w : World) (p : Option Addr) (len c : Nat) (xs : List Int) (h : Src w p len c xs) (hb : len ≤ 65536) : Calls Tryz.prog 9 #[.slice p len c] w (ParsePost xs w) := by
  cases hx : lexS xs with
  | error e => exact parse_lex w p len c xs h hb e.1 e.2 hx
  | ok ts => exact parse_run w p len c xs h hb ts hx
end Go.Proofs.YtkakhldlmfdcdaaGreatDoor
end
section
namespace Go.Proofs.YtkakhldlmfdcdaaGreatDoor
open Go.RowKit
theorem ex_c : parseS [112, 114, 111, 99, 32, 112, 40, 41, 32, 123, 32, 108, 101, 116, 32, 61, 32, 49, 59, 32, 125] = .error (15, 50) := by kernel_rfl
theorem ex_d : parseS [116, 97, 98, 108, 101, 32, 116, 40, 41, 32, 59] = .error (8, 50) := by kernel_rfl
theorem ex_a : parseS (Tr.bytesI ((⟨#[112, 114, 111, 99, 32, 112, 40, 41, 32, 123, 32, 101, 109, 105, 116, 32]⟩ ++ ⟨#[49, 32, 45, 32, 50, 32, 45, 32, 51]⟩) ++ ⟨#[59, 32, 125]⟩)) = .ok [⟨1, 0, ⟨#[]⟩, 0, [1]⟩, ⟨3, 0, ⟨#[112]⟩, 0, [2, 3]⟩, ⟨4, 7, ⟨#[]⟩, 0, []⟩, ⟨6, 9, ⟨#[]⟩, 0, [4]⟩, ⟨17, 11, ⟨#[]⟩, 0, [5]⟩, ⟨24, 16, ⟨#[]⟩, 0, [6, 9]⟩, ⟨24, 16, ⟨#[]⟩, 0, [7, 8]⟩, ⟨21, 16, ⟨#[]⟩, 1, []⟩, ⟨21, 20, ⟨#[]⟩, 2, []⟩, ⟨21, 24, ⟨#[]⟩, 3, []⟩] := by kernel_rfl
theorem ex_b : parseS (Tr.bytesI ((⟨#[112, 114, 111, 99, 32, 112, 40, 41, 32, 123, 32, 101, 109, 105, 116, 32]⟩ ++ ⟨#[45, 97, 32, 42, 32, 98]⟩) ++ ⟨#[59, 32, 125]⟩)) = .ok [⟨1, 0, ⟨#[]⟩, 0, [1]⟩, ⟨3, 0, ⟨#[112]⟩, 0, [2, 3]⟩, ⟨4, 7, ⟨#[]⟩, 0, []⟩, ⟨6, 9, ⟨#[]⟩, 0, [4]⟩, ⟨17, 11, ⟨#[]⟩, 0, [5]⟩, ⟨25, 16, ⟨#[]⟩, 0, [6, 8]⟩, ⟨26, 16, ⟨#[]⟩, 0, [7]⟩, ⟨22, 17, ⟨#[97]⟩, 0, []⟩, ⟨22, 21, ⟨#[98]⟩, 0, []⟩] := by kernel_rfl
theorem bw_below (w : World) (s : ByteArray) : Below w.heap.size w (Lib.bytesWorld w 5 s) where
  os := rfl
  tape := rfl
  output := rfl
  size := by rw [Lib.bytesWorld_size]; omega
  block := fun k hk => Lib.bytesWorld_at_old w 5 s k hk
theorem bw_src (w : World) (s : ByteArray) : Src (Lib.bytesWorld w 5 s) (some ⟨w.heap.size, 0, none⟩) s.size (grownCap w s.size 0 5) (Tr.bytesI s) := by
  refine ⟨Tr.bytesI_length s, fun i => ?_, Or.inr ⟨w.heap.size, 0, rfl, grownCap_ge w s.size 0 5, by rw [Lib.bytesWorld_size]; omega, fun i hi => ?_⟩⟩
  · by_cases hi : i < s.data.toList.length
    · have h1 : (Tr.bytesI s).getD i 0 = ((s.data.toList[i]).toNat : Int) := by simp [Tr.bytesI, List.getD]; simp at hi; simp [hi]
      rw [h1]
      have := (s.data.toList[i]).toNat_lt
      omega
    · have h1 : (Tr.bytesI s).getD i 0 = 0 := by simp only [Tr.bytesI, List.getD]; rw [List.getElem?_eq_none (by simpa using hi)]; rfl
      rw [h1]
      omega
  · rw [Nat.zero_add, Lib.bytesWorld_cell w 5 s i hi]
    have hi' : i < s.data.toList.length := by simpa using hi
    congr 2
    simp [Tr.bytesI, List.getD]
    simp at hi'
    simp [hi']
theorem tv_tail {W : World} {p : Option Addr} {len c k : Nat} {ns : List Nd} (h : Tr.TV W p len c ns) (hk : k < len) : ∃ b off, p = some ⟨b, off, none⟩ ∧ Tr.TV W (some ⟨b, off + k * 5, none⟩) (len - k) (c - k) (ns.drop k) := by
  obtain ⟨b, off, e, hlt, hn⟩ := h.node (by omega)
  refine ⟨b, off, e, ⟨by rw [List.length_drop, h.len_eq], by have := h.cap; omega, fun _ => ⟨b, off + k * 5, rfl, hlt, fun i hi => ?_⟩⟩⟩
  obtain ⟨kp, kl, kc, hnc⟩ := hn (k + i) (by omega)
  refine ⟨kp, kl, kc, ?_⟩
  rw [show off + k * 5 + i * 5 = off + (k + i) * 5 by omega, show (ns.drop k).getD i default = ns.getD (k + i) default by simp [List.getD]]
  exact hnc
set_option maxHeartbeats 4000000 in
set_option maxRecDepth 1000000 in
theorem emitted_at (w : World) (s : ByteArray) (hs : s.size ≤ 1000) (ns : List Nd) (hp : parseS (Tr.bytesI ((⟨#[112, 114, 111, 99, 32, 112, 40, 41, 32, 123, 32, 101, 109, 105, 116, 32]⟩ ++ s) ++ ⟨#[59, 32, 125]⟩)) = .ok ns) (hl : 6 ≤ ns.length) :
    Calls Tryz.prog 19 #[.string s] w fun e w' => ∃ p c, e = .returned (.slice p (ns.length - 5) c) ∧ Tr.TV w' p (ns.length - 5) c (ns.drop 5) ∧ Below w.heap.size w w' := by
  have hcv : ∀ (W : World) (s : ByteArray), (convert 9 22 (.string s)).run Tryz.prog W = .ok (.slice (some ⟨W.heap.size, 0, none⟩) s.size (grownCap W s.size 0 5)) (Lib.bytesWorld W 5 s) := fun W s => Lib.run_convert_string_bytes W 9 22 5 s Tryz.underlying9 Tryz.underlying22 Tryz.underlying5
  have hsz : ((⟨#[112, 114, 111, 99, 32, 112, 40, 41, 32, 123, 32, 101, 109, 105, 116, 32]⟩ ++ s) ++ ⟨#[59, 32, 125]⟩).size = 16 + s.size + 3 := by rw [ByteArray.size_append, ByteArray.size_append]; rfl
  have PA := parse_at (Lib.bytesWorld w 5 ((⟨#[112, 114, 111, 99, 32, 112, 40, 41, 32, 123, 32, 101, 109, 105, 116, 32]⟩ ++ s) ++ ⟨#[59, 32, 125]⟩)) (some ⟨w.heap.size, 0, none⟩) ((⟨#[112, 114, 111, 99, 32, 112, 40, 41, 32, 123, 32, 101, 109, 105, 116, 32]⟩ ++ s) ++ ⟨#[59, 32, 125]⟩).size (grownCap w ((⟨#[112, 114, 111, 99, 32, 112, 40, 41, 32, 123, 32, 101, 109, 105, 116, 32]⟩ ++ s) ++ ⟨#[59, 32, 125]⟩).size 0 5) (Tr.bytesI ((⟨#[112, 114, 111, 99, 32, 112, 40, 41, 32, 123, 32, 101, 109, 105, 116, 32]⟩ ++ s) ++ ⟨#[59, 32, 125]⟩)) (bw_src w _) (by rw [hsz]; omega)
  rw [hsz] at PA
  have PAH := Lib.hid PA
  have HP := Lib.hid hp
  clear hp PA
  go_enter Tryz.func19, Tryz.ntmps19
  go_wp2_with fail
  (with_reducible refine PAH.out.mono ?_)
  rintro e w4 ⟨hb4, hm⟩
  rw [HP.out] at hm
  obtain ⟨p, len, cap, rfl, hT⟩ := hm
  have hle := hT.len_eq
  subst hle
  obtain ⟨b, off, rfl, hT5⟩ := tv_tail hT (k := 5) (by omega)
  have hcap := hT.cap
  have hc0 : ¬ (ns.length : Int) < 6 := by omega
  have hc1 : (5 : Int) ≤ (ns.length : Int) := by omega
  have hc2 : (ns.length : Int) ≤ (cap : Int) := by omega
  have hc3 : ¬ cap = 5 := by omega
  have HT5 := Lib.hid (hT5.on (one_below w4 (.cells #[.slice (some ⟨b, off, none⟩) ns.length cap] 26)))
  have hbw := bw_below w ((⟨#[112, 114, 111, 99, 32, 112, 40, 41, 32, 123, 32, 101, 109, 105, 116, 32]⟩ ++ s) ++ ⟨#[59, 32, 125]⟩)
  have HB := Lib.hid ((hbw.trans (hb4.mono hbw.size)).trans ((one_below w4 (.cells #[.slice (some ⟨b, off, none⟩) ns.length cap] 26)).mono (hbw.trans (hb4.mono hbw.size)).size))
  clear hT hT5 hb4 PAH hbw
  go_wp2_with fail
  go_ret
  exact ⟨_, _, rfl, HT5.out, HB.out⟩
set_option maxHeartbeats 4000000 in
set_option maxRecDepth 1000000 in
theorem works_at (w : World) (hg : ET w) : Calls Tryz.prog 8 #[] w fun e w' => e = .returned (.bool true) ∧ Below w.heap.size w w' := by
  have HG := Lib.hid hg
  have HB := Lib.hid (Below.refl w.heap.size w)
  have kc := fun (w : World) (C : Array Value) (n c : Nat) => Lib.run_convert_bytes_const (P := Tryz.prog) w 22 5 C n c Tryz.underlying22 Tryz.underlying5
  clear hg
  have EA := Lib.hid (emitted_at w ⟨#[49, 32, 45, 32, 50, 32, 45, 32, 51]⟩ (by decide) _ ex_a (by decide))
  go_enter Tryz.func8, Tryz.ntmps8
  go_wp2_with fail
  (with_reducible refine EA.out.mono ?_)
  rintro e w1 ⟨pa, ca, rfl, hT, hb⟩
  clear EA
  have TA := Lib.hid hT
  have HBB := Lib.hid (hb)
  have HG := Lib.hid (HG.out.below HBB.out)
  have HB := Lib.hid (HB.out.trans (HBB.out.mono HB.out.size))
  clear HBB
  clear hT hb
  have EA := Lib.hid (emitted_at w1 ⟨#[45, 97, 32, 42, 32, 98]⟩ (by decide) _ ex_b (by decide))
  go_wp2_with fail
  (with_reducible refine EA.out.mono ?_)
  rintro e w2 ⟨pb, cb, rfl, hT, hb⟩
  clear EA
  have TB := Lib.hid hT
  have HBB := Lib.hid (hb)
  have HG := Lib.hid (HG.out.below HBB.out)
  have HB := Lib.hid (HB.out.trans (HBB.out.mono HB.out.size))
  have TA := Lib.hid (TA.out.on HBB.out)
  clear HBB
  clear hT hb
  have EA := parse_at (w2.alloc (.cells #[.int .u8 112, .int .u8 114, .int .u8 111, .int .u8 99, .int .u8 32, .int .u8 112, .int .u8 40, .int .u8 41, .int .u8 32, .int .u8 123, .int .u8 32, .int .u8 108, .int .u8 101, .int .u8 116, .int .u8 32, .int .u8 61, .int .u8 32, .int .u8 49, .int .u8 59, .int .u8 32, .int .u8 125] 5 (21, 22))) (some ⟨w2.heap.size, 0, none⟩) 21 21 _ (src_const w2 #[.int .u8 112, .int .u8 114, .int .u8 111, .int .u8 99, .int .u8 32, .int .u8 112, .int .u8 40, .int .u8 41, .int .u8 32, .int .u8 123, .int .u8 32, .int .u8 108, .int .u8 101, .int .u8 116, .int .u8 32, .int .u8 61, .int .u8 32, .int .u8 49, .int .u8 59, .int .u8 32, .int .u8 125] [112, 114, 111, 99, 32, 112, 40, 41, 32, 123, 32, 108, 101, 116, 32, 61, 32, 49, 59, 32, 125] 21 rfl rfl (by decide) 21 22) (by decide)
  have EA := Lib.hid EA
  go_wp2_with fail
  (with_reducible refine EA.out.mono ?_)
  rintro e w3 ⟨hb, hm⟩
  clear EA
  rw [ex_c] at hm
  obtain ⟨C1, l1, c1, rfl, hE⟩ := hm
  have E1 := Lib.hid (hE.on (one_below w3 (.cells #[.slice none 0 0] 26)))
  have HBB := Lib.hid (((one_below w2 (.cells #[.int .u8 112, .int .u8 114, .int .u8 111, .int .u8 99, .int .u8 32, .int .u8 112, .int .u8 40, .int .u8 41, .int .u8 32, .int .u8 123, .int .u8 32, .int .u8 108, .int .u8 101, .int .u8 116, .int .u8 32, .int .u8 61, .int .u8 32, .int .u8 49, .int .u8 59, .int .u8 32, .int .u8 125] 5 (21, 22))).trans (hb.mono (by simp))).trans ((one_below w3 (.cells #[.slice none 0 0] 26)).mono (((one_below w2 (.cells #[.int .u8 112, .int .u8 114, .int .u8 111, .int .u8 99, .int .u8 32, .int .u8 112, .int .u8 40, .int .u8 41, .int .u8 32, .int .u8 123, .int .u8 32, .int .u8 108, .int .u8 101, .int .u8 116, .int .u8 32, .int .u8 61, .int .u8 32, .int .u8 49, .int .u8 59, .int .u8 32, .int .u8 125] 5 (21, 22))).trans (hb.mono (by simp)))).size))
  have HG := Lib.hid (HG.out.below HBB.out)
  have HB := Lib.hid (HB.out.trans (HBB.out.mono HB.out.size))
  have TA := Lib.hid (TA.out.on HBB.out)
  have TB := Lib.hid (TB.out.on HBB.out)
  clear HBB
  clear hb hE
  have EA := parse_at ((w3.alloc (.cells #[.slice none 0 0] 26)).alloc (.cells #[.int .u8 116, .int .u8 97, .int .u8 98, .int .u8 108, .int .u8 101, .int .u8 32, .int .u8 116, .int .u8 40, .int .u8 41, .int .u8 32, .int .u8 59] 5 (11, 12))) (some ⟨(w3.alloc (.cells #[.slice none 0 0] 26)).heap.size, 0, none⟩) 11 11 _ (src_const (w3.alloc (.cells #[.slice none 0 0] 26)) #[.int .u8 116, .int .u8 97, .int .u8 98, .int .u8 108, .int .u8 101, .int .u8 32, .int .u8 116, .int .u8 40, .int .u8 41, .int .u8 32, .int .u8 59] [116, 97, 98, 108, 101, 32, 116, 40, 41, 32, 59] 11 rfl rfl (by decide) 11 12) (by decide)
  have hz9 : (w3.alloc (.cells #[.slice none 0 0] 26)).heap.size = w3.heap.size + 1 := by simp
  rw [hz9] at EA
  have kc2 := kc (w3.alloc (.cells #[.slice none 0 0] 26)) (#[.int .u8 116, .int .u8 97, .int .u8 98, .int .u8 108, .int .u8 101, .int .u8 32, .int .u8 116, .int .u8 40, .int .u8 41, .int .u8 32, .int .u8 59]) 11 11
  rw [hz9] at kc2
  clear hz9
  have EA := Lib.hid EA
  go_wp2_with fail
  (with_reducible refine EA.out.mono ?_)
  rintro e w4 ⟨hb, hm⟩
  clear EA
  rw [ex_d] at hm
  obtain ⟨C2, l2, c2, rfl, hE⟩ := hm
  have E2 := Lib.hid (hE.on (one_below w4 (.cells #[.slice none 0 0] 26)))
  have HBB := Lib.hid (((one_below (w3.alloc (.cells #[.slice none 0 0] 26)) (.cells #[.int .u8 116, .int .u8 97, .int .u8 98, .int .u8 108, .int .u8 101, .int .u8 32, .int .u8 116, .int .u8 40, .int .u8 41, .int .u8 32, .int .u8 59] 5 (11, 12))).trans (hb.mono (by simp))).trans ((one_below w4 (.cells #[.slice none 0 0] 26)).mono (((one_below (w3.alloc (.cells #[.slice none 0 0] 26)) (.cells #[.int .u8 116, .int .u8 97, .int .u8 98, .int .u8 108, .int .u8 101, .int .u8 32, .int .u8 116, .int .u8 40, .int .u8 41, .int .u8 32, .int .u8 59] 5 (11, 12))).trans (hb.mono (by simp)))).size))
  have HG := Lib.hid (HG.out.below HBB.out)
  have HB := Lib.hid (HB.out.trans (HBB.out.mono HB.out.size))
  have TA := Lib.hid (TA.out.on HBB.out)
  have TB := Lib.hid (TB.out.on HBB.out)
  have E1 := Lib.hid (E1.out.on HBB.out)
  clear HBB
  clear hb hE
  have EA := Lib.hid (place_err HG.out E1.out)
  go_wp2_with fail
  (with_reducible refine EA.out.mono ?_)
  rintro e w5 ⟨rfl, hb⟩
  clear EA
  have HBB := Lib.hid (hb)
  have HG := Lib.hid (HG.out.below HBB.out)
  have HB := Lib.hid (HB.out.trans (HBB.out.mono HB.out.size))
  have TA := Lib.hid (TA.out.on HBB.out)
  have TB := Lib.hid (TB.out.on HBB.out)
  have E1 := Lib.hid (E1.out.on HBB.out)
  have E2 := Lib.hid (E2.out.on HBB.out)
  clear HBB
  clear hb
  have EA := Lib.hid (place_err HG.out E2.out)
  go_wp2_with fail
  (with_reducible refine EA.out.mono ?_)
  rintro e w6 ⟨rfl, hb⟩
  clear EA
  have HBB := Lib.hid (hb)
  have HG := Lib.hid (HG.out.below HBB.out)
  have HB := Lib.hid (HB.out.trans (HBB.out.mono HB.out.size))
  have TA := Lib.hid (TA.out.on HBB.out)
  have TB := Lib.hid (TB.out.on HBB.out)
  have E1 := Lib.hid (E1.out.on HBB.out)
  have E2 := Lib.hid (E2.out.on HBB.out)
  clear HBB
  clear hb
  obtain ⟨ba, oa, rfl, _, hn⟩ := TA.out.node (by decide)
  obtain ⟨_, _, _, hnc⟩ := hn 0 (by decide)
  have qa0kind : w6.cell? ⟨ba, oa, none⟩ = some (.int .u8 24) := hnc.kind
  clear hnc
  obtain ⟨_, _, _, hnc⟩ := hn 1 (by decide)
  have qa1kind : w6.cell? ⟨ba, oa + 5, none⟩ = some (.int .u8 24) := hnc.kind
  clear hnc
  obtain ⟨_, _, _, hnc⟩ := hn 2 (by decide)
  have qa2n : w6.cell? ⟨ba, oa + 13, none⟩ = some (.int .i64 1) := hnc.n
  clear hnc
  obtain ⟨_, _, _, hnc⟩ := hn 4 (by decide)
  have qa4n : w6.cell? ⟨ba, oa + 23, none⟩ = some (.int .i64 3) := hnc.n
  clear hnc
  clear hn
  obtain ⟨bb, ob, rfl, _, hn⟩ := TB.out.node (by decide)
  obtain ⟨_, _, _, hnc⟩ := hn 0 (by decide)
  have qb0kind : w6.cell? ⟨bb, ob, none⟩ = some (.int .u8 25) := hnc.kind
  clear hnc
  obtain ⟨_, _, _, hnc⟩ := hn 1 (by decide)
  have qb1kind : w6.cell? ⟨bb, ob + 5, none⟩ = some (.int .u8 26) := hnc.kind
  clear hnc
  obtain ⟨_, _, _, hnc⟩ := hn 3 (by decide)
  have qb3text : w6.cell? ⟨bb, ob + 17, none⟩ = some (.string ⟨#[98]⟩) := hnc.text
  clear hnc
  clear hn
  have EA := Lib.hid (code_err HG.out E1.out)
  go_wp2_with fail
  (with_reducible refine EA.out.mono ?_)
  rintro e w7 ⟨rfl, hb⟩
  clear EA
  have HBB := Lib.hid (hb)
  have HG := Lib.hid (HG.out.below HBB.out)
  have HB := Lib.hid (HB.out.trans (HBB.out.mono HB.out.size))
  have TA := Lib.hid (TA.out.on HBB.out)
  have TB := Lib.hid (TB.out.on HBB.out)
  have E1 := Lib.hid (E1.out.on HBB.out)
  have E2 := Lib.hid (E2.out.on HBB.out)
  clear HBB
  clear hb
  have EA := Lib.hid (code_err HG.out E2.out)
  go_wp2_with fail
  (with_reducible refine EA.out.mono ?_)
  rintro e w8 ⟨rfl, hb⟩
  clear EA
  have HBB := Lib.hid (hb)
  have HG := Lib.hid (HG.out.below HBB.out)
  have HB := Lib.hid (HB.out.trans (HBB.out.mono HB.out.size))
  have TA := Lib.hid (TA.out.on HBB.out)
  have TB := Lib.hid (TB.out.on HBB.out)
  have E1 := Lib.hid (E1.out.on HBB.out)
  have E2 := Lib.hid (E2.out.on HBB.out)
  clear HBB
  clear hb
  go_wp2_with fail
  go_ret
  exact ⟨rfl, HB.out⟩
end Go.Proofs.YtkakhldlmfdcdaaGreatDoor
end
section
namespace Go.Proofs.YtkakhldlmfdcdaaGreatDoor
open Go.RowKit
set_option maxHeartbeats 1000000 in
theorem pick_at (i : Int) (k : Nat) (h1 : 1 ≤ k) (h2 : k ≤ 70000) (w : World) : Calls Tryz.prog 17 #[.int .i64 i, .int .i64 (k : Int)] w fun e w' => ∃ j : Nat, j < k ∧ e = .returned (.int .i64 (j : Int)) ∧ w' = w := by
  have hk : ¬ (k : Int) ≤ 0 := by omega
  have hk0 : ¬ (k : Int) = 0 := by omega
  have hm1 : -(k : Int) < i.tmod k := Int.lt_tmod_of_pos i (by omega)
  have hm2 : i.tmod k < (k : Int) := Int.tmod_lt_of_pos i (by omega)
  generalize hr : i.tmod k = r at *
  have hm3 : 0 ≤ r % (k : Int) := Int.emod_nonneg _ (by omega)
  have hm4 : r % (k : Int) < (k : Int) := Int.emod_lt_of_pos _ (by omega)
  obtain ⟨j, hj⟩ : ∃ j : Nat, r % (k : Int) = (j : Int) := ⟨(r % (k : Int)).toNat, by omega⟩
  have hjk : j < k := by omega
  have HJ := Lib.hid hj
  have HJK := Lib.hid hjk
  clear hm3 hm4 hj hjk
  go_enter Tryz.func17, Tryz.ntmps17
  go_wp2_with fail
  rw [HJ.out]
  go_ret
  exact ⟨j, HJK.out, rfl, rfl⟩
theorem src_take {W : World} {p : Option Addr} {len c m : Nat} {xs : List Int} (h : Src W p len c xs) (hm : m ≤ len) : Src W p m c (xs.take m) := by
  obtain ⟨h1, h2, h3⟩ := h
  refine ⟨by rw [List.length_take]; omega, fun i => ?_, ?_⟩
  · by_cases hi : i < m
    · have := h2 i
      rwa [show (xs.take m).getD i 0 = xs.getD i 0 by simp [List.getD, List.getElem?_take, hi]]
    · rw [show (xs.take m).getD i 0 = 0 by simp only [List.getD]; rw [List.getElem?_eq_none (by rw [List.length_take]; omega)]; rfl]
      omega
  · rcases h3 with ⟨h3, h4⟩ | ⟨b, off, e, hc, hl, hx⟩
    · exact Or.inl ⟨by omega, h4⟩
    · exact Or.inr ⟨b, off, e, by omega, hl, fun i hi => by
        rw [hx i (by omega), show (xs.take m).getD i 0 = xs.getD i 0 by simp [List.getD, List.getElem?_take, hi]]⟩
set_option maxHeartbeats 4000000 in
set_option maxRecDepth 1000000 in
theorem begins_big (w : World) (p : Option Addr) (len c : Nat) (i : Int) (hg : ET w) (hb : 1000 < len) :
    Calls Tryz.prog 5 #[.slice p len c, .int .i64 i] w fun e w' => e = .returned (.bool true) ∧ Below w.heap.size w w' := by
  have hd : (1000 : Int) < (len : Int) := by omega
  have WK := Lib.hid (works_at w hg)
  clear hg
  go_enter Tryz.func5, Tryz.ntmps5
  go_wp2_with fail
  (with_reducible refine WK.out.mono ?_)
  rintro e w1 ⟨rfl, hb1⟩
  go_wp2
  go_ret
  exact ⟨rfl, hb1⟩
set_option maxHeartbeats 4000000 in
set_option maxRecDepth 1000000 in
theorem begins_err (w : World) (p : Option Addr) (len c : Nat) (xs : List Int) (i : Int) (h : Src w p len c xs) (hg : ET w) (hb : len ≤ 1000) (k : Nat) (er : Int) (hp : parseS xs = .error (k, er)) :
    Calls Tryz.prog 5 #[.slice p len c, .int .i64 i] w fun e w' => e = .returned (.bool true) ∧ Below w.heap.size w w' := by
  have hd : ¬ (1000 : Int) < (len : Int) := by omega
  have PA := Lib.hid (parse_at w p len c xs h (by omega))
  have HP := Lib.hid hp
  have HG := Lib.hid hg
  have HS := Lib.hid h
  clear hg h hp
  go_enter Tryz.func5, Tryz.ntmps5
  go_wp2_with fail
  (with_reducible refine PA.out.mono ?_)
  rintro e w1 ⟨hb1, hm⟩
  rw [HP.out] at hm
  obtain ⟨C, l, cc, rfl, hE⟩ := hm
  have B1 := Lib.hid (hb1.trans ((one_below w1 (.cells #[.slice none 0 0] 26)).mono hb1.size))
  have LA := Lib.hid (lex_at (w1.alloc (.cells #[.slice none 0 0] 26)) p len c xs (HS.out.below B1.out) (by omega))
  clear hE hb1 PA
  go_wp2_with fail
  (with_reducible refine LA.out.mono ?_)
  rintro e w2 ⟨hm, hb2⟩
  have B2 := Lib.hid (B1.out.trans (hb2.mono B1.out.size))
  have WK := Lib.hid (works_at w2 (HG.out.below B2.out))
  cases hx : lexS xs with
  | error e0 =>
    rw [hx] at hm
    obtain ⟨C2, l2, cc2, rfl, _⟩ := hm
    clear hb2 LA hx
    go_wp2_with fail
    (with_reducible refine WK.out.mono ?_)
    rintro e w3 ⟨rfl, hb3⟩
    go_wp2
    go_ret
    exact ⟨rfl, B2.out.trans (hb3.mono B2.out.size)⟩
  | ok ts =>
    rw [hx] at hm
    obtain ⟨g, cap, rfl, _⟩ := hm
    clear hb2 LA hx
    go_wp2_with fail
    (with_reducible refine WK.out.mono ?_)
    rintro e w3 ⟨rfl, hb3⟩
    go_wp2
    go_ret
    exact ⟨rfl, B2.out.trans (hb3.mono B2.out.size)⟩
set_option maxHeartbeats 4000000 in
set_option maxRecDepth 1000000 in
theorem place_nil (w : World) :
    Calls Tryz.prog 11 #[.nilIface] w fun e w' => e = .returned (.tuple #[.int .i64 0, .int .i64 0, .int .i64 0, .bool false]) ∧ Below w.heap.size w w' := by
  have hmf : ∀ (fn : Fn) (first cap : Array Value) (w : World), (Instr.makeFunc fn first cap).run Tryz.prog w = .ok (.func fn first cap) w := fun _ _ _ _ => rfl
  have HA : ∀ (v : Value) (W : World), Calls Tryz.prog 32 #[.nilIface, v] W fun e w' => e = .returned (.bool false) ∧ W = w' := fun v W => by
    go_enter Tryz.func32, Tryz.ntmps32
    go_wp2
    go_ret
    exact ⟨rfl, rfl⟩
  have H := Lib.hid HA
  clear HA
  go_enter_defers Tryz.func11, Tryz.ntmps11
  go_wp2_with (go_at_call 32; (with_reducible refine (H.out _ _).mono ?_); rintro e' w' ⟨rfl, rfl⟩)
  refine leaves_cons (f := 31) (args := #[.pointer (some ⟨w.heap.size, 0, none⟩), .pointer (some ⟨w.heap.size + 1, 0, none⟩), .pointer (some ⟨w.heap.size + 1 + 1, 0, none⟩), .pointer (some ⟨w.heap.size + 1 + 1 + 1, 0, none⟩)]) (by simp) (by simp [go_sem]) ?_
  refine (placeDone _ _ _ _ _).mono ?_
  rintro e u' w'' ⟨rfl, rfl, rfl⟩
  simp [Leaves, settle, results, Tryz.results11, go_sem]
  exact (((((Below.refl _ _).alloc (Nat.le_refl _) _).alloc (by simp) _).alloc (by simp; omega) _).alloc (by simp; omega) _).alloc (by simp; omega) _
theorem sub_run0 (W : World) (p : Option Addr) (len c e : Nat) (h2 : e ≤ c) :
    (Instr.sliceAt 22 (.slice p len c) none (some (.int .i64 e)) none).run Tryz.prog W = .ok (.slice (subP p c 0) e c) W := by
  have hu : Tryz.prog.underlying 22 = some (.slice (Tryz.prog.elem 22)) := by kernel_rfl
  have hz : ∀ W, (sizeOf (Tryz.prog.elem 22)).run Tryz.prog W = .ok 1 W := fun _ => by kernel_rfl
  rw [run_sliceAt_slice W 22 _ _ _ _ hu, run_slice_h W 22 p len c hu .i64 e (by omega) (by omega), hz]
  rfl
set_option maxHeartbeats 4000000 in
set_option maxRecDepth 1000000 in
theorem begins_ok (w : World) (p : Option Addr) (len c : Nat) (xs : List Int) (i : Int) (h : Src w p len c xs) (hg : ET w) (hb : len ≤ 1000) (ns : List Nd) (hp : parseS xs = .ok ns) (ts : List Tok) (hx : lexS xs = .ok ts) :
    Calls Tryz.prog 5 #[.slice p len c, .int .i64 i] w fun e w' => e = .returned (.bool true) ∧ Below w.heap.size w w' := by
  have hd : ¬ (1000 : Int) < (len : Int) := by omega
  have hxl : xs.length = len := h.1
  have hcl : len ≤ c := by
    rcases h.2.2 with ⟨h3, h4⟩ | ⟨b, off, e, hc, _⟩
    · omega
    · exact hc
  obtain ⟨vs, hts, hvs⟩ := lexS_shape hx
  have htl := lexN_len _ _ _ _ hx
  have htp : 1 ≤ ts.length := by rw [hts]; simp
  have PA := Lib.hid (parse_at w p len c xs h (by omega))
  have HP := Lib.hid hp
  have HX := Lib.hid hx
  have HG := Lib.hid hg
  have HS := Lib.hid h
  have HXL := Lib.hid hxl
  clear hg h hp hx hts hvs hxl
  go_enter Tryz.func5, Tryz.ntmps5
  go_wp2_with fail
  (with_reducible refine PA.out.mono ?_)
  rintro e w1 ⟨hb1, hm⟩
  rw [HP.out] at hm
  obtain ⟨tp, tl, tc, rfl, _⟩ := hm
  have B1 := Lib.hid (hb1.trans ((one_below w1 (.cells #[.slice tp tl tc] 26)).mono hb1.size))
  have LA := Lib.hid (lex_ok (HS.out.below B1.out) (by omega) HX.out)
  clear hb1 PA
  go_wp2_with fail
  (with_reducible refine LA.out.mono ?_)
  rintro e w2 ⟨g, cap, rfl, hT, _, hb2⟩
  have B2 := Lib.hid (B1.out.trans (hb2.mono B1.out.size))
  have HT := Lib.hid hT
  have PK := Lib.hid (pick_at i ts.length htp (by have := HXL.out; omega) w2)
  have hz0 : ¬ (ts.length : Int) = 0 := by omega
  have hz1 : ¬ ts.length = 0 := by omega
  clear hb2 hT LA
  go_wp2_with fail
  (with_reducible refine PK.out.mono ?_)
  rintro e w3 ⟨k, hk, rfl, rfl⟩
  obtain ⟨t, ht⟩ : ∃ t, ts[k]? = some t := ⟨_, List.getElem?_eq_getElem hk⟩
  obtain ⟨hat, _⟩ := lexS_cut HX.out k t ht
  have hct : w3.cell? ⟨g, k * 5 + 1, none⟩ = some (.int .i64 (t.at' : Int)) := HT.out.cell (k * 5 + 1) _ (by rw [tok_cell ts k 1 t ht (by decide)]; rfl)
  have hatl : t.at' ≤ len := by have := HXL.out; omega
  have sr := fun W => sub_run0 W p len c t.at' (by omega)
  have hk0 : (0 : Int) ≤ (k : Int) := by omega
  have hk1 : (k : Int) < (ts.length : Int) := by omega
  have HSR : Src w3 (subP p c 0) t.at' c (xs.take t.at') := by
    have := sub_src (HS.out.below B2.out) 0 t.at' (Nat.zero_le _) hatl
    simpa using this
  have PB := Lib.hid (parse_at w3 (subP p c 0) t.at' c (xs.take t.at') HSR (by omega))
  have HC := Lib.hid (parse_cut HP.out HX.out k t ht)
  generalize subP p c 0 = p2 at *
  clear HSR PK hat ht
  go_wp2_with fail
  (with_reducible refine PB.out.mono ?_)
  rintro e w4 ⟨hb4, hm⟩
  have B4 := Lib.hid (B2.out.trans (hb4.mono B2.out.size))
  clear hb4 PB
  rcases HC.out with hce | ⟨ms, hce⟩
  · rw [hce] at hm
    obtain ⟨C, l, cc, rfl, hE⟩ := hm
    have B5 := Lib.hid (B4.out.trans ((one_below w4 (.cells #[.slice none 0 0] 26)).mono B4.out.size))
    have HE := Lib.hid (hE.on (one_below w4 (.cells #[.slice none 0 0] 26)))
    have PE := Lib.hid (place_err (HG.out.below B5.out) HE.out)
    clear hce hE
    go_wp2_with fail
    (with_reducible refine PE.out.mono ?_)
    rintro e w5 ⟨rfl, hb5⟩
    have B6 := Lib.hid (B5.out.trans (hb5.mono B5.out.size))
    have CE := Lib.hid (code_err (HG.out.below B6.out) (HE.out.on hb5))
    clear PE hb5
    go_wp2_with fail
    (with_reducible refine CE.out.mono ?_)
    rintro e w6 ⟨rfl, hb6⟩
    have B7 := Lib.hid (B6.out.trans (hb6.mono B6.out.size))
    have WK := Lib.hid (works_at w6 (HG.out.below B7.out))
    clear CE hb6
    go_wp2_with fail
    (with_reducible refine WK.out.mono ?_)
    rintro e w7 ⟨rfl, hb7⟩
    go_wp2
    go_ret
    exact ⟨rfl, B7.out.trans (hb7.mono B7.out.size)⟩
  · rw [hce] at hm
    obtain ⟨p5, l5, c5, rfl, _⟩ := hm
    have B5 := Lib.hid (B4.out.trans ((one_below w4 (.cells #[.slice p5 l5 c5] 26)).mono B4.out.size))
    have PE := Lib.hid (place_nil (w4.alloc (.cells #[.slice p5 l5 c5] 26)))
    clear hce
    go_wp2_with fail
    (with_reducible refine PE.out.mono ?_)
    rintro e w5 ⟨rfl, hb5⟩
    have B6 := Lib.hid (B5.out.trans (hb5.mono B5.out.size))
    have WK := Lib.hid (works_at w5 (HG.out.below B6.out))
    clear PE hb5
    go_wp2_with fail
    (with_reducible refine WK.out.mono ?_)
    rintro e w6 ⟨rfl, hb6⟩
    go_wp2
    go_ret
    exact ⟨rfl, B6.out.trans (hb6.mono B6.out.size)⟩
theorem parseBegins (w : World) (p : Option Addr) (len c : Nat) (xs : List Int) (i : Int) (h : Src w p len c xs) (hg : ET w) :
    Calls Tryz.prog 5 #[.slice p len c, .int .i64 i] w fun e w' => e = .returned (.bool true) ∧ Below w.heap.size w w' := by
  by_cases hb : len ≤ 1000
  · cases hp : parseS xs with
    | error e => exact begins_err w p len c xs i h hg hb e.1 e.2 hp
    | ok ns =>
      cases hx : lexS xs with
      | error e => simp [parseS, hx] at hp
      | ok ts => exact begins_ok w p len c xs i h hg hb ns hp ts hx
  · exact begins_big w p len c i hg (by omega)
end Go.Proofs.YtkakhldlmfdcdaaGreatDoor
end
section
namespace Go.Proofs.YtkakhldlmfdcdaaGreatDoor
open Go.RowKit
def gapB (k : Int) : List Int := if k % 4 = 0 then [32] else if k % 4 = 1 then [10] else if k % 4 = 2 then [9] else [35, 32, 120, 10]
theorem gapB_gap (k : Int) : isGap (gapB k) := by
  unfold gapB
  split
  · exact ⟨fun X => by simp [blk, isBlank], _, _, rfl, Or.inl rfl⟩
  · split
    · exact ⟨fun X => by simp [blk, isBlank], _, _, rfl, Or.inl rfl⟩
    · split
      · exact ⟨fun X => by simp [blk, isBlank], _, _, rfl, Or.inl rfl⟩
      · exact ⟨fun X => by simp [blk, isBlank]; omega, _, _, rfl, Or.inr rfl⟩
theorem mem_byte {xs : List Int} (h : ∀ i, 0 ≤ xs.getD i 0 ∧ xs.getD i 0 < 256) : ∀ x ∈ xs, 0 ≤ x ∧ x < 256 := by
  intro x hx
  obtain ⟨i, hi, rfl⟩ := List.mem_iff_getElem.1 hx
  simpa [List.getD, hi] using h i
theorem mem_sub {xs : List Int} (h : ∀ x ∈ xs, 0 ≤ x ∧ x < 256) (i l : Nat) : ∀ x ∈ (xs.drop i).take l, 0 ≤ x ∧ x < 256 := fun x hx => h x (List.mem_of_mem_drop (List.mem_of_mem_take hx))
theorem lexN_text (f p : Nat) (l : List Int) (hl : ∀ x ∈ l, 0 ≤ x ∧ x < 256) (ts : List Tok) (h : lexN f p l = .ok ts) : ∀ t ∈ ts, ∀ x ∈ t.text, 0 ≤ x ∧ x < 256 := by
  induction f generalizing p l ts with
  | zero =>
    simp only [lexN, Except.ok.injEq] at h
    subst h
    intro t ht
    simp only [List.mem_singleton] at ht
    subst ht
    intro x hx
    simp [Tok.endAt] at hx
  | succ f ih =>
    simp only [lexN] at h
    split at h
    · simp only [Except.ok.injEq] at h
      subst h
      intro t ht
      simp only [List.mem_singleton] at ht
      subst ht
      intro x hx
      simp [Tok.endAt] at hx
    · rename_i c r hd
      split at h
      · simp at h
      · rename_i k len n hs
        have hcr : ∀ x ∈ c :: r, 0 ≤ x ∧ x < 256 := fun x hx => hl x (by rw [← hd] at hx; exact List.mem_of_mem_drop hx)
        cases hu : lexN f (p + blk false l + len) ((c :: r).drop len) with
        | error e => rw [hu] at h; simp [pre] at h
        | ok us =>
          rw [hu] at h
          simp only [pre, Except.ok.injEq] at h
          subst h
          intro t ht
          simp only [List.singleton_append, List.mem_cons] at ht
          rcases ht with rfl | ht
          · exact fun x hx => hcr x (List.mem_of_mem_take hx)
          · exact ih _ _ (fun x hx => hcr x (List.mem_of_mem_drop hx)) us hu t ht
theorem infoB : (Tryz.prog.info? 5).map (fun i => (i.zero, i.size, i.bytes)) = some (some (.int .u8 0), 1, 1) := by kernel_rfl
theorem cells_str (l : List Int) (h : ∀ x ∈ l, 0 ≤ x ∧ x < 256) : Lib.strCells (strOfNums l) = l.map (Value.int .u8) := by
  unfold Lib.strCells
  rw [strOfNums_data, List.map_map]
  apply List.map_congr_left
  intro x hx
  have := h x hx
  have e : (UInt8.ofNat x.toNat).toNat = x.toNat := by simp; omega
  simp only [Function.comp, e]
  rw [Int.toNat_of_nonneg this.1]
theorem gapB_byte (k : Int) : ∀ x ∈ gapB k, 0 ≤ x ∧ x < 256 := by
  unfold gapB
  split
  · decide
  · split
    · decide
    · split <;> decide
theorem gapB_len (k : Int) : (gapB k).length ≤ 8 := by
  unfold gapB
  split
  · decide
  · split
    · decide
    · split <;> decide
theorem lexN_texts (f p : Nat) (l : List Int) (ts : List Tok) (h : lexN f p l = .ok ts) : (ts.flatMap Tok.text).length ≤ l.length := by
  induction f generalizing p l ts with
  | zero =>
    simp only [lexN, Except.ok.injEq] at h
    subst h
    simp [Tok.endAt]
  | succ f ih =>
    simp only [lexN] at h
    split at h
    · simp only [Except.ok.injEq] at h
      subst h
      simp [Tok.endAt]
    · rename_i c r hd
      split at h
      · simp at h
      · rename_i k len n hs
        have hl := step_len hs
        have hcr : (c :: r).length ≤ l.length := by rw [← hd, List.length_drop]; omega
        cases hu : lexN f (p + blk false l + len) ((c :: r).drop len) with
        | error e => rw [hu] at h; simp [pre] at h
        | ok us =>
          rw [hu] at h
          simp only [pre, Except.ok.injEq, List.singleton_append] at h
          subst h
          have := ih _ _ us hu
          rw [List.length_drop] at this
          rw [List.flatMap_cons, List.length_append, List.length_take]
          omega
theorem againB_len (ts : List Tok) (f : Nat → Int) : (again ts fun i => gapB (f i)).length ≤ (ts.flatMap Tok.text).length + 8 * ts.length := by
  induction ts generalizing f with
  | nil => simp [again]
  | cons t r ih =>
    have := ih (fun i => f (i + 1))
    have h2 := gapB_len (f 0)
    simp only [again, List.length_append, List.flatMap_cons, List.length_cons] at this ⊢
    omega
/-- Blanks between tokens: the same trees, but for places. -/
def NdS (x y : Nd) : Prop := x.kind = y.kind ∧ x.text = y.text ∧ x.n = y.n ∧ x.kids = y.kids
mutual
theorem flat_same {ρ : Nat → Nat → Prop} (o : Nat) : ∀ (a a' : Ast), AstR ρ a a' → AllR NdS (flat o a) (flat o a')
  | .mk k p t n ks, a', h => by
    cases h with
    | @mk _ _ p' _ _ _ ks' h hl hk =>
      simp only [flat]
      exact .cons ⟨rfl, rfl, rfl, heads_same (o + 1) ks ks' ⟨hl, hk⟩⟩ (flatL_same (o + 1) ks ks' ⟨hl, hk⟩)
theorem flatL_same {ρ : Nat → Nat → Prop} (o : Nat) : ∀ (ks ks' : List Ast), KidsR ρ ks ks' → AllR NdS (flatL o ks) (flatL o ks')
  | [], ks', h => by
    cases ks' with
    | nil => simp only [flatL]; exact .nil
    | cons _ _ => have := h.1; simp at this
  | x :: r, ks', h => by
    cases ks' with
    | nil => have := h.1; simp at this
    | cons y r' =>
      obtain ⟨h1, h2⟩ := h.tail
      simp only [flatL]
      rw [← h1.size]
      exact .append (flat_same o x y h1) (flatL_same _ r r' h2)
theorem heads_same {ρ : Nat → Nat → Prop} (o : Nat) : ∀ (ks ks' : List Ast), KidsR ρ ks ks' → heads o ks = heads o ks'
  | [], ks', h => by
    cases ks' with
    | nil => rfl
    | cons _ _ => have := h.1; simp at this
  | x :: r, ks', h => by
    cases ks' with
    | nil => have := h.1; simp at this
    | cons y r' =>
      obtain ⟨h1, h2⟩ := h.tail
      simp only [heads]
      rw [← h1.size, heads_same _ r r' h2]
end
theorem sameP_of {x y : List Nd} (h : AllR NdS x y) : Tr.sameP x y = true := by
  simp only [Tr.sameP, Bool.and_eq_true, decide_eq_true_eq, List.all_eq_true, List.mem_range]
  refine ⟨h.1, fun i hi => ?_⟩
  have hy : i < y.length := by rw [← h.1]; exact hi
  obtain ⟨h1, h2, h3, h4⟩ := h.2 i (x.getD i default) (y.getD i default) (by simp [List.getD, hi]) (by simp [List.getD, hy])
  simp only [Tr.sameNd, h1, h2, h3, h4, beq_self_eq_true, decide_true, Bool.and_true, Bool.true_and]
theorem tokL_of {ts us : List Tok} (h : sameAll ts us) : TokL (fun _ _ => True) (ts.map ptOf) (us.map ptOf) := by
  induction ts generalizing us with
  | nil => cases us with
    | nil => exact .nil
    | cons u s => exact h.elim
  | cons t r ih => cases us with
    | nil => exact h.elim
    | cons u s =>
      obtain ⟨h1, h2⟩ := h
      exact .cons ⟨h1.1, by simp only [ptOf, h1.2.1], h1.2.2, trivial⟩ (ih h2)
/-- P5.3: what is answered of two rows of tokens that are the same but for places. -/
theorem parse_same {xs ys : List Int} {ts us : List Tok} (h1 : lexS xs = .ok ts) (h2 : lexS ys = .ok us) (h : sameAll ts us) : (∃ p q c, parseS xs = .error (p, c) ∧ parseS ys = .error (q, c)) ∨ ∃ ns ms, parseS xs = .ok ns ∧ parseS ys = .ok ms ∧ AllR NdS ns ms := by
  have hr := rel_program (ρ := fun _ _ => True) _ _ (tokL_of h)
  simp only [parseS, h1, h2]
  cases hp : programP (ts.map ptOf) with
  | err p c =>
    cases hq : programP (us.map ptOf) with
    | err q d =>
      rw [hp, hq] at hr
      obtain rfl : c = d := hr
      exact Or.inl ⟨p, q, c, rfl, rfl⟩
    | ok b l => rw [hp, hq] at hr; exact hr.elim
  | ok a l =>
    cases hq : programP (us.map ptOf) with
    | err q d => rw [hp, hq] at hr; exact hr.elim
    | ok b l2 =>
      rw [hp, hq] at hr
      exact Or.inr ⟨_, _, rfl, rfl, flat_same 0 a b hr.1⟩
mutual
theorem flatL_small (o : Nat) : ∀ (ks : List Ast), sizeL ks ≤ 70000 → ∀ nd ∈ flatL o ks, nd.kids.length ≤ 70000
  | [], _, nd, hnd => by simp [flatL] at hnd
  | x :: r, hs, nd, hnd => by
    simp only [flatL, List.mem_append] at hnd
    simp only [sizeL] at hs
    rcases hnd with hnd | hnd
    · exact flat_kidsFew o x (by omega) nd hnd
    · exact flatL_small _ r (by omega) nd hnd
theorem flat_kidsFew (o : Nat) : ∀ (a : Ast), a.size ≤ 70000 → ∀ nd ∈ flat o a, nd.kids.length ≤ 70000
  | .mk k p t n ks, hs, nd, hnd => by
    simp only [flat, List.mem_cons] at hnd
    simp only [Ast.size] at hs
    rcases hnd with rfl | hnd
    · simp only [heads_length]
      have := length_le_sizeL ks
      omega
    · exact flatL_small (o + 1) ks (by omega) nd hnd
end
theorem small_of {a : Ast} (h : a.size ≤ 70000) : Tr.Small (flat 0 a) := ⟨by rw [flat_length]; exact h, flat_kidsFew 0 a h⟩
/-- No more nodes than tokens, and one. -/
theorem program_size {l l' : List PT} {a : Ast} (h : programP l = .ok a l') : a.size ≤ l.length + 1 := by
  obtain ⟨t, r, ks, hl, rfl, hm⟩ := program_of h
  have h2 : sizeL ks + l'.length ≤ 0 + l.length := Sz.many (cr := sizeL) sz_prog [] _ _ _ hm
  simp only [nodeA, Ast.size]
  omega
theorem parse_small {xs : List Int} {ns : List Nd} (hp : parseS xs = .ok ns) (hl : xs.length ≤ 60000) : Tr.Small ns := by
  cases hx : lexS xs with
  | error e => simp [parseS, hx] at hp
  | ok ts =>
    simp only [parseS, hx] at hp
    cases hq : programP (ts.map ptOf) with
    | err p c => rw [hq] at hp; simp at hp
    | ok a l =>
      rw [hq] at hp
      simp only [Except.ok.injEq] at hp
      subst hp
      have h1 := program_size hq
      have h2 := lexN_len _ _ _ _ hx
      rw [List.length_map] at h1
      exact small_of (by omega)
theorem tv_nil (W : World) : Tr.TV W none 0 0 [] := ⟨rfl, Nat.le_refl _, fun h => absurd h (by omega)⟩
theorem boxed_on {W W' : World} {B T : Nat} {u : Value} (h : Boxed W B T u) (hb : Below W.heap.size W W') : Boxed W' B T u := (hb.block _ h.lt).trans h
theorem src_own {W : World} {base g n cap : Nat} {l : List Int} (ho : W.ownsRow base 5 1 (.slice (some ⟨g, 0, none⟩) n cap) n (l.map (Value.int .u8))) (hl : l.length = n) (hb : ∀ x ∈ l, 0 ≤ x ∧ x < 256) : Src W (some ⟨g, 0, none⟩) n cap l := by
  refine ⟨hl, fun i => ?_, Or.inr ⟨g, 0, rfl, ?_, (ho.lt g rfl).2, fun i hi => ?_⟩⟩
  · by_cases hi : i < l.length
    · have := hb (l[i]) (List.getElem_mem hi)
      simpa [List.getD, hi] using this
    · simp [List.getD, List.getElem?_eq_none (Nat.le_of_not_lt hi)]
  · rcases ho.2 with ⟨h, _⟩ | ⟨g', cap', cur, hv, _, _, hc, _⟩
    · simp at h
    · simp at hv
      omega
  · rw [Nat.zero_add, ho.cellAt i (by omega)]
    have hi' : i < l.length := by omega
    simp [List.getD, hi']
theorem own_two {W : World} {base : Nat} {v : Value} {cur t gp : List Int} {st sg : ByteArray} {m : Nat} (hm : m = sg.size) (hst : strOfNums t = st) (hsg : strOfNums gp = sg) (ht : ∀ x ∈ t, 0 ≤ x ∧ x < 256) (hg : ∀ x ∈ gp, 0 ≤ x ∧ x < 256)
    (ho : W.ownsRow base 5 1 v (cur.length + st.size + m) (cur.map (Value.int .u8) ++ (Lib.strCells st ++ Lib.strCells sg))) : W.ownsRow base 5 1 v (cur ++ (t ++ gp)).length ((cur ++ (t ++ gp)).map (Value.int .u8)) := by
  subst hst hsg hm
  rw [cells_str t ht, cells_str gp hg, strOfNums_size, strOfNums_size] at ho
  rw [List.length_append, List.length_append, List.map_append, List.map_append, ← Nat.add_assoc]
  exact ho
set_option maxHeartbeats 1000000 in
theorem parseBlanks_big (w : World) (p : Option Addr) (len c : Nat) (v : Value) (hg : ET w) (hb : 1000 < len) :
    Calls Tryz.prog 4 #[.slice p len c, v] w fun e w' => e = .returned (.bool true) ∧ Below w.heap.size w w' := by
  have WK := Lib.hid (works_at w hg)
  clear hg
  go_enter Tryz.func4, Tryz.ntmps4
  go_wp2_with fail
  (with_reducible refine WK.out.mono ?_)
  rintro e w1 ⟨rfl, hb1⟩
  go_wp2
  go_ret
  exact ⟨rfl, hb1⟩
set_option maxHeartbeats 1000000 in
theorem parseBlanks_err (w : World) (p : Option Addr) (len c : Nat) (v : Value) (xs : List Int) (hs : Src w p len c xs) (hg : ET w) (hb : len ≤ 1000) (i : Nat) (er : Int) (hx : lexS xs = .error (i, er)) :
    Calls Tryz.prog 4 #[.slice p len c, v] w fun e w' => e = .returned (.bool true) ∧ Below w.heap.size w w' := by
  have LX := Lib.hid (lex_no hs (by omega) hx)
  have HG := Lib.hid hg
  clear hg hs hx
  go_enter Tryz.func4, Tryz.ntmps4
  go_wp2_with fail
  (with_reducible refine LX.out.mono ?_)
  rintro e w1 ⟨b, l, cc, rfl, _, hb1⟩
  have B1 := Lib.hid hb1
  have WK := Lib.hid (works_at w1 (HG.out.below hb1))
  clear hb1 LX
  go_wp2_with fail
  (with_reducible refine WK.out.mono ?_)
  rintro e w2 ⟨rfl, hb2⟩
  have B2 := Lib.hid (B1.out.trans (hb2.mono B1.out.size))
  clear hb2 WK
  go_wp2
  go_ret
  exact ⟨rfl, B2.out⟩
set_option maxHeartbeats 4000000 in
set_option maxRecDepth 1000000 in
theorem parseBlanks_ok (w : World) (p : Option Addr) (len c : Nat) (xs : List Int) (p2 : Option Addr) (len2 c2 : Nat) (ks : List Int) (hs : Src w p len c xs) (hs2 : Src w p2 len2 c2 ks) (hg : ET w) (hb : len ≤ 1000) (ts : List Tok) (hx : lexS xs = .ok ts) :
    Calls Tryz.prog 4 #[.slice p len c, .slice p2 len2 c2] w fun e w' => e = .returned (.bool true) ∧ Below w.heap.size w w' := by
  have LX := Lib.hid (lex_ok hs (by omega) hx)
  have HS := Lib.hid hs
  have HX := Lib.hid hx
  have HG := Lib.hid hg
  have HS2 := Lib.hid hs2
  have hl2 := Lib.hid hs2.1
  have hlen := Lib.hid hs.1
  have hAL := Lib.hid (againB_len ts (fun i => ks.getD i 0))
  have hTX := Lib.hid (lexN_texts _ _ _ ts hx)
  have HLn := Lib.hid (lexN_len _ _ _ ts hx)
  have HBy := Lib.hid (lexN_text _ _ _ (mem_byte hs.2.1) ts hx)
  have hch := (chain_of xs xs.length 0 (by omega) (by omega) ts (by rw [← lexS_at]; exact hx)).2
  have hpos : 0 < (again ts (fun i => gapB (ks.getD i 0))).length := by
    cases ts with
    | nil => exact absurd rfl hch
    | cons t r =>
      obtain ⟨_, b, br, hbr, _⟩ := gapB_gap (ks.getD 0 0)
      simp only [again, hbr, List.length_append, List.length_cons]
      omega
  have hrel := fun F hF => relex xs ts 0 0 (fun i => gapB (ks.getD i 0)) (fun i => gapB_gap _) (by omega) (by rw [← lexS_at]; exact hx) F hF
  obtain ⟨us, hus, hsame⟩ := hrel ((again ts (fun i => gapB (ks.getD i 0))).length + 1) (by omega)
  have HU : Hid (lexS (again ts (fun i => gapB (ks.getD i 0))) = .ok us) := hus
  have HSm := Lib.hid hsame
  have htot : (again ts (fun i => gapB (ks.getD i 0))).length ≤ 20000 := by have := hAL.out; have := hTX.out; have := HLn.out; have := hlen.out; omega
  obtain ⟨AG, hAG⟩ : ∃ AG, again ts (fun i => gapB (ks.getD i 0)) = AG := ⟨_, rfl⟩
  rw [hAG] at hpos htot HU
  have HAG := Lib.hid hAG
  have hnn : ts.length ≤ 1001 := by have := HLn.out; have := hlen.out; omega
  obtain ⟨n, hn⟩ : ∃ n, ts.length = n := ⟨_, rfl⟩
  rw [hn] at hnn
  have HN := Lib.hid hn
  rw [hn] at LX
  obtain ⟨i0, hi, hz0, hz1, hz2⟩ := info_parts infoB
  have I0 := Lib.hid hi
  have I1 := Lib.hid hz0
  have I2 := Lib.hid hz1
  have I3 := Lib.hid hz2
  clear hg hs hs2 hx hch hrel hus hsame hAG hn hi hz0 hz1 hz2
  go_enter Tryz.func4, Tryz.ntmps4
  go_wp2_with fail
  (with_reducible refine LX.out.mono ?_)
  rintro e w1 ⟨g, cap, rfl, hT, hgw, hb1⟩
  have B1 := Lib.hid hb1
  have T1 := Lib.hid hT
  have hle := hT.le
  rw [HN.out] at hle
  have hglt := hT.lt
  clear hb1 LX hT hgw
  go_wp2_with fail
  go_loopw [7, 8] (fun v iv wr => ∃ (k : Nat) (cur : List Int), k ≤ n ∧ iv = .int .i64 k ∧ cur.length ≤ 20000 ∧ Hid (AG = cur ++ again (ts.drop k) (fun i => gapB (ks.getD (i + k) 0))) ∧ Hid (∀ x ∈ cur, 0 ≤ x ∧ x < 256) ∧ Hid (wr.ownsRow w1.heap.size 5 1 v cur.length (cur.map (Value.int .u8))) ∧ Hid (Below w1.heap.size w1 wr)) (fun _ iv _ => n - (intOf iv).toNat)
  case atStart => exact ⟨0, [], by omega, rfl, by simp, Lib.hid HAG.out.symm, Lib.hid (fun x hx => by simp at hx), Lib.hid (World.ownsRow_nil _ _ _ _), Lib.hid (Below.refl _ _)⟩
  case round =>
    obtain ⟨k, cur, hk, rfl, hcl, HA, HC, HO, HB⟩ := hrel
    by_cases hlt : k < n
    · obtain ⟨t, ht⟩ : ∃ t, ts[k]? = some t := ⟨ts[k]'(by have := HN.out; omega), List.getElem?_eq_getElem _⟩
      have htb := Lib.hid (HBy.out t (List.mem_of_getElem? ht))
      have k3 := (T1.out.on HB.out).cell (k * 5 + 3) (.string (strOfNums t.text)) (by rw [tok_cell ts k 3 t ht (by omega)]; rfl)
      have hA2 := HA.out
      rw [drop_cons ts k t ht] at hA2
      simp only [again] at hA2
      have hA3 : AG = (cur ++ (t.text ++ gapB (ks.getD k 0))) ++ again (ts.drop (k + 1)) (fun i => gapB (ks.getD (i + (k + 1)) 0)) := by
        rw [hA2, Nat.zero_add]
        simp only [List.append_assoc]
        congr 4
        funext i
        rw [Nat.add_assoc, Nat.add_comm 1 k]
      have hcl2 := congrArg List.length hA3
      simp only [List.length_append] at hcl2
      have HA3 := Lib.hid hA3
      obtain ⟨st, hst⟩ : ∃ st, strOfNums t.text = st := ⟨_, rfl⟩
      have hsz : st.size = t.text.length := by rw [← hst, strOfNums_size]
      rw [hst] at k3
      have HST := Lib.hid hst
      have HSZ := Lib.hid hsz
      have hb1 : cur.length + st.size ≤ 20000 := by omega
      have hb2 : cur.length + t.text.length + (gapB (ks.getD k 0)).length ≤ 20000 := by omega
      have HB2 := Lib.hid hb2
      clear hA2 hA3 hcl2 ht hst hsz hb2
      have ho := HO.out
      have hbz := HB.out.size
      go_wp2_with (at_builtin; refine Lib.wpList_append_own_string _ rfl (.tmp 32) (.tmp 37) 22 9 rfl w1.heap.size 5 i0 Tryz.underlying22 Tryz.underlying9 I0.out I1.out I2.out I3.out u7 cur.length (cur.map (Value.int .u8)) rfl ho st rfl ?c3 ?c4 ?c5 ?_)
      case c3 => unfold maxLen; omega
      case c4 => omega
      case c5 => omega
      intro v2 w2 hown2 hgrow2 _
      have hB2 : Below w1.heap.size w1 w2 := HB.out.grown hgrow2 HB.out.size (fun k hk => (ho.lt k hk).1)
      have HB22 := Lib.hid hB2
      have hO2 := Lib.hid hown2
      have hbz2 := hB2.size
      clear ho hgrow2 hown2 hB2 k3
      by_cases hk2 : k < len2
      · have hsrc2 := HS2.out.below (B1.out.trans (HB22.out.mono B1.out.size))
        obtain ⟨_, hby, hor⟩ := hsrc2
        obtain ⟨b2, off2, rfl, hc2, _, hx2⟩ : ∃ b off, p2 = some ⟨b, off, none⟩ ∧ len2 ≤ c2 ∧ b < w2.heap.size ∧ ∀ i, i < len2 → w2.cell? ⟨b, off + i, none⟩ = some (.int .u8 (ks.getD i 0)) := by
          rcases hor with ⟨h, _⟩ | h
          · omega
          · exact h
        have hcell := hx2 k hk2
        obtain ⟨kv, hkv⟩ : ∃ kv, ks.getD k 0 = kv := ⟨_, rfl⟩
        have hbk := hby k
        rw [hkv] at hcell hbk
        have HKV := Lib.hid hkv
        clear hor hx2 hby hkv
        have hq : kv % 4 = 0 ∨ kv % 4 = 1 ∨ kv % 4 = 2 ∨ kv % 4 = 3 := by omega
        rcases hq with hq | hq | hq | hq
        · have HGQ0 : Hid (gapB kv = [32]) := Lib.hid (by unfold gapB; rw [hq]; rfl)
          have hsg : strOfNums (gapB (ks.getD k 0)) = ⟨#[32]⟩ := by rw [HKV.out, HGQ0.out]; rfl
          have HSG := Lib.hid hsg
          have hb3 : cur.length + st.size + 1 ≤ 20000 := by
            have := HB2.out
            have h2 := congrArg ByteArray.size hsg
            rw [strOfNums_size] at h2
            have h3 : (ByteArray.mk #[32]).size = 1 := rfl
            have := HSZ.out
            omega
          clear hsg
          go_wp2_with (at_builtin; refine Lib.wpList_append_own_string _ rfl (.tmp 47) (.tmp 52) 22 9 rfl w1.heap.size 5 i0 Tryz.underlying22 Tryz.underlying9 I0.out I1.out I2.out I3.out v2 (cur.length + st.size) (cur.map (Value.int .u8) ++ Lib.strCells st) rfl (hO2.out.alloc _) ⟨#[32]⟩ rfl ?ac3 ?ac4 ?ac5 ?_)
          case ac3 => show _ + 1 ≤ maxLen; unfold maxLen; omega
          case ac4 => show _ + 1 ≤ _; omega
          case ac5 => simp; omega
          intro v3 w3 hown3 hgrow3 _
          have HB3 := Lib.hid ((HB22.out.alloc HB22.out.size (.cells #[.string ⟨#[32]⟩, .string ⟨#[10]⟩, .string ⟨#[9]⟩, .string ⟨#[35, 32, 120, 10]⟩] 9)).grown hgrow3 (by simp; omega) (fun k hk => (hO2.out.lt k hk).1))
          have HO3 := Lib.hid (own_two (by rfl) HST.out HSG.out htb.out (gapB_byte _) hown3)
          clear hown3 hgrow3
          go_wp2
          go_roundw
          case rel => exact ⟨k + 1, cur ++ (t.text ++ gapB (ks.getD k 0)), by omega, by go_num, by have := HB2.out; simp only [List.length_append]; omega, HA3, Lib.hid (fun x hx => by
            rcases List.mem_append.1 hx with h | h
            · exact HC.out x h
            · rcases List.mem_append.1 h with h | h
              · exact htb.out x h
              · exact gapB_byte _ x h), HO3, HB3⟩
          case measure => simp [intOf]; omega
        · have HGQ1 : Hid (gapB kv = [10]) := Lib.hid (by unfold gapB; rw [hq]; rfl)
          have hsg : strOfNums (gapB (ks.getD k 0)) = ⟨#[10]⟩ := by rw [HKV.out, HGQ1.out]; rfl
          have HSG := Lib.hid hsg
          have hb3 : cur.length + st.size + 1 ≤ 20000 := by
            have := HB2.out
            have h2 := congrArg ByteArray.size hsg
            rw [strOfNums_size] at h2
            have h3 : (ByteArray.mk #[10]).size = 1 := rfl
            have := HSZ.out
            omega
          clear hsg
          go_wp2_with (at_builtin; refine Lib.wpList_append_own_string _ rfl (.tmp 47) (.tmp 52) 22 9 rfl w1.heap.size 5 i0 Tryz.underlying22 Tryz.underlying9 I0.out I1.out I2.out I3.out v2 (cur.length + st.size) (cur.map (Value.int .u8) ++ Lib.strCells st) rfl (hO2.out.alloc _) ⟨#[10]⟩ rfl ?bc3 ?bc4 ?bc5 ?_)
          case bc3 => show _ + 1 ≤ maxLen; unfold maxLen; omega
          case bc4 => show _ + 1 ≤ _; omega
          case bc5 => simp; omega
          intro v3 w3 hown3 hgrow3 _
          have HB3 := Lib.hid ((HB22.out.alloc HB22.out.size (.cells #[.string ⟨#[32]⟩, .string ⟨#[10]⟩, .string ⟨#[9]⟩, .string ⟨#[35, 32, 120, 10]⟩] 9)).grown hgrow3 (by simp; omega) (fun k hk => (hO2.out.lt k hk).1))
          have HO3 := Lib.hid (own_two (by rfl) HST.out HSG.out htb.out (gapB_byte _) hown3)
          clear hown3 hgrow3
          go_wp2
          go_roundw
          case rel => exact ⟨k + 1, cur ++ (t.text ++ gapB (ks.getD k 0)), by omega, by go_num, by have := HB2.out; simp only [List.length_append]; omega, HA3, Lib.hid (fun x hx => by
            rcases List.mem_append.1 hx with h | h
            · exact HC.out x h
            · rcases List.mem_append.1 h with h | h
              · exact htb.out x h
              · exact gapB_byte _ x h), HO3, HB3⟩
          case measure => simp [intOf]; omega
        · have HGQ2 : Hid (gapB kv = [9]) := Lib.hid (by unfold gapB; rw [hq]; rfl)
          have hsg : strOfNums (gapB (ks.getD k 0)) = ⟨#[9]⟩ := by rw [HKV.out, HGQ2.out]; rfl
          have HSG := Lib.hid hsg
          have hb3 : cur.length + st.size + 1 ≤ 20000 := by
            have := HB2.out
            have h2 := congrArg ByteArray.size hsg
            rw [strOfNums_size] at h2
            have h3 : (ByteArray.mk #[9]).size = 1 := rfl
            have := HSZ.out
            omega
          clear hsg
          go_wp2_with (at_builtin; refine Lib.wpList_append_own_string _ rfl (.tmp 47) (.tmp 52) 22 9 rfl w1.heap.size 5 i0 Tryz.underlying22 Tryz.underlying9 I0.out I1.out I2.out I3.out v2 (cur.length + st.size) (cur.map (Value.int .u8) ++ Lib.strCells st) rfl (hO2.out.alloc _) ⟨#[9]⟩ rfl ?cc3 ?cc4 ?cc5 ?_)
          case cc3 => show _ + 1 ≤ maxLen; unfold maxLen; omega
          case cc4 => show _ + 1 ≤ _; omega
          case cc5 => simp; omega
          intro v3 w3 hown3 hgrow3 _
          have HB3 := Lib.hid ((HB22.out.alloc HB22.out.size (.cells #[.string ⟨#[32]⟩, .string ⟨#[10]⟩, .string ⟨#[9]⟩, .string ⟨#[35, 32, 120, 10]⟩] 9)).grown hgrow3 (by simp; omega) (fun k hk => (hO2.out.lt k hk).1))
          have HO3 := Lib.hid (own_two (by rfl) HST.out HSG.out htb.out (gapB_byte _) hown3)
          clear hown3 hgrow3
          go_wp2
          go_roundw
          case rel => exact ⟨k + 1, cur ++ (t.text ++ gapB (ks.getD k 0)), by omega, by go_num, by have := HB2.out; simp only [List.length_append]; omega, HA3, Lib.hid (fun x hx => by
            rcases List.mem_append.1 hx with h | h
            · exact HC.out x h
            · rcases List.mem_append.1 h with h | h
              · exact htb.out x h
              · exact gapB_byte _ x h), HO3, HB3⟩
          case measure => simp [intOf]; omega
        · have HGQ3 : Hid (gapB kv = [35, 32, 120, 10]) := Lib.hid (by unfold gapB; rw [hq]; rfl)
          have hsg : strOfNums (gapB (ks.getD k 0)) = ⟨#[35, 32, 120, 10]⟩ := by rw [HKV.out, HGQ3.out]; rfl
          have HSG := Lib.hid hsg
          have hb3 : cur.length + st.size + 4 ≤ 20000 := by
            have := HB2.out
            have h2 := congrArg ByteArray.size hsg
            rw [strOfNums_size] at h2
            have h3 : (ByteArray.mk #[35, 32, 120, 10]).size = 4 := rfl
            have := HSZ.out
            omega
          clear hsg
          go_wp2_with (at_builtin; refine Lib.wpList_append_own_string _ rfl (.tmp 47) (.tmp 52) 22 9 rfl w1.heap.size 5 i0 Tryz.underlying22 Tryz.underlying9 I0.out I1.out I2.out I3.out v2 (cur.length + st.size) (cur.map (Value.int .u8) ++ Lib.strCells st) rfl (hO2.out.alloc _) ⟨#[35, 32, 120, 10]⟩ rfl ?dc3 ?dc4 ?dc5 ?_)
          case dc3 => show _ + 4 ≤ maxLen; unfold maxLen; omega
          case dc4 => show _ + 4 ≤ _; omega
          case dc5 => simp; omega
          intro v3 w3 hown3 hgrow3 _
          have HB3 := Lib.hid ((HB22.out.alloc HB22.out.size (.cells #[.string ⟨#[32]⟩, .string ⟨#[10]⟩, .string ⟨#[9]⟩, .string ⟨#[35, 32, 120, 10]⟩] 9)).grown hgrow3 (by simp; omega) (fun k hk => (hO2.out.lt k hk).1))
          have HO3 := Lib.hid (own_two (by rfl) HST.out HSG.out htb.out (gapB_byte _) hown3)
          clear hown3 hgrow3
          go_wp2
          go_roundw
          case rel => exact ⟨k + 1, cur ++ (t.text ++ gapB (ks.getD k 0)), by omega, by go_num, by have := HB2.out; simp only [List.length_append]; omega, HA3, Lib.hid (fun x hx => by
            rcases List.mem_append.1 hx with h | h
            · exact HC.out x h
            · rcases List.mem_append.1 h with h | h
              · exact htb.out x h
              · exact gapB_byte _ x h), HO3, HB3⟩
          case measure => simp [intOf]; omega
      · have hk0 : gapB (ks.getD k 0) = [32] := by
          have e : ks.getD k 0 = 0 := by simp [List.getD, List.getElem?_eq_none (show ks.length ≤ k by have := hl2.out; omega)]
          rw [e]
          rfl
        have HK0 := Lib.hid hk0
        clear hk0
        have hsg : strOfNums (gapB (ks.getD k 0)) = ⟨#[32]⟩ := by rw [HK0.out]; rfl
        have HSG := Lib.hid hsg
        have hb3 : cur.length + st.size + 1 ≤ 20000 := by
          have := HB2.out
          have h2 := congrArg ByteArray.size hsg
          rw [strOfNums_size] at h2
          have h3 : (ByteArray.mk #[32]).size = 1 := rfl
          have := HSZ.out
          omega
        clear hsg
        go_wp2_with (at_builtin; refine Lib.wpList_append_own_string _ rfl (.tmp 47) (.tmp 52) 22 9 rfl w1.heap.size 5 i0 Tryz.underlying22 Tryz.underlying9 I0.out I1.out I2.out I3.out v2 (cur.length + st.size) (cur.map (Value.int .u8) ++ Lib.strCells st) rfl (hO2.out.alloc _) ⟨#[32]⟩ rfl ?zc3 ?zc4 ?zc5 ?_)
        case zc3 => show _ + 1 ≤ maxLen; unfold maxLen; omega
        case zc4 => show _ + 1 ≤ _; omega
        case zc5 => simp; omega
        intro v3 w3 hown3 hgrow3 _
        have HB3 := Lib.hid ((HB22.out.alloc HB22.out.size (.cells #[.string ⟨#[32]⟩, .string ⟨#[10]⟩, .string ⟨#[9]⟩, .string ⟨#[35, 32, 120, 10]⟩] 9)).grown hgrow3 (by simp; omega) (fun k hk => (hO2.out.lt k hk).1))
        have HO3 := Lib.hid (own_two (by rfl) HST.out HSG.out htb.out (gapB_byte _) hown3)
        clear hown3 hgrow3
        go_wp2
        go_roundw
        case rel => exact ⟨k + 1, cur ++ (t.text ++ gapB (ks.getD k 0)), by omega, by go_num, by have := HB2.out; simp only [List.length_append]; omega, HA3, Lib.hid (fun x hx => by
          rcases List.mem_append.1 hx with h | h
          · exact HC.out x h
          · rcases List.mem_append.1 h with h | h
            · exact htb.out x h
            · exact gapB_byte _ x h), HO3, HB3⟩
        case measure => simp [intOf]; omega
    · have hkn : k = n := by omega
      have hcur : AG = cur := by
        have := HA.out
        rw [List.drop_eq_nil_of_le (by have := HN.out; omega)] at this
        simpa [again] using this
      have HCU := Lib.hid hcur
      have hpc : 0 < cur.length := by rw [← hcur]; exact hpos
      have ho := HO.out
      obtain ⟨g2, cap2, rfl, _, hg2⟩ := ho.form hpc
      have hsrc := src_own ho rfl HC.out
      have HLL : Hid (cur.length ≤ 20000) := Lib.hid hcl
      have HS3 := Lib.hid hsrc
      have BW := Lib.hid (B1.out.trans (HB.out.mono B1.out.size))
      have HS0 := Lib.hid (HS.out.below BW.out)
      have HG0 := Lib.hid (HG.out.below BW.out)
      have HPS := Lib.hid (parse_same (ys := cur) HX.out (by rw [← HCU.out]; exact HU.out) HSm.out)
      have PA := Lib.hid (parse_at wr p len c xs HS0.out (by omega))
      have hxl : Hid (xs.length ≤ 60000) := Lib.hid (by have := hlen.out; omega)
      clear hkn hcur ho hsrc
      go_wp2_with fail
      (with_reducible refine PA.out.mono ?_)
      rintro e w5 ⟨hb5, hm5⟩
      clear PA
      rcases HPS.out with ⟨p1, q1, c1, e1, e2⟩ | ⟨ns, ms, e1, e2, hss⟩
      · rw [e1] at hm5
        obtain ⟨C1, l1, cc1, rfl, hE⟩ := hm5
        have HSS := Lib.hid e2
        have X1 := Lib.hid (hE.on (one_below w5 (.cells #[.slice none 0 0] 26)))
        have D1 := Lib.hid (Boxed.new w5 26 (.slice none 0 0))
        have HBB := Lib.hid (hb5.trans ((one_below w5 (.cells #[.slice none 0 0] 26)).mono hb5.size))
        have HG0 := Lib.hid (HG0.out.below HBB.out)
        have BW := Lib.hid (BW.out.trans (HBB.out.mono BW.out.size))
        have HS3 := Lib.hid (HS3.out.below HBB.out)
        clear HBB
        have PA := Lib.hid (parse_at _ _ cur.length cap2 cur HS3.out (by have := HLL.out; omega))
        clear hb5 hE e1 e2
        go_wp2_with fail
        (with_reducible refine PA.out.mono ?_)
        rintro e w6 ⟨hb6, hm6⟩
        clear PA
        rw [HSS.out] at hm6
        obtain ⟨C2, l2, cc2, rfl, hE⟩ := hm6
        have X2 := Lib.hid (hE.on (one_below w6 (.cells #[.slice none 0 0] 26)))
        have D2 := Lib.hid (Boxed.new w6 26 (.slice none 0 0))
        have HBB := Lib.hid (hb6.trans ((one_below w6 (.cells #[.slice none 0 0] 26)).mono hb6.size))
        have HG0 := Lib.hid (HG0.out.below HBB.out)
        have BW := Lib.hid (BW.out.trans (HBB.out.mono BW.out.size))
        have HS3 := Lib.hid (HS3.out.below HBB.out)
        have X1 := Lib.hid (X1.out.on HBB.out)
        have D1 := Lib.hid (boxed_on D1.out HBB.out)
        clear HBB
        clear hb6 hE
        have CE := Lib.hid (code_err HG0.out X1.out)
        go_wp2_with fail
        (with_reducible refine CE.out.mono ?_)
        rintro e w7 ⟨rfl, hb⟩
        clear CE
        have HBB := Lib.hid (hb)
        have HG0 := Lib.hid (HG0.out.below HBB.out)
        have BW := Lib.hid (BW.out.trans (HBB.out.mono BW.out.size))
        have HS3 := Lib.hid (HS3.out.below HBB.out)
        have X1 := Lib.hid (X1.out.on HBB.out)
        have D1 := Lib.hid (boxed_on D1.out HBB.out)
        have X2 := Lib.hid (X2.out.on HBB.out)
        have D2 := Lib.hid (boxed_on D2.out HBB.out)
        clear HBB
        clear hb
        have CE := Lib.hid (code_err HG0.out X2.out)
        go_wp2_with fail
        (with_reducible refine CE.out.mono ?_)
        rintro e w8 ⟨rfl, hb⟩
        clear CE
        have HBB := Lib.hid (hb)
        have HG0 := Lib.hid (HG0.out.below HBB.out)
        have BW := Lib.hid (BW.out.trans (HBB.out.mono BW.out.size))
        have HS3 := Lib.hid (HS3.out.below HBB.out)
        have X1 := Lib.hid (X1.out.on HBB.out)
        have D1 := Lib.hid (boxed_on D1.out HBB.out)
        have X2 := Lib.hid (X2.out.on HBB.out)
        have D2 := Lib.hid (boxed_on D2.out HBB.out)
        clear HBB
        clear hb
        have k1 := D1.out.cell
        have k2 := D2.out.cell
        have SM := Lib.hid (Tr.same_at w8 none none 0 0 0 0 [] [] (tv_nil w8) (tv_nil w8) ⟨Nat.zero_le _, fun nd h => by simp at h⟩)
        have hsm : Tr.sameP [] [] = true := rfl
        rw [hsm] at SM
        go_wp2_with fail
        (with_reducible refine SM.out.mono ?_)
        rintro e w9 ⟨rfl, hb⟩
        clear SM k1 k2
        have HBB := Lib.hid (hb)
        have HG0 := Lib.hid (HG0.out.below HBB.out)
        have BW := Lib.hid (BW.out.trans (HBB.out.mono BW.out.size))
        have HS3 := Lib.hid (HS3.out.below HBB.out)
        have X1 := Lib.hid (X1.out.on HBB.out)
        have D1 := Lib.hid (boxed_on D1.out HBB.out)
        have X2 := Lib.hid (X2.out.on HBB.out)
        have D2 := Lib.hid (boxed_on D2.out HBB.out)
        clear HBB
        clear hb
        have WK := Lib.hid (works_at w9 HG0.out)
        go_wp2_with fail
        (with_reducible refine WK.out.mono ?_)
        rintro e w10 ⟨rfl, hb⟩
        clear WK
        have HBB := Lib.hid (hb)
        have HG0 := Lib.hid (HG0.out.below HBB.out)
        have BW := Lib.hid (BW.out.trans (HBB.out.mono BW.out.size))
        have HS3 := Lib.hid (HS3.out.below HBB.out)
        have X1 := Lib.hid (X1.out.on HBB.out)
        have D1 := Lib.hid (boxed_on D1.out HBB.out)
        have X2 := Lib.hid (X2.out.on HBB.out)
        have D2 := Lib.hid (boxed_on D2.out HBB.out)
        clear HBB
        clear hb
        go_wp2
        go_ret
        exact ⟨rfl, BW.out⟩
      · rw [e1] at hm5
        obtain ⟨tp, tl, tc, rfl, hE⟩ := hm5
        have HSS := Lib.hid e2
        have HE1 := Lib.hid e1
        have HQ := Lib.hid hss
        have X1 := Lib.hid (hE.on (one_below w5 (.cells #[.slice tp tl tc] 26)))
        have D1 := Lib.hid (Boxed.new w5 26 (.slice tp tl tc))
        have HBB := Lib.hid (hb5.trans ((one_below w5 (.cells #[.slice tp tl tc] 26)).mono hb5.size))
        have HG0 := Lib.hid (HG0.out.below HBB.out)
        have BW := Lib.hid (BW.out.trans (HBB.out.mono BW.out.size))
        have HS3 := Lib.hid (HS3.out.below HBB.out)
        clear HBB
        have PA := Lib.hid (parse_at _ _ cur.length cap2 cur HS3.out (by have := HLL.out; omega))
        clear hb5 hE e1 e2 hss
        go_wp2_with fail
        (with_reducible refine PA.out.mono ?_)
        rintro e w6 ⟨hb6, hm6⟩
        clear PA
        rw [HSS.out] at hm6
        obtain ⟨tp2, tl2, tc2, rfl, hE⟩ := hm6
        have X2 := Lib.hid (hE.on (one_below w6 (.cells #[.slice tp2 tl2 tc2] 26)))
        have D2 := Lib.hid (Boxed.new w6 26 (.slice tp2 tl2 tc2))
        have HBB := Lib.hid (hb6.trans ((one_below w6 (.cells #[.slice tp2 tl2 tc2] 26)).mono hb6.size))
        have HG0 := Lib.hid (HG0.out.below HBB.out)
        have BW := Lib.hid (BW.out.trans (HBB.out.mono BW.out.size))
        have HS3 := Lib.hid (HS3.out.below HBB.out)
        have X1 := Lib.hid (X1.out.on HBB.out)
        have D1 := Lib.hid (boxed_on D1.out HBB.out)
        clear HBB
        clear hb6 hE
        have CE := Lib.hid (code_none (w6.alloc (.cells #[.slice tp2 tl2 tc2] 26)))
        go_wp2_with fail
        (with_reducible refine CE.out.mono ?_)
        rintro e w7 ⟨rfl, hb⟩
        clear CE
        have HBB := Lib.hid (hb)
        have HG0 := Lib.hid (HG0.out.below HBB.out)
        have BW := Lib.hid (BW.out.trans (HBB.out.mono BW.out.size))
        have HS3 := Lib.hid (HS3.out.below HBB.out)
        have X1 := Lib.hid (X1.out.on HBB.out)
        have D1 := Lib.hid (boxed_on D1.out HBB.out)
        have X2 := Lib.hid (X2.out.on HBB.out)
        have D2 := Lib.hid (boxed_on D2.out HBB.out)
        clear HBB
        clear hb
        have CE := Lib.hid (code_none w7)
        go_wp2_with fail
        (with_reducible refine CE.out.mono ?_)
        rintro e w8 ⟨rfl, hb⟩
        clear CE
        have HBB := Lib.hid (hb)
        have HG0 := Lib.hid (HG0.out.below HBB.out)
        have BW := Lib.hid (BW.out.trans (HBB.out.mono BW.out.size))
        have HS3 := Lib.hid (HS3.out.below HBB.out)
        have X1 := Lib.hid (X1.out.on HBB.out)
        have D1 := Lib.hid (boxed_on D1.out HBB.out)
        have X2 := Lib.hid (X2.out.on HBB.out)
        have D2 := Lib.hid (boxed_on D2.out HBB.out)
        clear HBB
        clear hb
        have k1 := D1.out.cell
        have k2 := D2.out.cell
        have SM := Lib.hid (Tr.same_at w8 tp tp2 tl tc tl2 tc2 ns ms X1.out X2.out (parse_small HE1.out hxl.out))
        have hsm := sameP_of HQ.out
        rw [hsm] at SM
        go_wp2_with fail
        (with_reducible refine SM.out.mono ?_)
        rintro e w9 ⟨rfl, hb⟩
        clear SM k1 k2
        have HBB := Lib.hid (hb)
        have HG0 := Lib.hid (HG0.out.below HBB.out)
        have BW := Lib.hid (BW.out.trans (HBB.out.mono BW.out.size))
        have HS3 := Lib.hid (HS3.out.below HBB.out)
        have X1 := Lib.hid (X1.out.on HBB.out)
        have D1 := Lib.hid (boxed_on D1.out HBB.out)
        have X2 := Lib.hid (X2.out.on HBB.out)
        have D2 := Lib.hid (boxed_on D2.out HBB.out)
        clear HBB
        clear hb
        have WK := Lib.hid (works_at w9 HG0.out)
        go_wp2_with fail
        (with_reducible refine WK.out.mono ?_)
        rintro e w10 ⟨rfl, hb⟩
        clear WK
        have HBB := Lib.hid (hb)
        have HG0 := Lib.hid (HG0.out.below HBB.out)
        have BW := Lib.hid (BW.out.trans (HBB.out.mono BW.out.size))
        have HS3 := Lib.hid (HS3.out.below HBB.out)
        have X1 := Lib.hid (X1.out.on HBB.out)
        have D1 := Lib.hid (boxed_on D1.out HBB.out)
        have X2 := Lib.hid (X2.out.on HBB.out)
        have D2 := Lib.hid (boxed_on D2.out HBB.out)
        clear HBB
        clear hb
        go_wp2
        go_ret
        exact ⟨rfl, BW.out⟩
theorem parseBlanks (w : World) (p : Option Addr) (len c : Nat) (xs : List Int) (p2 : Option Addr) (len2 c2 : Nat) (ks : List Int) (hs : Src w p len c xs) (hs2 : Src w p2 len2 c2 ks) (hg : ET w) :
    Calls Tryz.prog 4 #[.slice p len c, .slice p2 len2 c2] w fun e w' => e = .returned (.bool true) ∧ Below w.heap.size w w' := by
  by_cases hb : len ≤ 1000
  · cases hx : lexS xs with
    | error e => exact parseBlanks_err w p len c _ xs hs hg hb e.1 e.2 hx
    | ok ts => exact parseBlanks_ok w p len c xs p2 len2 c2 ks hs hs2 hg hb ts hx
  · exact parseBlanks_big w p len c _ hg (by omega)
end Go.Proofs.YtkakhldlmfdcdaaGreatDoor
end
