/- Contracts on the way to the laws of layer 5: ParseFp. -/
import Derived.Test.YthdioipfdbbmmaaGreatDoorKaa
import Derived.Test.YthdioipfdbbmmaaGreatDoorKbf
set_option linter.all false
set_option maxRecDepth 1000000
set_option maxHeartbeats 16000000
namespace Go.Proofs.YthdioipfdbbmmaaGreatDoor
section
open Go.RowKit
attribute [local go_sem] Oper.semAt_some
def lenV : Value → Nat
 | .slice _ n _ => n
 | _ => 0
theorem madeInts (N : Nat) : (madeCells #[.int .i64 0] N).size = N ∧ ∀ j, j < N → (madeCells #[.int .i64 0] N)[j]? = some (.int .i64 0) := by
 refine ⟨size_madeCells _ _, fun j hj => ?_⟩
 simp [madeCells, hj, Nat.mod_one]
theorem F1.begin (W0 : World) (kvs : List Value) (N : Nat) (z : Int) (hN : N ≤ 70000) : F1 W0.heap.size W0 kvs N W0.heap.size (W0.heap.size + 1 + 1 + 1) (fun _ => 0) [] (.slice (some ⟨W0.heap.size + 1, 0, none⟩) 0 N) (.slice (some ⟨W0.heap.size + 1 + 1, 0, none⟩) 1 1) [z] []
 ((((W0.alloc (.cells (madeCells #[.int .i64 0] N) 3)).alloc (.cells (madeCells #[.int .u8 0, .int .i64 0, .string ⟨#[]⟩, .int .i64 0, .slice none 0 0] (N * 5)) 54)).alloc (.cells #[.int .i64 z] 3)).alloc (.cells #[.slice (some ⟨W0.heap.size + 1 + 1, 0, none⟩) 1 1] 32)) where
 below := ((((Below.refl _ _).alloc (Nat.le_refl _) _).alloc (by simp) _).alloc (by simp; omega) _).alloc (by simp; omega) _
 size := by simp; omega
 bp0 := Nat.le_refl _
 bq0 := by omega
 places := by
  obtain ⟨h1, h2⟩ := madeInts N
  refine ⟨_, ?_, h1, h2⟩
  rw [Below.heap_alloc _ _ _ (by simp; omega), Below.heap_alloc _ _ _ (by simp; omega), Below.heap_alloc _ _ _ (by simp)]
  exact World.alloc_heap_new W0 _
 nodes := by
  have h1 := World.ownsRow_made (base := W0.heap.size) (e := 54) (size := 5) (W0.alloc (.cells (madeCells #[.int .i64 0] N) 3)) (madeCells #[.int .u8 0, .int .i64 0, .string ⟨#[]⟩, .int .i64 0, .slice none 0 0] (N * 5)) N (by simp) (by simp [maxLen]; omega) (size_madeCells _ _)
  rw [World.size_alloc] at h1
  exact (h1.alloc _).alloc _
 box := by
  have h1 := Boxed.new (((W0.alloc (.cells (madeCells #[.int .i64 0] N) 3)).alloc (.cells (madeCells #[.int .u8 0, .int .i64 0, .string ⟨#[]⟩, .int .i64 0, .slice none 0 0] (N * 5)) 54)).alloc (.cells #[.int .i64 z] 3)) 32 (.slice (some ⟨W0.heap.size + 1 + 1, 0, none⟩) 1 1)
  simp only [World.size_alloc] at h1
  exact h1
 pile := by
  have h1 := World.ownsRow_lit (base := W0.heap.size) (e := 3) (size := 1) ((W0.alloc (.cells (madeCells #[.int .i64 0] N) 3)).alloc (.cells (madeCells #[.int .u8 0, .int .i64 0, .string ⟨#[]⟩, .int .i64 0, .slice none 0 0] (N * 5)) 54)) #[.int .i64 z] 1 (by simp; omega) (by simp [maxLen]) (by simp)
  simp only [World.size_alloc] at h1
  exact h1.alloc _
 sep := by simp [Value.ownBlock]; omega
 marks := fun r hr => by simp at hr
 dist := List.nodup_nil
theorem Made.alloc {B : Nat} {w : World} {v : Value} {kvs : List Value} {md : List Nd} (h : Made B w v kvs md) (o : Obj) : Made B (w.alloc o) v kvs md where
 base := by have := h.base; simp; omega
 own := h.own.alloc o
 klen := h.klen
 kids := fun j hj => (h.kids j hj).grown (World.grownBy_alloc w o none) (by cases (kvs.getD j default).ownBlock <;> simp)
 apart := h.apart
 pair := h.pair
 few := h.few
section
theorem made_cell {B gm N cm : Nat} {w0 wr : World} {kvs : List Value} {md : List Nd} (hM : Made B w0 (.slice (some ⟨gm, 0, none⟩) N cm) kvs md) (hN : N = md.length) (hb : Below w0.heap.size w0 wr) {q : Nat} {nd : Nd} (hq : md[q]? = some nd) {i : Nat} {u : Value} (hi : (nodeC nd (kvs.getD q default))[i]? = some u) : wr.cell? ⟨gm, q * 5 + i, none⟩ = some u := by
 have hlt := (List.getElem?_eq_some_iff.1 hq).1
 have h5 : i < 5 := by have := (List.getElem?_eq_some_iff.1 hi).1; simpa [nodeC] using this
 have hg := (hM.own.lt gm rfl).2
 rw [hb.cell (p := ⟨gm, q * 5 + i, none⟩) hg]
 have hown := hM.own
 rw [← hN] at hown
 rw [hown.cellAt (q * 5 + i) (by omega), cellsM_get md kvs hM.klen q hlt i h5]
 rw [show md.getD q default = nd by simp [List.getD, hq]]
 exact hi
theorem rawS_long (st : List (Nat × Ast)) : st.length ≤ (rawS st).length := by
 induction st with
 | nil => simp
 | cons y r ih =>
  obtain ⟨b, x⟩ := y
  have := size_pos x
  simp only [rawS, List.length_append, List.length_cons, raw_length]
  omega
theorem raw_first {a : Ast} {b : Nat} {k : Int} {p : Nat} {t : ByteArray} {n : Int} {ks : List Ast} {D : List (Nat × Nd)} {st : List (Nat × Ast)} (h : raw 0 a = D ++ rawS ((b, .mk k p t n ks) :: st)) :
 b + sizeL ks < a.size ∧ (post 0 a)[b + sizeL ks]? = some ⟨k, p, t, n, roots b ks⟩ ∧ D.length < a.size ∧ raw 0 a = (D ++ [(b + sizeL ks, ⟨k, p, t, n, roots b ks⟩)]) ++ rawS (pairsOf b ks ++ st) ∧ ∀ (i : Nat) (x : Nat × Nd), D[i]? = some x → x.1 ≠ b + sizeL ks := by
 rw [rawS_cons] at h
 have hmem : (b + sizeL ks, (⟨k, p, t, n, roots b ks⟩ : Nd)) ∈ raw 0 a := by rw [h]; simp
 have h1 := raw_range 0 a _ hmem
 have h2 := raw_post 0 a _ hmem
 have hl := congrArg List.length h
 rw [raw_length, List.length_append, List.length_cons] at hl
 simp only [Nat.zero_add, Nat.sub_zero] at h1 h2
 refine ⟨h1.2, h2, by omega, by rw [h]; simp, fun i x hx e => ?_⟩
 have hnd := raw_nodup 0 a
 rw [h, List.map_append, List.map_cons] at hnd
 have := (List.nodup_append.1 hnd).2.2 x.1 (List.mem_map.2 ⟨x, List.mem_of_getElem? hx, rfl⟩) (b + sizeL ks) (by simp)
 exact this e
theorem flat_at (B : Nat) (v : Value) (kvs : List Value) (a : Ast) (w : World) (hM : Made B w v kvs (post 0 a)) :
 Calls Tryz.prog 74 #[v, .int .i64 ((a.size : Int) - 1)] w fun e w' => ∃ p len cap, e = .returned (.agg #[.slice p len cap]) ∧ (∀ wX : World, (∀ k, B ≤ k → wX.heap[k]? = w'.heap[k]?) → Tr.TV wX p len cap (flat 0 a)) ∧ Below B w w' := by
 obtain ⟨gm, cm, rfl⟩ : ∃ gm cm, v = .slice (some ⟨gm, 0, none⟩) a.size cm := by
  have h1 := hM.own
  rw [post_length] at h1
  have h2 := size_pos a
  obtain ⟨g, cap, h3⟩ := World.ownsRow.form h1 (by omega)
  exact ⟨g, cap, h3.1⟩
 have HM := lh hM
 have hsz : 1 ≤ a.size := size_pos a
 have hfew : a.size ≤ 70000 := by have := hM.few; rwa [post_length] at this
 obtain ⟨i1, hi1, hz1, hs1, hb1⟩ := info_partsP infoInt
 obtain ⟨i5, hi5, hz5, hs5, hb5⟩ := info_partsP infoNode
 have hm1 : ∀ W : World, (Instr.makeSlice 32 (.int .i64 (a.size : Int)) (.int .i64 (a.size : Int))).run Tryz.prog W = .ok (.slice (some ⟨W.heap.size, 0, none⟩) a.size a.size) (W.alloc (.cells (madeCells (Value.int .i64 0).cells (a.size * 1)) 3)) := fun W => by
  have := run_makeSlice (P := Tryz.prog) (w := W) 32 3 i1 _ Tryz.underlying32 hi1 hz1 .i64 .i64 a.size a.size (by omega) (Int.le_refl _) (by rw [hs1]; omega) (by rw [hb1]; omega) (by omega)
  rw [hs1] at this
  simpa using this
 have hm5 : ∀ W : World, (Instr.makeSlice 37 (.int .i64 0) (.int .i64 (a.size : Int))).run Tryz.prog W = .ok (.slice (some ⟨W.heap.size, 0, none⟩) 0 a.size) (W.alloc (.cells (madeCells (Value.agg #[.int .u8 0, .int .i64 0, .string ⟨#[]⟩, .int .i64 0, .slice none 0 0]).cells (a.size * 5)) 54)) := fun W => by
  have := run_makeSlice (P := Tryz.prog) (w := W) 37 54 i5 _ Tryz.underlying37 hi5 hz5 .i64 .i64 0 a.size (by omega) (by omega) (by rw [hs5]; omega) (by rw [hb5]; omega) (by omega)
  rw [hs5] at this
  simpa using this
 have I1 := lh (And.intro hi1 (And.intro hz1 (And.intro hs1 hb1)))
 have I5 := lh (And.intro hi5 (And.intro hz5 (And.intro hs5 hb5)))
 clear hM hi1 hz1 hs1 hb1 hi5 hz5 hs5 hb5
 refine callsIn_wide.1 (callsIn_of_wp_marks (n := 5) Tryz.func74 rfl trivial (wpIn_wide.2 ?_) rfl)
 simp only [Tryz.ntmps74, List.size_toArray, List.length_cons, List.length_nil, Nat.reduceAdd, Nat.reduceSub, Array.replicate_succ, Array.replicate_zero, List.push_toArray, List.append_toArray, List.nil_append, List.cons_append]
 go_wp2_with fail
 clear hm1 hm5
 obtain ⟨W0, hW0⟩ : ∃ W0, w.alloc (.cells #[.slice none 0 0] 39) = W0 := ⟨_, rfl⟩
 have hN : W0.heap.size = w.heap.size + 1 := by rw [← hW0]; simp
 have HM0 : Hid (Made B W0 (.slice (some ⟨gm, 0, none⟩) a.size cm) kvs (post 0 a)) := lh (by rw [← hW0]; exact HM.out.alloc _)
 have S0 : F1 W0.heap.size W0 kvs a.size (w.heap.size + 1) (w.heap.size + 1 + 1 + 1 + 1) (fun _ => 0) [] (.slice (some ⟨w.heap.size + 1 + 1, 0, none⟩) 0 a.size) (.slice (some ⟨w.heap.size + 1 + 1 + 1, 0, none⟩) 1 1) (tops [(0, a)]).reverse []
  (((((w.alloc (.cells #[.slice none 0 0] 39)).alloc (.cells (madeCells #[.int .i64 0] a.size) 3)).alloc (.cells (madeCells #[.int .u8 0, .int .i64 0, .string ⟨#[]⟩, .int .i64 0, .slice none 0 0] (a.size * 5)) 54)).alloc (.cells #[.int .i64 ((a.size : Int) - 1)] 3)).alloc (.cells #[.slice (some ⟨w.heap.size + 1 + 1 + 1, 0, none⟩) 1 1] 32)) := by
  have h1 := F1.begin W0 kvs a.size ((a.size : Int) - 1) hfew
  rw [hW0, ← hN]
  have h2 : (tops [(0, a)]).reverse = [(a.size : Int) - 1] := by simp [tops]
  rw [h2]
  exact h1
 rw [hW0]
 rw [hW0] at S0
 generalize hW5 : (((W0.alloc (.cells (madeCells #[.int .i64 0] a.size) 3)).alloc (.cells (madeCells #[.int .u8 0, .int .i64 0, .string ⟨#[]⟩, .int .i64 0, .slice none 0 0] (a.size * 5)) 54)).alloc (.cells #[.int .i64 ((a.size : Int) - 1)] 3)).alloc (.cells #[.slice (some ⟨w.heap.size + 1 + 1 + 1, 0, none⟩) 1 1] 32) = W5 at *
 clear hW5
 refine wp_loop (fun act wr => ∃ (F : Nat → Int) (D : List (Nat × Nd)) (st : List (Nat × Ast)) (pv : Value) (rs : List Nat) (u6 u8 u10 u23 u24 u25 u26 u27 u28 u29 u30 u31 u32 u33 u34 u35 u36 u37 u38 u39 u40 u41 u42 u43 u44 u45 u46 u47 u48 u49 u50 u51 u52 u53 u54 u55 u56 u57 u58 u59 u60 : Value),
  (F1 W0.heap.size W0 kvs a.size (w.heap.size + 1) (w.heap.size + 1 + 1 + 1 + 1) F D u6 pv (tops st).reverse rs wr ∧ raw 0 a = D ++ rawS st ∧ (∀ (i : Nat) (x : Nat × Nd), D[i]? = some x → F x.1 = (i : Int))) ∧ act = { tmps := (.slice (some ⟨gm, 0, none⟩) a.size cm :: .int .i64 ((a.size : Int) - 1) :: undef :: undef :: .pointer (some ⟨w.heap.size, 0, none⟩) :: .slice (some ⟨w.heap.size + 1, 0, none⟩) a.size a.size :: u6 :: .pointer (some ⟨w.heap.size + 1 + 1 + 1 + 1, 0, none⟩) :: u8 :: undef :: u10 :: undef :: undef :: undef :: undef :: .slice (some ⟨gm, 0, none⟩) a.size cm :: .int .i64 (a.size : Int) :: .slice (some ⟨w.heap.size + 1, 0, none⟩) a.size a.size :: .slice (some ⟨gm, 0, none⟩) a.size cm :: .int .i64 (a.size : Int) :: .slice (some ⟨w.heap.size + 1 + 1, 0, none⟩) 0 a.size :: .int .i64 ((a.size : Int) - 1) :: .slice (some ⟨w.heap.size + 1 + 1 + 1, 0, none⟩) 1 1 :: u23 :: u24 :: u25 :: u26 :: u27 :: u28 :: u29 :: u30 :: u31 :: u32 :: u33 :: u34 :: u35 :: u36 :: u37 :: u38 :: u39 :: u40 :: u41 :: u42 :: u43 :: u44 :: u45 :: u46 :: u47 :: u48 :: u49 :: u50 :: u51 :: u52 :: u53 :: u54 :: u55 :: u56 :: u57 :: u58 :: u59 :: u60 :: undef :: undef :: undef :: undef :: undef :: undef :: undef :: undef :: undef :: undef :: undef :: undef :: undef :: undef :: undef :: undef :: undef :: undef :: undef :: undef :: undef :: undef :: undef :: undef :: undef :: undef :: []).toArray, defers := rs.map markOf }) (fun act _ => a.size - lenV (act.tmps.getD 6 undef)) ?_ ?_
 · exact ⟨_, _, [(0, a)], _, [], _, _, _, _, _, _, _, _, _, _, _, _, _, _, _, _, _, _, _, _, _, _, _, _, _, _, _, _, _, _, _, _, _, _, _, _, _, _, _, _, _, ⟨S0, by simp [rawS], fun i x h => by simp at h⟩, rfl⟩
 · rintro act wr ⟨F, D, st, pv, rs, u6, u8, u10, u23, u24, u25, u26, u27, u28, u29, u30, u31, u32, u33, u34, u35, u36, u37, u38, u39, u40, u41, u42, u43, u44, u45, u46, u47, u48, u49, u50, u51, u52, u53, u54, u55, u56, u57, u58, u59, u60, ⟨S, hraw, hF⟩, rfl⟩
   cases st with
   | nil =>
    have hDr : D = raw 0 a := by rw [hraw]; simp [rawS]
    have hDl : D.length = a.size := by rw [hDr, raw_length]
    obtain ⟨pp, pc, rfl⟩ : ∃ pp pc, pv = .slice pp 0 pc := by
     rcases S.pile.2 with ⟨h1, h2⟩ | ⟨g, c, cur, h1, _⟩
     · exact ⟨_, _, h1⟩
     · exact ⟨some ⟨g, 0, none⟩, c, by rw [h1]; simp [tops]⟩
    obtain ⟨gv, vc, rfl, _, _⟩ := World.ownsRow.form S.nodes (by omega)
    have bx0 := S.box.cell
    have hres : Boxed wr w.heap.size 39 (.slice none 0 0) := by
     have h1 : W0.heap[w.heap.size]? = some (.cells #[.slice none 0 0] 39 (0, 0)) := by rw [← hW0]; exact World.alloc_heap_new w _
     exact (S.below.block w.heap.size (by omega)).trans h1
    have T0 : F2 B W0.heap.size W0 kvs a.size (w.heap.size + 1) F D (.slice (some ⟨gv, 0, none⟩) D.length vc) (kidsK F D 0 0) rs wr :=
     (S.go HM0.out rfl (fun i x hx => by
      have h1 := raw_post 0 a x (by rw [← hDr]; exact List.mem_of_getElem? hx)
      rwa [Nat.sub_zero] at h1) (by rw [hDr]; exact raw_nodup 0 a)).congr (fun i _ => (kidsK_zero F D i).symm)
    have HF := lh hF
    have HBN := HM0.out.base
    have hsk : ∀ i, (startK D i).length ≤ 70000 := fun i => by
     by_cases hi : i < D.length
     · have h1 : D.getD i default ∈ raw 0 a := by rw [← hDr]; simp [List.getD, hi]
       have h2 := raw_few 0 a _ h1
       unfold startK
       omega
     · have h1 : D.getD i default = default := by simp only [List.getD]; rw [List.getElem?_eq_none (by omega)]; rfl
       unfold startK
       rw [h1]
       exact Nat.zero_le _
    have HSK := lh hsk
    have HDr := lh hDr
    have HDl := lh hDl
    clear S hraw hF S0 hDr hDl hsk
    dsimp only
    go_wp2_with fail
    go_loopw [63] (fun iv w2 => ∃ i : Nat, i ≤ D.length ∧ iv = .int .i64 (i : Int) ∧ Hid (F2 B W0.heap.size W0 kvs a.size (w.heap.size + 1) F D (.slice (some ⟨gv, 0, none⟩) D.length vc) (kidsK F D i 0) rs w2) ∧ Hid (Boxed w2 w.heap.size 39 (.slice none 0 0))) (fun iv _ => D.length - (intOf iv).toNat)
    case atStart => exact ⟨0, Nat.zero_le _, rfl, lh T0, lh hres⟩
    case round =>
     obtain ⟨i, hi, rfl, T, HR⟩ := hrel
     clear T0 hres bx0
     by_cases hlt : i < D.length
     · have hx : D[i]? = some (D.getD i default) := by simp [List.getD, hlt]
       obtain ⟨kp, kc, hkv, hkp⟩ := T.out.kidV i hlt
       rw [kidsK_length] at hkv hkp
       have hc : ∀ q u, (nodeC (D.getD i default).2 (kvs.getD (D.getD i default).1 default))[q]? = some u → wr.cell? ⟨gv, i * 5 + q, none⟩ = some u := fun q u hq => by
        have h5 : q < 5 := by have := (List.getElem?_eq_some_iff.1 hq).1; simpa [nodeC] using this
        rw [T.out.nodes.cellAt (i * 5 + q) (by omega), rowD_get kvs D i _ hx q h5]
        exact hq
       have c0 := hc 0 _ rfl
       have c1 := hc 1 _ rfl
       have c2 := hc 2 _ rfl
       have c3 := hc 3 _ rfl
       have c4 := hc 4 _ rfl
       rw [hkv] at c4
       rw [Nat.add_zero] at c0
       have hi0 : (0 : Int) ≤ (i : Int) := by omega
       have hi1 : (i : Int) < (D.length : Int) := by omega
       generalize hnd : (D.getD i default).2 = nd at *
       have HKV := lh hkv
       have T1 := lh (T.out.grown HBN (World.grownBy_alloc wr (.cells #[.int .u8 nd.kind, .int .i64 nd.at', .string nd.text, .int .i64 nd.n, .slice kp (startK D i).length kc] 54) none))
       have R1 := lh (HR.out.alloc (.cells #[.int .u8 nd.kind, .int .i64 nd.at', .string nd.text, .int .i64 nd.n, .slice kp (startK D i).length kc] 54))
       have hN9 := T.out.size
       have hi7 : i + 1 ≤ 70000 := by have := HDl.out; omega
       have hk7 := HSK.out i
       have hl4 : (wr.alloc (.cells #[.int .u8 nd.kind, .int .i64 nd.at', .string nd.text, .int .i64 nd.n, .slice kp (startK D i).length kc] 54)).cell? ⟨wr.heap.size, 4, none⟩ = some (.slice kp (startK D i).length kc) := by simp
       clear hc hkv hkp HR T
       go_wp2_with fail
       generalize hqn : wr.heap.size = qn at *
       generalize hW : wr.alloc (.cells #[.int .u8 nd.kind, .int .i64 nd.at', .string nd.text, .int .i64 nd.n, .slice kp (startK D i).length kc] 54) = W7 at *
       clear c0 c1 c2 c3 c4 hW
       go_loopw [70] (fun jv w3 => ∃ j : Nat, j ≤ (startK D i).length ∧ jv = .int .i64 (j : Int) ∧ Hid (F2 B W0.heap.size W0 kvs a.size (w.heap.size + 1) F D (.slice (some ⟨gv, 0, none⟩) D.length vc) (kidsK F D i j) rs w3) ∧ Hid (Boxed w3 w.heap.size 39 (.slice none 0 0)) ∧ w3.cell? ⟨qn, 4, none⟩ = some (.slice kp (startK D i).length kc)) (fun jv _ => (startK D i).length - (intOf jv).toNat)
       case atStart => exact ⟨0, Nat.zero_le _, rfl, T1, R1, hl4⟩
       case round =>
        obtain ⟨j, hj, rfl, T2, R2, hl5⟩ := hrel
        clear T1 R1 hl4
        by_cases hjl : j < (startK D i).length
        · obtain ⟨kp2, kc2, hkv2, hkp2⟩ := T2.out.kidV i hlt
          have hlen := kidsK_length F D i j i
          rw [HKV.out, hlen] at hkv2
          simp only [Value.slice.injEq, true_and] at hkv2
          obtain ⟨rfl, rfl⟩ := hkv2
          obtain ⟨g, rfl, hcell, hfz, hg0⟩ := hkp2 (by omega)
          obtain ⟨z, hz⟩ : ∃ z, (startK D i)[j]? = some z := ⟨_, List.getElem?_eq_getElem hjl⟩
          obtain ⟨y, hy, rfl⟩ : ∃ y ∈ raw 0 a, z = (y.1 : Int) := raw_kids 0 a (D.getD i default) (by rw [← HDr.out]; exact List.mem_of_getElem? hx) z (by unfold startK at hz; exact List.mem_of_getElem? hz)
          have hyr := (raw_range 0 a y hy).2
          rw [Nat.zero_add] at hyr
          have d1 := hcell j _ (by rw [kidsK_at F D i j hjl]; exact hz)
          have d2 := T2.out.placeAt y.1 hyr
          have d3 := hfz j
          have hj0 : (0 : Int) ≤ (j : Int) := by omega
          have hj1 : (j : Int) < ((startK D i).length : Int) := by omega
          have hy0 : (0 : Int) ≤ (y.1 : Int) := by omega
          have hy1 : (y.1 : Int) < (a.size : Int) := by omega
          have T3 := T2.out.grown HBN (grownBy_drew wr)
          have T4 := lh (T3.put (K' := kidsK F D i (j + 1)) i hlt (by rw [hlen]; exact HKV.out) j (F y.1) (by omega) HBN (by rw [kidsK_set F D i j _ hz]; simp [gF]) (fun x _ hne => kidsK_other F D i j x hne))
          have hgr : g ≠ w.heap.size := fun e => by
           obtain ⟨c, fz, h1⟩ := Lib.ownsRow_kind (T2.out.kids i hlt) g (by rw [HKV.out]; rfl)
           have h2 : wr.heap[w.heap.size]? = _ := R2.out
           rw [e, h2] at h1
           simp at h1
          have R3 := lh ((R2.out.kept (grownBy_drew wr) (by simp)).kept (grownBy_set wr.drew ⟨g, j, none⟩ (.int .i64 (F y.1))) (fun e => hgr (Option.some.inj e).symm))
          have hj7 : j + 1 ≤ 70001 := by omega
          have hgq : ¬ g = qn := by omega
          have hgq2 : ¬ qn = g := by omega
          clear T2 R2 T3 hcell hfz hkp2
          go_wp2_with fail
          go_region
          all_goals go_wp2_with fail
          all_goals
           go_roundw
           case rel => exact ⟨j + 1, by omega, by simp, T4, R3, by show (wr.drew.setCell ⟨g, j, none⟩ (.int .i64 (F y.1))).cell? _ = _; rw [World.cell?_setCell_other _ _ _ _ (by first | (simp; done) | (simp; omega))]; exact hl5⟩
           case measure => simp [intOf]; omega
        · obtain rfl : j = (startK D i).length := by omega
          have T3 := lh (T2.out.congr (K' := kidsK F D (i + 1) 0) (fun x _ => kidsK_done F D i x))
          have hj1 : ¬ (((startK D i).length : Int) < ((startK D i).length : Int)) := by omega
          clear T2
          go_wp2_with fail
          go_roundw
          case rel => exact ⟨i + 1, by omega, by simp, T3, R2⟩
          case measure => simp [intOf]; omega
     · obtain rfl : i = D.length := by omega
       have hcell := HR.out.cell
       have hfz := HR.out.frozen
       have hi1 : ¬ ((D.length : Int) < (D.length : Int)) := by omega
       have T9 := lh (T.out.res (u' := .slice (some ⟨gv, 0, none⟩) D.length vc) HR.out (by omega) HM.out.base (by decide))
       have R9 := lh (HR.out.set (.slice (some ⟨gv, 0, none⟩) D.length vc))
       clear T HR
       go_wp2_with fail
       refine leaves_marks (fun rs' w' => F2 B W0.heap.size W0 kvs a.size (w.heap.size + 1) F D (.slice (some ⟨gv, 0, none⟩) D.length vc) (kidsK F D D.length 0) rs' w' ∧ Boxed w' w.heap.size 39 (.slice (some ⟨gv, 0, none⟩) D.length vc)) ?_ rs _ ⟨T9.out, R9.out⟩ ?_
       · rintro r rs' w' ⟨h1, h2⟩
         have h0 := (h1.marks r (by simp)).1
         obtain ⟨h3, h4⟩ := h1.unmark HBN
         exact ⟨h3, h4, h2.kept (grownBy_putObj' w' r (.deferred none)) (fun e => by have e := Option.some.inj e; omega)⟩
       · rintro w' ⟨h1, h2⟩
         have hc := h2.cell
         refine ⟨.agg #[.slice (some ⟨gv, 0, none⟩) D.length vc], by simp [results, Tryz.f74, go_sem, hc], _, _, _, rfl, ?_, ?_⟩
         · intro wX hX
           have h3 := h1.tree HBN hX
           rw [show D.map (placed (gF F)) = flat 0 a by
            rw [HDr.out]
            exact raw_flat (gF F) 0 0 a fun i x hx => by
             rw [← HDr.out] at hx
             have := HF.out i x hx
             simp only [gF, Int.toNat_natCast, this]
             omega] at h3
           exact h3
         · have h3 : Below B w W0 := by rw [← hW0]; exact (Below.refl _ _).alloc HM.out.base _
           exact h3.trans h1.below
   | cons bx st =>
    obtain ⟨b, x⟩ := bx
    obtain ⟨k, p, t, n, ks⟩ := x
    obtain ⟨hq, hpq, hD, hraw2, hfresh⟩ := raw_first hraw
    have hts : (tops ((b, Ast.mk k p t n ks) :: st)).reverse = (tops st).reverse ++ [((b + sizeL ks : Nat) : Int)] := by
     simp only [tops, Ast.size, List.reverse_cons]
     congr 2
     omega
    rw [hts] at S
    obtain ⟨gq, cap, rfl, hcell, S2⟩ := S.top
    have hlen : (tops st).reverse.length ≤ a.size := by
     have h1 := congrArg List.length hraw2
     simp only [raw_length, List.length_append, rawS_append] at h1
     have h2 := rawS_long st
     rw [List.length_reverse, tops_length]
     omega
    generalize hm : (tops st).reverse.length = m at *
    generalize hqq : b + sizeL ks = q at *
    have hcap : (m : Int) ≤ (cap : Int) := by
     have h1 := S.pile
     rcases h1.2 with ⟨h2, _⟩ | ⟨g, c, cur, h2, _, _, h3, _⟩
     · simp at h2
     · simp only [Value.slice.injEq] at h2
       simp only [List.length_append, hm] at h3
       omega
    have bx0 := S.box.cell
    have bxz := S.box.frozen
    have bp1 := S2.placeAt q hq
    have S3 := S2.place q hq (D.length : Int)
    have mc : ∀ (W : World), Below W0.heap.size W0 W → ∀ i u, (nodeC ⟨k, (p : Int), t, n, roots b ks⟩ (kvs.getD q default))[i]? = some u → W.cell? ⟨gm, q * 5 + i, none⟩ = some u := fun W hb i u hi => made_cell HM0.out (by rw [post_length]) hb hpq hi
    obtain ⟨vg, vc, hvn⟩ : ∃ vg vc, u6 = .slice vg D.length vc := by
     rcases S.nodes.2 with ⟨h1, h2⟩ | ⟨g, c, cur, h1, _⟩
     · exact ⟨_, _, by rw [h1, h2]⟩
     · exact ⟨_, _, h1⟩
    subst hvn
    have m0 : wr.cell? ⟨gm, q * 5, none⟩ = some (.int .u8 k) := by simpa using mc _ S.below 0 _ rfl
    have m1 : wr.cell? ⟨gm, q * 5 + 1, none⟩ = some (.int .i64 (p : Int)) := mc _ S.below 1 _ rfl
    have m2 : wr.cell? ⟨gm, q * 5 + 2, none⟩ = some (.string t) := mc _ S.below 2 _ rfl
    have m3 : wr.cell? ⟨gm, q * 5 + 3, none⟩ = some (.int .i64 n) := mc _ S.below 3 _ rfl
    have m4 : wr.cell? ⟨gm, q * 5 + 4, none⟩ = some (kvs.getD q default) := mc _ S.below 4 _ rfl
    have hgm := (HM.out.own.lt gm rfl).2
    have hg1 : ¬ gm = w.heap.size + 1 := by omega
    have hg2 : ¬ gm = w.heap.size + 1 + 1 + 1 + 1 := by omega
    have hg3 : ¬ w.heap.size + 1 = gm := by omega
    have hg4 : ¬ w.heap.size + 1 + 1 + 1 + 1 = gm := by omega
    have hk1 : own1 B W0 (kvs.getD q default) (roots b ks) := by
     have h1 := HM0.out.kids q (by rw [post_length]; exact hq)
     rwa [show (post 0 a).getD q default = ⟨k, (p : Int), t, n, roots b ks⟩ by simp [List.getD, hpq]] at h1
    obtain ⟨kp, kl, kc, hkv⟩ := hk1.slice
    rw [hkv] at hk1 m4 mc
    have HK1 := lh hk1
    have HKV := lh hkv
    have MC := lh mc
    clear hk1 hkv
    have SA := lh (S3.alloc (.cells #[.int .u8 k, .int .i64 (p : Int), .string t, .int .i64 n, .slice kp kl kc] 54))
    have hnew : Hid (((((wr.setCell ⟨w.heap.size + 1 + 1 + 1 + 1, 0, none⟩ (.slice (some ⟨gq, 0, none⟩) m cap)).setCell ⟨w.heap.size + 1, q, none⟩ (.int .i64 (D.length : Int))).alloc (.cells #[.int .u8 k, .int .i64 (p : Int), .string t, .int .i64 n, .slice kp kl kc] 54)).heap[wr.heap.size]?) = some (.cells #[.int .u8 k, .int .i64 (p : Int), .string t, .int .i64 n, .slice kp kl kc] 54 (0, 0))) := lh (by
     have h1 := heap_alloc_new ((wr.setCell ⟨w.heap.size + 1 + 1 + 1 + 1, 0, none⟩ (.slice (some ⟨gq, 0, none⟩) m cap)).setCell ⟨w.heap.size + 1, q, none⟩ (.int .i64 (D.length : Int))) (.cells #[.int .u8 k, .int .i64 (p : Int), .string t, .int .i64 n, .slice kp kl kc] 54)
     simpa [World.setCell] using h1)
    have hi0 : (0 : Int) ≤ (q : Int) := by omega
    have hi1 : (q : Int) < (a.size : Int) := by omega
    have hi2 : (m : Int) < (m : Int) + 1 := by omega
    have HRW := lh hraw2
    have HF := lh hF
    have HFR := lh hfresh
    have HPQ := lh hpq
    clear S S2 S3 hraw hraw2 hF hfresh mc hpq
    go_wp2_with (at_builtin; refine wpList_append_lies _ rfl (.tmp 42) (.tmp 47) 37 rfl W0.heap.size 54 i5 _ 5 64 Tryz.underlying37 I5.out.1 I5.out.2.1 I5.out.2.2.1 I5.out.2.2.2 rfl (by decide) (.slice vg D.length vc) D.length (rowD kvs D) rfl SA.out.nodes ⟨wr.heap.size, 0, none⟩ 1 1 [.int .u8 k, .int .i64 (p : Int), .string t, .int .i64 n, .slice kp kl kc] rfl rfl (World.news_of_block (cs := #[.int .u8 k, .int .i64 (p : Int), .string t, .int .i64 n, .slice kp kl kc]) (t := 54) (fr := (0, 0)) hnew.out) (by simp [Value.oneCell']) (by decide) (by unfold maxLen; omega) (by omega) SA.out.size _ rfl ?_; intro g5 cap5 w5 hown5 hgrow5 hat5 hlt5; have S5 := lh (SA.out.node (x := (q, ⟨k, (p : Int), t, n, roots b ks⟩)) hgrow5 (by rw [show kvs.getD (q, (⟨k, (p : Int), t, n, roots b ks⟩ : Nd)).1 default = .slice kp kl kc from HKV.out]; exact hown5)); have m45 := MC.out _ S5.out.below 4 _ rfl)
    (with_reducible refine (back_at kp kl kc _).mono ?_)
    rintro e w6 ⟨rfl, rfl⟩
    have S6 := lh (S5.out.alloc (.cells #[.slice kp kl kc] 32))
    have hrs : ∀ r ∈ rs, r < (w5.alloc (.cells #[.slice kp kl kc] 32)).heap.size := fun r hr => (Array.getElem?_eq_some_iff.1 (S6.out.marks r hr).2).1
    have hkl : (roots b ks).length ≤ a.size := by
     have h1 := congrArg List.length HRW.out
     simp only [raw_length, List.length_append, rawS_append, rawS_pairs, rawL_length] at h1
     have h2 := length_le_sizeL ks
     rw [roots_length]
     omega
    have hin : IntsAt W0.heap.size (w5.alloc (.cells #[.slice kp kl kc] 32)) (.slice kp kl kc) (roots b ks) := IntsAt.below S6.out.below (ints_of_own1 HK1.out (fun g hg => (HK1.out.lt g hg).2))
    go_wp2_with fail
    refine wpIn_wide.1 (wpIn_rangeFunc_ownG (F := Fence.wide) (n := 3) rfl (by omega) (gf := 207) (lb := #[.pointer (some ⟨w5.heap.size, 0, none⟩)]) rfl trivial (enters_of Tryz.func207 (by kernel_rfl) rfl)
     (back_stops Fence.wide 2 trivial rfl (by omega) w5.heap.size W0.heap.size (.slice kp kl kc) (roots b ks) (by omega) _ (by simp) S6.out.size (Boxed.new w5 32 (.slice kp kl kc)).cell hin) (fun h1 h2 => h1.trans h2) (KeepsAt.putObj S6.out.size (by simp)) (Below.refl _ _) (fun _ => rfl)
     (fun (pre : List (Int × Int)) W => ∃ pv, F1 W0.heap.size W0 kvs a.size (w.heap.size + 1) (w.heap.size + 1 + 1 + 1 + 1) (fun j => if j = q then (D.length : Int) else F j) (D ++ [(q, ⟨k, (p : Int), t, n, roots b ks⟩)]) (.slice (some ⟨g5, 0, none⟩) (D.length + 1) cap5) pv ((tops st).reverse ++ pre.map (·.2)) rs W ∧ pv.ownBlock ≠ some w5.heap.size ∧ w5.heap.size < W.heap.size) (fun _ _ _ => False) (F1.own_from hrs S6.out.size _) (fun _ _ _ _ _ hs _ _ => hs) ⟨_, by simpa using S6.out, fun e => by have := (S5.out.pile.lt _ e).2; omega, by simp⟩
     (fun x => { tmps := (.slice (some ⟨gm, 0, none⟩) a.size cm :: .int .i64 ((a.size : Int) - 1) :: undef :: undef :: .pointer (some ⟨w.heap.size, 0, none⟩) :: .slice (some ⟨w.heap.size + 1, 0, none⟩) a.size a.size :: .slice (some ⟨g5, 0, none⟩) (D.length + 1) cap5 :: .pointer (some ⟨w.heap.size + 1 + 1 + 1 + 1, 0, none⟩) :: .int .i64 (q : Int) :: undef :: .int .i64 x.2 :: undef :: undef :: undef :: undef :: .slice (some ⟨gm, 0, none⟩) a.size cm :: .int .i64 (a.size : Int) :: .slice (some ⟨w.heap.size + 1, 0, none⟩) a.size a.size :: .slice (some ⟨gm, 0, none⟩) a.size cm :: .int .i64 (a.size : Int) :: .slice (some ⟨w.heap.size + 1 + 1, 0, none⟩) 0 a.size :: .int .i64 ((a.size : Int) - 1) :: .slice (some ⟨w.heap.size + 1 + 1 + 1, 0, none⟩) 1 1 :: .slice (some ⟨gq, 0, none⟩) (m + 1) cap :: .int .i64 ((m : Int) + 1) :: .bool true :: .slice (some ⟨gq, 0, none⟩) (m + 1) cap :: .slice (some ⟨gq, 0, none⟩) (m + 1) cap :: .int .i64 ((m : Int) + 1) :: .int .i64 (m : Int) :: .pointer (some ⟨gq, m, none⟩) :: .int .i64 (q : Int) :: .slice (some ⟨gq, 0, none⟩) (m + 1) cap :: .slice (some ⟨gq, 0, none⟩) (m + 1) cap :: .int .i64 ((m : Int) + 1) :: .int .i64 (m : Int) :: .slice (some ⟨gq, 0, none⟩) m cap :: .slice (some ⟨w.heap.size + 1, 0, none⟩) a.size a.size :: .int .i64 (q : Int) :: .slice vg D.length vc :: .int .i64 (D.length : Int) :: .pointer (some ⟨w.heap.size + 1, q, none⟩) :: .slice vg D.length vc :: .slice (some ⟨gm, 0, none⟩) a.size cm :: .int .i64 (q : Int) :: .pointer (some ⟨gm, q * 5, none⟩) :: .agg #[.int .u8 k, .int .i64 (p : Int), .string t, .int .i64 n, .slice kp kl kc] :: .slice (some ⟨wr.heap.size, 0, none⟩) 1 1 :: .slice (some ⟨g5, 0, none⟩) (D.length + 1) cap5 :: .slice (some ⟨gm, 0, none⟩) a.size cm :: .int .i64 (q : Int) :: .pointer (some ⟨gm, q * 5, none⟩) :: .pointer (some ⟨gm, q * 5 + 4, none⟩) :: .slice kp kl kc :: .func (.func 207) #[] #[.pointer (some ⟨w5.heap.size, 0, none⟩)] :: .int .i64 x.1 :: .int .i64 x.2 :: u57 :: u58 :: u59 :: u60 :: undef :: undef :: undef :: undef :: undef :: undef :: undef :: undef :: undef :: undef :: undef :: undef :: undef :: undef :: undef :: undef :: undef :: undef :: undef :: undef :: undef :: undef :: undef :: undef :: undef :: undef :: []).toArray, defers := [] }) ?assign ?body ?done ?stop)
    case assign =>
     intro l x W K hK
     gi_wp2
     exact hK
    case body =>
     rintro l pre x W ⟨pv, hS, hx1, hx2⟩ hlt
     have hts2 : ((tops st).reverse ++ pre.map (·.2)).length ≤ 200000 := by
      rw [List.length_append, List.length_map, hm]
      omega
     obtain ⟨pp, pl, pc, rfl⟩ : ∃ pp pl pc, pv = .slice pp pl pc := by
      rcases hS.pile.2 with ⟨h1, h2⟩ | ⟨g, c, cur, h1, _⟩
      · exact ⟨_, _, _, h1⟩
      · exact ⟨_, _, _, h1⟩
     have hc := hS.box.cell
     have hz := hS.box.frozen
     have hn1 : (.slice pp pl pc : Value).ownBlock ≠ some (w.heap.size + 1 + 1 + 1 + 1) := hS.pv_bq
     gi_wp2_with (gi_at_builtin; refine wpListIn_append_lies _ rfl _ _ 32 rfl W0.heap.size 3 i1 (.int .i64 0) 1 8 Tryz.underlying32 I1.out.1 I1.out.2.1 I1.out.2.2.1 I1.out.2.2.2 rfl (by decide) (.slice pp pl pc) _ _ rfl (hS.pile.alloc _) ⟨W.heap.size, 0, none⟩ 1 1 [.int .i64 x.2] rfl rfl (cell_one_new _ _ _) (by simp [Value.oneCell']) (by decide) (by unfold maxLen; omega) (by omega) (by have := hS.size; simp; omega) _ rfl ?_; intro g' cap' w1 hown' hgrow hat hlt'; have hb1 : Boxed w1 (w.heap.size + 1 + 1 + 1 + 1) 32 (.slice pp pl pc) := (hS.box.alloc _).kept hgrow (fun e => hn1 e.symm); have hc1 := hb1.cell; have hf1 := hb1.frozen)
     have hk1 := (hS.box.appended (by decide) hS.pile hS.size hS.bq0 hown' hgrow).2.2.2.1
     have hk2 := hS.pushes (pv' := .slice (some ⟨g', 0, none⟩) (((tops st).reverse ++ pre.map (·.2)).length + 1) cap') hgrow hx1 (by have := S5.out.box.lt; omega)
     have hat2 : ∀ g, (Value.slice (some ⟨g', 0, none⟩) (((tops st).reverse ++ pre.map (·.2)).length + 1) cap').ownBlock = some g → (Value.slice pp pl pc).ownBlock = some g ∨ W.heap.size ≤ g := fun g hg => by
      obtain rfl : g' = g := by simpa [Value.ownBlock] using hg
      rcases hat with h1 | h1
      · exact Or.inl h1
      · exact Or.inr (by rw [h1]; simp)
     have hS9 := hS.push (t := x.2) hgrow hown' hat2
     have hx9 : (Value.slice (some ⟨g', 0, none⟩) (((tops st).reverse ++ pre.map (·.2)).length + 1) cap').ownBlock ≠ some w5.heap.size := fun e => by
      rcases hat2 _ e with h1 | h1
      · exact hx1 h1
      · omega
     have elen : ((tops st).reverse ++ pre.map (·.2)).length = m + pre.length := by rw [List.length_append, List.length_map, hm]
     have hz9 := hk2.size
     rw [elen] at hk1 hk2 hS9 hx9 hz9
     refine ⟨hk1.from _, hk2, _, ?_, hx9, by omega⟩
     rw [List.map_append, ← List.append_assoc]
     exact hS9
    case done =>
     rintro Dm ys W hDm rfl ⟨pv, hS, _, _⟩ hK
     rw [back_all] at hS
     have hS2 := hS.mark (r := Dm) (Nat.le_trans S6.out.size hDm) hK (fun hr => by have := hrs _ hr; omega)
     have hts3 : (tops st).reverse ++ (roots b ks).reverse = (tops (pairsOf b ks ++ st)).reverse := by rw [tops_append, tops_pairs, List.reverse_append]
     rw [hts3] at hS2
     have HS2 := lh hS2
     clear hS hS2 hK
     go_wp2_with fail
     refine ⟨⟨_, _, pairsOf b ks ++ st, pv, Dm :: rs, _, _, _, _, _, _, _, _, _, _, _, _, _, _, _, _, _, _, _, _, _, _, _, _, _, _, _, _, _, _, _, _, _, _, _, _, _, _, _, _, _, ⟨HS2.out, HRW.out, ?_⟩, rfl⟩, ?_⟩
     · intro i y hy
       by_cases hi : i < D.length
       · rw [List.getElem?_append_left hi] at hy
         simp only [if_neg (HFR.out i y hy)]
         exact HF.out i y hy
       · rw [List.getElem?_append_right (by omega)] at hy
         have hi0 : i - D.length = 0 := by
          have := (List.getElem?_eq_some_iff.1 hy).1
          simp at this
          omega
         rw [hi0] at hy
         simp only [List.getElem?_cons_zero, Option.some.injEq] at hy
         subst hy
         simp only [if_pos]
         omega
     · simp [lenV]
       omega
    case stop =>
     rintro Dm c pre W _ _ h _
     exact h.elim
end
end
end Go.Proofs.YthdioipfdbbmmaaGreatDoor
