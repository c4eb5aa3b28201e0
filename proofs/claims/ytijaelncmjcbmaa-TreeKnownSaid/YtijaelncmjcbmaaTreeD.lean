import Derived.Test.YtijaelncmjcbmaaTreeA
import Derived.MapKept
import Derived.Orders
namespace Go.Proofs.Ytijaelncmjcbmaa
open Go.RowKit Go.MapKept
theorem insert_at (W : World) (r n : Nat) (es : Array MapEntry) (k : Int) (v : Value) (hb : W.heap[r]? = some (.map es n)) (hks : ∀ x ∈ es.toList, IsKey (.int .u8) x.key) (hno : ∀ x ∈ es.toList, x.key ≠ .int .u8 k) :
    ∃ V, (Instr.mapUpdate 56 (.map (some r)) (.int .u8 k) v).run Try.prog W = .ok () V ∧ V.heap[r]? = some (.map (es.push { key := .int .u8 k, val := v, born := n }) (n + 1)) ∧ Aside W V ∧ (∀ B, B ≤ r → Below B W V) := by
  have hf : Instr.findNow (.int .u8) (.int .u8 k) es.toList 0 = some none := by
    rcases findNow_spec (d := .int .u8) (k := .int .u8 k) (by simp [IsKey]) es.toList 0 hks with ⟨h1, _⟩ | ⟨j, e, _, h2, h3⟩
    · exact h1
    · exact absurd h3 (hno e (List.mem_of_getElem? h2))
  have hck : (Instr.checkKey false 10000 5 (.int .u8 k)).run Try.prog W = .ok () W := run_checkKey Try.underlying5 (by simp [IsKey]) false 9999
  have hr : r < W.heap.size := by
    by_cases h : r < W.heap.size
    · exact h
    · rw [Array.getElem?_eq_none (by omega)] at hb; simp at hb
  have hother : ∀ (o : Obj) b, b ≠ r → ({ W with heap := W.heap.setIfInBounds r o } : World).heap[b]? = W.heap[b]? := fun o b hne => by
    show (W.heap.setIfInBounds r _)[b]? = _
    rw [Array.getElem?_setIfInBounds_ne (fun e => hne e.symm)]
  refine ⟨{ W with heap := W.heap.setIfInBounds r (.map (es.push { key := .int .u8 k, val := v, born := n }) (n + 1)) }, ?_, ?_, ?_, ?_⟩
  · simp only [Instr.mapUpdate, Sem.run_bind, run_underlying Try.underlying56, Result.andThen, Go.MapKept.run_getObj_map hb, hck, run_findKey (P := Try.prog) Try.underlying5 hf, run_setObj_map _ hb]
  · show (W.heap.setIfInBounds r _)[r]? = _
    rw [Array.getElem?_setIfInBounds_self, if_pos hr]
  · intro p u hp
    have hne : p.block ≠ r := by
      intro e
      simp [World.cell?, e, hb] at hp
    rw [World.cell?_of_block (w := W) (hother _ p.block hne)]
    exact hp
  · intro B hB
    exact ⟨rfl, rfl, rfl, by show W.heap.size ≤ (W.heap.setIfInBounds r _).size; simp, fun b hb => hother _ b (by omega)⟩
theorem known_no (W : World) (r n : Nat) (es : Array MapEntry) (k : Int) (hb : W.heap[r]? = some (.map es n)) (hks : ∀ x ∈ es.toList, IsKey (.int .u8) x.key) (hno : ∀ x ∈ es.toList, x.key ≠ .int .u8 k) :
    (Instr.lookup 56 (.map (some r)) (.int .u8 k) true).run Try.prog W = .ok (.tuple #[.nilFunc, .bool false]) W := by
  have hf : Instr.findNow (.int .u8) (.int .u8 k) es.toList 0 = some none := by
    rcases findNow_spec (d := .int .u8) (k := .int .u8 k) (by simp [IsKey]) es.toList 0 hks with ⟨h1, _⟩ | ⟨j, e, _, h2, h3⟩
    · exact h1
    · exact absurd h3 (hno e (List.mem_of_getElem? h2))
  have hk : ∀ b, (Instr.checkKey b 10000 5 (.int .u8 k)).run Try.prog W = .ok () W := fun b => run_checkKey Try.underlying5 (by simp [IsKey]) b 9999
  have hz : (zeroValue 59).run Try.prog W = .ok .nilFunc W := by kernel_rfl
  simp only [Instr.lookup, Sem.run_bind, run_underlying Try.underlying56, Result.andThen, Go.MapKept.run_getObj_map hb, hk, run_findKey (P := Try.prog) Try.underlying5 hf, Sem.run_pure, hz]
  simp
theorem known_yes (W : World) (r n : Nat) (es : Array MapEntry) (k : Int) (hb : W.heap[r]? = some (.map es n)) (hks : ∀ x ∈ es.toList, IsKey (.int .u8) x.key) (hyes : ∃ x ∈ es.toList, x.key = .int .u8 k) :
    ∃ e ∈ es.toList, e.key = .int .u8 k ∧ (Instr.lookup 56 (.map (some r)) (.int .u8 k) true).run Try.prog W = .ok (.tuple #[e.val, .bool true]) W := by
  rcases findNow_spec (d := .int .u8) (k := .int .u8 k) (by simp [IsKey]) es.toList 0 hks with ⟨_, h2⟩ | ⟨j, e, h1, h2, h3⟩
  · obtain ⟨x, hx, hxk⟩ := hyes
    exact absurd hxk (h2 x hx)
  · refine ⟨e, List.mem_of_getElem? h2, h3, ?_⟩
    have hk : ∀ b, (Instr.checkKey b 10000 5 (.int .u8 k)).run Try.prog W = .ok () W := fun b => run_checkKey Try.underlying5 (by simp [IsKey]) b 9999
    simp only [Instr.lookup, Sem.run_bind, run_underlying Try.underlying56, Result.andThen, Go.MapKept.run_getObj_map hb, hk, run_findKey (P := Try.prog) Try.underlying5 h1, Sem.run_pure]
    simp
theorem bv_new (W : World) (cells : Array Value) (xs : List Int) (n : Nat) (hn : n = xs.length) (hc : cells = (xs.map (Value.int .u8)).toArray) : BV (W.alloc (.cells cells 5)) (some ⟨W.heap.size, 0, none⟩) n n xs where
  len_eq := hn.symm
  cap := Nat.le_refl _
  cell := fun _ => ⟨W.heap.size, 0, rfl, fun i hi => by
    rw [World.cell?_alloc_at _ _ _ _ rfl, hc]
    simp [List.getD, show i < xs.length by omega]⟩
section
variable {P : Program} {ops : Array Oper} {Q : Exit → Act → World → Prop} {md : Region.Mode}
/-- How many of a row are not listed. -/
def openN (l : List Bool) : Nat := l.countP (· == false)
theorem openN_set (l : List Bool) (i : Nat) (h : l[i]? = some false) : openN l = openN (l.set i true) + 1 := by
  induction l generalizing i with
  | nil => simp at h
  | cons b l ih =>
    cases i with
    | zero =>
      simp only [List.getElem?_cons_zero, Option.some.injEq] at h
      subst h
      simp [openN]
    | succ i =>
      simp only [List.getElem?_cons_succ] at h
      have := ih i h
      simp only [openN, List.set_cons_succ, List.countP_cons] at this ⊢
      omega
/-- A region in whatever order, by one invariant over what has come up. -/
theorem wpAny_inv (Inv : Array Bool → Act → World → Prop) (hlow : ∀ i o, ops[i]? = some o → ∀ e ∈ o.after, Region.binds md e = true → e.on < i)
    (hstep : ∀ listed a w i o, listed.size = ops.size → Inv listed a w → ops[i]? = some o → listed.getD i true = false → (∀ e ∈ o.after, Region.binds md e = true → listed.getD e.on false = true) →
      wpOp P ops Q i (fun a' w' => Inv (listed.setIfInBounds i true) a' w') a w)
    (hdone : ∀ listed a w, listed.size = ops.size → (∀ i, i < ops.size → listed.getD i false = true) → Inv listed a w → Q .normal a w) :
    ∀ (fuel : Nat) (listed : Array Bool) (a : Act) (w : World), listed.size = ops.size → openN listed.toList = fuel → Inv listed a w → wpAny P md ops Q fuel listed a w := by
  have hempty : ∀ listed : Array Bool, listed.size = ops.size → Region.ready md ops listed = [] → ∀ i, i < ops.size → listed.getD i false = true := by
    intro listed hs hr i
    induction i using Nat.strongRecOn with
    | ind i ih =>
      intro hi
      by_cases hl : listed.getD i false = true
      · exact hl
      · exfalso
        have : i ∈ Region.ready md ops listed := mem_ready.2 ⟨by
          have hi' : i < listed.size := by omega
          simp [Array.getD, hi'] at hl ⊢
          exact hl, ops[i], by simp [hi], fun e he hb => ih e.on (hlow i ops[i] (by simp [hi]) e he hb) (Nat.lt_trans (hlow i ops[i] (by simp [hi]) e he hb) hi)⟩
        rw [hr] at this
        simp at this
  intro fuel
  induction fuel with
  | zero =>
    intro listed a w hs hn hI
    have hall : ∀ i, i < ops.size → listed.getD i false = true := by
      intro i hi
      have hi' : i < listed.toList.length := by simp; omega
      have h0 := List.countP_eq_zero.1 hn listed.toList[i] (List.getElem_mem hi')
      have hi2 : i < listed.size := by omega
      simp [Array.getD, hi2] at h0 ⊢
      exact h0
    refine ⟨?_, hdone listed a w hs hall hI⟩
    rw [List.eq_nil_iff_forall_not_mem]
    intro i hi
    obtain ⟨h1, o, h2, _⟩ := mem_ready.1 hi
    have hlt : i < ops.size := by
      by_cases h : i < ops.size
      · exact h
      · rw [Array.getElem?_eq_none (by omega)] at h2; simp at h2
    have h3 := hall i hlt
    have hi' : i < listed.size := by omega
    simp [Array.getD, hi'] at h1 h3
    rw [h1] at h3
    simp at h3
  | succ fuel ih =>
    intro listed a w hs hn hI
    refine ⟨fun hr => hdone listed a w hs (hempty listed hs hr) hI, fun i hi => ?_⟩
    obtain ⟨h1, o, h2, h3⟩ := mem_ready.1 hi
    refine wpOp_mono (fun a' w' hI' => ih _ _ _ (by simpa using hs) ?_ hI') (hstep listed a w i o hs hI h2 h1 h3)
    have hlt : i < listed.size := by
      rw [hs]
      by_cases h : i < ops.size
      · exact h
      · rw [Array.getElem?_eq_none (by omega)] at h2; simp at h2
    have h4 : listed.toList[i]? = some false := by
      simp [Array.getD, hlt] at h1
      simp [hlt, h1]
    have := openN_set _ _ h4
    rw [Array.toList_setIfInBounds]
    omega
theorem openN_start (n : Nat) : openN (Array.replicate n false).toList = n := by simp [openN, List.countP_replicate]
end
end Go.Proofs.Ytijaelncmjcbmaa
