import Derived.Test.YtijaelncmjcbmaaTreeE
namespace Go.Proofs.Ytijaelncmjcbmaa
open Go.RowKit Go.MapKept
def depsOk (ops : Array Oper) : Bool := (List.range 125).all fun i => match ops[i]?, RT[i]? with
  | some o, some k => (o.after.toList.all fun e => decide (e.on < i)) && ((k.reqs.all fun r => o.after.toList.any fun e => Region.binds .any e && (RT[e.on]?.bind RK.out == some r)) && (match k.first with | some j => o.after.toList.any fun e => Region.binds .any e && e.on == j | none => true))
  | _, _ => false
def shapeOk (ops : Array Oper) : Prop := ops.toList.map (fun o => (o.op, o.dst, o.guard)) = RT.map fun k => (k.op, k.dst, none)
theorem shape_size {ops : Array Oper} (h : shapeOk ops) : ops.size = 125 := by
  have := congrArg List.length h
  simpa [rt_size] using this
theorem shape_at {ops : Array Oper} (h : shapeOk ops) {i : Nat} {o : Oper} (ho : ops[i]? = some o) : ∃ k, RT[i]? = some k ∧ o.op = k.op ∧ o.dst = k.dst ∧ o.guard = none := by
  have h1 : (ops.toList.map (fun o => (o.op, o.dst, o.guard)))[i]? = some (o.op, o.dst, o.guard) := by
    rw [List.getElem?_map, Array.getElem?_toList, ho]; rfl
  unfold shapeOk at h
  rw [h, List.getElem?_map, Option.map_eq_some_iff] at h1
  obtain ⟨k, hk, he⟩ := h1
  simp only [Prod.mk.injEq] at he
  exact ⟨k, hk, he.1.symm, he.2.1.symm, he.2.2.symm⟩
theorem deps_at {ops : Array Oper} (h : depsOk ops = true) {i : Nat} {o : Oper} {k : RK} (hi : i < 125) (ho : ops[i]? = some o) (hk : RT[i]? = some k) :
    (∀ e ∈ o.after, e.on < i) ∧ (∀ r ∈ k.reqs, ∃ e ∈ o.after, Region.binds .any e = true ∧ RT[e.on]?.bind RK.out = some r) ∧ (∀ j, k.first = some j → ∃ e ∈ o.after, Region.binds .any e = true ∧ e.on = j) := by
  unfold depsOk at h
  rw [List.all_eq_true] at h
  have h1 := h i (List.mem_range.2 hi)
  rw [ho, hk] at h1
  simp only [Bool.and_eq_true, List.all_eq_true, List.any_eq_true, decide_eq_true_eq, beq_iff_eq, Array.mem_toList_iff] at h1
  obtain ⟨a1, a2, a3⟩ := h1
  refine ⟨a1, a2, fun j hj => ?_⟩
  rw [hj] at a3
  simp only [List.any_eq_true, Bool.and_eq_true, beq_iff_eq, Array.mem_toList_iff] at a3
  exact a3
/-- What the map holds. -/
def RulesAt (w : World) (r : Nat) : Prop := ∃ es n, w.heap[r]? = some (.map es n) ∧ (∀ x ∈ es.toList, ∃ k R, x.key = .int .u8 k ∧ ruleOf k = some R ∧ SpV w x.val (.node R)) ∧ ∀ k, 1 ≤ k → k ≤ 26 → ∃ x ∈ es.toList, x.key = .int .u8 k
structure RInv (w0 WL : World) (a0 : Act) (listed : Array Bool) (a : Act) (w : World) : Prop where
  size : a.tmps.size = 117
  defers : a.defers = a0.defers
  below : Below w0.heap.size w0 w
  aside : Aside WL w
  locs : ∀ x, 1 ≤ x → x ≤ 5 → a.tmps.getD x undef = a0.tmps.getD x undef
  done : ∀ (i : Nat) k, RT[i]? = some k → listed.getD i false = true → ∀ d s, k.out = some (d, s) → SpV w (a.tmps.getD d undef) s
  map : listed.getD 0 false = true → ∃ r es n, a.tmps.getD 19 undef = .map (some r) ∧ w0.heap.size ≤ r ∧ w.heap[r]? = some (.map es n) ∧
    (∀ x ∈ es.toList, ∃ (i : Nat) (k : Int) (t : Nat) (R : Rule), listed.getD i false = true ∧ RT[i]? = some (RK.ins k t R) ∧ x.key = .int .u8 k ∧ SpV w x.val (.node R)) ∧
    (∀ (i : Nat) (k : Int) (t : Nat) (R : Rule), listed.getD i false = true → RT[i]? = some (RK.ins k t R) → ∃ x ∈ es.toList, x.key = .int .u8 k)
  mvd : ∀ (i : Nat) k d, RT[i]? = some k → listed.getD i false = true → k.mvd = some d → a.tmps.getD d undef = a.tmps.getD 19 undef ∧ listed.getD 0 false = true
  insd : ∀ (i : Nat) (k : Int) (t : Nat) (R : Rule), RT[i]? = some (RK.ins k t R) → listed.getD i false = true → listed.getD 0 false = true
theorem getD_set_true (l : Array Bool) (i j : Nat) (hi : i < l.size) : (l.setIfInBounds i true).getD j false = true ↔ j = i ∨ l.getD j false = true := by
  by_cases h : j = i
  · subst h; simp [Array.getD, hi]
  · have h' : ¬ i = j := fun e => h e.symm
    by_cases hj : j < l.size
    · simp [Array.getD, hj, h, h']
    · simp [Array.getD, hj, h]
theorem put_same (a : Act) (d : Nat) (v : Value) (hd : d < a.tmps.size) : (a.put (some d) v).tmps.getD d undef = v := by simp [Act.put, Array.getD, hd]
theorem put_other (a : Act) (d e : Nat) (v : Value) (h : d ≠ e) : (a.put (some d) v).tmps.getD e undef = a.tmps.getD e undef := by
  by_cases he : e < a.tmps.size
  · simp [Act.put, Array.getD, he, h]
  · simp [Act.put, Array.getD, he]
theorem put_size (a : Act) (d : Option Nat) (v : Value) : (a.put d v).tmps.size = a.tmps.size := by cases d <;> simp [Act.put]
theorem put_defers (a : Act) (d : Option Nat) (v : Value) : (a.put d v).defers = a.defers := by cases d <;> rfl
theorem out_dst {k : RK} {d : Nat} {s : Sp} (h : k.out = some (d, s)) : k.dst = some d := by
  cases k <;> simp_all [RK.out, RK.dst]
theorem mvd_dst {k : RK} {d : Nat} (h : k.mvd = some d) : k.dst = some d := by
  cases k <;> simp_all [RK.mvd, RK.dst]
theorem mk_at {i : Nat} (h : RT[i]? = some RK.mk) : i = 0 := dst_one (d := 19) h (show RT[0]? = some RK.mk from rfl) rfl rfl
theorem dst19 {i : Nat} {k : RK} (h : RT[i]? = some k) (hd : k.dst = some 19) : i = 0 := dst_one (d := 19) h (show RT[0]? = some RK.mk from rfl) hd rfl
/-- A step that yields a value. -/
theorem RInv.put {w0 WL : World} {a0 : Act} {listed : Array Bool} {a : Act} {w w' : World} (h : RInv w0 WL a0 listed a w) {i : Nat} {k : RK} (hi : RT[i]? = some k) (hsz : listed.size = 125) {d : Nat} {s : Sp} {v : Value}
    (ho : k.out = some (d, s)) (hv : SpV w' v s) (hb : Below w.heap.size w w') : RInv w0 WL a0 (listed.setIfInBounds i true) (a.put (some d) v) w' := by
  have hil : i < listed.size := by rw [hsz, ← rt_size]; exact (List.getElem?_eq_some_iff.1 hi).1
  have hd := out_dst ho
  have hlow := dst_low hi hd
  have hdne : ∀ j l e, RT[j]? = some l → l.dst = some e → j ≠ i → d ≠ e := fun j l e hj he hne hde => hne (dst_one hj hi he (by rw [hd, hde]))
  have h0 : i ≠ 0 := by
    intro e; subst e
    have : RT[0]? = some RK.mk := rfl
    rw [this] at hi
    simp only [Option.some.injEq] at hi
    subst hi
    simp [RK.out] at ho
  have h19 : d ≠ 19 := fun e => h0 (dst19 hi (by rw [hd, e]))
  have hl : ∀ j, (listed.setIfInBounds i true).getD j false = true ↔ j = i ∨ listed.getD j false = true := fun j => getD_set_true listed i j hil
  refine ⟨by rw [put_size]; exact h.size, by rw [put_defers]; exact h.defers, h.below.trans (hb.mono h.below.size), h.aside.trans (Aside.of hb), fun x h1 h5 => ?_, ?_, ?_, ?_, fun j q t R hj hlj => by
    rcases (hl j).1 hlj with rfl | hlj
    · rw [hi] at hj
      simp only [Option.some.injEq] at hj
      subst hj
      simp [RK.out] at ho
    · exact (hl 0).2 (Or.inr (h.insd j q t R hj hlj))⟩
  · rw [put_other _ _ _ _ (by omega)]; exact h.locs x h1 h5
  · intro j l hj hlj e t ht
    by_cases hji : j = i
    · subst hji
      rw [hi] at hj
      simp only [Option.some.injEq] at hj
      subst hj
      rw [ho] at ht
      simp only [Option.some.injEq, Prod.mk.injEq] at ht
      obtain ⟨rfl, rfl⟩ := ht
      rw [put_same _ _ _ (by rw [h.size]; omega)]
      exact hv
    · rw [put_other _ _ _ _ (hdne j l e hj (out_dst ht) hji)]
      exact (h.done j l hj (((hl j).1 hlj).resolve_left hji) e t ht).on (Aside.of hb)
  · intro hl0
    have h1 := ((hl 0).1 hl0).resolve_left (fun e => h0 e.symm)
    obtain ⟨r, es, n, m1, m2, m3, m4, m5⟩ := h.map h1
    have hr : r < w.heap.size := by
      by_cases hr : r < w.heap.size
      · exact hr
      · rw [Array.getElem?_eq_none (by omega)] at m3; simp at m3
    refine ⟨r, es, n, by rw [put_other _ _ _ _ h19]; exact m1, m2, by rw [hb.block r hr]; exact m3, fun x hx => ?_, fun j q t R hlj hj => ?_⟩
    · obtain ⟨j, q, t, R, q1, q2, q3, q4⟩ := m4 x hx
      exact ⟨j, q, t, R, (hl j).2 (Or.inr q1), q2, q3, q4.on (Aside.of hb)⟩
    · rcases (hl j).1 hlj with rfl | hlj
      · rw [hi] at hj
        simp only [Option.some.injEq] at hj
        subst hj
        simp [RK.out] at ho
      · exact m5 j q t R hlj hj
  · intro j l e hj hlj he
    rcases (hl j).1 hlj with rfl | hlj
    · rw [hi] at hj
      simp only [Option.some.injEq] at hj
      subst hj
      cases k <;> simp [RK.mvd, RK.out] at he ho
    · obtain ⟨q1, q2⟩ := h.mvd j l e hj hlj he
      have hji : j ≠ i := by
        intro e2; subst e2
        rw [hi] at hj
        simp only [Option.some.injEq] at hj
        subst hj
        cases k <;> simp [RK.mvd, RK.out] at he ho
      rw [put_other _ _ _ _ (hdne j l e hj (mvd_dst he) hji), put_other _ _ _ _ h19]
      exact ⟨q1, (hl 0).2 (Or.inr q2)⟩
/-- A move of the map. -/
theorem RInv.move {w0 WL : World} {a0 : Act} {listed : Array Bool} {a : Act} {w : World} (h : RInv w0 WL a0 listed a w) {i : Nat} {k : RK} (hi : RT[i]? = some k) (hsz : listed.size = 125) {d : Nat} {v : Value}
    (ho : k.mvd = some d) (hv : v = a.tmps.getD 19 undef) (h00 : listed.getD 0 false = true) : RInv w0 WL a0 (listed.setIfInBounds i true) (a.put (some d) v) w := by
  have hil : i < listed.size := by rw [hsz, ← rt_size]; exact (List.getElem?_eq_some_iff.1 hi).1
  have hd := mvd_dst ho
  have hlow := dst_low hi hd
  have hdne : ∀ j l e, RT[j]? = some l → l.dst = some e → j ≠ i → d ≠ e := fun j l e hj he hne hde => hne (dst_one hj hi he (by rw [hd, hde]))
  have h0 : i ≠ 0 := by
    intro e; subst e
    have : RT[0]? = some RK.mk := rfl
    rw [this] at hi
    simp only [Option.some.injEq] at hi
    subst hi
    simp [RK.mvd] at ho
  have h19 : d ≠ 19 := fun e => h0 (dst19 hi (by rw [hd, e]))
  have hl : ∀ j, (listed.setIfInBounds i true).getD j false = true ↔ j = i ∨ listed.getD j false = true := fun j => getD_set_true listed i j hil
  refine ⟨by rw [put_size]; exact h.size, by rw [put_defers]; exact h.defers, h.below, h.aside, fun x h1 h5 => ?_, ?_, ?_, ?_, fun j q t R hj hlj => by
    rcases (hl j).1 hlj with rfl | hlj
    · rw [hi] at hj
      simp only [Option.some.injEq] at hj
      subst hj
      simp [RK.mvd] at ho
    · exact (hl 0).2 (Or.inr (h.insd j q t R hj hlj))⟩
  · rw [put_other _ _ _ _ (by omega)]; exact h.locs x h1 h5
  · intro j l hj hlj e t ht
    have hji : j ≠ i := by
      intro e2; subst e2
      rw [hi] at hj
      simp only [Option.some.injEq] at hj
      subst hj
      cases k <;> simp [RK.mvd, RK.out] at ht ho
    rw [put_other _ _ _ _ (hdne j l e hj (out_dst ht) hji)]
    exact h.done j l hj (((hl j).1 hlj).resolve_left hji) e t ht
  · intro hl0
    obtain ⟨r, es, n, m1, m2, m3, m4, m5⟩ := h.map h00
    refine ⟨r, es, n, by rw [put_other _ _ _ _ h19]; exact m1, m2, m3, fun x hx => ?_, fun j q t R hlj hj => ?_⟩
    · obtain ⟨j, q, t, R, q1, q2, q3, q4⟩ := m4 x hx
      exact ⟨j, q, t, R, (hl j).2 (Or.inr q1), q2, q3, q4⟩
    · rcases (hl j).1 hlj with rfl | hlj
      · rw [hi] at hj
        simp only [Option.some.injEq] at hj
        subst hj
        simp [RK.mvd] at ho
      · exact m5 j q t R hlj hj
  · intro j l e hj hlj he
    by_cases hji : j = i
    · subst hji
      rw [hi] at hj
      simp only [Option.some.injEq] at hj
      subst hj
      rw [ho] at he
      simp only [Option.some.injEq] at he
      subst he
      rw [put_same _ _ _ (by rw [h.size]; omega), put_other _ _ _ _ h19]
      exact ⟨hv, (hl 0).2 (Or.inr h00)⟩
    · obtain ⟨q1, q2⟩ := h.mvd j l e hj (((hl j).1 hlj).resolve_left hji) he
      rw [put_other _ _ _ _ (hdne j l e hj (mvd_dst he) hji), put_other _ _ _ _ h19]
      exact ⟨q1, (hl 0).2 (Or.inr q2)⟩
/-- The map itself. -/
theorem RInv.made {w0 WL : World} {a0 : Act} {listed : Array Bool} {a : Act} {w : World} (h : RInv w0 WL a0 listed a w) (hsz : listed.size = 125) (hn : listed.getD 0 false = false) :
    RInv w0 WL a0 (listed.setIfInBounds 0 true) (a.put (some 19) (.map (some w.heap.size))) (w.alloc (.map #[] 0)) := by
  have hb := one_below w (.map #[] 0)
  have hl : ∀ j, (listed.setIfInBounds 0 true).getD j false = true ↔ j = 0 ∨ listed.getD j false = true := fun j => getD_set_true listed 0 j (by omega)
  have hmk : RT[0]? = some RK.mk := rfl
  refine ⟨by rw [put_size]; exact h.size, by rw [put_defers]; exact h.defers, h.below.trans (hb.mono h.below.size), h.aside.trans (Aside.of hb), fun x h1 h5 => ?_, ?_, ?_, ?_, fun _ _ _ _ _ _ => (hl 0).2 (Or.inl rfl)⟩
  · rw [put_other _ _ _ _ (by omega)]; exact h.locs x h1 h5
  · intro j l hj hlj e t ht
    have hji : j ≠ 0 := by
      intro e2; subst e2
      rw [hmk] at hj
      simp only [Option.some.injEq] at hj
      subst hj
      simp [RK.out] at ht
    have hne : 19 ≠ e := fun he => hji (dst19 hj (by rw [out_dst ht, he]))
    rw [put_other _ _ _ _ hne]
    exact (h.done j l hj (((hl j).1 hlj).resolve_left hji) e t ht).on (Aside.of hb)
  · intro _
    refine ⟨w.heap.size, #[], 0, put_same _ _ _ (by rw [h.size]; omega), h.below.size, ?_, fun x hx => by simp at hx, fun j q t R hlj hj => ?_⟩
    · show (w.heap.push _)[w.heap.size]? = _
      simp
    · rcases (hl j).1 hlj with rfl | hlj
      · rw [hmk] at hj; simp at hj
      · have := h.insd j q t R hj hlj
        rw [hn] at this
        simp at this
  · intro j l e hj hlj he
    have hji : j ≠ 0 := by
      intro e2; subst e2
      rw [hmk] at hj
      simp only [Option.some.injEq] at hj
      subst hj
      simp [RK.mvd] at he
    obtain ⟨q1, q2⟩ := h.mvd j l e hj (((hl j).1 hlj).resolve_left hji) he
    rw [hn] at q2
    simp at q2
/-- A rule is laid into the map. -/
theorem RInv.laid {w0 WL : World} {a0 : Act} {listed : Array Bool} {a : Act} {w : World} (h : RInv w0 WL a0 listed a w) {i : Nat} {k : Int} {t : Nat} {R : Rule} (hi : RT[i]? = some (RK.ins k t R)) (hsz : listed.size = 125) (hni : listed.getD i false = false) (h00 : listed.getD 0 false = true) {v : Value} (hv : SpV w v (.node R)) :
    ∃ r V, a.tmps.getD 19 undef = .map (some r) ∧ (Instr.mapUpdate 56 (.map (some r)) (.int .u8 k) v).run Try.prog w = .ok () V ∧ RInv w0 WL a0 (listed.setIfInBounds i true) a V := by
  have hil : i < listed.size := by rw [hsz, ← rt_size]; exact (List.getElem?_eq_some_iff.1 hi).1
  have hl : ∀ j, (listed.setIfInBounds i true).getD j false = true ↔ j = i ∨ listed.getD j false = true := fun j => getD_set_true listed i j hil
  obtain ⟨r, es, n, m1, m2, m3, m4, m5⟩ := h.map h00
  have hks : ∀ x ∈ es.toList, IsKey (.int .u8) x.key := fun x hx => by
    obtain ⟨j, q, t, R, _, _, q3, _⟩ := m4 x hx
    rw [q3]; simp [IsKey]
  obtain ⟨V, v1, v2, v3, v4⟩ := insert_at w r n es k v m3 hks (fun x hx hk => by
    obtain ⟨j, q, t', R', q1, q2, q3, _⟩ := m4 x hx
    rw [hk] at q3
    simp only [Value.int.injEq, true_and] at q3
    have := key_one (d := k) q2 hi (by simp [RK.key, q3]) rfl
    subst this
    rw [hni] at q1
    simp at q1)
  refine ⟨r, V, m1, v1, h.size, h.defers, h.below.trans (v4 _ m2), h.aside.trans v3, h.locs, ?_, ?_, ?_, fun _ _ _ _ _ _ => (hl 0).2 (Or.inr h00)⟩
  · intro j l hj hlj e s hs
    have hji : j ≠ i := by
      intro e2; subst e2
      rw [hi] at hj
      simp only [Option.some.injEq] at hj
      subst hj
      simp [RK.out] at hs
    exact (h.done j l hj (((hl j).1 hlj).resolve_left hji) e s hs).on v3
  · intro _
    refine ⟨r, _, _, m1, m2, v2, fun x hx => ?_, fun j q t' R' hlj hj => ?_⟩
    · simp only [Array.toList_push, List.mem_append, List.mem_singleton] at hx
      rcases hx with hx | rfl
      · obtain ⟨j, q, t', R', q1, q2, q3, q4⟩ := m4 x hx
        exact ⟨j, q, t', R', (hl j).2 (Or.inr q1), q2, q3, q4.on v3⟩
      · exact ⟨i, k, t, R, (hl i).2 (Or.inl rfl), hi, rfl, hv.on v3⟩
    · rcases (hl j).1 hlj with rfl | hlj
      · rw [hi] at hj
        simp only [Option.some.injEq, RK.ins.injEq] at hj
        obtain ⟨rfl, _, _⟩ := hj
        exact ⟨{ key := .int .u8 k, val := v, born := n }, by simp, rfl⟩
      · obtain ⟨x, hx, hxk⟩ := m5 j q t' R' hlj hj
        exact ⟨x, by simp [hx], hxk⟩
  · intro j l e hj hlj he
    have hji : j ≠ i := by
      intro e2; subst e2
      rw [hi] at hj
      simp only [Option.some.injEq] at hj
      subst hj
      simp [RK.mvd] at he
    obtain ⟨q1, q2⟩ := h.mvd j l e hj (((hl j).1 hlj).resolve_left hji) he
    exact ⟨q1, (hl 0).2 (Or.inr q2)⟩
section
variable (a : Act) (w : World) (K : Act → World → Prop) (Q : Exit → Act → World → Prop) (d : Nat) (ty : Nat) (pos : String) (after : Array Edge)
theorem wp_bs (l : List Int) (hl : l.length = 1 ∨ l.length = 2) (h : ∀ v w', SpV w' v (.ks l) → Below w.heap.size w w' → K (a.put (some d) v) w') : Oper.wp Try.prog ⟨some d, (RK.bs d l).op, ty, pos, after, none⟩ a w K Q := by
  match l, hl with
  | [x], _ =>
    show Oper.wp Try.prog ⟨some d, .buildSlice 45 1 #[(0, .const (.int .u8 x))], ty, pos, after, none⟩ a w K Q
    have h1 := h (.slice (some ⟨w.heap.size, 0, none⟩) 1 1) (w.alloc (.cells #[.int .u8 x] 5)) ⟨_, _, _, rfl, bv_new w _ [x] 1 rfl rfl, by omega⟩ (one_below w _)
    have H := Lib.hid h1
    clear h h1
    go_simp
    exact H.out
  | [x, y], _ =>
    show Oper.wp Try.prog ⟨some d, .buildSlice 45 2 #[(0, .const (.int .u8 x)), (1, .const (.int .u8 y))], ty, pos, after, none⟩ a w K Q
    have h1 := h (.slice (some ⟨w.heap.size, 0, none⟩) 2 2) (w.alloc (.cells #[.int .u8 x, .int .u8 y] 5)) ⟨_, _, _, rfl, bv_new w _ [x, y] 2 rfl rfl, by omega⟩ (one_below w _)
    have H := Lib.hid h1
    clear h h1
    go_simp
    exact H.out
theorem back_ok {f : Nat} {args : Array Value} {W : World} {post : Ending → World → Prop} (hc : Calls Try.prog f args W post) (hr : ∀ e w', post e w' → ∃ v, e = .returned v ∧ K (a.put (some d) v) w') :
    Calls Try.prog f args W fun x x_1 => match x, x_1 with
      | Ending.returned v, w'' => K { tmps := a.tmps.setIfInBounds d v, defers := a.defers } w''
      | Ending.panicked chain, w'' => Q (Exit.panic chain) a w''
      | Ending.outgrown, _ => LetsOut Q := hc.mono fun e w' he => by
  obtain ⟨v, rfl, hk⟩ := hr e w' he
  exact hk
theorem wp_isc (t : Nat) (l : List Int) (hv : SpV w (a.tmps.getD t undef) (.ks l)) (h : ∀ v w', SpV w' v (.fit (.of l)) → Below w.heap.size w w' → K (a.put (some d) v) w') : Oper.wp Try.prog ⟨some d, (RK.isc d t l).op, ty, pos, after, none⟩ a w K Q := by
  obtain ⟨q, n, c, e1, hb, hn⟩ := hv
  have H := Lib.hid h
  have HC := Lib.hid (is_at w q n c l hb hn)
  clear h hb
  show Oper.wp Try.prog ⟨some d, .call { callee := .value (.func 40), args := #[.tmp t], argTypes := #[45] }, ty, pos, after, none⟩ a w K Q
  go_simp
  exact back_ok a K Q d HC.out fun e w' ⟨⟨g, cs, he, hf⟩, hb⟩ => ⟨_, he, H.out _ _ ⟨g, cs, rfl, hf⟩ hb⟩
theorem wp_part (s : Option Nat) (p : Part) (hg : (RK.part d s p).good = true) (hv : ∀ t, s = some t → SpV w (a.tmps.getD t undef) (.fit p.fit)) (h : ∀ v w', SpV w' v (.part p) → Below w.heap.size w w' → K (a.put (some d) v) w') : Oper.wp Try.prog ⟨some d, (RK.part d s p).op, ty, pos, after, none⟩ a w K Q := by
  have key : ∀ g cs, FitV w g cs p.fit → Calls Try.prog (partFn p) #[.func g #[] cs] w fun e w' => e = .returned (.agg #[.func g #[] cs, .int .i64 (p.least : Int), .int .i64 (p.most : Int)]) ∧ Below w.heap.size w w' := by
    intro g cs _
    simp only [RK.good, Bool.and_eq_true, Bool.or_eq_true, beq_iff_eq] at hg
    rcases hg.1 with (h1 | h1) | h1
    · rw [h1]; exact one_at w g cs
    · rw [h1]; exact maybe_at w g cs
    · rw [h1]; exact many_at w g cs
  have H := Lib.hid h
  cases s with
  | some t =>
    obtain ⟨g, cs, e1, hf⟩ := hv t rfl
    have HC := Lib.hid (key g cs hf)
    have HF := Lib.hid hf
    clear h hv key hf hg
    show Oper.wp Try.prog ⟨some d, .call { callee := .value (.func (partFn p)), args := #[.tmp t], argTypes := #[64] }, ty, pos, after, none⟩ a w K Q
    have hF : partFn p = 39 ∨ partFn p = 43 ∨ partFn p = 46 := by unfold partFn; split <;> (try split) <;> simp
    generalize partFn p = F at *
    rcases hF with rfl | rfl | rfl
    all_goals
      go_simp
      exact back_ok a K Q d HC.out fun e w' ⟨he, hb⟩ => ⟨_, he, H.out _ _ ⟨g, cs, rfl, HF.out.on (Aside.of hb)⟩ hb⟩
  | none =>
    have hff : FitV w (.func (if p.fit = .stmt then 45 else 36)) #[] p.fit := by
      simp only [RK.good, Bool.and_eq_true, Bool.or_eq_true, beq_iff_eq] at hg
      rcases hg.2 with (h1 | h1) | h1
      · simp at h1
      · rw [h1]; exact ⟨rfl, rfl⟩
      · rw [h1]; exact ⟨rfl, rfl⟩
    have HC := Lib.hid (key _ _ hff)
    have HF := Lib.hid hff
    clear h hv key hff hg
    show Oper.wp Try.prog ⟨some d, .call { callee := .value (.func (partFn p)), args := #[.func (if p.fit = .stmt then 45 else 36)], argTypes := #[64] }, ty, pos, after, none⟩ a w K Q
    have hF : partFn p = 39 ∨ partFn p = 43 ∨ partFn p = 46 := by unfold partFn; split <;> (try split) <;> simp
    generalize partFn p = F at *
    generalize (if p.fit = .stmt then 45 else 36) = G at *
    rcases hF with rfl | rfl | rfl
    all_goals
      go_simp
      exact back_ok a K Q d HC.out fun e w' ⟨he, hb⟩ => ⟨_, he, H.out _ _ ⟨_, _, rfl, HF.out.on (Aside.of hb)⟩ hb⟩
theorem wp_nd (s : Option Nat) (R : Rule) (hg : (RK.nd d s R).good = true) (hv : ∀ t, s = some t → SpV w (a.tmps.getD t undef) (.parts R.parts)) (h : ∀ v w', SpV w' v (.node R) → Below w.heap.size w w' → K (a.put (some d) v) w') : Oper.wp Try.prog ⟨some d, (RK.nd d s R).op, ty, pos, after, none⟩ a w K Q := by
  have H := Lib.hid h
  cases s with
  | some t =>
    obtain ⟨q, l, c, e1, hf⟩ := hv t rfl
    have HC := Lib.hid (node_at w q l c R (if R.named then 44 else 42) R.most rfl rfl hf)
    clear h hv hf hg
    show Oper.wp Try.prog ⟨some d, .call { callee := .value (.func 41), args := #[.func (if R.named then 44 else 42), .const (.int .i64 R.most), .tmp t], argTypes := #[61, 2, 72] }, ty, pos, after, none⟩ a w K Q
    generalize (if R.named then 44 else 42) = G at *
    go_simp
    exact back_ok a K Q d HC.out fun e w' ⟨⟨tb, mb, kb, he, hn⟩, hb⟩ => ⟨_, he, H.out _ _ ⟨tb, mb, kb, rfl, hn⟩ hb⟩
  | none =>
    have hp : R.parts = [] := by simpa [RK.good] using hg
    have HC := Lib.hid (node_at w none 0 0 R (if R.named then 44 else 42) R.most rfl rfl (by rw [hp]; exact ⟨rfl, Nat.le_refl _, fun h => absurd h (by omega)⟩))
    clear h hv hg
    show Oper.wp Try.prog ⟨some d, .call { callee := .value (.func 41), args := #[.func (if R.named then 44 else 42), .const (.int .i64 R.most), .const (.slice none 0 0)], argTypes := #[61, 2, 72] }, ty, pos, after, none⟩ a w K Q
    generalize (if R.named then 44 else 42) = G at *
    go_simp
    exact back_ok a K Q d HC.out fun e w' ⟨⟨tb, mb, kb, he, hn⟩, hb⟩ => ⟨_, he, H.out _ _ ⟨tb, mb, kb, rfl, hn⟩ hb⟩
theorem wp_ld (x b : Nat) (p : Part) (g : Fn) (cs : Array Value) (e1 : a.tmps.getD x undef = .pointer (some ⟨b, 0, none⟩)) (hp : PC w b 0 p g cs) (h : ∀ v w', SpV w' v (.part p) → Below w.heap.size w w' → K (a.put (some d) v) w') : Oper.wp Try.prog ⟨some d, (RK.ld d x p).op, ty, pos, after, none⟩ a w K Q := by
  have H := Lib.hid (h (.agg #[.func g #[] cs, .int .i64 (p.least : Int), .int .i64 (p.most : Int)]) w ⟨g, cs, rfl, hp.fit⟩ (Below.refl _ _))
  have c0 := hp.fv
  have c1 : w.cell? ⟨b, 1, none⟩ = _ := hp.least
  have c2 : w.cell? ⟨b, 2, none⟩ = _ := hp.most
  clear h hp
  show Oper.wp Try.prog ⟨some d, .load 67 (.tmp x), ty, pos, after, none⟩ a w K Q
  go_simp
  exact H.out
theorem pv_new (W : World) (xs : List (Part × Fn × Array Value)) (cells : Array Value) (n : Nat) (hn : n = xs.length) (hcs : cells = (xs.flatMap fun x => [.func x.2.1 #[] x.2.2, .int .i64 (x.1.least : Int), .int .i64 (x.1.most : Int)]).toArray) (hx : ∀ x ∈ xs, FitV W x.2.1 x.2.2 x.1.fit) :
    PV (W.alloc (.cells cells 67)) (some ⟨W.heap.size, 0, none⟩) n n (xs.map (·.1)) where
  len_eq := by simp [hn]
  cap := Nat.le_refl _
  cell := fun _ => by
    refine ⟨W.heap.size, 0, rfl, fun i hi => ?_⟩
    have hix : i < xs.length := by omega
    have hget : ∀ (l : List (Part × Fn × Array Value)) (i j : Nat) (hi : i < l.length) (hj : j < 3), (l.flatMap fun x => [Value.func x.2.1 #[] x.2.2, .int .i64 (x.1.least : Int), .int .i64 (x.1.most : Int)])[i * 3 + j]? = [Value.func l[i].2.1 #[] l[i].2.2, .int .i64 (l[i].1.least : Int), .int .i64 (l[i].1.most : Int)][j]? := by
      intro l
      induction l with
      | nil => intro i j hi; simp at hi
      | cons y l ih =>
        intro i j hi hj
        cases i with
        | zero =>
          simp only [List.flatMap_cons, Nat.zero_mul, Nat.zero_add, List.getElem_cons_zero]
          rw [List.getElem?_append_left (by simpa using hj)]
        | succ i =>
          simp only [List.flatMap_cons, List.getElem_cons_succ]
          rw [List.getElem?_append_right (by simp; omega)]
          rw [← ih i j (by simpa using hi) hj]
          congr 1
          simp; omega
    refine ⟨xs[i].2.1, xs[i].2.2, ?_⟩
    have e : (xs.map (·.1)).getD i default = xs[i].1 := by simp [List.getD, hix]
    rw [e]
    have hc : ∀ j v, j < 3 → [Value.func xs[i].2.1 #[] xs[i].2.2, .int .i64 (xs[i].1.least : Int), .int .i64 (xs[i].1.most : Int)][j]? = some v → (W.alloc (.cells cells 67)).cell? ⟨W.heap.size, 0 + i * 3 + j, none⟩ = some v := by
      intro j v hj hv
      rw [World.cell?_alloc_at _ _ _ _ rfl, hcs, List.getElem?_toArray, Nat.zero_add, hget xs i j hix hj, hv]
    exact ⟨hc 0 _ (by omega) rfl, hc 1 _ (by omega) rfl, hc 2 _ (by omega) rfl, (hx _ (List.getElem_mem hix)).on (Aside.of (one_below W _))⟩
theorem wp_ps (ts : List (Nat × Part)) (hl : ts.length = 1 ∨ ts.length = 2 ∨ ts.length = 3 ∨ ts.length = 4) (hv : ∀ x ∈ ts, SpV w (a.tmps.getD x.1 undef) (.part x.2)) (h : ∀ v w', SpV w' v (.parts (ts.map (·.2))) → Below w.heap.size w w' → K (a.put (some d) v) w') : Oper.wp Try.prog ⟨some d, (RK.ps d ts).op, ty, pos, after, none⟩ a w K Q := by
  match ts, hl with
  | [(t, p)], _ =>
    obtain ⟨g1, c1, e1, f1⟩ := hv (t, p) (by simp)
    have H := Lib.hid (h _ _ ⟨_, _, _, rfl, pv_new w [(p, g1, c1)] _ 1 rfl rfl (by simpa using f1)⟩ (one_below w _))
    clear h hv f1
    show Oper.wp Try.prog ⟨some d, .buildSlice 72 1 #[(0, .tmp t)], ty, pos, after, none⟩ a w K Q
    simp only [Array.getD_eq_getD_getElem?] at e1
    go_simp
    exact H.out
  | [(t, p), (u, q)], _ =>
    obtain ⟨g1, c1, e1, f1⟩ := hv (t, p) (by simp)
    obtain ⟨g2, c2, e2, f2⟩ := hv (u, q) (by simp)
    have H := Lib.hid (h _ _ ⟨_, _, _, rfl, pv_new w [(p, g1, c1), (q, g2, c2)] _ 2 rfl rfl (by simpa using ⟨f1, f2⟩)⟩ (one_below w _))
    clear h hv f1 f2
    show Oper.wp Try.prog ⟨some d, .buildSlice 72 2 #[(0, .tmp t), (1, .tmp u)], ty, pos, after, none⟩ a w K Q
    simp only [Array.getD_eq_getD_getElem?] at e1 e2
    go_simp
    exact H.out
  | [(t, p), (u, q), (v, r)], _ =>
    obtain ⟨g1, c1, e1, f1⟩ := hv (t, p) (by simp)
    obtain ⟨g2, c2, e2, f2⟩ := hv (u, q) (by simp)
    obtain ⟨g3, c3, e3, f3⟩ := hv (v, r) (by simp)
    have H := Lib.hid (h _ _ ⟨_, _, _, rfl, pv_new w [(p, g1, c1), (q, g2, c2), (r, g3, c3)] _ 3 rfl rfl (by simpa using ⟨f1, f2, f3⟩)⟩ (one_below w _))
    clear h hv f1 f2 f3
    show Oper.wp Try.prog ⟨some d, .buildSlice 72 3 #[(0, .tmp t), (1, .tmp u), (2, .tmp v)], ty, pos, after, none⟩ a w K Q
    simp only [Array.getD_eq_getD_getElem?] at e1 e2 e3
    go_simp
    exact H.out
  | [(t, p), (u, q), (v, r), (x, s)], _ =>
    obtain ⟨g1, c1, e1, f1⟩ := hv (t, p) (by simp)
    obtain ⟨g2, c2, e2, f2⟩ := hv (u, q) (by simp)
    obtain ⟨g3, c3, e3, f3⟩ := hv (v, r) (by simp)
    obtain ⟨g4, c4, e4, f4⟩ := hv (x, s) (by simp)
    have H := Lib.hid (h _ _ ⟨_, _, _, rfl, pv_new w [(p, g1, c1), (q, g2, c2), (r, g3, c3), (s, g4, c4)] _ 4 rfl rfl (by simpa using ⟨f1, f2, f3, f4⟩)⟩ (one_below w _))
    clear h hv f1 f2 f3 f4
    show Oper.wp Try.prog ⟨some d, .buildSlice 72 4 #[(0, .tmp t), (1, .tmp u), (2, .tmp v), (3, .tmp x)], ty, pos, after, none⟩ a w K Q
    simp only [Array.getD_eq_getD_getElem?] at e1 e2 e3 e4
    go_simp
    exact H.out
theorem wp_mk (h : K (a.put (some 19) (.map (some w.heap.size))) (w.alloc (.map #[] 0))) : Oper.wp Try.prog ⟨some 19, RK.mk.op, ty, pos, after, none⟩ a w K Q := by
  have hmm := @run_makeMap Try.prog
  have H := Lib.hid h
  clear h
  show Oper.wp Try.prog ⟨some 19, .makeMap 56 none, ty, pos, after, none⟩ a w K Q
  go_simp
  exact H.out
theorem wp_ins (k : Int) (t r : Nat) (R : Rule) (V : World) (e0 : a.tmps.getD 19 undef = .map (some r)) (hi : (Instr.mapUpdate 56 (.map (some r)) (.int .u8 k) (a.tmps.getD t undef)).run Try.prog w = .ok () V) (h : K (a.put none undef) V) : Oper.wp Try.prog ⟨none, (RK.ins k t R).op, ty, pos, after, none⟩ a w K Q := by
  have H := Lib.hid h
  clear h
  obtain ⟨v, e1⟩ : ∃ v, a.tmps.getD t undef = v := ⟨_, rfl⟩
  rw [e1] at hi
  show Oper.wp Try.prog ⟨none, .insert 56 (.tmp 19) (.const (.int .u8 k)) (.tmp t), ty, pos, after, none⟩ a w K Q
  go_simp
  exact H.out
end
end Go.Proofs.Ytijaelncmjcbmaa
