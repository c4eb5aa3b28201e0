/- Contracts on the way to the laws of layer 5: TreeF, TreeG, TreeH, TreeJ, ParseFq. -/
import Derived.Test.YthdioipfdbbmmaaGreatDoorKaa
import Derived.Test.YthdioipfdbbmmaaGreatDoorKai
import Derived.Test.YthdioipfdbbmmaaGreatDoorKal
import Derived.Test.YthdioipfdbbmmaaGreatDoorKax
import Derived.Deep.AppendLies
import Derived.OwnWalk
set_option linter.all false
set_option maxRecDepth 1000000
set_option maxHeartbeats 16000000
namespace Go.Proofs.YthdioipfdbbmmaaGreatDoor
namespace Tr
set_option maxRecDepth 1000000
open Go.RowKit Go.MapKept
def depsOk (ops : Array Oper) : Bool := (List.range 125).all fun i => match ops[i]?, RT[i]? with
 | some o, some k => (o.after.toList.all fun e => decide (e.on < i)) && ((k.reqs.all fun r => o.after.toList.any fun e => Region.binds .any e && (RT[e.on]?.bind RK.out == some r)) && (match k.first with | some j => o.after.toList.any fun e => Region.binds .any e && e.on == j | none => true))
 | _, _ => false
def shapeOk (ops : Array Oper) : Prop := ops.toList.map (fun o => (o.op, o.dst, o.guard)) = RT.map fun k => (k.op, k.dst, none)
theorem shape_size {ops : Array Oper} (h : shapeOk ops) : ops.size = 125 := by
 have := congrArg List.length h
 simpa [rt_size] using this
theorem shape_at {ops : Array Oper} (h : shapeOk ops) {i : Nat} {o : Oper} (ho : ops[i]? = some o) : ∃ k, RT[i]? = some k ∧ o.op = k.op ∧ o.dst = k.dst ∧ o.guard = none := by
 have h1 : (ops.toList.map (fun o => (o.op, o.dst, o.guard)))[i]? = some (o.op, o.dst, o.guard) := by
  rw [List.getElem?_map, Array.getElem?_toList, ho]; rfl
 unfold shapeOk at h
 rw [h, List.getElem?_map, Option.map_eq_some_iff] at h1
 obtain ⟨k, hk, he⟩ := h1
 simp only [Prod.mk.injEq] at he
 exact ⟨k, hk, he.1.symm, he.2.1.symm, he.2.2.symm⟩
theorem deps_at {ops : Array Oper} (h : depsOk ops = true) {i : Nat} {o : Oper} {k : RK} (hi : i < 125) (ho : ops[i]? = some o) (hk : RT[i]? = some k) :
 (∀ e ∈ o.after, e.on < i) ∧ (∀ r ∈ k.reqs, ∃ e ∈ o.after, Region.binds .any e = true ∧ RT[e.on]?.bind RK.out = some r) ∧ (∀ j, k.first = some j → ∃ e ∈ o.after, Region.binds .any e = true ∧ e.on = j) := by
 unfold depsOk at h
 rw [List.all_eq_true] at h
 have h1 := h i (List.mem_range.2 hi)
 rw [ho, hk] at h1
 simp only [Bool.and_eq_true, List.all_eq_true, List.any_eq_true, decide_eq_true_eq, beq_iff_eq, Array.mem_toList_iff] at h1
 obtain ⟨a1, a2, a3⟩ := h1
 refine ⟨a1, a2, fun j hj => ?_⟩
 rw [hj] at a3
 simp only [List.any_eq_true, Bool.and_eq_true, beq_iff_eq, Array.mem_toList_iff] at a3
 exact a3
def RulesAt (w : World) (r : Nat) : Prop := ∃ es n, w.heap[r]? = some (.map es n) ∧ (∀ x ∈ es.toList, ∃ k R, x.key = .int .u8 k ∧ ruleOf k = some R ∧ SpV w x.val (.node R)) ∧ ∀ k, 1 ≤ k → k ≤ 26 → ∃ x ∈ es.toList, x.key = .int .u8 k
structure RInv (w0 WL : World) (a0 : Act) (listed : Array Bool) (a : Act) (w : World) : Prop where
 size : a.tmps.size = 117
 defers : a.defers = a0.defers
 below : Below w0.heap.size w0 w
 aside : Aside WL w
 locs : ∀ x, 1 ≤ x → x ≤ 5 → a.tmps.getD x undef = a0.tmps.getD x undef
 done : ∀ (i : Nat) k, RT[i]? = some k → listed.getD i false = true → ∀ d s, k.out = some (d, s) → SpV w (a.tmps.getD d undef) s
 map : listed.getD 0 false = true → ∃ r es n, a.tmps.getD 19 undef = .map (some r) ∧ w0.heap.size ≤ r ∧ w.heap[r]? = some (.map es n) ∧
  (∀ x ∈ es.toList, ∃ (i : Nat) (k : Int) (t : Nat) (R : Rule), listed.getD i false = true ∧ RT[i]? = some (RK.ins k t R) ∧ x.key = .int .u8 k ∧ SpV w x.val (.node R)) ∧
  (∀ (i : Nat) (k : Int) (t : Nat) (R : Rule), listed.getD i false = true → RT[i]? = some (RK.ins k t R) → ∃ x ∈ es.toList, x.key = .int .u8 k)
 mvd : ∀ (i : Nat) k d, RT[i]? = some k → listed.getD i false = true → k.mvd = some d → a.tmps.getD d undef = a.tmps.getD 19 undef ∧ listed.getD 0 false = true
 insd : ∀ (i : Nat) (k : Int) (t : Nat) (R : Rule), RT[i]? = some (RK.ins k t R) → listed.getD i false = true → listed.getD 0 false = true
theorem getD_set_true (l : Array Bool) (i j : Nat) (hi : i < l.size) : (l.setIfInBounds i true).getD j false = true ↔ j = i ∨ l.getD j false = true := by
 by_cases h : j = i
 · subst h; simp [Array.getD, hi]
 · have h' : ¬ i = j := fun e => h e.symm
   by_cases hj : j < l.size
   · simp [Array.getD, hj, h, h']
   · simp [Array.getD, hj, h]
theorem put_same (a : Act) (d : Nat) (v : Value) (hd : d < a.tmps.size) : (a.put (some d) v).tmps.getD d undef = v := by simp [Act.put, Array.getD, hd]
theorem put_other (a : Act) (d e : Nat) (v : Value) (h : d ≠ e) : (a.put (some d) v).tmps.getD e undef = a.tmps.getD e undef := by
 by_cases he : e < a.tmps.size
 · simp [Act.put, Array.getD, he, h]
 · simp [Act.put, Array.getD, he]
theorem put_size (a : Act) (d : Option Nat) (v : Value) : (a.put d v).tmps.size = a.tmps.size := by cases d <;> simp [Act.put]
theorem put_defers (a : Act) (d : Option Nat) (v : Value) : (a.put d v).defers = a.defers := by cases d <;> rfl
theorem out_dst {k : RK} {d : Nat} {s : Sp} (h : k.out = some (d, s)) : k.dst = some d := by
 cases k <;> simp_all [RK.out, RK.dst]
theorem mvd_dst {k : RK} {d : Nat} (h : k.mvd = some d) : k.dst = some d := by
 cases k <;> simp_all [RK.mvd, RK.dst]
theorem mk_at {i : Nat} (h : RT[i]? = some RK.mk) : i = 0 := dst_one (d := 19) h (show RT[0]? = some RK.mk from rfl) rfl rfl
theorem dst19 {i : Nat} {k : RK} (h : RT[i]? = some k) (hd : k.dst = some 19) : i = 0 := dst_one (d := 19) h (show RT[0]? = some RK.mk from rfl) hd rfl
theorem RInv.put {w0 WL : World} {a0 : Act} {listed : Array Bool} {a : Act} {w w' : World} (h : RInv w0 WL a0 listed a w) {i : Nat} {k : RK} (hi : RT[i]? = some k) (hsz : listed.size = 125) {d : Nat} {s : Sp} {v : Value}
 (ho : k.out = some (d, s)) (hv : SpV w' v s) (hb : Below w.heap.size w w') : RInv w0 WL a0 (listed.setIfInBounds i true) (a.put (some d) v) w' := by
 have hil : i < listed.size := by rw [hsz, ← rt_size]; exact (List.getElem?_eq_some_iff.1 hi).1
 have hd := out_dst ho
 have hlow := dst_low hi hd
 have hdne : ∀ j l e, RT[j]? = some l → l.dst = some e → j ≠ i → d ≠ e := fun j l e hj he hne hde => hne (dst_one hj hi he (by rw [hd, hde]))
 have h0 : i ≠ 0 := by
  intro e; subst e
  have : RT[0]? = some RK.mk := rfl
  rw [this] at hi
  simp only [Option.some.injEq] at hi
  subst hi
  simp [RK.out] at ho
 have h19 : d ≠ 19 := fun e => h0 (dst19 hi (by rw [hd, e]))
 have hl : ∀ j, (listed.setIfInBounds i true).getD j false = true ↔ j = i ∨ listed.getD j false = true := fun j => getD_set_true listed i j hil
 refine ⟨by rw [put_size]; exact h.size, by rw [put_defers]; exact h.defers, h.below.trans (hb.mono h.below.size), h.aside.trans (Aside.of hb), fun x h1 h5 => ?_, ?_, ?_, ?_, fun j q t R hj hlj => by
  rcases (hl j).1 hlj with rfl | hlj
  · rw [hi] at hj
    simp only [Option.some.injEq] at hj
    subst hj
    simp [RK.out] at ho
  · exact (hl 0).2 (Or.inr (h.insd j q t R hj hlj))⟩
 · rw [put_other _ _ _ _ (by omega)]; exact h.locs x h1 h5
 · intro j l hj hlj e t ht
   by_cases hji : j = i
   · subst hji
     rw [hi] at hj
     simp only [Option.some.injEq] at hj
     subst hj
     rw [ho] at ht
     simp only [Option.some.injEq, Prod.mk.injEq] at ht
     obtain ⟨rfl, rfl⟩ := ht
     rw [put_same _ _ _ (by rw [h.size]; omega)]
     exact hv
   · rw [put_other _ _ _ _ (hdne j l e hj (out_dst ht) hji)]
     exact (h.done j l hj (((hl j).1 hlj).resolve_left hji) e t ht).on (Aside.of hb)
 · intro hl0
   have h1 := ((hl 0).1 hl0).resolve_left (fun e => h0 e.symm)
   obtain ⟨r, es, n, m1, m2, m3, m4, m5⟩ := h.map h1
   have hr : r < w.heap.size := by
    by_cases hr : r < w.heap.size
    · exact hr
    · rw [Array.getElem?_eq_none (by omega)] at m3; simp at m3
   refine ⟨r, es, n, by rw [put_other _ _ _ _ h19]; exact m1, m2, by rw [hb.block r hr]; exact m3, fun x hx => ?_, fun j q t R hlj hj => ?_⟩
   · obtain ⟨j, q, t, R, q1, q2, q3, q4⟩ := m4 x hx
     exact ⟨j, q, t, R, (hl j).2 (Or.inr q1), q2, q3, q4.on (Aside.of hb)⟩
   · rcases (hl j).1 hlj with rfl | hlj
     · rw [hi] at hj
       simp only [Option.some.injEq] at hj
       subst hj
       simp [RK.out] at ho
     · exact m5 j q t R hlj hj
 · intro j l e hj hlj he
   rcases (hl j).1 hlj with rfl | hlj
   · rw [hi] at hj
     simp only [Option.some.injEq] at hj
     subst hj
     cases k <;> simp [RK.mvd, RK.out] at he ho
   · obtain ⟨q1, q2⟩ := h.mvd j l e hj hlj he
     have hji : j ≠ i := by
      intro e2; subst e2
      rw [hi] at hj
      simp only [Option.some.injEq] at hj
      subst hj
      cases k <;> simp [RK.mvd, RK.out] at he ho
     rw [put_other _ _ _ _ (hdne j l e hj (mvd_dst he) hji), put_other _ _ _ _ h19]
     exact ⟨q1, (hl 0).2 (Or.inr q2)⟩
theorem RInv.move {w0 WL : World} {a0 : Act} {listed : Array Bool} {a : Act} {w : World} (h : RInv w0 WL a0 listed a w) {i : Nat} {k : RK} (hi : RT[i]? = some k) (hsz : listed.size = 125) {d : Nat} {v : Value}
 (ho : k.mvd = some d) (hv : v = a.tmps.getD 19 undef) (h00 : listed.getD 0 false = true) : RInv w0 WL a0 (listed.setIfInBounds i true) (a.put (some d) v) w := by
 have hil : i < listed.size := by rw [hsz, ← rt_size]; exact (List.getElem?_eq_some_iff.1 hi).1
 have hd := mvd_dst ho
 have hlow := dst_low hi hd
 have hdne : ∀ j l e, RT[j]? = some l → l.dst = some e → j ≠ i → d ≠ e := fun j l e hj he hne hde => hne (dst_one hj hi he (by rw [hd, hde]))
 have h0 : i ≠ 0 := by
  intro e; subst e
  have : RT[0]? = some RK.mk := rfl
  rw [this] at hi
  simp only [Option.some.injEq] at hi
  subst hi
  simp [RK.mvd] at ho
 have h19 : d ≠ 19 := fun e => h0 (dst19 hi (by rw [hd, e]))
 have hl : ∀ j, (listed.setIfInBounds i true).getD j false = true ↔ j = i ∨ listed.getD j false = true := fun j => getD_set_true listed i j hil
 refine ⟨by rw [put_size]; exact h.size, by rw [put_defers]; exact h.defers, h.below, h.aside, fun x h1 h5 => ?_, ?_, ?_, ?_, fun j q t R hj hlj => by
  rcases (hl j).1 hlj with rfl | hlj
  · rw [hi] at hj
    simp only [Option.some.injEq] at hj
    subst hj
    simp [RK.mvd] at ho
  · exact (hl 0).2 (Or.inr (h.insd j q t R hj hlj))⟩
 · rw [put_other _ _ _ _ (by omega)]; exact h.locs x h1 h5
 · intro j l hj hlj e t ht
   have hji : j ≠ i := by
    intro e2; subst e2
    rw [hi] at hj
    simp only [Option.some.injEq] at hj
    subst hj
    cases k <;> simp [RK.mvd, RK.out] at ht ho
   rw [put_other _ _ _ _ (hdne j l e hj (out_dst ht) hji)]
   exact h.done j l hj (((hl j).1 hlj).resolve_left hji) e t ht
 · intro hl0
   obtain ⟨r, es, n, m1, m2, m3, m4, m5⟩ := h.map h00
   refine ⟨r, es, n, by rw [put_other _ _ _ _ h19]; exact m1, m2, m3, fun x hx => ?_, fun j q t R hlj hj => ?_⟩
   · obtain ⟨j, q, t, R, q1, q2, q3, q4⟩ := m4 x hx
     exact ⟨j, q, t, R, (hl j).2 (Or.inr q1), q2, q3, q4⟩
   · rcases (hl j).1 hlj with rfl | hlj
     · rw [hi] at hj
       simp only [Option.some.injEq] at hj
       subst hj
       simp [RK.mvd] at ho
     · exact m5 j q t R hlj hj
 · intro j l e hj hlj he
   by_cases hji : j = i
   · subst hji
     rw [hi] at hj
     simp only [Option.some.injEq] at hj
     subst hj
     rw [ho] at he
     simp only [Option.some.injEq] at he
     subst he
     rw [put_same _ _ _ (by rw [h.size]; omega), put_other _ _ _ _ h19]
     exact ⟨hv, (hl 0).2 (Or.inr h00)⟩
   · obtain ⟨q1, q2⟩ := h.mvd j l e hj (((hl j).1 hlj).resolve_left hji) he
     rw [put_other _ _ _ _ (hdne j l e hj (mvd_dst he) hji), put_other _ _ _ _ h19]
     exact ⟨q1, (hl 0).2 (Or.inr q2)⟩
theorem RInv.made {w0 WL : World} {a0 : Act} {listed : Array Bool} {a : Act} {w : World} (h : RInv w0 WL a0 listed a w) (hsz : listed.size = 125) (hn : listed.getD 0 false = false) :
 RInv w0 WL a0 (listed.setIfInBounds 0 true) (a.put (some 19) (.map (some w.heap.size))) (w.alloc (.map #[] 0)) := by
 have hb := one_below w (.map #[] 0)
 have hl : ∀ j, (listed.setIfInBounds 0 true).getD j false = true ↔ j = 0 ∨ listed.getD j false = true := fun j => getD_set_true listed 0 j (by omega)
 have hmk : RT[0]? = some RK.mk := rfl
 refine ⟨by rw [put_size]; exact h.size, by rw [put_defers]; exact h.defers, h.below.trans (hb.mono h.below.size), h.aside.trans (Aside.of hb), fun x h1 h5 => ?_, ?_, ?_, ?_, fun _ _ _ _ _ _ => (hl 0).2 (Or.inl rfl)⟩
 · rw [put_other _ _ _ _ (by omega)]; exact h.locs x h1 h5
 · intro j l hj hlj e t ht
   have hji : j ≠ 0 := by
    intro e2; subst e2
    rw [hmk] at hj
    simp only [Option.some.injEq] at hj
    subst hj
    simp [RK.out] at ht
   have hne : 19 ≠ e := fun he => hji (dst19 hj (by rw [out_dst ht, he]))
   rw [put_other _ _ _ _ hne]
   exact (h.done j l hj (((hl j).1 hlj).resolve_left hji) e t ht).on (Aside.of hb)
 · intro _
   refine ⟨w.heap.size, #[], 0, put_same _ _ _ (by rw [h.size]; omega), h.below.size, ?_, fun x hx => by simp at hx, fun j q t R hlj hj => ?_⟩
   · show (w.heap.push _)[w.heap.size]? = _
     simp
   · rcases (hl j).1 hlj with rfl | hlj
     · rw [hmk] at hj; simp at hj
     · have := h.insd j q t R hj hlj
       rw [hn] at this
       simp at this
 · intro j l e hj hlj he
   have hji : j ≠ 0 := by
    intro e2; subst e2
    rw [hmk] at hj
    simp only [Option.some.injEq] at hj
    subst hj
    simp [RK.mvd] at he
   obtain ⟨q1, q2⟩ := h.mvd j l e hj (((hl j).1 hlj).resolve_left hji) he
   rw [hn] at q2
   simp at q2
theorem RInv.laid {w0 WL : World} {a0 : Act} {listed : Array Bool} {a : Act} {w : World} (h : RInv w0 WL a0 listed a w) {i : Nat} {k : Int} {t : Nat} {R : Rule} (hi : RT[i]? = some (RK.ins k t R)) (hsz : listed.size = 125) (hni : listed.getD i false = false) (h00 : listed.getD 0 false = true) {v : Value} (hv : SpV w v (.node R)) :
 ∃ r V, a.tmps.getD 19 undef = .map (some r) ∧ (Instr.mapUpdate 187 (.map (some r)) (.int .u8 k) v).run Tryz.prog w = .ok () V ∧ RInv w0 WL a0 (listed.setIfInBounds i true) a V := by
 have hil : i < listed.size := by rw [hsz, ← rt_size]; exact (List.getElem?_eq_some_iff.1 hi).1
 have hl : ∀ j, (listed.setIfInBounds i true).getD j false = true ↔ j = i ∨ listed.getD j false = true := fun j => getD_set_true listed i j hil
 obtain ⟨r, es, n, m1, m2, m3, m4, m5⟩ := h.map h00
 have hks : ∀ x ∈ es.toList, IsKey (.int .u8) x.key := fun x hx => by
  obtain ⟨j, q, t, R, _, _, q3, _⟩ := m4 x hx
  rw [q3]; simp [IsKey]
 obtain ⟨V, v1, v2, v3, v4⟩ := insert_at w r n es k v m3 hks (fun x hx hk => by
  obtain ⟨j, q, t', R', q1, q2, q3, _⟩ := m4 x hx
  rw [hk] at q3
  simp only [Value.int.injEq, true_and] at q3
  have := key_one (d := k) q2 hi (by simp [RK.key, q3]) rfl
  subst this
  rw [hni] at q1
  simp at q1)
 refine ⟨r, V, m1, v1, h.size, h.defers, h.below.trans (v4 _ m2), h.aside.trans v3, h.locs, ?_, ?_, ?_, fun _ _ _ _ _ _ => (hl 0).2 (Or.inr h00)⟩
 · intro j l hj hlj e s hs
   have hji : j ≠ i := by
    intro e2; subst e2
    rw [hi] at hj
    simp only [Option.some.injEq] at hj
    subst hj
    simp [RK.out] at hs
   exact (h.done j l hj (((hl j).1 hlj).resolve_left hji) e s hs).on v3
 · intro _
   refine ⟨r, _, _, m1, m2, v2, fun x hx => ?_, fun j q t' R' hlj hj => ?_⟩
   · simp only [Array.toList_push, List.mem_append, List.mem_singleton] at hx
     rcases hx with hx | rfl
     · obtain ⟨j, q, t', R', q1, q2, q3, q4⟩ := m4 x hx
       exact ⟨j, q, t', R', (hl j).2 (Or.inr q1), q2, q3, q4.on v3⟩
     · exact ⟨i, k, t, R, (hl i).2 (Or.inl rfl), hi, rfl, hv.on v3⟩
   · rcases (hl j).1 hlj with rfl | hlj
     · rw [hi] at hj
       simp only [Option.some.injEq, RK.ins.injEq] at hj
       obtain ⟨rfl, _, _⟩ := hj
       exact ⟨{ key := .int .u8 k, val := v, born := n }, by simp, rfl⟩
     · obtain ⟨x, hx, hxk⟩ := m5 j q t' R' hlj hj
       exact ⟨x, by simp [hx], hxk⟩
 · intro j l e hj hlj he
   have hji : j ≠ i := by
    intro e2; subst e2
    rw [hi] at hj
    simp only [Option.some.injEq] at hj
    subst hj
    simp [RK.mvd] at he
   obtain ⟨q1, q2⟩ := h.mvd j l e hj (((hl j).1 hlj).resolve_left hji) he
   exact ⟨q1, (hl 0).2 (Or.inr q2)⟩
section
variable (a : Act) (w : World) (K : Act → World → Prop) (Q : Exit → Act → World → Prop) (d : Nat) (ty : Nat) (pos : String) (after : Array Edge)
theorem wp_bs (l : List Int) (hl : l.length = 1 ∨ l.length = 2) (h : ∀ v w', SpV w' v (.ks l) → Below w.heap.size w w' → K (a.put (some d) v) w') : Oper.wp Tryz.prog ⟨some d, (RK.bs d l).op, ty, pos, after, none⟩ a w K Q := by
 match l, hl with
 | [x], _ =>
  show Oper.wp Tryz.prog ⟨some d, .buildSlice 22 1 #[(0, .const (.int .u8 x))], ty, pos, after, none⟩ a w K Q
  have h1 := h (.slice (some ⟨w.heap.size, 0, none⟩) 1 1) (w.alloc (.cells #[.int .u8 x] 5)) ⟨_, _, _, rfl, bv_new w _ [x] 1 rfl rfl, by omega⟩ (one_below w _)
  have H := lh h1
  clear h h1
  go_simp
  exact H.out
 | [x, y], _ =>
  show Oper.wp Tryz.prog ⟨some d, .buildSlice 22 2 #[(0, .const (.int .u8 x)), (1, .const (.int .u8 y))], ty, pos, after, none⟩ a w K Q
  have h1 := h (.slice (some ⟨w.heap.size, 0, none⟩) 2 2) (w.alloc (.cells #[.int .u8 x, .int .u8 y] 5)) ⟨_, _, _, rfl, bv_new w _ [x, y] 2 rfl rfl, by omega⟩ (one_below w _)
  have H := lh h1
  clear h h1
  go_simp
  exact H.out
theorem back_ok {f : Nat} {args : Array Value} {W : World} {post : Ending → World → Prop} (hc : Calls Tryz.prog f args W post) (hr : ∀ e w', post e w' → ∃ v, e = .returned v ∧ K (a.put (some d) v) w') :
 Calls Tryz.prog f args W fun x x_1 => match x, x_1 with
  | Ending.returned v, w'' => K { tmps := a.tmps.setIfInBounds d v, defers := a.defers } w''
  | Ending.panicked chain, w'' => Q (Exit.panic chain) a w''
  | Ending.outgrown, _ => LetsOut Q := hc.mono fun e w' he => by
 obtain ⟨v, rfl, hk⟩ := hr e w' he
 exact hk
theorem wp_isc (t : Nat) (l : List Int) (hv : SpV w (a.tmps.getD t undef) (.ks l)) (h : ∀ v w', SpV w' v (.fit (.of l)) → Below w.heap.size w w' → K (a.put (some d) v) w') : Oper.wp Tryz.prog ⟨some d, (RK.isc d t l).op, ty, pos, after, none⟩ a w K Q := by
 obtain ⟨q, n, c, e1, hb, hn⟩ := hv
 have H := lh h
 have HC := lh (is_at w q n c l hb hn)
 clear h hb
 show Oper.wp Tryz.prog ⟨some d, .call { callee := .value (.func 185), args := #[.tmp t], argTypes := #[22] }, ty, pos, after, none⟩ a w K Q
 go_simp
 exact back_ok a K Q d HC.out fun e w' ⟨⟨g, cs, he, hf⟩, hb⟩ => ⟨_, he, H.out _ _ ⟨g, cs, rfl, hf⟩ hb⟩
theorem wp_part (s : Option Nat) (p : Part) (hg : (RK.part d s p).good = true) (hv : ∀ t, s = some t → SpV w (a.tmps.getD t undef) (.fit p.fit)) (h : ∀ v w', SpV w' v (.part p) → Below w.heap.size w w' → K (a.put (some d) v) w') : Oper.wp Tryz.prog ⟨some d, (RK.part d s p).op, ty, pos, after, none⟩ a w K Q := by
 have key : ∀ g cs, FitV w g cs p.fit → Calls Tryz.prog (partFn p) #[.func g #[] cs] w fun e w' => e = .returned (.agg #[.func g #[] cs, .int .i64 (p.least : Int), .int .i64 (p.most : Int)]) ∧ Below w.heap.size w w' := by
  intro g cs _
  simp only [RK.good, Bool.and_eq_true, Bool.or_eq_true, beq_iff_eq] at hg
  rcases hg.1 with (h1 | h1) | h1
  · rw [h1]; exact one_at w g cs
  · rw [h1]; exact maybe_at w g cs
  · rw [h1]; exact many_at w g cs
 have H := lh h
 cases s with
 | some t =>
  obtain ⟨g, cs, e1, hf⟩ := hv t rfl
  have HC := lh (key g cs hf)
  have HF := lh hf
  clear h hv key hf hg
  show Oper.wp Tryz.prog ⟨some d, .call { callee := .value (.func (partFn p)), args := #[.tmp t], argTypes := #[113] }, ty, pos, after, none⟩ a w K Q
  have hF : partFn p = 184 ∨ partFn p = 188 ∨ partFn p = 191 := by unfold partFn; split <;> (try split) <;> simp
  generalize partFn p = F at *
  rcases hF with rfl | rfl | rfl
  all_goals
   go_simp
   exact back_ok a K Q d HC.out fun e w' ⟨he, hb⟩ => ⟨_, he, H.out _ _ ⟨g, cs, rfl, HF.out.on (Aside.of hb)⟩ hb⟩
 | none =>
  have hff : FitV w (.func (if p.fit = .stmt then 190 else 115)) #[] p.fit := by
   simp only [RK.good, Bool.and_eq_true, Bool.or_eq_true, beq_iff_eq] at hg
   rcases hg.2 with (h1 | h1) | h1
   · simp at h1
   · rw [h1]; exact ⟨rfl, rfl⟩
   · rw [h1]; exact ⟨rfl, rfl⟩
  have HC := lh (key _ _ hff)
  have HF := lh hff
  clear h hv key hff hg
  show Oper.wp Tryz.prog ⟨some d, .call { callee := .value (.func (partFn p)), args := #[.func (if p.fit = .stmt then 190 else 115)], argTypes := #[113] }, ty, pos, after, none⟩ a w K Q
  have hF : partFn p = 184 ∨ partFn p = 188 ∨ partFn p = 191 := by unfold partFn; split <;> (try split) <;> simp
  generalize partFn p = F at *
  generalize (if p.fit = .stmt then 190 else 115) = G at *
  rcases hF with rfl | rfl | rfl
  all_goals
   go_simp
   exact back_ok a K Q d HC.out fun e w' ⟨he, hb⟩ => ⟨_, he, H.out _ _ ⟨_, _, rfl, HF.out.on (Aside.of hb)⟩ hb⟩
theorem wp_nd (s : Option Nat) (R : Rule) (hg : (RK.nd d s R).good = true) (hv : ∀ t, s = some t → SpV w (a.tmps.getD t undef) (.parts R.parts)) (h : ∀ v w', SpV w' v (.node R) → Below w.heap.size w w' → K (a.put (some d) v) w') : Oper.wp Tryz.prog ⟨some d, (RK.nd d s R).op, ty, pos, after, none⟩ a w K Q := by
 have H := lh h
 cases s with
 | some t =>
  obtain ⟨q, l, c, e1, hf⟩ := hv t rfl
  have HC := lh (node_at w q l c R (if R.named then 189 else 187) R.most rfl rfl hf)
  clear h hv hf hg
  show Oper.wp Tryz.prog ⟨some d, .call { callee := .value (.func 186), args := #[.func (if R.named then 189 else 187), .const (.int .i64 R.most), .tmp t], argTypes := #[161, 2, 287] }, ty, pos, after, none⟩ a w K Q
  generalize (if R.named then 189 else 187) = G at *
  go_simp
  exact back_ok a K Q d HC.out fun e w' ⟨⟨tb, mb, kb, he, hn⟩, hb⟩ => ⟨_, he, H.out _ _ ⟨tb, mb, kb, rfl, hn⟩ hb⟩
 | none =>
  have hp : R.parts = [] := by simpa [RK.good] using hg
  have HC := lh (node_at w none 0 0 R (if R.named then 189 else 187) R.most rfl rfl (by rw [hp]; exact ⟨rfl, Nat.le_refl _, fun h => absurd h (by omega)⟩))
  clear h hv hg
  show Oper.wp Tryz.prog ⟨some d, .call { callee := .value (.func 186), args := #[.func (if R.named then 189 else 187), .const (.int .i64 R.most), .const (.slice none 0 0)], argTypes := #[161, 2, 287] }, ty, pos, after, none⟩ a w K Q
  generalize (if R.named then 189 else 187) = G at *
  go_simp
  exact back_ok a K Q d HC.out fun e w' ⟨⟨tb, mb, kb, he, hn⟩, hb⟩ => ⟨_, he, H.out _ _ ⟨tb, mb, kb, rfl, hn⟩ hb⟩
theorem wp_ld (x b : Nat) (p : Part) (g : Fn) (cs : Array Value) (e1 : a.tmps.getD x undef = .pointer (some ⟨b, 0, none⟩)) (hp : PC w b 0 p g cs) (h : ∀ v w', SpV w' v (.part p) → Below w.heap.size w w' → K (a.put (some d) v) w') : Oper.wp Tryz.prog ⟨some d, (RK.ld d x p).op, ty, pos, after, none⟩ a w K Q := by
 have H := lh (h (.agg #[.func g #[] cs, .int .i64 (p.least : Int), .int .i64 (p.most : Int)]) w ⟨g, cs, rfl, hp.fit⟩ (Below.refl _ _))
 have c0 := hp.fv
 have c1 : w.cell? ⟨b, 1, none⟩ = _ := hp.least
 have c2 : w.cell? ⟨b, 2, none⟩ = _ := hp.most
 clear h hp
 show Oper.wp Tryz.prog ⟨some d, .load 255 (.tmp x), ty, pos, after, none⟩ a w K Q
 go_simp
 exact H.out
theorem pv_new (W : World) (xs : List (Part × Fn × Array Value)) (cells : Array Value) (n : Nat) (hn : n = xs.length) (hcs : cells = (xs.flatMap fun x => [.func x.2.1 #[] x.2.2, .int .i64 (x.1.least : Int), .int .i64 (x.1.most : Int)]).toArray) (hx : ∀ x ∈ xs, FitV W x.2.1 x.2.2 x.1.fit) :
 PV (W.alloc (.cells cells 255)) (some ⟨W.heap.size, 0, none⟩) n n (xs.map (·.1)) where
 len_eq := by simp [hn]
 cap := Nat.le_refl _
 cell := fun _ => by
  refine ⟨W.heap.size, 0, rfl, fun i hi => ?_⟩
  have hix : i < xs.length := by omega
  have hget : ∀ (l : List (Part × Fn × Array Value)) (i j : Nat) (hi : i < l.length) (hj : j < 3), (l.flatMap fun x => [Value.func x.2.1 #[] x.2.2, .int .i64 (x.1.least : Int), .int .i64 (x.1.most : Int)])[i * 3 + j]? = [Value.func l[i].2.1 #[] l[i].2.2, .int .i64 (l[i].1.least : Int), .int .i64 (l[i].1.most : Int)][j]? := by
   intro l
   induction l with
   | nil => intro i j hi; simp at hi
   | cons y l ih =>
    intro i j hi hj
    cases i with
    | zero =>
     simp only [List.flatMap_cons, Nat.zero_mul, Nat.zero_add, List.getElem_cons_zero]
     rw [List.getElem?_append_left (by simpa using hj)]
    | succ i =>
     simp only [List.flatMap_cons, List.getElem_cons_succ]
     rw [List.getElem?_append_right (by simp; omega)]
     rw [← ih i j (by simpa using hi) hj]
     congr 1
     simp; omega
  refine ⟨xs[i].2.1, xs[i].2.2, ?_⟩
  have e : (xs.map (·.1)).getD i default = xs[i].1 := by simp [List.getD, hix]
  rw [e]
  have hc : ∀ j v, j < 3 → [Value.func xs[i].2.1 #[] xs[i].2.2, .int .i64 (xs[i].1.least : Int), .int .i64 (xs[i].1.most : Int)][j]? = some v → (W.alloc (.cells cells 255)).cell? ⟨W.heap.size, 0 + i * 3 + j, none⟩ = some v := by
   intro j v hj hv
   rw [World.cell?_alloc_at _ _ _ _ rfl, hcs, List.getElem?_toArray, Nat.zero_add, hget xs i j hix hj, hv]
  exact ⟨hc 0 _ (by omega) rfl, hc 1 _ (by omega) rfl, hc 2 _ (by omega) rfl, (hx _ (List.getElem_mem hix)).on (Aside.of (one_below W _))⟩
theorem wp_ps (ts : List (Nat × Part)) (hl : ts.length = 1 ∨ ts.length = 2 ∨ ts.length = 3 ∨ ts.length = 4) (hv : ∀ x ∈ ts, SpV w (a.tmps.getD x.1 undef) (.part x.2)) (h : ∀ v w', SpV w' v (.parts (ts.map (·.2))) → Below w.heap.size w w' → K (a.put (some d) v) w') : Oper.wp Tryz.prog ⟨some d, (RK.ps d ts).op, ty, pos, after, none⟩ a w K Q := by
 match ts, hl with
 | [(t, p)], _ =>
  obtain ⟨g1, c1, e1, f1⟩ := hv (t, p) (by simp)
  have H := lh (h _ _ ⟨_, _, _, rfl, pv_new w [(p, g1, c1)] _ 1 rfl rfl (by simpa using f1)⟩ (one_below w _))
  clear h hv f1
  show Oper.wp Tryz.prog ⟨some d, .buildSlice 287 1 #[(0, .tmp t)], ty, pos, after, none⟩ a w K Q
  simp only [Array.getD_eq_getD_getElem?] at e1
  go_simp
  exact H.out
 | [(t, p), (u, q)], _ =>
  obtain ⟨g1, c1, e1, f1⟩ := hv (t, p) (by simp)
  obtain ⟨g2, c2, e2, f2⟩ := hv (u, q) (by simp)
  have H := lh (h _ _ ⟨_, _, _, rfl, pv_new w [(p, g1, c1), (q, g2, c2)] _ 2 rfl rfl (by simpa using ⟨f1, f2⟩)⟩ (one_below w _))
  clear h hv f1 f2
  show Oper.wp Tryz.prog ⟨some d, .buildSlice 287 2 #[(0, .tmp t), (1, .tmp u)], ty, pos, after, none⟩ a w K Q
  simp only [Array.getD_eq_getD_getElem?] at e1 e2
  go_simp
  exact H.out
 | [(t, p), (u, q), (v, r)], _ =>
  obtain ⟨g1, c1, e1, f1⟩ := hv (t, p) (by simp)
  obtain ⟨g2, c2, e2, f2⟩ := hv (u, q) (by simp)
  obtain ⟨g3, c3, e3, f3⟩ := hv (v, r) (by simp)
  have H := lh (h _ _ ⟨_, _, _, rfl, pv_new w [(p, g1, c1), (q, g2, c2), (r, g3, c3)] _ 3 rfl rfl (by simpa using ⟨f1, f2, f3⟩)⟩ (one_below w _))
  clear h hv f1 f2 f3
  show Oper.wp Tryz.prog ⟨some d, .buildSlice 287 3 #[(0, .tmp t), (1, .tmp u), (2, .tmp v)], ty, pos, after, none⟩ a w K Q
  simp only [Array.getD_eq_getD_getElem?] at e1 e2 e3
  go_simp
  exact H.out
 | [(t, p), (u, q), (v, r), (x, s)], _ =>
  obtain ⟨g1, c1, e1, f1⟩ := hv (t, p) (by simp)
  obtain ⟨g2, c2, e2, f2⟩ := hv (u, q) (by simp)
  obtain ⟨g3, c3, e3, f3⟩ := hv (v, r) (by simp)
  obtain ⟨g4, c4, e4, f4⟩ := hv (x, s) (by simp)
  have H := lh (h _ _ ⟨_, _, _, rfl, pv_new w [(p, g1, c1), (q, g2, c2), (r, g3, c3), (s, g4, c4)] _ 4 rfl rfl (by simpa using ⟨f1, f2, f3, f4⟩)⟩ (one_below w _))
  clear h hv f1 f2 f3 f4
  show Oper.wp Tryz.prog ⟨some d, .buildSlice 287 4 #[(0, .tmp t), (1, .tmp u), (2, .tmp v), (3, .tmp x)], ty, pos, after, none⟩ a w K Q
  simp only [Array.getD_eq_getD_getElem?] at e1 e2 e3 e4
  go_simp
  exact H.out
theorem wp_mk (h : K (a.put (some 19) (.map (some w.heap.size))) (w.alloc (.map #[] 0))) : Oper.wp Tryz.prog ⟨some 19, RK.mk.op, ty, pos, after, none⟩ a w K Q := by
 have hmm := @run_makeMap Tryz.prog
 have H := lh h
 clear h
 show Oper.wp Tryz.prog ⟨some 19, .makeMap 187 none, ty, pos, after, none⟩ a w K Q
 go_simp
 exact H.out
theorem wp_ins (k : Int) (t r : Nat) (R : Rule) (V : World) (e0 : a.tmps.getD 19 undef = .map (some r)) (hi : (Instr.mapUpdate 187 (.map (some r)) (.int .u8 k) (a.tmps.getD t undef)).run Tryz.prog w = .ok () V) (h : K (a.put none undef) V) : Oper.wp Tryz.prog ⟨none, (RK.ins k t R).op, ty, pos, after, none⟩ a w K Q := by
 have H := lh h
 clear h
 obtain ⟨v, e1⟩ : ∃ v, a.tmps.getD t undef = v := ⟨_, rfl⟩
 rw [e1] at hi
 show Oper.wp Tryz.prog ⟨none, .insert 187 (.tmp 19) (.const (.int .u8 k)) (.tmp t), ty, pos, after, none⟩ a w K Q
 go_simp
 exact H.out
end
end Tr
namespace Tr
set_option maxRecDepth 1000000
open Go.RowKit Go.MapKept
theorem rules_step {ops : Array Oper} (h1 : shapeOk ops) (h2 : depsOk ops = true) {w0 WL : World} {a0 : Act} (hloc : ∀ x, 1 ≤ x → x ≤ 5 → ∃ b g cs, a0.tmps.getD x undef = .pointer (some ⟨b, 0, none⟩) ∧ PC WL b 0 (locP x) g cs) {Q : Exit → Act → World → Prop}
 (listed : Array Bool) (a : Act) (w : World) (i : Nat) (o : Oper) (hsz : listed.size = ops.size) (hI : RInv w0 WL a0 listed a w) (ho : ops[i]? = some o) (hni : listed.getD i true = false) (hd : ∀ e ∈ o.after, Region.binds .any e = true → listed.getD e.on false = true) :
 wpOp Tryz.prog ops Q i (fun a' w' => RInv w0 WL a0 (listed.setIfInBounds i true) a' w') a w := by
 obtain ⟨k, hk, ho1, ho2, ho3⟩ := shape_at h1 ho
 have hs125 : listed.size = 125 := by rw [hsz, shape_size h1]
 have hil : i < 125 := by rw [← rt_size]; exact (List.getElem?_eq_some_iff.1 hk).1
 obtain ⟨_, d2, d3⟩ := deps_at h2 hil ho hk
 have hgood := rt_good hk
 have hni' : listed.getD i false = false := by
  have : i < listed.size := by omega
  simp [Array.getD, this] at hni ⊢
  exact hni
 -- what a step wants is there
 have hreq : ∀ t s, (t, s) ∈ k.reqs → SpV w (a.tmps.getD t undef) s := by
  intro t s hr
  obtain ⟨e, he, hb, hx⟩ := d2 (t, s) hr
  obtain ⟨l, hl, hlo⟩ := Option.bind_eq_some_iff.1 hx
  exact hI.done e.on l hl (hd e he hb) t s hlo
 have hfirst : ∀ j, k.first = some j → listed.getD j false = true := by
  intro j hj
  obtain ⟨e, he, hb, hx⟩ := d3 j hj
  rw [← hx]
  exact hd e he hb
 obtain ⟨dst, op, ty, pos, after, guard⟩ := o
 simp only at ho1 ho2 ho3
 subst ho1 ho2 ho3
 unfold wpOp
 rw [ho]
 simp only
 rw [if_pos (show Region.wanted { dst := k.dst, op := k.op, type := ty, pos := pos, after := after, guard := none } (yielded ops a.tmps) = true from rfl)]
 refine Or.inl ?_
 have hput : ∀ d s, k.out = some (d, s) → ∀ v w', SpV w' v s → Below w.heap.size w w' → RInv w0 WL a0 (listed.setIfInBounds i true) (a.put (some d) v) w' := fun d s hks v w' hv hb => hI.put hk hs125 hks hv hb
 cases k with
 | mk =>
  have hi0 := mk_at hk
  subst hi0
  exact wp_mk a w _ Q ty pos after (hI.made hs125 hni')
 | bs d l =>
  simp only [RK.good, Bool.or_eq_true, beq_iff_eq] at hgood
  exact wp_bs a w _ Q d ty pos after l hgood (hput d _ rfl)
 | isc d t l => exact wp_isc a w _ Q d ty pos after t l (hreq t _ (by simp [RK.reqs])) (hput d _ rfl)
 | part d s p => exact wp_part a w _ Q d ty pos after s p hgood (fun t ht => by subst ht; exact hreq t _ (by simp [RK.reqs])) (hput d _ rfl)
 | ld d x p =>
  simp only [RK.good, Bool.and_eq_true, decide_eq_true_eq, beq_iff_eq] at hgood
  obtain ⟨⟨g1, g2⟩, g3⟩ := hgood
  obtain ⟨b, g, cs, q1, q2⟩ := hloc x g1 g2
  rw [← g3] at q2
  exact wp_ld a w _ Q d ty pos after x b p g cs (by rw [hI.locs x g1 g2]; exact q1) (q2.on hI.aside) (hput d _ rfl)
 | ps d ts =>
  simp only [RK.good, Bool.or_eq_true, beq_iff_eq] at hgood
  exact wp_ps a w _ Q d ty pos after ts (by omega) (fun x hx => hreq x.1 _ (by simp only [RK.reqs, List.mem_map]; exact ⟨x, hx, rfl⟩)) (hput d _ rfl)
 | nd d s R => exact wp_nd a w _ Q d ty pos after s R hgood (fun t ht => by subst ht; exact hreq t _ (by simp [RK.reqs])) (hput d _ rfl)
 | ins q t R =>
  obtain ⟨r, V, e0, e1, e2⟩ := hI.laid hk hs125 hni' (hfirst 0 rfl) (hreq t _ (by simp [RK.reqs]))
  exact wp_ins a w _ Q ty pos after q t r R V e0 e1 e2
 | mv d =>
  have := hI.move hk hs125 (d := d) rfl rfl (hfirst 0 rfl)
  exact this
 | asg d t =>
  simp only [RK.good, beq_iff_eq] at hgood
  subst hgood
  have h123 : RT[123]? = some (RK.mv 116) := rfl
  obtain ⟨q1, q2⟩ := hI.mvd 123 _ 116 h123 (hfirst 123 rfl) rfl
  have := hI.move hk hs125 (d := d) (v := a.tmps.getD 116 undef) rfl q1 q2
  exact this
theorem rules_region {ops : Array Oper} {id : Nat} (h1 : shapeOk ops) (h2 : depsOk ops = true) (w0 : World) (a : Act) (w : World) (hsz : a.tmps.size = 117) (hb : Below w0.heap.size w0 w)
 (hloc : ∀ x, 1 ≤ x → x ≤ 5 → ∃ b g cs, a.tmps.getD x undef = .pointer (some ⟨b, 0, none⟩) ∧ PC w b 0 (locP x) g cs) (Q : Exit → Act → World → Prop)
 (hQ : ∀ a' w' r, a'.defers = a.defers → a'.tmps.size = 117 → a'.tmps.getD 0 undef = .map (some r) → w0.heap.size ≤ r → RulesAt w' r → Below w0.heap.size w0 w' → Q .normal a' w') : (Code.region id ops true).wp Tryz.prog Q a w := by
 have hs := shape_size h1
 have hdr : Aside w w.drew := fun _ _ h => h
 refine wp_region_any (by kernel_rfl) (wpAny_inv (RInv w0 w.drew a) ?_ (fun listed a' w' i o h3 h4 h5 h6 h7 => rules_step h1 h2 (WL := w.drew) (fun x x1 x5 => by
  obtain ⟨b, g, cs, q1, q2⟩ := hloc x x1 x5
  exact ⟨b, g, cs, q1, q2.on hdr⟩) listed a' w' i o h3 h4 h5 h6 h7) ?_ _ _ _ _ (by simp) (openN_start _) ?_)
 · intro i o ho e he hbi
   obtain ⟨k, hk, _⟩ := shape_at h1 ho
   have hil : i < 125 := by rw [← rt_size]; exact (List.getElem?_eq_some_iff.1 hk).1
   exact (deps_at h2 hil ho hk).1 e he
 · intro listed a' w' h3 h4 hI
   have hall : ∀ i, i < 125 → listed.getD i false = true := fun i hi => h4 i (by omega)
   obtain ⟨r, es, n, m1, m2, m3, m4, m5⟩ := hI.map (hall 0 (by omega))
   have h124 : RT[124]? = some (RK.asg 0 116) := rfl
   obtain ⟨q1, _⟩ := hI.mvd 124 _ 0 h124 (hall 124 (by omega)) rfl
   refine hQ a' w' r hI.defers hI.size (by rw [q1]; exact m1) m2 ⟨es, n, m3, fun x hx => ?_, fun k k1 k2 => ?_⟩ hI.below
   · obtain ⟨i, k, t, R, _, p2, p3, p4⟩ := m4 x hx
     have := rt_good p2
     simp only [RK.good, beq_iff_eq] at this
     exact ⟨k, R, p3, this, p4⟩
   · obtain ⟨i, t, R, hi⟩ := key_all k k1 k2
     exact m5 i k t R (hall i (by rw [← rt_size]; exact (List.getElem?_eq_some_iff.1 hi).1)) hi
 · have hf : ∀ i, (Array.replicate ops.size false).getD i false = false := fun i => by
    by_cases h : i < ops.size
    · simp [Array.getD, h]
    · simp [Array.getD, h]
   exact ⟨hsz, rfl, hb.drew, Aside.refl _, fun _ _ _ => rfl, fun i _ _ h => by rw [hf] at h; simp at h, fun h => by rw [hf] at h; simp at h, fun i _ _ _ h => by rw [hf] at h; simp at h, fun i _ _ _ _ h => by rw [hf] at h; simp at h⟩
end Tr
namespace Tr
set_option maxRecDepth 1000000
open Go.RowKit Go.MapKept
theorem rules_run (w : World) : Calls Tryz.prog 114 #[] w fun e w' => ∃ r, e = .returned (.map (some r)) ∧ w.heap.size ≤ r ∧ RulesAt w' r ∧ Below w.heap.size w w' := by
 go_enter Tryz.func114, Tryz.ntmps114
 go_wp2_with fail
 (with_reducible refine (is_at _ _ _ _ [5] ?_ (by omega)).mono ?_)
 · exact bv_new w _ [5] 1 rfl rfl
 rintro e w1 ⟨⟨g1, cs1, rfl, hf1⟩, hb1⟩
 have F1 := lh hf1
 have B1 : Hid (Below w.heap.size w w1) := lh ((one_below w _).trans (hb1.mono (by simp)))
 clear hf1 hb1
 go_wp2_with fail
 (with_reducible refine (one_at _ _ _).mono ?_)
 rintro e w2 ⟨rfl, hb2⟩
 have F1 := lh (F1.out.on (Aside.of hb2))
 have B2 := lh (B1.out.trans (hb2.mono B1.out.size))
 clear hb2 B1
 go_wp2_with fail
 (with_reducible refine (is_at _ _ _ _ [20] ?_ (by omega)).mono ?_)
 · exact bv_new w2 _ [20] 1 rfl rfl
 rintro e w3 ⟨⟨g2, cs2, rfl, hf2⟩, hb3⟩
 have hb3' := (one_below w2 (.cells #[.int .u8 20] 5)).trans (hb3.mono (by simp))
 have F1 := lh (F1.out.on (Aside.of hb3'))
 have F2 := lh hf2
 have B3 := lh (B2.out.trans (hb3'.mono B2.out.size))
 clear hf2 hb3 hb3' B2
 go_wp2_with fail
 (with_reducible refine (one_at _ _ _).mono ?_)
 rintro e w4 ⟨rfl, hb4⟩
 have F1 := lh (F1.out.on (Aside.of hb4))
 have F2 := lh (F2.out.on (Aside.of hb4))
 have B4 := lh (B3.out.trans (hb4.mono B3.out.size))
 clear hb4 B3
 go_wp2_with fail
 (with_reducible refine (is_at _ _ _ _ [6] ?_ (by omega)).mono ?_)
 · exact bv_new w4 _ [6] 1 rfl rfl
 rintro e w5 ⟨⟨g3, cs3, rfl, hf3⟩, hb5⟩
 have hb5' := (one_below w4 (.cells #[.int .u8 6] 5)).trans (hb5.mono (by simp))
 have F1 := lh (F1.out.on (Aside.of hb5'))
 have F2 := lh (F2.out.on (Aside.of hb5'))
 have F3 := lh hf3
 have B5 := lh (B4.out.trans (hb5'.mono B4.out.size))
 clear hf3 hb5 hb5' B4
 go_wp2_with fail
 (with_reducible refine (one_at _ _ _).mono ?_)
 rintro e w6 ⟨rfl, hb6⟩
 have F1 := lh (F1.out.on (Aside.of hb6))
 have F2 := lh (F2.out.on (Aside.of hb6))
 have F3 := lh (F3.out.on (Aside.of hb6))
 have B6 := lh (B5.out.trans (hb6.mono B5.out.size))
 clear hb6 B5
 go_wp2_with fail
 (with_reducible refine (one_at _ _ _).mono ?_)
 rintro e w7 ⟨rfl, hb7⟩
 have F1 := lh (F1.out.on (Aside.of hb7))
 have F2 := lh (F2.out.on (Aside.of hb7))
 have F3 := lh (F3.out.on (Aside.of hb7))
 have B7 := lh (B6.out.trans (hb7.mono B6.out.size))
 clear hb7 B6
 go_wp2_with fail
 obtain ⟨W4, hW4⟩ : ∃ W4, W4 = ((((w7.alloc (.cells #[.func g1 #[] cs1, .int .i64 1, .int .i64 1] 255)).alloc (.cells #[.func g2 #[] cs2, .int .i64 1, .int .i64 1] 255)).alloc (.cells #[.func g3 #[] cs3, .int .i64 1, .int .i64 1] 255)).alloc (.cells #[.func (.func 115) #[] #[], .int .i64 1, .int .i64 1] 255)) := ⟨_, rfl⟩
 have hbW : Below w7.heap.size w7 W4 := by
  rw [hW4]
  exact (((one_below w7 _).trans ((one_below _ _).mono (by simp))).trans ((one_below _ _).mono (by simp; try omega))).trans ((one_below _ _).mono (by simp; try omega))
 have hsW : W4.heap.size = w7.heap.size + 1 + 1 + 1 + 1 := by rw [hW4]; simp
 have P1 : Hid (PC W4 w7.heap.size 0 pW g1 cs1) := by
  have hc : ∀ i v, #[Value.func g1 #[] cs1, .int .i64 1, .int .i64 1][i]? = some v → W4.cell? ⟨w7.heap.size, i, none⟩ = some v := fun i v hv => by
   rw [hW4, World.cell?_alloc_past _ _ _ (by simp; try omega), World.cell?_alloc_past _ _ _ (by simp; try omega), World.cell?_alloc_past _ _ _ (by simp), World.cell?_alloc_at _ _ _ _ rfl]; exact hv
  exact lh ⟨hc 0 _ rfl, hc 1 _ rfl, hc 2 _ rfl, F1.out.on (Aside.of hbW)⟩
 have P2 : Hid (PC W4 (w7.heap.size + 1) 0 pR g2 cs2) := by
  have hc : ∀ i v, #[Value.func g2 #[] cs2, .int .i64 1, .int .i64 1][i]? = some v → W4.cell? ⟨w7.heap.size + 1, i, none⟩ = some v := fun i v hv => by
   rw [hW4, World.cell?_alloc_past _ _ _ (by simp; try omega), World.cell?_alloc_past _ _ _ (by simp), World.cell?_alloc_at _ _ _ _ (by simp)]; exact hv
  exact lh ⟨hc 0 _ rfl, hc 1 _ rfl, hc 2 _ rfl, F2.out.on (Aside.of hbW)⟩
 have P3 : Hid (PC W4 (w7.heap.size + 1 + 1) 0 pB g3 cs3) := by
  have hc : ∀ i v, #[Value.func g3 #[] cs3, .int .i64 1, .int .i64 1][i]? = some v → W4.cell? ⟨w7.heap.size + 1 + 1, i, none⟩ = some v := fun i v hv => by
   rw [hW4, World.cell?_alloc_past _ _ _ (by simp), World.cell?_alloc_at _ _ _ _ (by simp)]; exact hv
  exact lh ⟨hc 0 _ rfl, hc 1 _ rfl, hc 2 _ rfl, F3.out.on (Aside.of hbW)⟩
 have P4 : Hid (PC W4 (w7.heap.size + 1 + 1 + 1) 0 pE (.func 115) #[]) := by
  have hc : ∀ i v, #[Value.func (.func 115) #[] #[], .int .i64 1, .int .i64 1][i]? = some v → W4.cell? ⟨w7.heap.size + 1 + 1 + 1, i, none⟩ = some v := fun i v hv => by
   rw [hW4, World.cell?_alloc_at _ _ _ _ (by simp)]; exact hv
  exact lh ⟨hc 0 _ rfl, hc 1 _ rfl, hc 2 _ rfl, ⟨rfl, rfl⟩⟩
 have B8 := lh (B7.out.trans (hbW.mono B7.out.size))
 have HS := lh hsW
 have I8 := lh (is_at (W4.alloc (.cells #[.int .u8 21] 5)) (some ⟨W4.heap.size, 0, none⟩) 1 1 [21] (bv_new W4 _ [21] 1 rfl rfl) (by omega))
 rw [hsW] at I8
 subst hW4
 clear hbW hsW F1 F2 F3 B7
 (with_reducible refine I8.out.mono ?_)
 rintro e w8 ⟨⟨g5, cs5, rfl, hf5⟩, hb8⟩
 have hb8' := (one_below _ (.cells #[.int .u8 21] 5)).trans (hb8.mono (by simp))
 have P1 := lh (P1.out.on (Aside.of hb8'))
 have P2 := lh (P2.out.on (Aside.of hb8'))
 have P3 := lh (P3.out.on (Aside.of hb8'))
 have P4 := lh (P4.out.on (Aside.of hb8'))
 have F5 := lh hf5
 have B9 := lh (B8.out.trans (hb8'.mono B8.out.size))
 clear hf5 hb8 hb8' B8 I8 HS
 go_wp2_with fail
 (with_reducible refine (one_at _ _ _).mono ?_)
 rintro e w9 ⟨rfl, hb9⟩
 have P1 := lh (P1.out.on (Aside.of hb9))
 have P2 := lh (P2.out.on (Aside.of hb9))
 have P3 := lh (P3.out.on (Aside.of hb9))
 have P4 := lh (P4.out.on (Aside.of hb9))
 have F5 := lh (F5.out.on (Aside.of hb9))
 have B10 := lh (B9.out.trans (hb9.mono B9.out.size))
 clear hb9 B9
 go_wp2_with fail
 have hbZ := one_below w9 (.cells #[.func g5 #[] cs5, .int .i64 1, .int .i64 1] 255)
 refine rules_region ?_ ?_ w _ _ rfl (B10.out.trans (hbZ.mono B10.out.size)) ?_ _ ?_
 · unfold shapeOk; kernel_rfl
 · decide +kernel
 · intro x h1 h5
   have hx : x = 1 ∨ x = 2 ∨ x = 3 ∨ x = 4 ∨ x = 5 := by omega
   rcases hx with rfl | rfl | rfl | rfl | rfl
   · exact ⟨_, _, _, rfl, P1.out.on (Aside.of hbZ)⟩
   · exact ⟨_, _, _, rfl, P2.out.on (Aside.of hbZ)⟩
   · exact ⟨_, _, _, rfl, P3.out.on (Aside.of hbZ)⟩
   · exact ⟨_, _, _, rfl, P4.out.on (Aside.of hbZ)⟩
   · refine ⟨w9.heap.size, g5, cs5, rfl, ?_⟩
     have hc : ∀ i v, #[Value.func g5 #[] cs5, .int .i64 1, .int .i64 1][i]? = some v → (w9.alloc (.cells #[.func g5 #[] cs5, .int .i64 1, .int .i64 1] 255)).cell? ⟨w9.heap.size, i, none⟩ = some v := fun i v hv => by
      rw [World.cell?_alloc_at _ _ _ _ rfl]; exact hv
     exact ⟨hc 0 _ rfl, hc 1 _ rfl, hc 2 _ rfl, F5.out.on (Aside.of hbZ)⟩
 · intro a' w' r q1 q2 q3 q4 q5 q6
   obtain ⟨tm, df⟩ := a'
   simp only at q1 q2 q3
   subst q1
   rename_i K hK
   refine hK _ _ ?_
   have HQ := lh (show w.heap.size ≤ r ∧ RulesAt w' r ∧ Below w.heap.size w w' from ⟨q4, q5, q6⟩)
   clear P1 P2 P3 P4 F5 B10 hbZ q4 q5 q6 q2
   simp only [Array.getD_eq_getD_getElem?] at q3
   go_wp2
   simp [bodyPost, results, Tryz.results114, go_sem]
   exact ⟨r, q3, HQ.out⟩
end Tr
namespace Tr
open Go.RowKit Go.MapKept
theorem infoK : (Tryz.prog.info? 5).map (fun i => (i.zero, i.size, i.bytes)) = some (some (.int .u8 0), 1, 1) := by kernel_rfl
theorem cut_own (B : Nat) (W0 : World) (v : Value) (n : Nat) (xs : List Value) (h0 : W0.ownsRow B 5 1 v n xs) :
 ∃ v', (∀ W, (Instr.sliceAt 22 v none (some (.int .i64 0)) none).run Tryz.prog W = .ok v' W) ∧ (∀ (W : World) (n : Nat) (xs : List Value), W.ownsRow B 5 1 v n xs → W.ownsRow B 5 1 v' 0 []) := by
 have hu : Tryz.prog.underlying 22 = some (.slice (Tryz.prog.elem 22)) := by kernel_rfl
 have hz : ∀ W, (sizeOf (Tryz.prog.elem 22)).run Tryz.prog W = .ok 1 W := fun _ => by kernel_rfl
 have key : ∀ W p n c, (Instr.sliceAt 22 (.slice p n c) none (some (.int .i64 0)) none).run Tryz.prog W = .ok (sliced p 0 0 c 1) W := fun W p n c => by
  rw [run_sliceAt_slice W 22 _ _ _ _ hu, run_slice_h W 22 p n c hu .i64 0 (by omega) (by omega), hz]
  rfl
 have hv : ∃ p n c, v = .slice p n c := by
  obtain ⟨_, ⟨rfl, _⟩ | ⟨g, cap, cur, rfl, _⟩⟩ := h0
  · exact ⟨_, _, _, rfl⟩
  · exact ⟨_, _, _, rfl⟩
 obtain ⟨p, n, c, rfl⟩ := hv
 refine ⟨_, fun W => key W p n c, fun W n' xs' h => ?_⟩
 obtain ⟨_, ⟨h1, _⟩ | ⟨g, cap, cur, h0, h1, h2, h3, h4, h5, h6⟩⟩ := h
 · simp only [Value.slice.injEq] at h1
   obtain ⟨rfl, rfl, rfl⟩ := h1
   exact World.ownsRow_nil _ _ _ _
 · simp only [Value.slice.injEq] at h0
   obtain ⟨rfl, rfl, rfl⟩ := h0
   refine ⟨rfl, Or.inr ⟨g, c, cur, ?_, h1, h2, by omega, h4, h5, by simp⟩⟩
   simp [sliced, Addr.add]
theorem own_bv {W : World} {B : Nat} {v : Value} {ks : List Int} (h : W.ownsRow B 5 1 v ks.length (ks.map (Value.int .u8))) : ∃ p c, v = .slice p ks.length c ∧ BV W p ks.length c ks := by
 have h0 := h
 obtain ⟨_, ⟨rfl, h1⟩ | ⟨g, cap, cur, rfl, _, _, h3, _⟩⟩ := h
 · exact ⟨none, 0, by rw [h1], rfl, by omega, fun hl => by omega⟩
 · refine ⟨_, _, rfl, rfl, h3, fun _ => ⟨g, 0, rfl, fun i hi => ?_⟩⟩
   rw [Nat.zero_add, h0.cellAt i (by omega)]
   simp [List.getD, hi]
theorem rule_small {k : Int} {R : Rule} (h : ruleOf k = some R) : R.parts.length ≤ 8 ∧ ∀ x ∈ R.parts, x.least ≤ 1 ∧ x.most ≤ 9223372036854775807 := by
 unfold ruleOf at h
 rw [Option.map_eq_some_iff] at h
 obtain ⟨x, hx, rfl⟩ := h
 have h2 := List.mem_of_find?_eq_some hx
 have h3 : (ruleT.all fun x => decide (x.2.parts.length ≤ 8) && x.2.parts.all fun y => decide (y.least ≤ 1) && decide (y.most ≤ 9223372036854775807)) = true := by decide +kernel
 rw [List.all_eq_true] at h3
 have := h3 x h2
 simp only [Bool.and_eq_true, decide_eq_true_eq, List.all_eq_true] at this
 exact this
theorem rule_none {k : Int} (h : ¬ (1 ≤ k ∧ k ≤ 26)) : ruleOf k = none := by
 cases hr : ruleOf k with
 | none => rfl
 | some R => exact absurd (rule_range hr) h
theorem RulesAt.on {w w' : World} {r : Nat} (h : RulesAt w r) (hr : r < w.heap.size) (hb : Below w.heap.size w w') : RulesAt w' r := by
 obtain ⟨es, n, h1, h2, h3⟩ := h
 refine ⟨es, n, by rw [hb.block r hr]; exact h1, fun x hx => ?_, h3⟩
 obtain ⟨k, R, q1, q2, q3⟩ := h2 x hx
 exact ⟨k, R, q1, q2, q3.on (Aside.of hb)⟩
theorem RulesAt.lt {w : World} {r : Nat} (h : RulesAt w r) : r < w.heap.size := by
 obtain ⟨es, n, h1, _⟩ := h
 by_cases hr : r < w.heap.size
 · exact hr
 · rw [Array.getElem?_eq_none (by omega)] at h1; simp at h1
theorem RulesAt.ask {w : World} {r : Nat} (h : RulesAt w r) (k : Int) :
 (ruleOf k = none ∧ (Instr.lookup 187 (.map (some r)) (.int .u8 k) true).run Tryz.prog w = .ok (.tuple #[.nilFunc, .bool false]) w) ∨
 ∃ R tb mb kb, ruleOf k = some R ∧ (Instr.lookup 187 (.map (some r)) (.int .u8 k) true).run Tryz.prog w = .ok (.tuple #[closV tb mb kb, .bool true]) w ∧ NV w tb mb kb R := by
 obtain ⟨es, n, h1, h2, h3⟩ := h
 have hks : ∀ x ∈ es.toList, IsKey (.int .u8) x.key := fun x hx => by
  obtain ⟨k, R, q1, _⟩ := h2 x hx
  rw [q1]; simp [IsKey]
 by_cases hk : 1 ≤ k ∧ k ≤ 26
 · obtain ⟨e, he, hek, hrun⟩ := known_yes w r n es k h1 hks (h3 k hk.1 hk.2)
   obtain ⟨k', R, q1, q2, tb, mb, kb, q3, q4⟩ := h2 e he
   rw [hek] at q1
   simp only [Value.int.injEq, true_and] at q1
   subst q1
   rw [q3] at hrun
   exact Or.inr ⟨R, tb, mb, kb, q2, hrun, q4⟩
 · refine Or.inl ⟨rule_none hk, known_no w r n es k h1 hks fun x hx hxk => ?_⟩
   obtain ⟨k', R, q1, q2, _⟩ := h2 x hx
   rw [hxk] at q1
   simp only [Value.int.injEq, true_and] at q1
   subst q1
   exact hk (rule_range q2)
theorem u8_one (k : Int) : ∀ u ∈ ([.int .u8 k] : List Value), u.oneCell' = true := by
 intro u hu
 simp only [List.mem_singleton] at hu
 rw [hu]; rfl
theorem ruled_at (w : World) (p : Option Addr) (len c : Nat) (ns : List Nd) (h : TV w p len c ns) (hl : len ≤ 70000) (hk : ∀ nd ∈ ns, nd.kids.length ≤ 70000 ∧ nd.text.size ≤ 70000 ∧ ∀ k ∈ nd.kids, 0 ≤ k ∧ k < len) :
 Calls Tryz.prog 69 #[.agg #[.slice p len c]] w fun e w' => e = .returned (.bool (ruledP ns)) ∧ Below w.heap.size w w' := by
 have H := lh h
 have HK := lh hk
 have hlen := lh h.len_eq
 obtain ⟨i0, hi, hz0, hz1, hz2⟩ := info_parts infoK
 have I0 := lh hi
 have I1 := lh hz0
 have I2 := lh hz1
 have I3 := lh hz2
 clear h hk hi hz0 hz1 hz2
 have B0 := lh (one_below w (.cells #[.slice p len c] 39))
 have HR := lh (rules_run (w.alloc (.cells #[.slice p len c] 39)))
 go_enter Tryz.func69, Tryz.ntmps69
 go_wp2_with fail
 (with_reducible refine HR.out.mono ?_)
 rintro e w1 ⟨r, rfl, hr0, hR, hb1⟩
 have RU := lh hR
 have B1 := lh (B0.out.trans (hb1.mono (by simp)))
 have c1 : w1.cell? ⟨w.heap.size, 0, none⟩ = some (.slice p len c) := by rw [hb1.cell (by simp)]; simp
 have C1 := lh c1
 have hsz : Hid (w.heap.size < w1.heap.size) := lh (World.block_lt_of_cell? w1 _ c1)
 clear hR hb1 HR hr0
 go_wp2_with fail
 go_loopw [4, 15] (fun kv iv wr => ∃ (i n : Nat) (xs : List Value), i ≤ len ∧ iv = .int .i64 i ∧ Hid (wr.ownsRow w1.heap.size 5 1 kv n xs) ∧ Hid ((ns.take i).all (nodeOk ns) = true) ∧ Hid (Below w1.heap.size w1 wr)) (fun _ iv _ => len - (intOf iv).toNat)
 case atStart => exact ⟨0, 0, [], by omega, rfl, lh (World.ownsRow_nil _ _ _ _), lh rfl, lh (Below.refl _ _)⟩
 case round =>
  obtain ⟨i, n, xs, hil, rfl, HO, HA, HB⟩ := hrel
  clear c1
  by_cases hlt : i < len
  · have HBW := lh (B1.out.trans (HB.out.mono (by have := hsz.out; omega)))
    obtain ⟨b, off, rfl, hbl, hc⟩ := H.out.node (by omega)
    obtain ⟨kp, kl, kc, hnw⟩ := hc i hlt
    have hn := hnw.on hbl HBW.out
    have k0 := hn.kind
    have k1 := hn.at'
    have k2 := hn.text
    have k3 := hn.n
    have k4 := hn.kids
    have HIV := lh hnw.iv
    have hkl := hn.iv.len_eq
    have HC := lh hc
    have hix : i < ns.length := by have := hlen.out; omega
    have HT := lh (all_take (nodeOk ns) ns i hix)
    have HN := lh (all_no (nodeOk ns) ns i hix)
    have hkb := HK.out (ns.getD i default) (by simp [List.getD, hix])
    generalize ns.getD i default = nd at *
    have HKB := lh hkb
    have HKL := lh hkl
    have hkl2 : kl ≤ 70000 := by omega
    obtain ⟨kv', hcut, hcow⟩ := cut_own w1.heap.size wr u4 n xs HO.out
    have HKV : Hid (∀ k, kv'.ownBlock = some k → k < wr.heap.size) := lh (fun k hk => ((hcow wr n xs HO.out).lt k hk).2)
    have HCO := lh (hcow _ n xs (HO.out.alloc (.cells #[.int .u8 nd.kind, .int .i64 nd.at', .string nd.text, .int .i64 nd.n, .slice kp kl kc] 54)))
    have BN := lh (one_below wr (.cells #[.int .u8 nd.kind, .int .i64 nd.at', .string nd.text, .int .i64 nd.n, .slice kp kl kc] 54))
    have HB2 := lh (HB.out.trans (BN.out.mono HB.out.size))
    clear hn hnw hc hkb hkl hcow HO hix
    have HWS : Hid (w1.heap.size ≤ wr.heap.size) := lh HB.out.size
    have hkn : (kindsOf ns nd).length = kl := by rw [kindsOf, List.length_map]; exact HKL.out
    have HKN := lh hkn
    clear hkn
    go_wp2_with fail
    obtain ⟨wo, rfl⟩ : ∃ wo : World, wo = wr := ⟨_, rfl⟩
    go_loopw [4, 24] (fun kv jv wq => ∃ j : Nat, j ≤ kl ∧ jv = .int .i64 j ∧ Hid (wq.ownsRow w1.heap.size 5 1 kv j (((kindsOf ns nd).take j).map (Value.int .u8))) ∧ Hid (Below w1.heap.size w1 wq) ∧ Hid (wo.heap.size < wq.heap.size ∧ wq.heap[wo.heap.size]? = (wo.alloc (.cells #[.int .u8 nd.kind, .int .i64 nd.at', .string nd.text, .int .i64 nd.n, .slice kp kl kc] 54)).heap[wo.heap.size]?) ∧ Hid (kv.ownBlock ≠ some wo.heap.size)) (fun _ jv _ => kl - (intOf jv).toNat)
    case atStart => exact ⟨0, by omega, rfl, HCO, HB2, lh ⟨by simp, rfl⟩, lh (fun e => by have := HKV.out _ e; omega)⟩
    case round =>
     obtain ⟨wq, rfl⟩ : ∃ wq : World, wq = wr := ⟨_, rfl⟩
     clear hcut k0 k1 k2 k3 k4
     obtain ⟨j, hj, rfl, HO, HQ, HBX, HNE⟩ := hrel
     have hbox : ∀ f v, #[Value.int .u8 nd.kind, .int .i64 nd.at', .string nd.text, .int .i64 nd.n, .slice kp kl kc][f]? = some v → wq.cell? ⟨wo.heap.size, f, none⟩ = some v := fun f v hv => by
      rw [World.cell?_of_block (w := wo.alloc (.cells #[.int .u8 nd.kind, .int .i64 nd.at', .string nd.text, .int .i64 nd.n, .slice kp kl kc] 54)) HBX.out.2, World.cell?_alloc_at _ _ _ _ rfl]; exact hv
     have x0 := hbox 0 _ rfl
     have x1 := hbox 1 _ rfl
     have x2 := hbox 2 _ rfl
     have x3 := hbox 3 _ rfl
     have x4 := hbox 4 _ rfl
     have c1 : wq.cell? ⟨w.heap.size, 0, none⟩ = some (.slice (some ⟨b, off, none⟩) len c) := by rw [HQ.out.cell hsz.out]; exact C1.out
     have HWQ := lh (B1.out.trans (HQ.out.mono (by have := hsz.out; omega)))
     by_cases hjl : j < kl
     · obtain ⟨kb, koff, rfl, hkbl, hkc⟩ := HIV.out.cell (by omega)
       have hkj := hkc j hjl
       rw [← HWQ.out.cell (p := ⟨kb, koff + j, none⟩) hkbl] at hkj
       have hjx : j < nd.kids.length := by have := HKL.out; omega
       have hmem : nd.kids.getD j 0 ∈ nd.kids := by simp [List.getD, hjx]
       obtain ⟨hq0, hq1⟩ := HKB.out.2.2 _ hmem
       have HKT : Hid ((kindsOf ns nd).take (j + 1) = (kindsOf ns nd).take j ++ [kindAt ns (nd.kids.getD j 0).toNat]) := lh (by
        rw [List.take_succ_eq_append_getElem (by rw [HKN.out]; exact hjl)]
        simp [kindsOf, List.getD, hjx])
       generalize nd.kids.getD j 0 = kid at *
       obtain ⟨q, rfl⟩ : ∃ q : Nat, kid = (q : Int) := ⟨kid.toNat, (Int.toNat_of_nonneg hq0).symm⟩
       have hql : q < len := by omega
       obtain ⟨kp2, kl2, kc2, hn2⟩ := HC.out q hql
       have hk2 := (hn2.on hbl HWQ.out).kind
       have HKT2 : Hid ((kindsOf ns nd).take (j + 1) = (kindsOf ns nd).take j ++ [(ns.getD q default).kind]) := lh (by rw [HKT.out, Int.toNat_natCast]; rfl)
       generalize (ns.getD q default).kind = kq at *
       clear hkc hkbl hjx hmem hn2 hbox
       have ho := HO.out
       have hHQs := HQ.out.size
       go_wp2_with (at_builtin; refine wpList_append_lies _ rfl (.tmp 28) (.tmp 35) 22 rfl w1.heap.size 5 i0 _ 1 1 Tryz.underlying22 I0.out I1.out I2.out I3.out rfl (by decide) u4 j (((kindsOf ns nd).take j).map (Value.int .u8)) rfl (ho.alloc _) ⟨wq.heap.size, 0, none⟩ 1 1 [.int .u8 kq] rfl rfl (World.news_of_block (cs := #[.int .u8 kq]) (t := 5) (fr := (0, 0)) (heap_alloc_new _ _)) (u8_one _) (by decide) (by unfold maxLen; omega) (by omega) (by simp; omega) _ rfl ?_)
       intro g cap w5 hown5 hgrow5 hlie _
       have HO5 : Hid (w5.ownsRow w1.heap.size 5 1 (.slice (some ⟨g, 0, none⟩) (j + 1) cap) (j + 1) (((kindsOf ns nd).take (j + 1)).map (Value.int .u8))) := lh (by rw [HKT2.out, List.map_append, List.map_take]; exact hown5)
       have HB5 : Hid (Below w1.heap.size w1 w5) := lh ((HQ.out.alloc (by omega) (.cells #[.int .u8 kq] 5)).grown hgrow5 (by simp; omega) (fun k hk => (ho.lt k hk).1))
       have HX5 : Hid (wo.heap.size < w5.heap.size ∧ w5.heap[wo.heap.size]? = (wo.alloc (.cells #[.int .u8 nd.kind, .int .i64 nd.at', .string nd.text, .int .i64 nd.n, .slice (some ⟨kb, koff, none⟩) kl kc] 54)).heap[wo.heap.size]?) := lh (by
        have h1 := HBX.out
        refine ⟨?_, ?_⟩
        · have := hgrow5.size; simp at this; omega
        · rw [hgrow5.block _ (by simp; omega) (fun e => HNE.out e.symm), Below.heap_alloc _ _ _ h1.1]; exact h1.2)
       have HN5 : Hid ((Value.slice (some ⟨g, 0, none⟩) (j + 1) cap).ownBlock ≠ some wo.heap.size) := lh (by
        intro e
        simp only [Value.ownBlock, Option.some.injEq] at e
        rcases hlie with h | h
        · exact HNE.out (by rw [h, e])
        · have := HBX.out.1
          (try simp at h)
          omega)
       clear hown5 hgrow5 hlie ho
       go_wp2_with fail
       go_roundw
       case rel => exact ⟨j + 1, by omega, by go_num, HO5, HB5, HX5, HN5⟩
       case measure => simp [intOf]; omega
     · have hje : j = kl := by omega
       have HO2 : Hid (wq.ownsRow w1.heap.size 5 1 u4 (kindsOf ns nd).length ((kindsOf ns nd).map (Value.int .u8))) := lh (by
        have := HO.out
        rw [hje, ← HKN.out, List.take_length] at this
        exact this)
       obtain ⟨pv, cv, rfl, hbv⟩ := own_bv HO2.out
       have HBV := lh hbv
       have RU2 := RU.out.on RU.out.lt HQ.out
       clear hje hbox hbv
       rcases RU2.ask nd.kind with ⟨hno, hask⟩ | ⟨R, tb, mb, kb, hyes, hask, hnv⟩
       · have HF : Hid (nodeOk ns nd = false) := lh (by unfold nodeOk; rw [hno])
         clear hno RU2
         go_wp2
         go_ret
         exact ⟨retB (by rw [ruledP, HN.out HF.out]), HWQ.out⟩
       · have HF : Hid (nodeOk ns nd = fitsRule R nd (kindsOf ns nd)) := lh (by unfold nodeOk; rw [hyes])
         have HRC := lh (rule_at wq tb mb kb R nd (.slice kp kl kc) pv (kindsOf ns nd).length cv (kindsOf ns nd) hnv HBV.out (by rw [HKN.out]; omega) HKB.out.2.1 (rule_small hyes) kp kl kc rfl)
         clear hyes RU2 hnv
         unfold closV at hask
         go_wp2_with fail
         (with_reducible refine HRC.out.mono ?_)
         rintro e w6 ⟨rfl, hb6⟩
         have HB6 := lh (HQ.out.trans (hb6.mono HQ.out.size))
         have HO6 := lh (HO2.out.kept (row := none) ⟨hb6.os, hb6.tape, hb6.output, hb6.size, fun k hk _ => hb6.block k hk⟩ (by
          cases hv : (Value.slice pv (kindsOf ns nd).length cv).ownBlock with
          | none => exact Or.inl rfl
          | some k => exact Or.inr (by simp)))
         have HW6 := lh (HWQ.out.trans (hb6.mono HWQ.out.size))
         clear hb6 HRC hask
         cases hfr : fitsRule R nd (kindsOf ns nd) with
         | true =>
          have HFR := lh (HF.out.trans hfr)
          clear hfr
          go_wp2_with fail
          go_roundw
          case rel => exact ⟨i + 1, _, _, by omega, by go_num, HO6, lh (by rw [HT.out, HA.out, HFR.out]; rfl), HB6⟩
          case measure => simp [intOf]; omega
         | false =>
          have HFR := lh (HF.out.trans hfr)
          clear hfr
          go_wp2
          go_ret
          exact ⟨retB (by rw [ruledP, HN.out HFR.out]), HW6.out⟩
  · have e : i = ns.length := by have := hlen.out; omega
    have HE := lh e
    clear e
    go_wp2
    go_ret
    refine ⟨retB ?_, B1.out.trans (HB.out.mono (by have := hsz.out; omega))⟩
    have := HA.out
    rw [HE.out, List.take_length] at this
    exact this.symm
end Tr
section
open Go.RowKit
mutual
theorem raw_kids (b : Nat) : ∀ (a : Ast) (x : Nat × Nd), x ∈ raw b a → ∀ z ∈ x.2.kids, ∃ y ∈ raw b a, z = (y.1 : Int)
 | .mk k a t n ks, x, hx, z, hz => by
  simp only [raw, List.mem_cons] at hx ⊢
  rcases hx with rfl | hx
  · obtain ⟨y, hy, e⟩ := roots_raw b ks z hz
    exact ⟨y, Or.inr hy, e⟩
  · obtain ⟨y, hy, e⟩ := rawL_kids b ks x hx z hz
    exact ⟨y, Or.inr hy, e⟩
theorem rawL_kids (b : Nat) : ∀ (l : List Ast) (x : Nat × Nd), x ∈ rawL b l → ∀ z ∈ x.2.kids, ∃ y ∈ rawL b l, z = (y.1 : Int)
 | [], x, hx, _, _ => by simp [rawL] at hx
 | y :: r, x, hx, z, hz => by
  simp only [rawL, List.mem_append] at hx ⊢
  rcases hx with hx | hx
  · obtain ⟨u, hu, e⟩ := raw_kids b y x hx z hz
    exact ⟨u, Or.inl hu, e⟩
  · obtain ⟨u, hu, e⟩ := rawL_kids (b + y.size) r x hx z hz
    exact ⟨u, Or.inr hu, e⟩
theorem roots_raw (b : Nat) : ∀ (l : List Ast) (z : Int), z ∈ roots b l → ∃ y ∈ rawL b l, z = (y.1 : Int)
 | [], z, hz => by simp [roots] at hz
 | y :: r, z, hz => by
  simp only [roots, List.mem_cons] at hz
  simp only [rawL, List.mem_append]
  rcases hz with rfl | hz
  · obtain ⟨nd, rest, e⟩ := raw_head b y
    have := size_pos y
    exact ⟨(b + y.size - 1, nd), Or.inl (by rw [e]; simp), by simp only; omega⟩
  · obtain ⟨u, hu, e⟩ := roots_raw (b + y.size) r z hz
    exact ⟨u, Or.inr hu, e⟩
end
mutual
theorem raw_few (b : Nat) : ∀ (a : Ast) (x : Nat × Nd), x ∈ raw b a → x.2.kids.length ≤ a.size
 | .mk k a t n ks, x, hx => by
  simp only [raw, List.mem_cons] at hx
  simp only [Ast.size]
  rcases hx with rfl | hx
  · simp only [roots_length]
    have := length_le_sizeL ks
    omega
  · have := rawL_few b ks x hx
    omega
theorem rawL_few (b : Nat) : ∀ (l : List Ast) (x : Nat × Nd), x ∈ rawL b l → x.2.kids.length ≤ sizeL l
 | [], x, hx => by simp [rawL] at hx
 | y :: r, x, hx => by
  simp only [rawL, List.mem_append] at hx
  simp only [sizeL]
  rcases hx with hx | hx
  · have := raw_few b y x hx
    omega
  · have := rawL_few (b + y.size) r x hx
    omega
end
def startK (D : List (Nat × Nd)) (i : Nat) : List Int := (D.getD i default).2.kids
def gF (F : Nat → Int) (z : Int) : Int := F z.toNat
def kidsK (F : Nat → Int) (D : List (Nat × Nd)) (i j x : Nat) : List Int :=
 if x < i then (startK D x).map (gF F) else if x = i then ((startK D x).take j).map (gF F) ++ (startK D x).drop j else startK D x
theorem kidsK_zero (F : Nat → Int) (D : List (Nat × Nd)) (x : Nat) : kidsK F D 0 0 x = startK D x := by
 simp only [kidsK, Nat.not_lt_zero, if_false]
 split <;> simp
theorem kidsK_done (F : Nat → Int) (D : List (Nat × Nd)) (i x : Nat) : kidsK F D i (startK D i).length x = kidsK F D (i + 1) 0 x := by
 simp only [kidsK]
 by_cases h1 : x < i
 · rw [if_pos h1, if_pos (by omega)]
 · rw [if_neg h1]
   by_cases h2 : x = i
   · subst h2
     rw [if_pos rfl, if_pos (by omega)]
     simp
   · rw [if_neg h2, if_neg (by omega)]
     split <;> simp
theorem kidsK_here (F : Nat → Int) (D : List (Nat × Nd)) (i j : Nat) : kidsK F D i j i = ((startK D i).take j).map (gF F) ++ (startK D i).drop j := by simp [kidsK]
theorem kidsK_length (F : Nat → Int) (D : List (Nat × Nd)) (i j x : Nat) : (kidsK F D i j x).length = (startK D x).length := by
 simp only [kidsK]
 split
 · simp
 · split <;> simp <;> omega
theorem kidsK_at (F : Nat → Int) (D : List (Nat × Nd)) (i j : Nat) (hj : j < (startK D i).length) : (kidsK F D i j i)[j]? = (startK D i)[j]? := by
 rw [kidsK_here, List.getElem?_append_right (by simp; omega)]
 simp [show min j (startK D i).length = j by omega]
theorem kidsK_set (F : Nat → Int) (D : List (Nat × Nd)) (i j : Nat) (z : Int) (hz : (startK D i)[j]? = some z) : kidsK F D i (j + 1) i = (kidsK F D i j i).set j (gF F z) := by
 have hj : j < (startK D i).length := (List.getElem?_eq_some_iff.1 hz).1
 rw [kidsK_here, kidsK_here]
 apply List.ext_getElem?
 intro x
 by_cases h1 : x < j
 · rw [List.getElem?_append_left (by simp; omega), List.getElem?_set_ne (by omega), List.getElem?_append_left (by simp; omega)]
   simp [h1, show x < j + 1 by omega]
 · by_cases h2 : x = j
   · subst h2
     rw [List.getElem?_append_left (by simp; omega), List.getElem?_set_self (by simp; omega)]
     simp [hz]
   · rw [List.getElem?_append_right (by simp; omega), List.getElem?_set_ne (by omega), List.getElem?_append_right (by simp; omega)]
     simp only [List.length_map, List.length_take, List.getElem?_drop]
     congr 1
     omega
theorem kidsK_other (F : Nat → Int) (D : List (Nat × Nd)) (i j x : Nat) (hx : x ≠ i) : kidsK F D i (j + 1) x = kidsK F D i j x := by
 simp only [kidsK, if_neg hx]
structure F2 (B n0 : Nat) (w0 : World) (kvs : List Value) (N bp : Nat) (F : Nat → Int) (D : List (Nat × Nd)) (vn : Value) (K : Nat → List Int) (rs : List Nat) (w : World) : Prop where
 below : Below B w0 w
 size : n0 ≤ w.heap.size
 bp0 : n0 ≤ bp
 places : ∃ cs : Array Value, w.heap[bp]? = some (.cells cs 3 (0, 0)) ∧ cs.size = N ∧ ∀ j, j < N → cs[j]? = some (.int .i64 (F j))
 nodes : w.ownsRow n0 54 5 vn D.length (rowD kvs D)
 kids : ∀ i, i < D.length → own1 B w (kvs.getD (D.getD i default).1 default) (K i)
 near : ∀ i, i < D.length → ∀ g, (kvs.getD (D.getD i default).1 default).ownBlock = some g → g < n0
 apart : ∀ i j, i < D.length → j < D.length → i ≠ j → ∀ g, (kvs.getD (D.getD i default).1 default).ownBlock = some g → (kvs.getD (D.getD j default).1 default).ownBlock ≠ some g
 marks : ∀ r ∈ rs, n0 ≤ r ∧ w.heap[r]? = some (.deferred (some []))
 dist : rs.Nodup
section
variable {B n0 : Nat} {w0 : World} {kvs : List Value} {N bp : Nat} {F : Nat → Int} {D : List (Nat × Nd)} {vn : Value} {K K' : Nat → List Int} {rs : List Nat} {w w' : World}
theorem F2.congr (h : F2 B n0 w0 kvs N bp F D vn K rs w) (hk : ∀ i, i < D.length → K i = K' i) : F2 B n0 w0 kvs N bp F D vn K' rs w :=
 { h with kids := fun i hi => by rw [← hk i hi]; exact h.kids i hi }
theorem F2.grown (h : F2 B n0 w0 kvs N bp F D vn K rs w) (hB : B ≤ n0) (hg : w.grownBy w' none) : F2 B n0 w0 kvs N bp F D vn K rs w' where
 below := h.below.grown hg (Nat.le_trans hB h.size) (fun _ e => by cases e)
 size := Nat.le_trans h.size hg.size
 bp0 := h.bp0
 places := by
  obtain ⟨cs, k1, k2⟩ := h.places
  exact ⟨cs, by rw [hg.block bp (Array.getElem?_eq_some_iff.1 k1).1 (by simp)]; exact k1, k2⟩
 nodes := h.nodes.kept hg (by cases vn.ownBlock <;> simp)
 kids := fun i hi => (h.kids i hi).grown hg (by cases (kvs.getD (D.getD i default).1 default).ownBlock <;> simp)
 near := h.near
 apart := h.apart
 marks := fun r hr => ⟨(h.marks r hr).1, by rw [hg.block r (Array.getElem?_eq_some_iff.1 (h.marks r hr).2).1 (by simp)]; exact (h.marks r hr).2⟩
 dist := h.dist
theorem F2.put (h : F2 B n0 w0 kvs N bp F D vn K rs w) (i : Nat) (hi : i < D.length) {g c : Nat} (hkv : kvs.getD (D.getD i default).1 default = .slice (some ⟨g, 0, none⟩) (K i).length c) (j : Nat) (z : Int) (hj : j < (K i).length) (hB : B ≤ n0)
 (h1 : K' i = (K i).set j z) (h2 : ∀ x, x < D.length → x ≠ i → K' x = K x) : F2 B n0 w0 kvs N bp F D vn K' rs (w.setCell ⟨g, j, none⟩ (.int .i64 z)) := by
 have hg := grownBy_set w ⟨g, j, none⟩ (.int .i64 z)
 have hgb : (kvs.getD (D.getD i default).1 default).ownBlock = some g := by rw [hkv]; rfl
 have hgn := h.near i hi g hgb
 have hk := h.kids i hi
 have hlo := (hk.lt g hgb).1
 exact {
  below := h.below.grown hg (Nat.le_trans hB h.size) (fun q e => by cases e; exact hlo)
  size := Nat.le_trans h.size hg.size
  bp0 := h.bp0
  places := by
   obtain ⟨cs, k1, k2⟩ := h.places
   have := h.bp0
   exact ⟨cs, by rw [hg.block bp (Array.getElem?_eq_some_iff.1 k1).1 (fun e => by have e := Option.some.inj e; simp only at e; omega)]; exact k1, k2⟩
  nodes := h.nodes.kept hg (Or.inr (fun e => by have := (h.nodes.lt _ e).1; simp only at this; omega))
  kids := fun x hx => by
   by_cases e : x = i
   · subst e
     rw [h1]
     rw [hkv] at hk ⊢
     have h3 := World.ownsRow.stored hk j (.int .i64 z)
     unfold own1
     rw [List.length_set, List.map_set]
     exact h3.1
   · rw [h2 x hx e]
     exact (h.kids x hx).grown hg (Or.inr (h.apart i x hi hx (fun e1 => e e1.symm) g hgb))
  near := h.near
  apart := h.apart
  marks := fun r hr => ⟨(h.marks r hr).1, by
   have h3 := (h.marks r hr).1
   rw [hg.block r (Array.getElem?_eq_some_iff.1 (h.marks r hr).2).1 (fun e => by have e := Option.some.inj e; simp only at e; omega)]; exact (h.marks r hr).2⟩
  dist := h.dist }
theorem F2.placeAt (h : F2 B n0 w0 kvs N bp F D vn K rs w) (j : Nat) (hj : j < N) : w.cell? ⟨bp, j, none⟩ = some (.int .i64 (F j)) := by
 obtain ⟨cs, k1, k2, k3⟩ := h.places
 rw [cell_of_row _ _ _ _ _ _ k1]; exact k3 j hj
theorem F1.go {md : List Nd} {bq : Nat} {pv : Value} {ts : List Int} {vm : Value} (h : F1 n0 w0 kvs N bp bq F D vn pv ts rs w) (hM : Made B w0 vm kvs md) (hn : n0 = w0.heap.size) (hD : ∀ (i : Nat) (x : Nat × Nd), D[i]? = some x → md[x.1]? = some x.2) (hnd : (D.map (·.1)).Nodup) : F2 B n0 w0 kvs N bp F D vn (startK D) rs w := by
 have hget : ∀ i, i < D.length → D[i]? = some (D.getD i default) := fun i hi => by simp [List.getD, hi]
 have hk0 : ∀ i, i < D.length → own1 B w0 (kvs.getD (D.getD i default).1 default) (startK D i) := fun i hi => by
  have h1 := hD i _ (hget i hi)
  have h2 := hM.kids (D.getD i default).1 (List.getElem?_eq_some_iff.1 h1).1
  rwa [show md.getD (D.getD i default).1 default = (D.getD i default).2 by simp only [List.getD] at h1 ⊢; rw [h1]; rfl] at h2
 subst hn
 exact {
  below := h.below.mono hM.base
  size := h.size
  bp0 := h.bp0
  places := h.places
  nodes := h.nodes
  kids := fun i hi => by
   obtain ⟨h1, h2⟩ := hk0 i hi
   refine ⟨h1, ?_⟩
   rcases h2 with h2 | ⟨g, cap, cur, e, hb, hh, hr⟩
   · exact Or.inl h2
   · exact Or.inr ⟨g, cap, cur, e, hb, by rw [h.below.block g (Array.getElem?_eq_some_iff.1 hh).1]; exact hh, hr⟩
  near := fun i hi g hg => ((hk0 i hi).lt g hg).2
  apart := fun i j hi hj hne g hg => by
   have e1 := hget i hi
   have e2 := hget j hj
   have l1 : (D.getD i default).1 < kvs.length := by rw [hM.klen]; exact (List.getElem?_eq_some_iff.1 (hD i _ e1)).1
   have l2 : (D.getD j default).1 < kvs.length := by rw [hM.klen]; exact (List.getElem?_eq_some_iff.1 (hD j _ e2)).1
   have hpp : (D.getD i default).1 ≠ (D.getD j default).1 := fun e => by
    have m1 : (D.map (·.1))[i]? = some (D.getD i default).1 := by rw [List.getElem?_map, e1]; rfl
    have m2 : (D.map (·.1))[j]? = some (D.getD j default).1 := by rw [List.getElem?_map, e2]; rfl
    rw [e] at m1
    exact hne ((List.getElem?_inj (by simpa using hi) hnd).1 (by rw [m1, m2]))
   have hp := List.pairwise_iff_getElem.1 hM.pair
   have g1 : kvs.getD (D.getD i default).1 default = kvs[(D.getD i default).1] := by rw [List.getD_eq_getElem?_getD, List.getElem?_eq_getElem l1]; rfl
   have g2 : kvs.getD (D.getD j default).1 default = kvs[(D.getD j default).1] := by rw [List.getD_eq_getElem?_getD, List.getElem?_eq_getElem l2]; rfl
   rw [g1] at hg
   rw [g2]
   rcases Nat.lt_or_gt_of_ne hpp with h3 | h3
   · exact hp _ _ l1 l2 h3 g hg
   · exact fun e => hp _ _ l2 l1 h3 g e hg
  marks := h.marks
  dist := h.dist }
theorem ownsRow_agree {base e size n : Nat} {v : Value} {xs : List Value} {wX : World} (h : w.ownsRow base e size v n xs) (hX : ∀ k, base ≤ k → wX.heap[k]? = w.heap[k]?) : wX.ownsRow base e size v n xs := by
 obtain ⟨h1, h2⟩ := h
 refine ⟨h1, ?_⟩
 rcases h2 with h2 | ⟨g, cap, cur, h2, h3, h4, h5⟩
 · exact .inl h2
 · exact .inr ⟨g, cap, cur, h2, h3, by rw [hX g h3]; exact h4, h5⟩
theorem tree_of {gv vc : Nat} (hnodes : w.ownsRow n0 54 5 (.slice (some ⟨gv, 0, none⟩) D.length vc) D.length (rowD kvs D)) (hkids : ∀ i, i < D.length → own1 B w (kvs.getD (D.getD i default).1 default) ((startK D i).map (gF F))) : Tr.TV w (some ⟨gv, 0, none⟩) D.length vc (D.map (placed (gF F))) where
 len_eq := by simp
 cap := by
  rcases hnodes.2 with ⟨h1, _⟩ | ⟨g, cap, cur, h1, _, _, h2, _⟩
  · simp at h1
  · simp only [Value.slice.injEq] at h1; omega
 node := fun hl => ⟨gv, 0, rfl, (hnodes.lt gv rfl).2, fun i hi => by
  have hx : D[i]? = some (D.getD i default) := by simp [List.getD, hi]
  have hc : ∀ q u, (nodeC (D.getD i default).2 (kvs.getD (D.getD i default).1 default))[q]? = some u → w.cell? ⟨gv, 0 + i * 5 + q, none⟩ = some u := fun q u hq => by
   have h5 : q < 5 := by have := (List.getElem?_eq_some_iff.1 hq).1; simpa [nodeC] using this
   rw [Nat.zero_add, hnodes.cellAt (i * 5 + q) (by omega), rowD_get kvs D i _ hx q h5]
   exact hq
  have hnd : (D.map (placed (gF F))).getD i default = placed (gF F) (D.getD i default) := by simp [List.getD, hi]
  have hk := hkids i hi
  rw [hnd]
  obtain ⟨k1, k2⟩ := hk
  rcases k2 with ⟨k2, k3⟩ | ⟨g, cap, cur, k2, k3⟩
  · have k3' : (placed (gF F) (D.getD i default)).kids = [] := List.length_eq_zero_iff.1 k3
    exact ⟨none, 0, 0, ⟨hc 0 _ rfl, hc 1 _ rfl, hc 2 _ rfl, hc 3 _ rfl, by rw [← k2]; exact hc 4 _ rfl, ⟨by rw [k3']; rfl, Nat.le_refl _, fun h0 => absurd h0 (by omega)⟩⟩⟩
  · refine ⟨some ⟨g, 0, none⟩, ((startK D i).map (gF F)).length, cap, ⟨hc 0 _ rfl, hc 1 _ rfl, hc 2 _ rfl, hc 3 _ rfl, by rw [← k2]; exact hc 4 _ rfl, ⟨rfl, k3.2.2.1, fun h0 => ?_⟩⟩⟩
    have hown : w.ownsRow B 3 1 (.slice (some ⟨g, 0, none⟩) ((startK D i).map (gF F)).length cap) ((startK D i).map (gF F)).length (((startK D i).map (gF F)).map (Value.int .i64)) := ⟨k1, .inr ⟨g, cap, cur, rfl, k3⟩⟩
    refine ⟨g, 0, rfl, (hown.lt g rfl).2, fun j hj => ?_⟩
    rw [Nat.zero_add, hown.cellAt j (by omega)]
    show _ = some (Value.int .i64 (((startK D i).map (gF F)).getD j 0))
    simp only [List.getElem?_map, List.getD]
    simp only [List.length_map] at hj
    simp [hj]⟩
theorem F2.tree {gv vc : Nat} {wX : World} (h : F2 B n0 w0 kvs N bp F D (.slice (some ⟨gv, 0, none⟩) D.length vc) (kidsK F D D.length 0) rs w) (hB : B ≤ n0) (hX : ∀ k, B ≤ k → wX.heap[k]? = w.heap[k]?) : Tr.TV wX (some ⟨gv, 0, none⟩) D.length vc (D.map (placed (gF F))) :=
 tree_of (ownsRow_agree h.nodes (fun k hk => hX k (Nat.le_trans hB hk))) (fun i hi => by
  have hk := h.kids i hi
  have hki : kidsK F D D.length 0 i = (startK D i).map (gF F) := by simp [kidsK, hi]
  rw [hki] at hk
  exact ownsRow_agree hk hX)
theorem F2.unmark {r : Nat} (h : F2 B n0 w0 kvs N bp F D vn K (r :: rs) w) (hB : B ≤ n0) : w.heap[r]? = some (.deferred (some [])) ∧ F2 B n0 w0 kvs N bp F D vn K rs (w.putObj r (.deferred none)) := by
 obtain ⟨h1, h2⟩ := h.marks r (by simp)
 have hg := grownBy_putObj' w r (.deferred none)
 refine ⟨h2, ?_⟩
 exact {
  below := h.below.grown hg (Nat.le_trans hB h.size) (fun q e => by cases e; omega)
  size := Nat.le_trans h.size hg.size
  bp0 := h.bp0
  places := by
   obtain ⟨cs, k1, k2⟩ := h.places
   exact ⟨cs, by rw [hg.block bp (Array.getElem?_eq_some_iff.1 k1).1 (fun e => by
    have e := Option.some.inj e
    rw [e, h2] at k1
    simp at k1)]; exact k1, k2⟩
  nodes := ownsRow_putObj h.nodes _ h2 rfl
  kids := fun i hi => ownsRow_putObj (h.kids i hi) _ h2 rfl
  near := h.near
  apart := h.apart
  marks := fun x hx => ⟨(h.marks x (by simp [hx])).1, by
   have h3 := (h.marks x (by simp [hx])).2
   have hne : x ≠ r := fun e => (List.nodup_cons.1 h.dist).1 (by rw [← e]; exact hx)
   rw [hg.block x (Array.getElem?_eq_some_iff.1 h3).1 (fun e => hne (Option.some.inj e))]; exact h3⟩
  dist := (List.nodup_cons.1 h.dist).2 }
theorem F2.res {q0 T : Nat} {u u' : Value} (h : F2 B n0 w0 kvs N bp F D vn K rs w) (hb : Boxed w q0 T u) (h1 : q0 < n0) (h2 : B ≤ q0) (hT : T ≠ 3) : F2 B n0 w0 kvs N bp F D vn K rs (w.setCell ⟨q0, 0, none⟩ u') := by
 have hg := grownBy_set w ⟨q0, 0, none⟩ u'
 have hb' : w.heap[q0]? = some (.cells #[u] T (0, 0)) := hb
 have hbp := h.bp0
 exact {
  below := h.below.grown hg (by have := hb.lt; omega) (fun q e => by cases e; exact h2)
  size := Nat.le_trans h.size hg.size
  bp0 := h.bp0
  places := by
   obtain ⟨cs, k1, k2⟩ := h.places
   exact ⟨cs, by rw [hg.block bp (Array.getElem?_eq_some_iff.1 k1).1 (fun e => by have e := Option.some.inj e; simp only at e; omega)]; exact k1, k2⟩
  nodes := h.nodes.kept hg (Or.inr (fun e => by have := (h.nodes.lt _ e).1; simp only at this; omega))
  kids := fun i hi => (h.kids i hi).grown hg (Or.inr (row_ne (h.kids i hi) hb' (fun cs fr e => by simp only [Obj.cells.injEq] at e; exact hT e.2.1)))
  near := h.near
  apart := h.apart
  marks := fun r hr => ⟨(h.marks r hr).1, by
   have h3 := (h.marks r hr).1
   rw [hg.block r (Array.getElem?_eq_some_iff.1 (h.marks r hr).2).1 (fun e => by have e := Option.some.inj e; simp only at e; omega)]; exact (h.marks r hr).2⟩
  dist := h.dist }
theorem F2.kidV (h : F2 B n0 w0 kvs N bp F D vn K rs w) (i : Nat) (hi : i < D.length) : ∃ kp kc, kvs.getD (D.getD i default).1 default = .slice kp (K i).length kc ∧ (0 < (K i).length → ∃ g, kp = some ⟨g, 0, none⟩ ∧ (∀ j u, (K i)[j]? = some u → w.cell? ⟨g, j, none⟩ = some (.int .i64 u)) ∧ (∀ j, w.frozen? ⟨g, j, none⟩ = false) ∧ g < n0) := by
 have hk := h.kids i hi
 obtain ⟨h1, h2⟩ := id hk
 rcases h2 with ⟨h2, h3⟩ | ⟨g, cap, cur, h2, h3⟩
 · exact ⟨none, 0, by rw [h3]; exact h2, fun h0 => by omega⟩
 · refine ⟨_, _, h2, fun _ => ⟨g, rfl, fun j u hu => ?_, fun j => ?_, h.near i hi g (by rw [h2]; rfl)⟩⟩
   · rw [h2] at hk
     have hj := (List.getElem?_eq_some_iff.1 hu).1
     rw [World.ownsRow.cellAt hk j (by omega), List.getElem?_map, hu]
     rfl
   · rw [h2] at hk
     exact World.ownsRow.frozenAt hk j
end
def markOf (r : Nat) : Deferred := { target := .collected r, args := #[] }
theorem leaves_marks {F : Fence} {n : Nat} {P : Program} {fn : Func} {tmps : Array Value} {R : Ending → World → Prop} (I : List Nat → World → Prop) (hI : ∀ r rs w, I (r :: rs) w → w.heap[r]? = some (.deferred (some [])) ∧ I rs (w.putObj r (.deferred none))) :
 ∀ (rs : List Nat) (w : World), I rs w → (∀ w', I [] w' → LeavesIn F n P fn tmps R [] .returning w') → LeavesInM F n P fn tmps R (rs.map markOf) .returning w
 | [], w, h, hR => hR w h
 | r :: rs, w, h, hR => ⟨by simp, .inl ⟨r, _, rfl, run_takeDeferred (hI r rs w h).1, leaves_marks I hI rs _ (hI r rs w h).2 hR⟩⟩
end
end Go.Proofs.YthdioipfdbbmmaaGreatDoor
