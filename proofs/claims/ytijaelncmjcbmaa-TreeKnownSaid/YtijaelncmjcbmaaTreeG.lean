import Derived.Test.YtijaelncmjcbmaaTreeF
namespace Go.Proofs.Ytijaelncmjcbmaa
open Go.RowKit Go.MapKept
/-- One step of the map's making, whichever comes up. -/
theorem rules_step {ops : Array Oper} (h1 : shapeOk ops) (h2 : depsOk ops = true) {w0 WL : World} {a0 : Act} (hloc : ∀ x, 1 ≤ x → x ≤ 5 → ∃ b g cs, a0.tmps.getD x undef = .pointer (some ⟨b, 0, none⟩) ∧ PC WL b 0 (locP x) g cs) {Q : Exit → Act → World → Prop}
    (listed : Array Bool) (a : Act) (w : World) (i : Nat) (o : Oper) (hsz : listed.size = ops.size) (hI : RInv w0 WL a0 listed a w) (ho : ops[i]? = some o) (hni : listed.getD i true = false) (hd : ∀ e ∈ o.after, Region.binds .any e = true → listed.getD e.on false = true) :
    wpOp Try.prog ops Q i (fun a' w' => RInv w0 WL a0 (listed.setIfInBounds i true) a' w') a w := by
  obtain ⟨k, hk, ho1, ho2, ho3⟩ := shape_at h1 ho
  have hs125 : listed.size = 125 := by rw [hsz, shape_size h1]
  have hil : i < 125 := by rw [← rt_size]; exact (List.getElem?_eq_some_iff.1 hk).1
  obtain ⟨_, d2, d3⟩ := deps_at h2 hil ho hk
  have hgood := rt_good hk
  have hni' : listed.getD i false = false := by
    have : i < listed.size := by omega
    simp [Array.getD, this] at hni ⊢
    exact hni
  -- what a step wants is there
  have hreq : ∀ t s, (t, s) ∈ k.reqs → SpV w (a.tmps.getD t undef) s := by
    intro t s hr
    obtain ⟨e, he, hb, hx⟩ := d2 (t, s) hr
    obtain ⟨l, hl, hlo⟩ := Option.bind_eq_some_iff.1 hx
    exact hI.done e.on l hl (hd e he hb) t s hlo
  have hfirst : ∀ j, k.first = some j → listed.getD j false = true := by
    intro j hj
    obtain ⟨e, he, hb, hx⟩ := d3 j hj
    rw [← hx]
    exact hd e he hb
  obtain ⟨dst, op, ty, pos, after, guard⟩ := o
  simp only at ho1 ho2 ho3
  subst ho1 ho2 ho3
  unfold wpOp
  rw [ho]
  simp only
  rw [if_pos (show Region.wanted { dst := k.dst, op := k.op, type := ty, pos := pos, after := after, guard := none } (yielded ops a.tmps) = true from rfl)]
  refine Or.inl ?_
  have hput : ∀ d s, k.out = some (d, s) → ∀ v w', SpV w' v s → Below w.heap.size w w' → RInv w0 WL a0 (listed.setIfInBounds i true) (a.put (some d) v) w' := fun d s hks v w' hv hb => hI.put hk hs125 hks hv hb
  cases k with
  | mk =>
    have hi0 := mk_at hk
    subst hi0
    exact wp_mk a w _ Q ty pos after (hI.made hs125 hni')
  | bs d l =>
    simp only [RK.good, Bool.or_eq_true, beq_iff_eq] at hgood
    exact wp_bs a w _ Q d ty pos after l hgood (hput d _ rfl)
  | isc d t l => exact wp_isc a w _ Q d ty pos after t l (hreq t _ (by simp [RK.reqs])) (hput d _ rfl)
  | part d s p => exact wp_part a w _ Q d ty pos after s p hgood (fun t ht => by subst ht; exact hreq t _ (by simp [RK.reqs])) (hput d _ rfl)
  | ld d x p =>
    simp only [RK.good, Bool.and_eq_true, decide_eq_true_eq, beq_iff_eq] at hgood
    obtain ⟨⟨g1, g2⟩, g3⟩ := hgood
    obtain ⟨b, g, cs, q1, q2⟩ := hloc x g1 g2
    rw [← g3] at q2
    exact wp_ld a w _ Q d ty pos after x b p g cs (by rw [hI.locs x g1 g2]; exact q1) (q2.on hI.aside) (hput d _ rfl)
  | ps d ts =>
    simp only [RK.good, Bool.or_eq_true, beq_iff_eq] at hgood
    exact wp_ps a w _ Q d ty pos after ts (by omega) (fun x hx => hreq x.1 _ (by simp only [RK.reqs, List.mem_map]; exact ⟨x, hx, rfl⟩)) (hput d _ rfl)
  | nd d s R => exact wp_nd a w _ Q d ty pos after s R hgood (fun t ht => by subst ht; exact hreq t _ (by simp [RK.reqs])) (hput d _ rfl)
  | ins q t R =>
    obtain ⟨r, V, e0, e1, e2⟩ := hI.laid hk hs125 hni' (hfirst 0 rfl) (hreq t _ (by simp [RK.reqs]))
    exact wp_ins a w _ Q ty pos after q t r R V e0 e1 e2
  | mv d =>
    have := hI.move hk hs125 (d := d) rfl rfl (hfirst 0 rfl)
    exact this
  | asg d t =>
    simp only [RK.good, beq_iff_eq] at hgood
    subst hgood
    have h123 : RT[123]? = some (RK.mv 116) := rfl
    obtain ⟨q1, q2⟩ := hI.mvd 123 _ 116 h123 (hfirst 123 rfl) rfl
    have := hI.move hk hs125 (d := d) (v := a.tmps.getD 116 undef) rfl q1 q2
    exact this
theorem rules_region {ops : Array Oper} {id : Nat} (h1 : shapeOk ops) (h2 : depsOk ops = true) (w0 : World) (a : Act) (w : World) (hsz : a.tmps.size = 117) (hb : Below w0.heap.size w0 w)
    (hloc : ∀ x, 1 ≤ x → x ≤ 5 → ∃ b g cs, a.tmps.getD x undef = .pointer (some ⟨b, 0, none⟩) ∧ PC w b 0 (locP x) g cs) (Q : Exit → Act → World → Prop)
    (hQ : ∀ a' w' r, a'.defers = a.defers → a'.tmps.size = 117 → a'.tmps.getD 0 undef = .map (some r) → w0.heap.size ≤ r → RulesAt w' r → Below w0.heap.size w0 w' → Q .normal a' w') : (Code.region id ops true).wp Try.prog Q a w := by
  have hs := shape_size h1
  have hdr : Aside w w.drew := fun _ _ h => h
  refine wp_region_any (by kernel_rfl) (wpAny_inv (RInv w0 w.drew a) ?_ (fun listed a' w' i o h3 h4 h5 h6 h7 => rules_step h1 h2 (WL := w.drew) (fun x x1 x5 => by
      obtain ⟨b, g, cs, q1, q2⟩ := hloc x x1 x5
      exact ⟨b, g, cs, q1, q2.on hdr⟩) listed a' w' i o h3 h4 h5 h6 h7) ?_ _ _ _ _ (by simp) (openN_start _) ?_)
  · intro i o ho e he hbi
    obtain ⟨k, hk, _⟩ := shape_at h1 ho
    have hil : i < 125 := by rw [← rt_size]; exact (List.getElem?_eq_some_iff.1 hk).1
    exact (deps_at h2 hil ho hk).1 e he
  · intro listed a' w' h3 h4 hI
    have hall : ∀ i, i < 125 → listed.getD i false = true := fun i hi => h4 i (by omega)
    obtain ⟨r, es, n, m1, m2, m3, m4, m5⟩ := hI.map (hall 0 (by omega))
    have h124 : RT[124]? = some (RK.asg 0 116) := rfl
    obtain ⟨q1, _⟩ := hI.mvd 124 _ 0 h124 (hall 124 (by omega)) rfl
    refine hQ a' w' r hI.defers hI.size (by rw [q1]; exact m1) m2 ⟨es, n, m3, fun x hx => ?_, fun k k1 k2 => ?_⟩ hI.below
    · obtain ⟨i, k, t, R, _, p2, p3, p4⟩ := m4 x hx
      have := rt_good p2
      simp only [RK.good, beq_iff_eq] at this
      exact ⟨k, R, p3, this, p4⟩
    · obtain ⟨i, t, R, hi⟩ := key_all k k1 k2
      exact m5 i k t R (hall i (by rw [← rt_size]; exact (List.getElem?_eq_some_iff.1 hi).1)) hi
  · have hf : ∀ i, (Array.replicate ops.size false).getD i false = false := fun i => by
      by_cases h : i < ops.size
      · simp [Array.getD, h]
      · simp [Array.getD, h]
    exact ⟨hsz, rfl, hb.drew, Aside.refl _, fun _ _ _ => rfl, fun i _ _ h => by rw [hf] at h; simp at h, fun h => by rw [hf] at h; simp at h, fun i _ _ _ h => by rw [hf] at h; simp at h, fun i _ _ _ _ h => by rw [hf] at h; simp at h⟩
end Go.Proofs.Ytijaelncmjcbmaa
