/- For every two reckonings and every variables: the law CodeSums answers true: two right reckonings (of at most 100 terms each, with at most 100 variables), one behind the other, and a mark, tell the sum, the difference or the product of what each tells; with Neg behind it one tells what it told less than 0; and without a mark the two are no reckoning. Conditions: none. -/
import Derived.Test.YtgmkmpldlndboaaCodeY
import Derived.Test.YtgmkmpldlndboaaCodeO
import Derived.Carry
namespace Go.Proofs.Ytgmkmpldlndboaa.codeSumsP
open Go.ChangeShapes Go.WideShapes Go.ChangeAt Go.RowKit Cd
theorem ts_of {H : Type} {enc : TypeId × Value → H} {W : World} {v : Value} {d : DataW H} {p : List MemPlace} {base : Nat} (h : DataW.Trod enc Try.prog W 0 (fun _ => true) true 33 v d p) (hv : Value.okWide Try.prog W .any base 33 v) : ∃ q l c xs, v = .slice q l c ∧ TsIn W q l c xs := by
  obtain ⟨a, l, c, rfl⟩ := okWide_slice Try.underlying33 hv
  obtain ⟨fuel, hf⟩ := h
  obtain ⟨q, l', c', xs, e, hI⟩ := open_ts hf
  simp only [Value.cells] at e
  obtain ⟨rfl, rfl, rfl⟩ : a = q ∧ l = l' ∧ c = c' := by simpa using e
  exact ⟨_, _, _, xs, rfl, hI⟩
theorem vs_of {H : Type} {enc : TypeId × Value → H} {W : World} {v : Value} {d : DataW H} {p : List MemPlace} {base : Nat} (h : DataW.Trod enc Try.prog W 0 (fun _ => true) true 34 v d p) (hv : Value.okWide Try.prog W .any base 34 v) : ∃ q l c xs, v = .slice q l c ∧ VsIn W q l c xs := by
  obtain ⟨a, l, c, rfl⟩ := okWide_slice Try.underlying34 hv
  obtain ⟨fuel, hf⟩ := h
  obtain ⟨q, l', c', xs, e, hI⟩ := open_vs hf
  simp only [Value.cells] at e
  obtain ⟨rfl, rfl, rfl⟩ : a = q ∧ l = l' ∧ c = c' := by simpa using e
  exact ⟨_, _, _, xs, rfl, hI⟩
set_option maxRecDepth 100000 in
theorem contract (H : Type) (enc : TypeId × Value → H) (W : World) (base : Nat) (args : Array Value) (ds gs : List (DataW H)) (before : List MemPlace)
    (hval : ∀ (j : Nat) t v, Try.f4.params[j]? = some t → args[j]? = some v → Value.okWide Try.prog W .any base t v)
    (hW : DataW.Whole enc Try.prog Try.f4.params.toList Rows.codeSumsSpec.vars false W args.toList ds gs before) :
    Calls Try.prog 4 args W fun e W' => ∃ v, e = .returned v ∧ Rows.codeSumsSpec.post enc Try.prog Try.f4 false true false false W args v W' := by
  have hW' := hW
  obtain ⟨p, q, hA0, hV, rfl, hfz, hnd⟩ := hW
  have hA : DataW.TrodAll enc Try.prog W 0 (fun _ => true) true Try.f4.params.toList args.toList ds p := hA0
  rw [Try.params4] at hA hval
  obtain ⟨v0, vs0, d0, ds0, p0, q0, hargs, rfl, rfl, h0, r0⟩ := trodAll_cons hA
  obtain ⟨v1, vs1, d1, ds1, p1, q1, rfl, rfl, rfl, h1, r1⟩ := trodAll_cons r0
  obtain ⟨v2, vs2, d2, ds2, p2, q2, rfl, rfl, rfl, h2, r2⟩ := trodAll_cons r1
  obtain ⟨rfl, rfl, rfl⟩ := trodAll_nil r2
  obtain rfl : args = #[v0, v1, v2] := by cases args; simp_all
  obtain ⟨rfl, rfl⟩ := trodVars_none hV
  obtain ⟨a0, l0, c0, t0, rfl, hT0⟩ := ts_of h0 (hval 0 33 v0 rfl rfl)
  obtain ⟨a1, l1, c1, t1, rfl, hT1⟩ := ts_of h1 (hval 1 33 v1 rfl rfl)
  obtain ⟨a2, l2, c2, xs, rfl, hX⟩ := vs_of h2 (hval 2 34 v2 rfl rfl)
  clear hA0
  refine (codeSums W a0 a1 a2 l0 c0 l1 c1 l2 c2 t0 t1 xs hT0 hT1 hX).mono fun e W' ⟨he, bel⟩ => ?_
  subst he
  exact ⟨_, rfl, _, _, _, [], _, [], hW', trodAll_mk1 (shut_bool Try.underlying4 _),
    trodAll_cons_mk (Below.trod (by kernel_rfl) (by kernel_rfl) (of_decide_eq_true (by kernel_rfl)) h0 bel (fun x hx => hW'.lt x (by simp [hx]))) (trodAll_cons_mk (Below.trod (by kernel_rfl) (by kernel_rfl) (of_decide_eq_true (by kernel_rfl)) h1 bel (fun x hx => hW'.lt x (by simp [hx]))) (trodAll_cons_mk (Below.trod (by kernel_rfl) (by kernel_rfl) (of_decide_eq_true (by kernel_rfl)) h2 bel (fun x hx => hW'.lt x (by simp [hx]))) trodAll_mk0)), rfl, bel.frame _, fun h => by cases h⟩
set_option maxRecDepth 100000 in
theorem lifted (os : Os) (started : os.Started) (H : Type) (enc : TypeId × Value → H) :
    ReturnsInHanded {} Try.checked os 4 .any (Rows.codeSumsSpec.pre6 enc Try.prog Try.f4 Rows.codeSumsRow.domain false) (Rows.codeSumsSpec.post enc Try.prog Try.f4 false true false false) := by
  refine returnsInHanded_of_change (C := Try.checked) own started (by kernel_rfl) Try.func4
    (ChangeSpec.witness6 (enc := enc) (C := Try.checked) false ⟨#[], #[.slice none 0 0, .slice none 0 0, .slice none 0 0], []⟩ 8 (by kernel_rfl) (by kernel_rfl) (by kernel_rfl) (by kernel_rfl)) ?_
  intro W base args ds gs before hval hW _ _
  exact contract H enc W base args ds gs before hval hW
theorem said : Rows.CodeSumsSaid :=
  OpenClaim.holds_of_wide 4 Try.f4 rfl rfl rfl rfl rfl rfl rfl ⟨rfl, rfl, rfl, rfl, rfl⟩ rfl rfl rfl rfl rfl (by kernel_rfl) Try.func4 (by kernel_rfl)
    (of_decide_eq_true (by kernel_rfl)) (by unfold Func.isWrapper; first | (rw [if_pos (by decide +kernel)]; kernel_rfl) | (rw [if_neg (by decide +kernel)]; exact ⟨rfl, rfl⟩))
    (fun os started H enc _ => lifted os started H enc)
#print axioms said
end Go.Proofs.Ytgmkmpldlndboaa.codeSumsP
