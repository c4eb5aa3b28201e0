import Derived.Test.YtijaelncmjcbmaaTreeC
import Derived.Test.YtijaelncmjcbmaaTreeD
namespace Go.Proofs.Ytijaelncmjcbmaa
open Go.RowKit Go.MapKept
inductive Sp where
  | ks (l : List Int)
  | fit (f : Fit)
  | part (p : Part)
  | parts (ps : List Part)
  | node (R : Rule)
  deriving DecidableEq
def SpV (W : World) (v : Value) : Sp → Prop
  | .ks l => ∃ q n c, v = .slice q n c ∧ BV W q n c l ∧ n ≤ 1000
  | .fit f => ∃ g cs, v = .func g #[] cs ∧ FitV W g cs f
  | .part p => ∃ g cs, v = .agg #[.func g #[] cs, .int .i64 (p.least : Int), .int .i64 (p.most : Int)] ∧ FitV W g cs p.fit
  | .parts ps => ∃ q l c, v = .slice q l c ∧ PV W q l c ps
  | .node R => ∃ tb mb kb, v = closV tb mb kb ∧ NV W tb mb kb R
theorem SpV.on {W V : World} {v : Value} {s : Sp} (h : SpV W v s) (hb : Aside W V) : SpV V v s := by
  cases s with
  | ks l => obtain ⟨q, n, c, e, h1, h2⟩ := h; exact ⟨q, n, c, e, h1.on hb, h2⟩
  | fit f => obtain ⟨g, cs, e, h1⟩ := h; exact ⟨g, cs, e, h1.on hb⟩
  | part p => obtain ⟨g, cs, e, h1⟩ := h; exact ⟨g, cs, e, h1.on hb⟩
  | parts ps => obtain ⟨q, l, c, e, h1⟩ := h; exact ⟨q, l, c, e, h1.on hb⟩
  | node R => obtain ⟨tb, mb, kb, e, h1⟩ := h; exact ⟨tb, mb, kb, e, h1.on hb⟩
/-- The steps of the map's making. -/
inductive RK where
  | mk
  | bs (d : Nat) (l : List Int)
  | isc (d t : Nat) (l : List Int)
  | part (d : Nat) (s : Option Nat) (p : Part)
  | ld (d x : Nat) (p : Part)
  | ps (d : Nat) (ts : List (Nat × Part))
  | nd (d : Nat) (s : Option Nat) (R : Rule)
  | ins (k : Int) (t : Nat) (R : Rule)
  | mv (d : Nat)
  | asg (d t : Nat)
def partFn (p : Part) : Nat := if p.least = 1 then 39 else if p.most = 1 then 46 else 43
def RK.op : RK → Op
  | .mk => .makeMap 56 none
  | .bs _ [x] => .buildSlice 45 1 #[(0, .const (.int .u8 x))]
  | .bs _ [x, y] => .buildSlice 45 2 #[(0, .const (.int .u8 x)), (1, .const (.int .u8 y))]
  | .bs _ _ => .ready 0
  | .isc _ t _ => .call { callee := .value (.func 40), args := #[.tmp t], argTypes := #[45] }
  | .part _ (some t) p => .call { callee := .value (.func (partFn p)), args := #[.tmp t], argTypes := #[64] }
  | .part _ none p => .call { callee := .value (.func (partFn p)), args := #[.func (if p.fit = .stmt then 45 else 36)], argTypes := #[64] }
  | .ld _ x _ => .load 67 (.tmp x)
  | .ps _ [(t, _)] => .buildSlice 72 1 #[(0, .tmp t)]
  | .ps _ [(t, _), (u, _)] => .buildSlice 72 2 #[(0, .tmp t), (1, .tmp u)]
  | .ps _ [(t, _), (u, _), (v, _)] => .buildSlice 72 3 #[(0, .tmp t), (1, .tmp u), (2, .tmp v)]
  | .ps _ [(t, _), (u, _), (v, _), (x, _)] => .buildSlice 72 4 #[(0, .tmp t), (1, .tmp u), (2, .tmp v), (3, .tmp x)]
  | .ps _ _ => .ready 0
  | .nd _ (some t) R => .call { callee := .value (.func 41), args := #[.func (if R.named then 44 else 42), .const (.int .i64 R.most), .tmp t], argTypes := #[61, 2, 72] }
  | .nd _ none R => .call { callee := .value (.func 41), args := #[.func (if R.named then 44 else 42), .const (.int .i64 R.most), .const (.slice none 0 0)], argTypes := #[61, 2, 72] }
  | .ins k t _ => .insert 56 (.tmp 19) (.const (.int .u8 k)) (.tmp t)
  | .mv _ => .move (.tmp 19)
  | .asg _ t => .assign (.tmp t)
def RK.dst : RK → Option Nat
  | .mk => some 19
  | .bs d _ => some d
  | .isc d _ _ => some d
  | .part d _ _ => some d
  | .ld d _ _ => some d
  | .ps d _ => some d
  | .nd d _ _ => some d
  | .ins _ _ _ => none
  | .mv d => some d
  | .asg d _ => some d
def RK.out : RK → Option (Nat × Sp)
  | .bs d l => some (d, .ks l)
  | .isc d _ l => some (d, .fit (.of l))
  | .part d _ p => some (d, .part p)
  | .ld d _ p => some (d, .part p)
  | .ps d ts => some (d, .parts (ts.map (·.2)))
  | .nd d _ R => some (d, .node R)
  | _ => none
def RK.reqs : RK → List (Nat × Sp)
  | .isc _ t l => [(t, .ks l)]
  | .part _ (some t) p => [(t, .fit p.fit)]
  | .ps _ ts => ts.map fun x => (x.1, .part x.2)
  | .nd _ (some t) R => [(t, .parts R.parts)]
  | .ins _ t R => [(t, .node R)]
  | _ => []
def RK.first : RK → Option Nat
  | .ins _ _ _ => some 0
  | .mv _ => some 0
  | .asg _ _ => some 123
  | _ => none
def RK.mvd : RK → Option Nat
  | .mv d => some d
  | .asg d _ => some d
  | _ => none
def RK.key : RK → Option Int
  | .ins k _ _ => some k
  | _ => none
def locP (x : Nat) : Part := if x = 1 then pW else if x = 2 then pR else if x = 3 then pB else if x = 4 then pE else pN
/-- Of one step alone: is it of a form that is known? -/
def RK.good : RK → Bool
  | .bs _ l => l.length == 1 || l.length == 2
  | .part _ s p => (p == .one p.fit || p == .maybe p.fit || p == .many p.fit) && (s.isSome || p.fit == .stmt || p.fit == .expr)
  | .ld _ x p => decide (1 ≤ x) && decide (x ≤ 5) && p == locP x
  | .ps _ ts => ts.length == 1 || ts.length == 2 || ts.length == 3 || ts.length == 4
  | .nd _ s R => s.isSome || R.parts == []
  | .ins k _ R => ruleOf k == some R
  | .asg _ t => t == 116
  | .mv d => d == 116
  | _ => true
def RT : List RK :=
  [.mk,
   .bs 20 [2, 3],
   .isc 21 20 [2, 3],
   .part 22 (some 21) (Part.many (.of [2, 3])),
   .ps 23 [(22, Part.many (.of [2, 3]))],
   .nd 24 (some 23) ⟨false, 0, [.many (.of [2, 3])]⟩,
   .ins 1 24 ⟨false, 0, [.many (.of [2, 3])]⟩,
   .ld 25 1 pW,
   .bs 26 [5],
   .isc 27 26 [5],
   .part 28 (some 27) (Part.many (.of [5])),
   .ps 29 [(25, pW), (28, Part.many (.of [5]))],
   .nd 30 (some 29) ⟨true, 0, [pW, .many (.of [5])]⟩,
   .ins 2 30 ⟨true, 0, [pW, .many (.of [5])]⟩,
   .bs 31 [4],
   .isc 32 31 [4],
   .part 33 (some 32) (Part.one (.of [4])),
   .ld 34 3 pB,
   .ps 35 [(33, Part.one (.of [4])), (34, pB)],
   .nd 36 (some 35) ⟨true, 1, [.one (.of [4]), pB]⟩,
   .ins 3 36 ⟨true, 1, [.one (.of [4]), pB]⟩,
   .bs 37 [5],
   .isc 38 37 [5],
   .part 39 (some 38) (Part.many (.of [5])),
   .ps 40 [(39, Part.many (.of [5]))],
   .nd 41 (some 40) ⟨false, 0, [.many (.of [5])]⟩,
   .ins 4 41 ⟨false, 0, [.many (.of [5])]⟩,
   .nd 42 none ⟨true, 0, []⟩,
   .ins 5 42 ⟨true, 0, []⟩,
   .part 43 none (Part.many .stmt),
   .ps 44 [(43, Part.many .stmt)],
   .nd 45 (some 44) ⟨false, 0, [.many .stmt]⟩,
   .ins 6 45 ⟨false, 0, [.many .stmt]⟩,
   .ld 46 2 pR,
   .ld 47 1 pW,
   .ps 48 [(46, pR), (47, pW)],
   .nd 49 (some 48) ⟨true, 1, [pR, pW]⟩,
   .ins 7 49 ⟨true, 1, [pR, pW]⟩,
   .ld 50 2 pR,
   .ld 51 1 pW,
   .ld 52 4 pE,
   .ps 53 [(50, pR), (51, pW), (52, pE)],
   .nd 54 (some 53) ⟨false, 0, [pR, pW, pE]⟩,
   .ins 8 54 ⟨false, 0, [pR, pW, pE]⟩,
   .ld 55 2 pR,
   .ld 56 4 pE,
   .part 57 none (Part.many .expr),
   .ps 58 [(55, pR), (56, pE), (57, Part.many .expr)],
   .nd 59 (some 58) ⟨false, 0, [pR, pE, .many .expr]⟩,
   .ins 9 59 ⟨false, 0, [pR, pE, .many .expr]⟩,
   .ld 60 2 pR,
   .ps 61 [(60, pR)],
   .nd 62 (some 61) ⟨false, 0, [pR]⟩,
   .ins 10 62 ⟨false, 0, [pR]⟩,
   .ld 63 1 pW,
   .ld 64 1 pW,
   .ps 65 [(63, pW), (64, pW)],
   .nd 66 (some 65) ⟨true, 0, [pW, pW]⟩,
   .ins 11 66 ⟨true, 0, [pW, pW]⟩,
   .ld 67 1 pW,
   .ps 68 [(67, pW)],
   .nd 69 (some 68) ⟨false, 1, [pW]⟩,
   .ins 12 69 ⟨false, 1, [pW]⟩,
   .bs 70 [5, 20],
   .isc 71 70 [5, 20],
   .part 72 (some 71) (Part.one (.of [5, 20])),
   .ps 73 [(72, Part.one (.of [5, 20]))],
   .nd 74 (some 73) ⟨false, 0, [.one (.of [5, 20])]⟩,
   .ins 13 74 ⟨false, 0, [.one (.of [5, 20])]⟩,
   .ld 75 4 pE,
   .ld 76 4 pE,
   .ld 77 3 pB,
   .bs 78 [6],
   .isc 79 78 [6],
   .part 80 (some 79) (Part.maybe (.of [6])),
   .ps 81 [(75, pE), (76, pE), (77, pB), (80, Part.maybe (.of [6]))],
   .nd 82 (some 81) ⟨false, 1, [pE, pE, pB, .maybe (.of [6])]⟩,
   .ins 14 82 ⟨false, 1, [pE, pE, pB, .maybe (.of [6])]⟩,
   .ld 83 5 pN,
   .ld 84 5 pN,
   .ld 85 3 pB,
   .ps 86 [(83, pN), (84, pN), (85, pB)],
   .nd 87 (some 86) ⟨true, 0, [pN, pN, pB]⟩,
   .ins 15 87 ⟨true, 0, [pN, pN, pB]⟩,
   .ld 88 4 pE,
   .ps 89 [(88, pE)],
   .nd 90 (some 89) ⟨true, 0, [pE]⟩,
   .ins 16 90 ⟨true, 0, [pE]⟩,
   .ld 91 4 pE,
   .ps 92 [(91, pE)],
   .nd 93 (some 92) ⟨false, 0, [pE]⟩,
   .ins 17 93 ⟨false, 0, [pE]⟩,
   .nd 94 none ⟨false, 0, []⟩,
   .ins 18 94 ⟨false, 0, []⟩,
   .nd 95 none ⟨false, 0, []⟩,
   .ins 19 95 ⟨false, 0, []⟩,
   .ld 96 4 pE,
   .ps 97 [(96, pE)],
   .nd 98 (some 97) ⟨true, 0, [pE]⟩,
   .ins 20 98 ⟨true, 0, [pE]⟩,
   .nd 99 none ⟨false, 2147483647, []⟩,
   .ins 21 99 ⟨false, 2147483647, []⟩,
   .nd 100 none ⟨true, 0, []⟩,
   .ins 22 100 ⟨true, 0, []⟩,
   .ld 101 4 pE,
   .ld 102 4 pE,
   .ps 103 [(101, pE), (102, pE)],
   .nd 104 (some 103) ⟨false, 0, [pE, pE]⟩,
   .ins 23 104 ⟨false, 0, [pE, pE]⟩,
   .ld 105 4 pE,
   .ld 106 4 pE,
   .ps 107 [(105, pE), (106, pE)],
   .nd 108 (some 107) ⟨false, 0, [pE, pE]⟩,
   .ins 24 108 ⟨false, 0, [pE, pE]⟩,
   .ld 109 4 pE,
   .ld 110 4 pE,
   .ps 111 [(109, pE), (110, pE)],
   .nd 112 (some 111) ⟨false, 0, [pE, pE]⟩,
   .ins 25 112 ⟨false, 0, [pE, pE]⟩,
   .ld 113 4 pE,
   .ps 114 [(113, pE)],
   .nd 115 (some 114) ⟨false, 0, [pE]⟩,
   .ins 26 115 ⟨false, 0, [pE]⟩,
   .mv 116,
   .asg 0 116]
theorem rt_size : RT.length = 125 := by decide +kernel
def chkDst : Bool := (List.range 125).all fun i => (List.range 125).all fun j => i == j || (match RT[i]?.bind RK.dst, RT[j]?.bind RK.dst with | some d, some e => d != e | _, _ => true)
def chkKey : Bool := (List.range 125).all fun i => (List.range 125).all fun j => i == j || (match RT[i]?.bind RK.key, RT[j]?.bind RK.key with | some d, some e => d != e | _, _ => true)
def chkLow : Bool := RT.all fun k => match k.dst with | some d => (d == 0 || decide (19 ≤ d)) && decide (d < 117) | none => true
def chkGood : Bool := RT.all RK.good
def chkAll : Bool := (List.range 27).all fun k => k == 0 || RT.any fun x => x.key == some (k : Int)
theorem chk_dst : chkDst = true := by decide +kernel
theorem chk_key : chkKey = true := by decide +kernel
theorem chk_low : chkLow = true := by decide +kernel
theorem chk_good : chkGood = true := by decide +kernel
theorem chk_all : chkAll = true := by decide +kernel
theorem dst_one {i j : Nat} {k l : RK} {d : Nat} (hi : RT[i]? = some k) (hj : RT[j]? = some l) (h1 : k.dst = some d) (h2 : l.dst = some d) : i = j := by
  have hil : i < 125 := by rw [← rt_size]; exact (List.getElem?_eq_some_iff.1 hi).1
  have hjl : j < 125 := by rw [← rt_size]; exact (List.getElem?_eq_some_iff.1 hj).1
  have h := chk_dst
  unfold chkDst at h
  rw [List.all_eq_true] at h
  have h3 := h i (List.mem_range.2 hil)
  rw [List.all_eq_true] at h3
  have h4 := h3 j (List.mem_range.2 hjl)
  rw [hi, hj] at h4
  simpa [h1, h2] using h4
theorem key_one {i j : Nat} {k l : RK} {d : Int} (hi : RT[i]? = some k) (hj : RT[j]? = some l) (h1 : k.key = some d) (h2 : l.key = some d) : i = j := by
  have hil : i < 125 := by rw [← rt_size]; exact (List.getElem?_eq_some_iff.1 hi).1
  have hjl : j < 125 := by rw [← rt_size]; exact (List.getElem?_eq_some_iff.1 hj).1
  have h := chk_key
  unfold chkKey at h
  rw [List.all_eq_true] at h
  have h3 := h i (List.mem_range.2 hil)
  rw [List.all_eq_true] at h3
  have h4 := h3 j (List.mem_range.2 hjl)
  rw [hi, hj] at h4
  simpa [h1, h2] using h4
theorem dst_low {i : Nat} {k : RK} {d : Nat} (hi : RT[i]? = some k) (h1 : k.dst = some d) : (d = 0 ∨ 19 ≤ d) ∧ d < 117 := by
  have h := chk_low
  unfold chkLow at h
  rw [List.all_eq_true] at h
  have := h k (List.mem_of_getElem? hi)
  rw [h1] at this
  simpa using this
theorem rt_good {i : Nat} {k : RK} (hi : RT[i]? = some k) : k.good = true := by
  have h := chk_good
  unfold chkGood at h
  rw [List.all_eq_true] at h
  exact h k (List.mem_of_getElem? hi)
theorem key_all (k : Int) (h1 : 1 ≤ k) (h2 : k ≤ 26) : ∃ (i : Nat) (t : Nat) (R : Rule), RT[i]? = some (RK.ins k t R) := by
  have h := chk_all
  unfold chkAll at h
  rw [List.all_eq_true] at h
  have h3 := h k.toNat (List.mem_range.2 (by omega))
  simp only [Bool.or_eq_true, beq_iff_eq] at h3
  rcases h3 with h3 | h3
  · omega
  · rw [List.any_eq_true] at h3
    obtain ⟨x, hx, hk⟩ := h3
    obtain ⟨i, hi⟩ := List.mem_iff_getElem?.1 hx
    cases x with
    | ins q t R =>
      simp only [RK.key, beq_iff_eq, Option.some.injEq] at hk
      have : q = k := by omega
      subst this
      exact ⟨i, t, R, hi⟩
    | _ => simp [RK.key] at hk
theorem rule_range {k : Int} {R : Rule} (h : ruleOf k = some R) : 1 ≤ k ∧ k ≤ 26 := by
  unfold ruleOf at h
  rw [Option.map_eq_some_iff] at h
  obtain ⟨x, hx, _⟩ := h
  have h1 := List.find?_some hx
  have h2 := List.mem_of_find?_eq_some hx
  have h3 : (ruleT.all fun x => decide (1 ≤ x.1) && decide (x.1 ≤ 26)) = true := by decide
  rw [List.all_eq_true] at h3
  have := h3 x h2
  simp at this h1
  omega
end Go.Proofs.Ytijaelncmjcbmaa
