/- Contracts on the way to the laws of layer 5: ParseZi, ParseFn, TreeO, TreeV, DiagT, TreeU, TreeEq. -/
import Derived.Test.YtkakhldlmfdcdaaGreatDoorKaa
import Derived.Test.YtkakhldlmfdcdaaGreatDoorKah
import Derived.Test.YtkakhldlmfdcdaaGreatDoorKaj
import Derived.MapKept
import Derived.BigQuiet
import Derived.Deep.QuietTactic
import Derived.Test.YtkakhldlmfdcdaaGreatDoorProg
import Derived.RangeFuncBox
import Derived.RangeFuncNested
import Derived.RangeFuncLeaves
import Derived.Shelf.Abstract
import Derived.WalkKit
import Derived.OwnWalkIn
import Derived.TacticsInMore
import Derived.LoopNIn
import Derived.LoopIn
import Derived.Lib.Hide
import Derived.Handy
import Derived.Below
import Derived.Carry
import Derived.Test.YtkakhldlmfdcdaaGreatDoorTie
import Derived.ProofKit
import Derived.OpenShut
import Derived.ShutString
import Derived.ChangeOld
import Derived.LaidMore
import Derived.LaidHandle
import Derived.MakeChecks
import Derived.Deep.RegionHeld3
import Derived.Lib.Bytes
import Derived.Deep.AppendLies
section
namespace Go.Proofs.YtkakhldlmfdcdaaGreatDoor
open Go.RowKit Go.MapKept
instance : LawfulBEq ByteArray where
  eq_of_beq := fun {a b} h => (bytes_beq a b).1 h
  rfl := fun {a} => (bytes_beq a a).2 rfl
def fnOf : Nat → Nat
  | 0 => 44
  | 1 => 45
  | 2 => 46
  | 3 => 47
  | 4 => 48
  | 5 => 49
  | 6 => 50
  | 7 => 51
  | 8 => 52
  | 9 => 53
  | 10 => 54
  | 11 => 55
  | 12 => 56
  | _ => 0
def entS (s : ByteArray) (j : Nat) : MapEntry := { key := .string s, val := .func (.func (fnOf j)) #[] #[], born := j }
def ES13 : Array MapEntry := #[entS ⟨#[114, 101, 97, 100]⟩ 0, entS ⟨#[115, 101, 116]⟩ 1, entS ⟨#[112, 117, 116]⟩ 2, entS ⟨#[100, 101, 108, 101, 116, 101]⟩ 3, entS ⟨#[115, 99, 97, 110]⟩ 4, entS ⟨#[108, 111, 99, 107]⟩ 5, entS ⟨#[114, 101, 108, 101, 97, 115, 101]⟩ 6, entS ⟨#[105, 102]⟩ 7, entS ⟨#[102, 111, 114]⟩ 8, entS ⟨#[108, 101, 116]⟩ 9, entS ⟨#[101, 109, 105, 116]⟩ 10, entS ⟨#[114, 111, 108, 108, 98, 97, 99, 107]⟩ 11, entS ⟨#[99, 104, 111, 112]⟩ 12]
theorem es13_keys : ∀ x ∈ ES13.toList, IsKey .string x.key := by
  intro x hx
  simp only [ES13, List.mem_cons, List.not_mem_nil, or_false] at hx
  rcases hx with rfl | rfl | rfl | rfl | rfl | rfl | rfl | rfl | rfl | rfl | rfl | rfl | rfl <;> trivial
theorem es13_find (s : ByteArray) : (Instr.findNow .string (.string s) ES13.toList 0 = some none ∧ ¬ words13.idxOf s < 13) ∨
    (words13.idxOf s < 13 ∧ ∃ i, Instr.findNow .string (.string s) ES13.toList 0 = some (some (i, .func (.func (fnOf (words13.idxOf s))) #[] #[]))) := by
  rcases findNow_spec (d := .string) (k := .string s) (by simp [IsKey]) ES13.toList 0 es13_keys with ⟨h1, h2⟩ | ⟨j, e, h1, h2, h3⟩
  · refine Or.inl ⟨h1, fun hlt => ?_⟩
    have hmem : s ∈ words13 := List.idxOf_lt_length_iff.1 hlt
    simp only [words13, List.mem_cons, List.not_mem_nil, or_false] at hmem
    rcases hmem with rfl | rfl | rfl | rfl | rfl | rfl | rfl | rfl | rfl | rfl | rfl | rfl | rfl
    · exact h2 (entS ⟨#[114, 101, 97, 100]⟩ 0) (by simp [ES13]) rfl
    · exact h2 (entS ⟨#[115, 101, 116]⟩ 1) (by simp [ES13]) rfl
    · exact h2 (entS ⟨#[112, 117, 116]⟩ 2) (by simp [ES13]) rfl
    · exact h2 (entS ⟨#[100, 101, 108, 101, 116, 101]⟩ 3) (by simp [ES13]) rfl
    · exact h2 (entS ⟨#[115, 99, 97, 110]⟩ 4) (by simp [ES13]) rfl
    · exact h2 (entS ⟨#[108, 111, 99, 107]⟩ 5) (by simp [ES13]) rfl
    · exact h2 (entS ⟨#[114, 101, 108, 101, 97, 115, 101]⟩ 6) (by simp [ES13]) rfl
    · exact h2 (entS ⟨#[105, 102]⟩ 7) (by simp [ES13]) rfl
    · exact h2 (entS ⟨#[102, 111, 114]⟩ 8) (by simp [ES13]) rfl
    · exact h2 (entS ⟨#[108, 101, 116]⟩ 9) (by simp [ES13]) rfl
    · exact h2 (entS ⟨#[101, 109, 105, 116]⟩ 10) (by simp [ES13]) rfl
    · exact h2 (entS ⟨#[114, 111, 108, 108, 98, 97, 99, 107]⟩ 11) (by simp [ES13]) rfl
    · exact h2 (entS ⟨#[99, 104, 111, 112]⟩ 12) (by simp [ES13]) rfl
  · have hj : j < 13 := by
      have := (List.getElem?_eq_some_iff.1 h2).1
      simpa [ES13] using this
    have key : ∀ j, j < 13 → ∀ e, ES13.toList[j]? = some e → e.key = .string s → words13.idxOf s = j ∧ e.val = .func (.func (fnOf j)) #[] #[] := by
      intro j hj e h2 h3
      obtain rfl | rfl | rfl | rfl | rfl | rfl | rfl | rfl | rfl | rfl | rfl | rfl | rfl : j = 0 ∨ j = 1 ∨ j = 2 ∨ j = 3 ∨ j = 4 ∨ j = 5 ∨ j = 6 ∨ j = 7 ∨ j = 8 ∨ j = 9 ∨ j = 10 ∨ j = 11 ∨ j = 12 := by omega
      all_goals
        simp only [ES13, List.getElem?_cons_succ, List.getElem?_cons_zero, Option.some.injEq] at h2
        subst h2
        obtain rfl := Value.string.inj h3
        exact ⟨by decide, rfl⟩
    obtain ⟨h4, h5⟩ := key j hj e h2 h3
    refine Or.inr ⟨by omega, 0 + j, ?_⟩
    rw [h1, h5, h4]
theorem look_no (W : World) (rb n : Nat) (s : ByteArray) (hb : W.heap[rb]? = some (.map ES13 n)) (hs : ¬ words13.idxOf s < 13) : (Instr.lookup 58 (.map (some rb)) (.string s) true).run Tryz.prog W = .ok (.tuple #[.nilFunc, .bool false]) W := by
  have hf : Instr.findNow .string (.string s) ES13.toList 0 = some none := by
    rcases es13_find s with ⟨h, _⟩ | ⟨h, _⟩
    · exact h
    · exact absurd h hs
  have hk : ∀ b, (Instr.checkKey b 10000 9 (.string s)).run Tryz.prog W = .ok () W := fun b => run_checkKey Tryz.underlying9 (by simp [IsKey]) b 9999
  have hz : (zeroValue 95).run Tryz.prog W = .ok .nilFunc W := by kernel_rfl
  simp only [Instr.lookup, Sem.run_bind, run_underlying Tryz.underlying58, Result.andThen, Go.MapKept.run_getObj_map hb, hk, run_findKey (P := Tryz.prog) Tryz.underlying9 hf, Sem.run_pure, hz]
  simp
theorem look_yes (W : World) (rb n : Nat) (s : ByteArray) (hb : W.heap[rb]? = some (.map ES13 n)) (hs : words13.idxOf s < 13) : (Instr.lookup 58 (.map (some rb)) (.string s) true).run Tryz.prog W = .ok (.tuple #[.func (.func (fnOf (words13.idxOf s))) #[] #[], .bool true]) W := by
  obtain ⟨i, hf⟩ : ∃ i, Instr.findNow .string (.string s) ES13.toList 0 = some (some (i, .func (.func (fnOf (words13.idxOf s))) #[] #[])) := by
    rcases es13_find s with ⟨_, h⟩ | ⟨_, h⟩
    · exact absurd hs h
    · exact h
  have hk : ∀ b, (Instr.checkKey b 10000 9 (.string s)).run Tryz.prog W = .ok () W := fun b => run_checkKey Tryz.underlying9 (by simp [IsKey]) b 9999
  simp only [Instr.lookup, Sem.run_bind, run_underlying Tryz.underlying58, Result.andThen, Go.MapKept.run_getObj_map hb, hk, run_findKey (P := Tryz.prog) Tryz.underlying9 hf, Sem.run_pure]
  simp
theorem insert_str (w : World) (es : Array MapEntry) (n : Nat) (s : ByteArray) (v : Value) (h : Instr.findNow .string (.string s) es.toList 0 = some none) :
    (Instr.mapUpdate 58 (.map (some w.heap.size)) (.string s) v).run Tryz.prog (w.alloc (.map es n)) = .ok () (w.alloc (.map (es.push { key := .string s, val := v, born := n }) (n + 1))) := by
  have hb : (w.alloc (.map es n)).heap[w.heap.size]? = some (.map es n) := by
    show (w.heap.push (.map es n))[w.heap.size]? = _
    simp
  have hk : (Instr.checkKey false 10000 9 (.string s)).run Tryz.prog (w.alloc (.map es n)) = .ok () (w.alloc (.map es n)) := run_checkKey Tryz.underlying9 (by simp [IsKey]) false 9999
  have hp : ∀ (a : Array Obj) (x y : Obj), (a.push x).setIfInBounds a.size y = a.push y := fun a x y => by
    apply Array.ext_getElem?
    intro i
    by_cases h : i = a.size
    · subst h; simp
    · have h' : ¬ a.size = i := fun e => h e.symm
      simp [Array.getElem?_push, h, h']
  have hw : ∀ o : Obj, ({ w.alloc (.map es n) with heap := (w.alloc (.map es n)).heap.setIfInBounds w.heap.size o } : World) = w.alloc o := fun o => by
    show ({ w with heap := (w.heap.push (.map es n)).setIfInBounds w.heap.size o } : World) = _
    rw [hp]
    rfl
  simp only [Instr.mapUpdate, Sem.run_bind, run_underlying Tryz.underlying58, Result.andThen, Go.MapKept.run_getObj_map hb, hk, run_findKey (P := Tryz.prog) Tryz.underlying9 h, run_setObj_map _ hb, hw]
set_option maxHeartbeats 4000000 in
set_option maxRecDepth 1000000 in
theorem statements_at (w : World) : Calls Tryz.prog 22 #[] w fun e w' => e = .returned (.map (some w.heap.size)) ∧ w' = w.alloc (.map ES13 13) := by
  have hmm := @run_makeMap Tryz.prog
  have i0 : (Instr.mapUpdate 58 (.map (some w.heap.size)) (.string ⟨#[114, 101, 97, 100]⟩) (.func (.func 44) #[] #[])).run Tryz.prog (w.alloc (.map #[] 0)) = .ok () (w.alloc (.map #[{ key := .string ⟨#[114, 101, 97, 100]⟩, val := .func (.func 44) #[] #[], born := 0 }] 1)) := insert_str w #[] 0 _ _ rfl
  have i1 : (Instr.mapUpdate 58 (.map (some w.heap.size)) (.string ⟨#[115, 101, 116]⟩) (.func (.func 45) #[] #[])).run Tryz.prog (w.alloc (.map #[{ key := .string ⟨#[114, 101, 97, 100]⟩, val := .func (.func 44) #[] #[], born := 0 }] 1)) = .ok () (w.alloc (.map #[{ key := .string ⟨#[114, 101, 97, 100]⟩, val := .func (.func 44) #[] #[], born := 0 }, { key := .string ⟨#[115, 101, 116]⟩, val := .func (.func 45) #[] #[], born := 1 }] 2)) := insert_str w #[{ key := .string ⟨#[114, 101, 97, 100]⟩, val := .func (.func 44) #[] #[], born := 0 }] 1 _ _ rfl
  have i2 : (Instr.mapUpdate 58 (.map (some w.heap.size)) (.string ⟨#[112, 117, 116]⟩) (.func (.func 46) #[] #[])).run Tryz.prog (w.alloc (.map #[{ key := .string ⟨#[114, 101, 97, 100]⟩, val := .func (.func 44) #[] #[], born := 0 }, { key := .string ⟨#[115, 101, 116]⟩, val := .func (.func 45) #[] #[], born := 1 }] 2)) = .ok () (w.alloc (.map #[{ key := .string ⟨#[114, 101, 97, 100]⟩, val := .func (.func 44) #[] #[], born := 0 }, { key := .string ⟨#[115, 101, 116]⟩, val := .func (.func 45) #[] #[], born := 1 }, { key := .string ⟨#[112, 117, 116]⟩, val := .func (.func 46) #[] #[], born := 2 }] 3)) := insert_str w #[{ key := .string ⟨#[114, 101, 97, 100]⟩, val := .func (.func 44) #[] #[], born := 0 }, { key := .string ⟨#[115, 101, 116]⟩, val := .func (.func 45) #[] #[], born := 1 }] 2 _ _ rfl
  have i3 : (Instr.mapUpdate 58 (.map (some w.heap.size)) (.string ⟨#[100, 101, 108, 101, 116, 101]⟩) (.func (.func 47) #[] #[])).run Tryz.prog (w.alloc (.map #[{ key := .string ⟨#[114, 101, 97, 100]⟩, val := .func (.func 44) #[] #[], born := 0 }, { key := .string ⟨#[115, 101, 116]⟩, val := .func (.func 45) #[] #[], born := 1 }, { key := .string ⟨#[112, 117, 116]⟩, val := .func (.func 46) #[] #[], born := 2 }] 3)) = .ok () (w.alloc (.map #[{ key := .string ⟨#[114, 101, 97, 100]⟩, val := .func (.func 44) #[] #[], born := 0 }, { key := .string ⟨#[115, 101, 116]⟩, val := .func (.func 45) #[] #[], born := 1 }, { key := .string ⟨#[112, 117, 116]⟩, val := .func (.func 46) #[] #[], born := 2 }, { key := .string ⟨#[100, 101, 108, 101, 116, 101]⟩, val := .func (.func 47) #[] #[], born := 3 }] 4)) := insert_str w #[{ key := .string ⟨#[114, 101, 97, 100]⟩, val := .func (.func 44) #[] #[], born := 0 }, { key := .string ⟨#[115, 101, 116]⟩, val := .func (.func 45) #[] #[], born := 1 }, { key := .string ⟨#[112, 117, 116]⟩, val := .func (.func 46) #[] #[], born := 2 }] 3 _ _ rfl
  have i4 : (Instr.mapUpdate 58 (.map (some w.heap.size)) (.string ⟨#[115, 99, 97, 110]⟩) (.func (.func 48) #[] #[])).run Tryz.prog (w.alloc (.map #[{ key := .string ⟨#[114, 101, 97, 100]⟩, val := .func (.func 44) #[] #[], born := 0 }, { key := .string ⟨#[115, 101, 116]⟩, val := .func (.func 45) #[] #[], born := 1 }, { key := .string ⟨#[112, 117, 116]⟩, val := .func (.func 46) #[] #[], born := 2 }, { key := .string ⟨#[100, 101, 108, 101, 116, 101]⟩, val := .func (.func 47) #[] #[], born := 3 }] 4)) = .ok () (w.alloc (.map #[{ key := .string ⟨#[114, 101, 97, 100]⟩, val := .func (.func 44) #[] #[], born := 0 }, { key := .string ⟨#[115, 101, 116]⟩, val := .func (.func 45) #[] #[], born := 1 }, { key := .string ⟨#[112, 117, 116]⟩, val := .func (.func 46) #[] #[], born := 2 }, { key := .string ⟨#[100, 101, 108, 101, 116, 101]⟩, val := .func (.func 47) #[] #[], born := 3 }, { key := .string ⟨#[115, 99, 97, 110]⟩, val := .func (.func 48) #[] #[], born := 4 }] 5)) := insert_str w #[{ key := .string ⟨#[114, 101, 97, 100]⟩, val := .func (.func 44) #[] #[], born := 0 }, { key := .string ⟨#[115, 101, 116]⟩, val := .func (.func 45) #[] #[], born := 1 }, { key := .string ⟨#[112, 117, 116]⟩, val := .func (.func 46) #[] #[], born := 2 }, { key := .string ⟨#[100, 101, 108, 101, 116, 101]⟩, val := .func (.func 47) #[] #[], born := 3 }] 4 _ _ rfl
  have i5 : (Instr.mapUpdate 58 (.map (some w.heap.size)) (.string ⟨#[108, 111, 99, 107]⟩) (.func (.func 49) #[] #[])).run Tryz.prog (w.alloc (.map #[{ key := .string ⟨#[114, 101, 97, 100]⟩, val := .func (.func 44) #[] #[], born := 0 }, { key := .string ⟨#[115, 101, 116]⟩, val := .func (.func 45) #[] #[], born := 1 }, { key := .string ⟨#[112, 117, 116]⟩, val := .func (.func 46) #[] #[], born := 2 }, { key := .string ⟨#[100, 101, 108, 101, 116, 101]⟩, val := .func (.func 47) #[] #[], born := 3 }, { key := .string ⟨#[115, 99, 97, 110]⟩, val := .func (.func 48) #[] #[], born := 4 }] 5)) = .ok () (w.alloc (.map #[{ key := .string ⟨#[114, 101, 97, 100]⟩, val := .func (.func 44) #[] #[], born := 0 }, { key := .string ⟨#[115, 101, 116]⟩, val := .func (.func 45) #[] #[], born := 1 }, { key := .string ⟨#[112, 117, 116]⟩, val := .func (.func 46) #[] #[], born := 2 }, { key := .string ⟨#[100, 101, 108, 101, 116, 101]⟩, val := .func (.func 47) #[] #[], born := 3 }, { key := .string ⟨#[115, 99, 97, 110]⟩, val := .func (.func 48) #[] #[], born := 4 }, { key := .string ⟨#[108, 111, 99, 107]⟩, val := .func (.func 49) #[] #[], born := 5 }] 6)) := insert_str w #[{ key := .string ⟨#[114, 101, 97, 100]⟩, val := .func (.func 44) #[] #[], born := 0 }, { key := .string ⟨#[115, 101, 116]⟩, val := .func (.func 45) #[] #[], born := 1 }, { key := .string ⟨#[112, 117, 116]⟩, val := .func (.func 46) #[] #[], born := 2 }, { key := .string ⟨#[100, 101, 108, 101, 116, 101]⟩, val := .func (.func 47) #[] #[], born := 3 }, { key := .string ⟨#[115, 99, 97, 110]⟩, val := .func (.func 48) #[] #[], born := 4 }] 5 _ _ rfl
  have i6 : (Instr.mapUpdate 58 (.map (some w.heap.size)) (.string ⟨#[114, 101, 108, 101, 97, 115, 101]⟩) (.func (.func 50) #[] #[])).run Tryz.prog (w.alloc (.map #[{ key := .string ⟨#[114, 101, 97, 100]⟩, val := .func (.func 44) #[] #[], born := 0 }, { key := .string ⟨#[115, 101, 116]⟩, val := .func (.func 45) #[] #[], born := 1 }, { key := .string ⟨#[112, 117, 116]⟩, val := .func (.func 46) #[] #[], born := 2 }, { key := .string ⟨#[100, 101, 108, 101, 116, 101]⟩, val := .func (.func 47) #[] #[], born := 3 }, { key := .string ⟨#[115, 99, 97, 110]⟩, val := .func (.func 48) #[] #[], born := 4 }, { key := .string ⟨#[108, 111, 99, 107]⟩, val := .func (.func 49) #[] #[], born := 5 }] 6)) = .ok () (w.alloc (.map #[{ key := .string ⟨#[114, 101, 97, 100]⟩, val := .func (.func 44) #[] #[], born := 0 }, { key := .string ⟨#[115, 101, 116]⟩, val := .func (.func 45) #[] #[], born := 1 }, { key := .string ⟨#[112, 117, 116]⟩, val := .func (.func 46) #[] #[], born := 2 }, { key := .string ⟨#[100, 101, 108, 101, 116, 101]⟩, val := .func (.func 47) #[] #[], born := 3 }, { key := .string ⟨#[115, 99, 97, 110]⟩, val := .func (.func 48) #[] #[], born := 4 }, { key := .string ⟨#[108, 111, 99, 107]⟩, val := .func (.func 49) #[] #[], born := 5 }, { key := .string ⟨#[114, 101, 108, 101, 97, 115, 101]⟩, val := .func (.func 50) #[] #[], born := 6 }] 7)) := insert_str w #[{ key := .string ⟨#[114, 101, 97, 100]⟩, val := .func (.func 44) #[] #[], born := 0 }, { key := .string ⟨#[115, 101, 116]⟩, val := .func (.func 45) #[] #[], born := 1 }, { key := .string ⟨#[112, 117, 116]⟩, val := .func (.func 46) #[] #[], born := 2 }, { key := .string ⟨#[100, 101, 108, 101, 116, 101]⟩, val := .func (.func 47) #[] #[], born := 3 }, { key := .string ⟨#[115, 99, 97, 110]⟩, val := .func (.func 48) #[] #[], born := 4 }, { key := .string ⟨#[108, 111, 99, 107]⟩, val := .func (.func 49) #[] #[], born := 5 }] 6 _ _ rfl
  have i7 : (Instr.mapUpdate 58 (.map (some w.heap.size)) (.string ⟨#[105, 102]⟩) (.func (.func 51) #[] #[])).run Tryz.prog (w.alloc (.map #[{ key := .string ⟨#[114, 101, 97, 100]⟩, val := .func (.func 44) #[] #[], born := 0 }, { key := .string ⟨#[115, 101, 116]⟩, val := .func (.func 45) #[] #[], born := 1 }, { key := .string ⟨#[112, 117, 116]⟩, val := .func (.func 46) #[] #[], born := 2 }, { key := .string ⟨#[100, 101, 108, 101, 116, 101]⟩, val := .func (.func 47) #[] #[], born := 3 }, { key := .string ⟨#[115, 99, 97, 110]⟩, val := .func (.func 48) #[] #[], born := 4 }, { key := .string ⟨#[108, 111, 99, 107]⟩, val := .func (.func 49) #[] #[], born := 5 }, { key := .string ⟨#[114, 101, 108, 101, 97, 115, 101]⟩, val := .func (.func 50) #[] #[], born := 6 }] 7)) = .ok () (w.alloc (.map #[{ key := .string ⟨#[114, 101, 97, 100]⟩, val := .func (.func 44) #[] #[], born := 0 }, { key := .string ⟨#[115, 101, 116]⟩, val := .func (.func 45) #[] #[], born := 1 }, { key := .string ⟨#[112, 117, 116]⟩, val := .func (.func 46) #[] #[], born := 2 }, { key := .string ⟨#[100, 101, 108, 101, 116, 101]⟩, val := .func (.func 47) #[] #[], born := 3 }, { key := .string ⟨#[115, 99, 97, 110]⟩, val := .func (.func 48) #[] #[], born := 4 }, { key := .string ⟨#[108, 111, 99, 107]⟩, val := .func (.func 49) #[] #[], born := 5 }, { key := .string ⟨#[114, 101, 108, 101, 97, 115, 101]⟩, val := .func (.func 50) #[] #[], born := 6 }, { key := .string ⟨#[105, 102]⟩, val := .func (.func 51) #[] #[], born := 7 }] 8)) := insert_str w #[{ key := .string ⟨#[114, 101, 97, 100]⟩, val := .func (.func 44) #[] #[], born := 0 }, { key := .string ⟨#[115, 101, 116]⟩, val := .func (.func 45) #[] #[], born := 1 }, { key := .string ⟨#[112, 117, 116]⟩, val := .func (.func 46) #[] #[], born := 2 }, { key := .string ⟨#[100, 101, 108, 101, 116, 101]⟩, val := .func (.func 47) #[] #[], born := 3 }, { key := .string ⟨#[115, 99, 97, 110]⟩, val := .func (.func 48) #[] #[], born := 4 }, { key := .string ⟨#[108, 111, 99, 107]⟩, val := .func (.func 49) #[] #[], born := 5 }, { key := .string ⟨#[114, 101, 108, 101, 97, 115, 101]⟩, val := .func (.func 50) #[] #[], born := 6 }] 7 _ _ rfl
  have i8 : (Instr.mapUpdate 58 (.map (some w.heap.size)) (.string ⟨#[102, 111, 114]⟩) (.func (.func 52) #[] #[])).run Tryz.prog (w.alloc (.map #[{ key := .string ⟨#[114, 101, 97, 100]⟩, val := .func (.func 44) #[] #[], born := 0 }, { key := .string ⟨#[115, 101, 116]⟩, val := .func (.func 45) #[] #[], born := 1 }, { key := .string ⟨#[112, 117, 116]⟩, val := .func (.func 46) #[] #[], born := 2 }, { key := .string ⟨#[100, 101, 108, 101, 116, 101]⟩, val := .func (.func 47) #[] #[], born := 3 }, { key := .string ⟨#[115, 99, 97, 110]⟩, val := .func (.func 48) #[] #[], born := 4 }, { key := .string ⟨#[108, 111, 99, 107]⟩, val := .func (.func 49) #[] #[], born := 5 }, { key := .string ⟨#[114, 101, 108, 101, 97, 115, 101]⟩, val := .func (.func 50) #[] #[], born := 6 }, { key := .string ⟨#[105, 102]⟩, val := .func (.func 51) #[] #[], born := 7 }] 8)) = .ok () (w.alloc (.map #[{ key := .string ⟨#[114, 101, 97, 100]⟩, val := .func (.func 44) #[] #[], born := 0 }, { key := .string ⟨#[115, 101, 116]⟩, val := .func (.func 45) #[] #[], born := 1 }, { key := .string ⟨#[112, 117, 116]⟩, val := .func (.func 46) #[] #[], born := 2 }, { key := .string ⟨#[100, 101, 108, 101, 116, 101]⟩, val := .func (.func 47) #[] #[], born := 3 }, { key := .string ⟨#[115, 99, 97, 110]⟩, val := .func (.func 48) #[] #[], born := 4 }, { key := .string ⟨#[108, 111, 99, 107]⟩, val := .func (.func 49) #[] #[], born := 5 }, { key := .string ⟨#[114, 101, 108, 101, 97, 115, 101]⟩, val := .func (.func 50) #[] #[], born := 6 }, { key := .string ⟨#[105, 102]⟩, val := .func (.func 51) #[] #[], born := 7 }, { key := .string ⟨#[102, 111, 114]⟩, val := .func (.func 52) #[] #[], born := 8 }] 9)) := insert_str w #[{ key := .string ⟨#[114, 101, 97, 100]⟩, val := .func (.func 44) #[] #[], born := 0 }, { key := .string ⟨#[115, 101, 116]⟩, val := .func (.func 45) #[] #[], born := 1 }, { key := .string ⟨#[112, 117, 116]⟩, val := .func (.func 46) #[] #[], born := 2 }, { key := .string ⟨#[100, 101, 108, 101, 116, 101]⟩, val := .func (.func 47) #[] #[], born := 3 }, { key := .string ⟨#[115, 99, 97, 110]⟩, val := .func (.func 48) #[] #[], born := 4 }, { key := .string ⟨#[108, 111, 99, 107]⟩, val := .func (.func 49) #[] #[], born := 5 }, { key := .string ⟨#[114, 101, 108, 101, 97, 115, 101]⟩, val := .func (.func 50) #[] #[], born := 6 }, { key := .string ⟨#[105, 102]⟩, val := .func (.func 51) #[] #[], born := 7 }] 8 _ _ rfl
  have i9 : (Instr.mapUpdate 58 (.map (some w.heap.size)) (.string ⟨#[108, 101, 116]⟩) (.func (.func 53) #[] #[])).run Tryz.prog (w.alloc (.map #[{ key := .string ⟨#[114, 101, 97, 100]⟩, val := .func (.func 44) #[] #[], born := 0 }, { key := .string ⟨#[115, 101, 116]⟩, val := .func (.func 45) #[] #[], born := 1 }, { key := .string ⟨#[112, 117, 116]⟩, val := .func (.func 46) #[] #[], born := 2 }, { key := .string ⟨#[100, 101, 108, 101, 116, 101]⟩, val := .func (.func 47) #[] #[], born := 3 }, { key := .string ⟨#[115, 99, 97, 110]⟩, val := .func (.func 48) #[] #[], born := 4 }, { key := .string ⟨#[108, 111, 99, 107]⟩, val := .func (.func 49) #[] #[], born := 5 }, { key := .string ⟨#[114, 101, 108, 101, 97, 115, 101]⟩, val := .func (.func 50) #[] #[], born := 6 }, { key := .string ⟨#[105, 102]⟩, val := .func (.func 51) #[] #[], born := 7 }, { key := .string ⟨#[102, 111, 114]⟩, val := .func (.func 52) #[] #[], born := 8 }] 9)) = .ok () (w.alloc (.map #[{ key := .string ⟨#[114, 101, 97, 100]⟩, val := .func (.func 44) #[] #[], born := 0 }, { key := .string ⟨#[115, 101, 116]⟩, val := .func (.func 45) #[] #[], born := 1 }, { key := .string ⟨#[112, 117, 116]⟩, val := .func (.func 46) #[] #[], born := 2 }, { key := .string ⟨#[100, 101, 108, 101, 116, 101]⟩, val := .func (.func 47) #[] #[], born := 3 }, { key := .string ⟨#[115, 99, 97, 110]⟩, val := .func (.func 48) #[] #[], born := 4 }, { key := .string ⟨#[108, 111, 99, 107]⟩, val := .func (.func 49) #[] #[], born := 5 }, { key := .string ⟨#[114, 101, 108, 101, 97, 115, 101]⟩, val := .func (.func 50) #[] #[], born := 6 }, { key := .string ⟨#[105, 102]⟩, val := .func (.func 51) #[] #[], born := 7 }, { key := .string ⟨#[102, 111, 114]⟩, val := .func (.func 52) #[] #[], born := 8 }, { key := .string ⟨#[108, 101, 116]⟩, val := .func (.func 53) #[] #[], born := 9 }] 10)) := insert_str w #[{ key := .string ⟨#[114, 101, 97, 100]⟩, val := .func (.func 44) #[] #[], born := 0 }, { key := .string ⟨#[115, 101, 116]⟩, val := .func (.func 45) #[] #[], born := 1 }, { key := .string ⟨#[112, 117, 116]⟩, val := .func (.func 46) #[] #[], born := 2 }, { key := .string ⟨#[100, 101, 108, 101, 116, 101]⟩, val := .func (.func 47) #[] #[], born := 3 }, { key := .string ⟨#[115, 99, 97, 110]⟩, val := .func (.func 48) #[] #[], born := 4 }, { key := .string ⟨#[108, 111, 99, 107]⟩, val := .func (.func 49) #[] #[], born := 5 }, { key := .string ⟨#[114, 101, 108, 101, 97, 115, 101]⟩, val := .func (.func 50) #[] #[], born := 6 }, { key := .string ⟨#[105, 102]⟩, val := .func (.func 51) #[] #[], born := 7 }, { key := .string ⟨#[102, 111, 114]⟩, val := .func (.func 52) #[] #[], born := 8 }] 9 _ _ rfl
  have i10 : (Instr.mapUpdate 58 (.map (some w.heap.size)) (.string ⟨#[101, 109, 105, 116]⟩) (.func (.func 54) #[] #[])).run Tryz.prog (w.alloc (.map #[{ key := .string ⟨#[114, 101, 97, 100]⟩, val := .func (.func 44) #[] #[], born := 0 }, { key := .string ⟨#[115, 101, 116]⟩, val := .func (.func 45) #[] #[], born := 1 }, { key := .string ⟨#[112, 117, 116]⟩, val := .func (.func 46) #[] #[], born := 2 }, { key := .string ⟨#[100, 101, 108, 101, 116, 101]⟩, val := .func (.func 47) #[] #[], born := 3 }, { key := .string ⟨#[115, 99, 97, 110]⟩, val := .func (.func 48) #[] #[], born := 4 }, { key := .string ⟨#[108, 111, 99, 107]⟩, val := .func (.func 49) #[] #[], born := 5 }, { key := .string ⟨#[114, 101, 108, 101, 97, 115, 101]⟩, val := .func (.func 50) #[] #[], born := 6 }, { key := .string ⟨#[105, 102]⟩, val := .func (.func 51) #[] #[], born := 7 }, { key := .string ⟨#[102, 111, 114]⟩, val := .func (.func 52) #[] #[], born := 8 }, { key := .string ⟨#[108, 101, 116]⟩, val := .func (.func 53) #[] #[], born := 9 }] 10)) = .ok () (w.alloc (.map #[{ key := .string ⟨#[114, 101, 97, 100]⟩, val := .func (.func 44) #[] #[], born := 0 }, { key := .string ⟨#[115, 101, 116]⟩, val := .func (.func 45) #[] #[], born := 1 }, { key := .string ⟨#[112, 117, 116]⟩, val := .func (.func 46) #[] #[], born := 2 }, { key := .string ⟨#[100, 101, 108, 101, 116, 101]⟩, val := .func (.func 47) #[] #[], born := 3 }, { key := .string ⟨#[115, 99, 97, 110]⟩, val := .func (.func 48) #[] #[], born := 4 }, { key := .string ⟨#[108, 111, 99, 107]⟩, val := .func (.func 49) #[] #[], born := 5 }, { key := .string ⟨#[114, 101, 108, 101, 97, 115, 101]⟩, val := .func (.func 50) #[] #[], born := 6 }, { key := .string ⟨#[105, 102]⟩, val := .func (.func 51) #[] #[], born := 7 }, { key := .string ⟨#[102, 111, 114]⟩, val := .func (.func 52) #[] #[], born := 8 }, { key := .string ⟨#[108, 101, 116]⟩, val := .func (.func 53) #[] #[], born := 9 }, { key := .string ⟨#[101, 109, 105, 116]⟩, val := .func (.func 54) #[] #[], born := 10 }] 11)) := insert_str w #[{ key := .string ⟨#[114, 101, 97, 100]⟩, val := .func (.func 44) #[] #[], born := 0 }, { key := .string ⟨#[115, 101, 116]⟩, val := .func (.func 45) #[] #[], born := 1 }, { key := .string ⟨#[112, 117, 116]⟩, val := .func (.func 46) #[] #[], born := 2 }, { key := .string ⟨#[100, 101, 108, 101, 116, 101]⟩, val := .func (.func 47) #[] #[], born := 3 }, { key := .string ⟨#[115, 99, 97, 110]⟩, val := .func (.func 48) #[] #[], born := 4 }, { key := .string ⟨#[108, 111, 99, 107]⟩, val := .func (.func 49) #[] #[], born := 5 }, { key := .string ⟨#[114, 101, 108, 101, 97, 115, 101]⟩, val := .func (.func 50) #[] #[], born := 6 }, { key := .string ⟨#[105, 102]⟩, val := .func (.func 51) #[] #[], born := 7 }, { key := .string ⟨#[102, 111, 114]⟩, val := .func (.func 52) #[] #[], born := 8 }, { key := .string ⟨#[108, 101, 116]⟩, val := .func (.func 53) #[] #[], born := 9 }] 10 _ _ rfl
  have i11 : (Instr.mapUpdate 58 (.map (some w.heap.size)) (.string ⟨#[114, 111, 108, 108, 98, 97, 99, 107]⟩) (.func (.func 55) #[] #[])).run Tryz.prog (w.alloc (.map #[{ key := .string ⟨#[114, 101, 97, 100]⟩, val := .func (.func 44) #[] #[], born := 0 }, { key := .string ⟨#[115, 101, 116]⟩, val := .func (.func 45) #[] #[], born := 1 }, { key := .string ⟨#[112, 117, 116]⟩, val := .func (.func 46) #[] #[], born := 2 }, { key := .string ⟨#[100, 101, 108, 101, 116, 101]⟩, val := .func (.func 47) #[] #[], born := 3 }, { key := .string ⟨#[115, 99, 97, 110]⟩, val := .func (.func 48) #[] #[], born := 4 }, { key := .string ⟨#[108, 111, 99, 107]⟩, val := .func (.func 49) #[] #[], born := 5 }, { key := .string ⟨#[114, 101, 108, 101, 97, 115, 101]⟩, val := .func (.func 50) #[] #[], born := 6 }, { key := .string ⟨#[105, 102]⟩, val := .func (.func 51) #[] #[], born := 7 }, { key := .string ⟨#[102, 111, 114]⟩, val := .func (.func 52) #[] #[], born := 8 }, { key := .string ⟨#[108, 101, 116]⟩, val := .func (.func 53) #[] #[], born := 9 }, { key := .string ⟨#[101, 109, 105, 116]⟩, val := .func (.func 54) #[] #[], born := 10 }] 11)) = .ok () (w.alloc (.map #[{ key := .string ⟨#[114, 101, 97, 100]⟩, val := .func (.func 44) #[] #[], born := 0 }, { key := .string ⟨#[115, 101, 116]⟩, val := .func (.func 45) #[] #[], born := 1 }, { key := .string ⟨#[112, 117, 116]⟩, val := .func (.func 46) #[] #[], born := 2 }, { key := .string ⟨#[100, 101, 108, 101, 116, 101]⟩, val := .func (.func 47) #[] #[], born := 3 }, { key := .string ⟨#[115, 99, 97, 110]⟩, val := .func (.func 48) #[] #[], born := 4 }, { key := .string ⟨#[108, 111, 99, 107]⟩, val := .func (.func 49) #[] #[], born := 5 }, { key := .string ⟨#[114, 101, 108, 101, 97, 115, 101]⟩, val := .func (.func 50) #[] #[], born := 6 }, { key := .string ⟨#[105, 102]⟩, val := .func (.func 51) #[] #[], born := 7 }, { key := .string ⟨#[102, 111, 114]⟩, val := .func (.func 52) #[] #[], born := 8 }, { key := .string ⟨#[108, 101, 116]⟩, val := .func (.func 53) #[] #[], born := 9 }, { key := .string ⟨#[101, 109, 105, 116]⟩, val := .func (.func 54) #[] #[], born := 10 }, { key := .string ⟨#[114, 111, 108, 108, 98, 97, 99, 107]⟩, val := .func (.func 55) #[] #[], born := 11 }] 12)) := insert_str w #[{ key := .string ⟨#[114, 101, 97, 100]⟩, val := .func (.func 44) #[] #[], born := 0 }, { key := .string ⟨#[115, 101, 116]⟩, val := .func (.func 45) #[] #[], born := 1 }, { key := .string ⟨#[112, 117, 116]⟩, val := .func (.func 46) #[] #[], born := 2 }, { key := .string ⟨#[100, 101, 108, 101, 116, 101]⟩, val := .func (.func 47) #[] #[], born := 3 }, { key := .string ⟨#[115, 99, 97, 110]⟩, val := .func (.func 48) #[] #[], born := 4 }, { key := .string ⟨#[108, 111, 99, 107]⟩, val := .func (.func 49) #[] #[], born := 5 }, { key := .string ⟨#[114, 101, 108, 101, 97, 115, 101]⟩, val := .func (.func 50) #[] #[], born := 6 }, { key := .string ⟨#[105, 102]⟩, val := .func (.func 51) #[] #[], born := 7 }, { key := .string ⟨#[102, 111, 114]⟩, val := .func (.func 52) #[] #[], born := 8 }, { key := .string ⟨#[108, 101, 116]⟩, val := .func (.func 53) #[] #[], born := 9 }, { key := .string ⟨#[101, 109, 105, 116]⟩, val := .func (.func 54) #[] #[], born := 10 }] 11 _ _ rfl
  have i12 : (Instr.mapUpdate 58 (.map (some w.heap.size)) (.string ⟨#[99, 104, 111, 112]⟩) (.func (.func 56) #[] #[])).run Tryz.prog (w.alloc (.map #[{ key := .string ⟨#[114, 101, 97, 100]⟩, val := .func (.func 44) #[] #[], born := 0 }, { key := .string ⟨#[115, 101, 116]⟩, val := .func (.func 45) #[] #[], born := 1 }, { key := .string ⟨#[112, 117, 116]⟩, val := .func (.func 46) #[] #[], born := 2 }, { key := .string ⟨#[100, 101, 108, 101, 116, 101]⟩, val := .func (.func 47) #[] #[], born := 3 }, { key := .string ⟨#[115, 99, 97, 110]⟩, val := .func (.func 48) #[] #[], born := 4 }, { key := .string ⟨#[108, 111, 99, 107]⟩, val := .func (.func 49) #[] #[], born := 5 }, { key := .string ⟨#[114, 101, 108, 101, 97, 115, 101]⟩, val := .func (.func 50) #[] #[], born := 6 }, { key := .string ⟨#[105, 102]⟩, val := .func (.func 51) #[] #[], born := 7 }, { key := .string ⟨#[102, 111, 114]⟩, val := .func (.func 52) #[] #[], born := 8 }, { key := .string ⟨#[108, 101, 116]⟩, val := .func (.func 53) #[] #[], born := 9 }, { key := .string ⟨#[101, 109, 105, 116]⟩, val := .func (.func 54) #[] #[], born := 10 }, { key := .string ⟨#[114, 111, 108, 108, 98, 97, 99, 107]⟩, val := .func (.func 55) #[] #[], born := 11 }] 12)) = .ok () (w.alloc (.map #[{ key := .string ⟨#[114, 101, 97, 100]⟩, val := .func (.func 44) #[] #[], born := 0 }, { key := .string ⟨#[115, 101, 116]⟩, val := .func (.func 45) #[] #[], born := 1 }, { key := .string ⟨#[112, 117, 116]⟩, val := .func (.func 46) #[] #[], born := 2 }, { key := .string ⟨#[100, 101, 108, 101, 116, 101]⟩, val := .func (.func 47) #[] #[], born := 3 }, { key := .string ⟨#[115, 99, 97, 110]⟩, val := .func (.func 48) #[] #[], born := 4 }, { key := .string ⟨#[108, 111, 99, 107]⟩, val := .func (.func 49) #[] #[], born := 5 }, { key := .string ⟨#[114, 101, 108, 101, 97, 115, 101]⟩, val := .func (.func 50) #[] #[], born := 6 }, { key := .string ⟨#[105, 102]⟩, val := .func (.func 51) #[] #[], born := 7 }, { key := .string ⟨#[102, 111, 114]⟩, val := .func (.func 52) #[] #[], born := 8 }, { key := .string ⟨#[108, 101, 116]⟩, val := .func (.func 53) #[] #[], born := 9 }, { key := .string ⟨#[101, 109, 105, 116]⟩, val := .func (.func 54) #[] #[], born := 10 }, { key := .string ⟨#[114, 111, 108, 108, 98, 97, 99, 107]⟩, val := .func (.func 55) #[] #[], born := 11 }, { key := .string ⟨#[99, 104, 111, 112]⟩, val := .func (.func 56) #[] #[], born := 12 }] 13)) := insert_str w #[{ key := .string ⟨#[114, 101, 97, 100]⟩, val := .func (.func 44) #[] #[], born := 0 }, { key := .string ⟨#[115, 101, 116]⟩, val := .func (.func 45) #[] #[], born := 1 }, { key := .string ⟨#[112, 117, 116]⟩, val := .func (.func 46) #[] #[], born := 2 }, { key := .string ⟨#[100, 101, 108, 101, 116, 101]⟩, val := .func (.func 47) #[] #[], born := 3 }, { key := .string ⟨#[115, 99, 97, 110]⟩, val := .func (.func 48) #[] #[], born := 4 }, { key := .string ⟨#[108, 111, 99, 107]⟩, val := .func (.func 49) #[] #[], born := 5 }, { key := .string ⟨#[114, 101, 108, 101, 97, 115, 101]⟩, val := .func (.func 50) #[] #[], born := 6 }, { key := .string ⟨#[105, 102]⟩, val := .func (.func 51) #[] #[], born := 7 }, { key := .string ⟨#[102, 111, 114]⟩, val := .func (.func 52) #[] #[], born := 8 }, { key := .string ⟨#[108, 101, 116]⟩, val := .func (.func 53) #[] #[], born := 9 }, { key := .string ⟨#[101, 109, 105, 116]⟩, val := .func (.func 54) #[] #[], born := 10 }, { key := .string ⟨#[114, 111, 108, 108, 98, 97, 99, 107]⟩, val := .func (.func 55) #[] #[], born := 11 }] 12 _ _ rfl
  go_enter Tryz.func22, Tryz.ntmps22
  go_wp2_with fail
  go_ret
  exact ⟨rfl, rfl⟩
end Go.Proofs.YtkakhldlmfdcdaaGreatDoor
end
section
namespace Go.Proofs.YtkakhldlmfdcdaaGreatDoor
open Go.RowKit Go.Shelf
attribute [local go_sem] Oper.semAt_some
def upto {α : Type} (f : Nat → α) (k : Nat) : List α := (List.range k).map f
theorem upto_succ {α : Type} (f : Nat → α) (k : Nat) : upto f (k + 1) = upto f k ++ [f k] := by simp [upto, List.range_succ]
theorem upto_length {α : Type} (f : Nat → α) (k : Nat) : (upto f k).length = k := by simp [upto]
/-- What the loop's body leaves as it is: what lay below n₀, and one block more. -/
structure KeepsAt (n₀ q : Nat) (A B : World) : Prop where
  size : A.heap.size ≤ B.heap.size
  block : ∀ g, g < n₀ ∨ g = q → g < A.heap.size → B.heap[g]? = A.heap[g]?
theorem KeepsAt.refl (n₀ q : Nat) (A : World) : KeepsAt n₀ q A A := ⟨Nat.le_refl _, fun _ _ _ => rfl⟩
theorem KeepsAt.trans {n₀ q : Nat} {A B C : World} (h : KeepsAt n₀ q A B) (h' : KeepsAt n₀ q B C) : KeepsAt n₀ q A C := ⟨Nat.le_trans h.size h'.size, fun g hg hl => (h'.block g hg (Nat.lt_of_lt_of_le hl h.size)).trans (h.block g hg hl)⟩
theorem cell_ltB {W : World} {a : Addr} {v : Value} (h : W.cell? a = some v) : a.block < W.heap.size := by
  rcases Nat.lt_or_ge a.block W.heap.size with h1 | h1
  · exact h1
  · simp [World.cell?, Array.getElem?_eq_none h1] at h
theorem KeepsAt.cell {n₀ q : Nat} {A B : World} (h : KeepsAt n₀ q A B) {p : Addr} {u : Value} (hg : p.block < n₀ ∨ p.block = q) (hc : A.cell? p = some u) : B.cell? p = some u := by
  rw [World.cell?_of_block (w := A) (h.block p.block hg (cell_ltB hc))]; exact hc
/-- What comes in the k-th round, from the last one on. -/
def backF (zs : List Int) (k : Nat) : Int × Int := (((zs.length : Nat) : Int) - 1 - k, zs[zs.length - 1 - k]?.getD 0)
set_option maxRecDepth 100000 in
set_option maxHeartbeats 2000000 in
/-- slices.Backward's closure. -/
theorem back1_in (F : Fence) (n : Nat) (h7 : F.fn 107) (hro : F.round = none) (hn : 1 ≤ n) (l Bs n₀ b off len cap : Nat) (zs : List Int) (hz : zs.length = len) (hreach : len * 8 ≤ 140737488351232) (hb : b < n₀) (J Jx : List (Int × Int) → World → Prop)
    (hY : ∀ pre x W, J pre W → pre.length < len → YieldAt F (n - 1) Tryz.prog l #[.int .i64 x.1, .int .i64 x.2] W fun e W' =>
      (e = .returned (.bool true) ∧ J (pre ++ [x]) W' ∧ KeepsAt n₀ Bs W W') ∨ (e = .returned (.bool false) ∧ Jx (pre ++ [x]) W'))
    (W : World) (hBs : W.cell? ⟨Bs, 0, none⟩ = some (.slice (some ⟨b, off, none⟩) len cap)) (hc : ∀ j, j < len → W.cell? ⟨b, off + j, none⟩ = some (.int .i64 (zs[j]?.getD 0))) (h0 : J [] W) :
    CallsIn F n Tryz.prog 107 #[.func (.yield l) #[] #[], .pointer (some ⟨Bs, 0, none⟩)] W fun e W' => (∃ v, e = .returned v) ∧
      ((∃ ys, ys = upto (backF zs) len ∧ J ys W') ∨ (∃ pre, (∃ k, k ≤ len ∧ pre = upto (backF zs) k) ∧ Jx pre W')) := by
  subst hz
  refine callsIn_of_wp Tryz.func107 rfl h7 ?_ hro
  simp only [Tryz.ntmps107, List.size_toArray, List.length_cons, List.length_nil, Nat.reduceAdd, Nat.reduceSub, Array.replicate_succ, Array.replicate_zero, List.push_toArray, List.append_toArray, List.nil_append, List.cons_append]
  gi_wp2
  gi_loopw [3] (fun i wr => ∃ k : Nat, k ≤ zs.length ∧ i = .int .i64 ((zs.length : Int) - 1 - k) ∧ J (upto (backF zs) k) wr ∧ KeepsAt n₀ Bs W wr)
    (fun i _ => (intOf i + 1).toNat)
  case atStart => exact ⟨0, Nat.zero_le _, by simp, h0, KeepsAt.refl _ _ _⟩
  case round =>
    obtain ⟨k, hk, rfl, hJs, hnx⟩ := hrel
    have hs := hnx.cell (p := ⟨Bs, 0, none⟩) (Or.inr rfl) hBs
    by_cases hlt : k < zs.length
    · have hcx := hnx.cell (p := ⟨b, off + (zs.length - 1 - k), none⟩) (Or.inl hb) (hc (zs.length - 1 - k) (by omega))
      obtain ⟨fn, tmps, assign, body, hy, hR⟩ := hY _ (backF zs k) wr hJs (by rw [upto_length]; exact hlt)
      simp only [backF] at hy
      have hi1 : (0 : Int) ≤ (zs.length : Int) - 1 - k := by omega
      have hi2 : (zs.length : Int) - 1 - k < zs.length := by omega
      have hi3 : ((zs.length : Int) - 1 - k).toNat = zs.length - 1 - k := by omega
      gi_wp2
      refine hR.mono ?_
      rintro e W3 (⟨rfl, hJ3, hk3⟩ | ⟨rfl, hJx3⟩)
      · gi_wp2
        go_roundw
        case rel => exact ⟨k + 1, by omega, by simp; omega, by rw [upto_succ]; exact hJ3, hnx.trans hk3⟩
        case measure => simp [intOf]; omega
      · gi_wp2
        refine bodyPost_ret (results_none rfl _ _ _) rfl ?_
        exact ⟨⟨_, rfl⟩, .inr ⟨_, ⟨k + 1, by omega, (upto_succ _ _).symm⟩, hJx3⟩⟩
    · obtain rfl : k = zs.length := by omega
      have hi1 : ¬ (0 : Int) ≤ (zs.length : Int) - 1 - zs.length := by omega
      gi_wp2
      go_end0
      exact ⟨⟨_, rfl⟩, .inl (by first | exact hJs | exact ⟨_, rfl, hJs⟩)⟩
set_option maxRecDepth 100000 in
set_option maxHeartbeats 1000000 in
/-- .. at the nil slice: no round. -/
theorem back1_nil_in (F : Fence) (n : Nat) (h7 : F.fn 107) (hro : F.round = none) (l Bs : Nat) (J : List (Int × Int) → World → Prop) (W : World) (hBs : W.cell? ⟨Bs, 0, none⟩ = some (.slice none 0 0)) (h0 : J [] W) :
    CallsIn F n Tryz.prog 107 #[.func (.yield l) #[] #[], .pointer (some ⟨Bs, 0, none⟩)] W fun e W' => (∃ v, e = .returned v) ∧ J [] W' := by
  refine callsIn_of_wp Tryz.func107 rfl h7 ?_ hro
  simp only [Tryz.ntmps107, List.size_toArray, List.length_cons, List.length_nil, Nat.reduceAdd, Nat.reduceSub, Array.replicate_succ, Array.replicate_zero, List.push_toArray, List.append_toArray, List.nil_append, List.cons_append]
  gi_wp2
  gi_loopw [3] (fun i wr => i = .int .i64 (-1) ∧ J [] wr) (fun _ _ => 0)
  case atStart => exact ⟨rfl, h0⟩
  case round =>
    obtain ⟨rfl, hJs⟩ := hrel
    gi_wp2
    go_end0
    exact ⟨⟨_, rfl⟩, hJs⟩
set_option maxHeartbeats 1000000 in
/-- slices.Backward: the slice value is boxed; the function value captures the box. -/
theorem back_at (a : Option Addr) (len cap : Nat) (w : World) :
    Calls Tryz.prog 62 #[.slice a len cap] w fun e w' => e = .returned (.func (.func 107) #[] #[.pointer (some ⟨w.heap.size, 0, none⟩)]) ∧ w' = w.alloc (.cells #[.slice a len cap] 50) := by
  go_enter Tryz.func62, Tryz.ntmps62
  go_wp2_with fail
  go_ret
  exact ⟨rfl, rfl⟩
/-- A row of numbers that lies there. -/
def IntsAt (n₀ : Nat) (W : World) (sv : Value) (zs : List Int) : Prop :=
  (sv = .slice none 0 0 ∧ zs = []) ∨ ∃ b off cap, sv = .slice (some ⟨b, off, none⟩) zs.length cap ∧ b < n₀ ∧ ∀ j, j < zs.length → W.cell? ⟨b, off + j, none⟩ = some (.int .i64 (zs[j]?.getD 0))
theorem IntsAt.below {n₀ : Nat} {A B : World} (h : Below n₀ A B) {sv : Value} {zs : List Int} : IntsAt n₀ A sv zs → IntsAt n₀ B sv zs
  | .inl e => .inl e
  | .inr ⟨b, off, cap, e, hb, hc⟩ => .inr ⟨b, off, cap, e, hb, fun j hj => (h.cell (p := ⟨b, off + j, none⟩) hb).trans (hc j hj)⟩
/-- slices.Backward hands back what stops: all, from the last one on; or a part. -/
theorem back_stops (F : Fence) (n : Nat) (h7 : F.fn 107) (hro : F.round = none) (hn : 1 ≤ n) (Bs n₀ : Nat) (sv : Value) (zs : List Int) (hreach : zs.length * 8 ≤ 140737488351232) (w : World) (hBs : Bs < w.heap.size) (hn₀ : n₀ ≤ w.heap.size)
    (hc : w.cell? ⟨Bs, 0, none⟩ = some sv) (hI : IntsAt n₀ w sv zs) :
    SeqStopsK F n Tryz.prog 107 #[.pointer (some ⟨Bs, 0, none⟩)] (fun x : Int × Int => #[Value.int .i64 x.1, Value.int .i64 x.2]) (KeepsAt n₀ Bs) (fun ys => ys = upto (backF zs) zs.length)
      (fun pre => ∃ k, k ≤ zs.length ∧ pre = upto (backF zs) k) zs.length w := fun l J Jx W hW _ _ hY h0 => by
  have hc' := (hW.cell (p := ⟨Bs, 0, none⟩) hBs).trans hc
  rcases hI.below (hW.mono hn₀) with ⟨rfl, rfl⟩ | ⟨b, off, cap, rfl, hb, hcs⟩
  · exact (back1_nil_in F n h7 hro l Bs J W hc' h0).mono fun e W' ⟨he, hj⟩ => ⟨he, .inl ⟨_, rfl, hj⟩⟩
  · exact back1_in F n h7 hro hn l Bs n₀ b off zs.length cap zs rfl hreach hb J Jx hY W hc' hcs h0
theorem KeepsAt.putObj {n₀ Bs : Nat} {w : World} (hn : n₀ ≤ w.heap.size) (hb : Bs < w.heap.size) (W : World) (l : Nat) (o o' : Obj) (hl : w.heap.size ≤ l) (h : W.heap[l]? = some o) (_ : o.isCells = false) (_ : o.isWalk = false) : KeepsAt n₀ Bs W (W.putObj l o') :=
  ⟨by simp, fun g hg _ => World.putObj_heap_other (by rcases hg with hg | rfl <;> omega)⟩
end Go.Proofs.YtkakhldlmfdcdaaGreatDoor
end
section
namespace Go.Proofs.YtkakhldlmfdcdaaGreatDoor.Tr
theorem rowsOf_getD (t : List Nd) (i : Nat) : (rowsOf t).getD i [] = kidsAt t i := by
  unfold rowsOf kidsAt
  by_cases h : i < t.length
  · simp [List.getD, h]
  · simp [List.getD, List.getElem?_eq_none (Nat.le_of_not_lt h)]
    rfl
theorem rowsOf_fun (t : List Nd) : (fun i => (rowsOf t).getD i []) = kidsAt t := funext (rowsOf_getD t)
theorem rowsOf_length (t : List Nd) : (rowsOf t).length = t.length := by simp [rowsOf]
structure SizesOk (t : List Nd) (s : List Nat) : Prop where
  right : RightSz (kidsAt t) (fun i => s.getD i 0) t.length
  len : s.length = t.length
  pos : 0 < t.length
  whole : s.getD 0 0 = t.length
theorem sizesP_some {t : List Nd} {s : List Nat} (h : sizesP t = some s) : SizesOk t s := by
  unfold sizesP at h
  split at h
  · simp at h
  · rename_i s1 h1
    split at h
    · rename_i h2
      simp only [Option.some.injEq] at h
      subst h
      have hl := sizesL_len _ _ _ h1
      rw [rowsOf_length] at hl
      have hr := sizesL_right h1
      rw [rowsOf_fun, rowsOf_length] at hr
      exact ⟨hr, hl, by omega, by omega⟩
    · simp at h
theorem sizes_right (t : List Nd) (hn : 0 < t.length) : endK (kidsAt t) t.length t.length 0 = (t.length : Int) ↔ ∃ s, sizesP t = some s := by
  have h := sizes_iff (rowsOf t) (by rw [rowsOf_length]; exact hn)
  rw [rowsOf_fun, rowsOf_length] at h
  rw [h]
  unfold sizesP
  constructor
  · rintro ⟨s, h1, h2⟩
    have hl := sizesL_len _ _ _ h1
    rw [rowsOf_length] at hl
    refine ⟨s, ?_⟩
    rw [h1]
    simp only
    rw [if_pos ⟨by omega, by omega⟩]
  · rintro ⟨s, h1⟩
    split at h1
    · simp at h1
    · rename_i s1 h2
      split at h1
      · rename_i h3
        have hl := sizesL_len _ _ _ h2
        rw [rowsOf_length] at hl
        simp only [Option.some.injEq] at h1
        subst h1
        exact ⟨s1, h2, by omega⟩
      · simp at h1
theorem right_eq (t : List Nd) (hl : ∀ nd ∈ t, nd.kids.length ≤ 9223372036854775807) : rightP t = rightR t := by
  have hall : ruledP t = t.all (nodeR t) := by
    unfold ruledP
    rw [Bool.eq_iff_iff, List.all_eq_true, List.all_eq_true]
    constructor
    · intro h nd hm; rw [← nodeOk_eq t nd (hl nd hm)]; exact h nd hm
    · intro h nd hm; rw [nodeOk_eq t nd (hl nd hm)]; exact h nd hm
  unfold rightP rightR
  by_cases hn : 0 < t.length
  · cases hs : sizesP t with
    | none =>
      have : ¬ endK (kidsAt t) t.length t.length 0 = (t.length : Int) := by
        intro h
        obtain ⟨s, hs2⟩ := (sizes_right t hn).1 h
        rw [hs] at hs2; simp at hs2
      simp [this]
    | some s =>
      have h1 := sizesP_some hs
      have h2 := (sizes_right t hn).2 ⟨s, hs⟩
      have h3 : aheadR t = true := by
        unfold aheadR
        rw [List.all_eq_true]
        intro i hi
        rw [List.all_eq_true]
        intro k hk
        obtain ⟨j, e1, e2, e3, e4⟩ := h1.right.kid (List.mem_range.1 hi) hk
        simp; omega
      simp [hn, h2, h3, hall]
  · have ht : t = [] := List.eq_nil_of_length_eq_zero (by omega)
    subst ht
    simp [sizesP, rowsOf, sizesL]
theorem right_sizes {t : List Nd} (h : rightP t = true) : ∃ s, sizesP t = some s ∧ kindAt t 0 = 1 ∧ ruledP t = true := by
  unfold rightP at h
  split at h
  · simp at h
  · rename_i s hs
    simp only [Bool.and_eq_true, beq_iff_eq] at h
    exact ⟨s, hs, h.1, h.2⟩
theorem sizeP_at {t : List Nd} {s : List Nat} (hr : rightP t = true) (hs : sizesP t = some s) {i : Nat} (hi : i < t.length) : sizeP t i = (s.getD i 0 : Nat) := by
  unfold sizeP
  rw [if_pos ⟨by omega, by omega, hr⟩, hs]
  simp
/-- Sizes of a chain's kids. -/
theorem chain_sum {S : Nat → Nat} {n : Nat} (ks : List Int) (a e : Nat) (h : Chain S n ks a e) : a + (ks.map fun k => S k.toNat).sum = e := by
  induction ks generalizing a with
  | nil => obtain rfl : a = e := h; simp
  | cons k ks ih =>
    obtain ⟨p1, p2, p3⟩ := h
    have := ih _ p3
    simp only [List.map_cons, List.sum_cons, p1, Int.toNat_natCast]
    omega
theorem RightSz.sum {K : Nat → List Int} {S : Nat → Nat} {n : Nat} (h : RightSz K S n) {i : Nat} (hi : i < n) : 1 + ((K i).map fun k => S k.toNat).sum = S i := by
  have := chain_sum _ _ _ (h.chain i hi)
  omega
end Go.Proofs.YtkakhldlmfdcdaaGreatDoor.Tr
end
section
namespace Go.Proofs.YtkakhldlmfdcdaaGreatDoor.Tr
open Go.RowKit
/-- Numbers that lie in a row. -/
structure IV (W : World) (p : Option Addr) (len c : Nat) (xs : List Int) : Prop where
  len_eq : xs.length = len
  cap : len ≤ c
  cell : 0 < len → ∃ b off, p = some ⟨b, off, none⟩ ∧ b < W.heap.size ∧ ∀ i, i < len → W.cell? ⟨b, off + i, none⟩ = some (.int .i64 (xs.getD i 0))
structure NC (W : World) (b o : Nat) (nd : Nd) (kp : Option Addr) (kl kc : Nat) : Prop where
  kind : W.cell? ⟨b, o, none⟩ = some (.int .u8 nd.kind)
  at' : W.cell? ⟨b, o + 1, none⟩ = some (.int .i64 nd.at')
  text : W.cell? ⟨b, o + 2, none⟩ = some (.string nd.text)
  n : W.cell? ⟨b, o + 3, none⟩ = some (.int .i64 nd.n)
  kids : W.cell? ⟨b, o + 4, none⟩ = some (.slice kp kl kc)
  iv : IV W kp kl kc nd.kids
/-- A tree's nodes. -/
structure TV (W : World) (p : Option Addr) (len c : Nat) (ns : List Nd) : Prop where
  len_eq : ns.length = len
  cap : len ≤ c
  node : 0 < len → ∃ b off, p = some ⟨b, off, none⟩ ∧ b < W.heap.size ∧ ∀ i, i < len → ∃ kp kl kc, NC W b (off + i * 5) (ns.getD i default) kp kl kc
theorem IV.on {W W' : World} {p : Option Addr} {len c : Nat} {xs : List Int} (h : IV W p len c xs) (hb : Below W.heap.size W W') : IV W' p len c xs where
  len_eq := h.len_eq
  cap := h.cap
  cell := fun hl => by
    obtain ⟨b, off, e, hlt, hc⟩ := h.cell hl
    exact ⟨b, off, e, Nat.lt_of_lt_of_le hlt hb.size, fun i hi => by rw [hb.cell (p := ⟨b, off + i, none⟩) hlt]; exact hc i hi⟩
theorem NC.on {W W' : World} {b o : Nat} {nd : Nd} {kp : Option Addr} {kl kc : Nat} (h : NC W b o nd kp kl kc) (hlt : b < W.heap.size) (hb : Below W.heap.size W W') : NC W' b o nd kp kl kc where
  kind := by rw [hb.cell (p := ⟨b, o, none⟩) hlt]; exact h.kind
  at' := by rw [hb.cell (p := ⟨b, o + 1, none⟩) hlt]; exact h.at'
  text := by rw [hb.cell (p := ⟨b, o + 2, none⟩) hlt]; exact h.text
  n := by rw [hb.cell (p := ⟨b, o + 3, none⟩) hlt]; exact h.n
  kids := by rw [hb.cell (p := ⟨b, o + 4, none⟩) hlt]; exact h.kids
  iv := h.iv.on hb
theorem TV.on {W W' : World} {p : Option Addr} {len c : Nat} {ns : List Nd} (h : TV W p len c ns) (hb : Below W.heap.size W W') : TV W' p len c ns where
  len_eq := h.len_eq
  cap := h.cap
  node := fun hl => by
    obtain ⟨b, off, e, hlt, hc⟩ := h.node hl
    refine ⟨b, off, e, Nat.lt_of_lt_of_le hlt hb.size, fun i hi => ?_⟩
    obtain ⟨kp, kl, kc, hn⟩ := hc i hi
    exact ⟨kp, kl, kc, hn.on hlt hb⟩
theorem one_below (w : World) (o : Obj) : Below w.heap.size w (w.alloc o) := (Below.refl _ _).alloc (Nat.le_refl _) _
def fewP (ns : List Nd) (top : Int) : Bool := decide ((ns.length : Int) ≤ top) && ns.all fun nd => decide ((nd.kids.length : Int) ≤ top) && decide (nd.text.size ≤ 100)
theorem all_take {α : Type} [Inhabited α] (p : α → Bool) (l : List α) (k : Nat) (h : k < l.length) : (l.take (k + 1)).all p = ((l.take k).all p && p (l.getD k default)) := by
  rw [List.take_succ_eq_append_getElem h, List.all_append]
  simp [List.getD, h]
theorem all_no {α : Type} [Inhabited α] (p : α → Bool) (l : List α) (k : Nat) (h : k < l.length) (hk : p (l.getD k default) = false) : l.all p = false := by
  rw [List.all_eq_false]
  exact ⟨l.getD k default, by simp [List.getD, h], by rw [hk]; simp⟩
end Go.Proofs.YtkakhldlmfdcdaaGreatDoor.Tr
end
section
namespace Go.Proofs.YtkakhldlmfdcdaaGreatDoor
open Go.ChangeShapes Go.WideShapes Go.ChangeAt Go.RowKit

theorem own : ownKnob Tryz.prog.godebug = none := by kernel_rfl
theorem laidOut : laidOutB Tryz.prog = true := by kernel_rfl
theorem gErr : Tryz.prog.globalNamed "errors.errorType" = some 0 := by kernel_rfl
theorem rtErr : (Tryz.prog.cutTypes.find? (·.1 == "internal/reflectlite.rtype")).map (·.2) = some 138 := by kernel_rfl
theorem oneErr : ((List.range 205).filter fun t => Tryz.prog.rowNamed t [101, 114, 114, 111, 114]) = [28] := by kernel_rfl
theorem sizeTypes : Tryz.prog.types.size = 205 := by kernel_rfl
/-- what the row's list gives a walk: the one cell of errors' own variable -/
theorem et_of_handle {W : World} {l : List (String × DataW Unit)} (h : handlesMet Tryz.prog l W) (hm : ("errors.errorType", Rows.laid_errors_errorType) ∈ l) : ET W := by
  obtain ⟨name, u, ty, e1, e2, e3, e4, e5⟩ := h _ hm
  have en : name = [101, 114, 114, 111, 114] := (Option.some.inj e1).symm
  subst en
  obtain rfl := Option.some.inj (rtErr.symm.trans e2)
  have hm : ty ∈ (List.range 205).filter fun t => Tryz.prog.rowNamed t [101, 114, 114, 111, 114] := List.mem_filter.2 ⟨List.mem_range.2 (by rw [← sizeTypes]; exact e3), e4⟩
  rw [oneErr] at hm
  obtain rfl := List.mem_singleton.1 hm
  have hh : typeHandle Tryz.prog 28 = .pointer (some ⟨2, 28, none⟩) := by kernel_rfl
  rw [hh] at e5
  simpa using World.var?_cell gErr e5 0
theorem src_of {H : Type} {enc : TypeId × Value → H} {W : World} {a : Option Addr} {len c : Nat} {d : DataW H} {ps : List MemPlace} (h : DataW.Trod enc Tryz.prog W 0 (fun _ => true) true 22 (.slice a len c) d ps) : ∃ xs, Src W a len c xs := by
  obtain ⟨fuel, hf⟩ := h
  rcases open_ints Tryz.underlying22 Tryz.underlying5 (by kernel_rfl) hf with ⟨hcs, _⟩ | ⟨x, l, c', zs, hcs, _, hl, hm, hz, _, hcell, hwz⟩
  · simp [Value.cells] at hcs
    obtain ⟨rfl, rfl, rfl⟩ := hcs
    exact ⟨[], rfl, fun i => by simp [List.getD], Or.inl ⟨rfl, rfl⟩⟩
  · simp [Value.cells] at hcs
    obtain ⟨rfl, rfl, rfl⟩ := hcs
    have hz' : zs.length = c := by simpa using hz
    by_cases h0 : c = 0
    · subst h0
      obtain rfl : len = 0 := by omega
      exact ⟨[], rfl, fun i => by simp [List.getD], Or.inl ⟨rfl, rfl⟩⟩
    · obtain ⟨b, off, spot⟩ := x
      have hc := hcell 0 (by omega)
      have hspot : spot = none := by simpa [Addr.add] using World.cell?_spot hc
      subst hspot
      have hlt : b < W.heap.size := by have := cell_lt hc; simpa [Addr.add] using this
      refine ⟨zs.take len, by simp; omega, fun i => ?_, Or.inr ⟨b, off, rfl, hl, hlt, fun i hi => ?_⟩⟩
      · by_cases hi : i < (zs.take len).length
        · have hm : (zs.take len).getD i 0 ∈ zs := by
            simp only [List.getD, List.getElem?_eq_getElem hi, Option.getD_some]
            exact List.mem_of_mem_take (List.getElem_mem hi)
          have := hwz _ hm
          exact bounds_u8 this |>.imp_right fun h => by omega
        · simp [List.getD, List.getElem?_eq_none (Nat.le_of_not_lt hi)]
      · have := hcell i (by omega)
        rw [show ((zs.take len).getD i 0) = zs.getD i 0 by simp [List.getD, hi], show (⟨b, off + i, none⟩ : Addr) = (⟨b, off, none⟩ : Addr).add i by unfold Addr.add; split <;> simp_all]
        exact this
/-- a world for the witness -/
noncomputable def errWorld (os : Os) : World :=
  { World.holding Tryz.prog os ⟨#[], #[], []⟩ with heap := (World.holding Tryz.prog os ⟨#[], #[], []⟩).heap.modify 0 fun
      | .cells _ t frozen => .cells #[.iface 138 (.agg #[.pointer (some ⟨2, 28, none⟩)])] t frozen
      | o => o }
end Go.Proofs.YtkakhldlmfdcdaaGreatDoor
end
section
namespace Go.Proofs.YtkakhldlmfdcdaaGreatDoor.Tr
open Go.RowKit
theorem take_eq_succ {xs ys : List Int} {j : Nat} (h : xs.take j = ys.take j) (hx : j < xs.length) (hy : j < ys.length) (he : xs.getD j 0 = ys.getD j 0) : xs.take (j + 1) = ys.take (j + 1) := by
  rw [List.take_succ_eq_append_getElem hx, List.take_succ_eq_append_getElem hy, h]
  simp only [List.getD, List.getElem?_eq_getElem hx, List.getElem?_eq_getElem hy, Option.getD_some] at he
  rw [he]
set_option maxHeartbeats 4000000 in
theorem equal_at (w : World) (p p2 : Option Addr) (l c l2 c2 : Nat) (xs ys : List Int) (h : IV w p l c xs) (h2 : IV w p2 l2 c2 ys) (hl : l ≤ 70000) :
    Calls Tryz.prog 84 #[.slice p l c, .slice p2 l2 c2] w fun e w' => e = .returned (.bool (decide (xs = ys))) ∧ Below w.heap.size w w' := by
  have hxl := Lib.hid h.len_eq
  have hyl := Lib.hid h2.len_eq
  have H := Lib.hid h
  have H2 := Lib.hid h2
  clear h h2
  by_cases hll : l = l2
  · have d0 : ((l : Int) != (l2 : Int)) = false := by simp [hll]
    have HLL := Lib.hid hll
    clear hll
    go_enter Tryz.func84, Tryz.ntmps84
    go_wp2_with fail
    clear d0
    go_loopw [13] (fun iv wr => ∃ j : Nat, j ≤ l ∧ iv = .int .i64 j ∧ Hid (xs.take j = ys.take j) ∧ Hid (Below w.heap.size w wr)) (fun iv _ => l - (intOf iv).toNat)
    case atStart => exact ⟨0, by omega, rfl, Lib.hid rfl, Lib.hid (Below.refl _ _)⟩
    case round =>
      obtain ⟨j, hj, rfl, HT, HB⟩ := hrel
      by_cases hjl : j < l
      · obtain ⟨b, off, rfl, hbl, hc⟩ := (H.out.on HB.out).cell (by omega)
        obtain ⟨b2, off2, rfl, hbl2, hc2⟩ := (H2.out.on HB.out).cell (by have := HLL.out; omega)
        have k1 := hc j hjl
        have k2 := hc2 j (by have := HLL.out; omega)
        have HTS := Lib.hid (fun he => take_eq_succ HT.out (by have := hxl.out; omega) (by have := hyl.out; have := HLL.out; omega) he)
        have HNE : Hid (xs.getD j 0 ≠ ys.getD j 0 → decide (xs = ys) = false) := Lib.hid (fun hne => decide_eq_false (fun e => hne (by rw [e])))
        generalize xs.getD j 0 = x at *
        generalize ys.getD j 0 = y at *
        have b0 : (0 : Int) ≤ (j : Int) := by omega
        have b1 : (j : Int) < (l : Int) := by omega
        have b2' : (j : Int) < (l2 : Int) := by have := HLL.out; omega
        have HBD : Hid (∀ n, Below w.heap.size w (wr.drewN n)) := Lib.hid (fun n => HB.out.trans (drewN_below _ _ _))
        clear hc hc2 hbl hbl2
        by_cases hxy : x = y
        · have d1 : (x != y) = false := by simp [hxy]
          have HTJ := Lib.hid (HTS.out hxy)
          clear hxy
          go_wp2_with fail
          go_quiet (fail)
          go_wp2_with fail
          go_roundw
          case rel => exact ⟨j + 1, by omega, by go_num, HTJ, Lib.hid (HBD.out nq)⟩
          case measure => simp [intOf]; omega
        · have d1 : (x != y) = true := by simpa using hxy
          have HNO := Lib.hid (HNE.out hxy)
          clear hxy
          go_wp2_with fail
          go_quiet (fail)
          go_wp2
          go_ret
          exact ⟨retB HNO.out.symm, HBD.out nq⟩
      · have hje : j = l := by omega
        have HE : Hid (decide (xs = ys) = true) := Lib.hid (by
          have h1 := HT.out
          rw [hje, List.take_of_length_le (by have := hxl.out; omega), List.take_of_length_le (by have := hyl.out; have := HLL.out; omega)] at h1
          rw [h1]; simp)
        clear hje
        go_wp2
        go_ret
        exact ⟨retB HE.out.symm, HB.out⟩
  · have d0 : ((l : Int) != (l2 : Int)) = true := by simp; omega
    have HNO : Hid (decide (xs = ys) = false) := Lib.hid (decide_eq_false (fun e => hll (by rw [← hxl.out, ← hyl.out, e])))
    clear hll
    go_enter Tryz.func84, Tryz.ntmps84
    go_wp2
    go_ret
    exact ⟨retB HNO.out.symm, Below.refl _ _⟩
def sameNd (a b : Nd) : Bool := a.kind == b.kind && (decide (a.text = b.text) && (a.n == b.n && decide (a.kids = b.kids)))
def ndV (nd : Nd) (kp : Option Addr) (kl kc : Nat) : Value := .agg #[.int .u8 nd.kind, .int .i64 nd.at', .string nd.text, .int .i64 nd.n, .slice kp kl kc]
theorem text_eq (s t : ByteArray) : (s.toList == t.toList) = decide (s = t) := by
  by_cases h : s = t
  · subst h; simp
  · rw [decide_eq_false h]
    rw [beq_eq_false_iff_ne]
    intro e
    apply h
    rw [← bytesI_str s, ← bytesI_str t, Lib.strOfNums_toList, Lib.strOfNums_toList] at e
    have hl : ∀ u : ByteArray, ∀ x ∈ bytesI u, 0 ≤ x ∧ x < 256 := fun u x hx => by
      obtain ⟨i, hi, rfl⟩ := List.mem_iff_getElem.1 hx
      have := bytesI_byte u i
      simpa [List.getD, hi] using this
    have inj : ∀ (a b : List Int), (∀ x ∈ a, 0 ≤ x ∧ x < 256) → (∀ x ∈ b, 0 ≤ x ∧ x < 256) → Lib.bytesOf a = Lib.bytesOf b → a = b := by
      intro a
      induction a with
      | nil => intro b _ _ h; cases b with
        | nil => rfl
        | cons y b => simp [Lib.bytesOf] at h
      | cons x a ih => intro b ha hb h; cases b with
        | nil => simp [Lib.bytesOf] at h
        | cons y b =>
          simp only [Lib.bytesOf, List.map_cons, List.cons.injEq] at h
          have hx := ha x (by simp)
          have hy := hb y (by simp)
          have e := congrArg UInt8.toNat h.1
          simp at e
          rw [ih b (fun z hz => ha z (by simp [hz])) (fun z hz => hb z (by simp [hz])) h.2, show x = y by omega]
    have := inj _ _ (hl s) (hl t) e
    rw [← bytesI_str s, ← bytesI_str t, this]
set_option maxHeartbeats 4000000 in
theorem sameNode_at (w : World) (a b : Nd) (p p2 : Option Addr) (l c l2 c2 : Nat) (h : IV w p l c a.kids) (h2 : IV w p2 l2 c2 b.kids) (hl : l ≤ 70000) :
    Calls Tryz.prog 39 #[ndV a p l c, ndV b p2 l2 c2] w fun e w' => e = .returned (.bool (sameNd a b)) ∧ Below w.heap.size w w' := by
  have HE : Hid (∀ W, Below w.heap.size w W → Calls Tryz.prog 84 #[.slice p l c, .slice p2 l2 c2] W fun e w' => e = .returned (.bool (decide (a.kids = b.kids))) ∧ Below W.heap.size W w') := Lib.hid (fun W hb => equal_at W p p2 l c l2 c2 _ _ (h.on hb) (h2.on hb) hl)
  have B0 : Hid (Below w.heap.size w ((w.alloc (.cells #[.int .u8 a.kind, .int .i64 a.at', .string a.text, .int .i64 a.n, .slice p l c] 53)).alloc (.cells #[.int .u8 b.kind, .int .i64 b.at', .string b.text, .int .i64 b.n, .slice p2 l2 c2] 53))) := Lib.hid ((one_below w _).alloc (by simp) _)
  clear h h2
  unfold ndV sameNd
  by_cases h1 : a.kind = b.kind
  · have e1 : (a.kind == b.kind) = true := by simpa using h1
    by_cases h2 : a.text = b.text
    · have e2 : (a.text.toList == b.text.toList) = true := by rw [text_eq]; simpa using h2
      by_cases h3 : a.n = b.n
      · have e3 : (a.n == b.n) = true := by simpa using h3
        have fin : (a.kind == b.kind && (decide (a.text = b.text) && (a.n == b.n && decide (a.kids = b.kids)))) = decide (a.kids = b.kids) := by rw [e1, decide_eq_true h2, e3]; rfl
        rw [fin]
        clear fin h1 h2 h3
        have HQ := Lib.hid (HE.out _ B0.out)
        go_enter Tryz.func39, Tryz.ntmps39
        go_wp2_with fail
        (with_reducible refine HQ.out.mono ?_)
        rintro e w' ⟨rfl, hb⟩
        have B1 := Lib.hid (B0.out.trans (hb.mono (by simp; omega)))
        clear hb HQ HE
        go_wp2
        go_ret
        exact ⟨rfl, B1.out⟩
      · have e3 : (a.n == b.n) = false := by simpa using h3
        have fin : (a.kind == b.kind && (decide (a.text = b.text) && (a.n == b.n && decide (a.kids = b.kids)))) = false := by rw [e3]; simp
        rw [fin]
        clear fin h1 h2 h3
        go_enter Tryz.func39, Tryz.ntmps39
        go_wp2
        go_ret
        exact ⟨rfl, B0.out⟩
    · have e2 : (a.text.toList == b.text.toList) = false := by rw [text_eq]; simpa using h2
      have fin : (a.kind == b.kind && (decide (a.text = b.text) && (a.n == b.n && decide (a.kids = b.kids)))) = false := by rw [decide_eq_false h2]; simp
      rw [fin]
      clear fin h1 h2
      go_enter Tryz.func39, Tryz.ntmps39
      go_wp2
      go_ret
      exact ⟨rfl, B0.out⟩
  · have e1 : (a.kind == b.kind) = false := by simpa using h1
    have fin : (a.kind == b.kind && (decide (a.text = b.text) && (a.n == b.n && decide (a.kids = b.kids)))) = false := by rw [e1]; rfl
    rw [fin]
    clear fin h1
    go_enter Tryz.func39, Tryz.ntmps39
    go_wp2
    go_ret
    exact ⟨rfl, B0.out⟩
end Go.Proofs.YtkakhldlmfdcdaaGreatDoor.Tr
end
section
namespace Go.Proofs.YtkakhldlmfdcdaaGreatDoor.Tr
open Go.RowKit
structure Small (ns : List Nd) : Prop where
  len : ns.length ≤ 70000
  each : ∀ nd ∈ ns, nd.kids.length ≤ 70000
def sameP (ns ms : List Nd) : Bool := decide (ns.length = ms.length) && (List.range ns.length).all fun i => sameNd (ns.getD i default) (ms.getD i default)
theorem range_all_succ (f : Nat → Bool) (j : Nat) : (List.range (j + 1)).all f = ((List.range j).all f && f j) := by
  rw [List.range_succ, List.all_append]; simp
theorem range_all_no (f : Nat → Bool) (n j : Nat) (hj : j < n) (h : f j = false) : (List.range n).all f = false := by
  rw [List.all_eq_false]
  exact ⟨j, List.mem_range.2 hj, by rw [h]; simp⟩
set_option maxHeartbeats 8000000 in
set_option maxRecDepth 1000000 in
theorem equalFunc_at (w : World) (p p2 : Option Addr) (len c len2 c2 : Nat) (ns ms : List Nd) (h : TV w p len c ns) (h2 : TV w p2 len2 c2 ms) (hS : Small ns) :
    Calls Tryz.prog 38 #[.slice p len c, .slice p2 len2 c2, .func (.func 39) #[] #[]] w fun e w' => e = .returned (.bool (sameP ns ms)) ∧ Below w.heap.size w w' := by
  have hlen := Lib.hid h.len_eq
  have hlen2 := Lib.hid h2.len_eq
  have H := Lib.hid h
  have H2 := Lib.hid h2
  have HS := Lib.hid hS
  have hl1 : len ≤ 70000 := by rw [← h.len_eq]; exact hS.len
  clear h h2 hS
  by_cases hll : len = len2
  · have d0 : ((len : Int) != (len2 : Int)) = false := by simp [hll]
    have HLL := Lib.hid hll
    clear hll
    go_enter Tryz.func38, Tryz.ntmps38
    go_wp2_with fail
    clear d0
    go_loopw [17] (fun iv wr => ∃ j : Nat, j ≤ len ∧ iv = .int .i64 j ∧ Hid ((List.range j).all (fun i => sameNd (ns.getD i default) (ms.getD i default)) = true) ∧ Hid (Below w.heap.size w wr)) (fun iv _ => len - (intOf iv).toNat)
    case atStart => exact ⟨0, by omega, rfl, Lib.hid rfl, Lib.hid (Below.refl _ _)⟩
    case round =>
      obtain ⟨j, hj, rfl, HT, HB⟩ := hrel
      by_cases hjl : j < len
      · obtain ⟨b, off, rfl, hbl, hc⟩ := (H.out.on HB.out).node (by omega)
        obtain ⟨b2, off2, rfl, hbl2, hc2⟩ := (H2.out.on HB.out).node (by have := HLL.out; omega)
        obtain ⟨kp, kl, kc, hn⟩ := hc j hjl
        obtain ⟨kp2, kl2, kc2, hn2⟩ := hc2 j (by have := HLL.out; omega)
        have hkb := (HS.out.each (ns.getD j default) (by have : j < ns.length := by (have := hlen.out; omega)
                                                         simp [List.getD, this]))
        have HSU : Hid ((List.range (j + 1)).all (fun i => sameNd (ns.getD i default) (ms.getD i default)) = ((List.range j).all (fun i => sameNd (ns.getD i default) (ms.getD i default)) && sameNd (ns.getD j default) (ms.getD j default))) := Lib.hid (range_all_succ _ j)
        have HNO : Hid (sameNd (ns.getD j default) (ms.getD j default) = false → (List.range ns.length).all (fun i => sameNd (ns.getD i default) (ms.getD i default)) = false) := Lib.hid (fun h => range_all_no _ ns.length j (by have := hlen.out; omega) h)
        generalize ns.getD j default = a at *
        generalize ms.getD j default = e0 at *
        have k0 := hn.kind
        have k1 := hn.at'
        have k2 := hn.text
        have k3 := hn.n
        have k4 := hn.kids
        have m0 := hn2.kind
        have m1 := hn2.at'
        have m2 := hn2.text
        have m3 := hn2.n
        have m4 := hn2.kids
        have hj2 : (j : Int) < (len2 : Int) := by have := HLL.out; omega
        have B0 : Below wr.heap.size wr ((wr.alloc (.cells #[.int .u8 a.kind, .int .i64 a.at', .string a.text, .int .i64 a.n, .slice kp kl kc] 53)).alloc (.cells #[.int .u8 e0.kind, .int .i64 e0.at', .string e0.text, .int .i64 e0.n, .slice kp2 kl2 kc2] 53)) := (one_below wr _).alloc (by simp) _
        have HSN := Lib.hid (sameNode_at _ a e0 kp kp2 kl kc kl2 kc2 (hn.iv.on B0) (hn2.iv.on B0) (by have := hn.iv.len_eq; omega))
        have HB0 := Lib.hid (HB.out.trans (B0.mono HB.out.size))
        unfold ndV at HSN
        have n0 : ((wr.alloc (.cells #[.int .u8 a.kind, .int .i64 a.at', .string a.text, .int .i64 a.n, .slice kp kl kc] 53))).cell? ⟨b2, off2 + j * 5, none⟩ = some (.int .u8 e0.kind) := by rw [World.cell?_alloc_past _ _ _ hbl2]; exact m0
        have n1 : ((wr.alloc (.cells #[.int .u8 a.kind, .int .i64 a.at', .string a.text, .int .i64 a.n, .slice kp kl kc] 53))).cell? ⟨b2, off2 + j * 5 + 1, none⟩ = some (.int .i64 e0.at') := by rw [World.cell?_alloc_past _ _ _ hbl2]; exact m1
        have n2 : ((wr.alloc (.cells #[.int .u8 a.kind, .int .i64 a.at', .string a.text, .int .i64 a.n, .slice kp kl kc] 53))).cell? ⟨b2, off2 + j * 5 + 2, none⟩ = some (.string e0.text) := by rw [World.cell?_alloc_past _ _ _ hbl2]; exact m2
        have n3 : ((wr.alloc (.cells #[.int .u8 a.kind, .int .i64 a.at', .string a.text, .int .i64 a.n, .slice kp kl kc] 53))).cell? ⟨b2, off2 + j * 5 + 3, none⟩ = some (.int .i64 e0.n) := by rw [World.cell?_alloc_past _ _ _ hbl2]; exact m3
        have n4 : ((wr.alloc (.cells #[.int .u8 a.kind, .int .i64 a.at', .string a.text, .int .i64 a.n, .slice kp kl kc] 53))).cell? ⟨b2, off2 + j * 5 + 4, none⟩ = some (.slice kp2 kl2 kc2) := by rw [World.cell?_alloc_past _ _ _ hbl2]; exact m4
        clear hn hn2 hc hc2 B0
        go_wp2_with fail
        (with_reducible refine HSN.out.mono ?_)
        rintro e w5 ⟨rfl, hb⟩
        have HB5 := Lib.hid (HB0.out.trans (hb.mono HB0.out.size))
        clear hb HSN
        cases hsn : sameNd a e0 with
        | true =>
          have HT2 : Hid ((List.range (j + 1)).all (fun i => sameNd (ns.getD i default) (ms.getD i default)) = true) := Lib.hid (by rw [HSU.out, HT.out, hsn]; rfl)
          clear hsn
          go_wp2_with fail
          go_roundw
          case rel => exact ⟨j + 1, by omega, by go_num, HT2, HB5⟩
          case measure => simp [intOf]; omega
        | false =>
          have HF : Hid (sameP ns ms = false) := Lib.hid (by unfold sameP; rw [HNO.out hsn, Bool.and_false])
          clear hsn
          go_wp2
          go_ret
          exact ⟨retB HF.out.symm, HB5.out⟩
      · have HE : Hid (sameP ns ms = true) := Lib.hid (by
          have e : j = ns.length := by have := hlen.out; omega
          unfold sameP
          rw [← e, HT.out, decide_eq_true (by rw [e, hlen.out, hlen2.out, HLL.out])]
          rfl)
        go_wp2
        go_ret
        exact ⟨retB HE.out.symm, HB.out⟩
  · have d0 : ((len : Int) != (len2 : Int)) = true := by simp; omega
    have HNO : Hid (sameP ns ms = false) := Lib.hid (by unfold sameP; rw [decide_eq_false (by rw [hlen.out, hlen2.out]; exact hll)]; rfl)
    clear hll
    go_enter Tryz.func38, Tryz.ntmps38
    go_wp2
    go_ret
    exact ⟨retB HNO.out.symm, Below.refl _ _⟩
set_option maxHeartbeats 4000000 in
theorem same_at (w : World) (p p2 : Option Addr) (len c len2 c2 : Nat) (ns ms : List Nd) (h : TV w p len c ns) (h2 : TV w p2 len2 c2 ms) (hS : Small ns) :
    Calls Tryz.prog 16 #[.agg #[.slice p len c], .agg #[.slice p2 len2 c2]] w fun e w' => e = .returned (.bool (sameP ns ms)) ∧ Below w.heap.size w w' := by
  have hb : Below w.heap.size w ((w.alloc (.cells #[.slice p len c] 26)).alloc (.cells #[.slice p2 len2 c2] 26)) := (one_below w _).alloc (by simp) _
  have HQ := Lib.hid (equalFunc_at _ p p2 len c len2 c2 ns ms (h.on hb) (h2.on hb) hS)
  have HB := Lib.hid hb
  clear h h2 hb
  go_enter Tryz.func16, Tryz.ntmps16
  go_wp2_with fail
  (with_reducible refine HQ.out.mono ?_)
  rintro e w' ⟨rfl, hb⟩
  have B1 := Lib.hid (HB.out.trans (hb.mono (by simp; omega)))
  clear hb HQ
  go_wp2
  go_ret
  exact ⟨rfl, B1.out⟩
end Go.Proofs.YtkakhldlmfdcdaaGreatDoor.Tr
end
