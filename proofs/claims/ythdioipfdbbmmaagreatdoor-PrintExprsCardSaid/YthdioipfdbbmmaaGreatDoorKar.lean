/- Contracts on the way to the laws of layer 5: ParseS. -/
import Derived.Test.YthdioipfdbbmmaaGreatDoorKaa
import Derived.Test.YthdioipfdbbmmaaGreatDoorKag
import Derived.Deep.RegionHeld3
import Derived.Deep.RegionLaw
set_option linter.all false
set_option maxRecDepth 1000000
set_option maxHeartbeats 16000000
namespace Go.Proofs.YthdioipfdbbmmaaGreatDoor
section
open Go.RowKit
theorem infoNode : (Tryz.prog.info? 54).map (fun i => (i.zero, i.size, i.bytes)) = some (some (.agg #[.int .u8 0, .int .i64 0, .string ⟨#[]⟩, .int .i64 0, .slice none 0 0]), 5, 64) := by kernel_rfl
theorem infoInt : (Tryz.prog.info? 3).map (fun i => (i.zero, i.size, i.bytes)) = some (some (.int .i64 0), 1, 8) := by kernel_rfl
theorem info_partsP {t : Nat} {z : Value} {s b : Nat} (h : (Tryz.prog.info? t).map (fun i => (i.zero, i.size, i.bytes)) = some (some z, s, b)) : ∃ i, Tryz.prog.info? t = some i ∧ i.zero = some z ∧ i.size = s ∧ i.bytes = b := by
 cases hi : Tryz.prog.info? t with
 | none => rw [hi] at h; simp at h
 | some i =>
  rw [hi] at h
  simp only [Option.map_some, Option.some.injEq, Prod.mk.injEq] at h
  exact ⟨i, rfl, h.1, h.2.1, h.2.2⟩
theorem own1.slice {B : Nat} {w : World} {kv : Value} {ks : List Int} (h : own1 B w kv ks) : ∃ kp kl kc, kv = .slice kp kl kc := by
 rcases h.2 with h2 | ⟨g, cap, cur, e, _⟩
 · exact ⟨_, _, _, h2.1⟩
 · exact ⟨_, _, _, e⟩
section
variable {E : Env} {v : Value} {kvs : List Value} {md : List Nd} {r : Nat} {l : List PT} {w : World}
theorem of_drew {w w' : World} {row : Option Nat} (h : w.drew.grownBy w' row) : w.grownBy w' row := ⟨h.os, h.tape, h.output, h.size, h.block⟩
theorem PS.push {W2 w5 : World} {o : Obj} {g cap n : Nat} {nd : Nd} {kv : Value} {cs : List Value} (h : PS E v kvs md r l W2) (hg : (W2.alloc o).grownBy w5 v.ownBlock) (hat : v.ownBlock = some g ∨ g = W2.heap.size + 1) (hn : n = md.length + 1) (hcs : cs = cellsM md kvs ++ nodeC nd kv)
 (hown : w5.ownsRow (E.b + 1) 54 5 (.slice (some ⟨g, 0, none⟩) n cap) n cs) (ho : own1 (E.b + 1) W2 kv nd.kids) (hl : LocV E v kvs kv) (hroom : md.length + 1 + l.length ≤ 70000) :
 PS E (.slice (some ⟨g, 0, none⟩) n cap) (kvs ++ [kv]) (md ++ [nd]) r l (w5.setCell ⟨E.b, 4, none⟩ (.slice (some ⟨g, 0, none⟩) n cap)) ∧ Fr E W2.heap.size v (.slice (some ⟨g, 0, none⟩) n cap) W2 (w5.setCell ⟨E.b, 4, none⟩ (.slice (some ⟨g, 0, none⟩) n cap)) := by
 subst hn hcs
 have hlt := h.lt
 have hsz : W2.heap.size + 1 ≤ w5.heap.size := by have := hg.size; simpa using this
 have hg2 : W2.grownBy w5 v.ownBlock := ⟨hg.os, hg.tape, hg.output, by omega, fun k hk hne => (hg.block k (by simp; omega) hne).trans (Below.heap_alloc _ _ _ hk)⟩
 have hvb : v.ownBlock ≠ some E.b := fun e => by have := (h.vlt _ e).1; omega
 have hb5 : w5.heap[E.b]? = W2.heap[E.b]? := hg2.block E.b hlt (fun e => hvb e.symm)
 have hgb : g ≠ E.b := fun e => by
  rcases hat with h1 | h1
  · rw [e] at h1; exact hvb h1
  · omega
 generalize hv5 : Value.slice (some ⟨g, 0, none⟩) (md.length + 1) cap = v5 at *
 have hv5o : v5.ownBlock = some g := by rw [← hv5]; rfl
 have hset : w5.grownBy (w5.setCell ⟨E.b, 4, none⟩ v5) (some E.b) := grownBy_set w5 _ _
 have kidold : ∀ (x : Value) (ks : List Int), own1 (E.b + 1) W2 x ks → (∀ k, x.ownBlock = some k → v.ownBlock ≠ some k) → own1 (E.b + 1) (w5.setCell ⟨E.b, 4, none⟩ v5) x ks := fun x ks hx hne => by
  refine own1.grown (row := some E.b) (own1.grown hx hg2 ?_) hset ?_
  · cases hk : x.ownBlock with
    | none => exact Or.inl rfl
    | some k => exact Or.inr (fun e => hne k hk e.symm)
  · cases hk : x.ownBlock with
    | none => exact Or.inl rfl
    | some k => exact Or.inr (fun e => by have := (hx.lt k hk).1; have e := Option.some.inj e; omega)
 have hkl : ∀ x ∈ kvs ++ [kv], ∀ k, x.ownBlock = some k → v5.ownBlock ≠ some k := fun x hx k hk e => by
  rw [hv5o] at e
  obtain rfl := Option.some.inj e
  rcases List.mem_append.1 hx with hx | hx
  · rcases hat with h1 | h1
    · exact h.apart x hx g hk h1
    · have := (h.klt x hx g hk).2; omega
  · obtain rfl := List.mem_singleton.1 hx
    rcases hat with h1 | h1
    · exact (hl g hk).v h1
    · have := (ho.lt g hk).2; omega
 refine ⟨⟨(h.below.grown hg2 (Nat.le_of_lt hlt) (fun k e => Nat.le_of_lt (h.vlt k e).1)).setCell (p := ⟨E.b, 4, none⟩) (Nat.le_refl _) _, by simp [World.setCell]; omega, h.gl, h.cap, fun j i u hj hi => ?_, ?_, h.r64, h.ended, h.few, by simp only [List.length_append, List.length_singleton]; omega, by simp [h.klen], ?_, fun j hj => ?_, hkl, ?_⟩, ?_⟩
 · have hgl := h.gl
   rw [World.cell?_of_block (w := w5) (a := ⟨E.g, j * 5 + i, none⟩) (Below.heap_setCell _ _ _ _ (show E.g ≠ E.b by omega)), World.cell?_of_block (w := W2) (a := ⟨E.g, j * 5 + i, none⟩) (hg2.block E.g (by omega) (fun e => by have := (h.vlt _ e.symm).1; omega))]
   exact h.tok j i u hj hi
 · obtain ⟨i, h1, h2⟩ := h.nx
   exact ⟨i, h1, by rw [heap_set _ _ _ _ _ _ (hb5.trans h2)]; rfl⟩
 · rw [cellsM_snoc md kvs nd kv h.klen, List.length_append, List.length_singleton]
   exact hown.kept hset (Or.inr (fun e => by rw [hv5o] at e; exact hgb (Option.some.inj e)))
 · by_cases hj' : j < md.length
   · have h1 := kidold _ _ (h.kids j hj') (fun k hk => h.apart (kvs.getD j default) (by have := h.klen; simp [List.getD, show j < kvs.length by omega]) k hk)
     have e1 : (kvs ++ [kv]).getD j default = kvs.getD j default := by have := h.klen; simp [List.getD, List.getElem?_append_left (show j < kvs.length by omega)]
     have e2 : (md ++ [nd]).getD j default = md.getD j default := by simp [List.getD, List.getElem?_append_left hj']
     rw [e1, e2]; exact h1
   · have hjn : j = md.length := by simp only [List.length_append, List.length_singleton] at hj; omega
     have e1 : (kvs ++ [kv]).getD j default = kv := by rw [hjn, ← h.klen]; simp [List.getD]
     have e2 : (md ++ [nd]).getD j default = nd := by rw [hjn]; simp [List.getD]
     rw [e1, e2]
     exact kidold _ _ ho (fun k hk => (hl k hk).v)
 · refine List.pairwise_append.2 ⟨h.pair, List.pairwise_singleton _ _, fun x hx y hy k hk e => ?_⟩
   obtain rfl := List.mem_singleton.1 hy
   exact (hl k e).ks x hx hk
 · refine ⟨hg.os, hg.tape, hg.output, by simp [World.setCell]; omega, fun k hk hkb hkv => (Below.heap_setCell w5 ⟨E.b, 4, none⟩ v5 k hkb).trans (hg2.block k hk (fun e => hkv e.symm)), fun k hk => ?_⟩
   rw [hv5o] at hk
   obtain rfl := Option.some.inj hk
   rcases hat with h1 | h1
   · exact Or.inl h1
   · exact Or.inr (by omega)
def AddP (E : Env) (v : Value) (kvs : List Value) (md : List Nd) (r : Nat) (l : List PT) (w : World) (nd : Nd) (kv : Value) (e : Ending) (w' : World) : Prop :=
 ∃ v', e = .returned (.int .i64 (md.length : Int)) ∧ PS E v' (kvs ++ [kv]) (md ++ [nd]) r l w' ∧ Fr E w.heap.size v v' w w'
theorem add_at (h : PS E v kvs md r l w) (k a n : Int) (t : ByteArray) (kz kv : Value) (ks : List Int) (ho : own1 (E.b + 1) w kv ks) (hl : LocV E v kvs kv) (hroom : md.length + 1 + l.length ≤ 70000) :
 Calls Tryz.prog 133 #[.pointer (some ⟨E.b, 0, none⟩), .agg #[.int .u8 k, .int .i64 a, .string t, .int .i64 n, kz], kv] w (AddP E v kvs md r l w ⟨k, a, t, n, ks⟩ kv) := by
 obtain ⟨i0, hi, hz0, hz1, hz2⟩ := info_partsP infoNode
 obtain ⟨kp, kl, kc, rfl⟩ := ho.slice
 have HS := lh h
 have L0 := lh (Lcl.new h (.cells #[.int .u8 k, .int .i64 a, .string t, .int .i64 n, kz] 54))
 have HO := lh ho
 have HL := lh hl
 have I0 := lh hi
 have I1 := lh hz0
 have I2 := lh hz1
 have I3 := lh hz2
 clear h ho hl hi hz0 hz1 hz2
 go_enter Tryz.func133, Tryz.ntmps133
 go_wp2_with fail
 obtain ⟨W2, hW2⟩ : ∃ W, W = w.alloc (.cells #[.int .u8 k, .int .i64 a, .string t, .int .i64 n, .slice kp kl kc] 54) := ⟨_, rfl⟩
 have HS2 : Hid (PS E v kvs md r l W2) := lh (by rw [hW2]; exact HS.out.alloc _)
 have L2 : Hid (Lcl E v kvs w.heap.size (.cells #[.int .u8 k, .int .i64 a, .string t, .int .i64 n, .slice kp kl kc] 54 (0, 0)) W2) := lh (by rw [hW2]; exact Lcl.new HS.out _)
 have HF2 : Hid (Fr E w.heap.size v v w W2) := lh (by rw [hW2]; exact (Fr.refl _ _ _ _).alloc (Nat.le_refl _) _)
 have hsz : Hid (W2.heap.size = w.heap.size + 1) := lh (by rw [hW2]; simp)
 have HO2 : Hid (own1 (E.b + 1) W2 (.slice kp kl kc) ks) := lh (by rw [hW2]; exact HO.out.grown (World.grownBy_alloc _ _ none) (by cases (Value.slice kp kl kc).ownBlock <;> simp))
 rw [← hW2]
 clear hW2 HO L0
 obtain ⟨vp, vn, vc, rfl⟩ : ∃ vp vn vc, v = .slice vp vn vc := by
  rcases HS2.out.own.2 with h2 | ⟨g, cap, cur, e, _⟩
  · exact ⟨_, _, _, h2.1⟩
  · exact ⟨_, _, _, e⟩
 obtain ⟨i, hi, _, _, _, _, c4⟩ := HS2.out.cells
 have z4 := HS2.out.fz 4
 have k0 := L2.out.cell 0 rfl
 have k1 := L2.out.cell 1 rfl
 have k2 := L2.out.cell 2 rfl
 have k3 := L2.out.cell 3 rfl
 have k4 := L2.out.cell 4 rfl
 have hlt := HS2.out.lt
 have hqlt := L2.out.lt
 have hne : ¬ E.b = w.heap.size := by have := L2.out.loc.lt; omega
 have hvb : ¬ (Value.slice vp vn vc).ownBlock = some E.b := fun e => by have := (HS2.out.vlt _ e).1; omega
 clear hi
 go_region_law ((refine step_append_lies _ (by rfl) (.tmp 13) (.tmp 15) 37 (by rfl) (E.b + 1) 54 i0 _ 5 64 Tryz.underlying37 I0.out I1.out I2.out I3.out rfl (by decide) (.slice vp vn vc) md.length (cellsM md kvs) (by rfl) (HS2.out.own.drew.alloc _) ⟨W2.heap.size, 0, none⟩ 1 1 [.int .u8 k, .int .i64 a, .string t, .int .i64 n, .slice kp kl kc] (by rfl) (by rfl) (World.news_of_block (cs := #[.int .u8 k, .int .i64 a, .string t, .int .i64 n, .slice kp kl kc]) (t := 54) (fr := (0, 0)) (heap_alloc_new _ _)) (by simp [Value.oneCell']) (by decide) (by unfold maxLen; omega) (by omega) (by simp; omega) _ (by rfl) ?_; intro g5 cap5 w5 hown5 hgrow5 hat5 hlt5; have c45 : w5.cell? ⟨E.b, 4, none⟩ = some (.slice vp vn vc) := (hgrow5.cell_far ⟨E.b, 4, none⟩ (by simp; omega) (fun e => hvb e.symm)).trans ((World.cell?_alloc_lt _ _ _ hlt).trans c4); have z45 : w5.frozen? ⟨E.b, 4, none⟩ = false := (hgrow5.frozen_far ⟨E.b, 4, none⟩ (by simp; omega) (fun e => hvb e.symm)).trans ((World.frozen?_of_block (w := W2) (Below.heap_alloc W2 _ E.b hlt)).trans z4)))
 all_goals
  have HP := lh (HS2.out.push (nd := ⟨k, a, t, n, ks⟩) (kv := .slice kp kl kc) (of_drew hgrow5) (by simpa using hat5) rfl rfl hown5 HO2.out HL.out hroom)
  obtain ⟨_, _, _, _, _, _, d4⟩ := HP.out.1.cells
  have hfin : Hid (AddP E (.slice vp vn vc) kvs md r l w ⟨k, a, t, n, ks⟩ (.slice kp kl kc) (.returned (.int .i64 (md.length : Int))) (w5.setCell ⟨E.b, 4, none⟩ (.slice (some ⟨g5, 0, none⟩) (md.length + 1) cap5))) := lh ⟨_, rfl, HP.out.1, HF2.out.trans (HP.out.2.mono (by have := hsz.out; omega))⟩
  clear hown5 hgrow5 hat5 c45 z45 k0 k1 k2 k3 k4 c4 z4 HP
  go_wp2
  go_ret
  exact hfin.out
end
end
end Go.Proofs.YthdioipfdbbmmaaGreatDoor
