/- Contracts on the way to the laws of layer 5: PrintRg, PrintDp, TreeY, PrintRh, PrintRi. -/
import Derived.Test.YthdioipfdbbmmaaGreatDoorKaa
import Derived.Test.YthdioipfdbbmmaaGreatDoorKaw
import Derived.Test.YthdioipfdbbmmaaGreatDoorKbg
set_option linter.all false
set_option maxRecDepth 1000000
set_option maxHeartbeats 16000000
namespace Go.Proofs.YthdioipfdbbmmaaGreatDoor
section
open Par Tr
mutual
theorem size_z : ∀ x : Ast, (zA x).size = x.size
 | .mk k a t n ks => by simp only [zA, Ast.size, sizeL_z ks]
theorem sizeL_z : ∀ l : List Ast, sizeL (zL l) = sizeL l
 | [] => rfl
 | x :: r => by simp only [zL, sizeL, size_z x, sizeL_z r]
end
theorem heads_z : ∀ (l : List Ast) (o : Nat), heads o (zL l) = heads o l
 | [], _ => rfl
 | x :: r, o => by simp only [zL, heads, size_z x, heads_z r]
mutual
theorem flat_z : ∀ (x : Ast) (o : Nat), (flat o x).map noAt = flat o (zA x)
 | .mk k a t n ks, o => by
  simp only [zA, flat, List.map_cons, flatL_z ks, heads_z]
  rfl
theorem flatL_z : ∀ (l : List Ast) (o : Nat), (flatL o l).map noAt = flatL o (zL l)
 | [], _ => rfl
 | x :: r, o => by simp only [zL, flatL, List.map_append, flat_z x, flatL_z r, size_z x]
end
mutual
theorem zz : ∀ x : Ast, zA (zA x) = zA x
 | .mk k a t n ks => by simp only [zA, zzL ks]
theorem zzL : ∀ l : List Ast, zL (zL l) = zL l
 | [] => rfl
 | x :: r => by simp only [zL, zz x, zzL r]
end
theorem AstR.z {ρ : Nat → Nat → Prop} {x y : Ast} (h : AstR ρ x y) : zA x = zA y := by
 induction h with
 | @mk k a a' t n ks ks' _ hl hk ih =>
  simp only [zA]
  congr 1
  rw [zL_map, zL_map]
  refine List.ext_getElem? fun i => ?_
  rw [List.getElem?_map, List.getElem?_map]
  cases h1 : ks[i]? with
  | none =>
   have h2 : ks'[i]? = none := by
    rw [List.getElem?_eq_none_iff] at h1 ⊢
    omega
   rw [h2]
  | some u =>
   cases h2 : ks'[i]? with
   | none =>
    rw [List.getElem?_eq_none_iff] at h2
    have := (List.getElem?_eq_some_iff.1 h1).1
    omega
   | some v => simp only [Option.map_some, ih i u v h1 h2]
theorem tokL_z : ∀ l : List PT, TokL (fun _ _ => True) l (l.map zP)
 | [] => .nil
 | t :: r => .cons ⟨rfl, rfl, rfl, trivial⟩ (tokL_z r)
theorem round {a0 : Nat} {ks : List Ast} (hw : wfR (.mk 1 a0 none0 0 ks)) (hd : ∀ z ∈ ks, deepPt z) : ∃ a, parseS (Tr.bytesI (progL ks)) = .ok (flat 0 a) ∧ zA a = zA (.mk 1 a0 none0 0 ks) := by
 have hk : (ks.map Ast.kind).all (fun k => k == 2 || k == 3) = true := by simpa [kidsR] using hw.parts.2.2.2
 have hp : ∀ z ∈ ks, Pt z := fun z hz => pt_of (wfRL_mem hw.2 z hz) (by
  have := (List.all_eq_true.1 hk) _ (List.mem_map_of_mem hz)
  simpa using this)
 obtain ⟨ts, e1, e2⟩ := lex_printed ks hp hw.2
 have h1 := rel_program (ρ := fun _ _ => True) (ts.map ptOf) ((ts.map ptOf).map zP) (tokL_z _)
 rw [e2, prog_read ks hp hd] at h1
 unfold parseS
 rw [e1]
 dsimp only
 cases h2 : programP (ts.map ptOf) with
 | err p c => rw [h2] at h1; exact h1.elim
 | ok a l =>
  rw [h2] at h1
  refine ⟨a, rfl, h1.1.z.trans ?_⟩
  simp only [zA, zzL]
theorem noAt_z {a b : Ast} (h : zA a = zA b) : (flat 0 a).map noAt = (flat 0 b).map noAt := by rw [flat_z, flat_z, h]
end
section
open Tr
theorem kidsAt_noAt (t : List Nd) (i : Nat) : kidsAt (t.map noAt) i = kidsAt t i := by
 show ((t.map noAt).getD i default).kids = (t.getD i default).kids
 rw [noAt_get]; rfl
theorem deepK_noAt (t : List Nd) : ∀ f i, deepK (ownK (t.map noAt)) (kidsAt (t.map noAt)) f i = deepK (ownK t) (kidsAt t) f i := by
 have h1 : ownK (t.map noAt) = ownK t := by
  funext i j
  unfold ownK
  rw [kindAt_noAt, kindAt_noAt]
 have h2 : kidsAt (t.map noAt) = kidsAt t := funext (kidsAt_noAt t)
 intro f i
 rw [h1, h2]
mutual
theorem deepK_lies {t : List Nd} : ∀ (x : Ast) (o f : Nat), Lies t o x → x.size ≤ f → deepK (ownK t) (kidsAt t) f o = dA x
 | .mk k a s n ks, o, f, h, hf => by
  simp only [Ast.size] at hf
  obtain ⟨f, rfl⟩ : ∃ q, f = q + 1 := ⟨f - 1, by omega⟩
  have h1 : kidsAt t o = heads (o + 1) ks := by
   show (t.getD o default).kids = _
   rw [h.node.1]
  rw [deepK, h1]
  exact deepK_liesL ks (o + 1) f o k h.kids (by omega) h.kindAt
theorem deepK_liesL {t : List Nd} : ∀ (l : List Ast) (o f i : Nat) (k : Int), LiesL t o l → sizeL l ≤ f → Tr.kindAt t i = k → maxL (fun j => ownK t i j.toNat + deepK (ownK t) (kidsAt t) f j.toNat) (heads o l) = dAL k l
 | [], o, f, i, k, _, _, _ => rfl
 | x :: r, o, f, i, k, h, hf, hk => by
  simp only [sizeL] at hf
  rw [heads, maxL_cons, deepK_liesL r (o + x.size) f i k h.head.2 (by omega) hk]
  show max (ownK t i ((o : Nat) : Int).toNat + deepK (ownK t) (kidsAt t) f ((o : Nat) : Int).toNat) _ = _
  rw [Int.toNat_natCast, deepK_lies x o f h.head.1 (by omega)]
  have : ownK t i o = ownA k x.kind := by
   unfold ownK ownA
   rw [hk, h.head.1.kindAt]
  rw [this]
  rfl
end
theorem deep_tree {ns : List Nd} {a : Ast} (h : On ns 0 a) (hs : a.size = ns.length) (hr : rightP ns = true) : deepP ns = dA a := by
 obtain ⟨t, e, hl⟩ := h
 unfold deepP
 rw [if_pos hr, ← deepK_noAt ns, ← e, deepK_noAt t]
 exact deepK_lies a 0 _ hl (by omega)
end
namespace Tr
open Go.RowKit
structure But (g : Nat) (W V : World) : Prop where
 below : Below g W V
 block : ∀ b, b ≠ g → V.heap[b]? = W.heap[b]?
theorem But.refl (g : Nat) (W : World) : But g W W := ⟨Below.refl _ _, fun _ _ => rfl⟩
theorem But.cell {g : Nat} {W V : World} (h : But g W V) {p : Addr} (hp : p.block ≠ g) : V.cell? p = W.cell? p := World.cell?_of_block (w := W) (h.block p.block hp)
theorem But.set {g : Nat} {W V : World} (h : But g W V) (i : Nat) (v : Value) : But g W (V.setCell ⟨g, i, none⟩ v) :=
 ⟨h.below.setCell (Nat.le_refl _) v, fun b hb => (Below.heap_setCell V ⟨g, i, none⟩ v b hb).trans (h.block b hb)⟩
theorem But.drewN {g : Nat} {W V : World} (h : But g W V) (n : Nat) : But g W (V.drewN n) := ⟨h.below.trans (drewN_below _ _ _), h.block⟩
theorem deepP_right {ns : List Nd} (h : rightP ns = true) : deepP ns = deepK (ownK ns) (kidsAt ns) ns.length 0 := by unfold deepP; rw [if_pos h]
theorem deepP_not {ns : List Nd} (h : rightP ns = false) : deepP ns = 0 := by unfold deepP; rw [if_neg (by rw [h]; simp)]
theorem deep_at (w : World) (p : Option Addr) (len c : Nat) (ns : List Nd) (h : TV w p len c ns) (hS : SmallT ns) :
 Calls Tryz.prog 30 #[.agg #[.slice p len c]] w fun e w' => e = .returned (.int .i64 (deepP ns : Nat)) ∧ Below w.heap.size w w' := by
 have hlen := lh h.len_eq
 have hll : len ≤ 70000 := by rw [← h.len_eq]; exact hS.len
 have H := lh h
 have HS := lh hS
 have B0 := lh (one_below w (.cells #[.slice p len c] 39))
 have HR := lh (right_at (w.alloc (.cells #[.slice p len c] 39)) p len c ns (h.on B0.out) hS)
 clear h hS
 go_enter Tryz.func30, Tryz.ntmps30
 go_wp2_with fail
 (with_reducible refine HR.out.mono ?_)
 rintro e w1 ⟨rfl, hb1⟩
 have B1 := lh (B0.out.trans (hb1.mono (by simp)))
 have c0 : w1.cell? ⟨w.heap.size, 0, none⟩ = some (.slice p len c) := by rw [hb1.cell (by simp)]; simp
 have C0 := lh c0
 have hsz : w.heap.size < w1.heap.size := World.block_lt_of_cell? w1 _ c0
 clear hb1 HR
 cases hr : rightP ns with
 | false =>
  have HZ := lh (deepP_not hr)
  clear hr
  go_wp2
  go_ret
  exact ⟨retI (by rw [HZ.out]; rfl), B1.out⟩
 | true =>
  have HZ := lh (deepP_right hr)
  obtain ⟨s, hs, _, _⟩ := right_sizes hr
  have HSO := lh (sizesP_some hs)
  clear hr hs
  obtain ⟨w2, hmk, hb2, hown⟩ := make_int w1 len (by omega)
  have B2 := lh hb2
  have HO0 := lh hown
  have C2 : w2.cell? ⟨w.heap.size, 0, none⟩ = some (.slice p len c) := by rw [hb2.cell hsz]; exact c0
  clear hb2 hown
  go_wp2_with fail
  clear hmk C2
  go_loopw [4, 19] (fun mv iv wr => ∃ (i m : Nat) (F : Nat → Nat) (L : List Value), i ≤ len ∧ m ≤ 70001 ∧ mv = .int .i64 m ∧ iv = .int .i64 i ∧ Hid (DI ns i 0 m F) ∧ Hid (wr.ownsRow w1.heap.size 3 1 (.slice (some ⟨w1.heap.size, 0, none⟩) len len) len L) ∧ Hid (∀ j, j < len → L[j]? = some (.int .i64 ((F j : Nat) : Int))) ∧ Hid (Below w1.heap.size w1 wr)) (fun _ iv _ => len - (intOf iv).toNat)
  case atStart => exact ⟨0, 0, fun _ => 0, _, by omega, by omega, rfl, rfl, lh (DI.start ns), HO0, lh (fun j hj => by rw [List.getElem?_replicate, if_pos hj]; rfl), B2⟩
  case round =>
   obtain ⟨i, m, F, L, hil, hm, rfl, rfl, HD, HO, HL, HB⟩ := hrel
   have c0 : wr.cell? ⟨w.heap.size, 0, none⟩ = some (.slice p len c) := by rw [HB.out.cell hsz]; exact C0.out
   have HBW := lh (B1.out.trans (HB.out.mono (by omega)))
   by_cases hlt : i < len
   · obtain ⟨b, off, rfl, hbl, hc⟩ := H.out.node (by omega)
     obtain ⟨kp, kl, kc, hnw⟩ := hc i hlt
     have hn := hnw.on hbl HBW.out
     have k0 := hn.kind
     have k1 := hn.at'
     have k2 := hn.text
     have k3 := hn.n
     have k4 := hn.kids
     have HIV := lh hnw.iv
     have hkl := hn.iv.len_eq
     have HC := lh hc
     have hix : i < ns.length := by have := hlen.out; omega
     have hkb := (HS.out.each (ns.getD i default) (by simp [List.getD, hix])).1
     have HKA : Hid (kidsAt ns i = (ns.getD i default).kids) := lh rfl
     have HKD : Hid (kindAt ns i = (ns.getD i default).kind) := lh rfl
     generalize ns.getD i default = nd at *
     have hkl2 : kl ≤ 70000 := by omega
     have HKL := lh hkl
     clear hn hnw hc hkl hkb
     have HN0 := lh (one_below wr (.cells #[.int .u8 nd.kind, .int .i64 nd.at', .string nd.text, .int .i64 nd.n, .slice kp kl kc] 54))
     have HOA := lh (HO.out.alloc (.cells #[.int .u8 nd.kind, .int .i64 nd.at', .string nd.text, .int .i64 nd.n, .slice kp kl kc] 54))
     have HBA := lh (HB.out.trans (HN0.out.mono HB.out.size))
     have hgs : Hid (w1.heap.size < wr.heap.size) := lh (HO.out.lt _ rfl).2
     go_wp2_with fail
     obtain ⟨wo, rfl⟩ : ∃ wo : World, wo = wr := ⟨_, rfl⟩
     go_loopw [4, 27] (fun mv jv wq => ∃ (j m : Nat) (F : Nat → Nat) (L : List Value), j ≤ kl ∧ m ≤ 70001 ∧ mv = .int .i64 m ∧ jv = .int .i64 j ∧ Hid (DI ns i j m F) ∧ Hid (wq.ownsRow w1.heap.size 3 1 (.slice (some ⟨w1.heap.size, 0, none⟩) len len) len L) ∧ Hid (∀ j, j < len → L[j]? = some (.int .i64 ((F j : Nat) : Int))) ∧ Hid (But w1.heap.size (wo.alloc (.cells #[.int .u8 nd.kind, .int .i64 nd.at', .string nd.text, .int .i64 nd.n, .slice kp kl kc] 54)) wq)) (fun _ jv _ => kl - (intOf jv).toNat)
     case atStart => exact ⟨0, m, F, L, by omega, hm, rfl, rfl, HD, HOA, HL, lh (But.refl _ _)⟩
     case round =>
      obtain ⟨wq, rfl⟩ : ∃ wq : World, wq = wr := ⟨_, rfl⟩
      clear c0 k0 k1 k2 k3 k4 HD HOA HL HO
      obtain ⟨j, m, F, L, hj, hm, rfl, rfl, HD, HO, HL, HQ⟩ := hrel
      have HBQ := lh (HBA.out.trans HQ.out.below)
      have HWQ := lh (B1.out.trans (HBQ.out.mono (by omega)))
      by_cases hjl : j < kl
      · have c0 : wq.cell? ⟨w.heap.size, 0, none⟩ = some (.slice (some ⟨b, off, none⟩) len c) := by rw [HBQ.out.cell hsz]; exact C0.out
        have x0 : wq.cell? ⟨wo.heap.size, 0, none⟩ = some (.int .u8 nd.kind) := by
         rw [HQ.out.cell (by have := hgs.out; simp; omega), World.cell?_alloc_at _ _ _ _ rfl]; rfl
        obtain ⟨kb, koff, rfl, hkbl, hkc⟩ := HIV.out.cell (by omega)
        have hkj := hkc j hjl
        rw [← HWQ.out.cell (p := ⟨kb, koff + j, none⟩) hkbl] at hkj
        have hjx : j < (kidsAt ns i).length := by have := HKL.out; have := HKA.out; simp only [this]; omega
        have hmem : (kidsAt ns i).getD j 0 ∈ kidsAt ns i := by simp [List.getD, hjx]
        obtain ⟨q, hq, _, _, _⟩ := HSO.out.right.kid (by have := hlen.out; omega) hmem
        have hqk : nd.kids.getD j 0 = (q : Int) := by rw [← HKA.out]; exact hq
        rw [hqk] at hkj
        obtain ⟨hiq, hqn, hst⟩ := HD.out.step HSO.out (by have := hlen.out; omega) hjx q hq
        have HST := lh hst
        have hql : q < len := by have := hlen.out; omega
        obtain ⟨kp2, kl2, kc2, hn2⟩ := HC.out q hql
        have q0 : wq.cell? ⟨b, off + q * 5, none⟩ = some (.int .u8 (kindAt ns q)) := (hn2.on hbl HWQ.out).kind
        have r0 := HO.out.cellAt i (by omega)
        rw [HL.out i hlt] at r0
        have r1 := HO.out.cellAt q (by omega)
        rw [HL.out q hql] at r1
        have f1 := HO.out.frozenAt q
        have HOW := lh (own_deep ns i q)
        have HFI := lh (HD.out.le i (by have := hlen.out; omega))
        have hfi : F i ≤ 70000 := by have := HFI.out; omega
        have ISD : ∀ W, Calls Tryz.prog 70 #[.int .u8 nd.kind, .int .u8 (kindAt ns q)] W fun e w' => e = .returned (.bool (isDeepB nd.kind (kindAt ns q))) ∧ w' = W := fun W => isDeeper_at _ _ W
        rw [HKD.out] at HOW
        have HLL : Hid (L.length = len) := lh (by have := HO.out.1; omega)
        have ho1 := (HO.out.stored q (.int .i64 ((F i : Nat) : Int))).1
        generalize hfx : F i = fi at *
        generalize kindAt ns q = kq at *
        generalize isDeepB nd.kind kq = dp at *
        have HISD := lh ISD
        clear hkc hkbl hjx hmem hqk hst hn2 ISD hq
        have hiqI : (i : Int) < (len : Int) := by omega
        have hqlI : (q : Int) < (len : Int) := by omega
        have c0' : (wq.setCell ⟨w1.heap.size, q, none⟩ (.int .i64 (fi : Int))).cell? ⟨w.heap.size, 0, none⟩ = some (.slice (some ⟨b, off, none⟩) len c) := by
         rw [((But.refl w1.heap.size wq).set q _).cell (by simp; omega)]; exact c0
        have x0' : (wq.setCell ⟨w1.heap.size, q, none⟩ (.int .i64 (fi : Int))).cell? ⟨wo.heap.size, 0, none⟩ = some (.int .u8 nd.kind) := by
         rw [((But.refl w1.heap.size wq).set q _).cell (by have := hgs.out; simp; omega)]; exact x0
        have q0' : (wq.setCell ⟨w1.heap.size, q, none⟩ (.int .i64 (fi : Int))).cell? ⟨b, off + q * 5, none⟩ = some (.int .u8 kq) := by
         rw [((But.refl w1.heap.size wq).set q _).cell (by simp; omega)]; exact q0
        have r1' := ho1.cellAt q (by omega)
        rw [List.getElem?_set_self (by have := HLL.out; omega)] at r1'
        have f1' := ho1.frozenAt q
        have HO1 := lh ho1
        have HO2 := lh (ho1.stored q (.int .i64 ((fi : Int) + 1))).1
        have HQ1 := lh (HQ.out.set q (.int .i64 (fi : Int)))
        clear ho1
        have hwf : IntKind.i64.wrap ((fi : Int) + 1) = (fi : Int) + 1 := IntWalk.i64_in _ (by omega)
        go_wp2_with fail
        clear c0 x0 q0 r0 r1 f1
        generalize wq.setCell ⟨w1.heap.size, q, none⟩ (.int .i64 (fi : Int)) = W1 at *
        have HL1 : Hid (∀ j, j < len → (L.set q (.int .i64 (fi : Int)))[j]? = some (.int .i64 (((if j = q then fi else F j) : Nat) : Int))) := lh (fun j hj => by
         by_cases e : j = q
         · rw [e, List.getElem?_set_self (by have := HLL.out; omega), if_pos rfl]
         · rw [List.getElem?_set_ne (fun h => e h.symm), if_neg e]; exact HL.out j hj)
        go_quiet (first | (go_at_call 70; refine Calls.quiet_of_same (HISD.out _)))
        have HOD : Hid ((W1.drewN nq).ownsRow w1.heap.size 3 1 (.slice (some ⟨w1.heap.size, 0, none⟩) len len) len (L.set q (.int .i64 (fi : Int)))) := lh HO1.out
        have HQD := lh (HQ1.out.drewN nq)
        cases dp with
        | true =>
         have HST1 : Hid (DI ns i (j + 1) (max m (fi + 1)) (fun x => if x = q then fi + 1 else F x)) := lh (by have := HST.out; rw [HOW.out] at this; exact this)
         have HL2 : Hid (∀ j, j < len → ((L.set q (.int .i64 (fi : Int))).set q (.int .i64 ((fi : Int) + 1)))[j]? = some (.int .i64 (((if j = q then fi + 1 else F j) : Nat) : Int))) := lh (fun j hj => by
          by_cases e : j = q
          · rw [e, List.getElem?_set_self (by have := HLL.out; simp; omega), if_pos rfl]; rfl
          · rw [List.getElem?_set_ne (fun h => e h.symm), if_neg e, HL1.out j hj, if_neg e])
         have HOE : Hid (((W1.drewN nq).setCell ⟨w1.heap.size, q, none⟩ (.int .i64 ((fi : Int) + 1))).ownsRow w1.heap.size 3 1 (.slice (some ⟨w1.heap.size, 0, none⟩) len len) len ((L.set q (.int .i64 (fi : Int))).set q (.int .i64 ((fi : Int) + 1)))) := lh (HOD.out.stored q (.int .i64 ((fi : Int) + 1))).1
         have HQE := lh (HQD.out.set q (.int .i64 ((fi : Int) + 1)))
         go_wp2_with fail
         go_roundw
         case rel => exact ⟨j + 1, max m (fi + 1), _, _, by omega, by omega, by go_num, by go_num, HST1, HOE, HL2, HQE⟩
         case measure => simp [intOf]; omega
        | false =>
         have HST1 : Hid (DI ns i (j + 1) (max m fi) (fun x => if x = q then fi else F x)) := lh (by have := HST.out; rw [HOW.out] at this; exact this)
         go_wp2_with fail
         go_roundw
         case rel => exact ⟨j + 1, max m fi, _, _, by omega, by omega, by go_num, by go_num, HST1, HOD, HL1, HQD⟩
         case measure => simp [intOf]; omega
      · have HT := lh (HD.out.turn (by have := HKL.out; have := HKA.out; simp only [this]; omega))
        clear HD
        go_wp2_with fail
        go_roundw
        case rel => exact ⟨i + 1, m, F, L, by omega, hm, rfl, by go_num, HT, HO, HL, HBQ⟩
        case measure => simp [intOf]; omega
   · have e : i = len := by omega
     have HE : Hid (m = deepP ns) := lh (by
      have := HD.out
      rw [e, ← hlen.out] at this
      rw [HZ.out]
      exact this.done HSO.out)
     clear e
     go_wp2
     go_ret
     exact ⟨retI (by rw [HE.out]), HBW.out⟩
end Tr
section
theorem l_head : LxB Anyw ⟨#[112, 114, 111, 99, 32, 112, 40, 41, 32, 123, 32, 101, 109, 105, 116, 32]⟩ [nm ⟨#[112, 114, 111, 99]⟩, nm ⟨#[112]⟩, mk3 ⟨#[40]⟩, mk3 ⟨#[41]⟩, mk3 ⟨#[123]⟩, nm ⟨#[101, 109, 105, 116]⟩] := (Lx.app (Lx.name [112, 114, 111, 99] (by decide)) (Lx.app (Lx.blank (Q := Anyw) 32 rfl) (Lx.app (Lx.name [112] (by decide)) (Lx.app (Lx.mark 40 (by decide)) (Lx.app (Lx.mark 41 (by decide)) (Lx.app (Lx.blank (Q := Anyw) 32 rfl) (Lx.app (Lx.mark 123 (by decide)) (Lx.app (Lx.blank (Q := Anyw) 32 rfl) (Lx.app (Lx.name [101, 109, 105, 116] (by decide)) (Lx.blank (Q := Anyw) 32 rfl) (fun _ _ => sf_cons (by decide))) (fun _ _ => trivial)) (fun _ _ => trivial)) (fun _ _ => trivial)) (fun _ _ => trivial)) (fun _ _ => trivial)) (fun _ _ => sf_cons (by decide))) (fun _ _ => trivial)) (fun _ _ => sf_cons (by decide)))
theorem l_tail : LxB Anyw ⟨#[59, 32, 125]⟩ [mk3 ⟨#[59]⟩, mk3 ⟨#[125]⟩] := (Lx.app (Lx.mark 59 (by decide)) (Lx.app (Lx.blank (Q := Anyw) 32 rfl) (Lx.mark 125 (by decide)) (fun _ _ => trivial)) (fun _ _ => trivial))
def emitA (x : Ast) : Ast := .mk 3 0 ⟨#[112]⟩ 0 [.mk 4 0 none0 0 [], .mk 6 0 none0 0 [.mk 17 0 none0 0 [x]]]
theorem round_ex (x : Ast) (hw : wfR x) (hk : Tr.isExprK x.kind = true) (hd : nA x ≤ 62) : ∃ a, parseS (Tr.bytesI (⟨#[112, 114, 111, 99, 32, 112, 40, 41, 32, 123, 32, 101, 109, 105, 116, 32]⟩ ++ exT x ++ ⟨#[59, 32, 125]⟩)) = .ok (flat 0 a) ∧ zA a = zA (.mk 1 0 none0 0 [emitA x]) := by
 have hx : Ex x := ex_wf hw hk
 have hp : ∀ z ∈ [emitA x], Pt z := fun z hz => by
  rw [List.mem_singleton] at hz
  subst hz
  exact .proc 0 ⟨#[112]⟩ 0 (Or.inl rfl) 0 [] 0 [.mk 17 0 none0 0 [x]] (fun z hz => by simp at hz) (fun z hz => by
   rw [List.mem_singleton] at hz
   subst hz
   exact .emit 0 x hx)
 have hdp : ∀ z ∈ [emitA x], deepPt z := fun z hz => by
  rw [List.mem_singleton] at hz
  subst hz
  intro y hy
  have h1 : nA (.mk 17 0 none0 0 [x]) = max (ownB x.kind + nA x) 0 := nA_no rfl
  have h3 : nA (.mk 6 0 none0 0 [.mk 17 0 none0 0 [x]]) = max (ownB 17 + nA (.mk 17 0 none0 0 [x])) 0 := nA_no rfl
  have h4 : ownB 17 = 0 := rfl
  have h7 : ownB x.kind = 0 := by
   have h8 := (isExprK_iff x.kind).1 hk
   unfold ownB
   rw [if_neg (by omega)]
  rcases (show y = .mk 4 0 none0 0 [] ∨ y = .mk 6 0 none0 0 [.mk 17 0 none0 0 [x]] by simpa [emitA, Ast.kids] using hy) with rfl | rfl
  · show ownB 4 + nA (.mk 4 0 none0 0 []) ≤ 64
    have : ownB 4 = 0 := rfl; have h9 : nA (.mk 4 0 none0 0 []) = 0 := nA_no rfl
    omega
  · have h5 : ownB (Ast.mk 6 0 none0 0 [.mk 17 0 none0 0 [x]]).kind = 1 := own_block
    omega
 have hl : LxB Anyw (⟨#[112, 114, 111, 99, 32, 112, 40, 41, 32, 123, 32, 101, 109, 105, 116, 32]⟩ ++ exT x ++ ⟨#[59, 32, 125]⟩) ([nm ⟨#[112, 114, 111, 99]⟩, nm ⟨#[112]⟩, mk3 ⟨#[40]⟩, mk3 ⟨#[41]⟩, mk3 ⟨#[123]⟩, nm ⟨#[101, 109, 105, 116]⟩] ++ exK x ++ [mk3 ⟨#[59]⟩, mk3 ⟨#[125]⟩]) := (l_head.more (ex_lx hx hw)).then l_tail ⟨59, [32, 125], rfl, by decide⟩
 have he : [nm ⟨#[112, 114, 111, 99]⟩, nm ⟨#[112]⟩, mk3 ⟨#[40]⟩, mk3 ⟨#[41]⟩, mk3 ⟨#[123]⟩, nm ⟨#[101, 109, 105, 116]⟩] ++ exK x ++ [mk3 ⟨#[59]⟩, mk3 ⟨#[125]⟩] = progA [emitA x] := by simp [progA, partA, emitA, blA, stAL, stA, stK, joinK, Ast.kids]
 rw [he] at hl
 obtain ⟨ts, e1, e2⟩ := hl [] trivial 0
 generalize ⟨#[112, 114, 111, 99, 32, 112, 40, 41, 32, 123, 32, 101, 109, 105, 116, 32]⟩ ++ exT x ++ ⟨#[59, 32, 125]⟩ = S at *
 have e3 := e2 ((Tr.bytesI S).length + 1) (by rw [List.append_nil]; exact Nat.lt_succ_self _)
 rw [List.append_nil] at e3
 have e4 : lexS (Tr.bytesI S) = .ok (ts ++ [Tok.endAt (Tr.bytesI S).length]) := by
  unfold lexS
  rw [e3, Nat.zero_add]
  have : lexN ((Tr.bytesI S).length + 1) (Tr.bytesI S).length [] = .ok [Tok.endAt (Tr.bytesI S).length] := by simp [lexN, blk]
  rw [this]
  rfl
 have e5 : (((ts ++ [Tok.endAt (Tr.bytesI S).length]).map ptOf)).map zP = progA [emitA x] ++ [enT] := by
  rw [List.map_append, List.map_append, e1]
  congr 1
 have h1 := rel_program (ρ := fun _ _ => True) _ _ (tokL_z ((ts ++ [Tok.endAt (Tr.bytesI S).length]).map ptOf))
 rw [e5, prog_read _ hp hdp] at h1
 unfold parseS
 rw [e4]
 dsimp only
 cases h2 : programP ((ts ++ [Tok.endAt (Tr.bytesI S).length]).map ptOf) with
 | err p c => rw [h2] at h1; exact h1.elim
 | ok a l =>
  rw [h2] at h1
  refine ⟨a, rfl, h1.1.z.trans ?_⟩
  simp only [zA, zzL]
end
section
open Tr
mutual
theorem sub_at {t : List Nd} : ∀ (x : Ast) (o : Nat), Lies t o x → wfR x → ∀ q, o ≤ q → q < o + x.size → ∃ y, Lies t q y ∧ wfR y ∧ dA y ≤ dA x ∧ (szs x).getD (q - o) 0 = y.size
 | .mk k a s n ks, o, h, hw, q, h1, h2 => by
  by_cases e : q = o
  · subst e
    refine ⟨_, h, hw, Nat.le_refl _, ?_⟩
    rw [Nat.sub_self]
    simp only [szs, List.getD_cons_zero, Ast.size]
    try omega
  · simp only [Ast.size] at h2
    obtain ⟨y, h3, h4, h5, h6⟩ := sub_atL ks (o + 1) k h.kids hw.2 q (by omega) (by omega)
    refine ⟨y, h3, h4, h5, ?_⟩
    rw [show q - o = (q - (o + 1)) + 1 by omega]
    simp only [szs, List.getD_cons_succ]
    exact h6
theorem sub_atL {t : List Nd} : ∀ (l : List Ast) (o : Nat) (k : Int), LiesL t o l → wfRL l → ∀ q, o ≤ q → q < o + sizeL l → ∃ y, Lies t q y ∧ wfR y ∧ dA y ≤ dAL k l ∧ (szsL l).getD (q - o) 0 = y.size
 | [], o, k, h, hw, q, h1, h2 => by simp only [sizeL] at h2; omega
 | x :: r, o, k, h, hw, q, h1, h2 => by
  have hl := szs_length x
  by_cases e : q < o + x.size
  · obtain ⟨y, h3, h4, h5, h6⟩ := sub_at x o h.head.1 hw.1 q h1 e
    refine ⟨y, h3, h4, by simp only [dAL]; omega, ?_⟩
    rw [← h6]
    simp only [szsL, List.getD]
    rw [List.getElem?_append_left (by omega)]
  · simp only [sizeL] at h2
    obtain ⟨y, h3, h4, h5, h6⟩ := sub_atL r (o + x.size) k h.head.2 hw.2 q (by omega) (by omega)
    refine ⟨y, h3, h4, by simp only [dAL]; omega, ?_⟩
    rw [← h6]
    simp only [szsL, List.getD]
    rw [List.getElem?_append_right (by omega), hl, show q - o - x.size = q - (o + x.size) by omega]
end
theorem sizesP_noAt (t : List Nd) : sizesP (t.map noAt) = sizesP t := by
 unfold sizesP
 rw [rowsOf_noAt]
theorem size_sub {ns : List Nd} {a : Ast} (h : ns.map noAt = (flat 0 a).map noAt) (hr : rightP ns = true) (q : Nat) (hq : q < ns.length) : sizeP ns (q : Int) = (((szs a).getD q 0 : Nat) : Int) := by
 unfold sizeP
 rw [if_pos ⟨by omega, by omega, hr⟩, ← sizesP_noAt, h, sizesP_noAt, sizesP_flat]
 rfl
def coreN (nd : Nd) : Int × ByteArray × Int × Nat := (nd.kind, nd.text, nd.n, nd.kids.length)
mutual
theorem flat_core : ∀ (x : Ast) (o o' : Nat), (flat o x).map coreN = (flat o' x).map coreN
 | .mk k a t n ks, o, o' => by
  simp only [flat, List.map_cons, flatL_core ks (o + 1) (o' + 1)]
  congr 1
  simp only [coreN, heads_length]
theorem flatL_core : ∀ (l : List Ast) (o o' : Nat), (flatL o l).map coreN = (flatL o' l).map coreN
 | [], _, _ => rfl
 | x :: r, o, o' => by simp only [flatL, List.map_append, flat_core x o o', flatL_core r (o + x.size) (o' + x.size)]
end
theorem core_noAt (l : List Nd) : (l.map noAt).map coreN = l.map coreN := by
 rw [List.map_map]
 rfl
theorem core_get (l : List Nd) (i : Nat) : coreN (l.getD i default) = (l.map coreN).getD i (coreN default) := by
 by_cases h : i < l.length
 · simp [List.getD, h]
 · simp only [List.getD, List.getElem?_map, List.getElem?_eq_none (Nat.le_of_not_lt h)]
   rfl
theorem ex_same {ns : List Nd} {q : Nat} {y a : Ast} (h : On ns q y) (hz : zA a = zA (.mk 1 0 none0 0 [emitA y])) (k : Nat) (hk : k < y.size) : coreN (ns.getD (q + k) default) = coreN ((flat 0 a).getD (5 + k) default) := by
 obtain ⟨t, e, pre, post, rfl, rfl⟩ := h
 have hfl := flat_length pre.length y
 rw [core_get, core_get, ← core_noAt ns, ← e, core_noAt, ← core_noAt (flat 0 a), noAt_z hz, core_noAt]
 have e5 : flat 0 (.mk 1 0 none0 0 [emitA y]) = ⟨1, 0, none0, 0, [1]⟩ :: ⟨3, 0, ⟨#[112]⟩, 0, [2, 3]⟩ :: ⟨4, 0, none0, 0, []⟩ :: ⟨6, 0, none0, 0, [4]⟩ :: ⟨17, 0, none0, 0, [5]⟩ :: flat 5 y := by
  simp [emitA, flat, flatL, heads, Ast.size, sizeL]
 rw [e5, List.append_assoc, List.map_append, List.map_append]
 simp only [List.map_cons]
 rw [show 5 + k = k + 1 + 1 + 1 + 1 + 1 by omega]
 simp only [List.getD_cons_succ]
 rw [flat_core y 5 pre.length]
 simp only [List.getD]
 rw [List.getElem?_append_right (by simp), List.length_map, show pre.length + k - pre.length = k by omega, List.getElem?_append_left (by rw [List.length_map, hfl]; exact hk)]
theorem emit_length {y a : Ast} (hz : zA a = zA (.mk 1 0 none0 0 [emitA y])) : (flat 0 a).length = 5 + y.size := by
 rw [flat_length, ← size_z a, hz, size_z]
 simp only [emitA, Ast.size, sizeL]
 omega
end
end Go.Proofs.YthdioipfdbbmmaaGreatDoor
