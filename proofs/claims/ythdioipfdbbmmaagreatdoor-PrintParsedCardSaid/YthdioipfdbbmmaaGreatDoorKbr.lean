/- Contracts on the way to the laws of layer 5: PrintRg, PrintDp, TreeY, ParseLz, PrintPo. -/
import Derived.Test.YthdioipfdbbmmaaGreatDoorKaa
import Derived.Test.YthdioipfdbbmmaaGreatDoorKan
import Derived.Test.YthdioipfdbbmmaaGreatDoorKao
import Derived.Test.YthdioipfdbbmmaaGreatDoorKax
import Derived.Test.YthdioipfdbbmmaaGreatDoorKbh
import Derived.Test.YthdioipfdbbmmaaGreatDoorKbl
import Derived.Test.YthdioipfdbbmmaaGreatDoorKbn
import Derived.Test.YthdioipfdbbmmaaGreatDoorKbo
import Derived.Test.YthdioipfdbbmmaaGreatDoorKbp
import Derived.Deep.RegionHeld3
set_option linter.all false
set_option maxRecDepth 1000000
set_option maxHeartbeats 16000000
namespace Go.Proofs.YthdioipfdbbmmaaGreatDoor
section
open Par Tr
mutual
theorem size_z : ∀ x : Ast, (zA x).size = x.size
 | .mk k a t n ks => by simp only [zA, Ast.size, sizeL_z ks]
theorem sizeL_z : ∀ l : List Ast, sizeL (zL l) = sizeL l
 | [] => rfl
 | x :: r => by simp only [zL, sizeL, size_z x, sizeL_z r]
end
theorem heads_z : ∀ (l : List Ast) (o : Nat), heads o (zL l) = heads o l
 | [], _ => rfl
 | x :: r, o => by simp only [zL, heads, size_z x, heads_z r]
mutual
theorem flat_z : ∀ (x : Ast) (o : Nat), (flat o x).map noAt = flat o (zA x)
 | .mk k a t n ks, o => by
  simp only [zA, flat, List.map_cons, flatL_z ks, heads_z]
  rfl
theorem flatL_z : ∀ (l : List Ast) (o : Nat), (flatL o l).map noAt = flatL o (zL l)
 | [], _ => rfl
 | x :: r, o => by simp only [zL, flatL, List.map_append, flat_z x, flatL_z r, size_z x]
end
mutual
theorem zz : ∀ x : Ast, zA (zA x) = zA x
 | .mk k a t n ks => by simp only [zA, zzL ks]
theorem zzL : ∀ l : List Ast, zL (zL l) = zL l
 | [] => rfl
 | x :: r => by simp only [zL, zz x, zzL r]
end
theorem AstR.z {ρ : Nat → Nat → Prop} {x y : Ast} (h : AstR ρ x y) : zA x = zA y := by
 induction h with
 | @mk k a a' t n ks ks' _ hl hk ih =>
  simp only [zA]
  congr 1
  rw [zL_map, zL_map]
  refine List.ext_getElem? fun i => ?_
  rw [List.getElem?_map, List.getElem?_map]
  cases h1 : ks[i]? with
  | none =>
   have h2 : ks'[i]? = none := by
    rw [List.getElem?_eq_none_iff] at h1 ⊢
    omega
   rw [h2]
  | some u =>
   cases h2 : ks'[i]? with
   | none =>
    rw [List.getElem?_eq_none_iff] at h2
    have := (List.getElem?_eq_some_iff.1 h1).1
    omega
   | some v => simp only [Option.map_some, ih i u v h1 h2]
theorem tokL_z : ∀ l : List PT, TokL (fun _ _ => True) l (l.map zP)
 | [] => .nil
 | t :: r => .cons ⟨rfl, rfl, rfl, trivial⟩ (tokL_z r)
theorem round {a0 : Nat} {ks : List Ast} (hw : wfR (.mk 1 a0 none0 0 ks)) (hd : ∀ z ∈ ks, deepPt z) : ∃ a, parseS (Tr.bytesI (progL ks)) = .ok (flat 0 a) ∧ zA a = zA (.mk 1 a0 none0 0 ks) := by
 have hk : (ks.map Ast.kind).all (fun k => k == 2 || k == 3) = true := by simpa [kidsR] using hw.parts.2.2.2
 have hp : ∀ z ∈ ks, Pt z := fun z hz => pt_of (wfRL_mem hw.2 z hz) (by
  have := (List.all_eq_true.1 hk) _ (List.mem_map_of_mem hz)
  simpa using this)
 obtain ⟨ts, e1, e2⟩ := lex_printed ks hp hw.2
 have h1 := rel_program (ρ := fun _ _ => True) (ts.map ptOf) ((ts.map ptOf).map zP) (tokL_z _)
 rw [e2, prog_read ks hp hd] at h1
 unfold parseS
 rw [e1]
 dsimp only
 cases h2 : programP (ts.map ptOf) with
 | err p c => rw [h2] at h1; exact h1.elim
 | ok a l =>
  rw [h2] at h1
  refine ⟨a, rfl, h1.1.z.trans ?_⟩
  simp only [zA, zzL]
theorem noAt_z {a b : Ast} (h : zA a = zA b) : (flat 0 a).map noAt = (flat 0 b).map noAt := by rw [flat_z, flat_z, h]
end
section
open Tr
theorem kidsAt_noAt (t : List Nd) (i : Nat) : kidsAt (t.map noAt) i = kidsAt t i := by
 show ((t.map noAt).getD i default).kids = (t.getD i default).kids
 rw [noAt_get]; rfl
theorem deepK_noAt (t : List Nd) : ∀ f i, deepK (ownK (t.map noAt)) (kidsAt (t.map noAt)) f i = deepK (ownK t) (kidsAt t) f i := by
 have h1 : ownK (t.map noAt) = ownK t := by
  funext i j
  unfold ownK
  rw [kindAt_noAt, kindAt_noAt]
 have h2 : kidsAt (t.map noAt) = kidsAt t := funext (kidsAt_noAt t)
 intro f i
 rw [h1, h2]
mutual
theorem deepK_lies {t : List Nd} : ∀ (x : Ast) (o f : Nat), Lies t o x → x.size ≤ f → deepK (ownK t) (kidsAt t) f o = dA x
 | .mk k a s n ks, o, f, h, hf => by
  simp only [Ast.size] at hf
  obtain ⟨f, rfl⟩ : ∃ q, f = q + 1 := ⟨f - 1, by omega⟩
  have h1 : kidsAt t o = heads (o + 1) ks := by
   show (t.getD o default).kids = _
   rw [h.node.1]
  rw [deepK, h1]
  exact deepK_liesL ks (o + 1) f o k h.kids (by omega) h.kindAt
theorem deepK_liesL {t : List Nd} : ∀ (l : List Ast) (o f i : Nat) (k : Int), LiesL t o l → sizeL l ≤ f → Tr.kindAt t i = k → maxL (fun j => ownK t i j.toNat + deepK (ownK t) (kidsAt t) f j.toNat) (heads o l) = dAL k l
 | [], o, f, i, k, _, _, _ => rfl
 | x :: r, o, f, i, k, h, hf, hk => by
  simp only [sizeL] at hf
  rw [heads, maxL_cons, deepK_liesL r (o + x.size) f i k h.head.2 (by omega) hk]
  show max (ownK t i ((o : Nat) : Int).toNat + deepK (ownK t) (kidsAt t) f ((o : Nat) : Int).toNat) _ = _
  rw [Int.toNat_natCast, deepK_lies x o f h.head.1 (by omega)]
  have : ownK t i o = ownA k x.kind := by
   unfold ownK ownA
   rw [hk, h.head.1.kindAt]
  rw [this]
  rfl
end
theorem deep_tree {ns : List Nd} {a : Ast} (h : On ns 0 a) (hs : a.size = ns.length) (hr : rightP ns = true) : deepP ns = dA a := by
 obtain ⟨t, e, hl⟩ := h
 unfold deepP
 rw [if_pos hr, ← deepK_noAt ns, ← e, deepK_noAt t]
 exact deepK_lies a 0 _ hl (by omega)
theorem deep_parts {a0 : Nat} {s : ByteArray} {n : Int} {ks : List Ast} (hw : wfR (.mk 1 a0 s n ks)) (hd : dA (.mk 1 a0 s n ks) ≤ 64) : ∀ z ∈ ks, ∀ y ∈ z.kids, ownB y.kind + nA y ≤ 64 := by
 intro z hz y hy
 have h1 := dAL_mem (k := 1) hz
 have h2 : dA (.mk 1 a0 s n ks) = dAL 1 ks := rfl
 have hwz := wfRL_mem hw.2 z hz
 cases z with
 | mk k a s n l =>
  have h3 := dAL_mem (k := k) (l := l) hy
  have h4 : dA (.mk k a s n l) = dAL k l := rfl
  have h5 := nA_le y.size y (Nat.le_refl _) (wfRL_mem hwz.2 y hy)
  have h6 := ownB_le k y.kind
  omega
end
namespace Tr
open Go.RowKit
structure But (g : Nat) (W V : World) : Prop where
 below : Below g W V
 block : ∀ b, b ≠ g → V.heap[b]? = W.heap[b]?
theorem But.refl (g : Nat) (W : World) : But g W W := ⟨Below.refl _ _, fun _ _ => rfl⟩
theorem But.cell {g : Nat} {W V : World} (h : But g W V) {p : Addr} (hp : p.block ≠ g) : V.cell? p = W.cell? p := World.cell?_of_block (w := W) (h.block p.block hp)
theorem But.set {g : Nat} {W V : World} (h : But g W V) (i : Nat) (v : Value) : But g W (V.setCell ⟨g, i, none⟩ v) :=
 ⟨h.below.setCell (Nat.le_refl _) v, fun b hb => (Below.heap_setCell V ⟨g, i, none⟩ v b hb).trans (h.block b hb)⟩
theorem But.drewN {g : Nat} {W V : World} (h : But g W V) (n : Nat) : But g W (V.drewN n) := ⟨h.below.trans (drewN_below _ _ _), h.block⟩
theorem deepP_right {ns : List Nd} (h : rightP ns = true) : deepP ns = deepK (ownK ns) (kidsAt ns) ns.length 0 := by unfold deepP; rw [if_pos h]
theorem deepP_not {ns : List Nd} (h : rightP ns = false) : deepP ns = 0 := by unfold deepP; rw [if_neg (by rw [h]; simp)]
theorem deep_at (w : World) (p : Option Addr) (len c : Nat) (ns : List Nd) (h : TV w p len c ns) (hS : SmallT ns) :
 Calls Tryz.prog 30 #[.agg #[.slice p len c]] w fun e w' => e = .returned (.int .i64 (deepP ns : Nat)) ∧ Below w.heap.size w w' := by
 have hlen := lh h.len_eq
 have hll : len ≤ 70000 := by rw [← h.len_eq]; exact hS.len
 have H := lh h
 have HS := lh hS
 have B0 := lh (one_below w (.cells #[.slice p len c] 39))
 have HR := lh (right_at (w.alloc (.cells #[.slice p len c] 39)) p len c ns (h.on B0.out) hS)
 clear h hS
 go_enter Tryz.func30, Tryz.ntmps30
 go_wp2_with fail
 (with_reducible refine HR.out.mono ?_)
 rintro e w1 ⟨rfl, hb1⟩
 have B1 := lh (B0.out.trans (hb1.mono (by simp)))
 have c0 : w1.cell? ⟨w.heap.size, 0, none⟩ = some (.slice p len c) := by rw [hb1.cell (by simp)]; simp
 have C0 := lh c0
 have hsz : w.heap.size < w1.heap.size := World.block_lt_of_cell? w1 _ c0
 clear hb1 HR
 cases hr : rightP ns with
 | false =>
  have HZ := lh (deepP_not hr)
  clear hr
  go_wp2
  go_ret
  exact ⟨retI (by rw [HZ.out]; rfl), B1.out⟩
 | true =>
  have HZ := lh (deepP_right hr)
  obtain ⟨s, hs, _, _⟩ := right_sizes hr
  have HSO := lh (sizesP_some hs)
  clear hr hs
  obtain ⟨w2, hmk, hb2, hown⟩ := make_int w1 len (by omega)
  have B2 := lh hb2
  have HO0 := lh hown
  have C2 : w2.cell? ⟨w.heap.size, 0, none⟩ = some (.slice p len c) := by rw [hb2.cell hsz]; exact c0
  clear hb2 hown
  go_wp2_with fail
  clear hmk C2
  go_loopw [4, 19] (fun mv iv wr => ∃ (i m : Nat) (F : Nat → Nat) (L : List Value), i ≤ len ∧ m ≤ 70001 ∧ mv = .int .i64 m ∧ iv = .int .i64 i ∧ Hid (DI ns i 0 m F) ∧ Hid (wr.ownsRow w1.heap.size 3 1 (.slice (some ⟨w1.heap.size, 0, none⟩) len len) len L) ∧ Hid (∀ j, j < len → L[j]? = some (.int .i64 ((F j : Nat) : Int))) ∧ Hid (Below w1.heap.size w1 wr)) (fun _ iv _ => len - (intOf iv).toNat)
  case atStart => exact ⟨0, 0, fun _ => 0, _, by omega, by omega, rfl, rfl, lh (DI.start ns), HO0, lh (fun j hj => by rw [List.getElem?_replicate, if_pos hj]; rfl), B2⟩
  case round =>
   obtain ⟨i, m, F, L, hil, hm, rfl, rfl, HD, HO, HL, HB⟩ := hrel
   have c0 : wr.cell? ⟨w.heap.size, 0, none⟩ = some (.slice p len c) := by rw [HB.out.cell hsz]; exact C0.out
   have HBW := lh (B1.out.trans (HB.out.mono (by omega)))
   by_cases hlt : i < len
   · obtain ⟨b, off, rfl, hbl, hc⟩ := H.out.node (by omega)
     obtain ⟨kp, kl, kc, hnw⟩ := hc i hlt
     have hn := hnw.on hbl HBW.out
     have k0 := hn.kind
     have k1 := hn.at'
     have k2 := hn.text
     have k3 := hn.n
     have k4 := hn.kids
     have HIV := lh hnw.iv
     have hkl := hn.iv.len_eq
     have HC := lh hc
     have hix : i < ns.length := by have := hlen.out; omega
     have hkb := (HS.out.each (ns.getD i default) (by simp [List.getD, hix])).1
     have HKA : Hid (kidsAt ns i = (ns.getD i default).kids) := lh rfl
     have HKD : Hid (kindAt ns i = (ns.getD i default).kind) := lh rfl
     generalize ns.getD i default = nd at *
     have hkl2 : kl ≤ 70000 := by omega
     have HKL := lh hkl
     clear hn hnw hc hkl hkb
     have HN0 := lh (one_below wr (.cells #[.int .u8 nd.kind, .int .i64 nd.at', .string nd.text, .int .i64 nd.n, .slice kp kl kc] 54))
     have HOA := lh (HO.out.alloc (.cells #[.int .u8 nd.kind, .int .i64 nd.at', .string nd.text, .int .i64 nd.n, .slice kp kl kc] 54))
     have HBA := lh (HB.out.trans (HN0.out.mono HB.out.size))
     have hgs : Hid (w1.heap.size < wr.heap.size) := lh (HO.out.lt _ rfl).2
     go_wp2_with fail
     obtain ⟨wo, rfl⟩ : ∃ wo : World, wo = wr := ⟨_, rfl⟩
     go_loopw [4, 27] (fun mv jv wq => ∃ (j m : Nat) (F : Nat → Nat) (L : List Value), j ≤ kl ∧ m ≤ 70001 ∧ mv = .int .i64 m ∧ jv = .int .i64 j ∧ Hid (DI ns i j m F) ∧ Hid (wq.ownsRow w1.heap.size 3 1 (.slice (some ⟨w1.heap.size, 0, none⟩) len len) len L) ∧ Hid (∀ j, j < len → L[j]? = some (.int .i64 ((F j : Nat) : Int))) ∧ Hid (But w1.heap.size (wo.alloc (.cells #[.int .u8 nd.kind, .int .i64 nd.at', .string nd.text, .int .i64 nd.n, .slice kp kl kc] 54)) wq)) (fun _ jv _ => kl - (intOf jv).toNat)
     case atStart => exact ⟨0, m, F, L, by omega, hm, rfl, rfl, HD, HOA, HL, lh (But.refl _ _)⟩
     case round =>
      obtain ⟨wq, rfl⟩ : ∃ wq : World, wq = wr := ⟨_, rfl⟩
      clear c0 k0 k1 k2 k3 k4 HD HOA HL HO
      obtain ⟨j, m, F, L, hj, hm, rfl, rfl, HD, HO, HL, HQ⟩ := hrel
      have HBQ := lh (HBA.out.trans HQ.out.below)
      have HWQ := lh (B1.out.trans (HBQ.out.mono (by omega)))
      by_cases hjl : j < kl
      · have c0 : wq.cell? ⟨w.heap.size, 0, none⟩ = some (.slice (some ⟨b, off, none⟩) len c) := by rw [HBQ.out.cell hsz]; exact C0.out
        have x0 : wq.cell? ⟨wo.heap.size, 0, none⟩ = some (.int .u8 nd.kind) := by
         rw [HQ.out.cell (by have := hgs.out; simp; omega), World.cell?_alloc_at _ _ _ _ rfl]; rfl
        obtain ⟨kb, koff, rfl, hkbl, hkc⟩ := HIV.out.cell (by omega)
        have hkj := hkc j hjl
        rw [← HWQ.out.cell (p := ⟨kb, koff + j, none⟩) hkbl] at hkj
        have hjx : j < (kidsAt ns i).length := by have := HKL.out; have := HKA.out; simp only [this]; omega
        have hmem : (kidsAt ns i).getD j 0 ∈ kidsAt ns i := by simp [List.getD, hjx]
        obtain ⟨q, hq, _, _, _⟩ := HSO.out.right.kid (by have := hlen.out; omega) hmem
        have hqk : nd.kids.getD j 0 = (q : Int) := by rw [← HKA.out]; exact hq
        rw [hqk] at hkj
        obtain ⟨hiq, hqn, hst⟩ := HD.out.step HSO.out (by have := hlen.out; omega) hjx q hq
        have HST := lh hst
        have hql : q < len := by have := hlen.out; omega
        obtain ⟨kp2, kl2, kc2, hn2⟩ := HC.out q hql
        have q0 : wq.cell? ⟨b, off + q * 5, none⟩ = some (.int .u8 (kindAt ns q)) := (hn2.on hbl HWQ.out).kind
        have r0 := HO.out.cellAt i (by omega)
        rw [HL.out i hlt] at r0
        have r1 := HO.out.cellAt q (by omega)
        rw [HL.out q hql] at r1
        have f1 := HO.out.frozenAt q
        have HOW := lh (own_deep ns i q)
        have HFI := lh (HD.out.le i (by have := hlen.out; omega))
        have hfi : F i ≤ 70000 := by have := HFI.out; omega
        have ISD : ∀ W, Calls Tryz.prog 70 #[.int .u8 nd.kind, .int .u8 (kindAt ns q)] W fun e w' => e = .returned (.bool (isDeepB nd.kind (kindAt ns q))) ∧ w' = W := fun W => isDeeper_at _ _ W
        rw [HKD.out] at HOW
        have HLL : Hid (L.length = len) := lh (by have := HO.out.1; omega)
        have ho1 := (HO.out.stored q (.int .i64 ((F i : Nat) : Int))).1
        generalize hfx : F i = fi at *
        generalize kindAt ns q = kq at *
        generalize isDeepB nd.kind kq = dp at *
        have HISD := lh ISD
        clear hkc hkbl hjx hmem hqk hst hn2 ISD hq
        have hiqI : (i : Int) < (len : Int) := by omega
        have hqlI : (q : Int) < (len : Int) := by omega
        have c0' : (wq.setCell ⟨w1.heap.size, q, none⟩ (.int .i64 (fi : Int))).cell? ⟨w.heap.size, 0, none⟩ = some (.slice (some ⟨b, off, none⟩) len c) := by
         rw [((But.refl w1.heap.size wq).set q _).cell (by simp; omega)]; exact c0
        have x0' : (wq.setCell ⟨w1.heap.size, q, none⟩ (.int .i64 (fi : Int))).cell? ⟨wo.heap.size, 0, none⟩ = some (.int .u8 nd.kind) := by
         rw [((But.refl w1.heap.size wq).set q _).cell (by have := hgs.out; simp; omega)]; exact x0
        have q0' : (wq.setCell ⟨w1.heap.size, q, none⟩ (.int .i64 (fi : Int))).cell? ⟨b, off + q * 5, none⟩ = some (.int .u8 kq) := by
         rw [((But.refl w1.heap.size wq).set q _).cell (by simp; omega)]; exact q0
        have r1' := ho1.cellAt q (by omega)
        rw [List.getElem?_set_self (by have := HLL.out; omega)] at r1'
        have f1' := ho1.frozenAt q
        have HO1 := lh ho1
        have HO2 := lh (ho1.stored q (.int .i64 ((fi : Int) + 1))).1
        have HQ1 := lh (HQ.out.set q (.int .i64 (fi : Int)))
        clear ho1
        have hwf : IntKind.i64.wrap ((fi : Int) + 1) = (fi : Int) + 1 := IntWalk.i64_in _ (by omega)
        go_wp2_with fail
        clear c0 x0 q0 r0 r1 f1
        generalize wq.setCell ⟨w1.heap.size, q, none⟩ (.int .i64 (fi : Int)) = W1 at *
        have HL1 : Hid (∀ j, j < len → (L.set q (.int .i64 (fi : Int)))[j]? = some (.int .i64 (((if j = q then fi else F j) : Nat) : Int))) := lh (fun j hj => by
         by_cases e : j = q
         · rw [e, List.getElem?_set_self (by have := HLL.out; omega), if_pos rfl]
         · rw [List.getElem?_set_ne (fun h => e h.symm), if_neg e]; exact HL.out j hj)
        go_quiet (first | (go_at_call 70; refine Calls.quiet_of_same (HISD.out _)))
        have HOD : Hid ((W1.drewN nq).ownsRow w1.heap.size 3 1 (.slice (some ⟨w1.heap.size, 0, none⟩) len len) len (L.set q (.int .i64 (fi : Int)))) := lh HO1.out
        have HQD := lh (HQ1.out.drewN nq)
        cases dp with
        | true =>
         have HST1 : Hid (DI ns i (j + 1) (max m (fi + 1)) (fun x => if x = q then fi + 1 else F x)) := lh (by have := HST.out; rw [HOW.out] at this; exact this)
         have HL2 : Hid (∀ j, j < len → ((L.set q (.int .i64 (fi : Int))).set q (.int .i64 ((fi : Int) + 1)))[j]? = some (.int .i64 (((if j = q then fi + 1 else F j) : Nat) : Int))) := lh (fun j hj => by
          by_cases e : j = q
          · rw [e, List.getElem?_set_self (by have := HLL.out; simp; omega), if_pos rfl]; rfl
          · rw [List.getElem?_set_ne (fun h => e h.symm), if_neg e, HL1.out j hj, if_neg e])
         have HOE : Hid (((W1.drewN nq).setCell ⟨w1.heap.size, q, none⟩ (.int .i64 ((fi : Int) + 1))).ownsRow w1.heap.size 3 1 (.slice (some ⟨w1.heap.size, 0, none⟩) len len) len ((L.set q (.int .i64 (fi : Int))).set q (.int .i64 ((fi : Int) + 1)))) := lh (HOD.out.stored q (.int .i64 ((fi : Int) + 1))).1
         have HQE := lh (HQD.out.set q (.int .i64 ((fi : Int) + 1)))
         go_wp2_with fail
         go_roundw
         case rel => exact ⟨j + 1, max m (fi + 1), _, _, by omega, by omega, by go_num, by go_num, HST1, HOE, HL2, HQE⟩
         case measure => simp [intOf]; omega
        | false =>
         have HST1 : Hid (DI ns i (j + 1) (max m fi) (fun x => if x = q then fi else F x)) := lh (by have := HST.out; rw [HOW.out] at this; exact this)
         go_wp2_with fail
         go_roundw
         case rel => exact ⟨j + 1, max m fi, _, _, by omega, by omega, by go_num, by go_num, HST1, HOD, HL1, HQD⟩
         case measure => simp [intOf]; omega
      · have HT := lh (HD.out.turn (by have := HKL.out; have := HKA.out; simp only [this]; omega))
        clear HD
        go_wp2_with fail
        go_roundw
        case rel => exact ⟨i + 1, m, F, L, by omega, hm, rfl, by go_num, HT, HO, HL, HBQ⟩
        case measure => simp [intOf]; omega
   · have e : i = len := by omega
     have HE : Hid (m = deepP ns) := lh (by
      have := HD.out
      rw [e, ← hlen.out] at this
      rw [HZ.out]
      exact this.done HSO.out)
     clear e
     go_wp2
     go_ret
     exact ⟨retI (by rw [HE.out]), HBW.out⟩
end Tr
section
open Go.RowKit
theorem sameBytes_at (w : World) (p p2 : Option Addr) (n c c2 : Nat) (xs : List Int) (h1 : Src w p n c xs) (h2 : Src w p2 n c2 xs) :
 Calls Tryz.prog 33 #[.slice p n c, .slice p2 n c2] w fun e w' => e = .returned (.bool true) ∧ w = w' := by
 have e1 := src_conv h1
 have e2 := src_conv h2
 generalize strOfNums xs = s at *
 clear h1 h2
 go_enter Tryz.func33, Tryz.ntmps33
 go_wp2
 go_ret
 exact ⟨rfl, rfl⟩
end
section
open Go.RowKit Tr Go.Shelf
theorem src_row {W : World} {base : Nat} {v : Value} {S : ByteArray} (h : W.ownsRow base 5 1 v S.size (Lib.strCells S)) : ∃ p c, v = .slice p S.size c ∧ Src W p S.size c (Tr.bytesI S) := by
 have hlen : (Tr.bytesI S).length = S.size := Tr.bytesI_length S
 have hb := Tr.bytesI_byte S
 rcases h.2 with ⟨rfl, h2⟩ | ⟨g, cap, cur, rfl, hbg, hgl, hcl, hrow⟩
 · rw [h2]
   exact ⟨none, 0, rfl, by omega, hb, Or.inl ⟨rfl, rfl⟩⟩
 · refine ⟨_, _, rfl, hlen, hb, Or.inr ⟨g, 0, rfl, by omega, (h.lt g rfl).2, fun i hi => ?_⟩⟩
   rw [Nat.zero_add, h.cellAt i (by omega)]
   have hi' : i < S.data.size := hi
   simp [Lib.strCells, Tr.bytesI, List.getD]
   rw [Array.getElem?_eq_getElem hi']
   exact ⟨_, rfl, rfl⟩
theorem same_noAt {ns ms : List Nd} (h : ns.map noAt = ms.map noAt) : sameP ns ms = true := by
 have hl := noAt_len h
 unfold sameP
 simp only [Bool.and_eq_true, decide_eq_true_eq, List.all_eq_true]
 refine ⟨hl, fun i _ => ?_⟩
 have h1 := noAt_at h i
 generalize ns.getD i default = a at *
 generalize ms.getD i default = b at *
 cases a with
 | mk k1 a1 t1 n1 l1 =>
 cases b with
 | mk k2 a2 t2 n2 l2 =>
 simp only [noAt, Tr.Nd.mk.injEq] at h1
 obtain ⟨rfl, _, rfl, rfl, rfl⟩ := h1
 unfold sameNd
 simp
theorem on_again {ns : List Nd} {a : Ast} {b : Ast} (h : ns.map noAt = (flat 0 b).map noAt) (hz : zA b = zA a) : On ns 0 a := ⟨flat 0 a, by rw [h]; exact (noAt_z hz).symm, Lies.whole a⟩
end
end Go.Proofs.YthdioipfdbbmmaaGreatDoor
