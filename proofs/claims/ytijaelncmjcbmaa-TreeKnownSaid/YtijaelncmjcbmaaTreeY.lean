import Derived.Test.YtijaelncmjcbmaaTreeX
namespace Go.Proofs.Ytijaelncmjcbmaa
open Go.RowKit
/-- All blocks but g are as they were; none has come. -/
structure But (g : Nat) (W V : World) : Prop where
  below : Below g W V
  block : ∀ b, b ≠ g → V.heap[b]? = W.heap[b]?
theorem But.refl (g : Nat) (W : World) : But g W W := ⟨Below.refl _ _, fun _ _ => rfl⟩
theorem But.cell {g : Nat} {W V : World} (h : But g W V) {p : Addr} (hp : p.block ≠ g) : V.cell? p = W.cell? p := World.cell?_of_block (w := W) (h.block p.block hp)
theorem But.set {g : Nat} {W V : World} (h : But g W V) (i : Nat) (v : Value) : But g W (V.setCell ⟨g, i, none⟩ v) :=
  ⟨h.below.setCell (Nat.le_refl _) v, fun b hb => (Below.heap_setCell V ⟨g, i, none⟩ v b hb).trans (h.block b hb)⟩
theorem But.drewN {g : Nat} {W V : World} (h : But g W V) (n : Nat) : But g W (V.drewN n) := ⟨h.below.trans (drewN_below _ _ _), h.block⟩
theorem deepP_right {ns : List Nd} (h : rightP ns = true) : deepP ns = deepK (ownK ns) (kidsAt ns) ns.length 0 := by unfold deepP; rw [if_pos h]
theorem deepP_not {ns : List Nd} (h : rightP ns = false) : deepP ns = 0 := by unfold deepP; rw [if_neg (by rw [h]; simp)]
set_option maxHeartbeats 16000000 in
set_option maxRecDepth 1000000 in
theorem deep_at (w : World) (p : Option Addr) (len c : Nat) (ns : List Nd) (h : TV w p len c ns) (hS : Small ns) :
    Calls Try.prog 13 #[.agg #[.slice p len c]] w fun e w' => e = .returned (.int .i64 (deepP ns : Nat)) ∧ Below w.heap.size w w' := by
  have hlen := Lib.hid h.len_eq
  have hll : len ≤ 1000 := by rw [← h.len_eq]; exact hS.len
  have H := Lib.hid h
  have HS := Lib.hid hS
  have B0 := Lib.hid (one_below w (.cells #[.slice p len c] 24))
  have HR := Lib.hid (right_at (w.alloc (.cells #[.slice p len c] 24)) p len c ns (h.on B0.out) hS)
  clear h hS
  go_enter Try.func13, Try.ntmps13
  go_wp2_with fail
  (with_reducible refine HR.out.mono ?_)
  rintro e w1 ⟨rfl, hb1⟩
  have B1 := Lib.hid (B0.out.trans (hb1.mono (by simp)))
  have c0 : w1.cell? ⟨w.heap.size, 0, none⟩ = some (.slice p len c) := by rw [hb1.cell (by simp)]; simp
  have C0 := Lib.hid c0
  have hsz : w.heap.size < w1.heap.size := World.block_lt_of_cell? w1 _ c0
  clear hb1 HR
  cases hr : rightP ns with
  | false =>
    have HZ := Lib.hid (deepP_not hr)
    clear hr
    go_wp2
    go_ret
    exact ⟨retI (by rw [HZ.out]; rfl), B1.out⟩
  | true =>
    have HZ := Lib.hid (deepP_right hr)
    obtain ⟨s, hs, _, _⟩ := right_sizes hr
    have HSO := Lib.hid (sizesP_some hs)
    clear hr hs
    obtain ⟨w2, hmk, hb2, hown⟩ := make_int w1 len (by omega)
    have B2 := Lib.hid hb2
    have HO0 := Lib.hid hown
    have C2 : w2.cell? ⟨w.heap.size, 0, none⟩ = some (.slice p len c) := by rw [hb2.cell hsz]; exact c0
    clear hb2 hown
    go_wp2_with fail
    clear hmk C2
    go_loopw [4, 19] (fun mv iv wr => ∃ (i m : Nat) (F : Nat → Nat) (L : List Value), i ≤ len ∧ m ≤ 1001 ∧ mv = .int .i64 m ∧ iv = .int .i64 i ∧ Hid (DI ns i 0 m F) ∧ Hid (wr.ownsRow w1.heap.size 3 1 (.slice (some ⟨w1.heap.size, 0, none⟩) len len) len L) ∧ Hid (∀ j, j < len → L[j]? = some (.int .i64 ((F j : Nat) : Int))) ∧ Hid (Below w1.heap.size w1 wr)) (fun _ iv _ => len - (intOf iv).toNat)
    case atStart => exact ⟨0, 0, fun _ => 0, _, by omega, by omega, rfl, rfl, Lib.hid (DI.start ns), HO0, Lib.hid (fun j hj => by rw [List.getElem?_replicate, if_pos hj]; rfl), B2⟩
    case round =>
      obtain ⟨i, m, F, L, hil, hm, rfl, rfl, HD, HO, HL, HB⟩ := hrel
      have c0 : wr.cell? ⟨w.heap.size, 0, none⟩ = some (.slice p len c) := by rw [HB.out.cell hsz]; exact C0.out
      have HBW := Lib.hid (B1.out.trans (HB.out.mono (by omega)))
      by_cases hlt : i < len
      · obtain ⟨b, off, rfl, hbl, hc⟩ := H.out.node (by omega)
        obtain ⟨kp, kl, kc, hnw⟩ := hc i hlt
        have hn := hnw.on hbl HBW.out
        have k0 := hn.kind
        have k1 := hn.at'
        have k2 := hn.text
        have k3 := hn.n
        have k4 := hn.kids
        have HIV := Lib.hid hnw.iv
        have hkl := hn.iv.len_eq
        have HC := Lib.hid hc
        have hix : i < ns.length := by have := hlen.out; omega
        have hkb := (HS.out.each (ns.getD i default) (by simp [List.getD, hix])).1
        have HKA : Hid (kidsAt ns i = (ns.getD i default).kids) := Lib.hid rfl
        have HKD : Hid (kindAt ns i = (ns.getD i default).kind) := Lib.hid rfl
        generalize ns.getD i default = nd at *
        have hkl2 : kl ≤ 1000 := by omega
        have HKL := Lib.hid hkl
        clear hn hnw hc hkl hkb
        have HN0 := Lib.hid (one_below wr (.cells #[.int .u8 nd.kind, .int .i64 nd.at', .string nd.text, .int .i64 nd.n, .slice kp kl kc] 37))
        have HOA := Lib.hid (HO.out.alloc (.cells #[.int .u8 nd.kind, .int .i64 nd.at', .string nd.text, .int .i64 nd.n, .slice kp kl kc] 37))
        have HBA := Lib.hid (HB.out.trans (HN0.out.mono HB.out.size))
        have hgs : Hid (w1.heap.size < wr.heap.size) := Lib.hid (HO.out.lt _ rfl).2
        go_wp2_with fail
        obtain ⟨wo, rfl⟩ : ∃ wo : World, wo = wr := ⟨_, rfl⟩
        go_loopw [4, 27] (fun mv jv wq => ∃ (j m : Nat) (F : Nat → Nat) (L : List Value), j ≤ kl ∧ m ≤ 1001 ∧ mv = .int .i64 m ∧ jv = .int .i64 j ∧ Hid (DI ns i j m F) ∧ Hid (wq.ownsRow w1.heap.size 3 1 (.slice (some ⟨w1.heap.size, 0, none⟩) len len) len L) ∧ Hid (∀ j, j < len → L[j]? = some (.int .i64 ((F j : Nat) : Int))) ∧ Hid (But w1.heap.size (wo.alloc (.cells #[.int .u8 nd.kind, .int .i64 nd.at', .string nd.text, .int .i64 nd.n, .slice kp kl kc] 37)) wq)) (fun _ jv _ => kl - (intOf jv).toNat)
        case atStart => exact ⟨0, m, F, L, by omega, hm, rfl, rfl, HD, HOA, HL, Lib.hid (But.refl _ _)⟩
        case round =>
          obtain ⟨wq, rfl⟩ : ∃ wq : World, wq = wr := ⟨_, rfl⟩
          clear c0 k0 k1 k2 k3 k4 HD HOA HL HO
          obtain ⟨j, m, F, L, hj, hm, rfl, rfl, HD, HO, HL, HQ⟩ := hrel
          have HBQ := Lib.hid (HBA.out.trans HQ.out.below)
          have HWQ := Lib.hid (B1.out.trans (HBQ.out.mono (by omega)))
          by_cases hjl : j < kl
          · have c0 : wq.cell? ⟨w.heap.size, 0, none⟩ = some (.slice (some ⟨b, off, none⟩) len c) := by rw [HBQ.out.cell hsz]; exact C0.out
            have x0 : wq.cell? ⟨wo.heap.size, 0, none⟩ = some (.int .u8 nd.kind) := by
              rw [HQ.out.cell (by have := hgs.out; simp; omega), World.cell?_alloc_at _ _ _ _ rfl]; rfl
            obtain ⟨kb, koff, rfl, hkbl, hkc⟩ := HIV.out.cell (by omega)
            have hkj := hkc j hjl
            rw [← HWQ.out.cell (p := ⟨kb, koff + j, none⟩) hkbl] at hkj
            have hjx : j < (kidsAt ns i).length := by have := HKL.out; have := HKA.out; simp only [this]; omega
            have hmem : (kidsAt ns i).getD j 0 ∈ kidsAt ns i := by simp [List.getD, hjx]
            obtain ⟨q, hq, _, _, _⟩ := HSO.out.right.kid (by have := hlen.out; omega) hmem
            have hqk : nd.kids.getD j 0 = (q : Int) := by rw [← HKA.out]; exact hq
            rw [hqk] at hkj
            obtain ⟨hiq, hqn, hst⟩ := HD.out.step HSO.out (by have := hlen.out; omega) hjx q hq
            have HST := Lib.hid hst
            have hql : q < len := by have := hlen.out; omega
            obtain ⟨kp2, kl2, kc2, hn2⟩ := HC.out q hql
            have q0 : wq.cell? ⟨b, off + q * 5, none⟩ = some (.int .u8 (kindAt ns q)) := (hn2.on hbl HWQ.out).kind
            have r0 := HO.out.cellAt i (by omega)
            rw [HL.out i hlt] at r0
            have r1 := HO.out.cellAt q (by omega)
            rw [HL.out q hql] at r1
            have f1 := HO.out.frozenAt q
            have HOW := Lib.hid (own_deep ns i q)
            have HFI := Lib.hid (HD.out.le i (by have := hlen.out; omega))
            have hfi : F i ≤ 1000 := by have := HFI.out; omega
            have ISD : ∀ W, Calls Try.prog 28 #[.int .u8 nd.kind, .int .u8 (kindAt ns q)] W fun e w' => e = .returned (.bool (isDeepB nd.kind (kindAt ns q))) ∧ w' = W := fun W => isDeeper_at _ _ W
            rw [HKD.out] at HOW
            have HLL : Hid (L.length = len) := Lib.hid (by have := HO.out.1; omega)
            have ho1 := (HO.out.stored q (.int .i64 ((F i : Nat) : Int))).1
            generalize hfx : F i = fi at *
            generalize kindAt ns q = kq at *
            generalize isDeepB nd.kind kq = dp at *
            have HISD := Lib.hid ISD
            clear hkc hkbl hjx hmem hqk hst hn2 ISD hq
            have hiqI : (i : Int) < (len : Int) := by omega
            have hqlI : (q : Int) < (len : Int) := by omega
            have c0' : (wq.setCell ⟨w1.heap.size, q, none⟩ (.int .i64 (fi : Int))).cell? ⟨w.heap.size, 0, none⟩ = some (.slice (some ⟨b, off, none⟩) len c) := by
              rw [((But.refl w1.heap.size wq).set q _).cell (by simp; omega)]; exact c0
            have x0' : (wq.setCell ⟨w1.heap.size, q, none⟩ (.int .i64 (fi : Int))).cell? ⟨wo.heap.size, 0, none⟩ = some (.int .u8 nd.kind) := by
              rw [((But.refl w1.heap.size wq).set q _).cell (by have := hgs.out; simp; omega)]; exact x0
            have q0' : (wq.setCell ⟨w1.heap.size, q, none⟩ (.int .i64 (fi : Int))).cell? ⟨b, off + q * 5, none⟩ = some (.int .u8 kq) := by
              rw [((But.refl w1.heap.size wq).set q _).cell (by simp; omega)]; exact q0
            have r1' := ho1.cellAt q (by omega)
            rw [List.getElem?_set_self (by have := HLL.out; omega)] at r1'
            have f1' := ho1.frozenAt q
            have HO1 := Lib.hid ho1
            have HO2 := Lib.hid (ho1.stored q (.int .i64 ((fi : Int) + 1))).1
            have HQ1 := Lib.hid (HQ.out.set q (.int .i64 (fi : Int)))
            clear ho1
            have hwf : IntKind.i64.wrap ((fi : Int) + 1) = (fi : Int) + 1 := IntWalk.i64_in _ (by omega)
            go_wp2_with fail
            clear c0 x0 q0 r0 r1 f1
            generalize wq.setCell ⟨w1.heap.size, q, none⟩ (.int .i64 (fi : Int)) = W1 at *
            have HL1 : Hid (∀ j, j < len → (L.set q (.int .i64 (fi : Int)))[j]? = some (.int .i64 (((if j = q then fi else F j) : Nat) : Int))) := Lib.hid (fun j hj => by
              by_cases e : j = q
              · rw [e, List.getElem?_set_self (by have := HLL.out; omega), if_pos rfl]
              · rw [List.getElem?_set_ne (fun h => e h.symm), if_neg e]; exact HL.out j hj)
            go_quiet (first | (go_at_call 28; refine Calls.quiet_of_same (HISD.out _)))
            have HOD : Hid ((W1.drewN nq).ownsRow w1.heap.size 3 1 (.slice (some ⟨w1.heap.size, 0, none⟩) len len) len (L.set q (.int .i64 (fi : Int)))) := Lib.hid HO1.out
            have HQD := Lib.hid (HQ1.out.drewN nq)
            cases dp with
            | true =>
              have HST1 : Hid (DI ns i (j + 1) (max m (fi + 1)) (fun x => if x = q then fi + 1 else F x)) := Lib.hid (by have := HST.out; rw [HOW.out] at this; exact this)
              have HL2 : Hid (∀ j, j < len → ((L.set q (.int .i64 (fi : Int))).set q (.int .i64 ((fi : Int) + 1)))[j]? = some (.int .i64 (((if j = q then fi + 1 else F j) : Nat) : Int))) := Lib.hid (fun j hj => by
                by_cases e : j = q
                · rw [e, List.getElem?_set_self (by have := HLL.out; simp; omega), if_pos rfl]; rfl
                · rw [List.getElem?_set_ne (fun h => e h.symm), if_neg e, HL1.out j hj, if_neg e])
              have HOE : Hid (((W1.drewN nq).setCell ⟨w1.heap.size, q, none⟩ (.int .i64 ((fi : Int) + 1))).ownsRow w1.heap.size 3 1 (.slice (some ⟨w1.heap.size, 0, none⟩) len len) len ((L.set q (.int .i64 (fi : Int))).set q (.int .i64 ((fi : Int) + 1)))) := Lib.hid (HOD.out.stored q (.int .i64 ((fi : Int) + 1))).1
              have HQE := Lib.hid (HQD.out.set q (.int .i64 ((fi : Int) + 1)))
              go_wp2_with fail
              go_roundw
              case rel => exact ⟨j + 1, max m (fi + 1), _, _, by omega, by omega, by go_num, by go_num, HST1, HOE, HL2, HQE⟩
              case measure => simp [intOf]; omega
            | false =>
              have HST1 : Hid (DI ns i (j + 1) (max m fi) (fun x => if x = q then fi else F x)) := Lib.hid (by have := HST.out; rw [HOW.out] at this; exact this)
              go_wp2_with fail
              go_roundw
              case rel => exact ⟨j + 1, max m fi, _, _, by omega, by omega, by go_num, by go_num, HST1, HOD, HL1, HQD⟩
              case measure => simp [intOf]; omega
          · have HT := Lib.hid (HD.out.turn (by have := HKL.out; have := HKA.out; simp only [this]; omega))
            clear HD
            go_wp2_with fail
            go_roundw
            case rel => exact ⟨i + 1, m, F, L, by omega, hm, rfl, by go_num, HT, HO, HL, HBQ⟩
            case measure => simp [intOf]; omega
      · have e : i = len := by omega
        have HE : Hid (m = deepP ns) := Lib.hid (by
          have := HD.out
          rw [e, ← hlen.out] at this
          rw [HZ.out]
          exact this.done HSO.out)
        clear e
        go_wp2
        go_ret
        exact ⟨retI (by rw [HE.out]), HBW.out⟩
end Go.Proofs.Ytijaelncmjcbmaa
