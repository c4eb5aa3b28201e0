import Derived.Test.YtijaelncmjcbmaaTreeKa
import Derived.Test.YtijaelncmjcbmaaTreeX
namespace Go.Proofs.Ytijaelncmjcbmaa
open Go.RowKit
theorem drewN_add (w : World) (a b : Nat) : (w.drewN a).drewN b = w.drewN (a + b) := by simp [World.drewN, Nat.add_assoc]
theorem drewN_zero (w : World) : w.drewN 0 = w := rfl
theorem deep_small {ns : List Nd} {s : List Nat} (hs : SizesOk ns s) : ∀ f i, i < ns.length → deepK (ownK ns) (kidsAt ns) f i + i ≤ ns.length + 1 := by
  intro f
  induction f with
  | zero => intro i hi; simp [deepK]; omega
  | succ f ih =>
    intro i hi
    simp only [deepK]
    have key : ∀ ks : List Int, (∀ k ∈ ks, k ∈ kidsAt ns i) → maxL (fun k => ownK ns i k.toNat + deepK (ownK ns) (kidsAt ns) f k.toNat) ks + i ≤ ns.length + 1 := by
      intro ks
      induction ks with
      | nil => intro _; simp [maxL]; omega
      | cons k ks ihk =>
        intro hm
        rw [maxL_cons]
        obtain ⟨j, e1, e2, _, e4⟩ := hs.right.kid hi (hm k (by simp))
        have h1 := ih j e4
        have h2 := ihk (fun k hk => hm k (by simp [hk]))
        have h3 : ownK ns i j ≤ 1 := by unfold ownK; split <;> omega
        rw [e1, Int.toNat_natCast]
        omega
    exact key _ (fun _ h => h)
set_option maxHeartbeats 16000000 in
set_option maxRecDepth 1000000 in
theorem refDeepN_at (p : Option Addr) (len c : Nat) (ns : List Nd) (s : List Nat) (hs : SizesOk ns s) (hl : len ≤ 1000) (hk : ∀ nd ∈ ns, nd.kids.length ≤ 1000) : ∀ (f i : Nat) (under : Int) (w : World), TV w p len c ns → i < len → len ≤ i + f →
    Calls Try.prog 29 #[.slice p len c, .int .i64 (i : Int), .int .u8 under] w fun e w' => e = .returned (.int .i64 (((if isDeepB under (kindAt ns i) = true then 1 else 0) + deepK (ownK ns) (kidsAt ns) f i : Nat) : Int)) ∧ ∃ m, w' = w.drewN m := by
  have HSO := Lib.hid hs
  have HK := Lib.hid hk
  clear hs hk
  intro f
  induction f with
  | zero => intro i under w _ h1 h2; omega
  | succ f ih =>
    intro i under w h hil hif
    have IH := Lib.hid ih
    clear ih
    have hlen := Lib.hid h.len_eq
    have H := Lib.hid h
    obtain ⟨b, off, rfl, _, hc⟩ := h.node (by omega)
    obtain ⟨kp, kl, kc, hn⟩ := hc i hil
    have k0 : w.cell? ⟨b, off + i * 5, none⟩ = some (.int .u8 (kindAt ns i)) := hn.kind
    have k4 := hn.kids
    have HIV : Hid (IV w kp kl kc (kidsAt ns i)) := Lib.hid hn.iv
    have hix : i < ns.length := by have := hlen.out; omega
    have hkl : kl ≤ 1000 := by
      have h1 := HK.out (ns.getD i default) (by simp [List.getD, hix])
      have := hn.iv.len_eq
      omega
    have hilI : (i : Int) < (len : Int) := by omega
    have hi0 : (0 : Int) ≤ (i : Int) := by omega
    have HOWN : Hid (∀ q : Nat, (if isDeepB (kindAt ns i) (kindAt ns q) = true then 1 else 0) = ownK ns i q) := Lib.hid (fun q => (own_deep ns i q).symm)
    have HSB := Lib.hid (deep_small HSO.out (f + 1) i hix)
    have HDK : Hid (deepK (ownK ns) (kidsAt ns) (f + 1) i = maxL (fun k => ownK ns i k.toNat + deepK (ownK ns) (kidsAt ns) f k.toNat) (kidsAt ns i)) := Lib.hid rfl
    have EK := Lib.hid (refExpr_at (kindAt ns i) w)
    have EU := Lib.hid (refExpr_at under w)
    obtain ⟨dk, hdk⟩ : ∃ d, deepK (ownK ns) (kidsAt ns) (f + 1) i = d := ⟨_, rfl⟩
    rw [hdk] at HDK HSB
    rw [hdk]
    have hdk2 : dk ≤ 1001 := by have := HSB.out; have := hlen.out; omega
    clear hn hc h hdk
    -- the loop, the same for each way
    have HKD : Hid (kindAt ns i = kindAt ns i) := Lib.hid rfl
    obtain ⟨kd, hkd⟩ : ∃ k, kindAt ns i = k := ⟨_, rfl⟩
    rw [hkd] at k0 EK HOWN
    rw [hkd]
    have HKD2 := Lib.hid hkd
    clear hkd HKD
    by_cases h6 : kd = 6
    · have e6 : (kd == 6) = true := by simpa using h6
      have eB : isDeepB under kd = true := by unfold isDeepB; rw [e6]; rfl
      rw [eB]
      clear EK EU eB
      subst h6
      go_enter Try.func29, Try.ntmps29
      go_wp2_with fail
      go_loopw [8, 9] (fun mv jv wq => ∃ j m : Nat, j ≤ kl ∧ m ≤ dk ∧ mv = .int .i64 m ∧ jv = .int .i64 j ∧ Hid (m = maxL (fun k => ownK ns i k.toNat + deepK (ownK ns) (kidsAt ns) f k.toNat) ((kidsAt ns i).take j)) ∧ ∃ n, wq = w.drewN n) (fun _ jv _ => kl - (intOf jv).toNat)
      case atStart => exact ⟨0, 0, by omega, by omega, rfl, rfl, Lib.hid rfl, 0, rfl⟩
      case round =>
        obtain ⟨j, m, hj, hm, rfl, rfl, HM, nn, rfl⟩ := hrel
        have k0' : (w.drewN nn).cell? ⟨b, off + i * 5, none⟩ = some (.int .u8 6) := k0
        have k4' : (w.drewN nn).cell? ⟨b, off + i * 5 + 4, none⟩ = some (.slice kp kl kc) := k4
        by_cases hjl : j < kl
        · obtain ⟨kb, koff, rfl, _, hkc⟩ := HIV.out.cell (by omega)
          have hkj : w.cell? ⟨kb, koff + j, none⟩ = some (.int .i64 ((kidsAt ns i).getD j 0)) := hkc j hjl
          have hjx : j < (kidsAt ns i).length := by have := HIV.out.len_eq; omega
          have hmem : (kidsAt ns i).getD j 0 ∈ kidsAt ns i := by simp [List.getD, hjx]
          obtain ⟨q, hq, hiq, _, hqn⟩ := HSO.out.right.kid hix hmem
          rw [hq] at hkj
          have hql : q < len := by have := hlen.out; omega
          have HTK : Hid ((kidsAt ns i).take (j + 1) = (kidsAt ns i).take j ++ [(q : Int)]) := Lib.hid (by
            rw [List.take_succ_eq_append_getElem hjx, ← hq]
            simp [List.getD, hjx])
          have HIQ : Hid (∀ n, Calls Try.prog 29 #[.slice (some ⟨b, off, none⟩) len c, .int .i64 (q : Int), .int .u8 6] (w.drewN (nn + n)) fun e w' => e = .returned (.int .i64 ((ownK ns i q + deepK (ownK ns) (kidsAt ns) f q : Nat) : Int)) ∧ ∃ m, w' = w.drewN (nn + m)) := Lib.hid (fun n => by
            have h1 := IH.out q 6 (w.drewN (nn + n)) (H.out.on (drewN_below _ _ (nn + n))) hql (by omega)
            have h0 := HOWN.out q
            rw [h0] at h1
            exact h1.mono fun e w' ⟨h2, m, h3⟩ => ⟨h2, n + m, by rw [h3, drewN_add, Nat.add_assoc]⟩)
          have HMX : Hid (maxL (fun k => ownK ns i k.toNat + deepK (ownK ns) (kidsAt ns) f k.toNat) ((kidsAt ns i).take (j + 1)) = max m (ownK ns i q + deepK (ownK ns) (kidsAt ns) f q)) := Lib.hid (by rw [HTK.out, maxL_snoc, ← HM.out, Int.toNat_natCast])
          have HLE : Hid (ownK ns i q + deepK (ownK ns) (kidsAt ns) f q ≤ dk) := Lib.hid (by
            rw [HDK.out]
            have h1 : (kidsAt ns i) = (kidsAt ns i).take (j + 1) ++ (kidsAt ns i).drop (j + 1) := (List.take_append_drop _ _).symm
            have h2 : maxL (fun k => ownK ns i k.toNat + deepK (ownK ns) (kidsAt ns) f k.toNat) (kidsAt ns i) = max (maxL (fun k => ownK ns i k.toNat + deepK (ownK ns) (kidsAt ns) f k.toNat) ((kidsAt ns i).take (j + 1))) (maxL (fun k => ownK ns i k.toNat + deepK (ownK ns) (kidsAt ns) f k.toNat) ((kidsAt ns i).drop (j + 1))) := by
              conv => lhs; rw [h1]
              unfold maxL
              rw [List.foldl_append]
              exact foldl_max _ _ _
            rw [h2, HMX.out]
            omega)
          have hle := HLE.out
          generalize ownK ns i q + deepK (ownK ns) (kidsAt ns) f q = z at *
          have b0 : (0 : Int) ≤ (j : Int) := by omega
          have b1 : (j : Int) < (kl : Int) := by omega
          clear hkc hjx hmem hq
          go_wp2_with fail
          go_quiet (first | (go_at_call 29; exact HIQ.out _))
          go_wp2_with fail
          go_roundw
          case rel => exact ⟨j + 1, max m z, by omega, by omega, by first | rfl | go_num, by first | rfl | go_num, Lib.hid HMX.out.symm, nn + nq, rfl⟩
          case measure => simp [intOf]; omega
        · have HZ : Hid (m = dk) := Lib.hid (by rw [HM.out, HDK.out, List.take_of_length_le (by have := HIV.out.len_eq; omega)])
          have hw : IntKind.i64.wrap ((1 : Int) + (m : Int)) = (1 : Int) + (m : Int) := IntWalk.i64_in _ (by omega)
          go_wp2
          go_ret
          exact ⟨retI (by rw [HZ.out] <;> simp), nn, rfl⟩
    · have e6 : (kd == 6) = false := by simpa using h6
      by_cases h20 : kd = 20
      · have e20 : (kd == 20) = true := by simpa using h20
        have eB : isDeepB under kd = true := by unfold isDeepB; rw [e6, e20]; rfl
        rw [eB]
        clear EK EU eB e6 h6
        subst h20
        go_enter Try.func29, Try.ntmps29
        go_wp2_with fail
        go_loopw [8, 9] (fun mv jv wq => ∃ j m : Nat, j ≤ kl ∧ m ≤ dk ∧ mv = .int .i64 m ∧ jv = .int .i64 j ∧ Hid (m = maxL (fun k => ownK ns i k.toNat + deepK (ownK ns) (kidsAt ns) f k.toNat) ((kidsAt ns i).take j)) ∧ ∃ n, wq = w.drewN n) (fun _ jv _ => kl - (intOf jv).toNat)
        case atStart => exact ⟨0, 0, by omega, by omega, rfl, rfl, Lib.hid rfl, 0, rfl⟩
        case round =>
          obtain ⟨j, m, hj, hm, rfl, rfl, HM, nn, rfl⟩ := hrel
          have k0' : (w.drewN nn).cell? ⟨b, off + i * 5, none⟩ = some (.int .u8 20) := k0
          have k4' : (w.drewN nn).cell? ⟨b, off + i * 5 + 4, none⟩ = some (.slice kp kl kc) := k4
          by_cases hjl : j < kl
          · obtain ⟨kb, koff, rfl, _, hkc⟩ := HIV.out.cell (by omega)
            have hkj : w.cell? ⟨kb, koff + j, none⟩ = some (.int .i64 ((kidsAt ns i).getD j 0)) := hkc j hjl
            have hjx : j < (kidsAt ns i).length := by have := HIV.out.len_eq; omega
            have hmem : (kidsAt ns i).getD j 0 ∈ kidsAt ns i := by simp [List.getD, hjx]
            obtain ⟨q, hq, hiq, _, hqn⟩ := HSO.out.right.kid hix hmem
            rw [hq] at hkj
            have hql : q < len := by have := hlen.out; omega
            have HTK : Hid ((kidsAt ns i).take (j + 1) = (kidsAt ns i).take j ++ [(q : Int)]) := Lib.hid (by
              rw [List.take_succ_eq_append_getElem hjx, ← hq]
              simp [List.getD, hjx])
            have HIQ : Hid (∀ n, Calls Try.prog 29 #[.slice (some ⟨b, off, none⟩) len c, .int .i64 (q : Int), .int .u8 20] (w.drewN (nn + n)) fun e w' => e = .returned (.int .i64 ((ownK ns i q + deepK (ownK ns) (kidsAt ns) f q : Nat) : Int)) ∧ ∃ m, w' = w.drewN (nn + m)) := Lib.hid (fun n => by
              have h1 := IH.out q 20 (w.drewN (nn + n)) (H.out.on (drewN_below _ _ (nn + n))) hql (by omega)
              have h0 := HOWN.out q
              rw [h0] at h1
              exact h1.mono fun e w' ⟨h2, m, h3⟩ => ⟨h2, n + m, by rw [h3, drewN_add, Nat.add_assoc]⟩)
            have HMX : Hid (maxL (fun k => ownK ns i k.toNat + deepK (ownK ns) (kidsAt ns) f k.toNat) ((kidsAt ns i).take (j + 1)) = max m (ownK ns i q + deepK (ownK ns) (kidsAt ns) f q)) := Lib.hid (by rw [HTK.out, maxL_snoc, ← HM.out, Int.toNat_natCast])
            have HLE : Hid (ownK ns i q + deepK (ownK ns) (kidsAt ns) f q ≤ dk) := Lib.hid (by
              rw [HDK.out]
              have h1 : (kidsAt ns i) = (kidsAt ns i).take (j + 1) ++ (kidsAt ns i).drop (j + 1) := (List.take_append_drop _ _).symm
              have h2 : maxL (fun k => ownK ns i k.toNat + deepK (ownK ns) (kidsAt ns) f k.toNat) (kidsAt ns i) = max (maxL (fun k => ownK ns i k.toNat + deepK (ownK ns) (kidsAt ns) f k.toNat) ((kidsAt ns i).take (j + 1))) (maxL (fun k => ownK ns i k.toNat + deepK (ownK ns) (kidsAt ns) f k.toNat) ((kidsAt ns i).drop (j + 1))) := by
                conv => lhs; rw [h1]
                unfold maxL
                rw [List.foldl_append]
                exact foldl_max _ _ _
              rw [h2, HMX.out]
              omega)
            have hle := HLE.out
            generalize ownK ns i q + deepK (ownK ns) (kidsAt ns) f q = z at *
            have b0 : (0 : Int) ≤ (j : Int) := by omega
            have b1 : (j : Int) < (kl : Int) := by omega
            clear hkc hjx hmem hq
            go_wp2_with fail
            go_quiet (first | (go_at_call 29; exact HIQ.out _))
            go_wp2_with fail
            go_roundw
            case rel => exact ⟨j + 1, max m z, by omega, by omega, by first | rfl | go_num, by first | rfl | go_num, Lib.hid HMX.out.symm, nn + nq, rfl⟩
            case measure => simp [intOf]; omega
          · have HZ : Hid (m = dk) := Lib.hid (by rw [HM.out, HDK.out, List.take_of_length_le (by have := HIV.out.len_eq; omega)])
            have hw : IntKind.i64.wrap ((1 : Int) + (m : Int)) = (1 : Int) + (m : Int) := IntWalk.i64_in _ (by omega)
            go_wp2
            go_ret
            exact ⟨retI (by rw [HZ.out] <;> simp), nn, rfl⟩
      · have e20 : (kd == 20) = false := by simpa using h20
        have eB : isDeepB under kd = (isExprK kd && isExprK under) := by unfold isDeepB; rw [e6, e20]; rfl
        rw [eB]
        clear eB h6 h20
        cases hx : isExprK kd with
        | false =>
          rw [hx] at EK
          clear hx EU
          rw [Bool.false_and]
          go_enter Try.func29, Try.ntmps29
          go_wp2_with fail
          (with_reducible refine EK.out.mono ?_)
          rintro e w1 ⟨rfl, rfl⟩
          clear EK
          go_wp2_with fail
          go_loopw [8, 9] (fun mv jv wq => ∃ j m : Nat, j ≤ kl ∧ m ≤ dk ∧ mv = .int .i64 m ∧ jv = .int .i64 j ∧ Hid (m = maxL (fun k => ownK ns i k.toNat + deepK (ownK ns) (kidsAt ns) f k.toNat) ((kidsAt ns i).take j)) ∧ ∃ n, wq = w1.drewN n) (fun _ jv _ => kl - (intOf jv).toNat)
          case atStart => exact ⟨0, 0, by omega, by omega, rfl, rfl, Lib.hid rfl, 0, rfl⟩
          case round =>
            obtain ⟨j, m, hj, hm, rfl, rfl, HM, nn, rfl⟩ := hrel
            have k0' : (w1.drewN nn).cell? ⟨b, off + i * 5, none⟩ = some (.int .u8 kd) := k0
            have k4' : (w1.drewN nn).cell? ⟨b, off + i * 5 + 4, none⟩ = some (.slice kp kl kc) := k4
            by_cases hjl : j < kl
            · obtain ⟨kb, koff, rfl, _, hkc⟩ := HIV.out.cell (by omega)
              have hkj : w1.cell? ⟨kb, koff + j, none⟩ = some (.int .i64 ((kidsAt ns i).getD j 0)) := hkc j hjl
              have hjx : j < (kidsAt ns i).length := by have := HIV.out.len_eq; omega
              have hmem : (kidsAt ns i).getD j 0 ∈ kidsAt ns i := by simp [List.getD, hjx]
              obtain ⟨q, hq, hiq, _, hqn⟩ := HSO.out.right.kid hix hmem
              rw [hq] at hkj
              have hql : q < len := by have := hlen.out; omega
              have HTK : Hid ((kidsAt ns i).take (j + 1) = (kidsAt ns i).take j ++ [(q : Int)]) := Lib.hid (by
                rw [List.take_succ_eq_append_getElem hjx, ← hq]
                simp [List.getD, hjx])
              have HIQ : Hid (∀ n, Calls Try.prog 29 #[.slice (some ⟨b, off, none⟩) len c, .int .i64 (q : Int), .int .u8 kd] (w1.drewN (nn + n)) fun e w' => e = .returned (.int .i64 ((ownK ns i q + deepK (ownK ns) (kidsAt ns) f q : Nat) : Int)) ∧ ∃ m, w' = w1.drewN (nn + m)) := Lib.hid (fun n => by
                have h1 := IH.out q kd (w1.drewN (nn + n)) (H.out.on (drewN_below _ _ (nn + n))) hql (by omega)
                have h0 := HOWN.out q
                rw [h0] at h1
                exact h1.mono fun e w' ⟨h2, m, h3⟩ => ⟨h2, n + m, by rw [h3, drewN_add, Nat.add_assoc]⟩)
              have HMX : Hid (maxL (fun k => ownK ns i k.toNat + deepK (ownK ns) (kidsAt ns) f k.toNat) ((kidsAt ns i).take (j + 1)) = max m (ownK ns i q + deepK (ownK ns) (kidsAt ns) f q)) := Lib.hid (by rw [HTK.out, maxL_snoc, ← HM.out, Int.toNat_natCast])
              have HLE : Hid (ownK ns i q + deepK (ownK ns) (kidsAt ns) f q ≤ dk) := Lib.hid (by
                rw [HDK.out]
                have h1 : (kidsAt ns i) = (kidsAt ns i).take (j + 1) ++ (kidsAt ns i).drop (j + 1) := (List.take_append_drop _ _).symm
                have h2 : maxL (fun k => ownK ns i k.toNat + deepK (ownK ns) (kidsAt ns) f k.toNat) (kidsAt ns i) = max (maxL (fun k => ownK ns i k.toNat + deepK (ownK ns) (kidsAt ns) f k.toNat) ((kidsAt ns i).take (j + 1))) (maxL (fun k => ownK ns i k.toNat + deepK (ownK ns) (kidsAt ns) f k.toNat) ((kidsAt ns i).drop (j + 1))) := by
                  conv => lhs; rw [h1]
                  unfold maxL
                  rw [List.foldl_append]
                  exact foldl_max _ _ _
                rw [h2, HMX.out]
                omega)
              have hle := HLE.out
              generalize ownK ns i q + deepK (ownK ns) (kidsAt ns) f q = z at *
              have b0 : (0 : Int) ≤ (j : Int) := by omega
              have b1 : (j : Int) < (kl : Int) := by omega
              clear hkc hjx hmem hq
              go_wp2_with fail
              go_quiet (first | (go_at_call 29; exact HIQ.out _))
              go_wp2_with fail
              go_roundw
              case rel => exact ⟨j + 1, max m z, by omega, by omega, by first | rfl | go_num, by first | rfl | go_num, Lib.hid HMX.out.symm, nn + nq, rfl⟩
              case measure => simp [intOf]; omega
            · have HZ : Hid (m = dk) := Lib.hid (by rw [HM.out, HDK.out, List.take_of_length_le (by have := HIV.out.len_eq; omega)])
              have hw : IntKind.i64.wrap ((0 : Int) + (m : Int)) = (0 : Int) + (m : Int) := IntWalk.i64_in _ (by omega)
              go_wp2
              go_ret
              exact ⟨retI (by rw [HZ.out] <;> simp), nn, rfl⟩
        | true =>
          rw [hx] at EK
          clear hx
          rw [Bool.true_and]
          cases hy : isExprK under with
          | false =>
            rw [hy] at EU
            clear hy
            go_enter Try.func29, Try.ntmps29
            go_wp2_with fail
            (with_reducible refine EK.out.mono ?_)
            rintro e w1 ⟨rfl, rfl⟩
            clear EK
            go_wp2_with fail
            (with_reducible refine EU.out.mono ?_)
            rintro e w1 ⟨rfl, rfl⟩
            clear EU
            go_wp2_with fail
            go_loopw [8, 9] (fun mv jv wq => ∃ j m : Nat, j ≤ kl ∧ m ≤ dk ∧ mv = .int .i64 m ∧ jv = .int .i64 j ∧ Hid (m = maxL (fun k => ownK ns i k.toNat + deepK (ownK ns) (kidsAt ns) f k.toNat) ((kidsAt ns i).take j)) ∧ ∃ n, wq = w1.drewN n) (fun _ jv _ => kl - (intOf jv).toNat)
            case atStart => exact ⟨0, 0, by omega, by omega, rfl, rfl, Lib.hid rfl, 0, rfl⟩
            case round =>
              obtain ⟨j, m, hj, hm, rfl, rfl, HM, nn, rfl⟩ := hrel
              have k0' : (w1.drewN nn).cell? ⟨b, off + i * 5, none⟩ = some (.int .u8 kd) := k0
              have k4' : (w1.drewN nn).cell? ⟨b, off + i * 5 + 4, none⟩ = some (.slice kp kl kc) := k4
              by_cases hjl : j < kl
              · obtain ⟨kb, koff, rfl, _, hkc⟩ := HIV.out.cell (by omega)
                have hkj : w1.cell? ⟨kb, koff + j, none⟩ = some (.int .i64 ((kidsAt ns i).getD j 0)) := hkc j hjl
                have hjx : j < (kidsAt ns i).length := by have := HIV.out.len_eq; omega
                have hmem : (kidsAt ns i).getD j 0 ∈ kidsAt ns i := by simp [List.getD, hjx]
                obtain ⟨q, hq, hiq, _, hqn⟩ := HSO.out.right.kid hix hmem
                rw [hq] at hkj
                have hql : q < len := by have := hlen.out; omega
                have HTK : Hid ((kidsAt ns i).take (j + 1) = (kidsAt ns i).take j ++ [(q : Int)]) := Lib.hid (by
                  rw [List.take_succ_eq_append_getElem hjx, ← hq]
                  simp [List.getD, hjx])
                have HIQ : Hid (∀ n, Calls Try.prog 29 #[.slice (some ⟨b, off, none⟩) len c, .int .i64 (q : Int), .int .u8 kd] (w1.drewN (nn + n)) fun e w' => e = .returned (.int .i64 ((ownK ns i q + deepK (ownK ns) (kidsAt ns) f q : Nat) : Int)) ∧ ∃ m, w' = w1.drewN (nn + m)) := Lib.hid (fun n => by
                  have h1 := IH.out q kd (w1.drewN (nn + n)) (H.out.on (drewN_below _ _ (nn + n))) hql (by omega)
                  have h0 := HOWN.out q
                  rw [h0] at h1
                  exact h1.mono fun e w' ⟨h2, m, h3⟩ => ⟨h2, n + m, by rw [h3, drewN_add, Nat.add_assoc]⟩)
                have HMX : Hid (maxL (fun k => ownK ns i k.toNat + deepK (ownK ns) (kidsAt ns) f k.toNat) ((kidsAt ns i).take (j + 1)) = max m (ownK ns i q + deepK (ownK ns) (kidsAt ns) f q)) := Lib.hid (by rw [HTK.out, maxL_snoc, ← HM.out, Int.toNat_natCast])
                have HLE : Hid (ownK ns i q + deepK (ownK ns) (kidsAt ns) f q ≤ dk) := Lib.hid (by
                  rw [HDK.out]
                  have h1 : (kidsAt ns i) = (kidsAt ns i).take (j + 1) ++ (kidsAt ns i).drop (j + 1) := (List.take_append_drop _ _).symm
                  have h2 : maxL (fun k => ownK ns i k.toNat + deepK (ownK ns) (kidsAt ns) f k.toNat) (kidsAt ns i) = max (maxL (fun k => ownK ns i k.toNat + deepK (ownK ns) (kidsAt ns) f k.toNat) ((kidsAt ns i).take (j + 1))) (maxL (fun k => ownK ns i k.toNat + deepK (ownK ns) (kidsAt ns) f k.toNat) ((kidsAt ns i).drop (j + 1))) := by
                    conv => lhs; rw [h1]
                    unfold maxL
                    rw [List.foldl_append]
                    exact foldl_max _ _ _
                  rw [h2, HMX.out]
                  omega)
                have hle := HLE.out
                generalize ownK ns i q + deepK (ownK ns) (kidsAt ns) f q = z at *
                have b0 : (0 : Int) ≤ (j : Int) := by omega
                have b1 : (j : Int) < (kl : Int) := by omega
                clear hkc hjx hmem hq
                go_wp2_with fail
                go_quiet (first | (go_at_call 29; exact HIQ.out _))
                go_wp2_with fail
                go_roundw
                case rel => exact ⟨j + 1, max m z, by omega, by omega, by first | rfl | go_num, by first | rfl | go_num, Lib.hid HMX.out.symm, nn + nq, rfl⟩
                case measure => simp [intOf]; omega
              · have HZ : Hid (m = dk) := Lib.hid (by rw [HM.out, HDK.out, List.take_of_length_le (by have := HIV.out.len_eq; omega)])
                have hw : IntKind.i64.wrap ((0 : Int) + (m : Int)) = (0 : Int) + (m : Int) := IntWalk.i64_in _ (by omega)
                go_wp2
                go_ret
                exact ⟨retI (by rw [HZ.out] <;> simp), nn, rfl⟩
          | true =>
            rw [hy] at EU
            clear hy
            go_enter Try.func29, Try.ntmps29
            go_wp2_with fail
            (with_reducible refine EK.out.mono ?_)
            rintro e w1 ⟨rfl, rfl⟩
            clear EK
            go_wp2_with fail
            (with_reducible refine EU.out.mono ?_)
            rintro e w1 ⟨rfl, rfl⟩
            clear EU
            go_wp2_with fail
            go_loopw [8, 9] (fun mv jv wq => ∃ j m : Nat, j ≤ kl ∧ m ≤ dk ∧ mv = .int .i64 m ∧ jv = .int .i64 j ∧ Hid (m = maxL (fun k => ownK ns i k.toNat + deepK (ownK ns) (kidsAt ns) f k.toNat) ((kidsAt ns i).take j)) ∧ ∃ n, wq = w1.drewN n) (fun _ jv _ => kl - (intOf jv).toNat)
            case atStart => exact ⟨0, 0, by omega, by omega, rfl, rfl, Lib.hid rfl, 0, rfl⟩
            case round =>
              obtain ⟨j, m, hj, hm, rfl, rfl, HM, nn, rfl⟩ := hrel
              have k0' : (w1.drewN nn).cell? ⟨b, off + i * 5, none⟩ = some (.int .u8 kd) := k0
              have k4' : (w1.drewN nn).cell? ⟨b, off + i * 5 + 4, none⟩ = some (.slice kp kl kc) := k4
              by_cases hjl : j < kl
              · obtain ⟨kb, koff, rfl, _, hkc⟩ := HIV.out.cell (by omega)
                have hkj : w1.cell? ⟨kb, koff + j, none⟩ = some (.int .i64 ((kidsAt ns i).getD j 0)) := hkc j hjl
                have hjx : j < (kidsAt ns i).length := by have := HIV.out.len_eq; omega
                have hmem : (kidsAt ns i).getD j 0 ∈ kidsAt ns i := by simp [List.getD, hjx]
                obtain ⟨q, hq, hiq, _, hqn⟩ := HSO.out.right.kid hix hmem
                rw [hq] at hkj
                have hql : q < len := by have := hlen.out; omega
                have HTK : Hid ((kidsAt ns i).take (j + 1) = (kidsAt ns i).take j ++ [(q : Int)]) := Lib.hid (by
                  rw [List.take_succ_eq_append_getElem hjx, ← hq]
                  simp [List.getD, hjx])
                have HIQ : Hid (∀ n, Calls Try.prog 29 #[.slice (some ⟨b, off, none⟩) len c, .int .i64 (q : Int), .int .u8 kd] (w1.drewN (nn + n)) fun e w' => e = .returned (.int .i64 ((ownK ns i q + deepK (ownK ns) (kidsAt ns) f q : Nat) : Int)) ∧ ∃ m, w' = w1.drewN (nn + m)) := Lib.hid (fun n => by
                  have h1 := IH.out q kd (w1.drewN (nn + n)) (H.out.on (drewN_below _ _ (nn + n))) hql (by omega)
                  have h0 := HOWN.out q
                  rw [h0] at h1
                  exact h1.mono fun e w' ⟨h2, m, h3⟩ => ⟨h2, n + m, by rw [h3, drewN_add, Nat.add_assoc]⟩)
                have HMX : Hid (maxL (fun k => ownK ns i k.toNat + deepK (ownK ns) (kidsAt ns) f k.toNat) ((kidsAt ns i).take (j + 1)) = max m (ownK ns i q + deepK (ownK ns) (kidsAt ns) f q)) := Lib.hid (by rw [HTK.out, maxL_snoc, ← HM.out, Int.toNat_natCast])
                have HLE : Hid (ownK ns i q + deepK (ownK ns) (kidsAt ns) f q ≤ dk) := Lib.hid (by
                  rw [HDK.out]
                  have h1 : (kidsAt ns i) = (kidsAt ns i).take (j + 1) ++ (kidsAt ns i).drop (j + 1) := (List.take_append_drop _ _).symm
                  have h2 : maxL (fun k => ownK ns i k.toNat + deepK (ownK ns) (kidsAt ns) f k.toNat) (kidsAt ns i) = max (maxL (fun k => ownK ns i k.toNat + deepK (ownK ns) (kidsAt ns) f k.toNat) ((kidsAt ns i).take (j + 1))) (maxL (fun k => ownK ns i k.toNat + deepK (ownK ns) (kidsAt ns) f k.toNat) ((kidsAt ns i).drop (j + 1))) := by
                    conv => lhs; rw [h1]
                    unfold maxL
                    rw [List.foldl_append]
                    exact foldl_max _ _ _
                  rw [h2, HMX.out]
                  omega)
                have hle := HLE.out
                generalize ownK ns i q + deepK (ownK ns) (kidsAt ns) f q = z at *
                have b0 : (0 : Int) ≤ (j : Int) := by omega
                have b1 : (j : Int) < (kl : Int) := by omega
                clear hkc hjx hmem hq
                go_wp2_with fail
                go_quiet (first | (go_at_call 29; exact HIQ.out _))
                go_wp2_with fail
                go_roundw
                case rel => exact ⟨j + 1, max m z, by omega, by omega, by first | rfl | go_num, by first | rfl | go_num, Lib.hid HMX.out.symm, nn + nq, rfl⟩
                case measure => simp [intOf]; omega
              · have HZ : Hid (m = dk) := Lib.hid (by rw [HM.out, HDK.out, List.take_of_length_le (by have := HIV.out.len_eq; omega)])
                have hw : IntKind.i64.wrap ((1 : Int) + (m : Int)) = (1 : Int) + (m : Int) := IntWalk.i64_in _ (by omega)
                go_wp2
                go_ret
                exact ⟨retI (by rw [HZ.out] <;> simp), nn, rfl⟩
end Go.Proofs.Ytijaelncmjcbmaa
