import Derived.Test.YtijaelncmjcbmaaTreeKa
namespace Go.Proofs.Ytijaelncmjcbmaa
open Go.RowKit
set_option maxHeartbeats 8000000 in
set_option maxRecDepth 1000000 in
theorem refKinds_at (w : World) (p : Option Addr) (len c : Nat) (ns : List Nd) (nd : Nd) (kp : Option Addr) (kl kc : Nat) (h : TV w p len c ns) (hI : IV w kp kl kc nd.kids) (hkl : kl ≤ 1000) (hk : ∀ k ∈ nd.kids, 0 ≤ k ∧ k < len) :
    Calls Try.prog 27 #[.slice p len c, ndV nd kp kl kc] w fun e w' => (∃ pv cv, e = .returned (.slice pv (kindsOf ns nd).length cv) ∧ BV w' pv (kindsOf ns nd).length cv (kindsOf ns nd)) ∧ Below w.heap.size w w' := by
  have H := Lib.hid h
  have HIV := Lib.hid hI
  have HK := Lib.hid hk
  have HKL := Lib.hid hI.len_eq
  obtain ⟨i0, hi, hz0, hz1, hz2⟩ := info_parts infoK
  have I0 := Lib.hid hi
  have I1 := Lib.hid hz0
  have I2 := Lib.hid hz1
  have I3 := Lib.hid hz2
  have hkn : (kindsOf ns nd).length = kl := by rw [kindsOf, List.length_map]; exact HKL.out
  have HKN := Lib.hid hkn
  clear h hI hk hi hz0 hz1 hz2 hkn
  unfold ndV
  have B0 := Lib.hid (one_below w (.cells #[.int .u8 nd.kind, .int .i64 nd.at', .string nd.text, .int .i64 nd.n, .slice kp kl kc] 41))
  go_enter Try.func27, Try.ntmps27
  go_wp2_with fail
  go_loopw [5, 6] (fun kv jv wq => ∃ j : Nat, j ≤ kl ∧ jv = .int .i64 j ∧ Hid (wq.ownsRow (w.heap.size + 1) 5 1 kv j (((kindsOf ns nd).take j).map (Value.int .u8))) ∧ Hid (Below (w.heap.size + 1) (w.alloc (.cells #[.int .u8 nd.kind, .int .i64 nd.at', .string nd.text, .int .i64 nd.n, .slice kp kl kc] 41)) wq)) (fun _ jv _ => kl - (intOf jv).toNat)
  case atStart => exact ⟨0, by omega, rfl, Lib.hid (World.ownsRow_nil _ _ _ _), Lib.hid (Below.refl _ _)⟩
  case round =>
    obtain ⟨wq, rfl⟩ : ∃ wq : World, wq = wr := ⟨_, rfl⟩
    obtain ⟨j, hj, rfl, HO, HQ⟩ := hrel
    have x4 : wq.cell? ⟨w.heap.size, 4, none⟩ = some (.slice kp kl kc) := by rw [HQ.out.cell (by simp), World.cell?_alloc_at _ _ _ _ rfl]; rfl
    have HWQ := Lib.hid (B0.out.trans (HQ.out.mono (by omega)))
    by_cases hjl : j < kl
    · obtain ⟨kb, koff, rfl, _, hkc⟩ := (HIV.out.on HWQ.out).cell (by omega)
      have hkj := hkc j hjl
      have hjx : j < nd.kids.length := by have := HKL.out; omega
      have hmem : nd.kids.getD j 0 ∈ nd.kids := by simp [List.getD, hjx]
      obtain ⟨hq0, hq1⟩ := HK.out _ hmem
      have HKT : Hid ((kindsOf ns nd).take (j + 1) = (kindsOf ns nd).take j ++ [kindAt ns (nd.kids.getD j 0).toNat]) := Lib.hid (by
        rw [List.take_succ_eq_append_getElem (by rw [HKN.out]; exact hjl)]
        simp [kindsOf, List.getD, hjx])
      generalize nd.kids.getD j 0 = kid at *
      obtain ⟨q, rfl⟩ : ∃ q : Nat, kid = (q : Int) := ⟨kid.toNat, (Int.toNat_of_nonneg hq0).symm⟩
      have hql : q < len := by omega
      obtain ⟨b, off, rfl, _, hc⟩ := (H.out.on HWQ.out).node (by omega)
      obtain ⟨_, _, _, hn2⟩ := hc q hql
      have hk2 := hn2.kind
      have HKT2 : Hid ((kindsOf ns nd).take (j + 1) = (kindsOf ns nd).take j ++ [(ns.getD q default).kind]) := Lib.hid (by rw [HKT.out, Int.toNat_natCast]; rfl)
      generalize (ns.getD q default).kind = kq at *
      clear hkc hjx hmem hn2 hc
      have ho := HO.out
      have hHQs := HQ.out.size
      simp only [World.size_alloc] at hHQs
      go_wp2_with (at_builtin; refine wpList_append_lies _ rfl (.tmp 14) (.tmp 24) 45 rfl (w.heap.size + 1) 5 i0 _ 1 1 Try.underlying45 I0.out I1.out I2.out I3.out rfl (by decide) u5 j (((kindsOf ns nd).take j).map (Value.int .u8)) rfl (ho.alloc _) ⟨wq.heap.size, 0, none⟩ 1 1 [.int .u8 kq] rfl rfl (World.news_of_block (cs := #[.int .u8 kq]) (t := 5) (fr := (0, 0)) (heap_alloc_new _ _)) (u8_one _) (by decide) (by unfold maxLen; omega) (by omega) (by simp; omega) _ rfl ?_)
      intro g cap w5 hown5 hgrow5 _ _
      have HO5 : Hid (w5.ownsRow (w.heap.size + 1) 5 1 (.slice (some ⟨g, 0, none⟩) (j + 1) cap) (j + 1) (((kindsOf ns nd).take (j + 1)).map (Value.int .u8))) := Lib.hid (by rw [HKT2.out, List.map_append, List.map_take]; exact hown5)
      have HB5 := Lib.hid ((HQ.out.alloc (by omega) (.cells #[.int .u8 kq] 5)).grown hgrow5 (by simp; omega) (fun k hk => (ho.lt k hk).1))
      clear hown5 hgrow5 ho
      go_wp2_with fail
      go_roundw
      case rel => exact ⟨j + 1, by omega, by go_num, HO5, HB5⟩
      case measure => simp [intOf]; omega
    · have hje : j = kl := by omega
      have HO2 : Hid (wq.ownsRow (w.heap.size + 1) 5 1 u5 (kindsOf ns nd).length ((kindsOf ns nd).map (Value.int .u8))) := Lib.hid (by
        have := HO.out
        rw [hje, ← HKN.out, List.take_length] at this
        exact this)
      obtain ⟨pv, cv, rfl, hbv⟩ := own_bv HO2.out
      have HBV := Lib.hid hbv
      clear hje hbv
      go_wp2
      go_ret
      exact ⟨⟨pv, cv, rfl, HBV.out⟩, HWQ.out⟩
end Go.Proofs.Ytijaelncmjcbmaa
