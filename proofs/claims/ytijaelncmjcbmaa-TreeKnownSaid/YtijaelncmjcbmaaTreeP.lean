import Derived.Test.YtijaelncmjcbmaaTreeEq
import Derived.OwnWalk
namespace Go.Proofs.Ytijaelncmjcbmaa
open Go.RowKit
theorem infoN41 : (Try.prog.info? 41).map (fun i => (i.zero, i.size, i.bytes)) = some (some (.agg #[.int .u8 0, .int .i64 0, .string ⟨#[]⟩, .int .i64 0, .slice none 0 0]), 5, 64) := by kernel_rfl
theorem infoN37 : (Try.prog.info? 37).map (fun i => (i.zero, i.size, i.bytes)) = some (some (.agg #[.int .u8 0, .int .i64 0, .string ⟨#[]⟩, .int .i64 0, .slice none 0 0]), 5, 64) := by kernel_rfl
theorem flat_length (xs : List KP) : (xs.flatMap kpC).length = xs.length * 5 := by
  induction xs with
  | nil => rfl
  | cons x xs ih => rw [List.flatMap_cons, List.length_append, ih, List.length_cons]; show 5 + _ = _; omega
theorem tv_own {W : World} {B : Nat} {e : Nat} {v : Value} {xs : List KP} (h : W.ownsRow B e 5 v xs.length (xs.flatMap kpC)) (hx : ∀ x ∈ xs, IV W x.2.1 x.2.2.1 x.2.2.2 x.1.kids) : ∃ p c, v = .slice p xs.length c ∧ TV W p xs.length c (xs.map (·.1)) := by
  have h0 := h
  obtain ⟨_, ⟨rfl, h1⟩ | ⟨g, cap, cur, rfl, _, h2, h3, _⟩⟩ := h
  · exact ⟨none, 0, by rw [h1], by simp, by omega, fun hl => absurd hl (by omega)⟩
  · refine ⟨_, _, rfl, by simp, h3, fun _ => ⟨g, 0, rfl, ?_, fun i hi => ?_⟩⟩
    · by_cases hg : g < W.heap.size
      · exact hg
      · rw [Array.getElem?_eq_none (by omega)] at h2; simp at h2
    · refine ⟨xs[i].2.1, xs[i].2.2.1, xs[i].2.2.2, ?_⟩
      have e : (xs.map (·.1)).getD i default = xs[i].1 := by simp [List.getD, hi]
      rw [e]
      have hc : ∀ j v, j < 5 → (kpC xs[i])[j]? = some v → W.cell? ⟨g, 0 + i * 5 + j, none⟩ = some v := by
        intro j v hj hv
        rw [Nat.zero_add, h0.cellAt (i * 5 + j) (by omega), flat_get xs i j hi hj, hv]
      exact ⟨hc 0 _ (by omega) rfl, hc 1 _ (by omega) rfl, hc 2 _ (by omega) rfl, hc 3 _ (by omega) rfl, hc 4 _ (by omega) rfl, hx _ (List.getElem_mem hi)⟩
theorem nd_one (k a n : Int) (st : ByteArray) (kp : Option Addr) (kl kc : Nat) : ∀ u ∈ ([.int .u8 k, .int .i64 a, .string st, .int .i64 n, .slice kp kl kc] : List Value), u.oneCell' = true := by
  intro u hu
  simp only [List.mem_cons, List.not_mem_nil, or_false] at hu
  rcases hu with rfl | rfl | rfl | rfl | rfl <;> rfl
/-- Rows of nodes that grow: what lies in them. -/
structure PI (w : World) (B e : Nat) (v : Value) (xs : List KP) (W : World) : Prop where
  below : Below B w W
  own : W.ownsRow B e 5 v xs.length (xs.flatMap kpC)
set_option maxHeartbeats 8000000 in
set_option maxRecDepth 1000000 in
theorem plain_at (w : World) (p : Option Addr) (len c : Nat) (ns : List Nd) (h : TV w p len c ns) (hl : len ≤ 1000) :
    Calls Try.prog 10 #[.agg #[.slice p len c]] w fun e w' => (∃ p' c', e = .returned (.slice p' len c') ∧ TV w' p' len c' ns) ∧ Below w.heap.size w w' := by
  have hlen := Lib.hid h.len_eq
  have H := Lib.hid h
  obtain ⟨i0, hi, hz0, hz1, hz2⟩ := info_parts infoN41
  have I0 := Lib.hid hi
  have I1 := Lib.hid hz0
  have I2 := Lib.hid hz1
  have I3 := Lib.hid hz2
  clear h hi hz0 hz1 hz2
  have B0 := Lib.hid (one_below w (.cells #[.slice p len c] 24))
  go_enter Try.func10, Try.ntmps10
  go_wp2_with fail
  go_loopw [3, 4] (fun v iv wr => ∃ (i : Nat) (xs : List KP), i ≤ len ∧ iv = .int .i64 i ∧ Hid (xs.map (·.1) = ns.take i) ∧ Hid (∀ x ∈ xs, IV w x.2.1 x.2.2.1 x.2.2.2 x.1.kids) ∧ Hid (PI (w.alloc (.cells #[.slice p len c] 24)) (w.heap.size + 1) 41 v xs wr)) (fun _ iv _ => len - (intOf iv).toNat)
  case atStart => exact ⟨0, [], by omega, rfl, Lib.hid rfl, Lib.hid (fun x hx => by simp at hx), Lib.hid ⟨Below.refl _ _, World.ownsRow_nil _ _ _ _⟩⟩
  case round =>
    obtain ⟨i, xs, hil, rfl, HM, HX, HP⟩ := hrel
    have c0 : wr.cell? ⟨w.heap.size, 0, none⟩ = some (.slice p len c) := by rw [HP.out.below.cell (by simp)]; simp
    have HBW := Lib.hid (B0.out.trans (HP.out.below.mono (by omega)))
    have hxl : xs.length = i := by
      have := congrArg List.length HM.out
      rw [List.length_map, List.length_take] at this
      have := hlen.out
      omega
    by_cases hlt : i < len
    · obtain ⟨b, off, rfl, hbl, hc⟩ := H.out.node (by omega)
      obtain ⟨kp, kl, kc, hnw⟩ := hc i hlt
      have hn := hnw.on hbl HBW.out
      have k0 := hn.kind
      have k1 := hn.at'
      have k2 := hn.text
      have k3 := hn.n
      have k4 := hn.kids
      have HIV := Lib.hid hnw.iv
      have hix : i < ns.length := by have := hlen.out; omega
      have HTK : Hid (ns.take (i + 1) = ns.take i ++ [ns.getD i default]) := Lib.hid (by
        rw [List.take_succ_eq_append_getElem hix]
        simp [List.getD, hix])
      generalize ns.getD i default = nd at *
      have ho := HP.out.own
      rw [hxl] at ho
      have hps := HP.out.below.size
      simp only [World.size_alloc] at hps
      have HXL := Lib.hid hxl
      clear hn hnw hc hix hxl
      have hnew : ((wr.alloc (.cells #[.int .u8 nd.kind, .int .i64 nd.at', .string nd.text, .int .i64 nd.n, .slice kp kl kc] 37)).alloc (.cells #[.int .u8 nd.kind, .int .i64 nd.at', .string nd.text, .int .i64 nd.n, .slice kp kl kc] 41)).heap[wr.heap.size + 1]? = some (.cells #[.int .u8 nd.kind, .int .i64 nd.at', .string nd.text, .int .i64 nd.n, .slice kp kl kc] 41 (0, 0)) := by
        have := heap_alloc_new (wr.alloc (.cells #[.int .u8 nd.kind, .int .i64 nd.at', .string nd.text, .int .i64 nd.n, .slice kp kl kc] 37)) (.cells #[.int .u8 nd.kind, .int .i64 nd.at', .string nd.text, .int .i64 nd.n, .slice kp kl kc] 41)
        rw [World.size_alloc] at this
        exact this
      have HNW := Lib.hid hnew
      clear hnew
      go_wp2_with (at_builtin; refine wpList_append_lies _ rfl (.tmp 18) (.tmp 30) 27 rfl (w.heap.size + 1) 41 i0 _ 5 64 Try.underlying27 I0.out I1.out I2.out I3.out rfl (by decide) u3 i (xs.flatMap kpC) rfl ((ho.alloc _).alloc _) ⟨wr.heap.size + 1, 0, none⟩ 1 1 [.int .u8 nd.kind, .int .i64 nd.at', .string nd.text, .int .i64 nd.n, .slice kp kl kc] rfl rfl (World.news_of_block (cs := #[.int .u8 nd.kind, .int .i64 nd.at', .string nd.text, .int .i64 nd.n, .slice kp kl kc]) (t := 41) (fr := (0, 0)) HNW.out) (nd_one _ _ _ _ _ _ _) (by decide) (by unfold maxLen; omega) (by omega) (by simp; omega) _ rfl ?_)
      intro g cap w5 hown5 hgrow5 _ _
      have HM5 : Hid ((xs ++ [(nd, kp, kl, kc)]).map (·.1) = ns.take (i + 1)) := Lib.hid (by rw [HTK.out, List.map_append, HM.out]; rfl)
      have HX5 : Hid (∀ x ∈ xs ++ [((nd, kp, kl, kc) : KP)], IV w x.2.1 x.2.2.1 x.2.2.2 x.1.kids) := Lib.hid (fun x hx => by
        rcases List.mem_append.1 hx with hx | hx
        · exact HX.out x hx
        · rw [List.mem_singleton] at hx; subst hx; exact HIV.out)
      have HP5 : Hid (PI (w.alloc (.cells #[.slice (some ⟨b, off, none⟩) len c] 24)) (w.heap.size + 1) 41 (.slice (some ⟨g, 0, none⟩) (i + 1) cap) (xs ++ [(nd, kp, kl, kc)]) w5) := Lib.hid ⟨((HP.out.below.alloc (by omega) _).alloc (by simp; omega) _).grown hgrow5 (by simp; omega) (fun k hk => (ho.lt k hk).1), by
        rw [List.flatMap_append, List.length_append, HXL.out]
        exact hown5⟩
      clear hown5 hgrow5 ho
      go_wp2_with fail
      go_roundw
      case rel => exact ⟨i + 1, _, by omega, by go_num, HM5, HX5, HP5⟩
      case measure => simp [intOf]; omega
    · have e : i = ns.length := by have := hlen.out; omega
      have ho := HP.out.own
      have hm := HM.out
      rw [e, List.take_length] at hm
      obtain ⟨p', c', hv, hT⟩ := tv_own ho (fun x hx => (HX.out x hx).on HBW.out)
      rw [hm] at hT
      have HT := Lib.hid hT
      have hxe : xs.length = len := by omega
      have HXE := Lib.hid hxe
      rw [hxe] at hv
      subst hv
      clear hT ho hm e hxe hxl
      go_wp2
      go_ret
      refine ⟨⟨_, _, rfl, ?_⟩, HBW.out⟩
      rw [← HXE.out]; exact HT.out
end Go.Proofs.Ytijaelncmjcbmaa
