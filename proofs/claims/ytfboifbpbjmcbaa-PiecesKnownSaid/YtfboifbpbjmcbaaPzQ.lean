import Derived.Test.YtfboifbpbjmcbaaPzPa
import Derived.BigRegion
namespace Go.Proofs.Ytfboifbpbjmcbaa.Pz
open Go.RowKit
theorem infoRT : (Try.prog.info? 64).map (fun i => (i.zero, i.size, i.bytes)) = some (some (.agg #[.int .u8 0, .int .i64 0, .int .i64 0]), 3, 24) := by kernel_rfl
theorem take_snoc {α : Type} [Inhabited α] (l : List α) (k : Nat) (h : k < l.length) : l.take (k + 1) = l.take k ++ [l.getD k default] := by
  rw [List.take_succ_eq_append_getElem h]
  simp [List.getD, h]
set_option maxHeartbeats 8000000 in
set_option maxRecDepth 1000000 in
theorem plainT_at (w : World) (n₀ len c : Nat) (p : Option Addr) (ts : List Tm) (h : TsIn n₀ w p len c ts) (hn : n₀ ≤ w.heap.size) :
    Calls Try.prog 16 #[.slice p len c] w fun e w' => ∃ v, e = .returned v ∧ w'.ownsRow w.heap.size 64 3 v len (flatT ts) ∧ Below w.heap.size w w' := by
  obtain ⟨i0, hi, hz0, hz1, hz2⟩ := info_of infoRT
  have HT := Lib.hid h
  have hlen := h.len_eq
  have hsz := h.sz
  clear h
  go_enter Try.func16, Try.ntmps16
  go_wp2_with fail
  go_loopw [3, 4] (fun v iv wr => ∃ k : Nat, iv = .int .i64 k ∧ k ≤ len ∧ Hid (wr.ownsRow w.heap.size 64 3 v k (flatT (ts.take k))) ∧ Hid (Below w.heap.size w wr)) (fun _ iv _ => len - (intOf iv).toNat)
  case atStart => exact ⟨0, rfl, Nat.zero_le _, Lib.hid ⟨rfl, Or.inl ⟨rfl, rfl⟩⟩, Lib.hid (Below.refl _ _)⟩
  case round =>
    obtain ⟨k, rfl, hk, HO, HB⟩ := hrel
    obtain ⟨vg, vq, rfl⟩ := own_shape HO.out
    by_cases hlt : k < len
    · obtain ⟨b, off, rfl, hbn, hc⟩ := (HT.out.on (Kb.of HB.out hn)).cell (by omega)
      obtain ⟨m0, m1, m2⟩ := hc k hlt
      have hcap := HT.out.cap
      have HTK := Lib.hid (take_snoc ts k (by omega))
      obtain ⟨x, hx⟩ : ∃ x, ts.getD k default = x := ⟨_, rfl⟩
      rw [hx] at m0 m1 m2 HTK
      obtain ⟨o, ho⟩ : ∃ o, off + k * 3 = o := ⟨_, rfl⟩
      rw [ho] at m0 m1 m2
      have hsr := HB.out.size
      have SK : Hid (∀ W, Kb w.heap.size wr W → W.cell? ⟨b, o, none⟩ = some (.int .u8 x.k) ∧ W.cell? ⟨b, o + 1, none⟩ = some (.int .i64 x.n) ∧ W.cell? ⟨b, o + 2, none⟩ = some (.int .i64 x.v)) := Lib.hid (fun W hW => ⟨hW.cell (by omega) m0, hW.cell (by omega) m1, hW.cell (by omega) m2⟩)
      have BG : Hid (∀ g5 cap5 (w5 : World), (wr.drew.alloc (.cells #[.int .u8 x.k, .int .i64 x.n, .int .i64 x.v] 64)).grownBy w5 (Value.slice vg k vq).ownBlock → w5.ownsRow w.heap.size 64 3 (.slice (some ⟨g5, 0, none⟩) (k + 1) cap5) (k + 1) (flatT (ts.take k) ++ [.int .u8 x.k, .int .i64 x.n, .int .i64 x.v]) → Below w.heap.size wr w5) := Lib.hid (fun g5 cap5 w5 hg _ => (((Below.refl _ wr).drew).alloc hsr _).grown hg (by simp; exact Nat.le_succ_of_le hsr) (fun r e => (HO.out.lt r e).1))
      clear hc hx
      go_wp2_with fail
      go_region_held3 (fun w' => w'.cell? ⟨b, o, none⟩ = some (.int .u8 x.k) ∧ w'.cell? ⟨b, o + 1, none⟩ = some (.int .i64 x.n) ∧ w'.cell? ⟨b, o + 2, none⟩ = some (.int .i64 x.v)) (first | exact ⟨m0, m1, m2⟩ | exact sk5 | go_keep)
        (first
          | (refine step_append_lies _ (by rfl) (.tmp 11) (.tmp 28) 47 (by rfl) w.heap.size 64 i0 _ 3 24 Try.underlying47 hi hz0 hz1 hz2 rfl (by decide) (.slice vg k vq) k (flatT (ts.take k)) (by rfl) (HO.out.drew.alloc _) ⟨wr.heap.size, 0, none⟩ 1 1 [.int .u8 x.k, .int .i64 x.n, .int .i64 x.v] (by rfl) (by rfl) (World.news_of_block (cs := #[.int .u8 x.k, .int .i64 x.n, .int .i64 x.v]) (t := 64) (fr := (0, 0)) (heap_alloc_new _ _)) (by simp [Value.oneCell']) (by decide) (by unfold maxLen; omega) (by omega) (by simp; omega) _ (by rfl) ?_; intro g5 cap5 w5 hown5 hgrow5 hat5 hlt5; have hb5 := Lib.hid (BG.out g5 cap5 w5 hgrow5 hown5); have sk5 := SK.out w5 (Kb.of hb5.out (Nat.le_refl _))))
      go_wp2
      go_roundw
      case rel =>
        refine ⟨k + 1, by simp, by omega, ?_, Lib.hid (HB.out.trans hb5.out)⟩
        rw [HTK.out, flatT_append]
        exact Lib.hid (by simpa [flatT, tmC] using hown5)
      case measure => simp [intOf]; omega
    · obtain rfl : k = len := by omega
      have HR : Hid (ts.take k = ts) := Lib.hid (List.take_of_length_le (by omega))
      go_wp2_with fail
      go_ret
      exact ⟨_, rfl, by have := HO.out; rwa [HR.out] at this, HB.out⟩
theorem infoRS : (Try.prog.info? 47).map (fun i => (i.zero, i.size, i.bytes)) = some (some (.slice none 0 0), 1, 24) := by kernel_rfl
theorem infoRI : (Try.prog.info? 51).map (fun i => (i.zero, i.size, i.bytes)) = some (some (.agg #[.int .u8 0, .int .i64 0, .int .u8 0, .int .i64 0, .bool false, .int .i64 0, .int .i64 0, .int .i64 0, .bool false, .int .i64 0, .int .i64 0, .slice none 0 0, .slice none 0 0]), 13, 136) := by kernel_rfl
/-- While PlainCode copies the rows of an instruction. -/
structure PL (base B : Nat) (x : Ins) (kv vv : Value) (k : Nat) (W : World) : Prop where
  box : BI W B 51 x kv vv
  lo : base ≤ B
  key : W.ownsRow base 64 3 kv x.key.length (flatT x.key)
  row : ∃ kvs : List Value, W.ownsRow base 47 1 vv k kvs ∧ ∀ i, i < k → W.ownsRow base 64 3 (kvs.getD i default) (x.vals.getD i []).length (flatT (x.vals.getD i []))
theorem PL.on {base B : Nat} {x : Ins} {kv vv : Value} {k : Nat} {W W' : World} (h : PL base B x kv vv k W) {m : Nat} (hb : Below m W W') (hm : W.heap.size ≤ m) : PL base B x kv vv k W' where
  box := h.box.on hb hm
  lo := h.lo
  key := own_on h.key hb hm
  row := by
    obtain ⟨kvs, h1, h2⟩ := h.row
    exact ⟨kvs, own_on h1 hb hm, fun i hi => own_on (h2 i hi) hb hm⟩
/-- One row more. -/
theorem PL.push {base B : Nat} {x : Ins} {kv vv vv' nv : Value} {k : Nat} {W W' : World} (h : PL base B x kv vv k W) {kvs : List Value} (h1 : W.ownsRow base 47 1 vv k kvs) (h2 : ∀ i, i < k → W.ownsRow base 64 3 (kvs.getD i default) (x.vals.getD i []).length (flatT (x.vals.getD i [])))
    (h3 : W.ownsRow base 64 3 nv (x.vals.getD k []).length (flatT (x.vals.getD k []))) (h4 : W'.ownsRow base 47 1 vv' (k + 1) (kvs ++ [nv])) (hg : W.grownBy W' vv.ownBlock) : PL base B x kv vv' (k + 1) (W'.setCell ⟨B, 12, none⟩ vv') := by
  have a1 : ∀ r, vv.ownBlock = some r → ∀ cs fr, W.heap[r]? ≠ some (.cells cs 64 fr) := own_row_kind h1 (by decide)
  have hkl : kvs.length = k := by have := h1.1; omega
  have hbx := h.box
  have b1 : BI W' B 51 x kv vv := hbx.grown hg (fun e => by
    obtain ⟨c, fz, h5⟩ := Lib.ownsRow_kind h1 B e
    have := h5.symm.trans (show W.heap[B]? = _ from hbx)
    simp at this)
  have hs := grown_set W' B 12 vv'
  have a2 : ∀ t, t ≠ 51 → ∀ r, some B = some r → ∀ cs fr, W'.heap[r]? ≠ some (.cells cs t fr) := fun t ht r e cs fr h5 => by
    cases e; rw [show W'.heap[B]? = _ from b1] at h5; simp at h5; exact ht h5.2.1.symm
  refine ⟨b1.setVals vv', h.lo, own_apart (own_apart h.key hg a1) hs (a2 _ (by decide)), kvs ++ [nv], own_apart h4 hs (a2 _ (by decide)), fun i hi => ?_⟩
  refine own_apart ?_ hs (a2 _ (by decide))
  by_cases h' : i < k
  · have e2 : (kvs ++ [nv]).getD i default = kvs.getD i default := by simp [List.getD, List.getElem?_append_left (show i < kvs.length by omega)]
    rw [e2]
    exact own_apart (h2 i h') hg a1
  · obtain rfl : i = k := by omega
    have e2 : (kvs ++ [nv]).getD i default = nv := by
      unfold List.getD
      rw [List.getElem?_append_right (by omega), hkl, Nat.sub_self]
      rfl
    rw [e2]
    exact own_apart h3 hg a1
end Go.Proofs.Ytfboifbpbjmcbaa.Pz
