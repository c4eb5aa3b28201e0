import Derived.Test.YtabbodbnjegllaaDoorLexS
import Derived.Deep.AppendLies
namespace Go.Proofs.YtabbodbnjegllaaDoor
open Go.RowKit
theorem infoB : (Tryd.prog.info? 5).map (fun i => (i.zero, i.size, i.bytes)) = some (some (.int .u8 0), 1, 1) := by kernel_rfl
theorem cells_str (l : List Int) (h : ∀ x ∈ l, 0 ≤ x ∧ x < 256) : Lib.strCells (strOfNums l) = l.map (Value.int .u8) := by
  unfold Lib.strCells
  rw [strOfNums_data, List.map_map]
  apply List.map_congr_left
  intro x hx
  have := h x hx
  have e : (UInt8.ofNat x.toNat).toNat = x.toNat := by simp; omega
  simp only [Function.comp, e]
  rw [Int.toNat_of_nonneg this.1]
theorem gap_byte (k : Int) : ∀ x ∈ gapOf k, 0 ≤ x ∧ x < 256 := by
  unfold gapOf
  split
  · decide
  · split
    · decide
    · split <;> decide
theorem gap_len (k : Int) : (gapOf k).length ≤ 8 := by
  unfold gapOf
  split
  · decide
  · split
    · decide
    · split <;> decide
theorem lexN_texts (f p : Nat) (l : List Int) (ts : List Tok) (h : lexN f p l = .ok ts) : (ts.flatMap Tok.text).length ≤ l.length := by
  induction f generalizing p l ts with
  | zero =>
    simp only [lexN, Except.ok.injEq] at h
    subst h
    simp [Tok.endAt]
  | succ f ih =>
    simp only [lexN] at h
    split at h
    · simp only [Except.ok.injEq] at h
      subst h
      simp [Tok.endAt]
    · rename_i c r hd
      split at h
      · simp at h
      · rename_i k len n hs
        have hl := step_len hs
        have hcr : (c :: r).length ≤ l.length := by rw [← hd, List.length_drop]; omega
        cases hu : lexN f (p + blk false l + len) ((c :: r).drop len) with
        | error e => rw [hu] at h; simp [pre] at h
        | ok us =>
          rw [hu] at h
          simp only [pre, Except.ok.injEq, List.singleton_append] at h
          subst h
          have := ih _ _ us hu
          rw [List.length_drop] at this
          rw [List.flatMap_cons, List.length_append, List.length_take]
          omega
theorem again_len (ts : List Tok) (f : Nat → Int) : (again ts fun i => gapOf (f i)).length ≤ (ts.flatMap Tok.text).length + 8 * ts.length := by
  induction ts generalizing f with
  | nil => simp [again]
  | cons t r ih =>
    have := ih (fun i => f (i + 1))
    have h2 := gap_len (f 0)
    simp only [again, List.length_append, List.flatMap_cons, List.length_cons] at this ⊢
    omega
theorem src_own {W : World} {base g n cap : Nat} {l : List Int} (ho : W.ownsRow base 5 1 (.slice (some ⟨g, 0, none⟩) n cap) n (l.map (Value.int .u8))) (hl : l.length = n) (hb : ∀ x ∈ l, 0 ≤ x ∧ x < 256) : Src W (some ⟨g, 0, none⟩) n cap l := by
  refine ⟨hl, fun i => ?_, Or.inr ⟨g, 0, rfl, ?_, (ho.lt g rfl).2, fun i hi => ?_⟩⟩
  · by_cases hi : i < l.length
    · have := hb (l[i]) (List.getElem_mem hi)
      simpa [List.getD, hi] using this
    · simp [List.getD, List.getElem?_eq_none (Nat.le_of_not_lt hi)]
  · rcases ho.2 with ⟨h, _⟩ | ⟨g', cap', cur, hv, _, _, hc, _⟩
    · simp at h
    · simp at hv
      omega
  · rw [Nat.zero_add, ho.cellAt i (by omega)]
    have hi' : i < l.length := by omega
    simp [List.getD, hi']
theorem own_two {W : World} {base : Nat} {v : Value} {cur t gp : List Int} {st sg : ByteArray} {m : Nat} (hm : m = sg.size) (hst : strOfNums t = st) (hsg : strOfNums gp = sg) (ht : ∀ x ∈ t, 0 ≤ x ∧ x < 256) (hg : ∀ x ∈ gp, 0 ≤ x ∧ x < 256)
    (ho : W.ownsRow base 5 1 v (cur.length + st.size + m) (cur.map (Value.int .u8) ++ (Lib.strCells st ++ Lib.strCells sg))) : W.ownsRow base 5 1 v (cur ++ (t ++ gp)).length ((cur ++ (t ++ gp)).map (Value.int .u8)) := by
  subst hst hsg hm
  rw [cells_str t ht, cells_str gp hg, strOfNums_size, strOfNums_size] at ho
  rw [List.length_append, List.length_append, List.map_append, List.map_append, ← Nat.add_assoc]
  exact ho
set_option maxHeartbeats 1000000 in
theorem lexBlanks_big (w : World) (p : Option Addr) (len c : Nat) (v : Value) (hg : ET w) (hb : 600 < len) :
    Calls Tryd.prog 6 #[.slice p len c, v] w fun e w' => e = .returned (.bool true) ∧ Below w.heap.size w w' := by
  have WK := Lib.hid (works w hg)
  clear hg
  go_enter Tryd.func6, Tryd.ntmps6
  go_wp2_with fail
  (with_reducible refine WK.out.mono ?_)
  rintro e w1 ⟨rfl, hb1⟩
  go_wp2
  go_ret
  exact ⟨rfl, hb1⟩
set_option maxHeartbeats 1000000 in
theorem lexBlanks_err (w : World) (p : Option Addr) (len c : Nat) (v : Value) (xs : List Int) (hs : Src w p len c xs) (hg : ET w) (hb : len ≤ 600) (i : Nat) (er : Int) (hx : lexS xs = .error (i, er)) :
    Calls Tryd.prog 6 #[.slice p len c, v] w fun e w' => e = .returned (.bool true) ∧ Below w.heap.size w w' := by
  have LX := Lib.hid (lex_no hs (by omega) hx)
  have HG := Lib.hid hg
  clear hg hs hx
  go_enter Tryd.func6, Tryd.ntmps6
  go_wp2_with fail
  (with_reducible refine LX.out.mono ?_)
  rintro e w1 ⟨b, l, cc, rfl, _, hb1⟩
  have B1 := Lib.hid hb1
  have WK := Lib.hid (works w1 (HG.out.below hb1))
  clear hb1 LX
  go_wp2_with fail
  (with_reducible refine WK.out.mono ?_)
  rintro e w2 ⟨rfl, hb2⟩
  have B2 := Lib.hid (B1.out.trans (hb2.mono B1.out.size))
  clear hb2 WK
  go_wp2
  go_ret
  exact ⟨rfl, B2.out⟩
set_option maxHeartbeats 4000000 in
set_option maxRecDepth 1000000 in
theorem lexBlanks_ok (w : World) (p : Option Addr) (len c : Nat) (xs : List Int) (p2 : Option Addr) (len2 c2 : Nat) (ks : List Int) (hs : Src w p len c xs) (hs2 : Src w p2 len2 c2 ks) (_hm2 : len2 ≤ 9223372036854775807) (hg : ET w) (hb : len ≤ 600) (ts : List Tok) (hx : lexS xs = .ok ts) :
    Calls Tryd.prog 6 #[.slice p len c, .slice p2 len2 c2] w fun e w' => e = .returned (.bool true) ∧ Below w.heap.size w w' := by
  have LX := Lib.hid (lex_ok hs (by omega) hx)
  have HG := Lib.hid hg
  have HS2 := Lib.hid hs2
  have hl2 := Lib.hid hs2.1
  have hlen := Lib.hid hs.1
  have hAL := Lib.hid (again_len ts (fun i => ks.getD i 0))
  have hTX := Lib.hid (lexN_texts _ _ _ ts hx)
  have HLn := Lib.hid (lexN_len _ _ _ ts hx)
  have HBy := Lib.hid (lexN_text _ _ _ (mem_byte hs.2.1) ts hx)
  have hch := (chain_of xs xs.length 0 (by omega) (by omega) ts (by rw [← lexS_at]; exact hx)).2
  have hpos : 0 < (again ts (fun i => gapOf (ks.getD i 0))).length := by
    cases ts with
    | nil => exact absurd rfl hch
    | cons t r =>
      obtain ⟨_, b, br, hbr, _⟩ := gapOf_gap (ks.getD 0 0)
      simp only [again, hbr, List.length_append, List.length_cons]
      omega
  have hrel := fun F hF => relex xs ts 0 0 (fun i => gapOf (ks.getD i 0)) (fun i => gapOf_gap _) (by omega) (by rw [← lexS_at]; exact hx) F hF
  obtain ⟨us, hus, hsame⟩ := hrel ((again ts (fun i => gapOf (ks.getD i 0))).length + 1) (by omega)
  have HU : Hid (lexS (again ts (fun i => gapOf (ks.getD i 0))) = .ok us) := hus
  have HSm := Lib.hid hsame
  have htot : (again ts (fun i => gapOf (ks.getD i 0))).length ≤ 6000 := by have := hAL.out; have := hTX.out; have := HLn.out; have := hlen.out; omega
  obtain ⟨AG, hAG⟩ : ∃ AG, again ts (fun i => gapOf (ks.getD i 0)) = AG := ⟨_, rfl⟩
  rw [hAG] at hpos htot HU
  have HAG := Lib.hid hAG
  have hnn : ts.length ≤ 601 := by have := HLn.out; have := hlen.out; omega
  obtain ⟨n, hn⟩ : ∃ n, ts.length = n := ⟨_, rfl⟩
  rw [hn] at hnn
  have HN := Lib.hid hn
  rw [hn] at LX
  obtain ⟨i0, hi, hz0, hz1, hz2⟩ := info_parts infoB
  have I0 := Lib.hid hi
  have I1 := Lib.hid hz0
  have I2 := Lib.hid hz1
  have I3 := Lib.hid hz2
  clear hg hs hs2 hx hch hrel hus hsame hAG hn hi hz0 hz1 hz2
  go_enter Tryd.func6, Tryd.ntmps6
  go_wp2_with fail
  (with_reducible refine LX.out.mono ?_)
  rintro e w1 ⟨g, cap, rfl, hT, hgw, hb1⟩
  have B1 := Lib.hid hb1
  have T1 := Lib.hid hT
  have hle := hT.le
  rw [HN.out] at hle
  have hglt := hT.lt
  clear hb1 LX hT hgw
  go_wp2_with fail
  go_loopw [7, 8] (fun v iv wr => ∃ (k : Nat) (cur : List Int), k ≤ n ∧ iv = .int .i64 k ∧ cur.length ≤ 6000 ∧ Hid (AG = cur ++ again (ts.drop k) (fun i => gapOf (ks.getD (i + k) 0))) ∧ Hid (∀ x ∈ cur, 0 ≤ x ∧ x < 256) ∧ Hid (wr.ownsRow w1.heap.size 5 1 v cur.length (cur.map (Value.int .u8))) ∧ Hid (Below w1.heap.size w1 wr)) (fun _ iv _ => n - (intOf iv).toNat)
  case atStart => exact ⟨0, [], by omega, rfl, by simp, Lib.hid HAG.out.symm, Lib.hid (fun x hx => by simp at hx), Lib.hid (World.ownsRow_nil _ _ _ _), Lib.hid (Below.refl _ _)⟩
  case round =>
    obtain ⟨k, cur, hk, rfl, hcl, HA, HC, HO, HB⟩ := hrel
    by_cases hlt : k < n
    · obtain ⟨t, ht⟩ : ∃ t, ts[k]? = some t := ⟨ts[k]'(by have := HN.out; omega), List.getElem?_eq_getElem _⟩
      have htb := Lib.hid (HBy.out t (List.mem_of_getElem? ht))
      have k3 := (T1.out.on HB.out).cell (k * 5 + 3) (.string (strOfNums t.text)) (by rw [tok_cell ts k 3 t ht (by omega)]; rfl)
      have hA2 := HA.out
      rw [drop_cons ts k t ht] at hA2
      simp only [again] at hA2
      have hA3 : AG = (cur ++ (t.text ++ gapOf (ks.getD k 0))) ++ again (ts.drop (k + 1)) (fun i => gapOf (ks.getD (i + (k + 1)) 0)) := by
        rw [hA2, Nat.zero_add]
        simp only [List.append_assoc]
        congr 4
        funext i
        rw [Nat.add_assoc, Nat.add_comm 1 k]
      have hcl2 := congrArg List.length hA3
      simp only [List.length_append] at hcl2
      have HA3 := Lib.hid hA3
      obtain ⟨st, hst⟩ : ∃ st, strOfNums t.text = st := ⟨_, rfl⟩
      have hsz : st.size = t.text.length := by rw [← hst, strOfNums_size]
      rw [hst] at k3
      have HST := Lib.hid hst
      have HSZ := Lib.hid hsz
      have hb1 : cur.length + st.size ≤ 6000 := by omega
      have hb2 : cur.length + t.text.length + (gapOf (ks.getD k 0)).length ≤ 6000 := by omega
      have HB2 := Lib.hid hb2
      clear hA2 hA3 hcl2 ht hst hsz hb2
      have ho := HO.out
      have hbz := HB.out.size
      go_wp2_with (at_builtin; refine Lib.wpList_append_own_string _ rfl (.tmp 30) (.tmp 35) 22 9 rfl w1.heap.size 5 i0 Tryd.underlying22 Tryd.underlying9 I0.out I1.out I2.out I3.out u7 cur.length (cur.map (Value.int .u8)) rfl ho st rfl ?c3 ?c4 ?c5 ?_)
      case c3 => unfold maxLen; omega
      case c4 => omega
      case c5 => omega
      intro v2 w2 hown2 hgrow2 _
      have hB2 : Below w1.heap.size w1 w2 := HB.out.grown hgrow2 HB.out.size (fun k hk => (ho.lt k hk).1)
      have HB22 := Lib.hid hB2
      have hO2 := Lib.hid hown2
      have hbz2 := hB2.size
      clear ho hgrow2 hown2 hB2 k3
      by_cases hk2 : k < len2
      · have hsrc2 := HS2.out.below (B1.out.trans (HB22.out.mono B1.out.size))
        obtain ⟨_, hby, hor⟩ := hsrc2
        obtain ⟨b2, off2, rfl, hc2, _, hx2⟩ : ∃ b off, p2 = some ⟨b, off, none⟩ ∧ len2 ≤ c2 ∧ b < w2.heap.size ∧ ∀ i, i < len2 → w2.cell? ⟨b, off + i, none⟩ = some (.int .u8 (ks.getD i 0)) := by
          rcases hor with ⟨h, _⟩ | h
          · omega
          · exact h
        have hcell := hx2 k hk2
        obtain ⟨kv, hkv⟩ : ∃ kv, ks.getD k 0 = kv := ⟨_, rfl⟩
        have hbk := hby k
        rw [hkv] at hcell hbk
        have HKV := Lib.hid hkv
        clear hor hx2 hby hkv
        have hq : kv % 4 = 0 ∨ kv % 4 = 1 ∨ kv % 4 = 2 ∨ kv % 4 = 3 := by omega
        rcases hq with hq | hq | hq | hq
        · have HGQ0 : Hid (gapOf kv = [32]) := Lib.hid (by unfold gapOf; rw [hq]; rfl)
          have hsg : strOfNums (gapOf (ks.getD k 0)) = ⟨#[32]⟩ := by rw [HKV.out, HGQ0.out]; rfl
          have HSG := Lib.hid hsg
          have hb3 : cur.length + st.size + 1 ≤ 6000 := by
            have := HB2.out
            have h2 := congrArg ByteArray.size hsg
            rw [strOfNums_size] at h2
            have h3 : (ByteArray.mk #[32]).size = 1 := rfl
            have := HSZ.out
            omega
          clear hsg
          go_wp2_with (at_builtin; refine Lib.wpList_append_own_string _ rfl (.tmp 45) (.tmp 50) 22 9 rfl w1.heap.size 5 i0 Tryd.underlying22 Tryd.underlying9 I0.out I1.out I2.out I3.out v2 (cur.length + st.size) (cur.map (Value.int .u8) ++ Lib.strCells st) rfl (hO2.out.alloc _) ⟨#[32]⟩ rfl ?ac3 ?ac4 ?ac5 ?_)
          case ac3 => show _ + 1 ≤ maxLen; unfold maxLen; omega
          case ac4 => show _ + 1 ≤ _; omega
          case ac5 => simp; omega
          intro v3 w3 hown3 hgrow3 _
          have HB3 := Lib.hid ((HB22.out.alloc HB22.out.size (.cells #[.string ⟨#[32]⟩, .string ⟨#[10]⟩, .string ⟨#[9, 13]⟩, .string ⟨#[35, 32, 97, 49, 32, 61, 61, 10]⟩] 9)).grown hgrow3 (by simp; omega) (fun k hk => (hO2.out.lt k hk).1))
          have HO3 := Lib.hid (own_two (by rfl) HST.out HSG.out htb.out (gap_byte _) hown3)
          clear hown3 hgrow3
          go_wp2
          go_roundw
          case rel => exact ⟨k + 1, cur ++ (t.text ++ gapOf (ks.getD k 0)), by omega, by go_num, by have := HB2.out; simp only [List.length_append]; omega, HA3, Lib.hid (fun x hx => by
            rcases List.mem_append.1 hx with h | h
            · exact HC.out x h
            · rcases List.mem_append.1 h with h | h
              · exact htb.out x h
              · exact gap_byte _ x h), HO3, HB3⟩
          case measure => simp [intOf]; omega
        · have HGQ1 : Hid (gapOf kv = [10]) := Lib.hid (by unfold gapOf; rw [hq]; rfl)
          have hsg : strOfNums (gapOf (ks.getD k 0)) = ⟨#[10]⟩ := by rw [HKV.out, HGQ1.out]; rfl
          have HSG := Lib.hid hsg
          have hb3 : cur.length + st.size + 1 ≤ 6000 := by
            have := HB2.out
            have h2 := congrArg ByteArray.size hsg
            rw [strOfNums_size] at h2
            have h3 : (ByteArray.mk #[10]).size = 1 := rfl
            have := HSZ.out
            omega
          clear hsg
          go_wp2_with (at_builtin; refine Lib.wpList_append_own_string _ rfl (.tmp 45) (.tmp 50) 22 9 rfl w1.heap.size 5 i0 Tryd.underlying22 Tryd.underlying9 I0.out I1.out I2.out I3.out v2 (cur.length + st.size) (cur.map (Value.int .u8) ++ Lib.strCells st) rfl (hO2.out.alloc _) ⟨#[10]⟩ rfl ?bc3 ?bc4 ?bc5 ?_)
          case bc3 => show _ + 1 ≤ maxLen; unfold maxLen; omega
          case bc4 => show _ + 1 ≤ _; omega
          case bc5 => simp; omega
          intro v3 w3 hown3 hgrow3 _
          have HB3 := Lib.hid ((HB22.out.alloc HB22.out.size (.cells #[.string ⟨#[32]⟩, .string ⟨#[10]⟩, .string ⟨#[9, 13]⟩, .string ⟨#[35, 32, 97, 49, 32, 61, 61, 10]⟩] 9)).grown hgrow3 (by simp; omega) (fun k hk => (hO2.out.lt k hk).1))
          have HO3 := Lib.hid (own_two (by rfl) HST.out HSG.out htb.out (gap_byte _) hown3)
          clear hown3 hgrow3
          go_wp2
          go_roundw
          case rel => exact ⟨k + 1, cur ++ (t.text ++ gapOf (ks.getD k 0)), by omega, by go_num, by have := HB2.out; simp only [List.length_append]; omega, HA3, Lib.hid (fun x hx => by
            rcases List.mem_append.1 hx with h | h
            · exact HC.out x h
            · rcases List.mem_append.1 h with h | h
              · exact htb.out x h
              · exact gap_byte _ x h), HO3, HB3⟩
          case measure => simp [intOf]; omega
        · have HGQ2 : Hid (gapOf kv = [9, 13]) := Lib.hid (by unfold gapOf; rw [hq]; rfl)
          have hsg : strOfNums (gapOf (ks.getD k 0)) = ⟨#[9, 13]⟩ := by rw [HKV.out, HGQ2.out]; rfl
          have HSG := Lib.hid hsg
          have hb3 : cur.length + st.size + 2 ≤ 6000 := by
            have := HB2.out
            have h2 := congrArg ByteArray.size hsg
            rw [strOfNums_size] at h2
            have h3 : (ByteArray.mk #[9, 13]).size = 2 := rfl
            have := HSZ.out
            omega
          clear hsg
          go_wp2_with (at_builtin; refine Lib.wpList_append_own_string _ rfl (.tmp 45) (.tmp 50) 22 9 rfl w1.heap.size 5 i0 Tryd.underlying22 Tryd.underlying9 I0.out I1.out I2.out I3.out v2 (cur.length + st.size) (cur.map (Value.int .u8) ++ Lib.strCells st) rfl (hO2.out.alloc _) ⟨#[9, 13]⟩ rfl ?cc3 ?cc4 ?cc5 ?_)
          case cc3 => show _ + 2 ≤ maxLen; unfold maxLen; omega
          case cc4 => show _ + 2 ≤ _; omega
          case cc5 => simp; omega
          intro v3 w3 hown3 hgrow3 _
          have HB3 := Lib.hid ((HB22.out.alloc HB22.out.size (.cells #[.string ⟨#[32]⟩, .string ⟨#[10]⟩, .string ⟨#[9, 13]⟩, .string ⟨#[35, 32, 97, 49, 32, 61, 61, 10]⟩] 9)).grown hgrow3 (by simp; omega) (fun k hk => (hO2.out.lt k hk).1))
          have HO3 := Lib.hid (own_two (by rfl) HST.out HSG.out htb.out (gap_byte _) hown3)
          clear hown3 hgrow3
          go_wp2
          go_roundw
          case rel => exact ⟨k + 1, cur ++ (t.text ++ gapOf (ks.getD k 0)), by omega, by go_num, by have := HB2.out; simp only [List.length_append]; omega, HA3, Lib.hid (fun x hx => by
            rcases List.mem_append.1 hx with h | h
            · exact HC.out x h
            · rcases List.mem_append.1 h with h | h
              · exact htb.out x h
              · exact gap_byte _ x h), HO3, HB3⟩
          case measure => simp [intOf]; omega
        · have HGQ3 : Hid (gapOf kv = [35, 32, 97, 49, 32, 61, 61, 10]) := Lib.hid (by unfold gapOf; rw [hq]; rfl)
          have hsg : strOfNums (gapOf (ks.getD k 0)) = ⟨#[35, 32, 97, 49, 32, 61, 61, 10]⟩ := by rw [HKV.out, HGQ3.out]; rfl
          have HSG := Lib.hid hsg
          have hb3 : cur.length + st.size + 8 ≤ 6000 := by
            have := HB2.out
            have h2 := congrArg ByteArray.size hsg
            rw [strOfNums_size] at h2
            have h3 : (ByteArray.mk #[35, 32, 97, 49, 32, 61, 61, 10]).size = 8 := rfl
            have := HSZ.out
            omega
          clear hsg
          go_wp2_with (at_builtin; refine Lib.wpList_append_own_string _ rfl (.tmp 45) (.tmp 50) 22 9 rfl w1.heap.size 5 i0 Tryd.underlying22 Tryd.underlying9 I0.out I1.out I2.out I3.out v2 (cur.length + st.size) (cur.map (Value.int .u8) ++ Lib.strCells st) rfl (hO2.out.alloc _) ⟨#[35, 32, 97, 49, 32, 61, 61, 10]⟩ rfl ?dc3 ?dc4 ?dc5 ?_)
          case dc3 => show _ + 8 ≤ maxLen; unfold maxLen; omega
          case dc4 => show _ + 8 ≤ _; omega
          case dc5 => simp; omega
          intro v3 w3 hown3 hgrow3 _
          have HB3 := Lib.hid ((HB22.out.alloc HB22.out.size (.cells #[.string ⟨#[32]⟩, .string ⟨#[10]⟩, .string ⟨#[9, 13]⟩, .string ⟨#[35, 32, 97, 49, 32, 61, 61, 10]⟩] 9)).grown hgrow3 (by simp; omega) (fun k hk => (hO2.out.lt k hk).1))
          have HO3 := Lib.hid (own_two (by rfl) HST.out HSG.out htb.out (gap_byte _) hown3)
          clear hown3 hgrow3
          go_wp2
          go_roundw
          case rel => exact ⟨k + 1, cur ++ (t.text ++ gapOf (ks.getD k 0)), by omega, by go_num, by have := HB2.out; simp only [List.length_append]; omega, HA3, Lib.hid (fun x hx => by
            rcases List.mem_append.1 hx with h | h
            · exact HC.out x h
            · rcases List.mem_append.1 h with h | h
              · exact htb.out x h
              · exact gap_byte _ x h), HO3, HB3⟩
          case measure => simp [intOf]; omega
      · have hk0 : gapOf (ks.getD k 0) = [32] := by
          have e : ks.getD k 0 = 0 := by simp [List.getD, List.getElem?_eq_none (show ks.length ≤ k by have := hl2.out; omega)]
          rw [e]
          rfl
        have HK0 := Lib.hid hk0
        clear hk0
        have hsg : strOfNums (gapOf (ks.getD k 0)) = ⟨#[32]⟩ := by rw [HK0.out]; rfl
        have HSG := Lib.hid hsg
        have hb3 : cur.length + st.size + 1 ≤ 6000 := by
          have := HB2.out
          have h2 := congrArg ByteArray.size hsg
          rw [strOfNums_size] at h2
          have h3 : (ByteArray.mk #[32]).size = 1 := rfl
          have := HSZ.out
          omega
        clear hsg
        go_wp2_with (at_builtin; refine Lib.wpList_append_own_string _ rfl (.tmp 45) (.tmp 50) 22 9 rfl w1.heap.size 5 i0 Tryd.underlying22 Tryd.underlying9 I0.out I1.out I2.out I3.out v2 (cur.length + st.size) (cur.map (Value.int .u8) ++ Lib.strCells st) rfl (hO2.out.alloc _) ⟨#[32]⟩ rfl ?zc3 ?zc4 ?zc5 ?_)
        case zc3 => show _ + 1 ≤ maxLen; unfold maxLen; omega
        case zc4 => show _ + 1 ≤ _; omega
        case zc5 => simp; omega
        intro v3 w3 hown3 hgrow3 _
        have HB3 := Lib.hid ((HB22.out.alloc HB22.out.size (.cells #[.string ⟨#[32]⟩, .string ⟨#[10]⟩, .string ⟨#[9, 13]⟩, .string ⟨#[35, 32, 97, 49, 32, 61, 61, 10]⟩] 9)).grown hgrow3 (by simp; omega) (fun k hk => (hO2.out.lt k hk).1))
        have HO3 := Lib.hid (own_two (by rfl) HST.out HSG.out htb.out (gap_byte _) hown3)
        clear hown3 hgrow3
        go_wp2
        go_roundw
        case rel => exact ⟨k + 1, cur ++ (t.text ++ gapOf (ks.getD k 0)), by omega, by go_num, by have := HB2.out; simp only [List.length_append]; omega, HA3, Lib.hid (fun x hx => by
          rcases List.mem_append.1 hx with h | h
          · exact HC.out x h
          · rcases List.mem_append.1 h with h | h
            · exact htb.out x h
            · exact gap_byte _ x h), HO3, HB3⟩
        case measure => simp [intOf]; omega
    · have hkn : k = n := by omega
      have hcur : AG = cur := by
        have := HA.out
        rw [List.drop_eq_nil_of_le (by have := HN.out; omega)] at this
        simpa [again] using this
      have HCU := Lib.hid hcur
      have hpc : 0 < cur.length := by rw [← hcur]; exact hpos
      have ho := HO.out
      obtain ⟨g2, cap2, rfl, _, hg2⟩ := ho.form hpc
      have hsrc := src_own ho rfl HC.out
      have LX2 := Lib.hid (lex_ok hsrc (by omega) (by rw [← HCU.out]; exact HU.out))
      clear hkn hcur ho hsrc
      go_wp2_with fail
      (with_reducible refine LX2.out.mono ?_)
      rintro e w5 ⟨g5, cap5, rfl, hT5, _, hb5⟩
      have hul : us.length = n := by rw [← sameAll_length HSm.out]; exact HN.out
      have B5 := Lib.hid (HB.out.trans (hb5.mono HB.out.size))
      have WD := Lib.hid (words_at w5 g cap g5 cap5 n ts us (T1.out.on B5.out) hT5 HSm.out HN.out (by omega))
      have hul2 := hul
      have HUL := Lib.hid hul
      clear hul hb5 LX2 hT5
      go_wp2_with fail
      (with_reducible refine WD.out.mono ?_)
      rintro e w6 ⟨rfl, hb6⟩
      have B6 := Lib.hid (B1.out.trans ((B5.out.trans (hb6.mono B5.out.size)).mono B1.out.size))
      have WK := Lib.hid (works w6 (HG.out.below B6.out))
      clear hb6 WD
      go_wp2_with fail
      (with_reducible refine WK.out.mono ?_)
      rintro e w7 ⟨rfl, hb7⟩
      have B7 := Lib.hid (B6.out.trans (hb7.mono B6.out.size))
      clear hb7 WK
      go_wp2
      go_ret
      exact ⟨rfl, B7.out⟩
theorem lexBlanks (w : World) (p : Option Addr) (len c : Nat) (xs : List Int) (p2 : Option Addr) (len2 c2 : Nat) (ks : List Int) (hs : Src w p len c xs) (hs2 : Src w p2 len2 c2 ks) (hm2 : len2 ≤ 9223372036854775807) (hg : ET w) :
    Calls Tryd.prog 6 #[.slice p len c, .slice p2 len2 c2] w fun e w' => e = .returned (.bool true) ∧ Below w.heap.size w w' := by
  by_cases hb : len ≤ 600
  · cases hx : lexS xs with
    | error e => exact lexBlanks_err w p len c _ xs hs hg hb e.1 e.2 hx
    | ok ts => exact lexBlanks_ok w p len c xs p2 len2 c2 ks hs hs2 hm2 hg hb ts hx
  · exact lexBlanks_big w p len c _ hg (by omega)
end Go.Proofs.YtabbodbnjegllaaDoor
