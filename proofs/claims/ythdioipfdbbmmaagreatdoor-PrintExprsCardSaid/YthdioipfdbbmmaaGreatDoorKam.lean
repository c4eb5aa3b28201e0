/- Contracts on the way to the laws of layer 5: LexF, LexG, LexN, LexP. -/
import Derived.Test.YthdioipfdbbmmaaGreatDoorKaa
import Derived.Test.YthdioipfdbbmmaaGreatDoorKaf
import Derived.Test.YthdioipfdbbmmaaGreatDoorKal
import Derived.Deep.AppendLies
import Derived.Deep.Onto
import Derived.Laws.EntriesVeiled
import Derived.Lib.SlBytesConst
import Derived.Lib.BufferRead
import Derived.Laws.IdiomStrings
set_option linter.all false
set_option maxRecDepth 1000000
set_option maxHeartbeats 16000000
namespace Go.Proofs.YthdioipfdbbmmaaGreatDoor
section
open Go.RowKit
def tokC (t : Tok) : List Value := [.int .u8 t.kind, .int .i64 t.at', .int .i64 t.stop, .string (strOfNums t.text), .int .i64 t.n]
def cellsT (ts : List Tok) : List Value := ts.flatMap tokC
theorem cellsT_snoc (ts : List Tok) (t : Tok) : cellsT (ts ++ [t]) = cellsT ts ++ tokC t := by simp [cellsT]
theorem bl_idem (xs : List Int) (i : Nat) : bl xs (bl xs i) = bl xs i := by
 have := blk_done false (xs.drop i)
 rw [List.drop_drop] at this
 unfold bl
 omega
theorem step_err {l : List Int} {er : Int} (h : step l = .err er) (hl : 0 < l.length) : er = 30 ∨ er = 31 := by
 cases l with
 | nil => simp at hl
 | cons c r =>
  simp only [step] at h
  split at h
  · simp at h
  · split at h
    · split at h <;> simp at h
      exact Or.inr h.symm
    · split at h <;> simp at h
      exact Or.inl h.symm
theorem info29 : (Tryz.prog.info? 29).map (fun i => (i.zero, i.size, i.bytes)) = some (some (.agg #[.int .u8 0, .int .i64 0, .int .i64 0, .string ⟨#[]⟩, .int .i64 0]), 5, 48) := by kernel_rfl
def LexPost (xs : List Int) (w : World) (e : Ending) (w' : World) : Prop :=
 (match lexS xs with
  | .ok ts => ∃ g cap, e = .returned (.tuple #[.slice (some ⟨g, 0, none⟩) ts.length cap, .nilIface]) ∧ w'.ownsRow w.heap.size 29 5 (.slice (some ⟨g, 0, none⟩) ts.length cap) ts.length (cellsT ts)
  | .error (i, er) => ∃ B l c, e = .returned (.tuple #[.slice none 0 0, .iface 109 (.pointer (some ⟨B, 0, none⟩))]) ∧ w.heap.size ≤ B ∧ ErrAt w' B i l c er) ∧ Below w.heap.size w w'
theorem lexPost_err {xs : List Int} {i : Nat} {er l c : Int} {w W : World} {B : Nat} (h : lexS xs = .error (i, er)) (hB : w.heap.size ≤ B) (hE : ErrAt W B i l c er) (hb : Below w.heap.size w W) :
 LexPost xs w (.returned (.tuple #[.slice none 0 0, .iface 109 (.pointer (some ⟨B, 0, none⟩))])) W := by
 refine ⟨?_, hb⟩
 rw [h]
 exact ⟨B, l, c, rfl, hB, hE⟩
theorem lexPost_ok {xs : List Int} {ts : List Tok} {w W : World} {g n cap : Nat} {cs : List Value} (h : lexS xs = .ok ts) (hn : n = ts.length) (hc : cs = cellsT ts) (ho : W.ownsRow w.heap.size 29 5 (.slice (some ⟨g, 0, none⟩) n cap) n cs) (hb : Below w.heap.size w W) :
 LexPost xs w (.returned (.tuple #[.slice (some ⟨g, 0, none⟩) n cap, .nilIface])) W := by
 subst hn hc
 refine ⟨?_, hb⟩
 rw [h]
 exact ⟨g, cap, rfl, ho⟩
theorem sk_of {w W : World} {p : Option Addr} {len c : Nat} {xs : List Int} (hs : Src w p len c xs) (hk : KW w W (FK 6)) : SK W p len c (w.heap.size + 1) xs where
 len_eq := hs.1
 byte := hs.2.1
 addr := fun hl => by
  rcases hs.2.2 with ⟨h, _⟩ | ⟨b, off, e, hc, hb, hx⟩
  · omega
  · exact ⟨b, off, e, Nat.lt_of_lt_of_le hb hk.below.size, fun i hi => by rw [hk.below.cell (p := ⟨b, off + i, none⟩) hb]; exact hx i hi⟩
 cap := by
  rcases hs.2.2 with ⟨h, h'⟩ | ⟨b, off, e, hc, hb, hx⟩ <;> omega
 kinds := fun k hk' => by rw [hk.arr k hk', FK_kind k hk']
 kbl := hk.size
theorem new_err {w W : World} {p : Option Addr} {len c k : Nat} {xs : List Int} {at' n : Int} (h0 : n ≠ 0) (hb : len ≤ 70000) (hk : min (max at' 0) (len : Int) = (k : Int)) (hs : Src w p len c xs) (hW : Below w.heap.size w W) :
 ∃ B l cc, w.heap.size ≤ B ∧ Calls Tryz.prog 46 #[.slice p len c, .int .i64 at', .int .i64 n] W fun e w' => e = .returned (.iface 109 (.pointer (some ⟨B, 0, none⟩))) ∧ ErrAt w' B k l cc n ∧ Below W.heap.size W w' :=
 ⟨W.heap.size + 1, _, _, by have := hW.size; omega, (new_src p len c k xs at' n W h0 hb hk (hs.below hW)).mono fun _ _ ⟨h1, h2⟩ => ⟨h1, h2.at_, h2.below⟩⟩
structure LexInv (w W1 : World) (p : Option Addr) (len c : Nat) (v : Value) (ts : List Tok) (W : World) : Prop where
 below : Below (W1.heap.size + 1) (W1.alloc (.cells #[.slice p len c, .func (.func 87) #[] #[.pointer (some ⟨w.heap.size + 1, 0, none⟩)]] 90)) W
 own : W.ownsRow (W1.heap.size + 1) 29 5 v ts.length (cellsT ts)
theorem LexInv.on {w W1 W W' : World} {p : Option Addr} {len c : Nat} {v : Value} {ts : List Tok} (h : LexInv w W1 p len c v ts W) (hb : Below W.heap.size W W') : LexInv w W1 p len c v ts W' where
 below := h.below.trans (hb.mono (by have := h.below.size; simpa using this))
 own := h.own.kept (row := none) ⟨hb.os, hb.tape, hb.output, hb.size, fun k hk _ => hb.block k hk⟩ (by
  cases hv : v.ownBlock with
  | none => exact Or.inl rfl
  | some k => exact Or.inr (by simp))
theorem LexInv.push {w W1 W W' w5 : World} {p : Option Addr} {len c g cap : Nat} {v : Value} {ts : List Tok} (h : LexInv w W1 p len c v ts W) (hW : Below W.heap.size W W') (hg : W'.grownBy w5 v.ownBlock) (t : Tok) (cs : List Value) (hc : cs = tokC t)
 (ho : w5.ownsRow (W1.heap.size + 1) 29 5 (.slice (some ⟨g, 0, none⟩) (ts.length + 1) cap) (ts.length + 1) (cellsT ts ++ cs)) : LexInv w W1 p len c (.slice (some ⟨g, 0, none⟩) (ts.length + 1) cap) (ts ++ [t]) w5 where
 below := (h.on hW).below.grown hg (by have := h.below.size; have := hW.size; simp at *; omega) (fun k hk => (h.own.lt k hk).1)
 own := by rw [cellsT_snoc, ← hc, List.length_append]; exact ho
theorem tok_one (k i j n : Int) (st : ByteArray) : ∀ u ∈ ([.int .u8 k, .int .i64 i, .int .i64 j, .string st, .int .i64 n] : List Value), u.oneCell' = true := by
 intro u hu
 simp only [List.mem_cons, List.not_mem_nil, or_false] at hu
 rcases hu with rfl | rfl | rfl | rfl | rfl <;> rfl
theorem two_below (W : World) (o1 o2 : Obj) : Below W.heap.size W ((W.alloc o1).alloc o2) := ((Below.refl _ _).alloc (Nat.le_refl _) _).alloc (by simp) _
theorem one_below (W : World) (o1 : Obj) : Below W.heap.size W (W.alloc o1) := (Below.refl _ _).alloc (Nat.le_refl _) _
theorem LexInv.all {w W1 W : World} {p : Option Addr} {len c : Nat} {v : Value} {ts : List Tok} (h : LexInv w W1 p len c v ts W) (hk : KW w W1 (FK 6)) : Below w.heap.size w W :=
 (hk.below.alloc (by have := hk.below.size; simpa using this) _).trans (h.below.mono (by have := hk.below.size; omega))
theorem LexInv.b0 {w W1 W : World} {p : Option Addr} {len c : Nat} {v : Value} {ts : List Tok} (h : LexInv w W1 p len c v ts W) : W.cell? ⟨W1.heap.size, 0, none⟩ = some (.slice p len c) := by
 rw [h.below.cell (p := ⟨W1.heap.size, 0, none⟩) (by simp)]; simp
theorem LexInv.b1 {w W1 W : World} {p : Option Addr} {len c : Nat} {v : Value} {ts : List Tok} (h : LexInv w W1 p len c v ts W) : W.cell? ⟨W1.heap.size, 1, none⟩ = some (.func (.func 87) #[] #[.pointer (some ⟨w.heap.size + 1, 0, none⟩)]) := by
 rw [h.below.cell (p := ⟨W1.heap.size, 1, none⟩) (by simp)]; simp
theorem LexInv.sk {w W1 W : World} {p : Option Addr} {len c : Nat} {v : Value} {ts : List Tok} {xs : List Int} (h : LexInv w W1 p len c v ts W) (hs : SK W1 p len c (w.heap.size + 1) xs) : SK W p len c (w.heap.size + 1) xs :=
 (hs.alloc _).on (by simp) h.below
theorem lex_at (w : World) (p : Option Addr) (len c : Nat) (xs : List Int) (h : Src w p len c xs) (hb : len ≤ 65536) :
 Calls Tryz.prog 14 #[.slice p len c] w (LexPost xs w) := by
 have hlen := lh h.1
 have HS := lh h
 obtain ⟨i0, hi, hz0, hz1, hz2⟩ := info_parts info29
 have HK := lh (byteKinds_run w)
 clear h
 have I0 := lh hi
 have I1 := lh hz0
 have I2 := lh hz1
 have I3 := lh hz2
 clear hi hz0 hz1 hz2
 go_enter Tryz.func14, Tryz.ntmps14
 go_wp2_with fail
 (with_reducible refine HK.out.mono ?_)
 rintro e W1 ⟨rfl, hk⟩
 have KK := lh hk
 have hsk := lh (sk_of HS.out hk)
 have hs1 := lh (hk.size)
 clear hk HK
 go_wp2_with fail
 have PB : Calls Tryz.prog 48 #[.agg #[.slice p len c, .func (.func 87) #[] #[.pointer (some ⟨w.heap.size + 1, 0, none⟩)]], .int .i64 0] (W1.alloc (.cells #[.slice p len c, .func (.func 87) #[] #[.pointer (some ⟨w.heap.size + 1, 0, none⟩)]] 90)) _ := pastBlanks_at (W1.alloc (.cells #[.slice p len c, .func (.func 87) #[] #[.pointer (some ⟨w.heap.size + 1, 0, none⟩)]] 90)) p len c (w.heap.size + 1) 0 xs (hsk.out.alloc _) (by omega) (by omega)
 (with_reducible refine PB.mono ?_)
 rintro e W3 ⟨rfl, hb3⟩
 have HI : Hid (LexInv w W1 p len c (.slice none 0 0) [] W3) := lh ⟨by simpa using hb3, World.ownsRow_nil _ _ _ _⟩
 have hb0 := lh (bl_le xs 0 (by omega))
 clear hb3 PB
 go_wp2_with fail
 go_loopw [5, 6] (fun v iv wr => ∃ (i : Nat) (ts : List Tok), i ≤ len ∧ ts.length ≤ i ∧ iv = .int .i64 i ∧ Hid (bl xs i = i) ∧ Hid (lexS xs = pre ts (lexAt xs i)) ∧ Hid (LexInv w W1 p len c v ts wr)) (fun _ iv _ => len - (intOf iv).toNat)
 case atStart => exact ⟨bl xs 0, [], by have := hb0.out; have := hlen.out; omega, by simp, rfl, lh (bl_idem xs 0), lh (by rw [lexS_at, lexAt_bl xs 0 (by omega), pre_nil]), HI⟩
 case round =>
  obtain ⟨i, ts, hil, htl, rfl, HB, HL, HV⟩ := hrel
  have c0 := HV.out.b0
  have c1 := HV.out.b1
  have hskr := lh (HV.out.sk hsk.out)
  have hall := lh (HV.out.all KK.out)
  have hsz := hall.out.size
  by_cases hlt : i < len
  · have TA := tokenAt_at wr p len c (w.heap.size + 1) i xs hskr.out (by omega) hlt
    have hix : i < xs.length := by have := hlen.out; omega
    cases hst : step (xs.drop i) with
    | err er =>
     have TA1 := TA.mono (R' := fun e w' => e = .returned (.tuple #[tokV 0 0 0 ⟨#[]⟩ 0, .int .i64 er]) ∧ Below wr.heap.size wr w') (fun e w' h => ⟨by
      have h1 := h.1
      rw [hst] at h1
      exact h1, h.2⟩)
     have her : er ≠ 0 := by
      have := step_err hst (by rw [List.length_drop]; omega)
      omega
     have her' : (er != 0) = true := by simpa using her
     have HE := lh (lexAt_err xs i er hix HB.out hst)
     clear TA hst hix
     go_wp2_with fail
     (with_reducible refine TA1.mono ?_)
     rintro e w4 ⟨rfl, hb4⟩
     have hV4 := lh (HV.out.on hb4)
     clear hb4 TA1
     go_wp2_with fail
     obtain ⟨B, l, cc, hB, NA⟩ := new_err (W := w4.alloc (.cells #[.int .u8 0, .int .i64 0, .int .i64 0, .string ⟨#[]⟩, .int .i64 0] 29)) her (by omega) (show min (max (i : Int) 0) (len : Int) = (i : Int) by omega) HS.out ((hV4.out.all KK.out).alloc (by have := (hV4.out.all KK.out).size; simpa using this) _)
     have HN := lh NA
     clear NA
     (with_reducible refine HN.out.mono ?_)
     rintro e w5 ⟨rfl, hE, hb5⟩
     have HEr := lh hE
     have HB5 := lh (((hV4.out.all KK.out).alloc (by have := (hV4.out.all KK.out).size; simpa using this) (.cells #[.int .u8 0, .int .i64 0, .int .i64 0, .string ⟨#[]⟩, .int .i64 0] 29)).trans (hb5.mono (by have := (hV4.out.all KK.out).size; simp; omega)))
     clear hE hb5 HN
     go_wp2
     go_ret2
     exact lexPost_err (by rw [HL.out, HE.out]; rfl) hB HEr.out HB5.out
    | tok k l n =>
     have hsl := step_len hst
     rw [List.length_drop] at hsl
     have HT := lh (lexAt_tok xs i k l n hix HB.out hst)
     obtain ⟨j, hj⟩ : ∃ j, i + l = j := ⟨_, rfl⟩
     obtain ⟨st, ht⟩ : ∃ st, strOfNums ((xs.drop i).take l) = st := ⟨_, rfl⟩
     have TA1 := TA.mono (R' := fun e w' => e = .returned (.tuple #[tokV k i j st n, .int .i64 0]) ∧ Below wr.heap.size wr w') (fun e w' h => ⟨by
      have h1 := h.1
      rw [hst] at h1
      rw [h1, ← ht, ← hj], h.2⟩)
     have hij : i < j := by omega
     have hjl : j ≤ len := by have := hlen.out; omega
     have HJ := lh hj
     have HSt := lh ht
     have hbj := lh (bl_le xs j (by have := hlen.out; omega))
     have hbb := lh (lexAt_bl xs j (by have := hlen.out; omega))
     clear TA hst hix hj ht hsl
     go_wp2_with fail
     (with_reducible refine TA1.mono ?_)
     rintro e w4 ⟨rfl, hb4⟩
     have hV4 := lh (HV.out.on hb4)
     have ho4 := hV4.out.own
     have hz4 := hV4.out.below.size
     simp only [World.size_alloc] at hz4
     have d0 := hV4.out.b0
     have d1 := hV4.out.b1
     clear hb4 TA1 HV c0 c1 hskr hall
     go_wp2_with (at_builtin; refine wpList_append_lies _ rfl (.tmp 35) (.tmp 37) 23 rfl (W1.heap.size + 1) 29 i0 _ 5 48 Tryz.underlying23 I0.out I1.out I2.out I3.out rfl (by decide) u5 ts.length (cellsT ts) rfl ((ho4.alloc _).alloc _) ⟨w4.heap.size + 1, 0, none⟩ 1 1 [.int .u8 k, .int .i64 i, .int .i64 j, .string st, .int .i64 n] rfl rfl ?c1 ?c2 (by decide) ?c3 ?c4 ?c5 _ rfl ?_)
     case c1 =>
      refine World.news_of_block (cs := #[.int .u8 k, .int .i64 i, .int .i64 j, .string st, .int .i64 n]) (t := 29) (fr := (0, 0)) ?_
      have := heap_alloc_new (w4.alloc (.cells #[.int .u8 k, .int .i64 i, .int .i64 j, .string st, .int .i64 n] 29)) (.cells #[.int .u8 k, .int .i64 i, .int .i64 j, .string st, .int .i64 n] 29)
      simpa using this
     case c2 => exact tok_one _ _ _ _ _
     case c3 => unfold maxLen; omega
     case c4 => omega
     case c5 => simp; omega
     intro g cap w5 hown5 hgrow5 hat5 hlt5
     have hV5 := lh (hV4.out.push (two_below w4 _ _) hgrow5 ⟨k, i, j, (xs.drop i).take l, n⟩ _ (by rw [tokC, HSt.out]) hown5)
     have e2 : w5.cell? ⟨w4.heap.size, 2, none⟩ = some (.int .i64 j) := by
      rw [hgrow5.cell_far ⟨w4.heap.size, 2, none⟩ (by simp; omega) (fun e => by have := (ho4.lt _ e.symm).2; simp at this)]
      simp
     have x0 := hV5.out.b0
     have x1 := hV5.out.b1
     have PB := pastBlanks_at w5 p len c (w.heap.size + 1) j xs (hV5.out.sk hsk.out) (by omega) hjl
     clear hown5 hgrow5 hat5 hlt5 ho4 d0 d1
     go_wp2_with fail
     (with_reducible refine PB.mono ?_)
     rintro e w6 ⟨rfl, hb6⟩
     have hV6 := lh (hV5.out.on hb6)
     clear hb6 PB x0 x1 e2
     go_wp2_with fail
     go_roundw
     case rel => exact ⟨bl xs j, ts ++ [⟨k, i, j, (xs.drop i).take l, n⟩], by have := hbj.out; have := hlen.out; omega, by simp; have := hbj.out; omega, rfl, lh (bl_idem xs j), lh (by rw [HL.out, HT.out, HJ.out, pre_pre, ← hbb.out]), hV6⟩
     case measure => have := hbj.out; have := hlen.out; simp [intOf]; omega
  · have hil2 : i = len := by omega
    have HE := lh (lexAt_end xs i (by have := hlen.out; omega))
    have ho4 := HV.out.own
    have hz4 := HV.out.below.size
    simp only [World.size_alloc] at hz4
    clear hskr hall hil2 c0 c1
    go_wp2_with (at_builtin; refine wpList_append_lies _ rfl (.tmp 43) (.tmp 47) 23 rfl (W1.heap.size + 1) 29 i0 _ 5 48 Tryz.underlying23 I0.out I1.out I2.out I3.out rfl (by decide) u5 ts.length (cellsT ts) rfl (ho4.alloc _) ⟨wr.heap.size, 0, none⟩ 1 1 [.int .u8 4, .int .i64 i, .int .i64 i, .string ⟨#[]⟩, .int .i64 0] rfl rfl ?d1 ?d2 (by decide) ?d3 ?d4 ?d5 _ rfl ?_)
    case d1 =>
     refine World.news_of_block (cs := #[.int .u8 4, .int .i64 i, .int .i64 i, .string ⟨#[]⟩, .int .i64 0]) (t := 29) (fr := (0, 0)) ?_
     exact heap_alloc_new _ _
    case d2 => exact tok_one _ _ _ _ _
    case d3 => unfold maxLen; omega
    case d4 => omega
    case d5 => simp; omega
    intro g cap w5 hown5 hgrow5 hat5 hlt5
    have hV5 := lh (HV.out.push (one_below wr _) hgrow5 (Tok.endAt i) _ (by simp [tokC, Tok.endAt, strOfNums]) hown5)
    have HA := lh (hV5.out.all KK.out)
    clear hown5 hgrow5 hat5 hlt5 ho4
    go_wp2
    go_ret2
    exact lexPost_ok (ts := ts ++ [Tok.endAt i]) (by rw [HL.out, HE.out]; rfl) (by simp) (by rfl) (by have := hV5.out.own; rw [List.length_append] at this; exact this.mono (by have := KK.out.below.size; omega)) HA.out
end
section
open Go.RowKit
structure TR (W : World) (g cap : Nat) (ts : List Tok) : Prop where
 lt : g < W.heap.size
 le : ts.length ≤ cap
 cell : ∀ j u, (cellsT ts)[j]? = some u → W.cell? ⟨g, j, none⟩ = some u
theorem TR.on {W W' : World} {g cap : Nat} {ts : List Tok} (h : TR W g cap ts) (hb : Below W.heap.size W W') : TR W' g cap ts where
 lt := Nat.lt_of_lt_of_le h.lt hb.size
 le := h.le
 cell := fun j u hj => by rw [hb.cell (p := ⟨g, j, none⟩) h.lt]; exact h.cell j u hj
theorem TR.of {W : World} {base g cap : Nat} {ts : List Tok} (ho : W.ownsRow base 29 5 (.slice (some ⟨g, 0, none⟩) ts.length cap) ts.length (cellsT ts)) : TR W g cap ts where
 lt := (ho.lt g rfl).2
 le := by
  rcases ho.2 with ⟨h, _⟩ | ⟨g', cap', cur, hv, _, _, hc, _⟩
  · simp at h
  · simp at hv
    omega
 cell := fun j u hj => by
  rw [ho.cellAt j (by rw [← ho.1]; exact (List.getElem?_eq_some_iff.1 hj).1)]
  exact hj
theorem lex_ok {w : World} {p : Option Addr} {len c : Nat} {xs : List Int} {ts : List Tok} (h : Src w p len c xs) (hb : len ≤ 65536) (he : lexS xs = .ok ts) :
 Calls Tryz.prog 14 #[.slice p len c] w fun e w' => ∃ g cap, e = .returned (.tuple #[.slice (some ⟨g, 0, none⟩) ts.length cap, .nilIface]) ∧ TR w' g cap ts ∧ w.heap.size ≤ g ∧ Below w.heap.size w w' :=
 (lex_at w p len c xs h hb).mono fun e w' ⟨h1, h2⟩ => by
  rw [he] at h1
  obtain ⟨g, cap, e1, ho⟩ := h1
  exact ⟨g, cap, e1, TR.of ho, (ho.lt g rfl).1, h2⟩
theorem lex_no {w : World} {p : Option Addr} {len c : Nat} {xs : List Int} {i : Nat} {er : Int} (h : Src w p len c xs) (hb : len ≤ 65536) (he : lexS xs = .error (i, er)) :
 Calls Tryz.prog 14 #[.slice p len c] w fun e w' => ∃ B l cc, e = .returned (.tuple #[.slice none 0 0, .iface 109 (.pointer (some ⟨B, 0, none⟩))]) ∧ ErrAt w' B i l cc er ∧ Below w.heap.size w w' :=
 (lex_at w p len c xs h hb).mono fun e w' ⟨h1, h2⟩ => by
  rw [he] at h1
  obtain ⟨B, l, cc, e1, _, hE⟩ := h1
  exact ⟨B, l, cc, e1, hE, h2⟩
theorem src_const (W : World) (C : Array Value) (zs : List Int) (n : Nat) (hC : C = (zs.map (Value.int .u8)).toArray) (hn : zs.length = n) (hz : ∀ z ∈ zs, 0 ≤ z ∧ z < 256) (a b : Nat) :
 Src (W.alloc (.cells C 5 (a, b))) (some ⟨W.heap.size, 0, none⟩) n n zs := by
 refine ⟨hn, fun i => ?_, Or.inr ⟨W.heap.size, 0, rfl, Nat.le_refl _, by simp, fun i hi => ?_⟩⟩
 · by_cases hi : i < zs.length
   · have := hz (zs[i]) (List.getElem_mem hi)
     simpa [List.getD, hi] using this
   · simp [List.getD, List.getElem?_eq_none (Nat.le_of_not_lt hi)]
 · rw [Nat.zero_add, World.cell?_alloc_mark]
   subst hC
   have hi' : i < zs.length := by omega
   simp [List.getD, hi']
end
section
open Go.RowKit
def Chain (xs : List Int) : Nat → List Tok → Prop
 | p, [] => p = xs.length
 | p, t :: r => p ≤ xs.length ∧ t.at' = bl xs p ∧ t.at' ≤ t.stop ∧ t.stop ≤ xs.length ∧ t.text = (xs.drop t.at').take (t.stop - t.at') ∧ ((t.kind = 4) ↔ r = []) ∧ Chain xs t.stop r
theorem tok_cell (ts : List Tok) (k j : Nat) (t : Tok) (hk : ts[k]? = some t) (hj : j < 5) : (cellsT ts)[k * 5 + j]? = (tokC t)[j]? := by
 induction ts generalizing k with
 | nil => simp at hk
 | cons u r ih =>
  have hu : (tokC u).length = 5 := rfl
  cases k with
  | zero =>
   simp only [List.getElem?_cons_zero, Option.some.injEq] at hk
   subst hk
   simp only [cellsT, List.flatMap_cons, Nat.zero_mul, Nat.zero_add]
   rw [List.getElem?_append_left (by omega)]
  | succ k =>
   simp only [List.getElem?_cons_succ] at hk
   have := ih k hk
   simp only [cellsT, List.flatMap_cons] at this ⊢
   rw [List.getElem?_append_right (by omega), hu, show (k + 1) * 5 + j - 5 = k * 5 + j by omega]
   exact this
end
section
open Go.RowKit
theorem letter_plain {c : Int} (h : isLetter c = true) : isBlank c = false ∧ c ≠ 35 := by
 simp only [isLetter, Bool.and_eq_true, decide_eq_true_eq] at h
 refine ⟨?_, by omega⟩
 simp only [isBlank, Bool.or_eq_false_iff, beq_eq_false_iff_ne]
 omega
theorem lexN_len (f p : Nat) (l : List Int) (ts : List Tok) (h : lexN f p l = .ok ts) : ts.length ≤ l.length + 1 := by
 induction f generalizing p l ts with
 | zero =>
  simp only [lexN, Except.ok.injEq] at h
  subst h
  simp
 | succ f ih =>
  simp only [lexN] at h
  split at h
  · simp only [Except.ok.injEq] at h
    subst h
    simp
  · rename_i c r hd
    split at h
    · simp at h
    · rename_i k len n hs
      have hl := step_len hs
      have hcr : (c :: r).length ≤ l.length := by rw [← hd, List.length_drop]; omega
      cases hu : lexN f (p + blk false l + len) ((c :: r).drop len) with
      | error e => rw [hu] at h; simp [pre] at h
      | ok us =>
       rw [hu] at h
       simp only [pre, Except.ok.injEq, List.singleton_append] at h
       subst h
       have := ih _ _ us hu
       rw [List.length_drop] at this
       rw [List.length_cons]
       omega
end
end Go.Proofs.YthdioipfdbbmmaaGreatDoor
