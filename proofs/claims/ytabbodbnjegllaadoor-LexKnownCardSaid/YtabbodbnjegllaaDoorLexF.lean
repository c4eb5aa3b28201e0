import Derived.Test.YtabbodbnjegllaaDoorLexE
import Derived.Test.YtabbodbnjegllaaDoorDiagH
import Derived.Deep.AppendLies
import Derived.Deep.Onto
import Derived.Laws.EntriesVeiled
namespace Go.Proofs.YtabbodbnjegllaaDoor
open Go.RowKit
def tokC (t : Tok) : List Value := [.int .u8 t.kind, .int .i64 t.at', .int .i64 t.stop, .string (strOfNums t.text), .int .i64 t.n]
def cellsT (ts : List Tok) : List Value := ts.flatMap tokC
theorem cellsT_snoc (ts : List Tok) (t : Tok) : cellsT (ts ++ [t]) = cellsT ts ++ tokC t := by simp [cellsT]
theorem bl_idem (xs : List Int) (i : Nat) : bl xs (bl xs i) = bl xs i := by
  have := blk_done false (xs.drop i)
  rw [List.drop_drop] at this
  unfold bl
  omega
theorem step_err {l : List Int} {er : Int} (h : step l = .err er) (hl : 0 < l.length) : er = 30 ∨ er = 31 := by
  cases l with
  | nil => simp at hl
  | cons c r =>
    simp only [step] at h
    split at h
    · simp at h
    · split at h
      · split at h <;> simp at h
        exact Or.inr h.symm
      · split at h <;> simp at h
        exact Or.inl h.symm
theorem info41 : (Tryd.prog.info? 41).map (fun i => (i.zero, i.size, i.bytes)) = some (some (.agg #[.int .u8 0, .int .i64 0, .int .i64 0, .string ⟨#[]⟩, .int .i64 0]), 5, 48) := by kernel_rfl
/-- What Lex answers. -/
def LexPost (xs : List Int) (w : World) (e : Ending) (w' : World) : Prop :=
  (match lexS xs with
    | .ok ts => ∃ g cap, e = .returned (.tuple #[.slice (some ⟨g, 0, none⟩) ts.length cap, .nilIface]) ∧ w'.ownsRow w.heap.size 41 5 (.slice (some ⟨g, 0, none⟩) ts.length cap) ts.length (cellsT ts)
    | .error (i, er) => ∃ B l c, e = .returned (.tuple #[.slice none 0 0, .iface 59 (.pointer (some ⟨B, 0, none⟩))]) ∧ w.heap.size ≤ B ∧ ErrAt w' B i l c er) ∧ Below w.heap.size w w'
theorem lexPost_err {xs : List Int} {i : Nat} {er l c : Int} {w W : World} {B : Nat} (h : lexS xs = .error (i, er)) (hB : w.heap.size ≤ B) (hE : ErrAt W B i l c er) (hb : Below w.heap.size w W) :
    LexPost xs w (.returned (.tuple #[.slice none 0 0, .iface 59 (.pointer (some ⟨B, 0, none⟩))])) W := by
  refine ⟨?_, hb⟩
  rw [h]
  exact ⟨B, l, c, rfl, hB, hE⟩
theorem lexPost_ok {xs : List Int} {ts : List Tok} {w W : World} {g n cap : Nat} {cs : List Value} (h : lexS xs = .ok ts) (hn : n = ts.length) (hc : cs = cellsT ts) (ho : W.ownsRow w.heap.size 41 5 (.slice (some ⟨g, 0, none⟩) n cap) n cs) (hb : Below w.heap.size w W) :
    LexPost xs w (.returned (.tuple #[.slice (some ⟨g, 0, none⟩) n cap, .nilIface])) W := by
  subst hn hc
  refine ⟨?_, hb⟩
  rw [h]
  exact ⟨g, cap, rfl, ho⟩
theorem sk_of {w W : World} {p : Option Addr} {len c : Nat} {xs : List Int} (hs : Src w p len c xs) (hk : KW w W (FK 6)) : SK W p len c (w.heap.size + 1) xs where
  len_eq := hs.1
  byte := hs.2.1
  addr := fun hl => by
    rcases hs.2.2 with ⟨h, _⟩ | ⟨b, off, e, hc, hb, hx⟩
    · omega
    · exact ⟨b, off, e, Nat.lt_of_lt_of_le hb hk.below.size, fun i hi => by rw [hk.below.cell (p := ⟨b, off + i, none⟩) hb]; exact hx i hi⟩
  cap := by
    rcases hs.2.2 with ⟨h, h'⟩ | ⟨b, off, e, hc, hb, hx⟩ <;> omega
  kinds := fun k hk' => by rw [hk.arr k hk', FK_kind k hk']
  kbl := hk.size
theorem new_err {w W : World} {p : Option Addr} {len c k : Nat} {xs : List Int} {at' n : Int} (h0 : n ≠ 0) (hb : len ≤ 70000) (hk : min (max at' 0) (len : Int) = (k : Int)) (hs : Src w p len c xs) (hW : Below w.heap.size w W) :
    ∃ B l cc, w.heap.size ≤ B ∧ Calls Tryd.prog 20 #[.slice p len c, .int .i64 at', .int .i64 n] W fun e w' => e = .returned (.iface 59 (.pointer (some ⟨B, 0, none⟩))) ∧ ErrAt w' B k l cc n ∧ Below W.heap.size W w' :=
  ⟨W.heap.size + 1, _, _, by have := hW.size; omega, (new_src p len c k xs at' n W h0 hb hk (hs.below hW)).mono fun _ _ ⟨h1, h2⟩ => ⟨h1, h2.at_, h2.below⟩⟩
/-- A loop's round begins. -/
structure LexInv (w W1 : World) (p : Option Addr) (len c : Nat) (v : Value) (ts : List Tok) (W : World) : Prop where
  below : Below (W1.heap.size + 1) (W1.alloc (.cells #[.slice p len c, .func (.func 35) #[] #[.pointer (some ⟨w.heap.size + 1, 0, none⟩)]] 49)) W
  own : W.ownsRow (W1.heap.size + 1) 41 5 v ts.length (cellsT ts)
theorem LexInv.on {w W1 W W' : World} {p : Option Addr} {len c : Nat} {v : Value} {ts : List Tok} (h : LexInv w W1 p len c v ts W) (hb : Below W.heap.size W W') : LexInv w W1 p len c v ts W' where
  below := h.below.trans (hb.mono (by have := h.below.size; simpa using this))
  own := h.own.kept (row := none) ⟨hb.os, hb.tape, hb.output, hb.size, fun k hk _ => hb.block k hk⟩ (by
    cases hv : v.ownBlock with
    | none => exact Or.inl rfl
    | some k => exact Or.inr (by simp))
theorem LexInv.push {w W1 W W' w5 : World} {p : Option Addr} {len c g cap : Nat} {v : Value} {ts : List Tok} (h : LexInv w W1 p len c v ts W) (hW : Below W.heap.size W W') (hg : W'.grownBy w5 v.ownBlock) (t : Tok) (cs : List Value) (hc : cs = tokC t)
    (ho : w5.ownsRow (W1.heap.size + 1) 41 5 (.slice (some ⟨g, 0, none⟩) (ts.length + 1) cap) (ts.length + 1) (cellsT ts ++ cs)) : LexInv w W1 p len c (.slice (some ⟨g, 0, none⟩) (ts.length + 1) cap) (ts ++ [t]) w5 where
  below := (h.on hW).below.grown hg (by have := h.below.size; have := hW.size; simp at *; omega) (fun k hk => (h.own.lt k hk).1)
  own := by rw [cellsT_snoc, ← hc, List.length_append]; exact ho
theorem tok_one (k i j n : Int) (st : ByteArray) : ∀ u ∈ ([.int .u8 k, .int .i64 i, .int .i64 j, .string st, .int .i64 n] : List Value), u.oneCell' = true := by
  intro u hu
  simp only [List.mem_cons, List.not_mem_nil, or_false] at hu
  rcases hu with rfl | rfl | rfl | rfl | rfl <;> rfl
theorem two_below (W : World) (o1 o2 : Obj) : Below W.heap.size W ((W.alloc o1).alloc o2) := ((Below.refl _ _).alloc (Nat.le_refl _) _).alloc (by simp) _
theorem one_below (W : World) (o1 : Obj) : Below W.heap.size W (W.alloc o1) := (Below.refl _ _).alloc (Nat.le_refl _) _
theorem LexInv.all {w W1 W : World} {p : Option Addr} {len c : Nat} {v : Value} {ts : List Tok} (h : LexInv w W1 p len c v ts W) (hk : KW w W1 (FK 6)) : Below w.heap.size w W :=
  (hk.below.alloc (by have := hk.below.size; simpa using this) _).trans (h.below.mono (by have := hk.below.size; omega))
theorem LexInv.b0 {w W1 W : World} {p : Option Addr} {len c : Nat} {v : Value} {ts : List Tok} (h : LexInv w W1 p len c v ts W) : W.cell? ⟨W1.heap.size, 0, none⟩ = some (.slice p len c) := by
  rw [h.below.cell (p := ⟨W1.heap.size, 0, none⟩) (by simp)]; simp
theorem LexInv.b1 {w W1 W : World} {p : Option Addr} {len c : Nat} {v : Value} {ts : List Tok} (h : LexInv w W1 p len c v ts W) : W.cell? ⟨W1.heap.size, 1, none⟩ = some (.func (.func 35) #[] #[.pointer (some ⟨w.heap.size + 1, 0, none⟩)]) := by
  rw [h.below.cell (p := ⟨W1.heap.size, 1, none⟩) (by simp)]; simp
theorem LexInv.sk {w W1 W : World} {p : Option Addr} {len c : Nat} {v : Value} {ts : List Tok} {xs : List Int} (h : LexInv w W1 p len c v ts W) (hs : SK W1 p len c (w.heap.size + 1) xs) : SK W p len c (w.heap.size + 1) xs :=
  (hs.alloc _).on (by simp) h.below
set_option maxHeartbeats 4000000 in
set_option maxRecDepth 1000000 in
theorem lex_at (w : World) (p : Option Addr) (len c : Nat) (xs : List Int) (h : Src w p len c xs) (hb : len ≤ 65536) :
    Calls Tryd.prog 10 #[.slice p len c] w (LexPost xs w) := by
  have hlen := Lib.hid h.1
  have HS := Lib.hid h
  obtain ⟨i0, hi, hz0, hz1, hz2⟩ := info_parts info41
  have HK := Lib.hid (byteKinds_run w)
  clear h
  have I0 := Lib.hid hi
  have I1 := Lib.hid hz0
  have I2 := Lib.hid hz1
  have I3 := Lib.hid hz2
  clear hi hz0 hz1 hz2
  go_enter Tryd.func10, Tryd.ntmps10
  go_wp2_with fail
  (with_reducible refine HK.out.mono ?_)
  rintro e W1 ⟨rfl, hk⟩
  have KK := Lib.hid hk
  have hsk := Lib.hid (sk_of HS.out hk)
  have hs1 := Lib.hid (hk.size)
  clear hk HK
  go_wp2_with fail
  have PB : Calls Tryd.prog 22 #[.agg #[.slice p len c, .func (.func 35) #[] #[.pointer (some ⟨w.heap.size + 1, 0, none⟩)]], .int .i64 0] (W1.alloc (.cells #[.slice p len c, .func (.func 35) #[] #[.pointer (some ⟨w.heap.size + 1, 0, none⟩)]] 49)) _ := pastBlanks_at (W1.alloc (.cells #[.slice p len c, .func (.func 35) #[] #[.pointer (some ⟨w.heap.size + 1, 0, none⟩)]] 49)) p len c (w.heap.size + 1) 0 xs (hsk.out.alloc _) (by omega) (by omega)
  (with_reducible refine PB.mono ?_)
  rintro e W3 ⟨rfl, hb3⟩
  have HI : Hid (LexInv w W1 p len c (.slice none 0 0) [] W3) := Lib.hid ⟨by simpa using hb3, World.ownsRow_nil _ _ _ _⟩
  have hb0 := Lib.hid (bl_le xs 0 (by omega))
  clear hb3 PB
  go_wp2_with fail
  go_loopw [5, 6] (fun v iv wr => ∃ (i : Nat) (ts : List Tok), i ≤ len ∧ ts.length ≤ i ∧ iv = .int .i64 i ∧ Hid (bl xs i = i) ∧ Hid (lexS xs = pre ts (lexAt xs i)) ∧ Hid (LexInv w W1 p len c v ts wr)) (fun _ iv _ => len - (intOf iv).toNat)
  case atStart => exact ⟨bl xs 0, [], by have := hb0.out; have := hlen.out; omega, by simp, rfl, Lib.hid (bl_idem xs 0), Lib.hid (by rw [lexS_at, lexAt_bl xs 0 (by omega), pre_nil]), HI⟩
  case round =>
    obtain ⟨i, ts, hil, htl, rfl, HB, HL, HV⟩ := hrel

    have c0 := HV.out.b0
    have c1 := HV.out.b1
    have hskr := Lib.hid (HV.out.sk hsk.out)
    have hall := Lib.hid (HV.out.all KK.out)
    have hsz := hall.out.size
    by_cases hlt : i < len
    · have TA := tokenAt_at wr p len c (w.heap.size + 1) i xs hskr.out (by omega) hlt
      have hix : i < xs.length := by have := hlen.out; omega
      cases hst : step (xs.drop i) with
      | err er =>
        have TA1 := TA.mono (R' := fun e w' => e = .returned (.tuple #[tokV 0 0 0 ⟨#[]⟩ 0, .int .i64 er]) ∧ Below wr.heap.size wr w') (fun e w' h => ⟨by
          have h1 := h.1
          rw [hst] at h1
          exact h1, h.2⟩)
        have her : er ≠ 0 := by
          have := step_err hst (by rw [List.length_drop]; omega)
          omega
        have her' : (er != 0) = true := by simpa using her
        have HE := Lib.hid (lexAt_err xs i er hix HB.out hst)
        clear TA hst hix
        go_wp2_with fail
        (with_reducible refine TA1.mono ?_)
        rintro e w4 ⟨rfl, hb4⟩
        have hV4 := Lib.hid (HV.out.on hb4)
        clear hb4 TA1
        go_wp2_with fail
        obtain ⟨B, l, cc, hB, NA⟩ := new_err (W := w4.alloc (.cells #[.int .u8 0, .int .i64 0, .int .i64 0, .string ⟨#[]⟩, .int .i64 0] 41)) her (by omega) (show min (max (i : Int) 0) (len : Int) = (i : Int) by omega) HS.out ((hV4.out.all KK.out).alloc (by have := (hV4.out.all KK.out).size; simpa using this) _)
        have HN := Lib.hid NA
        clear NA
        (with_reducible refine HN.out.mono ?_)
        rintro e w5 ⟨rfl, hE, hb5⟩
        have HEr := Lib.hid hE
        have HB5 := Lib.hid (((hV4.out.all KK.out).alloc (by have := (hV4.out.all KK.out).size; simpa using this) (.cells #[.int .u8 0, .int .i64 0, .int .i64 0, .string ⟨#[]⟩, .int .i64 0] 41)).trans (hb5.mono (by have := (hV4.out.all KK.out).size; simp; omega)))
        clear hE hb5 HN
        go_wp2
        go_ret2
        exact lexPost_err (by rw [HL.out, HE.out]; rfl) hB HEr.out HB5.out
      | tok k l n =>
        have hsl := step_len hst
        rw [List.length_drop] at hsl
        have HT := Lib.hid (lexAt_tok xs i k l n hix HB.out hst)
        obtain ⟨j, hj⟩ : ∃ j, i + l = j := ⟨_, rfl⟩
        obtain ⟨st, ht⟩ : ∃ st, strOfNums ((xs.drop i).take l) = st := ⟨_, rfl⟩
        have TA1 := TA.mono (R' := fun e w' => e = .returned (.tuple #[tokV k i j st n, .int .i64 0]) ∧ Below wr.heap.size wr w') (fun e w' h => ⟨by
          have h1 := h.1
          rw [hst] at h1
          rw [h1, ← ht, ← hj], h.2⟩)
        have hij : i < j := by omega
        have hjl : j ≤ len := by have := hlen.out; omega
        have HJ := Lib.hid hj
        have HSt := Lib.hid ht
        have hbj := Lib.hid (bl_le xs j (by have := hlen.out; omega))
        have hbb := Lib.hid (lexAt_bl xs j (by have := hlen.out; omega))
        clear TA hst hix hj ht hsl
        go_wp2_with fail
        (with_reducible refine TA1.mono ?_)
        rintro e w4 ⟨rfl, hb4⟩
        have hV4 := Lib.hid (HV.out.on hb4)
        have ho4 := hV4.out.own
        have hz4 := hV4.out.below.size
        simp only [World.size_alloc] at hz4
        have d0 := hV4.out.b0
        have d1 := hV4.out.b1
        clear hb4 TA1 HV c0 c1 hskr hall
        go_wp2_with (at_builtin; refine wpList_append_lies _ rfl (.tmp 35) (.tmp 37) 24 rfl (W1.heap.size + 1) 41 i0 _ 5 48 Tryd.underlying24 I0.out I1.out I2.out I3.out rfl (by decide) u5 ts.length (cellsT ts) rfl ((ho4.alloc _).alloc _) ⟨w4.heap.size + 1, 0, none⟩ 1 1 [.int .u8 k, .int .i64 i, .int .i64 j, .string st, .int .i64 n] rfl rfl ?c1 ?c2 (by decide) ?c3 ?c4 ?c5 _ rfl ?_)
        case c1 =>
          refine World.news_of_block (cs := #[.int .u8 k, .int .i64 i, .int .i64 j, .string st, .int .i64 n]) (t := 41) (fr := (0, 0)) ?_
          have := heap_alloc_new (w4.alloc (.cells #[.int .u8 k, .int .i64 i, .int .i64 j, .string st, .int .i64 n] 41)) (.cells #[.int .u8 k, .int .i64 i, .int .i64 j, .string st, .int .i64 n] 41)
          simpa using this
        case c2 => exact tok_one _ _ _ _ _
        case c3 => unfold maxLen; omega
        case c4 => omega
        case c5 => simp; omega
        intro g cap w5 hown5 hgrow5 hat5 hlt5
        have hV5 := Lib.hid (hV4.out.push (two_below w4 _ _) hgrow5 ⟨k, i, j, (xs.drop i).take l, n⟩ _ (by rw [tokC, HSt.out]) hown5)
        have e2 : w5.cell? ⟨w4.heap.size, 2, none⟩ = some (.int .i64 j) := by
          rw [hgrow5.cell_far ⟨w4.heap.size, 2, none⟩ (by simp; omega) (fun e => by have := (ho4.lt _ e.symm).2; simp at this)]
          simp
        have x0 := hV5.out.b0
        have x1 := hV5.out.b1
        have PB := pastBlanks_at w5 p len c (w.heap.size + 1) j xs (hV5.out.sk hsk.out) (by omega) hjl
        clear hown5 hgrow5 hat5 hlt5 ho4 d0 d1
        go_wp2_with fail
        (with_reducible refine PB.mono ?_)
        rintro e w6 ⟨rfl, hb6⟩
        have hV6 := Lib.hid (hV5.out.on hb6)
        clear hb6 PB x0 x1 e2
        go_wp2_with fail
        go_roundw
        case rel => exact ⟨bl xs j, ts ++ [⟨k, i, j, (xs.drop i).take l, n⟩], by have := hbj.out; have := hlen.out; omega, by simp; have := hbj.out; omega, rfl, Lib.hid (bl_idem xs j), Lib.hid (by rw [HL.out, HT.out, HJ.out, pre_pre, ← hbb.out]), hV6⟩
        case measure => have := hbj.out; have := hlen.out; simp [intOf]; omega
    · have hil2 : i = len := by omega
      have HE := Lib.hid (lexAt_end xs i (by have := hlen.out; omega))
      have ho4 := HV.out.own
      have hz4 := HV.out.below.size
      simp only [World.size_alloc] at hz4
      clear hskr hall hil2 c0 c1
      go_wp2_with (at_builtin; refine wpList_append_lies _ rfl (.tmp 43) (.tmp 47) 24 rfl (W1.heap.size + 1) 41 i0 _ 5 48 Tryd.underlying24 I0.out I1.out I2.out I3.out rfl (by decide) u5 ts.length (cellsT ts) rfl (ho4.alloc _) ⟨wr.heap.size, 0, none⟩ 1 1 [.int .u8 4, .int .i64 i, .int .i64 i, .string ⟨#[]⟩, .int .i64 0] rfl rfl ?d1 ?d2 (by decide) ?d3 ?d4 ?d5 _ rfl ?_)
      case d1 =>
        refine World.news_of_block (cs := #[.int .u8 4, .int .i64 i, .int .i64 i, .string ⟨#[]⟩, .int .i64 0]) (t := 41) (fr := (0, 0)) ?_
        exact heap_alloc_new _ _
      case d2 => exact tok_one _ _ _ _ _
      case d3 => unfold maxLen; omega
      case d4 => omega
      case d5 => simp; omega
      intro g cap w5 hown5 hgrow5 hat5 hlt5
      have hV5 := Lib.hid (HV.out.push (one_below wr _) hgrow5 (Tok.endAt i) _ (by simp [tokC, Tok.endAt, strOfNums]) hown5)
      have HA := Lib.hid (hV5.out.all KK.out)
      clear hown5 hgrow5 hat5 hlt5 ho4
      go_wp2
      go_ret2
      exact lexPost_ok (ts := ts ++ [Tok.endAt i]) (by rw [HL.out, HE.out]; rfl) (by simp) (by rfl) (by have := hV5.out.own; rw [List.length_append] at this; exact this.mono (by have := KK.out.below.size; omega)) HA.out
end Go.Proofs.YtabbodbnjegllaaDoor
