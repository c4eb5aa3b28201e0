/- Contracts on the way to the laws of layer 5: DiagH, LexF, LexG, LexN, LexP, LexQ, ParseFr, ParseZc. -/
import Derived.Test.YtpemghcafbedeaaGreatDoorKab
import Derived.Test.YtpemghcafbedeaaGreatDoorKad
import Derived.Test.YtpemghcafbedeaaGreatDoorKaf
import Derived.Test.YtpemghcafbedeaaGreatDoorKag
import Derived.Deep.AppendLies
import Derived.Deep.Onto
import Derived.Laws.EntriesVeiled
import Derived.Lib.SlBytesConst
import Derived.Lib.BufferRead
import Derived.Laws.IdiomStrings
set_option linter.all false
section
namespace Go.Proofs.YtpemghcafbedeaaGreatDoor
open Go.RowKit
abbrev ET (w : World) : Prop := w.cell? ⟨0, 0, none⟩ = some (.iface 176 (.agg #[.pointer (some ⟨5, 28, none⟩)]))
theorem ET.below {w W : World} (h : ET w) (hb : Below w.heap.size w W) : ET W := by
  show W.cell? ⟨0, 0, none⟩ = _
  rw [hb.cell (p := ⟨0, 0, none⟩) (cell_lt h)]; exact h
structure ErrAt (W : World) (B : Nat) (x l c n : Int) : Prop where
  lt : B < W.heap.size
  c0 : W.cell? ⟨B, 0, none⟩ = some (.int .i64 x)
  c1 : W.cell? ⟨B, 1, none⟩ = some (.int .i64 l)
  c2 : W.cell? ⟨B, 2, none⟩ = some (.int .i64 c)
  c3 : W.cell? ⟨B, 3, none⟩ = some (.int .i64 n)
theorem ErrAt.on {W W' : World} {B : Nat} {x l c n : Int} (h : ErrAt W B x l c n) (hb : Below W.heap.size W W') : ErrAt W' B x l c n where
  lt := Nat.lt_of_lt_of_le h.lt hb.size
  c0 := by rw [hb.cell (p := ⟨B, 0, none⟩) h.lt]; exact h.c0
  c1 := by rw [hb.cell (p := ⟨B, 1, none⟩) h.lt]; exact h.c1
  c2 := by rw [hb.cell (p := ⟨B, 2, none⟩) h.lt]; exact h.c2
  c3 := by rw [hb.cell (p := ⟨B, 3, none⟩) h.lt]; exact h.c3
theorem NewW.at_ {w W : World} {x l c n : Int} (h : NewW w W x l c n) : ErrAt W (w.heap.size + 1) x l c n := ⟨h.size, h.c0, h.c1, h.c2, h.c3⟩
theorem place_err {W : World} {B : Nat} {x l c n : Int} (hg : ET W) (h : ErrAt W B x l c n) :
    Calls Tryz.prog 16 #[.iface 86 (.pointer (some ⟨B, 0, none⟩))] W fun e w2 => e = .returned (.tuple #[.int .i64 x, .int .i64 l, .int .i64 c, .bool true]) ∧ Below W.heap.size W w2 :=
  place_in B 86 _ x l c 0 W hg .here h.c0 h.c1 h.c2
theorem code_err {W : World} {B : Nat} {x l c n : Int} (hg : ET W) (h : ErrAt W B x l c n) :
    Calls Tryz.prog 17 #[.iface 86 (.pointer (some ⟨B, 0, none⟩))] W fun e w2 => e = .returned (.int .i64 n) ∧ Below W.heap.size W w2 :=
  code_in 86 _ n 1 W hg (.err B n 0 rfl h.c3 .here)
theorem code_none (W : World) : Calls Tryz.prog 17 #[.nilIface] W fun e w2 => e = .returned (.int .i64 0) ∧ Below W.heap.size W w2 :=
  (code_nil W).mono fun _ _ ⟨h1, h2⟩ => ⟨h1, by rw [h2]; exact (Below.refl _ _).alloc (Nat.le_refl _) _⟩
end Go.Proofs.YtpemghcafbedeaaGreatDoor
end
section
namespace Go.Proofs.YtpemghcafbedeaaGreatDoor
open Go.RowKit
def tokC (t : Tok) : List Value := [.int .u8 t.kind, .int .i64 t.at', .int .i64 t.stop, .string (strOfNums t.text), .int .i64 t.n]
def cellsT (ts : List Tok) : List Value := ts.flatMap tokC
theorem cellsT_snoc (ts : List Tok) (t : Tok) : cellsT (ts ++ [t]) = cellsT ts ++ tokC t := by simp [cellsT]
theorem bl_idem (xs : List Int) (i : Nat) : bl xs (bl xs i) = bl xs i := by
  have := blk_done false (xs.drop i)
  rw [List.drop_drop] at this
  unfold bl
  omega
theorem step_err {l : List Int} {er : Int} (h : step l = .err er) (hl : 0 < l.length) : er = 30 ∨ er = 31 := by
  cases l with
  | nil => simp at hl
  | cons c r =>
    simp only [step] at h
    split at h
    · simp at h
    · split at h
      · split at h <;> simp at h
        exact Or.inr h.symm
      · split at h <;> simp at h
        exact Or.inl h.symm
theorem info45 : (Tryz.prog.info? 45).map (fun i => (i.zero, i.size, i.bytes)) = some (some (.agg #[.int .u8 0, .int .i64 0, .int .i64 0, .string ⟨#[]⟩, .int .i64 0]), 5, 48) := by kernel_rfl
def LexPost (xs : List Int) (w : World) (e : Ending) (w' : World) : Prop :=
  (match lexS xs with
    | .ok ts => ∃ g cap, e = .returned (.tuple #[.slice (some ⟨g, 0, none⟩) ts.length cap, .nilIface]) ∧ w'.ownsRow w.heap.size 45 5 (.slice (some ⟨g, 0, none⟩) ts.length cap) ts.length (cellsT ts)
    | .error (i, er) => ∃ B l c, e = .returned (.tuple #[.slice none 0 0, .iface 86 (.pointer (some ⟨B, 0, none⟩))]) ∧ w.heap.size ≤ B ∧ ErrAt w' B i l c er) ∧ Below w.heap.size w w'
theorem lexPost_err {xs : List Int} {i : Nat} {er l c : Int} {w W : World} {B : Nat} (h : lexS xs = .error (i, er)) (hB : w.heap.size ≤ B) (hE : ErrAt W B i l c er) (hb : Below w.heap.size w W) :
    LexPost xs w (.returned (.tuple #[.slice none 0 0, .iface 86 (.pointer (some ⟨B, 0, none⟩))])) W := by
  refine ⟨?_, hb⟩
  rw [h]
  exact ⟨B, l, c, rfl, hB, hE⟩
theorem lexPost_ok {xs : List Int} {ts : List Tok} {w W : World} {g n cap : Nat} {cs : List Value} (h : lexS xs = .ok ts) (hn : n = ts.length) (hc : cs = cellsT ts) (ho : W.ownsRow w.heap.size 45 5 (.slice (some ⟨g, 0, none⟩) n cap) n cs) (hb : Below w.heap.size w W) :
    LexPost xs w (.returned (.tuple #[.slice (some ⟨g, 0, none⟩) n cap, .nilIface])) W := by
  subst hn hc
  refine ⟨?_, hb⟩
  rw [h]
  exact ⟨g, cap, rfl, ho⟩
theorem sk_of {w W : World} {p : Option Addr} {len c : Nat} {xs : List Int} (hs : Src w p len c xs) (hk : KW w W (FK 6)) : SK W p len c (w.heap.size + 1) xs where
  len_eq := hs.1
  byte := hs.2.1
  addr := fun hl => by
    rcases hs.2.2 with ⟨h, _⟩ | ⟨b, off, e, hc, hb, hx⟩
    · omega
    · exact ⟨b, off, e, Nat.lt_of_lt_of_le hb hk.below.size, fun i hi => by rw [hk.below.cell (p := ⟨b, off + i, none⟩) hb]; exact hx i hi⟩
  cap := by
    rcases hs.2.2 with ⟨h, h'⟩ | ⟨b, off, e, hc, hb, hx⟩ <;> omega
  kinds := fun k hk' => by rw [hk.arr k hk', FK_kind k hk']
  kbl := hk.size
theorem new_err {w W : World} {p : Option Addr} {len c k : Nat} {xs : List Int} {at' n : Int} (h0 : n ≠ 0) (hb : len ≤ 70000) (hk : min (max at' 0) (len : Int) = (k : Int)) (hs : Src w p len c xs) (hW : Below w.heap.size w W) :
    ∃ B l cc, w.heap.size ≤ B ∧ Calls Tryz.prog 36 #[.slice p len c, .int .i64 at', .int .i64 n] W fun e w' => e = .returned (.iface 86 (.pointer (some ⟨B, 0, none⟩))) ∧ ErrAt w' B k l cc n ∧ Below W.heap.size W w' :=
  ⟨W.heap.size + 1, _, _, by have := hW.size; omega, (new_src p len c k xs at' n W h0 hb hk (hs.below hW)).mono fun _ _ ⟨h1, h2⟩ => ⟨h1, h2.at_, h2.below⟩⟩
structure LexInv (w W1 : World) (p : Option Addr) (len c : Nat) (v : Value) (ts : List Tok) (W : World) : Prop where
  below : Below (W1.heap.size + 1) (W1.alloc (.cells #[.slice p len c, .func (.func 105) #[] #[.pointer (some ⟨w.heap.size + 1, 0, none⟩)]] 97)) W
  own : W.ownsRow (W1.heap.size + 1) 45 5 v ts.length (cellsT ts)
theorem LexInv.on {w W1 W W' : World} {p : Option Addr} {len c : Nat} {v : Value} {ts : List Tok} (h : LexInv w W1 p len c v ts W) (hb : Below W.heap.size W W') : LexInv w W1 p len c v ts W' where
  below := h.below.trans (hb.mono (by have := h.below.size; simpa using this))
  own := h.own.kept (row := none) ⟨hb.os, hb.tape, hb.output, hb.size, fun k hk _ => hb.block k hk⟩ (by
    cases hv : v.ownBlock with
    | none => exact Or.inl rfl
    | some k => exact Or.inr (by simp))
theorem LexInv.push {w W1 W W' w5 : World} {p : Option Addr} {len c g cap : Nat} {v : Value} {ts : List Tok} (h : LexInv w W1 p len c v ts W) (hW : Below W.heap.size W W') (hg : W'.grownBy w5 v.ownBlock) (t : Tok) (cs : List Value) (hc : cs = tokC t)
    (ho : w5.ownsRow (W1.heap.size + 1) 45 5 (.slice (some ⟨g, 0, none⟩) (ts.length + 1) cap) (ts.length + 1) (cellsT ts ++ cs)) : LexInv w W1 p len c (.slice (some ⟨g, 0, none⟩) (ts.length + 1) cap) (ts ++ [t]) w5 where
  below := (h.on hW).below.grown hg (by have := h.below.size; have := hW.size; simp at *; omega) (fun k hk => (h.own.lt k hk).1)
  own := by rw [cellsT_snoc, ← hc, List.length_append]; exact ho
theorem tok_one (k i j n : Int) (st : ByteArray) : ∀ u ∈ ([.int .u8 k, .int .i64 i, .int .i64 j, .string st, .int .i64 n] : List Value), u.oneCell' = true := by
  intro u hu
  simp only [List.mem_cons, List.not_mem_nil, or_false] at hu
  rcases hu with rfl | rfl | rfl | rfl | rfl <;> rfl
theorem two_below (W : World) (o1 o2 : Obj) : Below W.heap.size W ((W.alloc o1).alloc o2) := ((Below.refl _ _).alloc (Nat.le_refl _) _).alloc (by simp) _
theorem one_below (W : World) (o1 : Obj) : Below W.heap.size W (W.alloc o1) := (Below.refl _ _).alloc (Nat.le_refl _) _
theorem LexInv.all {w W1 W : World} {p : Option Addr} {len c : Nat} {v : Value} {ts : List Tok} (h : LexInv w W1 p len c v ts W) (hk : KW w W1 (FK 6)) : Below w.heap.size w W :=
  (hk.below.alloc (by have := hk.below.size; simpa using this) _).trans (h.below.mono (by have := hk.below.size; omega))
theorem LexInv.b0 {w W1 W : World} {p : Option Addr} {len c : Nat} {v : Value} {ts : List Tok} (h : LexInv w W1 p len c v ts W) : W.cell? ⟨W1.heap.size, 0, none⟩ = some (.slice p len c) := by
  rw [h.below.cell (p := ⟨W1.heap.size, 0, none⟩) (by simp)]; simp
theorem LexInv.b1 {w W1 W : World} {p : Option Addr} {len c : Nat} {v : Value} {ts : List Tok} (h : LexInv w W1 p len c v ts W) : W.cell? ⟨W1.heap.size, 1, none⟩ = some (.func (.func 105) #[] #[.pointer (some ⟨w.heap.size + 1, 0, none⟩)]) := by
  rw [h.below.cell (p := ⟨W1.heap.size, 1, none⟩) (by simp)]; simp
theorem LexInv.sk {w W1 W : World} {p : Option Addr} {len c : Nat} {v : Value} {ts : List Tok} {xs : List Int} (h : LexInv w W1 p len c v ts W) (hs : SK W1 p len c (w.heap.size + 1) xs) : SK W p len c (w.heap.size + 1) xs :=
  (hs.alloc _).on (by simp) h.below
set_option maxHeartbeats 4000000 in
set_option maxRecDepth 1000000 in
theorem lex_at (w : World) (p : Option Addr) (len c : Nat) (xs : List Int) (h : Src w p len c xs) (hb : len ≤ 65536) :
    Calls Tryz.prog 20 #[.slice p len c] w (LexPost xs w) := by
  have hlen := Lib.hid h.1
  have HS := Lib.hid h
  obtain ⟨i0, hi, hz0, hz1, hz2⟩ := info_parts info45
  have HK := Lib.hid (byteKinds_run w)
  clear h
  have I0 := Lib.hid hi
  have I1 := Lib.hid hz0
  have I2 := Lib.hid hz1
  have I3 := Lib.hid hz2
  clear hi hz0 hz1 hz2
  go_enter Tryz.func20, Tryz.ntmps20
  go_wp2_with fail
  (with_reducible refine HK.out.mono ?_)
  rintro e W1 ⟨rfl, hk⟩
  have KK := Lib.hid hk
  have hsk := Lib.hid (sk_of HS.out hk)
  have hs1 := Lib.hid (hk.size)
  clear hk HK
  go_wp2_with fail
  have PB : Calls Tryz.prog 51 #[.agg #[.slice p len c, .func (.func 105) #[] #[.pointer (some ⟨w.heap.size + 1, 0, none⟩)]], .int .i64 0] (W1.alloc (.cells #[.slice p len c, .func (.func 105) #[] #[.pointer (some ⟨w.heap.size + 1, 0, none⟩)]] 97)) _ := pastBlanks_at (W1.alloc (.cells #[.slice p len c, .func (.func 105) #[] #[.pointer (some ⟨w.heap.size + 1, 0, none⟩)]] 97)) p len c (w.heap.size + 1) 0 xs (hsk.out.alloc _) (by omega) (by omega)
  (with_reducible refine PB.mono ?_)
  rintro e W3 ⟨rfl, hb3⟩
  have HI : Hid (LexInv w W1 p len c (.slice none 0 0) [] W3) := Lib.hid ⟨by simpa using hb3, World.ownsRow_nil _ _ _ _⟩
  have hb0 := Lib.hid (bl_le xs 0 (by omega))
  clear hb3 PB
  go_wp2_with fail
  go_loopw [5, 6] (fun v iv wr => ∃ (i : Nat) (ts : List Tok), i ≤ len ∧ ts.length ≤ i ∧ iv = .int .i64 i ∧ Hid (bl xs i = i) ∧ Hid (lexS xs = pre ts (lexAt xs i)) ∧ Hid (LexInv w W1 p len c v ts wr)) (fun _ iv _ => len - (intOf iv).toNat)
  case atStart => exact ⟨bl xs 0, [], by have := hb0.out; have := hlen.out; omega, by simp, rfl, Lib.hid (bl_idem xs 0), Lib.hid (by rw [lexS_at, lexAt_bl xs 0 (by omega), pre_nil]), HI⟩
  case round =>
    obtain ⟨i, ts, hil, htl, rfl, HB, HL, HV⟩ := hrel

    have c0 := HV.out.b0
    have c1 := HV.out.b1
    have hskr := Lib.hid (HV.out.sk hsk.out)
    have hall := Lib.hid (HV.out.all KK.out)
    have hsz := hall.out.size
    by_cases hlt : i < len
    · have TA := tokenAt_at wr p len c (w.heap.size + 1) i xs hskr.out (by omega) hlt
      have hix : i < xs.length := by have := hlen.out; omega
      cases hst : step (xs.drop i) with
      | err er =>
        have TA1 := TA.mono (R' := fun e w' => e = .returned (.tuple #[tokV 0 0 0 ⟨#[]⟩ 0, .int .i64 er]) ∧ Below wr.heap.size wr w') (fun e w' h => ⟨by
          have h1 := h.1
          rw [hst] at h1
          exact h1, h.2⟩)
        have her : er ≠ 0 := by
          have := step_err hst (by rw [List.length_drop]; omega)
          omega
        have her' : (er != 0) = true := by simpa using her
        have HE := Lib.hid (lexAt_err xs i er hix HB.out hst)
        clear TA hst hix
        go_wp2_with fail
        (with_reducible refine TA1.mono ?_)
        rintro e w4 ⟨rfl, hb4⟩
        have hV4 := Lib.hid (HV.out.on hb4)
        clear hb4 TA1
        go_wp2_with fail
        obtain ⟨B, l, cc, hB, NA⟩ := new_err (W := w4.alloc (.cells #[.int .u8 0, .int .i64 0, .int .i64 0, .string ⟨#[]⟩, .int .i64 0] 45)) her (by omega) (show min (max (i : Int) 0) (len : Int) = (i : Int) by omega) HS.out ((hV4.out.all KK.out).alloc (by have := (hV4.out.all KK.out).size; simpa using this) _)
        have HN := Lib.hid NA
        clear NA
        (with_reducible refine HN.out.mono ?_)
        rintro e w5 ⟨rfl, hE, hb5⟩
        have HEr := Lib.hid hE
        have HB5 := Lib.hid (((hV4.out.all KK.out).alloc (by have := (hV4.out.all KK.out).size; simpa using this) (.cells #[.int .u8 0, .int .i64 0, .int .i64 0, .string ⟨#[]⟩, .int .i64 0] 45)).trans (hb5.mono (by have := (hV4.out.all KK.out).size; simp; omega)))
        clear hE hb5 HN
        go_wp2
        go_ret2
        exact lexPost_err (by rw [HL.out, HE.out]; rfl) hB HEr.out HB5.out
      | tok k l n =>
        have hsl := step_len hst
        rw [List.length_drop] at hsl
        have HT := Lib.hid (lexAt_tok xs i k l n hix HB.out hst)
        obtain ⟨j, hj⟩ : ∃ j, i + l = j := ⟨_, rfl⟩
        obtain ⟨st, ht⟩ : ∃ st, strOfNums ((xs.drop i).take l) = st := ⟨_, rfl⟩
        have TA1 := TA.mono (R' := fun e w' => e = .returned (.tuple #[tokV k i j st n, .int .i64 0]) ∧ Below wr.heap.size wr w') (fun e w' h => ⟨by
          have h1 := h.1
          rw [hst] at h1
          rw [h1, ← ht, ← hj], h.2⟩)
        have hij : i < j := by omega
        have hjl : j ≤ len := by have := hlen.out; omega
        have HJ := Lib.hid hj
        have HSt := Lib.hid ht
        have hbj := Lib.hid (bl_le xs j (by have := hlen.out; omega))
        have hbb := Lib.hid (lexAt_bl xs j (by have := hlen.out; omega))
        clear TA hst hix hj ht hsl
        go_wp2_with fail
        (with_reducible refine TA1.mono ?_)
        rintro e w4 ⟨rfl, hb4⟩
        have hV4 := Lib.hid (HV.out.on hb4)
        have ho4 := hV4.out.own
        have hz4 := hV4.out.below.size
        simp only [World.size_alloc] at hz4
        have d0 := hV4.out.b0
        have d1 := hV4.out.b1
        clear hb4 TA1 HV c0 c1 hskr hall
        go_wp2_with (at_builtin; refine wpList_append_lies _ rfl (.tmp 35) (.tmp 37) 41 rfl (W1.heap.size + 1) 45 i0 _ 5 48 Tryz.underlying41 I0.out I1.out I2.out I3.out rfl (by decide) u5 ts.length (cellsT ts) rfl ((ho4.alloc _).alloc _) ⟨w4.heap.size + 1, 0, none⟩ 1 1 [.int .u8 k, .int .i64 i, .int .i64 j, .string st, .int .i64 n] rfl rfl ?c1 ?c2 (by decide) ?c3 ?c4 ?c5 _ rfl ?_)
        case c1 =>
          refine World.news_of_block (cs := #[.int .u8 k, .int .i64 i, .int .i64 j, .string st, .int .i64 n]) (t := 45) (fr := (0, 0)) ?_
          have := heap_alloc_new (w4.alloc (.cells #[.int .u8 k, .int .i64 i, .int .i64 j, .string st, .int .i64 n] 45)) (.cells #[.int .u8 k, .int .i64 i, .int .i64 j, .string st, .int .i64 n] 45)
          simpa using this
        case c2 => exact tok_one _ _ _ _ _
        case c3 => unfold maxLen; omega
        case c4 => omega
        case c5 => simp; omega
        intro g cap w5 hown5 hgrow5 hat5 hlt5
        have hV5 := Lib.hid (hV4.out.push (two_below w4 _ _) hgrow5 ⟨k, i, j, (xs.drop i).take l, n⟩ _ (by rw [tokC, HSt.out]) hown5)
        have e2 : w5.cell? ⟨w4.heap.size, 2, none⟩ = some (.int .i64 j) := by
          rw [hgrow5.cell_far ⟨w4.heap.size, 2, none⟩ (by simp; omega) (fun e => by have := (ho4.lt _ e.symm).2; simp at this)]
          simp
        have x0 := hV5.out.b0
        have x1 := hV5.out.b1
        have PB := pastBlanks_at w5 p len c (w.heap.size + 1) j xs (hV5.out.sk hsk.out) (by omega) hjl
        clear hown5 hgrow5 hat5 hlt5 ho4 d0 d1
        go_wp2_with fail
        (with_reducible refine PB.mono ?_)
        rintro e w6 ⟨rfl, hb6⟩
        have hV6 := Lib.hid (hV5.out.on hb6)
        clear hb6 PB x0 x1 e2
        go_wp2_with fail
        go_roundw
        case rel => exact ⟨bl xs j, ts ++ [⟨k, i, j, (xs.drop i).take l, n⟩], by have := hbj.out; have := hlen.out; omega, by simp; have := hbj.out; omega, rfl, Lib.hid (bl_idem xs j), Lib.hid (by rw [HL.out, HT.out, HJ.out, pre_pre, ← hbb.out]), hV6⟩
        case measure => have := hbj.out; have := hlen.out; simp [intOf]; omega
    · have hil2 : i = len := by omega
      have HE := Lib.hid (lexAt_end xs i (by have := hlen.out; omega))
      have ho4 := HV.out.own
      have hz4 := HV.out.below.size
      simp only [World.size_alloc] at hz4
      clear hskr hall hil2 c0 c1
      go_wp2_with (at_builtin; refine wpList_append_lies _ rfl (.tmp 43) (.tmp 47) 41 rfl (W1.heap.size + 1) 45 i0 _ 5 48 Tryz.underlying41 I0.out I1.out I2.out I3.out rfl (by decide) u5 ts.length (cellsT ts) rfl (ho4.alloc _) ⟨wr.heap.size, 0, none⟩ 1 1 [.int .u8 4, .int .i64 i, .int .i64 i, .string ⟨#[]⟩, .int .i64 0] rfl rfl ?d1 ?d2 (by decide) ?d3 ?d4 ?d5 _ rfl ?_)
      case d1 =>
        refine World.news_of_block (cs := #[.int .u8 4, .int .i64 i, .int .i64 i, .string ⟨#[]⟩, .int .i64 0]) (t := 45) (fr := (0, 0)) ?_
        exact heap_alloc_new _ _
      case d2 => exact tok_one _ _ _ _ _
      case d3 => unfold maxLen; omega
      case d4 => omega
      case d5 => simp; omega
      intro g cap w5 hown5 hgrow5 hat5 hlt5
      have hV5 := Lib.hid (HV.out.push (one_below wr _) hgrow5 (Tok.endAt i) _ (by simp [tokC, Tok.endAt, strOfNums]) hown5)
      have HA := Lib.hid (hV5.out.all KK.out)
      clear hown5 hgrow5 hat5 hlt5 ho4
      go_wp2
      go_ret2
      exact lexPost_ok (ts := ts ++ [Tok.endAt i]) (by rw [HL.out, HE.out]; rfl) (by simp) (by rfl) (by have := hV5.out.own; rw [List.length_append] at this; exact this.mono (by have := KK.out.below.size; omega)) HA.out
end Go.Proofs.YtpemghcafbedeaaGreatDoor
end
section
namespace Go.Proofs.YtpemghcafbedeaaGreatDoor
open Go.RowKit
structure TR (W : World) (g cap : Nat) (ts : List Tok) : Prop where
  lt : g < W.heap.size
  le : ts.length ≤ cap
  cell : ∀ j u, (cellsT ts)[j]? = some u → W.cell? ⟨g, j, none⟩ = some u
theorem TR.on {W W' : World} {g cap : Nat} {ts : List Tok} (h : TR W g cap ts) (hb : Below W.heap.size W W') : TR W' g cap ts where
  lt := Nat.lt_of_lt_of_le h.lt hb.size
  le := h.le
  cell := fun j u hj => by rw [hb.cell (p := ⟨g, j, none⟩) h.lt]; exact h.cell j u hj
theorem TR.of {W : World} {base g cap : Nat} {ts : List Tok} (ho : W.ownsRow base 45 5 (.slice (some ⟨g, 0, none⟩) ts.length cap) ts.length (cellsT ts)) : TR W g cap ts where
  lt := (ho.lt g rfl).2
  le := by
    rcases ho.2 with ⟨h, _⟩ | ⟨g', cap', cur, hv, _, _, hc, _⟩
    · simp at h
    · simp at hv
      omega
  cell := fun j u hj => by
    rw [ho.cellAt j (by rw [← ho.1]; exact (List.getElem?_eq_some_iff.1 hj).1)]
    exact hj
theorem lex_ok {w : World} {p : Option Addr} {len c : Nat} {xs : List Int} {ts : List Tok} (h : Src w p len c xs) (hb : len ≤ 65536) (he : lexS xs = .ok ts) :
    Calls Tryz.prog 20 #[.slice p len c] w fun e w' => ∃ g cap, e = .returned (.tuple #[.slice (some ⟨g, 0, none⟩) ts.length cap, .nilIface]) ∧ TR w' g cap ts ∧ w.heap.size ≤ g ∧ Below w.heap.size w w' :=
  (lex_at w p len c xs h hb).mono fun e w' ⟨h1, h2⟩ => by
    rw [he] at h1
    obtain ⟨g, cap, e1, ho⟩ := h1
    exact ⟨g, cap, e1, TR.of ho, (ho.lt g rfl).1, h2⟩
theorem lex_no {w : World} {p : Option Addr} {len c : Nat} {xs : List Int} {i : Nat} {er : Int} (h : Src w p len c xs) (hb : len ≤ 65536) (he : lexS xs = .error (i, er)) :
    Calls Tryz.prog 20 #[.slice p len c] w fun e w' => ∃ B l cc, e = .returned (.tuple #[.slice none 0 0, .iface 86 (.pointer (some ⟨B, 0, none⟩))]) ∧ ErrAt w' B i l cc er ∧ Below w.heap.size w w' :=
  (lex_at w p len c xs h hb).mono fun e w' ⟨h1, h2⟩ => by
    rw [he] at h1
    obtain ⟨B, l, cc, e1, _, hE⟩ := h1
    exact ⟨B, l, cc, e1, hE, h2⟩
theorem src_const (W : World) (C : Array Value) (zs : List Int) (n : Nat) (hC : C = (zs.map (Value.int .u8)).toArray) (hn : zs.length = n) (hz : ∀ z ∈ zs, 0 ≤ z ∧ z < 256) (a b : Nat) :
    Src (W.alloc (.cells C 5 (a, b))) (some ⟨W.heap.size, 0, none⟩) n n zs := by
  refine ⟨hn, fun i => ?_, Or.inr ⟨W.heap.size, 0, rfl, Nat.le_refl _, by simp, fun i hi => ?_⟩⟩
  · by_cases hi : i < zs.length
    · have := hz (zs[i]) (List.getElem_mem hi)
      simpa [List.getD, hi] using this
    · simp [List.getD, List.getElem?_eq_none (Nat.le_of_not_lt hi)]
  · rw [Nat.zero_add, World.cell?_alloc_mark]
    subst hC
    have hi' : i < zs.length := by omega
    simp [List.getD, hi']
end Go.Proofs.YtpemghcafbedeaaGreatDoor
end
section
namespace Go.Proofs.YtpemghcafbedeaaGreatDoor
open Go.RowKit
def Chain (xs : List Int) : Nat → List Tok → Prop
  | p, [] => p = xs.length
  | p, t :: r => p ≤ xs.length ∧ t.at' = bl xs p ∧ t.at' ≤ t.stop ∧ t.stop ≤ xs.length ∧ t.text = (xs.drop t.at').take (t.stop - t.at') ∧ ((t.kind = 4) ↔ r = []) ∧ Chain xs t.stop r
theorem chain_of (xs : List Int) (m p : Nat) (hm : xs.length - p ≤ m) (hp : p ≤ xs.length) (ts : List Tok) (h : lexAt xs p = .ok ts) : Chain xs p ts ∧ ts ≠ [] := by
  induction m generalizing p ts with
  | zero =>
    have e : p = xs.length := by omega
    rw [lexAt_end xs p e] at h
    simp only [Except.ok.injEq] at h
    subst h
    refine ⟨⟨hp, ?_, Nat.le_refl _, by simp [Tok.endAt]; omega, by simp [Tok.endAt], by simp [Tok.endAt], by simp [Chain, Tok.endAt]; omega⟩, by simp⟩
    simp only [Tok.endAt]
    rw [bl_end xs p (by omega)]
  | succ m ih =>
    rw [lexAt_bl xs p hp] at h
    have hb := bl_le xs p hp
    have hi := bl_idem xs p
    obtain ⟨i, hie⟩ : ∃ i, bl xs p = i := ⟨_, rfl⟩
    rw [hie] at h hb hi
    by_cases hlt : i < xs.length
    · cases hs : step (xs.drop i) with
      | err e => rw [lexAt_err xs i e hlt hi hs] at h; simp at h
      | tok k l n =>
        rw [lexAt_tok xs i k l n hlt hi hs] at h
        have hl := step_len hs
        rw [List.length_drop] at hl
        cases hr : lexAt xs (i + l) with
        | error e => rw [hr] at h; simp [pre] at h
        | ok us =>
          rw [hr] at h
          simp only [pre, Except.ok.injEq, List.singleton_append] at h
          subst h
          have ⟨hc, hne⟩ := ih (i + l) (by omega) (by omega) us hr
          refine ⟨⟨hp, hie.symm, by simp, by simp; omega, by simp, ?_, hc⟩, by simp⟩
          simp only
          constructor
          · omega
          · intro h; exact absurd h hne
    · have e : i = xs.length := by omega
      rw [lexAt_end xs i e] at h
      simp only [Except.ok.injEq] at h
      subst h
      exact ⟨⟨hp, hie.symm, Nat.le_refl _, by simp [Tok.endAt]; omega, by simp [Tok.endAt], by simp [Tok.endAt], by simp [Chain, Tok.endAt]; omega⟩, by simp⟩
def subP (p : Option Addr) (c a : Nat) : Option Addr := if c = a then p else p.map (·.add (a * 1))
theorem sub_run (W : World) (p : Option Addr) (len c a e : Nat) (h1 : a ≤ e) (h2 : e ≤ c) :
    (Instr.sliceAt 22 (.slice p len c) (some (.int .i64 a)) (some (.int .i64 e)) none).run Tryz.prog W = .ok (.slice (subP p c a) (e - a) (c - a)) W := by
  have hu : Tryz.prog.underlying 22 = some (.slice (Tryz.prog.elem 22)) := by kernel_rfl
  have hz : ∀ W, (sizeOf (Tryz.prog.elem 22)).run Tryz.prog W = .ok 1 W := fun _ => by kernel_rfl
  rw [run_sliceAt_slice W 22 _ _ _ _ hu, run_slice_lh W 22 p len c hu .i64 .i64 a e (by omega) (by omega) (by omega), hz]
  rfl
theorem sub_src {W : World} {p : Option Addr} {len c : Nat} {xs : List Int} (h : Src W p len c xs) (a e : Nat) (h1 : a ≤ e) (h2 : e ≤ len) : Src W (subP p c a) (e - a) (c - a) ((xs.drop a).take (e - a)) := by
  obtain ⟨hl, hb, hc⟩ := h
  refine ⟨by simp; omega, fun i => ?_, ?_⟩
  · by_cases hi : i < e - a
    · have := hb (a + i)
      simpa [List.getD, List.getElem?_take, hi] using this
    · simp [List.getD, List.getElem?_take, hi]
  · rcases hc with ⟨rfl, rfl⟩ | ⟨b, off, rfl, hle, hlt, hx⟩
    · exact Or.inl ⟨by omega, by omega⟩
    · by_cases hca : c = a
      · exact Or.inl ⟨by omega, by omega⟩
      · refine Or.inr ⟨b, off + a, ?_, by omega, hlt, fun i hi => ?_⟩
        · unfold subP
          rw [if_neg hca]
          simp only [Option.map_some, Nat.mul_one, Addr.add]
          split <;> simp_all
        · rw [Nat.add_assoc, hx (a + i) (by omega)]
          simp [List.getD, hi]
theorem src_conv {W : World} {p : Option Addr} {n c : Nat} {xs : List Int} (h : Src W p n c xs) : (convert 22 9 (.slice p n c)).run Tryz.prog W = .ok (.string (strOfNums xs)) W := by
  obtain ⟨hl, hb, hc⟩ := h
  rcases hc with ⟨rfl, rfl⟩ | ⟨b, off, rfl, hle, hlt, hx⟩
  · have e : xs = [] := List.eq_nil_of_length_eq_zero hl
    subst e
    cases p with
    | none => exact Lib.run_convert_nil_bytes W 22 9 5 0 Tryz.underlying22 Tryz.underlying5 Tryz.underlying9
    | some a => exact run_convert_bytes_back W 22 9 5 a 0 [] Tryz.underlying22 Tryz.underlying5 Tryz.underlying9 (fun j hj => by simp at hj)
  · exact run_convert_bytes_arg W 22 5 Tryz.underlying22 Tryz.underlying5 b off n c xs hl (fun j hj => hx j hj) 9 Tryz.underlying9
theorem tok_cell (ts : List Tok) (k j : Nat) (t : Tok) (hk : ts[k]? = some t) (hj : j < 5) : (cellsT ts)[k * 5 + j]? = (tokC t)[j]? := by
  induction ts generalizing k with
  | nil => simp at hk
  | cons u r ih =>
    have hu : (tokC u).length = 5 := rfl
    cases k with
    | zero =>
      simp only [List.getElem?_cons_zero, Option.some.injEq] at hk
      subst hk
      simp only [cellsT, List.flatMap_cons, Nat.zero_mul, Nat.zero_add]
      rw [List.getElem?_append_left (by omega)]
    | succ k =>
      simp only [List.getElem?_cons_succ] at hk
      have := ih k hk
      simp only [cellsT, List.flatMap_cons] at this ⊢
      rw [List.getElem?_append_right (by omega), hu, show (k + 1) * 5 + j - 5 = k * 5 + j by omega]
      exact this
end Go.Proofs.YtpemghcafbedeaaGreatDoor
end
section
namespace Go.Proofs.YtpemghcafbedeaaGreatDoor
open Go.RowKit
theorem letter_plain {c : Int} (h : isLetter c = true) : isBlank c = false ∧ c ≠ 35 := by
  simp only [isLetter, Bool.and_eq_true, decide_eq_true_eq] at h
  refine ⟨?_, by omega⟩
  simp only [isBlank, Bool.or_eq_false_iff, beq_eq_false_iff_ne]
  omega
theorem lexN_len (f p : Nat) (l : List Int) (ts : List Tok) (h : lexN f p l = .ok ts) : ts.length ≤ l.length + 1 := by
  induction f generalizing p l ts with
  | zero =>
    simp only [lexN, Except.ok.injEq] at h
    subst h
    simp
  | succ f ih =>
    simp only [lexN] at h
    split at h
    · simp only [Except.ok.injEq] at h
      subst h
      simp
    · rename_i c r hd
      split at h
      · simp at h
      · rename_i k len n hs
        have hl := step_len hs
        have hcr : (c :: r).length ≤ l.length := by rw [← hd, List.length_drop]; omega
        cases hu : lexN f (p + blk false l + len) ((c :: r).drop len) with
        | error e => rw [hu] at h; simp [pre] at h
        | ok us =>
          rw [hu] at h
          simp only [pre, Except.ok.injEq, List.singleton_append] at h
          subst h
          have := ih _ _ us hu
          rw [List.length_drop] at this
          rw [List.length_cons]
          omega
theorem drop_cons {α : Type} (l : List α) (k : Nat) (t : α) (h : l[k]? = some t) : l.drop k = t :: l.drop (k + 1) := by
  obtain ⟨hk, rfl⟩ := List.getElem?_eq_some_iff.1 h
  exact List.drop_eq_getElem_cons hk
end Go.Proofs.YtpemghcafbedeaaGreatDoor
end
section
namespace Go.Proofs.YtpemghcafbedeaaGreatDoor
def stopB (b : Int) : Prop := isBlank b = true ∨ b = 35
theorem stop_cases {b : Int} (h : stopB b) : b = 32 ∨ b = 9 ∨ b = 10 ∨ b = 13 ∨ b = 35 := by
  rcases h with h | h
  · have : b = 32 ∨ b = 9 ∨ b = 10 ∨ b = 13 := by simpa [isBlank, or_assoc] using h
    omega
  · omega
theorem stop_name {b : Int} (h : stopB b) : isNameB b = false := by rcases stop_cases h with rfl | rfl | rfl | rfl | rfl <;> rfl
theorem stop_digit {b : Int} (h : stopB b) : isDigit b = false := by rcases stop_cases h with rfl | rfl | rfl | rfl | rfl <;> rfl
theorem run_app (p : Int → Bool) (l : List Int) (b : Int) (Y : List Int) (hb : p b = false) : run p (l ++ b :: Y) = run p l := by
  induction l with
  | nil => simp [run, hb]
  | cons c r ih => simp only [List.cons_append, run, ih]
theorem numV_app (n : Int) (l : List Int) (b : Int) (Y : List Int) (hb : isDigit b = false) : numV n (l ++ b :: Y) = numV n l := by
  induction l generalizing n with
  | nil => simp [numV, hb]
  | cons c r ih => simp only [List.cons_append, numV, ih]
theorem step_app (l : List Int) (b : Int) (Y : List Int) (hb : stopB b) (hl : l ≠ []) : step (l ++ b :: Y) = step l := by
  cases l with
  | nil => exact absurd rfl hl
  | cons c r =>
    have h1 := run_app isNameB (c :: r) b Y (stop_name hb)
    have h2 := run_app isDigit (c :: r) b Y (stop_digit hb)
    have h3 := numV_app 0 (c :: r) b Y (stop_digit hb)
    have h4 : ((r ++ b :: Y).head? = some 61) = (r.head? = some 61) := by
      cases r with
      | nil =>
        have : b ≠ 61 := by rcases stop_cases hb with rfl | rfl | rfl | rfl | rfl <;> decide
        simp [this]
      | cons d r => simp
    simp only [List.cons_append] at h1 h2 h3 ⊢
    simp only [step, h1, h2, h3, h4]
theorem run_take (p : Int → Bool) (l : List Int) : run p (l.take (run p l)) = run p l := by
  induction l with
  | nil => simp [run]
  | cons c r ih =>
    simp only [run]
    split
    · rename_i h
      rw [List.take_succ_cons]
      simp only [run, h, if_true, ih]
    · simp [run]
theorem numV_take (n : Int) (l : List Int) : numV n (l.take (run isDigit l)) = numV n l := by
  induction l generalizing n with
  | nil => simp [run]
  | cons c r ih =>
    simp only [run]
    split
    · rename_i h
      rw [List.take_succ_cons]
      simp only [numV, h, if_true, ih]
    · rename_i h
      simp [numV, h]
theorem step_text (l : List Int) (k : Int) (len : Nat) (n : Int) (h : step l = .tok k len n) : step (l.take len) = .tok k len n := by
  have hl := step_len h
  cases l with
  | nil => simp [step] at h
  | cons c r =>
    obtain ⟨m, rfl⟩ : ∃ m, len = m + 1 := ⟨len - 1, by omega⟩
    have h1 := run_take isNameB (c :: r)
    have h2 := run_take isDigit (c :: r)
    have h3 := numV_take 0 (c :: r)
    simp only [step] at h
    rw [List.take_succ_cons]
    simp only [step]
    split at h
    · rename_i hc
      simp only [Step.tok.injEq] at h
      rw [if_pos hc]
      obtain ⟨rfl, h', rfl⟩ := h
      rw [h', List.take_succ_cons] at h1
      rw [h1]
    · rename_i hc
      rw [if_neg hc]
      split at h
      · rename_i hd
        rw [if_pos hd]
        split at h
        · rename_i v hv
          simp only [Step.tok.injEq] at h
          obtain ⟨rfl, h', rfl⟩ := h
          rw [h', List.take_succ_cons] at h2
          rw [h', List.take_succ_cons, hv] at h3
          rw [h3, h2]
        · simp at h
      · rename_i hd
        rw [if_neg hd]
        split at h
        · rename_i hm
          rw [if_pos hm]
          simp only [Step.tok.injEq] at h
          obtain ⟨rfl, h', rfl⟩ := h
          split at h'
          · rename_i h61
            obtain rfl : m = 1 := by omega
            cases r with
            | nil => simp at h61
            | cons d r =>
              have : d = 61 := by simpa using h61.2
              subst this
              rw [h61.1]
              simp
          · rename_i h61
            obtain rfl : m = 0 := by omega
            simp
        · simp at h
theorem step_head {l : List Int} {k n : Int} {len : Nat} (h : step l = .tok k len n) : isBlank (l.getD 0 0) = false ∧ l.getD 0 0 ≠ 35 := by
  cases l with
  | nil => simp [step] at h
  | cons c r =>
    simp only [step] at h
    simp only [List.getD_cons_zero]
    split at h
    · rename_i hc
      exact letter_plain hc
    · split at h
      · rename_i hd
        simp only [isDigit, Bool.and_eq_true, decide_eq_true_eq] at hd
        refine ⟨?_, by omega⟩
        simp only [isBlank, Bool.or_eq_false_iff, beq_eq_false_iff_ne]
        omega
      · split at h
        · rename_i hm
          rcases mark_cases hm with rfl | rfl | rfl | rfl | rfl | rfl | rfl | rfl | rfl | rfl | rfl | rfl | rfl | rfl <;> decide
        · simp at h
def same3 (t u : Tok) : Prop := t.kind = u.kind ∧ t.text = u.text ∧ t.n = u.n
def sameAll : List Tok → List Tok → Prop
  | [], [] => True
  | t :: r, u :: s => same3 t u ∧ sameAll r s
  | _, _ => False
def isGap (B : List Int) : Prop := (∀ X, blk false (B ++ X) = B.length + blk false X) ∧ ∃ b r, B = b :: r ∧ stopB b
def again : List Tok → (Nat → List Int) → List Int
  | [], _ => []
  | t :: r, f => t.text ++ (f 0 ++ again r fun i => f (i + 1))
theorem relex (xs : List Int) (ts : List Tok) (p q : Nat) (gap : Nat → List Int) (hg : ∀ i, isGap (gap i)) (hp : p ≤ xs.length) (h : lexAt xs p = .ok ts) (F : Nat) (hF : (again ts gap).length < F) :
    ∃ us, lexN F q (again ts gap) = .ok us ∧ sameAll ts us := by
  induction ts generalizing p q gap F with
  | nil =>
    exact absurd rfl (chain_of xs xs.length p (by omega) hp [] h).2
  | cons t r ih =>
    obtain ⟨G, rfl⟩ : ∃ G, F = G + 1 := ⟨F - 1, by omega⟩
    rw [lexAt_bl xs p hp] at h
    have hb := bl_le xs p hp
    have hi := bl_idem xs p
    generalize bl xs p = i at *
    obtain ⟨hg1, b, br, hbr, hstop⟩ := hg 0
    by_cases hlt : i < xs.length
    · cases hs : step (xs.drop i) with
      | err e => rw [lexAt_err xs i e hlt hi hs] at h; simp at h
      | tok k l n =>
        rw [lexAt_tok xs i k l n hlt hi hs] at h
        have hl := step_len hs
        rw [List.length_drop] at hl
        cases hr : lexAt xs (i + l) with
        | error e => rw [hr] at h; simp [pre] at h
        | ok us =>
          rw [hr] at h
          simp only [pre, Except.ok.injEq, List.singleton_append, List.cons.injEq] at h
          obtain ⟨rfl, rfl⟩ := h
          have hst := step_text _ _ _ _ hs
          obtain ⟨X, hX⟩ : ∃ X, X = (xs.drop i).take l := ⟨_, rfl⟩
          rw [← hX] at hst
          have hXl : X.length = l := by rw [hX, List.length_take, List.length_drop]; omega
          have hXne : X ≠ [] := by intro e; rw [e] at hXl; simp at hXl; omega
          have hhd := step_head hst
          have hrest := fun q F hF => ih (i + l) q (fun j => gap (j + 1)) (fun j => hg (j + 1)) (by omega) hr F hF
          simp only [again, ← hX]
          obtain ⟨Z, hZ⟩ : ∃ Z, Z = again us (fun j => gap (j + 1)) := ⟨_, rfl⟩
          rw [← hZ] at hrest ⊢
          have hlen : (X ++ (gap 0 ++ Z)).length < G + 1 := by
            simp only [again, ← hX, ← hZ] at hF
            exact hF
          have hlen2 : Z.length < G := by simp only [List.length_append] at hlen; omega
          obtain ⟨H, rfl⟩ : ∃ H, G = H + 1 := ⟨G - 1, by omega⟩
          obtain ⟨us', hu', hsame⟩ := hrest (q := q + l + (gap 0).length) (H + 1) hlen2
          refine ⟨⟨k, q, q + l, X, n⟩ :: us', ?_, ⟨rfl, rfl, rfl⟩, hsame⟩
          have hne : X ++ (gap 0 ++ Z) = X ++ b :: (br ++ Z) := by rw [hbr]; rfl
          have hb0 : blk false (X ++ (gap 0 ++ Z)) = 0 := by
            cases X with
            | nil => exact absurd rfl hXne
            | cons c X =>
              simp only [List.getD_cons_zero] at hhd
              simp only [List.cons_append, blk, hhd.1, Bool.false_eq_true, if_false, if_neg hhd.2]
          have hs2 : step (X ++ (gap 0 ++ Z)) = .tok k l n := by rw [hne, step_app X b _ hstop hXne, hst]
          have hd : (X ++ (gap 0 ++ Z)).drop l = gap 0 ++ Z := by rw [← hXl, List.drop_left]
          have ht : (X ++ (gap 0 ++ Z)).take l = X := by rw [← hXl, List.take_left]
          have hskip : lexN (H + 1) (q + l) (gap 0 ++ Z) = lexN (H + 1) (q + l + (gap 0).length) Z := by
            rw [lexN_skip H (q + l) (gap 0 ++ Z), lexN_skip H (q + l + (gap 0).length) Z, hg1 Z, ← List.drop_drop, List.drop_left, Nat.add_assoc (q + l)]
          rw [lexN, hb0, List.drop_zero]
          cases hc : X ++ (gap 0 ++ Z) with
          | nil => rw [hc] at hs2; simp [step] at hs2
          | cons c R =>
            rw [hc] at hs2 hd ht
            simp only [hs2, hd, ht, Nat.add_zero]
            rw [hskip, hu']
            rfl
    · rw [lexAt_end xs i (by omega)] at h
      simp only [Except.ok.injEq, List.cons.injEq] at h
      obtain ⟨rfl, rfl⟩ := h
      refine ⟨[Tok.endAt (q + (gap 0).length)], ?_, ⟨rfl, rfl, rfl⟩, trivial⟩
      have h0 := hg1 []
      rw [List.append_nil] at h0
      simp only [again, Tok.endAt, List.nil_append, List.append_nil]
      rw [lexN, h0]
      simp [blk, Tok.endAt]
end Go.Proofs.YtpemghcafbedeaaGreatDoor
end
section
namespace Go.Proofs.YtpemghcafbedeaaGreatDoor
theorem lexN_shape (f p : Nat) (l : List Int) (ts : List Tok) (hf : l.length < f) (h : lexN f p l = .ok ts) : ∃ vs, ts = vs ++ [Tok.endAt (p + l.length)] ∧ ∀ t ∈ vs, t.kind ≠ 4 ∧ t.at' ≤ p + l.length := by
  induction f generalizing p l ts with
  | zero => omega
  | succ f ih =>
    simp only [lexN] at h
    have hb := blk_le false l
    split at h
    · rename_i hd
      simp only [Except.ok.injEq] at h
      subst h
      have h2 := congrArg List.length hd
      rw [List.length_drop, List.length_nil] at h2
      exact ⟨[], by rw [show p + blk false l = p + l.length by omega]; rfl, fun t ht => by simp at ht⟩
    · rename_i c r hd
      have hcr : (c :: r).length = l.length - blk false l := by rw [← hd, List.length_drop]
      split at h
      · simp at h
      · rename_i k len n hs
        have hl := step_len hs
        cases hu : lexN f (p + blk false l + len) ((c :: r).drop len) with
        | error e => rw [hu] at h; simp [pre] at h
        | ok us =>
          rw [hu] at h
          simp only [pre, Except.ok.injEq, List.singleton_append] at h
          subst h
          obtain ⟨vs, e, hv⟩ := ih _ _ us (by rw [List.length_drop]; omega) hu
          have e2 : p + blk false l + len + ((c :: r).drop len).length = p + l.length := by rw [List.length_drop]; omega
          rw [e2] at e hv
          refine ⟨_ :: vs, by rw [e]; rfl, fun t ht => ?_⟩
          rcases List.mem_cons.1 ht with rfl | ht
          · exact ⟨by show k ≠ 4; rcases hl.2.2 with h3 | h3 | h3 <;> omega, by simp only; omega⟩
          · exact hv t ht
theorem lexS_shape {xs : List Int} {ts : List Tok} (h : lexS xs = .ok ts) : ∃ vs, ts = vs ++ [Tok.endAt xs.length] ∧ ∀ t ∈ vs, t.kind ≠ 4 ∧ t.at' ≤ xs.length := by
  have := lexN_shape (xs.length + 1) 0 xs ts (Nat.lt_succ_self _) h
  rwa [Nat.zero_add] at this
theorem ended_snoc (l : List PT) (e : PT) (he : e.kind = 4 ∧ e.txt = none0) : Ended (l ++ [e]) := by
  induction l with
  | nil => exact he
  | cons t r ih =>
    cases r with
    | nil => exact he
    | cons u r => exact ih
theorem end_pt (p : Nat) : (ptOf (Tok.endAt p)).kind = 4 ∧ (ptOf (Tok.endAt p)).txt = none0 := ⟨rfl, by simp [ptOf, Tok.endAt, strOfNums]⟩
def parseS (xs : List Int) : Except (Nat × Int) (List Nd) := match lexS xs with
  | .error e => .error e
  | .ok ts => match programP (ts.map ptOf) with
    | .err p c => .error (p, c)
    | .ok a _ => .ok (flat 0 a)
end Go.Proofs.YtpemghcafbedeaaGreatDoor
end
section
namespace Go.Proofs.YtpemghcafbedeaaGreatDoor
open Go.RowKit
open Par (Less many many_err many_done many_more)
section
variable {E : Env} {v : Value} {kvs : List Value} {md : List Nd} {r : Nat} {l : List PT} {w : World}
set_option maxRecDepth 1000000 in
set_option maxHeartbeats 2000000 in
theorem set_at (h : PS E v kvs md r l w) (p : Nat) : Calls Tryz.prog 72 #[.pointer (some ⟨E.b, 0, none⟩), .int .i64 (p : Int)] w (PostE E (setP r p l) fun a l' => OkA E v kvs md r w a l') := by
  have hr64 := h.r64
  have RM := Lib.hid h.room
  have S1 := Lib.hid (St.start h)
  have hnot : ∀ (x : Bool) (w : World), (Op.unary .not (.bool x)).run Tryz.prog w = .ok (.bool (!x)) w := fun _ _ => rfl
  clear h
  go_enter Tryz.func72, Tryz.ntmps72
  have C2 := Lib.hid (cell_at S1.out.ps)
  go_wp2_with fail
  (with_reducible refine C2.out.mono ?_)
  rintro e w3 hP
  clear C2
  cases hx : cellP r l with
  | err pe ce =>
    rw [hx] at hP
    obtain ⟨rfl, hb⟩ := hP
    have HB := Lib.hid hb
    have HR : Hid (setP r p l = .err pe ce) := Lib.hid (by simp only [setP, nodeA, Par.bind, hx])
    clear hb hx
    go_wp2
    exact ⟨rfl, of_err HR.out HB.out⟩
  | ok ab l1 =>
    rw [hx] at hP
    have X4 := Lib.hid hx
    obtain ⟨v3, n3, rfl, S, T⟩ := S1.out.two hP
    clear hP hx
    have S5 := Lib.hid (S)
    clear S T S1
    have C6 := Lib.hid (expect_at S5.out.ps ⟨#[61]⟩ (by decide))
    go_wp2_with fail
    (with_reducible refine C6.out.mono ?_)
    rintro e w7 hP
    clear C6
    cases hx : expectP ⟨#[61]⟩ l1 with
    | err pe ce =>
      rw [hx] at hP
      obtain ⟨rfl, hb⟩ := hP
      have HB := Lib.hid hb
      have HR : Hid (setP r p l = .err pe ce) := Lib.hid (by simp only [setP, nodeA, Par.bind, X4.out, hx])
      clear hb hx
      go_wp2
      exact ⟨rfl, of_err HR.out HB.out⟩
    | ok p2 l2 =>
      rw [hx] at hP
      have X8 := Lib.hid hx
      obtain ⟨rfl, hs, hf⟩ := hP
      obtain ⟨S, T⟩ := S5.out.same hs hf
      clear hs hf hx
      have S9 := Lib.hid (S)
      clear S T S5
      have C10 := Lib.hid (exprR_at S9.out.ps)
      go_wp2_with fail
      (with_reducible refine C10.out.mono ?_)
      rintro e w11 hP
      clear C10
      cases hx : exprR r l2 with
      | err pe ce =>
        rw [hx] at hP
        obtain ⟨rfl, hb⟩ := hP
        have HB := Lib.hid hb
        have HR : Hid (setP r p l = .err pe ce) := Lib.hid (by simp only [setP, nodeA, Par.bind, X4.out, X8.out, hx])
        clear hb hx
        go_wp2
        exact ⟨rfl, of_err HR.out HB.out⟩
      | ok c l3 =>
        rw [hx] at hP
        have X12 := Lib.hid hx
        obtain ⟨v11, n11, rfl, S, T⟩ := S9.out.ast (ts' := [ab.1, ab.2, c]) hP rfl
        clear hP hx
        have S13 := Lib.hid (S)
        clear S T S9
        have R14 := Lib.hid (Rw.lit S13.out (q := w11.heap.size) (by first | rfl | simp [World.setCell]) (ks := roots md.length [ab.1, ab.2, c]) (cs := #[.int .i64 (rootI (md.length + sizeL []) ab.1), .int .i64 (rootI (md.length + sizeL [ab.1]) ab.2), .int .i64 (rootI (md.length + sizeL [ab.1, ab.2]) c)]) (m := 3) (by simp [roots, rootI, sizeL] <;> omega) (by simp [roots]) (by omega))
        have S15 := Lib.hid (S13.out.alloc (.cells #[.int .i64 (rootI (md.length + sizeL []) ab.1), .int .i64 (rootI (md.length + sizeL [ab.1]) ab.2), .int .i64 (rootI (md.length + sizeL [ab.1, ab.2]) c)] 3))
        clear S13
        have C16 := Lib.hid (end_at (k := 8) (p := p) (t := none0) (nn := 0) (kz := .slice none 0 0) S15.out R14.out rfl)
        go_wp2_with fail
        (with_reducible refine C16.out.mono ?_)
        rintro e wf hP
        have HR : setP r p l = endP (.mk 8 p none0 0 [ab.1, ab.2, c]) l3 := by simp only [setP, nodeA, Par.bind, X4.out, X8.out, X12.out]
        rw [← HR] at hP
        have hfin := Lib.hid hP
        rcases post_form hP with ⟨z, rfl⟩ | ⟨ch, rfl⟩
        · clear hP HR C16
          go_wp2
          go_ret
          exact hfin.out
        · clear hP HR C16
          go_wp2
          exact ⟨rfl, hfin.out⟩
set_option maxRecDepth 1000000 in
set_option maxHeartbeats 2000000 in
theorem delete_at (h : PS E v kvs md r l w) (p : Nat) : Calls Tryz.prog 74 #[.pointer (some ⟨E.b, 0, none⟩), .int .i64 (p : Int)] w (PostE E (deleteP r p l) fun a l' => OkA E v kvs md r w a l') := by
  have hr64 := h.r64
  have RM := Lib.hid h.room
  have S1 := Lib.hid (St.start h)
  have hnot : ∀ (x : Bool) (w : World), (Op.unary .not (.bool x)).run Tryz.prog w = .ok (.bool (!x)) w := fun _ _ => rfl
  clear h
  go_enter Tryz.func74, Tryz.ntmps74
  have C2 := Lib.hid (row_at S1.out.ps)
  go_wp2_with fail
  (with_reducible refine C2.out.mono ?_)
  rintro e w3 hP
  clear C2
  cases hx : rowP r l with
  | err pe ce =>
    rw [hx] at hP
    obtain ⟨rfl, hb⟩ := hP
    have HB := Lib.hid hb
    have HR : Hid (deleteP r p l = .err pe ce) := Lib.hid (by simp only [deleteP, nodeA, Par.bind, hx])
    clear hb hx
    go_wp2
    exact ⟨rfl, of_err HR.out HB.out⟩
  | ok a l1 =>
    rw [hx] at hP
    have X4 := Lib.hid hx
    obtain ⟨v3, n3, rfl, S, T⟩ := S1.out.ast (ts' := [a]) hP rfl
    clear hP hx
    have S5 := Lib.hid (S)
    clear S T S1
    have R6 := Lib.hid (Rw.lit S5.out (q := w3.heap.size) (by first | rfl | simp [World.setCell]) (ks := roots md.length [a]) (cs := #[.int .i64 (rootI (md.length + sizeL []) a)]) (m := 1) (by simp [roots, rootI, sizeL] <;> omega) (by simp [roots]) (by omega))
    have S7 := Lib.hid (S5.out.alloc (.cells #[.int .i64 (rootI (md.length + sizeL []) a)] 3))
    clear S5
    have C8 := Lib.hid (end_at (k := 10) (p := p) (t := none0) (nn := 0) (kz := .slice none 0 0) S7.out R6.out rfl)
    go_wp2_with fail
    (with_reducible refine C8.out.mono ?_)
    rintro e wf hP
    have HR : deleteP r p l = endP (.mk 10 p none0 0 [a]) l1 := by simp only [deleteP, nodeA, Par.bind, X4.out]
    rw [← HR] at hP
    have hfin := Lib.hid hP
    rcases post_form hP with ⟨z, rfl⟩ | ⟨ch, rfl⟩
    · clear hP HR C8
      go_wp2
      go_ret
      exact hfin.out
    · clear hP HR C8
      go_wp2
      exact ⟨rfl, hfin.out⟩
set_option maxRecDepth 1000000 in
set_option maxHeartbeats 2000000 in
theorem emit_at (h : PS E v kvs md r l w) (p : Nat) : Calls Tryz.prog 81 #[.pointer (some ⟨E.b, 0, none⟩), .int .i64 (p : Int)] w (PostE E (emitP r p l) fun a l' => OkA E v kvs md r w a l') := by
  have hr64 := h.r64
  have RM := Lib.hid h.room
  have S1 := Lib.hid (St.start h)
  have hnot : ∀ (x : Bool) (w : World), (Op.unary .not (.bool x)).run Tryz.prog w = .ok (.bool (!x)) w := fun _ _ => rfl
  clear h
  go_enter Tryz.func81, Tryz.ntmps81
  have C2 := Lib.hid (exprR_at S1.out.ps)
  go_wp2_with fail
  (with_reducible refine C2.out.mono ?_)
  rintro e w3 hP
  clear C2
  cases hx : exprR r l with
  | err pe ce =>
    rw [hx] at hP
    obtain ⟨rfl, hb⟩ := hP
    have HB := Lib.hid hb
    have HR : Hid (emitP r p l = .err pe ce) := Lib.hid (by simp only [emitP, nodeA, Par.bind, hx])
    clear hb hx
    go_wp2
    exact ⟨rfl, of_err HR.out HB.out⟩
  | ok a l1 =>
    rw [hx] at hP
    have X4 := Lib.hid hx
    obtain ⟨v3, n3, rfl, S, T⟩ := S1.out.ast (ts' := [a]) hP rfl
    clear hP hx
    have S5 := Lib.hid (S)
    clear S T S1
    have R6 := Lib.hid (Rw.lit S5.out (q := w3.heap.size) (by first | rfl | simp [World.setCell]) (ks := roots md.length [a]) (cs := #[.int .i64 (rootI (md.length + sizeL []) a)]) (m := 1) (by simp [roots, rootI, sizeL] <;> omega) (by simp [roots]) (by omega))
    have S7 := Lib.hid (S5.out.alloc (.cells #[.int .i64 (rootI (md.length + sizeL []) a)] 3))
    clear S5
    have C8 := Lib.hid (end_at (k := 17) (p := p) (t := none0) (nn := 0) (kz := .slice none 0 0) S7.out R6.out rfl)
    go_wp2_with fail
    (with_reducible refine C8.out.mono ?_)
    rintro e wf hP
    have HR : emitP r p l = endP (.mk 17 p none0 0 [a]) l1 := by simp only [emitP, nodeA, Par.bind, X4.out]
    rw [← HR] at hP
    have hfin := Lib.hid hP
    rcases post_form hP with ⟨z, rfl⟩ | ⟨ch, rfl⟩
    · clear hP HR C8
      go_wp2
      go_ret
      exact hfin.out
    · clear hP HR C8
      go_wp2
      exact ⟨rfl, hfin.out⟩
set_option maxRecDepth 1000000 in
set_option maxHeartbeats 2000000 in
theorem rollback_at (h : PS E v kvs md r l w) (p : Nat) : Calls Tryz.prog 82 #[.pointer (some ⟨E.b, 0, none⟩), .int .i64 (p : Int)] w (PostE E (rollbackP p l) fun a l' => OkA E v kvs md r w a l') := by
  have hr64 := h.r64
  have RM := Lib.hid h.room
  have S1 := Lib.hid (St.start h)
  have hnot : ∀ (x : Bool) (w : World), (Op.unary .not (.bool x)).run Tryz.prog w = .ok (.bool (!x)) w := fun _ _ => rfl
  clear h
  go_enter Tryz.func82, Tryz.ntmps82
  have RN : Hid (Rw E v (kvs ++ []) w.heap.size (.slice none 0 0) [] w) := Lib.hid Rw.nil
  have C2 := Lib.hid (end_at (k := 18) (p := p) (t := none0) (nn := 0) (kz := .slice none 0 0) S1.out RN.out rfl)
  go_wp2_with fail
  (with_reducible refine C2.out.mono ?_)
  rintro e wf hP
  have HR : rollbackP p l = endP (.mk 18 p none0 0 []) l := by simp only [rollbackP, nodeA, Par.bind]
  rw [← HR] at hP
  have hfin := Lib.hid hP
  rcases post_form hP with ⟨z, rfl⟩ | ⟨ch, rfl⟩
  · clear hP HR C2
    go_wp2
    go_ret
    exact hfin.out
  · clear hP HR C2
    go_wp2
    exact ⟨rfl, hfin.out⟩
set_option maxRecDepth 1000000 in
set_option maxHeartbeats 2000000 in
theorem chop_at (h : PS E v kvs md r l w) (p : Nat) : Calls Tryz.prog 83 #[.pointer (some ⟨E.b, 0, none⟩), .int .i64 (p : Int)] w (PostE E (chopP p l) fun a l' => OkA E v kvs md r w a l') := by
  have hr64 := h.r64
  have RM := Lib.hid h.room
  have S1 := Lib.hid (St.start h)
  have hnot : ∀ (x : Bool) (w : World), (Op.unary .not (.bool x)).run Tryz.prog w = .ok (.bool (!x)) w := fun _ _ => rfl
  clear h
  go_enter Tryz.func83, Tryz.ntmps83
  have RN : Hid (Rw E v (kvs ++ []) w.heap.size (.slice none 0 0) [] w) := Lib.hid Rw.nil
  have C2 := Lib.hid (end_at (k := 19) (p := p) (t := none0) (nn := 0) (kz := .slice none 0 0) S1.out RN.out rfl)
  go_wp2_with fail
  (with_reducible refine C2.out.mono ?_)
  rintro e wf hP
  have HR : chopP p l = endP (.mk 19 p none0 0 []) l := by simp only [chopP, nodeA, Par.bind]
  rw [← HR] at hP
  have hfin := Lib.hid hP
  rcases post_form hP with ⟨z, rfl⟩ | ⟨ch, rfl⟩
  · clear hP HR C2
    go_wp2
    go_ret
    exact hfin.out
  · clear hP HR C2
    go_wp2
    exact ⟨rfl, hfin.out⟩
set_option maxRecDepth 1000000 in
set_option maxHeartbeats 2000000 in
theorem let_at (h : PS E v kvs md r l w) (p : Nat) : Calls Tryz.prog 80 #[.pointer (some ⟨E.b, 0, none⟩), .int .i64 (p : Int)] w (PostE E (letP r p l) fun a l' => OkA E v kvs md r w a l') := by
  have hr64 := h.r64
  have RM := Lib.hid h.room
  have S1 := Lib.hid (St.start h)
  have hnot : ∀ (x : Bool) (w : World), (Op.unary .not (.bool x)).run Tryz.prog w = .ok (.bool (!x)) w := fun _ _ => rfl
  clear h
  go_enter Tryz.func80, Tryz.ntmps80
  have C2 := Lib.hid (named_at S1.out.ps 16 p)
  go_wp2_with fail
  (with_reducible refine C2.out.mono ?_)
  rintro e w3 hP
  clear C2
  cases hx : takeP 1 l with
  | err pe ce =>
    rw [hx] at hP
    obtain ⟨rfl, hb⟩ := hP
    have HB := Lib.hid hb
    have HR : Hid (letP r p l = .err pe ce) := Lib.hid (by simp only [letP, Par.bind, hx])
    clear hb hx
    go_wp2
    exact ⟨rfl, of_err HR.out HB.out⟩
  | ok t l1 =>
    rw [hx] at hP
    have X4 := Lib.hid hx
    obtain ⟨rfl, hs, hf⟩ := hP
    obtain ⟨S, T⟩ := S1.out.same hs hf
    clear hs hf hx
    have S5 := Lib.hid (S)
    clear S T S1
    have S6 := Lib.hid (S5.out.alloc (.cells #[.int .u8 16, .int .i64 (p : Int), .string t.txt, .int .i64 0, .slice none 0 0] 53))
    have Q7 : Hid (w.heap.size ≤ w3.heap.size) := Lib.hid S5.out.fr.size
    have L8 := Lib.hid (Lcl.new S5.out.ps (.cells #[.int .u8 16, .int .i64 (p : Int), .string t.txt, .int .i64 0, .slice none 0 0] 53))
    clear S5
    have C9 := Lib.hid (expect_at S6.out.ps ⟨#[61]⟩ (by decide))
    go_wp2_with fail
    (with_reducible refine C9.out.mono ?_)
    rintro e w10 hP
    clear C9
    cases hx : expectP ⟨#[61]⟩ l1 with
    | err pe ce =>
      rw [hx] at hP
      obtain ⟨rfl, hb⟩ := hP
      have HB := Lib.hid hb
      have HR : Hid (letP r p l = .err pe ce) := Lib.hid (by simp only [letP, Par.bind, X4.out, hx])
      clear hb hx
      go_wp2
      exact ⟨rfl, of_err HR.out HB.out⟩
    | ok p2 l2 =>
      rw [hx] at hP
      have X11 := Lib.hid hx
      obtain ⟨rfl, hs, hf⟩ := hP
      obtain ⟨S, T⟩ := S6.out.same hs hf
      clear hs hf hx
      have L12 := Lib.hid (L8.out.tr T)
      have S13 := Lib.hid (S)
      clear S T S6 L8
      have c14 := L12.out.cell 0 rfl
      have c15 := L12.out.cell 1 rfl
      have c16 := L12.out.cell 2 rfl
      have c17 := L12.out.cell 3 rfl
      have c18 := L12.out.cell 4 rfl
      have z19 := L12.out.fz
      have C20 := Lib.hid (exprR_at S13.out.ps)
      go_wp2_with fail
      clear c14 c15 c16 c17 c18 z19
      (with_reducible refine C20.out.mono ?_)
      rintro e w21 hP
      clear C20
      cases hx : exprR r l2 with
      | err pe ce =>
        rw [hx] at hP
        obtain ⟨rfl, hb⟩ := hP
        have HB := Lib.hid hb
        have HR : Hid (letP r p l = .err pe ce) := Lib.hid (by simp only [letP, Par.bind, X4.out, X11.out, hx])
        clear hb hx
        go_wp2
        exact ⟨rfl, of_err HR.out HB.out⟩
      | ok a l3 =>
        rw [hx] at hP
        have X22 := Lib.hid hx
        obtain ⟨v21, n21, rfl, S, T⟩ := S13.out.ast (ts' := [a]) hP rfl
        clear hP hx
        have L23 := Lib.hid (L12.out.tr T)
        have S24 := Lib.hid (S)
        clear S T S13 L12
        have c25 := L23.out.cell 0 rfl
        have c26 := L23.out.cell 1 rfl
        have c27 := L23.out.cell 2 rfl
        have c28 := L23.out.cell 3 rfl
        have c29 := L23.out.cell 4 rfl
        have z30 := L23.out.fz
        have R31 := Lib.hid (Rw.lit S24.out (q := w21.heap.size) (by first | rfl | simp [World.setCell]) (ks := roots md.length [a]) (cs := #[.int .i64 (rootI (md.length + sizeL []) a)]) (m := 1) (by simp [roots, rootI, sizeL] <;> omega) (by simp [roots]) (by omega))
        have S32 := Lib.hid (S24.out.alloc (.cells #[.int .i64 (rootI (md.length + sizeL []) a)] 3))
        have L33 := Lib.hid (L23.out.alloc (.cells #[.int .i64 (rootI (md.length + sizeL []) a)] 3))
        clear S24 L23
        have C34 := Lib.hid (end_at (k := 16) (p := p) (t := t.txt) (nn := 0) (kz := .slice none 0 0) S32.out R31.out rfl)
        go_wp2_with fail
        clear c25 c26 c27 c28 c29 z30
        (with_reducible refine C34.out.mono ?_)
        rintro e wf hP
        have HR : letP r p l = endP (.mk 16 p t.txt 0 [a]) l3 := by simp only [letP, Par.bind, X4.out, X11.out, X22.out]
        rw [← HR] at hP
        have hfin := Lib.hid hP
        rcases post_form hP with ⟨z, rfl⟩ | ⟨ch, rfl⟩
        · clear hP HR C34
          go_wp2
          go_ret
          exact hfin.out
        · clear hP HR C34
          go_wp2
          exact ⟨rfl, hfin.out⟩
set_option maxRecDepth 1000000 in
set_option maxHeartbeats 2000000 in
theorem scan_at (h : PS E v kvs md r l w) (p : Nat) : Calls Tryz.prog 75 #[.pointer (some ⟨E.b, 0, none⟩), .int .i64 (p : Int)] w (PostE E (scanP p l) fun a l' => OkA E v kvs md r w a l') := by
  have hr64 := h.r64
  have RM := Lib.hid h.room
  have S1 := Lib.hid (St.start h)
  have hnot : ∀ (x : Bool) (w : World), (Op.unary .not (.bool x)).run Tryz.prog w = .ok (.bool (!x)) w := fun _ _ => rfl
  clear h
  go_enter Tryz.func75, Tryz.ntmps75
  have C2 := Lib.hid (named_at S1.out.ps 11 p)
  go_wp2_with fail
  (with_reducible refine C2.out.mono ?_)
  rintro e w3 hP
  clear C2
  cases hx : takeP 1 l with
  | err pe ce =>
    rw [hx] at hP
    obtain ⟨rfl, hb⟩ := hP
    have HB := Lib.hid hb
    have HR : Hid (scanP p l = .err pe ce) := Lib.hid (by simp only [scanP, Par.bind, hx])
    clear hb hx
    go_wp2
    exact ⟨rfl, of_err HR.out HB.out⟩
  | ok t l1 =>
    rw [hx] at hP
    have X4 := Lib.hid hx
    obtain ⟨rfl, hs, hf⟩ := hP
    obtain ⟨S, T⟩ := S1.out.same hs hf
    clear hs hf hx
    have S5 := Lib.hid (S)
    clear S T S1
    have S6 := Lib.hid (S5.out.alloc (.cells #[.int .u8 11, .int .i64 (p : Int), .string t.txt, .int .i64 0, .slice none 0 0] 53))
    have Q7 : Hid (w.heap.size ≤ w3.heap.size) := Lib.hid S5.out.fr.size
    have L8 := Lib.hid (Lcl.new S5.out.ps (.cells #[.int .u8 11, .int .i64 (p : Int), .string t.txt, .int .i64 0, .slice none 0 0] 53))
    clear S5
    have C9 := Lib.hid (expect_at S6.out.ps ⟨#[61]⟩ (by decide))
    go_wp2_with fail
    (with_reducible refine C9.out.mono ?_)
    rintro e w10 hP
    clear C9
    cases hx : expectP ⟨#[61]⟩ l1 with
    | err pe ce =>
      rw [hx] at hP
      obtain ⟨rfl, hb⟩ := hP
      have HB := Lib.hid hb
      have HR : Hid (scanP p l = .err pe ce) := Lib.hid (by simp only [scanP, Par.bind, X4.out, hx])
      clear hb hx
      go_wp2
      exact ⟨rfl, of_err HR.out HB.out⟩
    | ok p2 l2 =>
      rw [hx] at hP
      have X11 := Lib.hid hx
      obtain ⟨rfl, hs, hf⟩ := hP
      obtain ⟨S, T⟩ := S6.out.same hs hf
      clear hs hf hx
      have L12 := Lib.hid (L8.out.tr T)
      have S13 := Lib.hid (S)
      clear S T S6 L8
      have c14 := L12.out.cell 0 rfl
      have c15 := L12.out.cell 1 rfl
      have c16 := L12.out.cell 2 rfl
      have c17 := L12.out.cell 3 rfl
      have c18 := L12.out.cell 4 rfl
      have z19 := L12.out.fz
      have C20 := Lib.hid (word_at S13.out.ps)
      go_wp2_with fail
      clear c14 c15 c16 c17 c18 z19
      (with_reducible refine C20.out.mono ?_)
      rintro e w21 hP
      clear C20
      cases hx : wordP l2 with
      | err pe ce =>
        rw [hx] at hP
        obtain ⟨rfl, hb⟩ := hP
        have HB := Lib.hid hb
        have HR : Hid (scanP p l = .err pe ce) := Lib.hid (by simp only [scanP, Par.bind, X4.out, X11.out, hx])
        clear hb hx
        go_wp2
        exact ⟨rfl, of_err HR.out HB.out⟩
      | ok a l3 =>
        rw [hx] at hP
        have X22 := Lib.hid hx
        obtain ⟨v21, n21, rfl, S, T⟩ := S13.out.ast (ts' := [a]) hP rfl
        clear hP hx
        have L23 := Lib.hid (L12.out.tr T)
        have S24 := Lib.hid (S)
        clear S T S13 L12
        have c25 := L23.out.cell 0 rfl
        have c26 := L23.out.cell 1 rfl
        have c27 := L23.out.cell 2 rfl
        have c28 := L23.out.cell 3 rfl
        have c29 := L23.out.cell 4 rfl
        have z30 := L23.out.fz
        have C31 := Lib.hid (expect_at S24.out.ps ⟨#[46]⟩ (by decide))
        go_wp2_with fail
        clear c25 c26 c27 c28 c29 z30
        (with_reducible refine C31.out.mono ?_)
        rintro e w32 hP
        clear C31
        cases hx : expectP ⟨#[46]⟩ l3 with
        | err pe ce =>
          rw [hx] at hP
          obtain ⟨rfl, hb⟩ := hP
          have HB := Lib.hid hb
          have HR : Hid (scanP p l = .err pe ce) := Lib.hid (by simp only [scanP, Par.bind, X4.out, X11.out, X22.out, hx])
          clear hb hx
          go_wp2
          exact ⟨rfl, of_err HR.out HB.out⟩
        | ok p4 l4 =>
          rw [hx] at hP
          have X33 := Lib.hid hx
          obtain ⟨rfl, hs, hf⟩ := hP
          obtain ⟨S, T⟩ := S24.out.same hs hf
          clear hs hf hx
          have L34 := Lib.hid (L23.out.tr T)
          have S35 := Lib.hid (S)
          clear S T S24 L23
          have c36 := L34.out.cell 0 rfl
          have c37 := L34.out.cell 1 rfl
          have c38 := L34.out.cell 2 rfl
          have c39 := L34.out.cell 3 rfl
          have c40 := L34.out.cell 4 rfl
          have z41 := L34.out.fz
          have C42 := Lib.hid (word_at S35.out.ps)
          go_wp2_with fail
          clear c36 c37 c38 c39 c40 z41
          (with_reducible refine C42.out.mono ?_)
          rintro e w43 hP
          clear C42
          cases hx : wordP l4 with
          | err pe ce =>
            rw [hx] at hP
            obtain ⟨rfl, hb⟩ := hP
            have HB := Lib.hid hb
            have HR : Hid (scanP p l = .err pe ce) := Lib.hid (by simp only [scanP, Par.bind, X4.out, X11.out, X22.out, X33.out, hx])
            clear hb hx
            go_wp2
            exact ⟨rfl, of_err HR.out HB.out⟩
          | ok b l5 =>
            rw [hx] at hP
            have X44 := Lib.hid hx
            obtain ⟨v43, n43, rfl, S, T⟩ := S35.out.ast (ts' := [a, b]) hP rfl
            clear hP hx
            have L45 := Lib.hid (L34.out.tr T)
            have S46 := Lib.hid (S)
            clear S T S35 L34
            have c47 := L45.out.cell 0 rfl
            have c48 := L45.out.cell 1 rfl
            have c49 := L45.out.cell 2 rfl
            have c50 := L45.out.cell 3 rfl
            have c51 := L45.out.cell 4 rfl
            have z52 := L45.out.fz
            have R53 := Lib.hid (Rw.lit S46.out (q := w43.heap.size) (by first | rfl | simp [World.setCell]) (ks := roots md.length [a, b]) (cs := #[.int .i64 (rootI (md.length + sizeL []) a), .int .i64 (rootI (md.length + sizeL [a]) b)]) (m := 2) (by simp [roots, rootI, sizeL] <;> omega) (by simp [roots]) (by omega))
            have S54 := Lib.hid (S46.out.alloc (.cells #[.int .i64 (rootI (md.length + sizeL []) a), .int .i64 (rootI (md.length + sizeL [a]) b)] 3))
            have L55 := Lib.hid (L45.out.alloc (.cells #[.int .i64 (rootI (md.length + sizeL []) a), .int .i64 (rootI (md.length + sizeL [a]) b)] 3))
            clear S46 L45
            have C56 := Lib.hid (end_at (k := 11) (p := p) (t := t.txt) (nn := 0) (kz := .slice none 0 0) S54.out R53.out rfl)
            go_wp2_with fail
            clear c47 c48 c49 c50 c51 z52
            (with_reducible refine C56.out.mono ?_)
            rintro e wf hP
            have HR : scanP p l = endP (.mk 11 p t.txt 0 [a, b]) l5 := by simp only [scanP, Par.bind, X4.out, X11.out, X22.out, X33.out, X44.out]
            rw [← HR] at hP
            have hfin := Lib.hid hP
            rcases post_form hP with ⟨z, rfl⟩ | ⟨ch, rfl⟩
            · clear hP HR C56
              go_wp2
              go_ret
              exact hfin.out
            · clear hP HR C56
              go_wp2
              exact ⟨rfl, hfin.out⟩
set_option maxRecDepth 1000000 in
set_option maxHeartbeats 2000000 in
theorem read_at (h : PS E v kvs md r l w) (p : Nat) : Calls Tryz.prog 71 #[.pointer (some ⟨E.b, 0, none⟩), .int .i64 (p : Int)] w (PostE E (readP r p l) fun a l' => OkA E v kvs md r w a l') := by
  have hr64 := h.r64
  have RM := Lib.hid h.room
  have S1 := Lib.hid (St.start h)
  have hnot : ∀ (x : Bool) (w : World), (Op.unary .not (.bool x)).run Tryz.prog w = .ok (.bool (!x)) w := fun _ _ => rfl
  clear h
  go_enter Tryz.func71, Tryz.ntmps71
  have C2 := Lib.hid (named_at S1.out.ps 7 p)
  go_wp2_with fail
  (with_reducible refine C2.out.mono ?_)
  rintro e w3 hP
  clear C2
  cases hx : takeP 1 l with
  | err pe ce =>
    rw [hx] at hP
    obtain ⟨rfl, hb⟩ := hP
    have HB := Lib.hid hb
    have HR : Hid (readP r p l = .err pe ce) := Lib.hid (by simp only [readP, Par.bind, hx])
    clear hb hx
    go_wp2
    exact ⟨rfl, of_err HR.out HB.out⟩
  | ok t l1 =>
    rw [hx] at hP
    have X4 := Lib.hid hx
    obtain ⟨rfl, hs, hf⟩ := hP
    obtain ⟨S, T⟩ := S1.out.same hs hf
    clear hs hf hx
    have S5 := Lib.hid (S)
    clear S T S1
    have S6 := Lib.hid (S5.out.alloc (.cells #[.int .u8 7, .int .i64 (p : Int), .string t.txt, .int .i64 0, .slice none 0 0] 53))
    have Q7 : Hid (w.heap.size ≤ w3.heap.size) := Lib.hid S5.out.fr.size
    have L8 := Lib.hid (Lcl.new S5.out.ps (.cells #[.int .u8 7, .int .i64 (p : Int), .string t.txt, .int .i64 0, .slice none 0 0] 53))
    clear S5
    have C9 := Lib.hid (expect_at S6.out.ps ⟨#[61]⟩ (by decide))
    go_wp2_with fail
    (with_reducible refine C9.out.mono ?_)
    rintro e w10 hP
    clear C9
    cases hx : expectP ⟨#[61]⟩ l1 with
    | err pe ce =>
      rw [hx] at hP
      obtain ⟨rfl, hb⟩ := hP
      have HB := Lib.hid hb
      have HR : Hid (readP r p l = .err pe ce) := Lib.hid (by simp only [readP, Par.bind, X4.out, hx])
      clear hb hx
      go_wp2
      exact ⟨rfl, of_err HR.out HB.out⟩
    | ok p2 l2 =>
      rw [hx] at hP
      have X11 := Lib.hid hx
      obtain ⟨rfl, hs, hf⟩ := hP
      obtain ⟨S, T⟩ := S6.out.same hs hf
      clear hs hf hx
      have L12 := Lib.hid (L8.out.tr T)
      have S13 := Lib.hid (S)
      clear S T S6 L8
      have c14 := L12.out.cell 0 rfl
      have c15 := L12.out.cell 1 rfl
      have c16 := L12.out.cell 2 rfl
      have c17 := L12.out.cell 3 rfl
      have c18 := L12.out.cell 4 rfl
      have z19 := L12.out.fz
      have C20 := Lib.hid (cell_at S13.out.ps)
      go_wp2_with fail
      clear c14 c15 c16 c17 c18 z19
      (with_reducible refine C20.out.mono ?_)
      rintro e w21 hP
      clear C20
      cases hx : cellP r l2 with
      | err pe ce =>
        rw [hx] at hP
        obtain ⟨rfl, hb⟩ := hP
        have HB := Lib.hid hb
        have HR : Hid (readP r p l = .err pe ce) := Lib.hid (by simp only [readP, Par.bind, X4.out, X11.out, hx])
        clear hb hx
        go_wp2
        exact ⟨rfl, of_err HR.out HB.out⟩
      | ok ab l3 =>
        rw [hx] at hP
        have X22 := Lib.hid hx
        obtain ⟨v21, n21, rfl, S, T⟩ := S13.out.two hP
        clear hP hx
        have L23 := Lib.hid (L12.out.tr T)
        have S24 := Lib.hid (S)
        clear S T S13 L12
        have c25 := L23.out.cell 0 rfl
        have c26 := L23.out.cell 1 rfl
        have c27 := L23.out.cell 2 rfl
        have c28 := L23.out.cell 3 rfl
        have c29 := L23.out.cell 4 rfl
        have z30 := L23.out.fz
        have C31 := Lib.hid (skip_at S24.out.ps ⟨#[102, 111, 114]⟩ (by decide))
        go_wp2_with fail
        clear c25 c26 c27 c28 c29 z30
        (with_reducible refine C31.out.mono ?_)
        rintro e w32 hP
        clear C31
        cases hx : skipP ⟨#[102, 111, 114]⟩ l3 with
        | err pe ce =>
          rw [hx] at hP
          obtain ⟨rfl, hb⟩ := hP
          have HB := Lib.hid hb
          have HR : Hid (readP r p l = .err pe ce) := Lib.hid (by simp only [readP, Par.bind, X4.out, X11.out, X22.out, hx])
          clear hb hx
          go_wp2
          exact ⟨rfl, of_err HR.out HB.out⟩
        | ok u l4 =>
          rw [hx] at hP
          cases u with
          | false =>
            have X33 := Lib.hid hx
            obtain ⟨rfl, hs, hf⟩ := hP
            obtain ⟨S, T⟩ := S24.out.same hs hf
            clear hs hf hx
            have L34 := Lib.hid (L23.out.tr T)
            have S35 := Lib.hid (S)
            clear S T S24 L23
            have c36 := L34.out.cell 0 rfl
            have c37 := L34.out.cell 1 rfl
            have c38 := L34.out.cell 2 rfl
            have c39 := L34.out.cell 3 rfl
            have c40 := L34.out.cell 4 rfl
            have z41 := L34.out.fz
            have R42 := Lib.hid (Rw.lit S35.out (q := w32.heap.size) (by first | rfl | simp [World.setCell]) (ks := roots md.length [ab.1, ab.2]) (cs := #[.int .i64 (rootI (md.length + sizeL []) ab.1), .int .i64 (rootI (md.length + sizeL [ab.1]) ab.2)]) (m := 2) (by simp [roots, rootI, sizeL] <;> omega) (by simp [roots]) (by omega))
            have S43 := Lib.hid (S35.out.alloc (.cells #[.int .i64 (rootI (md.length + sizeL []) ab.1), .int .i64 (rootI (md.length + sizeL [ab.1]) ab.2)] 3))
            have L44 := Lib.hid (L34.out.alloc (.cells #[.int .i64 (rootI (md.length + sizeL []) ab.1), .int .i64 (rootI (md.length + sizeL [ab.1]) ab.2)] 3))
            clear S35 L34
            have C45 := Lib.hid (end_at (k := 7) (p := p) (t := t.txt) (nn := 0) (kz := .slice none 0 0) S43.out R42.out rfl)
            go_wp2_with fail
            clear c36 c37 c38 c39 c40 z41
            (with_reducible refine C45.out.mono ?_)
            rintro e wf hP
            have HR : readP r p l = endP (.mk 7 p t.txt 0 [ab.1, ab.2]) l4 := by simp only [readP, Par.bind, X4.out, X11.out, X22.out, X33.out]
            rw [← HR] at hP
            have hfin := Lib.hid hP
            rcases post_form hP with ⟨z, rfl⟩ | ⟨ch, rfl⟩
            · clear hP HR C45
              go_wp2
              go_ret
              exact hfin.out
            · clear hP HR C45
              go_wp2
              exact ⟨rfl, hfin.out⟩
          | true =>
            have X33 := Lib.hid hx
            obtain ⟨rfl, hs, hf⟩ := hP
            obtain ⟨S, T⟩ := S24.out.same hs hf
            clear hs hf hx
            have L34 := Lib.hid (L23.out.tr T)
            have S35 := Lib.hid (S)
            clear S T S24 L23
            have c36 := L34.out.cell 0 rfl
            have c37 := L34.out.cell 1 rfl
            have c38 := L34.out.cell 2 rfl
            have c39 := L34.out.cell 3 rfl
            have c40 := L34.out.cell 4 rfl
            have z41 := L34.out.fz
            have C42 := Lib.hid (expect_at S35.out.ps ⟨#[117, 112, 100, 97, 116, 101]⟩ (by decide))
            go_wp2_with fail
            clear c36 c37 c38 c39 c40 z41
            (with_reducible refine C42.out.mono ?_)
            rintro e w43 hP
            clear C42
            cases hx : expectP ⟨#[117, 112, 100, 97, 116, 101]⟩ l4 with
            | err pe ce =>
              rw [hx] at hP
              obtain ⟨rfl, hb⟩ := hP
              have HB := Lib.hid hb
              have HR : Hid (readP r p l = .err pe ce) := Lib.hid (by simp only [readP, Par.bind, X4.out, X11.out, X22.out, X33.out, hx])
              clear hb hx
              go_wp2
              exact ⟨rfl, of_err HR.out HB.out⟩
            | ok p5 l5 =>
              rw [hx] at hP
              have X44 := Lib.hid hx
              obtain ⟨rfl, hs, hf⟩ := hP
              obtain ⟨S, T⟩ := S35.out.same hs hf
              clear hs hf hx
              have L45 := Lib.hid (L34.out.tr T)
              have S46 := Lib.hid (S)
              clear S T S35 L34
              have c47 := L45.out.cell 0 rfl
              have c48 := L45.out.cell 1 rfl
              have c49 := L45.out.cell 2 rfl
              have c50 := L45.out.cell 3 rfl
              have c51 := L45.out.cell 4 rfl
              have z52 := L45.out.fz
              have S53 := Lib.hid (S46.out.set (a := ⟨w3.heap.size, 3, none⟩) L45.out.loc Q7.out (.int .i64 1))
              have L54 := Lib.hid (L45.out.set 3 (.int .i64 1))
              clear S46 L45
              have R55 := Lib.hid (Rw.lit S53.out (q := w43.heap.size) (by first | rfl | simp [World.setCell]) (ks := roots md.length [ab.1, ab.2]) (cs := #[.int .i64 (rootI (md.length + sizeL []) ab.1), .int .i64 (rootI (md.length + sizeL [ab.1]) ab.2)]) (m := 2) (by simp [roots, rootI, sizeL] <;> omega) (by simp [roots]) (by omega))
              have S56 := Lib.hid (S53.out.alloc (.cells #[.int .i64 (rootI (md.length + sizeL []) ab.1), .int .i64 (rootI (md.length + sizeL [ab.1]) ab.2)] 3))
              have L57 := Lib.hid (L54.out.alloc (.cells #[.int .i64 (rootI (md.length + sizeL []) ab.1), .int .i64 (rootI (md.length + sizeL [ab.1]) ab.2)] 3))
              clear S53 L54
              have C58 := Lib.hid (end_at (k := 7) (p := p) (t := t.txt) (nn := 1) (kz := .slice none 0 0) S56.out R55.out rfl)
              go_wp2_with fail
              clear c47 c48 c49 c50 c51 z52
              (with_reducible refine C58.out.mono ?_)
              rintro e wf hP
              have HR : readP r p l = endP (.mk 7 p t.txt 1 [ab.1, ab.2]) l5 := by simp only [readP, Par.bind, X4.out, X11.out, X22.out, X33.out, X44.out]
              rw [← HR] at hP
              have hfin := Lib.hid hP
              rcases post_form hP with ⟨z, rfl⟩ | ⟨ch, rfl⟩
              · clear hP HR C58
                go_wp2
                go_ret
                exact hfin.out
              · clear hP HR C58
                go_wp2
                exact ⟨rfl, hfin.out⟩
set_option maxRecDepth 1000000 in
set_option maxHeartbeats 2000000 in
theorem lock_at (h : PS E v kvs md r l w) (p : Nat) : Calls Tryz.prog 76 #[.pointer (some ⟨E.b, 0, none⟩), .int .i64 (p : Int)] w (PostE E (lockP p l) fun a l' => OkA E v kvs md r w a l') := by
  have hr64 := h.r64
  have RM := Lib.hid h.room
  have S1 := Lib.hid (St.start h)
  have hnot : ∀ (x : Bool) (w : World), (Op.unary .not (.bool x)).run Tryz.prog w = .ok (.bool (!x)) w := fun _ _ => rfl
  clear h
  have S2 := Lib.hid (S1.out.alloc (.cells #[.int .u8 12, .int .i64 (p : Int), .string ⟨#[]⟩, .int .i64 0, .slice none 0 0] 53))
  have Q3 : Hid (w.heap.size ≤ w.heap.size) := Lib.hid S1.out.fr.size
  have L4 := Lib.hid (Lcl.new S1.out.ps (.cells #[.int .u8 12, .int .i64 (p : Int), .string ⟨#[]⟩, .int .i64 0, .slice none 0 0] 53))
  clear S1
  go_enter Tryz.func76, Tryz.ntmps76
  have C5 := Lib.hid (word_at S2.out.ps)
  go_wp2_with fail
  (with_reducible refine C5.out.mono ?_)
  rintro e w6 hP
  clear C5
  cases hx : wordP l with
  | err pe ce =>
    rw [hx] at hP
    obtain ⟨rfl, hb⟩ := hP
    have HB := Lib.hid hb
    have HR : Hid (lockP p l = .err pe ce) := Lib.hid (by simp only [lockP, Par.bind, hx])
    clear hb hx
    go_wp2
    exact ⟨rfl, of_err HR.out HB.out⟩
  | ok a l1 =>
    rw [hx] at hP
    have X7 := Lib.hid hx
    obtain ⟨v6, n6, rfl, S, T⟩ := S2.out.ast (ts' := [a]) hP rfl
    clear hP hx
    have L8 := Lib.hid (L4.out.tr T)
    have S9 := Lib.hid (S)
    clear S T S2 L4
    have c10 := L8.out.cell 0 rfl
    have c11 := L8.out.cell 1 rfl
    have c12 := L8.out.cell 2 rfl
    have c13 := L8.out.cell 3 rfl
    have c14 := L8.out.cell 4 rfl
    have z15 := L8.out.fz
    have C16 := Lib.hid (skip_at S9.out.ps ⟨#[97, 108, 108]⟩ (by decide))
    go_wp2_with fail
    clear c10 c11 c12 c13 c14 z15
    (with_reducible refine C16.out.mono ?_)
    rintro e w17 hP
    clear C16
    cases hx : skipP ⟨#[97, 108, 108]⟩ l1 with
    | err pe ce =>
      rw [hx] at hP
      obtain ⟨rfl, hb⟩ := hP
      have HB := Lib.hid hb
      have HR : Hid (lockP p l = .err pe ce) := Lib.hid (by simp only [lockP, Par.bind, X7.out, hx])
      clear hb hx
      go_wp2
      exact ⟨rfl, of_err HR.out HB.out⟩
    | ok u l2 =>
      rw [hx] at hP
      cases u with
      | false =>
        have X18 := Lib.hid hx
        obtain ⟨rfl, hs, hf⟩ := hP
        obtain ⟨S, T⟩ := S9.out.same hs hf
        clear hs hf hx
        have L19 := Lib.hid (L8.out.tr T)
        have S20 := Lib.hid (S)
        clear S T S9 L8
        have c21 := L19.out.cell 0 rfl
        have c22 := L19.out.cell 1 rfl
        have c23 := L19.out.cell 2 rfl
        have c24 := L19.out.cell 3 rfl
        have c25 := L19.out.cell 4 rfl
        have z26 := L19.out.fz
        have C27 := Lib.hid (expect_at S20.out.ps ⟨#[115, 104, 97, 114, 101, 100]⟩ (by decide))
        go_wp2_with fail
        clear c21 c22 c23 c24 c25 z26
        (with_reducible refine C27.out.mono ?_)
        rintro e w28 hP
        clear C27
        cases hx : expectP ⟨#[115, 104, 97, 114, 101, 100]⟩ l2 with
        | err pe ce =>
          rw [hx] at hP
          obtain ⟨rfl, hb⟩ := hP
          have HB := Lib.hid hb
          have HR : Hid (lockP p l = .err pe ce) := Lib.hid (by simp only [lockP, Par.bind, X7.out, X18.out, hx])
          clear hb hx
          go_wp2
          exact ⟨rfl, of_err HR.out HB.out⟩
        | ok p3 l3 =>
          rw [hx] at hP
          have X29 := Lib.hid hx
          obtain ⟨rfl, hs, hf⟩ := hP
          obtain ⟨S, T⟩ := S20.out.same hs hf
          clear hs hf hx
          have L30 := Lib.hid (L19.out.tr T)
          have S31 := Lib.hid (S)
          clear S T S20 L19
          have c32 := L30.out.cell 0 rfl
          have c33 := L30.out.cell 1 rfl
          have c34 := L30.out.cell 2 rfl
          have c35 := L30.out.cell 3 rfl
          have c36 := L30.out.cell 4 rfl
          have z37 := L30.out.fz
          have R38 := Lib.hid (Rw.lit S31.out (q := w28.heap.size) (by first | rfl | simp [World.setCell]) (ks := roots md.length [a]) (cs := #[.int .i64 (rootI (md.length + sizeL []) a)]) (m := 1) (by simp [roots, rootI, sizeL] <;> omega) (by simp [roots]) (by omega))
          have S39 := Lib.hid (S31.out.alloc (.cells #[.int .i64 (rootI (md.length + sizeL []) a)] 3))
          have L40 := Lib.hid (L30.out.alloc (.cells #[.int .i64 (rootI (md.length + sizeL []) a)] 3))
          clear S31 L30
          have C41 := Lib.hid (end_at (k := 12) (p := p) (t := none0) (nn := 0) (kz := .slice none 0 0) S39.out R38.out rfl)
          go_wp2_with fail
          clear c32 c33 c34 c35 c36 z37
          (with_reducible refine C41.out.mono ?_)
          rintro e wf hP
          have HR : lockP p l = endP (.mk 12 p none0 0 [a]) l3 := by simp only [lockP, Par.bind, X7.out, X18.out, X29.out]
          rw [← HR] at hP
          have hfin := Lib.hid hP
          rcases post_form hP with ⟨z, rfl⟩ | ⟨ch, rfl⟩
          · clear hP HR C41
            go_wp2
            go_ret
            exact hfin.out
          · clear hP HR C41
            go_wp2
            exact ⟨rfl, hfin.out⟩
      | true =>
        have X18 := Lib.hid hx
        obtain ⟨rfl, hs, hf⟩ := hP
        obtain ⟨S, T⟩ := S9.out.same hs hf
        clear hs hf hx
        have L19 := Lib.hid (L8.out.tr T)
        have S20 := Lib.hid (S)
        clear S T S9 L8
        have c21 := L19.out.cell 0 rfl
        have c22 := L19.out.cell 1 rfl
        have c23 := L19.out.cell 2 rfl
        have c24 := L19.out.cell 3 rfl
        have c25 := L19.out.cell 4 rfl
        have z26 := L19.out.fz
        have S27 := Lib.hid (S20.out.set (a := ⟨w.heap.size, 3, none⟩) L19.out.loc Q3.out (.int .i64 1))
        have L28 := Lib.hid (L19.out.set 3 (.int .i64 1))
        clear S20 L19
        have R29 := Lib.hid (Rw.lit S27.out (q := w17.heap.size) (by first | rfl | simp [World.setCell]) (ks := roots md.length [a]) (cs := #[.int .i64 (rootI (md.length + sizeL []) a)]) (m := 1) (by simp [roots, rootI, sizeL] <;> omega) (by simp [roots]) (by omega))
        have S30 := Lib.hid (S27.out.alloc (.cells #[.int .i64 (rootI (md.length + sizeL []) a)] 3))
        have L31 := Lib.hid (L28.out.alloc (.cells #[.int .i64 (rootI (md.length + sizeL []) a)] 3))
        clear S27 L28
        have C32 := Lib.hid (end_at (k := 12) (p := p) (t := none0) (nn := 1) (kz := .slice none 0 0) S30.out R29.out rfl)
        go_wp2_with fail
        clear c21 c22 c23 c24 c25 z26
        (with_reducible refine C32.out.mono ?_)
        rintro e wf hP
        have HR : lockP p l = endP (.mk 12 p none0 1 [a]) l2 := by simp only [lockP, Par.bind, X7.out, X18.out]
        rw [← HR] at hP
        have hfin := Lib.hid hP
        rcases post_form hP with ⟨z, rfl⟩ | ⟨ch, rfl⟩
        · clear hP HR C32
          go_wp2
          go_ret
          exact hfin.out
        · clear hP HR C32
          go_wp2
          exact ⟨rfl, hfin.out⟩
end
end Go.Proofs.YtpemghcafbedeaaGreatDoor
end
