import Derived.Test.YtgmkmpldlndboaaCodeM
import Derived.WalkKit
import Derived.Handy
import Derived.Below
import Derived.Carry
import Derived.RangeFuncBox
import Derived.OwnWalk
import Derived.Deep.AppendLies
import Derived.Deep.QuietTactic
import Derived.BigQuiet
namespace Go.Proofs.Ytgmkmpldlndboaa.Cd
open Go.RowKit
theorem info_of {t : Nat} {z : Value} {s b : Nat} (h : (Try.prog.info? t).map (fun i => (i.zero, i.size, i.bytes)) = some (some z, s, b)) : ∃ i, Try.prog.info? t = some i ∧ i.zero = some z ∧ i.size = s ∧ i.bytes = b := by
  cases hi : Try.prog.info? t with
  | none => rw [hi] at h; simp at h
  | some i =>
    rw [hi] at h
    simp only [Option.map_some, Option.some.injEq, Prod.mk.injEq] at h
    exact ⟨i, rfl, h.1, h.2.1, h.2.2⟩
theorem infoI : (Try.prog.info? 2).map (fun i => (i.zero, i.size, i.bytes)) = some (some (.int .i64 0), 1, 8) := by kernel_rfl
theorem infoT : (Try.prog.info? 39).map (fun i => (i.zero, i.size, i.bytes)) = some (some (.agg #[.int .u8 0, .int .i64 0, .int .i64 0]), 3, 24) := by kernel_rfl
theorem one_below (w : World) (o : Obj) : Below w.heap.size w (w.alloc o) := (Below.refl _ _).alloc (Nat.le_refl _) _
theorem own_slice {W : World} {B e size n : Nat} {v : Value} {xs : List Value} (h : W.ownsRow B e size v n xs) : ∃ vg vc, v = .slice vg n vc := by
  rcases h.2 with ⟨h1, h2⟩ | ⟨g, c, cur, h1, _⟩
  · exact ⟨_, _, by rw [h1, h2]⟩
  · exact ⟨_, _, h1⟩
/-- A pile in a variable's box: what was put last stands first in st. -/
structure Pile (base pb : Nat) (W : World) (st : List Int) (v : Value) : Prop where
  box : Boxed W pb 61 v
  own : W.ownsRow base 2 1 v st.length (st.reverse.map (Value.int .i64))
  lo : base ≤ pb
theorem Pile.on {base pb : Nat} {W W' : World} {st : List Int} {v : Value} (h : Pile base pb W st v) (hb : Below W.heap.size W W') : Pile base pb W' st v where
  box := h.box.kept (row := none) ⟨hb.os, hb.tape, hb.output, hb.size, fun k hk _ => hb.block k hk⟩ (by simp)
  own := h.own.kept (row := none) ⟨hb.os, hb.tape, hb.output, hb.size, fun k hk _ => hb.block k hk⟩ (by
    cases hv : v.ownBlock with
    | none => exact Or.inl rfl
    | some k => exact Or.inr (by simp))
  lo := h.lo
/-- What a call that changes the pile leaves. -/
def PutE (base pb : Nat) (w : World) (st : List Int) (e : Ending) (w' : World) : Prop := e = .returned (.tuple #[]) ∧ (∃ v', Pile base pb w' st v') ∧ Below base w w'
set_option maxHeartbeats 4000000 in
set_option maxRecDepth 1000000 in
theorem put_at (w : World) (base pb : Nat) (st : List Int) (v : Value) (x : Int) (h : Pile base pb w st v) (hs : st.length ≤ 100000) :
    Calls Try.prog 36 #[.pointer (some ⟨pb, 0, none⟩), .int .i64 x] w (PutE base pb w (x :: st)) := by
  obtain ⟨i0, hi, hz0, hz1, hz2⟩ := info_of infoI
  have HP := Lib.hid h
  have hlt := h.box.lt
  have hlo := h.lo
  have hb0 : base ≤ w.heap.size := by omega
  have hc := h.box.cell
  obtain ⟨vp, vc, rfl⟩ := own_slice h.own
  clear h
  go_enter Try.func36, Try.ntmps36
  go_wp2_with (at_builtin; refine wpList_append_lies _ rfl (.tmp 7) (.tmp 9) 61 rfl base 2 i0 _ 1 8 Try.underlying61 hi hz0 hz1 hz2 rfl (by decide) (.slice vp st.length vc) st.length _ rfl (HP.out.own.alloc _) ⟨w.heap.size, 0, none⟩ 1 1 [.int .i64 x] rfl rfl (World.news_of_block (cs := #[.int .i64 x]) (t := 2) (fr := (0, 0)) (heap_alloc_new _ _)) (by simp [Value.oneCell']) (by decide) (by unfold maxLen; omega) (by omega) (by simp; omega) _ rfl ?_; intro g5 cap5 w5 hown5 hgrow5 hat5 hlt5; obtain ⟨a5, hv5, hr5, hk5, hb5⟩ := HP.out.box.appended (by decide) HP.out.own hb0 HP.out.lo hown5 hgrow5; have hc5 := a5.cell; have hf5 := a5.frozen)
  simp [bodyPost, results, Try.results36, go_sem]
  unfold PutE
  exact ⟨rfl, ⟨_, hv5, by simpa using hr5, HP.out.lo⟩, hb5⟩
set_option maxHeartbeats 4000000 in
set_option maxRecDepth 1000000 in
theorem take_at (w : World) (base pb : Nat) (st : List Int) (v : Value) (x : Int) (h : Pile base pb w (x :: st) v) (hs : st.length ≤ 100000) :
    Calls Try.prog 24 #[.pointer (some ⟨pb, 0, none⟩)] w fun e w' => e = .returned (.int .i64 x) ∧ (∃ v', Pile base pb w' st v') ∧ Below base w w' := by
  have HP := Lib.hid h
  have hlo := h.lo
  have hc := h.box.cell
  have hf := h.box.frozen
  obtain ⟨vp, vc, rfl⟩ := own_slice h.own
  have hn : (x :: st).length = st.length + 1 := rfl
  obtain ⟨g, cap, cur, e, hbg, hg, hcap, hmax, hsz, htk⟩ : ∃ g cap cur, Value.slice vp (x :: st).length vc = .slice (some ⟨g, 0, none⟩) (x :: st).length cap ∧ base ≤ g ∧ w.heap[g]? = some (.cells cur 2 (0, 0)) ∧ (x :: st).length ≤ cap ∧ cap ≤ maxLen ∧ cur.size = cap * 1 ∧ cur.toList.take ((x :: st).length * 1) = (x :: st).reverse.map (Value.int .i64) := by
    rcases h.own.2 with ⟨_, h0⟩ | h
    · simp at h0
    · exact h
  obtain ⟨rfl, rfl⟩ : vp = some ⟨g, 0, none⟩ ∧ cap = vc := by
    have := e
    simp only [Value.slice.injEq] at this
    exact ⟨this.1, this.2.2.symm⟩
  have hx : w.cell? ⟨g, st.length, none⟩ = some (.int .i64 x) := by
    have := h.own.cells (g := g) rfl st.length (.int .i64 x) (by simp)
    have e : (⟨g, 0, none⟩ : Addr).add st.length = ⟨g, st.length, none⟩ := by unfold Addr.add; split <;> simp_all
    rwa [e] at this
  unfold maxLen at hmax
  have hdone : (w.setCell ⟨pb, 0, none⟩ (.slice (some ⟨g, 0, none⟩) st.length cap)).ownsRow base 2 1 (.slice (some ⟨g, 0, none⟩) st.length cap) st.length (st.reverse.map (Value.int .i64)) := by
    have hne : g ≠ pb := fun e => by
      subst e
      have := (show w.heap[g]? = _ from h.box).symm.trans hg
      simp at this
    refine ⟨by simp, Or.inr ⟨g, cap, cur, rfl, hbg, ?_, by rw [hn] at hcap; omega, by unfold maxLen; exact hmax, hsz, ?_⟩⟩
    · rw [Below.heap_setCell _ _ _ _ hne]; exact hg
    · have h1 := congrArg (List.take st.length) htk
      rw [List.take_take, hn, Nat.min_eq_left (by omega)] at h1
      rw [Nat.mul_one, h1]
      simp
  have HD : Hid (∃ v', Pile base pb (w.setCell ⟨pb, 0, none⟩ (.slice (some ⟨g, 0, none⟩) st.length cap)) st v') := Lib.hid ⟨_, h.box.set _, hdone, hlo⟩
  clear hdone
  rw [hn] at hc hcap
  generalize st.length = n at *
  clear h htk hsz
  go_enter Try.func24, Try.ntmps24
  go_wp2
  go_ret
  exact ⟨rfl, HD.out, (Below.refl _ _).setCell (p := ⟨pb, 0, none⟩) hlo _⟩
end Go.Proofs.Ytgmkmpldlndboaa.Cd
