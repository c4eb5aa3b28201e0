/- Contracts on the way to the laws of layer 5: ParseT. -/
import Derived.Test.YthdioipfdbbmmaaGreatDoorKaa
import Derived.Test.YthdioipfdbbmmaaGreatDoorKag
set_option linter.all false
set_option maxRecDepth 1000000
set_option maxHeartbeats 16000000
namespace Go.Proofs.YthdioipfdbbmmaaGreatDoor
section
open Go.RowKit
section
variable {E : Env} {v : Value} {kvs : List Value} {md : List Nd} {r : Nat} {l : List PT} {w : World}
theorem PS.deep {r' i : Nat} {z : Int} (h : PS E v kvs md r l w) (hr : r' ≤ 64) (hz : z = 64 - (r' : Int)) (hb : w.heap[E.b]? = some (.cells #[.slice (some ⟨E.g, 0, none⟩) E.toks.length E.cap, .int .i64 (i : Int), .int .i64 (64 - (r : Int)), E.mp, v] 125 (0, 0))) (hl : l = E.pts.drop i) :
 PS E v kvs md r' l (w.setCell ⟨E.b, 2, none⟩ (.int .i64 z)) where
 below := h.below.setCell (p := ⟨E.b, 2, none⟩) (Nat.le_refl _) _
 lt := by simpa [World.setCell] using h.lt
 gl := h.gl
 cap := h.cap
 tok := fun j k u hj hk => by
  have := h.gl
  rw [World.cell?_of_block (w := w) (a := ⟨E.g, j * 5 + k, none⟩) (Below.heap_setCell _ _ _ _ (show E.g ≠ E.b by omega))]
  exact h.tok j k u hj hk
 nx := ⟨i, hl, by rw [heap_set _ _ _ _ _ _ hb, hz]; rfl⟩
 r64 := hr
 ended := h.ended
 few := h.few
 room := h.room
 klen := h.klen
 own := h.own.kept (grownBy_set w _ _) (by
  cases hv : v.ownBlock with
  | none => exact Or.inl rfl
  | some k => exact Or.inr (fun e => by have := h.vlt k hv; have e := Option.some.inj e; simp only at e; omega))
 kids := fun j hj => (h.kids j hj).grown (grownBy_set w _ _) (by
  cases hv : (kvs.getD j default).ownBlock with
  | none => exact Or.inl rfl
  | some k => exact Or.inr (fun e => by have := (h.kids j hj).lt k hv; have e := Option.some.inj e; simp only at e; omega))
 apart := h.apart
 pair := h.pair
theorem enter_at (h : PS E v kvs md r l w) (s : ByteArray) (hs0 : s ≠ none0) : Calls Tryz.prog 241 #[.pointer (some ⟨E.b, 0, none⟩), .string s] w (PostE E (enterP s r l) fun p l' => OkV E v kvs md (r - 1) w (.int .i64 (p : Int)) l') := by
 have NX := lh (isNext_at h s)
 have hr64 := h.r64
 clear h
 go_enter Tryz.func241, Tryz.ntmps241
 go_wp2_with fail
 (with_reducible refine NX.out.mono ?_)
 rintro e w1 ⟨t, l', hl, rfl, hs, hf⟩
 subst hl
 obtain ⟨_, hl, _, _, c2, _, _⟩ := hs.cells
 have HF := lh hf
 have HS := lh hs
 have EX := expect_at hs s hs0
 clear hs hf NX hl
 by_cases ht : t.txt = s
 · have hd : decide (t.txt = s) = true := decide_eq_true ht
   rw [hd]
   clear hd
   have EX1 := lh (post_ok EX (show expectP s (t :: l') = .ok t.at' l' by rw [expectP, if_pos ht]))
   by_cases hr : r = 0
   · have HR : Hid (enterP s r (t :: l') = .err t.at' 51) := lh (by rw [enterP, if_pos ht, if_pos hr])
     have RF := lh (refused_at HS.out 51)
     have hd2 : ((64 - (r : Int)) == 64) = true := by simp [hr]
     clear EX EX1 ht
     go_wp2_with fail
     (with_reducible refine RF.out.mono ?_)
     rintro e w3 ⟨t3, l3, hl, rfl, hb⟩
     obtain ⟨rfl, rfl⟩ := List.cons.inj hl
     have HB := lh hb
     clear RF hb
     go_wp2
     exact ⟨rfl, of_err HR.out HB.out⟩
   · have HR : Hid (enterP s r (t :: l') = .ok t.at' l') := lh (by rw [enterP, if_pos ht, if_neg hr])
     have hd2 : ((64 - (r : Int)) == 64) = false := by simp; omega
     clear EX ht
     go_wp2_with fail
     (with_reducible refine EX1.out.mono ?_)
     rintro e w2 ⟨rfl, hs2, hf2⟩
     obtain ⟨i, hl, hb⟩ := hs2.nx
     have HP := lh (hs2.deep (r' := r - 1) (z := 64 - (r : Int) + 1) (by omega) (by omega) hb hl)
     have HF2 := lh ((HF.out.trans (hf2.mono HF.out.size)).setB 2 (.int .i64 (64 - (r : Int) + 1)))
     obtain ⟨_, _, _, _, d2, _, _⟩ := hs2.cells
     have z2 := hs2.fz
     clear hs2 hf2 EX1 hl hb c2
     go_wp2
     go_ret
     exact of_ok HR.out ⟨rfl, HP.out, HF2.out⟩
 · have hd : decide (t.txt = s) = false := decide_eq_false ht
   rw [hd]
   clear hd
   have EX1 := lh (post_err EX (show expectP s (t :: l') = .err t.at' 50 by rw [expectP, if_neg ht]))
   have HR : Hid (enterP s r (t :: l') = .err t.at' 50) := lh (by rw [enterP, if_neg ht])
   clear EX ht
   go_wp2_with fail
   (with_reducible refine EX1.out.mono ?_)
   rintro e w2 ⟨rfl, hb⟩
   have HB := lh hb
   clear hb EX1
   go_wp2
   exact ⟨rfl, of_err HR.out HB.out⟩
theorem leave_at (h : PS E v kvs md r l w) (s : ByteArray) (hs0 : s ≠ none0) (hr : r < 64) : Calls Tryz.prog 242 #[.pointer (some ⟨E.b, 0, none⟩), .string s] w (PostE E (expectP s l) fun _ l' => OkV E v kvs md (r + 1) w (.tuple #[]) l') := by
 have EX := expect_at h s hs0
 clear h
 cases hx : expectP s l with
 | err p c =>
  have EX1 := lh (post_err EX hx)
  clear EX hx
  go_enter Tryz.func242, Tryz.ntmps242
  go_wp2_with fail
  (with_reducible refine EX1.out.mono ?_)
  rintro e w2 ⟨rfl, hb⟩
  have HB := lh hb
  clear hb EX1
  go_wp2
  exact ⟨rfl, of_err rfl HB.out⟩
 | ok p l' =>
  have EX1 := lh (post_ok EX hx)
  clear EX hx
  go_enter Tryz.func242, Tryz.ntmps242
  go_wp2_with fail
  (with_reducible refine EX1.out.mono ?_)
  rintro e w2 ⟨rfl, hs2, hf2⟩
  obtain ⟨i, hl, hb⟩ := hs2.nx
  have HP := lh (hs2.deep (r' := r + 1) (z := 64 - (r : Int) - 1) (by omega) (by omega) hb hl)
  have HF2 := lh (hf2.setB 2 (.int .i64 (64 - (r : Int) - 1)))
  obtain ⟨_, _, _, _, d2, _, _⟩ := hs2.cells
  have z2 := hs2.fz
  clear hs2 hf2 EX1 hl hb
  go_wp2
  first
   | go_end0
   | skip
  exact of_ok rfl ⟨rfl, HP.out, HF2.out⟩
end
end
end Go.Proofs.YthdioipfdbbmmaaGreatDoor
