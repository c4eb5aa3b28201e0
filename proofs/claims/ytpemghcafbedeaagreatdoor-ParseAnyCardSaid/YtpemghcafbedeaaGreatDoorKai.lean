/- Contracts on the way to the laws of layer 5: ParseZd, ParseZe, ParseZf, ParseZg, ParseFn, TreeO, TreeV, ParsePa. -/
import Derived.Test.YtpemghcafbedeaaGreatDoorKaa
import Derived.Test.YtpemghcafbedeaaGreatDoorKab
import Derived.Test.YtpemghcafbedeaaGreatDoorKah
import Derived.Deep.RegionHeld3
import Derived.Deep.RegionWith
import Derived.WalkSmall
import Derived.Test.YtpemghcafbedeaaGreatDoorProg
import Derived.RangeFuncBox
import Derived.RangeFuncNested
import Derived.RangeFuncLeaves
import Derived.Shelf.Abstract
import Derived.WalkKit
import Derived.OwnWalkIn
import Derived.TacticsInMore
import Derived.LoopNIn
import Derived.LoopIn
import Derived.Lib.Hide
import Derived.Handy
import Derived.Below
import Derived.Carry
import Derived.Deep.QuietTactic
import Derived.BigQuiet
set_option linter.all false
section
namespace Go.Proofs.YtpemghcafbedeaaGreatDoor
open Go.RowKit
open Par (Less many many_err many_done many_more)
section
variable {E : Env} {v : Value} {kvs : List Value} {md : List Nd} {r : Nat} {l : List PT} {w : World}
set_option maxRecDepth 1000000 in
set_option maxHeartbeats 2000000 in
theorem words_at (h : PS E v kvs md r l w) : Calls Tryz.prog 142 #[.pointer (some ⟨E.b, 0, none⟩)] w (PostE E (wordsP l) fun a l' => OkL E v kvs md r w a l') := by
  have hr64 := h.r64
  have RM := Lib.hid h.room
  have S1 := Lib.hid (St.start h)
  have hnot : ∀ (x : Bool) (w : World), (Op.unary .not (.bool x)).run Tryz.prog w = .ok (.bool (!x)) w := fun _ _ => rfl
  clear h
  go_enter Tryz.func142, Tryz.ntmps142
  have C2 := Lib.hid (word_at S1.out.ps)
  go_wp2_with fail
  (with_reducible refine C2.out.mono ?_)
  rintro e w3 hP
  clear C2
  cases hx : wordP l with
  | err pe ce =>
    rw [hx] at hP
    obtain ⟨rfl, hb⟩ := hP
    have HB := Lib.hid hb
    have HR : Hid (wordsP l = .err pe ce) := Lib.hid (by simp only [wordsP, Par.bind, hx])
    clear hb hx
    go_wp2
    exact ⟨rfl, of_err HR.out HB.out⟩
  | ok a l1 =>
    rw [hx] at hP
    have X4 := Lib.hid hx
    obtain ⟨v3, n3, rfl, S, T⟩ := S1.out.ast (ts' := [a]) hP rfl
    clear hP hx
    have S5 := Lib.hid (S)
    clear S T S1
    have R6 := Lib.hid (Rw.lit S5.out (q := w3.heap.size) (by first | rfl | simp [World.setCell]) (ks := roots md.length [a]) (cs := #[.int .i64 (rootI (md.length + sizeL []) a)]) (m := 1) (by simp [roots, rootI, sizeL] <;> omega) (by simp [roots]) (by omega))
    have S7 := Lib.hid (S5.out.alloc (.cells #[.int .i64 (rootI (md.length + sizeL []) a)] 3))
    clear S5
    obtain ⟨i0, hi, hz0, hz1, hz2⟩ := info_partsP infoInt
    have I0 := Lib.hid hi
    have I1 := Lib.hid hz0
    have I2 := Lib.hid hz1
    have I3 := Lib.hid hz2
    clear hi hz0 hz1 hz2
    go_wp2_with fail
    go_loopw [3] (fun kvL wr => ∃ (ts : List Ast) (lk : List PT) (vk : Value) (nk : List Value), Hid (St E v kvs md w ts r lk vk nk wr) ∧ Hid (Rw E vk (kvs ++ nk) (w.heap.size) kvL (roots md.length ts) wr) ∧ Hid (many wordsStep [a] l1 = many wordsStep ts lk)) (fun _ wr => E.toks.length - nextOf E wr)
    case atStart => exact ⟨[a], l1, _, _, S7, R6, Lib.hid rfl⟩
    case round =>
      obtain ⟨ts, lk, vk, nk, S0, R0, HM⟩ := hrel
      have hleft := Lib.hid S0.out.ps.left
      clear S7 R6 
      have C8 := Lib.hid (skip_at S0.out.ps ⟨#[44]⟩ (by decide))
      go_wp2_with fail
      (with_reducible refine C8.out.mono ?_)
      rintro e w9 hP
      clear C8
      cases hx : skipP ⟨#[44]⟩ lk with
      | err pe ce =>
        rw [hx] at hP
        obtain ⟨rfl, hb⟩ := hP
        have HB := Lib.hid hb
        have HX : many wordsStep [a] l1 = .err pe ce := by rw [HM.out]; exact many_err (by simp only [wordsStep, Par.bind, hx])
        have HR : Hid (wordsP l = .err pe ce) := Lib.hid (by simp only [wordsP, Par.bind, X4.out, HX])
        clear hb hx HX
        go_wp2
        exact ⟨rfl, of_err HR.out HB.out⟩
      | ok u l9 =>
        rw [hx] at hP
        cases u with
        | true =>
          have X10 := Lib.hid hx
          obtain ⟨rfl, hs, hf2⟩ := hP
          obtain ⟨S, T⟩ := S0.out.same hs hf2
          clear hs hf2 hx
          have R11 := Lib.hid (R0.out.tr T)
          have S12 := Lib.hid (S)
          clear S T S0 R0
          have C13 := Lib.hid (word_at S12.out.ps)
          go_wp2_with fail
          (with_reducible refine C13.out.mono ?_)
          rintro e w14 hP
          clear C13
          cases hx : wordP l9 with
          | err pe ce =>
            rw [hx] at hP
            obtain ⟨rfl, hb⟩ := hP
            have HB := Lib.hid hb
            have HX : many wordsStep [a] l1 = .err pe ce := by rw [HM.out]; exact many_err (by simp only [wordsStep, Par.bind, X10.out, hx])
            have HR : Hid (wordsP l = .err pe ce) := Lib.hid (by simp only [wordsP, Par.bind, X4.out, HX])
            clear hb hx HX
            go_wp2
            exact ⟨rfl, of_err HR.out HB.out⟩
          | ok bq l14 =>
            rw [hx] at hP
            obtain ⟨v14, n14, rfl, S, T⟩ := S12.out.ast (ts' := ts ++ [bq]) hP rfl
            have HM2 : Hid (many wordsStep [a] l1 = many wordsStep (ts ++ [bq]) l14) := Lib.hid (by rw [HM.out]; exact many_more step_words (by simp only [wordsStep, Par.bind, Par.pure, X10.out, hx]))
            have hq : l14.length < lk.length := by
              have h5 : wordsStep ts lk = .ok (some (ts ++ [bq])) l14 := by simp only [wordsStep, Par.bind, Par.pure, X10.out, hx]
              exact (step_words _ _ _ _ h5).1 rfl
            clear hP hx
            have R15 := Lib.hid (R11.out.tr T)
            have S16 := Lib.hid (S)
            clear S T S12 R11
            have hk : (roots md.length ts).length ≤ 70000 := by have h6 := S16.out.ps.room; rw [List.length_append, postL_length, sizeL_append] at h6; rw [roots_length]; have := length_le_sizeL ts; omega
            have R17 := Lib.hid (R15.out.alloc (.cells #[.int .i64 (rootI (md.length + sizeL ts) bq)] 3))
            have S18 := Lib.hid (S16.out.alloc (.cells #[.int .i64 (rootI (md.length + sizeL ts) bq)] 3))
            have hbb : Hid (w.heap.size ≤ (w14.alloc (.cells #[.int .i64 (rootI (md.length + sizeL ts) bq)] 3)).heap.size) := Lib.hid (by have h7 := S18.out.fr.size; simp only [World.size_alloc] at *; omega)
            clear R15 S16 
            go_wp2_with (at_builtin; refine wpList_append_lies _ rfl (.tmp 9) (.tmp 12) 50 rfl (E.b + 1) 3 i0 _ 1 8 Tryz.underlying50 I0.out I1.out I2.out I3.out rfl (by decide) u3 (roots md.length ts).length ((roots md.length ts).map (Value.int .i64)) rfl R17.out.own ⟨w14.heap.size, 0, none⟩ 1 1 [.int .i64 (rootI (md.length + sizeL ts) bq)] rfl rfl (World.news_of_block (cs := #[.int .i64 (rootI (md.length + sizeL ts) bq)]) (t := 3) (fr := (0, 0)) (heap_alloc_new _ _)) (by simp [Value.oneCell']) (by decide) (by unfold maxLen; omega) (by omega) S18.out.ps.lt _ rfl ?_; intro g5 cap5 w5 hown5 hgrow5 hat5 hlt5)
            have R5 : Hid (Rw E v14 (kvs ++ n14) (w.heap.size) (.slice (some ⟨g5, 0, none⟩) ((roots md.length ts).length + 1) cap5) (roots md.length (ts ++ [bq])) w5) := Lib.hid (by rw [roots_snoc]; exact R17.out.push hbb.out S18.out.ps.fresh hown5 rfl rfl hat5 rfl)
            have S5 := Lib.hid (S18.out.grown R17.out (Nat.le_refl _) hgrow5)
            have hl3 := Lib.hid S5.out.ps.left
            clear hown5 hgrow5 hat5 hlt5 R17 S18 
            go_wp2
            go_roundw
            case rel => exact ⟨_, _, _, _, S5, R5, HM2⟩
            case measure => have h1 := hleft.out; have h2 := hl3.out; show E.toks.length - nextOf E _ < E.toks.length - nextOf E wr; omega
        | false =>
          have X10 := Lib.hid hx
          obtain ⟨rfl, hs, hf2⟩ := hP
          obtain ⟨S, T⟩ := S0.out.same hs hf2
          clear hs hf2 hx
          have R11 := Lib.hid (R0.out.tr T)
          have S12 := Lib.hid (S)
          clear S T S0 R0
          have HX : Hid (many wordsStep [a] l1 = .ok ts l9) := Lib.hid (by rw [HM.out]; exact many_done (by simp only [wordsStep, Par.bind, Par.pure, X10.out]))
          clear HM
          have HR : Hid (wordsP l = .ok ts l9) := Lib.hid (by simp only [wordsP, Par.bind, X4.out, HX.out])
          go_wp2
          go_ret
          exact of_ok HR.out ⟨_, _, _, rfl, S12.out, R11.out⟩
end
end Go.Proofs.YtpemghcafbedeaaGreatDoor
end
section
namespace Go.Proofs.YtpemghcafbedeaaGreatDoor
open Go.RowKit
open Par (Less many many_err many_done many_more)
section
variable {E : Env} {v : Value} {kvs : List Value} {md : List Nd} {r : Nat} {l : List PT} {w : World}
set_option maxRecDepth 1000000 in
set_option maxHeartbeats 2000000 in
theorem put_at (h : PS E v kvs md r l w) (p : Nat) : Calls Tryz.prog 73 #[.pointer (some ⟨E.b, 0, none⟩), .int .i64 (p : Int)] w (PostE E (putP r p l) fun a l' => OkA E v kvs md r w a l') := by
  have hr64 := h.r64
  have RM := Lib.hid h.room
  have S1 := Lib.hid (St.start h)
  have hnot : ∀ (x : Bool) (w : World), (Op.unary .not (.bool x)).run Tryz.prog w = .ok (.bool (!x)) w := fun _ _ => rfl
  clear h
  go_enter Tryz.func73, Tryz.ntmps73
  have C2 := Lib.hid (row_at S1.out.ps)
  go_wp2_with fail
  (with_reducible refine C2.out.mono ?_)
  rintro e w3 hP
  clear C2
  cases hx : rowP r l with
  | err pe ce =>
    rw [hx] at hP
    obtain ⟨rfl, hb⟩ := hP
    have HB := Lib.hid hb
    have HR : Hid (putP r p l = .err pe ce) := Lib.hid (by simp only [putP, nodeA, Par.bind, hx])
    clear hb hx
    go_wp2
    exact ⟨rfl, of_err HR.out HB.out⟩
  | ok a l1 =>
    rw [hx] at hP
    have X4 := Lib.hid hx
    obtain ⟨v3, n3, rfl, S, T⟩ := S1.out.ast (ts' := [a]) hP rfl
    clear hP hx
    have S5 := Lib.hid (S)
    clear S T S1
    have R6 := Lib.hid (Rw.lit S5.out (q := w3.heap.size) (by first | rfl | simp [World.setCell]) (ks := roots md.length [a]) (cs := #[.int .i64 (rootI (md.length + sizeL []) a)]) (m := 1) (by simp [roots, rootI, sizeL] <;> omega) (by simp [roots]) (by omega))
    have S7 := Lib.hid (S5.out.alloc (.cells #[.int .i64 (rootI (md.length + sizeL []) a)] 3))
    clear S5
    have C8 := Lib.hid (expect_at S7.out.ps ⟨#[40]⟩ (by decide))
    go_wp2_with fail
    (with_reducible refine C8.out.mono ?_)
    rintro e w9 hP
    clear C8
    cases hx : expectP ⟨#[40]⟩ l1 with
    | err pe ce =>
      rw [hx] at hP
      obtain ⟨rfl, hb⟩ := hP
      have HB := Lib.hid hb
      have HR : Hid (putP r p l = .err pe ce) := Lib.hid (by simp only [putP, nodeA, Par.bind, X4.out, hx])
      clear hb hx
      go_wp2
      exact ⟨rfl, of_err HR.out HB.out⟩
    | ok p2 l2 =>
      rw [hx] at hP
      have X10 := Lib.hid hx
      obtain ⟨rfl, hs, hf⟩ := hP
      obtain ⟨S, T⟩ := S7.out.same hs hf
      clear hs hf hx
      have R11 := Lib.hid (R6.out.tr T)
      have S12 := Lib.hid (S)
      clear S T S7 R6
      have C13 := Lib.hid (exprR_at S12.out.ps)
      go_wp2_with fail
      (with_reducible refine C13.out.mono ?_)
      rintro e w14 hP
      clear C13
      cases hx : exprR r l2 with
      | err pe ce =>
        rw [hx] at hP
        obtain ⟨rfl, hb⟩ := hP
        have HB := Lib.hid hb
        have HR : Hid (putP r p l = .err pe ce) := Lib.hid (by simp only [putP, nodeA, Par.bind, X4.out, X10.out, hx])
        clear hb hx
        go_wp2
        exact ⟨rfl, of_err HR.out HB.out⟩
      | ok b l3 =>
        rw [hx] at hP
        have X15 := Lib.hid hx
        obtain ⟨v14, n14, rfl, S, T⟩ := S12.out.ast (ts' := [a, b]) hP rfl
        clear hP hx
        have R16 := Lib.hid (R11.out.tr T)
        have S17 := Lib.hid (S)
        clear S T S12 R11
        obtain ⟨i0, hi, hz0, hz1, hz2⟩ := info_partsP infoInt
        have I0 := Lib.hid hi
        have I1 := Lib.hid hz0
        have I2 := Lib.hid hz1
        have I3 := Lib.hid hz2
        clear hi hz0 hz1 hz2
        have hk : (roots md.length [a]).length ≤ 70000 := by rw [roots_length]; simp
        have R18 := Lib.hid (R16.out.alloc (.cells #[.int .i64 (rootI (md.length + sizeL [a]) b)] 3))
        have S19 := Lib.hid (S17.out.alloc (.cells #[.int .i64 (rootI (md.length + sizeL [a]) b)] 3))
        have hbb : Hid (w.heap.size ≤ (w14.alloc (.cells #[.int .i64 (rootI (md.length + sizeL [a]) b)] 3)).heap.size) := Lib.hid (by have h7 := S19.out.fr.size; simp only [World.size_alloc] at *; omega)
        clear R16 S17 
        go_wp2_with (at_builtin; refine wpList_append_lies _ rfl (.tmp 11) (.tmp 14) 50 rfl (E.b + 1) 3 i0 _ 1 8 Tryz.underlying50 I0.out I1.out I2.out I3.out rfl (by decide) (.slice (some ⟨w3.heap.size, 0, none⟩) 1 1) (roots md.length [a]).length ((roots md.length [a]).map (Value.int .i64)) rfl R18.out.own ⟨w14.heap.size, 0, none⟩ 1 1 [.int .i64 (rootI (md.length + sizeL [a]) b)] rfl rfl (World.news_of_block (cs := #[.int .i64 (rootI (md.length + sizeL [a]) b)]) (t := 3) (fr := (0, 0)) (heap_alloc_new _ _)) (by simp [Value.oneCell']) (by decide) (by unfold maxLen; omega) (by omega) S19.out.ps.lt _ rfl ?_; intro g5 cap5 w5 hown5 hgrow5 hat5 hlt5)
        have R5 : Hid (Rw E v14 (kvs ++ n14) (w.heap.size) (.slice (some ⟨g5, 0, none⟩) ((roots md.length [a]).length + 1) cap5) (roots md.length [a, b]) w5) := Lib.hid (by rw [show [a, b] = [a] ++ [b] from rfl, roots_snoc]; exact R18.out.push hbb.out S19.out.ps.fresh hown5 rfl rfl hat5 rfl)
        have S5 := Lib.hid (S19.out.grown R18.out (Nat.le_refl _) hgrow5)
        clear hown5 hgrow5 hat5 hlt5 hbb R18 S19 
        go_wp2_with fail
        go_loopw [5] (fun kvL wr => ∃ (ts : List Ast) (lk : List PT) (vk : Value) (nk : List Value), Hid (St E v kvs md w ts r lk vk nk wr) ∧ Hid (Rw E vk (kvs ++ nk) (w.heap.size) kvL (roots md.length ts) wr) ∧ Hid (many (putStep r) [a, b] l3 = many (putStep r) ts lk)) (fun _ wr => E.toks.length - nextOf E wr)
        case atStart => exact ⟨[a, b], l3, _, _, S5, R5, Lib.hid rfl⟩
        case round =>
          obtain ⟨ts, lk, vk, nk, S0, R0, HM⟩ := hrel
          have hleft := Lib.hid S0.out.ps.left
          clear S5 R5 
          have C20 := Lib.hid (skip_at S0.out.ps ⟨#[44]⟩ (by decide))
          go_wp2_with fail
          (with_reducible refine C20.out.mono ?_)
          rintro e w21 hP
          clear C20
          cases hx : skipP ⟨#[44]⟩ lk with
          | err pe ce =>
            rw [hx] at hP
            obtain ⟨rfl, hb⟩ := hP
            have HB := Lib.hid hb
            have HX : many (putStep r) [a, b] l3 = .err pe ce := by rw [HM.out]; exact many_err (by simp only [putStep, Par.bind, hx])
            have HR : Hid (putP r p l = .err pe ce) := Lib.hid (by simp only [putP, nodeA, Par.bind, X4.out, X10.out, X15.out, HX])
            clear hb hx HX
            go_wp2
            exact ⟨rfl, of_err HR.out HB.out⟩
          | ok u l21 =>
            rw [hx] at hP
            cases u with
            | true =>
              have X22 := Lib.hid hx
              obtain ⟨rfl, hs, hf2⟩ := hP
              obtain ⟨S, T⟩ := S0.out.same hs hf2
              clear hs hf2 hx
              have R23 := Lib.hid (R0.out.tr T)
              have S24 := Lib.hid (S)
              clear S T S0 R0
              have C25 := Lib.hid (exprR_at S24.out.ps)
              go_wp2_with fail
              (with_reducible refine C25.out.mono ?_)
              rintro e w26 hP
              clear C25
              cases hx : exprR r l21 with
              | err pe ce =>
                rw [hx] at hP
                obtain ⟨rfl, hb⟩ := hP
                have HB := Lib.hid hb
                have HX : many (putStep r) [a, b] l3 = .err pe ce := by rw [HM.out]; exact many_err (by simp only [putStep, Par.bind, X22.out, hx])
                have HR : Hid (putP r p l = .err pe ce) := Lib.hid (by simp only [putP, nodeA, Par.bind, X4.out, X10.out, X15.out, HX])
                clear hb hx HX
                go_wp2
                exact ⟨rfl, of_err HR.out HB.out⟩
              | ok bq l26 =>
                rw [hx] at hP
                obtain ⟨v26, n26, rfl, S, T⟩ := S24.out.ast (ts' := ts ++ [bq]) hP rfl
                have HM2 : Hid (many (putStep r) [a, b] l3 = many (putStep r) (ts ++ [bq]) l26) := Lib.hid (by rw [HM.out]; exact many_more (step_put r) (by simp only [putStep, Par.bind, Par.pure, X22.out, hx]))
                have hq : l26.length < lk.length := by
                  have h5 : (putStep r) ts lk = .ok (some (ts ++ [bq])) l26 := by simp only [putStep, Par.bind, Par.pure, X22.out, hx]
                  exact ((step_put r) _ _ _ _ h5).1 rfl
                clear hP hx
                have R27 := Lib.hid (R23.out.tr T)
                have S28 := Lib.hid (S)
                clear S T S24 R23
                have hk : (roots md.length ts).length ≤ 70000 := by have h6 := S28.out.ps.room; rw [List.length_append, postL_length, sizeL_append] at h6; rw [roots_length]; have := length_le_sizeL ts; omega
                have R29 := Lib.hid (R27.out.alloc (.cells #[.int .i64 (rootI (md.length + sizeL ts) bq)] 3))
                have S30 := Lib.hid (S28.out.alloc (.cells #[.int .i64 (rootI (md.length + sizeL ts) bq)] 3))
                have hbb : Hid (w.heap.size ≤ (w26.alloc (.cells #[.int .i64 (rootI (md.length + sizeL ts) bq)] 3)).heap.size) := Lib.hid (by have h7 := S30.out.fr.size; simp only [World.size_alloc] at *; omega)
                clear R27 S28 
                go_wp2_with (at_builtin; refine wpList_append_lies _ rfl (.tmp 18) (.tmp 21) 50 rfl (E.b + 1) 3 i0 _ 1 8 Tryz.underlying50 I0.out I1.out I2.out I3.out rfl (by decide) u5 (roots md.length ts).length ((roots md.length ts).map (Value.int .i64)) rfl R29.out.own ⟨w26.heap.size, 0, none⟩ 1 1 [.int .i64 (rootI (md.length + sizeL ts) bq)] rfl rfl (World.news_of_block (cs := #[.int .i64 (rootI (md.length + sizeL ts) bq)]) (t := 3) (fr := (0, 0)) (heap_alloc_new _ _)) (by simp [Value.oneCell']) (by decide) (by unfold maxLen; omega) (by omega) S30.out.ps.lt _ rfl ?_; intro g5 cap5 w5 hown5 hgrow5 hat5 hlt5)
                have R5 : Hid (Rw E v26 (kvs ++ n26) (w.heap.size) (.slice (some ⟨g5, 0, none⟩) ((roots md.length ts).length + 1) cap5) (roots md.length (ts ++ [bq])) w5) := Lib.hid (by rw [roots_snoc]; exact R29.out.push hbb.out S30.out.ps.fresh hown5 rfl rfl hat5 rfl)
                have S5 := Lib.hid (S30.out.grown R29.out (Nat.le_refl _) hgrow5)
                have hl3 := Lib.hid S5.out.ps.left
                clear hown5 hgrow5 hat5 hlt5 R29 S30 
                go_wp2
                go_roundw
                case rel => exact ⟨_, _, _, _, S5, R5, HM2⟩
                case measure => have h1 := hleft.out; have h2 := hl3.out; show E.toks.length - nextOf E _ < E.toks.length - nextOf E wr; omega
            | false =>
              have X22 := Lib.hid hx
              obtain ⟨rfl, hs, hf2⟩ := hP
              obtain ⟨S, T⟩ := S0.out.same hs hf2
              clear hs hf2 hx
              have R23 := Lib.hid (R0.out.tr T)
              have S24 := Lib.hid (S)
              clear S T S0 R0
              have HX : Hid (many (putStep r) [a, b] l3 = .ok ts l21) := Lib.hid (by rw [HM.out]; exact many_done (by simp only [putStep, Par.bind, Par.pure, X22.out]))
              clear HM
              have C25 := Lib.hid (expect_at S24.out.ps ⟨#[41]⟩ (by decide))
              go_wp2_with fail
              (with_reducible refine C25.out.mono ?_)
              rintro e w26 hP
              clear C25
              cases hx : expectP ⟨#[41]⟩ l21 with
              | err pe ce =>
                rw [hx] at hP
                obtain ⟨rfl, hb⟩ := hP
                have HB := Lib.hid hb
                have HR : Hid (putP r p l = .err pe ce) := Lib.hid (by simp only [putP, nodeA, Par.bind, X4.out, X10.out, X15.out, HX.out, hx])
                clear hb hx
                go_wp2
                exact ⟨rfl, of_err HR.out HB.out⟩
              | ok p6 l6 =>
                rw [hx] at hP
                have X27 := Lib.hid hx
                obtain ⟨rfl, hs, hf⟩ := hP
                obtain ⟨S, T⟩ := S24.out.same hs hf
                clear hs hf hx
                have R28 := Lib.hid (R23.out.tr T)
                have S29 := Lib.hid (S)
                clear S T S24 R23
                have C30 := Lib.hid (end_at (k := 9) (p := p) (t := none0) (nn := 0) (kz := .slice none 0 0) S29.out R28.out rfl)
                go_wp2_with fail
                (with_reducible refine C30.out.mono ?_)
                rintro e wf hP
                have HR : putP r p l = endP (.mk 9 p none0 0 ts) l6 := by simp only [putP, nodeA, Par.bind, X4.out, X10.out, X15.out, HX.out, X27.out]
                rw [← HR] at hP
                have hfin := Lib.hid hP
                rcases post_form hP with ⟨z, rfl⟩ | ⟨ch, rfl⟩
                · clear hP HR C30
                  go_wp2
                  go_ret
                  exact hfin.out
                · clear hP HR C30
                  go_wp2
                  exact ⟨rfl, hfin.out⟩
set_option maxRecDepth 1000000 in
set_option maxHeartbeats 2000000 in
theorem table_at (h : PS E v kvs md r l w) : Calls Tryz.prog 86 #[.pointer (some ⟨E.b, 0, none⟩)] w (PostE E (tableP l) fun a l' => OkA E v kvs md r w a l') := by
  have hr64 := h.r64
  have RM := Lib.hid h.room
  have S1 := Lib.hid (St.start h)
  have fl3 := tok_f3
  have hnot : ∀ (x : Bool) (w : World), (Op.unary .not (.bool x)).run Tryz.prog w = .ok (.bool (!x)) w := fun _ _ => rfl
  clear h
  go_enter Tryz.func86, Tryz.ntmps86
  have C2 := Lib.hid (expect_at S1.out.ps ⟨#[116, 97, 98, 108, 101]⟩ (by decide))
  go_wp2_with fail
  (with_reducible refine C2.out.mono ?_)
  rintro e w3 hP
  clear C2
  cases hx : expectP ⟨#[116, 97, 98, 108, 101]⟩ l with
  | err pe ce =>
    rw [hx] at hP
    obtain ⟨rfl, hb⟩ := hP
    have HB := Lib.hid hb
    have HR : Hid (tableP l = .err pe ce) := Lib.hid (by simp only [tableP, Par.bind, hx])
    clear hb hx
    go_wp2
    exact ⟨rfl, of_err HR.out HB.out⟩
  | ok p l1 =>
    rw [hx] at hP
    have X4 := Lib.hid hx
    obtain ⟨rfl, hs, hf⟩ := hP
    obtain ⟨S, T⟩ := S1.out.same hs hf
    clear hs hf hx
    have S5 := Lib.hid (S)
    clear S T S1
    have S6 := Lib.hid (S5.out.alloc (.cells #[.int .u8 2, .int .i64 (p : Int), .string ⟨#[]⟩, .int .i64 0, .slice none 0 0] 53))
    have Q7 : Hid (w.heap.size ≤ w3.heap.size) := Lib.hid S5.out.fr.size
    have L8 := Lib.hid (Lcl.new S5.out.ps (.cells #[.int .u8 2, .int .i64 (p : Int), .string ⟨#[]⟩, .int .i64 0, .slice none 0 0] 53))
    clear S5
    have C9 := Lib.hid (take_at S6.out.ps 1 (by decide))
    go_wp2_with fail
    (with_reducible refine C9.out.mono ?_)
    rintro e w10 hP
    clear C9
    cases hx : takeP 1 l1 with
    | err pe ce =>
      rw [hx] at hP
      obtain ⟨rfl, hb⟩ := hP
      have HB := Lib.hid hb
      have HR : Hid (tableP l = .err pe ce) := Lib.hid (by simp only [tableP, Par.bind, X4.out, hx])
      clear hb hx
      go_wp2
      exact ⟨rfl, of_err HR.out HB.out⟩
    | ok t l2 =>
      rw [hx] at hP
      have X11 := Lib.hid hx
      obtain ⟨sp, rfl, hs, hf⟩ := hP
      obtain ⟨S, T⟩ := S6.out.same hs hf
      clear hs hf hx
      simp only [tokA]
      have L12 := Lib.hid (L8.out.tr T)
      have S13 := Lib.hid (S)
      clear S T S6 L8
      have c14 := L12.out.cell 0 rfl
      have c15 := L12.out.cell 1 rfl
      have c16 := L12.out.cell 2 rfl
      have c17 := L12.out.cell 3 rfl
      have c18 := L12.out.cell 4 rfl
      have z19 := L12.out.fz
      have S20 := Lib.hid (S13.out.set (a := ⟨w3.heap.size, 2, none⟩) L12.out.loc Q7.out (.string t.txt))
      have L21 := Lib.hid (L12.out.set 2 (.string t.txt))
      clear S13 L12
      have C22 := Lib.hid (expect_at S20.out.ps ⟨#[40]⟩ (by decide))
      go_wp2_with fail
      clear c14 c15 c16 c17 c18 z19
      (with_reducible refine C22.out.mono ?_)
      rintro e w23 hP
      clear C22
      cases hx : expectP ⟨#[40]⟩ l2 with
      | err pe ce =>
        rw [hx] at hP
        obtain ⟨rfl, hb⟩ := hP
        have HB := Lib.hid hb
        have HR : Hid (tableP l = .err pe ce) := Lib.hid (by simp only [tableP, Par.bind, X4.out, X11.out, hx])
        clear hb hx
        go_wp2
        exact ⟨rfl, of_err HR.out HB.out⟩
      | ok p3 l3 =>
        rw [hx] at hP
        have X24 := Lib.hid hx
        obtain ⟨rfl, hs, hf⟩ := hP
        obtain ⟨S, T⟩ := S20.out.same hs hf
        clear hs hf hx
        have L25 := Lib.hid (L21.out.tr T)
        have S26 := Lib.hid (S)
        clear S T S20 L21
        have c27 := L25.out.cell 0 rfl
        have c28 := L25.out.cell 1 rfl
        have c29 := L25.out.cell 2 rfl
        have c30 := L25.out.cell 3 rfl
        have c31 := L25.out.cell 4 rfl
        have z32 := L25.out.fz
        have C33 := Lib.hid (words_at S26.out.ps)
        go_wp2_with fail
        clear c27 c28 c29 c30 c31 z32
        (with_reducible refine C33.out.mono ?_)
        rintro e w34 hP
        clear C33
        cases hx : wordsP l3 with
        | err pe ce =>
          rw [hx] at hP
          obtain ⟨rfl, hb⟩ := hP
          have HB := Lib.hid hb
          have HR : Hid (tableP l = .err pe ce) := Lib.hid (by simp only [tableP, Par.bind, X4.out, X11.out, X24.out, hx])
          clear hb hx
          go_wp2
          exact ⟨rfl, of_err HR.out HB.out⟩
        | ok ts l4 =>
          rw [hx] at hP
          have X35 := Lib.hid hx
          obtain ⟨v34, n34, kv34, rfl, S, T, RR⟩ := S26.out.list hP
          have RL := Lib.hid (RR.mono (S26.out.fr.size))
          clear hP hx RR
          have L36 := Lib.hid (L25.out.tr T)
          have S37 := Lib.hid (S)
          clear S T S26 L25
          have c38 := L36.out.cell 0 rfl
          have c39 := L36.out.cell 1 rfl
          have c40 := L36.out.cell 2 rfl
          have c41 := L36.out.cell 3 rfl
          have c42 := L36.out.cell 4 rfl
          have z43 := L36.out.fz
          have C44 := Lib.hid (expect_at S37.out.ps ⟨#[41]⟩ (by decide))
          go_wp2_with fail
          clear c38 c39 c40 c41 c42 z43
          (with_reducible refine C44.out.mono ?_)
          rintro e w45 hP
          clear C44
          cases hx : expectP ⟨#[41]⟩ l4 with
          | err pe ce =>
            rw [hx] at hP
            obtain ⟨rfl, hb⟩ := hP
            have HB := Lib.hid hb
            have HR : Hid (tableP l = .err pe ce) := Lib.hid (by simp only [tableP, Par.bind, X4.out, X11.out, X24.out, X35.out, hx])
            clear hb hx
            go_wp2
            exact ⟨rfl, of_err HR.out HB.out⟩
          | ok p5 l5 =>
            rw [hx] at hP
            have X46 := Lib.hid hx
            obtain ⟨rfl, hs, hf⟩ := hP
            obtain ⟨S, T⟩ := S37.out.same hs hf
            clear hs hf hx
            have L47 := Lib.hid (L36.out.tr T)
            have R48 := Lib.hid (RL.out.tr T)
            have S49 := Lib.hid (S)
            clear S T S37 L36 RL
            have c50 := L47.out.cell 0 rfl
            have c51 := L47.out.cell 1 rfl
            have c52 := L47.out.cell 2 rfl
            have c53 := L47.out.cell 3 rfl
            have c54 := L47.out.cell 4 rfl
            have z55 := L47.out.fz
            have C56 := Lib.hid (end_at (k := 2) (p := p) (t := t.txt) (nn := 0) (kz := .slice none 0 0) S49.out R48.out rfl)
            go_wp2_with fail
            clear c50 c51 c52 c53 c54 z55
            (with_reducible refine C56.out.mono ?_)
            rintro e wf hP
            have HR : tableP l = endP (.mk 2 p t.txt 0 ts) l5 := by simp only [tableP, Par.bind, X4.out, X11.out, X24.out, X35.out, X46.out]
            rw [← HR] at hP
            have hfin := Lib.hid hP
            rcases post_form hP with ⟨z, rfl⟩ | ⟨ch, rfl⟩
            · clear hP HR C56
              go_wp2
              go_ret
              exact hfin.out
            · clear hP HR C56
              go_wp2
              exact ⟨rfl, hfin.out⟩
set_option maxRecDepth 1000000 in
set_option maxHeartbeats 2000000 in
theorem for_at (h : PS E v kvs md r l w) (p : Nat) {B : Par Ast} (hB : ∀ v kvs md l w, PS E v kvs md r l w → Calls Tryz.prog 140 #[.pointer (some ⟨E.b, 0, none⟩)] w (PostE E (B l) fun a l' => OkA E v kvs md r w a l')) (hszB : ∀ c, Sz c B (fun a => a.size + c)) (hroom1 : md.length + 1 + l.length ≤ 70000) : Calls Tryz.prog 79 #[.pointer (some ⟨E.b, 0, none⟩), .int .i64 (p : Int)] w (PostE E (forP B p l) fun a l' => OkA E v kvs md r w a l') := by
  have HBB := Lib.hid @hB
  clear hB
  have hr64 := h.r64
  have RM := Lib.hid h.room
  have S1 := Lib.hid (St.start h)
  have hnot : ∀ (x : Bool) (w : World), (Op.unary .not (.bool x)).run Tryz.prog w = .ok (.bool (!x)) w := fun _ _ => rfl
  clear h
  go_enter Tryz.func79, Tryz.ntmps79
  have C2 := Lib.hid (named_at S1.out.ps 15 p)
  go_wp2_with fail
  (with_reducible refine C2.out.mono ?_)
  rintro e w3 hP
  clear C2
  cases hx : takeP 1 l with
  | err pe ce =>
    rw [hx] at hP
    obtain ⟨rfl, hb⟩ := hP
    have HB := Lib.hid hb
    have HR : Hid (forP B p l = .err pe ce) := Lib.hid (by simp only [forP, Par.bind, hx])
    clear hb hx
    go_wp2
    exact ⟨rfl, of_err HR.out HB.out⟩
  | ok t l1 =>
    rw [hx] at hP
    have X4 := Lib.hid hx
    obtain ⟨rfl, hs, hf⟩ := hP
    obtain ⟨S, T⟩ := S1.out.same hs hf
    clear hs hf hx
    have S5 := Lib.hid (S)
    clear S T S1
    have S6 := Lib.hid (S5.out.alloc (.cells #[.int .u8 15, .int .i64 (p : Int), .string t.txt, .int .i64 0, .slice none 0 0] 53))
    have Q7 : Hid (w.heap.size ≤ w3.heap.size) := Lib.hid S5.out.fr.size
    have L8 := Lib.hid (Lcl.new S5.out.ps (.cells #[.int .u8 15, .int .i64 (p : Int), .string t.txt, .int .i64 0, .slice none 0 0] 53))
    clear S5
    have C9 := Lib.hid (expect_at S6.out.ps ⟨#[61]⟩ (by decide))
    go_wp2_with fail
    (with_reducible refine C9.out.mono ?_)
    rintro e w10 hP
    clear C9
    cases hx : expectP ⟨#[61]⟩ l1 with
    | err pe ce =>
      rw [hx] at hP
      obtain ⟨rfl, hb⟩ := hP
      have HB := Lib.hid hb
      have HR : Hid (forP B p l = .err pe ce) := Lib.hid (by simp only [forP, Par.bind, X4.out, hx])
      clear hb hx
      go_wp2
      exact ⟨rfl, of_err HR.out HB.out⟩
    | ok p2 l2 =>
      rw [hx] at hP
      have X11 := Lib.hid hx
      obtain ⟨rfl, hs, hf⟩ := hP
      obtain ⟨S, T⟩ := S6.out.same hs hf
      clear hs hf hx
      have L12 := Lib.hid (L8.out.tr T)
      have S13 := Lib.hid (S)
      clear S T S6 L8
      have c14 := L12.out.cell 0 rfl
      have c15 := L12.out.cell 1 rfl
      have c16 := L12.out.cell 2 rfl
      have c17 := L12.out.cell 3 rfl
      have c18 := L12.out.cell 4 rfl
      have z19 := L12.out.fz
      have C20 := Lib.hid (number_at S13.out.ps)
      go_wp2_with fail
      clear c14 c15 c16 c17 c18 z19
      (with_reducible refine C20.out.mono ?_)
      rintro e w21 hP
      clear C20
      cases hx : numberP l2 with
      | err pe ce =>
        rw [hx] at hP
        obtain ⟨rfl, hb⟩ := hP
        have HB := Lib.hid hb
        have HR : Hid (forP B p l = .err pe ce) := Lib.hid (by simp only [forP, Par.bind, X4.out, X11.out, hx])
        clear hb hx
        go_wp2
        exact ⟨rfl, of_err HR.out HB.out⟩
      | ok a l3 =>
        rw [hx] at hP
        have X22 := Lib.hid hx
        obtain ⟨v21, n21, rfl, S, T⟩ := S13.out.ast (ts' := [a]) hP rfl
        clear hP hx
        have L23 := Lib.hid (L12.out.tr T)
        have S24 := Lib.hid (S)
        clear S T S13 L12
        have c25 := L23.out.cell 0 rfl
        have c26 := L23.out.cell 1 rfl
        have c27 := L23.out.cell 2 rfl
        have c28 := L23.out.cell 3 rfl
        have c29 := L23.out.cell 4 rfl
        have z30 := L23.out.fz
        have C31 := Lib.hid (expect_at S24.out.ps ⟨#[116, 111]⟩ (by decide))
        go_wp2_with fail
        clear c25 c26 c27 c28 c29 z30
        (with_reducible refine C31.out.mono ?_)
        rintro e w32 hP
        clear C31
        cases hx : expectP ⟨#[116, 111]⟩ l3 with
        | err pe ce =>
          rw [hx] at hP
          obtain ⟨rfl, hb⟩ := hP
          have HB := Lib.hid hb
          have HR : Hid (forP B p l = .err pe ce) := Lib.hid (by simp only [forP, Par.bind, X4.out, X11.out, X22.out, hx])
          clear hb hx
          go_wp2
          exact ⟨rfl, of_err HR.out HB.out⟩
        | ok p4 l4 =>
          rw [hx] at hP
          have X33 := Lib.hid hx
          obtain ⟨rfl, hs, hf⟩ := hP
          obtain ⟨S, T⟩ := S24.out.same hs hf
          clear hs hf hx
          have L34 := Lib.hid (L23.out.tr T)
          have S35 := Lib.hid (S)
          clear S T S24 L23
          have c36 := L34.out.cell 0 rfl
          have c37 := L34.out.cell 1 rfl
          have c38 := L34.out.cell 2 rfl
          have c39 := L34.out.cell 3 rfl
          have c40 := L34.out.cell 4 rfl
          have z41 := L34.out.fz
          have C42 := Lib.hid (number_at S35.out.ps)
          go_wp2_with fail
          clear c36 c37 c38 c39 c40 z41
          (with_reducible refine C42.out.mono ?_)
          rintro e w43 hP
          clear C42
          cases hx : numberP l4 with
          | err pe ce =>
            rw [hx] at hP
            obtain ⟨rfl, hb⟩ := hP
            have HB := Lib.hid hb
            have HR : Hid (forP B p l = .err pe ce) := Lib.hid (by simp only [forP, Par.bind, X4.out, X11.out, X22.out, X33.out, hx])
            clear hb hx
            go_wp2
            exact ⟨rfl, of_err HR.out HB.out⟩
          | ok b l5 =>
            rw [hx] at hP
            have X44 := Lib.hid hx
            obtain ⟨v43, n43, rfl, S, T⟩ := S35.out.ast (ts' := [a, b]) hP rfl
            clear hP hx
            have L45 := Lib.hid (L34.out.tr T)
            have S46 := Lib.hid (S)
            clear S T S35 L34
            have c47 := L45.out.cell 0 rfl
            have c48 := L45.out.cell 1 rfl
            have c49 := L45.out.cell 2 rfl
            have c50 := L45.out.cell 3 rfl
            have c51 := L45.out.cell 4 rfl
            have z52 := L45.out.fz
            have C53 := Lib.hid (HBB.out _ _ _ _ _ S46.out.ps)
            go_wp2_with fail
            clear c47 c48 c49 c50 c51 z52
            (with_reducible refine C53.out.mono ?_)
            rintro e w54 hP
            clear C53
            cases hx : B l5 with
            | err pe ce =>
              rw [hx] at hP
              obtain ⟨rfl, hb⟩ := hP
              have HB := Lib.hid hb
              have HR : Hid (forP B p l = .err pe ce) := Lib.hid (by simp only [forP, Par.bind, X4.out, X11.out, X22.out, X33.out, X44.out, hx])
              clear hb hx
              go_wp2
              exact ⟨rfl, of_err HR.out HB.out⟩
            | ok c l6 =>
              rw [hx] at hP
              have X55 := Lib.hid hx
              obtain ⟨v54, n54, rfl, S, T⟩ := S46.out.ast (ts' := [a, b, c]) hP rfl
              clear hP hx
              have L56 := Lib.hid (L45.out.tr T)
              have S57 := Lib.hid (S)
              clear S T S46 L45
              have c58 := L56.out.cell 0 rfl
              have c59 := L56.out.cell 1 rfl
              have c60 := L56.out.cell 2 rfl
              have c61 := L56.out.cell 3 rfl
              have c62 := L56.out.cell 4 rfl
              have z63 := L56.out.fz
              have HR : Hid (forP B p l = .ok (.mk 15 p t.txt 0 [a, b, c]) l6) := Lib.hid (by simp only [forP, Par.bind, Par.pure, X4.out, X11.out, X22.out, X33.out, X44.out, X55.out])
              have R64 := Lib.hid (Rw.lit S57.out (q := w54.heap.size) (by first | rfl | simp [World.setCell]) (ks := roots md.length [a, b, c]) (cs := #[.int .i64 (rootI (md.length + sizeL []) a), .int .i64 (rootI (md.length + sizeL [a]) b), .int .i64 (rootI (md.length + sizeL [a, b]) c)]) (m := 3) (by simp [roots, rootI, sizeL] <;> omega) (by simp [roots]) (by omega))
              have S65 := Lib.hid (S57.out.alloc (.cells #[.int .i64 (rootI (md.length + sizeL []) a), .int .i64 (rootI (md.length + sizeL [a]) b), .int .i64 (rootI (md.length + sizeL [a, b]) c)] 3))
              have L66 := Lib.hid (L56.out.alloc (.cells #[.int .i64 (rootI (md.length + sizeL []) a), .int .i64 (rootI (md.length + sizeL [a]) b), .int .i64 (rootI (md.length + sizeL [a, b]) c)] 3))
              clear S57 L56
              have C67 := Lib.hid (add_at S65.out.ps (15) ((p : Int)) (0) (t.txt) (.slice none 0 0) (.slice (some ⟨w54.heap.size, 0, none⟩) 3 3) (roots md.length [a, b, c]) R64.out.own R64.out.loc (by have h2 := sz_for hszB p 1 (by omega) _ _ _ HR.out; simp only [Ast.size] at h2; rw [List.length_append, postL_length]; omega))
              go_wp2_with fail
              clear c58 c59 c60 c61 c62 z63
              (with_reducible refine C67.out.mono ?_)
              rintro e wf hA
              have hO := Lib.hid (S65.out.add (ts := [a, b, c]) rfl hA R64.out.ge)
              obtain ⟨z, rfl⟩ := hA.int
              clear C67
              go_wp2
              go_ret
              exact of_ok HR.out hO.out
set_option maxRecDepth 1000000 in
set_option maxHeartbeats 2000000 in
theorem if_at (h : PS E v kvs md r l w) (p : Nat) {B : Par Ast} (hB : ∀ v kvs md l w, PS E v kvs md r l w → Calls Tryz.prog 140 #[.pointer (some ⟨E.b, 0, none⟩)] w (PostE E (B l) fun a l' => OkA E v kvs md r w a l')) (hszB : ∀ c, Sz c B (fun a => a.size + c)) (hroom1 : md.length + 1 + l.length ≤ 70000) : Calls Tryz.prog 78 #[.pointer (some ⟨E.b, 0, none⟩), .int .i64 (p : Int)] w (PostE E (ifP r B p l) fun a l' => OkA E v kvs md r w a l') := by
  have HBB := Lib.hid @hB
  clear hB
  have hr64 := h.r64
  have RM := Lib.hid h.room
  have S1 := Lib.hid (St.start h)
  have hnot : ∀ (x : Bool) (w : World), (Op.unary .not (.bool x)).run Tryz.prog w = .ok (.bool (!x)) w := fun _ _ => rfl
  clear h
  have S2 := Lib.hid (S1.out.alloc (.cells #[.int .u8 14, .int .i64 (p : Int), .string ⟨#[]⟩, .int .i64 0, .slice none 0 0] 53))
  have Q3 : Hid (w.heap.size ≤ w.heap.size) := Lib.hid S1.out.fr.size
  have L4 := Lib.hid (Lcl.new S1.out.ps (.cells #[.int .u8 14, .int .i64 (p : Int), .string ⟨#[]⟩, .int .i64 0, .slice none 0 0] 53))
  clear S1
  go_enter Tryz.func78, Tryz.ntmps78
  have C5 := Lib.hid (exprR_at S2.out.ps)
  go_wp2_with fail
  (with_reducible refine C5.out.mono ?_)
  rintro e w6 hP
  clear C5
  cases hx : exprR r l with
  | err pe ce =>
    rw [hx] at hP
    obtain ⟨rfl, hb⟩ := hP
    have HB := Lib.hid hb
    have HR : Hid (ifP r B p l = .err pe ce) := Lib.hid (by simp only [ifP, ifTail, Par.bind, hx])
    clear hb hx
    go_wp2
    exact ⟨rfl, of_err HR.out HB.out⟩
  | ok a l1 =>
    rw [hx] at hP
    have X7 := Lib.hid hx
    obtain ⟨v6, n6, rfl, S, T⟩ := S2.out.ast (ts' := [a]) hP rfl
    clear hP hx
    have L8 := Lib.hid (L4.out.tr T)
    have S9 := Lib.hid (S)
    clear S T S2 L4
    have c10 := L8.out.cell 0 rfl
    have c11 := L8.out.cell 1 rfl
    have c12 := L8.out.cell 2 rfl
    have c13 := L8.out.cell 3 rfl
    have c14 := L8.out.cell 4 rfl
    have z15 := L8.out.fz
    have C16 := Lib.hid (skip_at S9.out.ps ⟨#[61, 61]⟩ (by decide))
    go_wp2_with fail
    clear c10 c11 c12 c13 c14 z15
    (with_reducible refine C16.out.mono ?_)
    rintro e w17 hP
    clear C16
    cases hx : skipP ⟨#[61, 61]⟩ l1 with
    | err pe ce =>
      rw [hx] at hP
      obtain ⟨rfl, hb⟩ := hP
      have HB := Lib.hid hb
      have HR : Hid (ifP r B p l = .err pe ce) := Lib.hid (by simp only [ifP, ifTail, Par.bind, X7.out, hx])
      clear hb hx
      go_wp2
      exact ⟨rfl, of_err HR.out HB.out⟩
    | ok u l2 =>
      rw [hx] at hP
      cases u with
      | false =>
        have X18 := Lib.hid hx
        obtain ⟨rfl, hs, hf⟩ := hP
        obtain ⟨S, T⟩ := S9.out.same hs hf
        clear hs hf hx
        have L19 := Lib.hid (L8.out.tr T)
        have S20 := Lib.hid (S)
        clear S T S9 L8
        have c21 := L19.out.cell 0 rfl
        have c22 := L19.out.cell 1 rfl
        have c23 := L19.out.cell 2 rfl
        have c24 := L19.out.cell 3 rfl
        have c25 := L19.out.cell 4 rfl
        have z26 := L19.out.fz
        have C27 := Lib.hid (expect_at S20.out.ps ⟨#[60]⟩ (by decide))
        go_wp2_with fail
        clear c21 c22 c23 c24 c25 z26
        (with_reducible refine C27.out.mono ?_)
        rintro e w28 hP
        clear C27
        cases hx : expectP ⟨#[60]⟩ l2 with
        | err pe ce =>
          rw [hx] at hP
          obtain ⟨rfl, hb⟩ := hP
          have HB := Lib.hid hb
          have HR : Hid (ifP r B p l = .err pe ce) := Lib.hid (by simp only [ifP, ifTail, Par.bind, X7.out, X18.out, hx])
          clear hb hx
          go_wp2
          exact ⟨rfl, of_err HR.out HB.out⟩
        | ok p3 l3 =>
          rw [hx] at hP
          have X29 := Lib.hid hx
          obtain ⟨rfl, hs, hf⟩ := hP
          obtain ⟨S, T⟩ := S20.out.same hs hf
          clear hs hf hx
          have L30 := Lib.hid (L19.out.tr T)
          have S31 := Lib.hid (S)
          clear S T S20 L19
          have c32 := L30.out.cell 0 rfl
          have c33 := L30.out.cell 1 rfl
          have c34 := L30.out.cell 2 rfl
          have c35 := L30.out.cell 3 rfl
          have c36 := L30.out.cell 4 rfl
          have z37 := L30.out.fz
          have C38 := Lib.hid (exprR_at S31.out.ps)
          go_wp2_with fail
          clear c32 c33 c34 c35 c36 z37
          (with_reducible refine C38.out.mono ?_)
          rintro e w39 hP
          clear C38
          cases hx : exprR r l3 with
          | err pe ce =>
            rw [hx] at hP
            obtain ⟨rfl, hb⟩ := hP
            have HB := Lib.hid hb
            have HR : Hid (ifP r B p l = .err pe ce) := Lib.hid (by simp only [ifP, ifTail, Par.bind, X7.out, X18.out, X29.out, hx])
            clear hb hx
            go_wp2
            exact ⟨rfl, of_err HR.out HB.out⟩
          | ok b l4 =>
            rw [hx] at hP
            have X40 := Lib.hid hx
            obtain ⟨v39, n39, rfl, S, T⟩ := S31.out.ast (ts' := [a, b]) hP rfl
            clear hP hx
            have L41 := Lib.hid (L30.out.tr T)
            have S42 := Lib.hid (S)
            clear S T S31 L30
            have c43 := L41.out.cell 0 rfl
            have c44 := L41.out.cell 1 rfl
            have c45 := L41.out.cell 2 rfl
            have c46 := L41.out.cell 3 rfl
            have c47 := L41.out.cell 4 rfl
            have z48 := L41.out.fz
            have C49 := Lib.hid (HBB.out _ _ _ _ _ S42.out.ps)
            go_wp2_with fail
            clear c43 c44 c45 c46 c47 z48
            (with_reducible refine C49.out.mono ?_)
            rintro e w50 hP
            clear C49
            cases hx : B l4 with
            | err pe ce =>
              rw [hx] at hP
              obtain ⟨rfl, hb⟩ := hP
              have HB := Lib.hid hb
              have HR : Hid (ifP r B p l = .err pe ce) := Lib.hid (by simp only [ifP, ifTail, Par.bind, X7.out, X18.out, X29.out, X40.out, hx])
              clear hb hx
              go_wp2
              exact ⟨rfl, of_err HR.out HB.out⟩
            | ok c l5 =>
              rw [hx] at hP
              have X51 := Lib.hid hx
              obtain ⟨v50, n50, rfl, S, T⟩ := S42.out.ast (ts' := [a, b, c]) hP rfl
              clear hP hx
              have L52 := Lib.hid (L41.out.tr T)
              have S53 := Lib.hid (S)
              clear S T S42 L41
              have c54 := L52.out.cell 0 rfl
              have c55 := L52.out.cell 1 rfl
              have c56 := L52.out.cell 2 rfl
              have c57 := L52.out.cell 3 rfl
              have c58 := L52.out.cell 4 rfl
              have z59 := L52.out.fz
              have R60 := Lib.hid (Rw.litB S53.out (q := w50.heap.size) (by first | rfl | simp [World.setCell]) (B := w.heap.size + 1) (by have hlt9 := L52.out.lt; first | omega | (simp only [World.setCell, Array.size_modify] at *; omega)) (ks := roots md.length [a, b, c]) (cs := #[.int .i64 (rootI (md.length + sizeL []) a), .int .i64 (rootI (md.length + sizeL [a]) b), .int .i64 (rootI (md.length + sizeL [a, b]) c)]) (m := 3) (by simp [roots, rootI, sizeL] <;> omega) (by simp [roots]) (by omega))
              have S61 := Lib.hid (S53.out.alloc (.cells #[.int .i64 (rootI (md.length + sizeL []) a), .int .i64 (rootI (md.length + sizeL [a]) b), .int .i64 (rootI (md.length + sizeL [a, b]) c)] 3))
              have L62 := Lib.hid (L52.out.alloc (.cells #[.int .i64 (rootI (md.length + sizeL []) a), .int .i64 (rootI (md.length + sizeL [a]) b), .int .i64 (rootI (md.length + sizeL [a, b]) c)] 3))
              clear S53 L52
              have C63 := Lib.hid (skip_at S61.out.ps ⟨#[101, 108, 115, 101]⟩ (by decide))
              go_wp2_with fail
              clear c54 c55 c56 c57 c58 z59
              (with_reducible refine C63.out.mono ?_)
              rintro e w64 hP
              clear C63
              cases hx : skipP ⟨#[101, 108, 115, 101]⟩ l5 with
              | err pe ce =>
                rw [hx] at hP
                obtain ⟨rfl, hb⟩ := hP
                have HB := Lib.hid hb
                have HR : Hid (ifP r B p l = .err pe ce) := Lib.hid (by simp only [ifP, ifTail, Par.bind, X7.out, X18.out, X29.out, X40.out, X51.out, hx])
                clear hb hx
                go_wp2
                exact ⟨rfl, of_err HR.out HB.out⟩
              | ok u2 l6 =>
                rw [hx] at hP
                cases u2 with
                | false =>
                  have X65 := Lib.hid hx
                  obtain ⟨rfl, hs, hf⟩ := hP
                  obtain ⟨S, T⟩ := S61.out.same hs hf
                  clear hs hf hx
                  have L66 := Lib.hid (L62.out.tr T)
                  have R67 := Lib.hid (R60.out.tr T)
                  have S68 := Lib.hid (S)
                  clear S T S61 L62 R60
                  have c69 := L66.out.cell 0 rfl
                  have c70 := L66.out.cell 1 rfl
                  have c71 := L66.out.cell 2 rfl
                  have c72 := L66.out.cell 3 rfl
                  have c73 := L66.out.cell 4 rfl
                  have z74 := L66.out.fz
                  have HR : Hid (ifP r B p l = .ok (.mk 14 p none0 0 [a, b, c]) l6) := Lib.hid (by simp only [ifP, ifTail, Par.bind, Par.pure, X7.out, X18.out, X29.out, X40.out, X51.out, X65.out])
                  have RM2 := Lib.hid (R67.out.mono (B' := w.heap.size) (by have := Q3.out; omega))
                  have C75 := Lib.hid (add_at S68.out.ps (14) ((p : Int)) (0) (none0) (.slice none 0 0) (.slice (some ⟨w50.heap.size, 0, none⟩) 3 3) (roots md.length [a, b, c]) RM2.out.own RM2.out.loc (by have h2 := sz_if r hszB p 1 (by omega) _ _ _ HR.out; simp only [Ast.size] at h2; rw [List.length_append, postL_length]; omega))
                  go_wp2_with fail
                  clear c69 c70 c71 c72 c73 z74
                  (with_reducible refine C75.out.mono ?_)
                  rintro e wf hA
                  have hO := Lib.hid (S68.out.add (ts := [a, b, c]) rfl hA RM2.out.ge)
                  obtain ⟨z, rfl⟩ := hA.int
                  clear C75
                  go_wp2
                  go_ret
                  exact of_ok HR.out hO.out
                | true =>
                  have X65 := Lib.hid hx
                  obtain ⟨rfl, hs, hf⟩ := hP
                  obtain ⟨S, T⟩ := S61.out.same hs hf
                  clear hs hf hx
                  have L66 := Lib.hid (L62.out.tr T)
                  have R67 := Lib.hid (R60.out.tr T)
                  have S68 := Lib.hid (S)
                  clear S T S61 L62 R60
                  have c69 := L66.out.cell 0 rfl
                  have c70 := L66.out.cell 1 rfl
                  have c71 := L66.out.cell 2 rfl
                  have c72 := L66.out.cell 3 rfl
                  have c73 := L66.out.cell 4 rfl
                  have z74 := L66.out.fz
                  have C75 := Lib.hid (HBB.out _ _ _ _ _ S68.out.ps)
                  go_wp2_with fail
                  clear c69 c70 c71 c72 c73 z74
                  (with_reducible refine C75.out.mono ?_)
                  rintro e w76 hP
                  clear C75
                  cases hx : B l6 with
                  | err pe ce =>
                    rw [hx] at hP
                    obtain ⟨rfl, hb⟩ := hP
                    have HB := Lib.hid hb
                    have HR : Hid (ifP r B p l = .err pe ce) := Lib.hid (by simp only [ifP, ifTail, Par.bind, X7.out, X18.out, X29.out, X40.out, X51.out, X65.out, hx])
                    clear hb hx
                    go_wp2
                    exact ⟨rfl, of_err HR.out HB.out⟩
                  | ok d l7 =>
                    rw [hx] at hP
                    have X77 := Lib.hid hx
                    obtain ⟨v76, n76, rfl, S, T⟩ := S68.out.ast (ts' := [a, b, c, d]) hP rfl
                    clear hP hx
                    have L78 := Lib.hid (L66.out.tr T)
                    have R79 := Lib.hid (R67.out.tr T)
                    have S80 := Lib.hid (S)
                    clear S T S68 L66 R67
                    have c81 := L78.out.cell 0 rfl
                    have c82 := L78.out.cell 1 rfl
                    have c83 := L78.out.cell 2 rfl
                    have c84 := L78.out.cell 3 rfl
                    have c85 := L78.out.cell 4 rfl
                    have z86 := L78.out.fz
                    obtain ⟨i0, hi, hz0, hz1, hz2⟩ := info_partsP infoInt
                    have I0 := Lib.hid hi
                    have I1 := Lib.hid hz0
                    have I2 := Lib.hid hz1
                    have I3 := Lib.hid hz2
                    clear hi hz0 hz1 hz2
                    have hk : (roots md.length [a, b, c]).length ≤ 70000 := by rw [roots_length]; simp
                    have R87 := Lib.hid (R79.out.alloc (.cells #[.int .i64 (rootI (md.length + sizeL [a, b, c]) d)] 3))
                    have S88 := Lib.hid (S80.out.alloc (.cells #[.int .i64 (rootI (md.length + sizeL [a, b, c]) d)] 3))
                    have L89 := Lib.hid (L78.out.alloc (.cells #[.int .i64 (rootI (md.length + sizeL [a, b, c]) d)] 3))
                    clear c81 c82 c83 c84 c85 z86
                    have hbb : Hid (w.heap.size + 1 ≤ (w76.alloc (.cells #[.int .i64 (rootI (md.length + sizeL [a, b, c]) d)] 3)).heap.size) := Lib.hid (by have h7 := S88.out.fr.size; have h8 := L89.out.lt; simp only [World.size_alloc] at *; omega)
                    clear R79 S80 L78
                    go_wp2_with (at_builtin; refine wpList_append_lies _ rfl (.tmp 27) (.tmp 30) 50 rfl (E.b + 1) 3 i0 _ 1 8 Tryz.underlying50 I0.out I1.out I2.out I3.out rfl (by decide) (.slice (some ⟨w50.heap.size, 0, none⟩) 3 3) (roots md.length [a, b, c]).length ((roots md.length [a, b, c]).map (Value.int .i64)) rfl R87.out.own ⟨w76.heap.size, 0, none⟩ 1 1 [.int .i64 (rootI (md.length + sizeL [a, b, c]) d)] rfl rfl (World.news_of_block (cs := #[.int .i64 (rootI (md.length + sizeL [a, b, c]) d)]) (t := 3) (fr := (0, 0)) (heap_alloc_new _ _)) (by simp [Value.oneCell']) (by decide) (by unfold maxLen; omega) (by omega) S88.out.ps.lt _ rfl ?_; intro g5 cap5 w5 hown5 hgrow5 hat5 hlt5; have L5 := Lib.hid (L89.out.push R87.out (Nat.lt_succ_self _) hgrow5); have c90 := L5.out.cell 0 rfl; have c91 := L5.out.cell 1 rfl; have c92 := L5.out.cell 2 rfl; have c93 := L5.out.cell 3 rfl; have c94 := L5.out.cell 4 rfl; have z95 := L5.out.fz)
                    have R5 : Hid (Rw E v76 (kvs ++ n76) (w.heap.size + 1) (.slice (some ⟨g5, 0, none⟩) ((roots md.length [a, b, c]).length + 1) cap5) (roots md.length [a, b, c, d]) w5) := Lib.hid (by rw [show [a, b, c, d] = [a, b, c] ++ [d] from rfl, roots_snoc]; exact R87.out.push hbb.out S88.out.ps.fresh hown5 rfl rfl hat5 rfl)
                    have S5 := Lib.hid (S88.out.grown R87.out (by have := Q3.out; omega) hgrow5)
                    clear hown5 hgrow5 hat5 hlt5 hbb R87 S88 L89
                    have HR : Hid (ifP r B p l = .ok (.mk 14 p none0 0 [a, b, c, d]) l7) := Lib.hid (by simp only [ifP, ifTail, Par.bind, Par.pure, X7.out, X18.out, X29.out, X40.out, X51.out, X65.out, X77.out])
                    have RM2 := Lib.hid (R5.out.mono (B' := w.heap.size) (by have := Q3.out; omega))
                    have C96 := Lib.hid (add_at S5.out.ps (14) ((p : Int)) (0) (none0) (.slice none 0 0) (.slice (some ⟨g5, 0, none⟩) ((roots md.length [a, b, c]).length + 1) cap5) (roots md.length [a, b, c, d]) RM2.out.own RM2.out.loc (by have h2 := sz_if r hszB p 1 (by omega) _ _ _ HR.out; simp only [Ast.size] at h2; rw [List.length_append, postL_length]; omega))
                    go_wp2_with fail
                    clear c90 c91 c92 c93 c94 z95
                    (with_reducible refine C96.out.mono ?_)
                    rintro e wf hA
                    have hO := Lib.hid (S5.out.add (ts := [a, b, c, d]) rfl hA RM2.out.ge)
                    obtain ⟨z, rfl⟩ := hA.int
                    clear C96
                    go_wp2
                    go_ret
                    exact of_ok HR.out hO.out
      | true =>
        have X18 := Lib.hid hx
        obtain ⟨rfl, hs, hf⟩ := hP
        obtain ⟨S, T⟩ := S9.out.same hs hf
        clear hs hf hx
        have L19 := Lib.hid (L8.out.tr T)
        have S20 := Lib.hid (S)
        clear S T S9 L8
        have c21 := L19.out.cell 0 rfl
        have c22 := L19.out.cell 1 rfl
        have c23 := L19.out.cell 2 rfl
        have c24 := L19.out.cell 3 rfl
        have c25 := L19.out.cell 4 rfl
        have z26 := L19.out.fz
        have S27 := Lib.hid (S20.out.set (a := ⟨w.heap.size, 3, none⟩) L19.out.loc Q3.out (.int .i64 1))
        have L28 := Lib.hid (L19.out.set 3 (.int .i64 1))
        clear S20 L19
        have C29 := Lib.hid (exprR_at S27.out.ps)
        go_wp2_with fail
        clear c21 c22 c23 c24 c25 z26
        (with_reducible refine C29.out.mono ?_)
        rintro e w30 hP
        clear C29
        cases hx : exprR r l2 with
        | err pe ce =>
          rw [hx] at hP
          obtain ⟨rfl, hb⟩ := hP
          have HB := Lib.hid hb
          have HR : Hid (ifP r B p l = .err pe ce) := Lib.hid (by simp only [ifP, ifTail, Par.bind, X7.out, X18.out, hx])
          clear hb hx
          go_wp2
          exact ⟨rfl, of_err HR.out HB.out⟩
        | ok b l4 =>
          rw [hx] at hP
          have X31 := Lib.hid hx
          obtain ⟨v30, n30, rfl, S, T⟩ := S27.out.ast (ts' := [a, b]) hP rfl
          clear hP hx
          have L32 := Lib.hid (L28.out.tr T)
          have S33 := Lib.hid (S)
          clear S T S27 L28
          have c34 := L32.out.cell 0 rfl
          have c35 := L32.out.cell 1 rfl
          have c36 := L32.out.cell 2 rfl
          have c37 := L32.out.cell 3 rfl
          have c38 := L32.out.cell 4 rfl
          have z39 := L32.out.fz
          have C40 := Lib.hid (HBB.out _ _ _ _ _ S33.out.ps)
          go_wp2_with fail
          clear c34 c35 c36 c37 c38 z39
          (with_reducible refine C40.out.mono ?_)
          rintro e w41 hP
          clear C40
          cases hx : B l4 with
          | err pe ce =>
            rw [hx] at hP
            obtain ⟨rfl, hb⟩ := hP
            have HB := Lib.hid hb
            have HR : Hid (ifP r B p l = .err pe ce) := Lib.hid (by simp only [ifP, ifTail, Par.bind, X7.out, X18.out, X31.out, hx])
            clear hb hx
            go_wp2
            exact ⟨rfl, of_err HR.out HB.out⟩
          | ok c l5 =>
            rw [hx] at hP
            have X42 := Lib.hid hx
            obtain ⟨v41, n41, rfl, S, T⟩ := S33.out.ast (ts' := [a, b, c]) hP rfl
            clear hP hx
            have L43 := Lib.hid (L32.out.tr T)
            have S44 := Lib.hid (S)
            clear S T S33 L32
            have c45 := L43.out.cell 0 rfl
            have c46 := L43.out.cell 1 rfl
            have c47 := L43.out.cell 2 rfl
            have c48 := L43.out.cell 3 rfl
            have c49 := L43.out.cell 4 rfl
            have z50 := L43.out.fz
            have R51 := Lib.hid (Rw.litB S44.out (q := w41.heap.size) (by first | rfl | simp [World.setCell]) (B := w.heap.size + 1) (by have hlt9 := L43.out.lt; first | omega | (simp only [World.setCell, Array.size_modify] at *; omega)) (ks := roots md.length [a, b, c]) (cs := #[.int .i64 (rootI (md.length + sizeL []) a), .int .i64 (rootI (md.length + sizeL [a]) b), .int .i64 (rootI (md.length + sizeL [a, b]) c)]) (m := 3) (by simp [roots, rootI, sizeL] <;> omega) (by simp [roots]) (by omega))
            have S52 := Lib.hid (S44.out.alloc (.cells #[.int .i64 (rootI (md.length + sizeL []) a), .int .i64 (rootI (md.length + sizeL [a]) b), .int .i64 (rootI (md.length + sizeL [a, b]) c)] 3))
            have L53 := Lib.hid (L43.out.alloc (.cells #[.int .i64 (rootI (md.length + sizeL []) a), .int .i64 (rootI (md.length + sizeL [a]) b), .int .i64 (rootI (md.length + sizeL [a, b]) c)] 3))
            clear S44 L43
            have C54 := Lib.hid (skip_at S52.out.ps ⟨#[101, 108, 115, 101]⟩ (by decide))
            go_wp2_with fail
            clear c45 c46 c47 c48 c49 z50
            (with_reducible refine C54.out.mono ?_)
            rintro e w55 hP
            clear C54
            cases hx : skipP ⟨#[101, 108, 115, 101]⟩ l5 with
            | err pe ce =>
              rw [hx] at hP
              obtain ⟨rfl, hb⟩ := hP
              have HB := Lib.hid hb
              have HR : Hid (ifP r B p l = .err pe ce) := Lib.hid (by simp only [ifP, ifTail, Par.bind, X7.out, X18.out, X31.out, X42.out, hx])
              clear hb hx
              go_wp2
              exact ⟨rfl, of_err HR.out HB.out⟩
            | ok u2 l6 =>
              rw [hx] at hP
              cases u2 with
              | false =>
                have X56 := Lib.hid hx
                obtain ⟨rfl, hs, hf⟩ := hP
                obtain ⟨S, T⟩ := S52.out.same hs hf
                clear hs hf hx
                have L57 := Lib.hid (L53.out.tr T)
                have R58 := Lib.hid (R51.out.tr T)
                have S59 := Lib.hid (S)
                clear S T S52 L53 R51
                have c60 := L57.out.cell 0 rfl
                have c61 := L57.out.cell 1 rfl
                have c62 := L57.out.cell 2 rfl
                have c63 := L57.out.cell 3 rfl
                have c64 := L57.out.cell 4 rfl
                have z65 := L57.out.fz
                have HR : Hid (ifP r B p l = .ok (.mk 14 p none0 1 [a, b, c]) l6) := Lib.hid (by simp only [ifP, ifTail, Par.bind, Par.pure, X7.out, X18.out, X31.out, X42.out, X56.out])
                have RM2 := Lib.hid (R58.out.mono (B' := w.heap.size) (by have := Q3.out; omega))
                have C66 := Lib.hid (add_at S59.out.ps (14) ((p : Int)) (1) (none0) (.slice none 0 0) (.slice (some ⟨w41.heap.size, 0, none⟩) 3 3) (roots md.length [a, b, c]) RM2.out.own RM2.out.loc (by have h2 := sz_if r hszB p 1 (by omega) _ _ _ HR.out; simp only [Ast.size] at h2; rw [List.length_append, postL_length]; omega))
                go_wp2_with fail
                clear c60 c61 c62 c63 c64 z65
                (with_reducible refine C66.out.mono ?_)
                rintro e wf hA
                have hO := Lib.hid (S59.out.add (ts := [a, b, c]) rfl hA RM2.out.ge)
                obtain ⟨z, rfl⟩ := hA.int
                clear C66
                go_wp2
                go_ret
                exact of_ok HR.out hO.out
              | true =>
                have X56 := Lib.hid hx
                obtain ⟨rfl, hs, hf⟩ := hP
                obtain ⟨S, T⟩ := S52.out.same hs hf
                clear hs hf hx
                have L57 := Lib.hid (L53.out.tr T)
                have R58 := Lib.hid (R51.out.tr T)
                have S59 := Lib.hid (S)
                clear S T S52 L53 R51
                have c60 := L57.out.cell 0 rfl
                have c61 := L57.out.cell 1 rfl
                have c62 := L57.out.cell 2 rfl
                have c63 := L57.out.cell 3 rfl
                have c64 := L57.out.cell 4 rfl
                have z65 := L57.out.fz
                have C66 := Lib.hid (HBB.out _ _ _ _ _ S59.out.ps)
                go_wp2_with fail
                clear c60 c61 c62 c63 c64 z65
                (with_reducible refine C66.out.mono ?_)
                rintro e w67 hP
                clear C66
                cases hx : B l6 with
                | err pe ce =>
                  rw [hx] at hP
                  obtain ⟨rfl, hb⟩ := hP
                  have HB := Lib.hid hb
                  have HR : Hid (ifP r B p l = .err pe ce) := Lib.hid (by simp only [ifP, ifTail, Par.bind, X7.out, X18.out, X31.out, X42.out, X56.out, hx])
                  clear hb hx
                  go_wp2
                  exact ⟨rfl, of_err HR.out HB.out⟩
                | ok d l7 =>
                  rw [hx] at hP
                  have X68 := Lib.hid hx
                  obtain ⟨v67, n67, rfl, S, T⟩ := S59.out.ast (ts' := [a, b, c, d]) hP rfl
                  clear hP hx
                  have L69 := Lib.hid (L57.out.tr T)
                  have R70 := Lib.hid (R58.out.tr T)
                  have S71 := Lib.hid (S)
                  clear S T S59 L57 R58
                  have c72 := L69.out.cell 0 rfl
                  have c73 := L69.out.cell 1 rfl
                  have c74 := L69.out.cell 2 rfl
                  have c75 := L69.out.cell 3 rfl
                  have c76 := L69.out.cell 4 rfl
                  have z77 := L69.out.fz
                  obtain ⟨i0, hi, hz0, hz1, hz2⟩ := info_partsP infoInt
                  have I0 := Lib.hid hi
                  have I1 := Lib.hid hz0
                  have I2 := Lib.hid hz1
                  have I3 := Lib.hid hz2
                  clear hi hz0 hz1 hz2
                  have hk : (roots md.length [a, b, c]).length ≤ 70000 := by rw [roots_length]; simp
                  have R78 := Lib.hid (R70.out.alloc (.cells #[.int .i64 (rootI (md.length + sizeL [a, b, c]) d)] 3))
                  have S79 := Lib.hid (S71.out.alloc (.cells #[.int .i64 (rootI (md.length + sizeL [a, b, c]) d)] 3))
                  have L80 := Lib.hid (L69.out.alloc (.cells #[.int .i64 (rootI (md.length + sizeL [a, b, c]) d)] 3))
                  clear c72 c73 c74 c75 c76 z77
                  have hbb : Hid (w.heap.size + 1 ≤ (w67.alloc (.cells #[.int .i64 (rootI (md.length + sizeL [a, b, c]) d)] 3)).heap.size) := Lib.hid (by have h7 := S79.out.fr.size; have h8 := L80.out.lt; simp only [World.size_alloc] at *; omega)
                  clear R70 S71 L69
                  go_wp2_with (at_builtin; refine wpList_append_lies _ rfl (.tmp 27) (.tmp 30) 50 rfl (E.b + 1) 3 i0 _ 1 8 Tryz.underlying50 I0.out I1.out I2.out I3.out rfl (by decide) (.slice (some ⟨w41.heap.size, 0, none⟩) 3 3) (roots md.length [a, b, c]).length ((roots md.length [a, b, c]).map (Value.int .i64)) rfl R78.out.own ⟨w67.heap.size, 0, none⟩ 1 1 [.int .i64 (rootI (md.length + sizeL [a, b, c]) d)] rfl rfl (World.news_of_block (cs := #[.int .i64 (rootI (md.length + sizeL [a, b, c]) d)]) (t := 3) (fr := (0, 0)) (heap_alloc_new _ _)) (by simp [Value.oneCell']) (by decide) (by unfold maxLen; omega) (by omega) S79.out.ps.lt _ rfl ?_; intro g5 cap5 w5 hown5 hgrow5 hat5 hlt5; have L5 := Lib.hid (L80.out.push R78.out (Nat.lt_succ_self _) hgrow5); have c81 := L5.out.cell 0 rfl; have c82 := L5.out.cell 1 rfl; have c83 := L5.out.cell 2 rfl; have c84 := L5.out.cell 3 rfl; have c85 := L5.out.cell 4 rfl; have z86 := L5.out.fz)
                  have R5 : Hid (Rw E v67 (kvs ++ n67) (w.heap.size + 1) (.slice (some ⟨g5, 0, none⟩) ((roots md.length [a, b, c]).length + 1) cap5) (roots md.length [a, b, c, d]) w5) := Lib.hid (by rw [show [a, b, c, d] = [a, b, c] ++ [d] from rfl, roots_snoc]; exact R78.out.push hbb.out S79.out.ps.fresh hown5 rfl rfl hat5 rfl)
                  have S5 := Lib.hid (S79.out.grown R78.out (by have := Q3.out; omega) hgrow5)
                  clear hown5 hgrow5 hat5 hlt5 hbb R78 S79 L80
                  have HR : Hid (ifP r B p l = .ok (.mk 14 p none0 1 [a, b, c, d]) l7) := Lib.hid (by simp only [ifP, ifTail, Par.bind, Par.pure, X7.out, X18.out, X31.out, X42.out, X56.out, X68.out])
                  have RM2 := Lib.hid (R5.out.mono (B' := w.heap.size) (by have := Q3.out; omega))
                  have C87 := Lib.hid (add_at S5.out.ps (14) ((p : Int)) (1) (none0) (.slice none 0 0) (.slice (some ⟨g5, 0, none⟩) ((roots md.length [a, b, c]).length + 1) cap5) (roots md.length [a, b, c, d]) RM2.out.own RM2.out.loc (by have h2 := sz_if r hszB p 1 (by omega) _ _ _ HR.out; simp only [Ast.size] at h2; rw [List.length_append, postL_length]; omega))
                  go_wp2_with fail
                  clear c81 c82 c83 c84 c85 z86
                  (with_reducible refine C87.out.mono ?_)
                  rintro e wf hA
                  have hO := Lib.hid (S5.out.add (ts := [a, b, c, d]) rfl hA RM2.out.ge)
                  obtain ⟨z, rfl⟩ := hA.int
                  clear C87
                  go_wp2
                  go_ret
                  exact of_ok HR.out hO.out
end
end Go.Proofs.YtpemghcafbedeaaGreatDoor
end
section
namespace Go.Proofs.YtpemghcafbedeaaGreatDoor
open Go.RowKit
open Par (Less many many_err many_done many_more)
section
variable {E : Env} {v : Value} {kvs : List Value} {md : List Nd} {r : Nat} {l : List PT} {w : World}
set_option maxRecDepth 1000000 in
set_option maxHeartbeats 2000000 in
theorem block_at (h : PS E v kvs md r l w) {st : Par Ast} (hst : 0 < r → ∀ v kvs md l w, PS E v kvs md (r - 1) l w → Calls Tryz.prog 185 #[.pointer (some ⟨E.b, 0, none⟩)] w (PostE E (st l) fun a l' => OkA E v kvs md (r - 1) w a l')) (htk : Takes st) (hszst : ∀ c, Sz c st (fun a => a.size + c)) : Calls Tryz.prog 140 #[.pointer (some ⟨E.b, 0, none⟩)] w (PostE E (blockOf r st l) fun a l' => OkA E v kvs md r w a l') := by
  have HST := Lib.hid @hst
  clear hst
  have hr64 := h.r64
  have RM := Lib.hid h.room
  have S1 := Lib.hid (St.start h)
  have hnot : ∀ (x : Bool) (w : World), (Op.unary .not (.bool x)).run Tryz.prog w = .ok (.bool (!x)) w := fun _ _ => rfl
  clear h
  go_enter Tryz.func140, Tryz.ntmps140
  have C2 := Lib.hid (enter_at S1.out.ps ⟨#[123]⟩ (by decide))
  go_wp2_with fail
  (with_reducible refine C2.out.mono ?_)
  rintro e w3 hP
  clear C2
  cases hx : enterP ⟨#[123]⟩ r l with
  | err pe ce =>
    rw [hx] at hP
    obtain ⟨rfl, hb⟩ := hP
    have HB := Lib.hid hb
    have HR : Hid (blockOf r st l = .err pe ce) := Lib.hid (by simp only [blockOf, nodeA, Par.bind, hx])
    clear hb hx
    go_wp2
    exact ⟨rfl, of_err HR.out HB.out⟩
  | ok p l1 =>
    rw [hx] at hP
    have X4 := Lib.hid hx
    have hr := enter_pos hx
    obtain ⟨rfl, hs, hf⟩ := hP
    obtain ⟨S, T⟩ := S1.out.same hs hf
    clear hs hf hx
    have S5 := Lib.hid (S)
    clear S T S1
    have S6 := Lib.hid (S5.out.alloc (.cells #[.int .u8 6, .int .i64 (p : Int), .string ⟨#[]⟩, .int .i64 0, .slice none 0 0] 53))
    have Q7 : Hid (w.heap.size ≤ w3.heap.size) := Lib.hid S5.out.fr.size
    have L8 := Lib.hid (Lcl.new S5.out.ps (.cells #[.int .u8 6, .int .i64 (p : Int), .string ⟨#[]⟩, .int .i64 0, .slice none 0 0] 53))
    clear S5
    have RN : Hid (Rw E v (kvs ++ []) (w3.heap.size + 1) (.slice none 0 0) (roots md.length []) (w3.alloc (.cells #[.int .u8 6, .int .i64 (p : Int), .string ⟨#[]⟩, .int .i64 0, .slice none 0 0] 53))) := Lib.hid Rw.nil
    obtain ⟨i0, hi, hz0, hz1, hz2⟩ := info_partsP infoInt
    have I0 := Lib.hid hi
    have I1 := Lib.hid hz0
    have I2 := Lib.hid hz1
    have I3 := Lib.hid hz2
    clear hi hz0 hz1 hz2
    go_wp2_with fail
    go_loopw [4] (fun kvL wr => ∃ (ts : List Ast) (lk : List PT) (vk : Value) (nk : List Value), Hid (St E v kvs md w ts (r - 1) lk vk nk wr) ∧ Hid (Rw E vk (kvs ++ nk) (w3.heap.size + 1) kvL (roots md.length ts) wr) ∧ Hid (Lcl E vk (kvs ++ nk) (w3.heap.size) (.cells #[.int .u8 6, .int .i64 (p : Int), .string ⟨#[]⟩, .int .i64 0, .slice none 0 0] 53 (0, 0)) wr) ∧ Hid (many (blockStep st) [] l1 = many (blockStep st) ts lk)) (fun _ wr => E.toks.length - nextOf E wr)
    case atStart => exact ⟨[], l1, _, _, S6, RN, L8, Lib.hid rfl⟩
    case round =>
      obtain ⟨ts, lk, vk, nk, S0, R0, L0, HM⟩ := hrel
      have hleft := Lib.hid S0.out.ps.left
      clear S6 RN L8
      have c9 := L0.out.cell 0 rfl
      have c10 := L0.out.cell 1 rfl
      have c11 := L0.out.cell 2 rfl
      have c12 := L0.out.cell 3 rfl
      have c13 := L0.out.cell 4 rfl
      have z14 := L0.out.fz
      have C15 := Lib.hid (isNext_at S0.out.ps ⟨#[125]⟩)
      go_wp2_with fail
      clear c9 c10 c11 c12 c13 z14
      (with_reducible refine C15.out.mono ?_)
      rintro e w16 ⟨t16, l16, hl, rfl, hs, hf⟩
      clear C15
      obtain ⟨S, T⟩ := S0.out.same hs hf
      cases hd : decide (t16.txt = ⟨#[125]⟩) with
      | false =>
        have X17 : Hid (isNextP ⟨#[125]⟩ lk = .ok false lk) := Lib.hid (by rw [hl, isNextP, hd])
        clear hs hf hl hd
        have L18 := Lib.hid (L0.out.tr T)
        have R19 := Lib.hid (R0.out.tr T)
        have S20 := Lib.hid (S)
        clear S T S0 L0 R0
        have c21 := L18.out.cell 0 rfl
        have c22 := L18.out.cell 1 rfl
        have c23 := L18.out.cell 2 rfl
        have c24 := L18.out.cell 3 rfl
        have c25 := L18.out.cell 4 rfl
        have z26 := L18.out.fz
        have C27 := Lib.hid (HST.out hr _ _ _ _ _ S20.out.ps)
        go_wp2_with fail
        clear c21 c22 c23 c24 c25 z26
        (with_reducible refine C27.out.mono ?_)
        rintro e w28 hP
        clear C27
        cases hx : st lk with
        | err pe ce =>
          rw [hx] at hP
          obtain ⟨rfl, hb⟩ := hP
          have HB := Lib.hid hb
          have HX : many (blockStep st) [] l1 = .err pe ce := by rw [HM.out]; exact many_err (by simp only [blockStep, Par.bind, X17.out, hx])
          have HR : Hid (blockOf r st l = .err pe ce) := Lib.hid (by simp only [blockOf, nodeA, Par.bind, X4.out, HX])
          clear hb hx HX
          go_wp2
          exact ⟨rfl, of_err HR.out HB.out⟩
        | ok bq l28 =>
          rw [hx] at hP
          obtain ⟨v28, n28, rfl, S, T⟩ := S20.out.ast (ts' := ts ++ [bq]) hP rfl
          have HM2 : Hid (many (blockStep st) [] l1 = many (blockStep st) (ts ++ [bq]) l28) := Lib.hid (by rw [HM.out]; exact many_more (step_block htk) (by simp only [blockStep, Par.bind, Par.pure, X17.out, hx]))
          have hq : l28.length < lk.length := by
            have h5 : (blockStep st) ts lk = .ok (some (ts ++ [bq])) l28 := by simp only [blockStep, Par.bind, Par.pure, X17.out, hx]
            exact ((step_block htk) _ _ _ _ h5).1 rfl
          clear hP hx
          have L29 := Lib.hid (L18.out.tr T)
          have R30 := Lib.hid (R19.out.tr T)
          have S31 := Lib.hid (S)
          clear S T S20 L18 R19
          have c32 := L29.out.cell 0 rfl
          have c33 := L29.out.cell 1 rfl
          have c34 := L29.out.cell 2 rfl
          have c35 := L29.out.cell 3 rfl
          have c36 := L29.out.cell 4 rfl
          have z37 := L29.out.fz
          have hk : (roots md.length ts).length ≤ 70000 := by have h6 := S31.out.ps.room; rw [List.length_append, postL_length, sizeL_append] at h6; rw [roots_length]; have := length_le_sizeL ts; omega
          have R38 := Lib.hid (R30.out.alloc (.cells #[.int .i64 (rootI (md.length + sizeL ts) bq)] 3))
          have S39 := Lib.hid (S31.out.alloc (.cells #[.int .i64 (rootI (md.length + sizeL ts) bq)] 3))
          have L40 := Lib.hid (L29.out.alloc (.cells #[.int .i64 (rootI (md.length + sizeL ts) bq)] 3))
          clear c32 c33 c34 c35 c36 z37
          have hbb : Hid (w3.heap.size + 1 ≤ (w28.alloc (.cells #[.int .i64 (rootI (md.length + sizeL ts) bq)] 3)).heap.size) := Lib.hid (by have h7 := S39.out.fr.size; have h8 := L40.out.lt; simp only [World.size_alloc] at *; omega)
          clear R30 S31 L29
          go_wp2_with (at_builtin; refine wpList_append_lies _ rfl (.tmp 11) (.tmp 14) 50 rfl (E.b + 1) 3 i0 _ 1 8 Tryz.underlying50 I0.out I1.out I2.out I3.out rfl (by decide) u4 (roots md.length ts).length ((roots md.length ts).map (Value.int .i64)) rfl R38.out.own ⟨w28.heap.size, 0, none⟩ 1 1 [.int .i64 (rootI (md.length + sizeL ts) bq)] rfl rfl (World.news_of_block (cs := #[.int .i64 (rootI (md.length + sizeL ts) bq)]) (t := 3) (fr := (0, 0)) (heap_alloc_new _ _)) (by simp [Value.oneCell']) (by decide) (by unfold maxLen; omega) (by omega) S39.out.ps.lt _ rfl ?_; intro g5 cap5 w5 hown5 hgrow5 hat5 hlt5)
          have R5 : Hid (Rw E v28 (kvs ++ n28) (w3.heap.size + 1) (.slice (some ⟨g5, 0, none⟩) ((roots md.length ts).length + 1) cap5) (roots md.length (ts ++ [bq])) w5) := Lib.hid (by rw [roots_snoc]; exact R38.out.push hbb.out S39.out.ps.fresh hown5 rfl rfl hat5 rfl)
          have S5 := Lib.hid (S39.out.grown R38.out (by have := Q7.out; omega) hgrow5)
          have L5 := Lib.hid (L40.out.push R38.out (Nat.lt_succ_self _) hgrow5)
          have hl3 := Lib.hid S5.out.ps.left
          clear hown5 hgrow5 hat5 hlt5 R38 S39 L40
          go_wp2
          go_roundw
          case rel => exact ⟨_, _, _, _, S5, R5, L5, HM2⟩
          case measure => have h1 := hleft.out; have h2 := hl3.out; show E.toks.length - nextOf E _ < E.toks.length - nextOf E wr; omega
      | true =>
        have X17 : Hid (isNextP ⟨#[125]⟩ lk = .ok true lk) := Lib.hid (by rw [hl, isNextP, hd])
        clear hs hf hl hd
        have L18 := Lib.hid (L0.out.tr T)
        have R19 := Lib.hid (R0.out.tr T)
        have S20 := Lib.hid (S)
        clear S T S0 L0 R0
        have c21 := L18.out.cell 0 rfl
        have c22 := L18.out.cell 1 rfl
        have c23 := L18.out.cell 2 rfl
        have c24 := L18.out.cell 3 rfl
        have c25 := L18.out.cell 4 rfl
        have z26 := L18.out.fz
        have HX : Hid (many (blockStep st) [] l1 = .ok ts lk) := Lib.hid (by rw [HM.out]; exact many_done (by simp only [blockStep, Par.bind, Par.pure, X17.out]))
        clear HM
        have C27 := Lib.hid (leave_at S20.out.ps ⟨#[125]⟩ (by decide) (by omega))
        go_wp2_with fail
        clear c21 c22 c23 c24 c25 z26
        (with_reducible refine C27.out.mono ?_)
        rintro e w28 hP
        clear C27
        cases hx : expectP ⟨#[125]⟩ lk with
        | err pe ce =>
          rw [hx] at hP
          obtain ⟨rfl, hb⟩ := hP
          have HB := Lib.hid hb
          have HR : Hid (blockOf r st l = .err pe ce) := Lib.hid (by simp only [blockOf, nodeA, Par.bind, X4.out, HX.out, hx])
          clear hb hx
          go_wp2
          exact ⟨rfl, of_err HR.out HB.out⟩
        | ok p6 l6 =>
          rw [hx] at hP
          have X29 := Lib.hid hx
          obtain ⟨rfl, hs, hf⟩ := hP
          have er : r - 1 + 1 = r := by omega
          rw [er] at hs
          obtain ⟨S, T⟩ := S20.out.same hs hf
          clear hs hf hx
          have L30 := Lib.hid (L18.out.tr T)
          have R31 := Lib.hid (R19.out.tr T)
          have S32 := Lib.hid (S)
          clear S T S20 L18 R19
          have c33 := L30.out.cell 0 rfl
          have c34 := L30.out.cell 1 rfl
          have c35 := L30.out.cell 2 rfl
          have c36 := L30.out.cell 3 rfl
          have c37 := L30.out.cell 4 rfl
          have z38 := L30.out.fz
          have HR : Hid (blockOf r st l = .ok (.mk 6 p none0 0 ts) l6) := Lib.hid (by simp only [blockOf, nodeA, Par.bind, Par.pure, X4.out, HX.out, X29.out])
          have RM2 := Lib.hid (R31.out.mono (B' := w.heap.size) (by have := Q7.out; omega))
          have C39 := Lib.hid (add_at S32.out.ps (6) ((p : Int)) (0) (none0) (.slice none 0 0) (u4) (roots md.length ts) RM2.out.own RM2.out.loc (by have h1 := RM.out; have h2 := sz_blockOf r hszst 0 _ _ _ HR.out; simp only [Ast.size] at h2; rw [List.length_append, postL_length]; omega))
          go_wp2_with fail
          clear c33 c34 c35 c36 c37 z38
          (with_reducible refine C39.out.mono ?_)
          rintro e wf hA
          have hO := Lib.hid (S32.out.add (ts := ts) rfl hA RM2.out.ge)
          obtain ⟨z, rfl⟩ := hA.int
          clear C39
          go_wp2
          go_ret
          exact of_ok HR.out hO.out
end
end Go.Proofs.YtpemghcafbedeaaGreatDoor
end
section
namespace Go.Proofs.YtpemghcafbedeaaGreatDoor
open Go.RowKit
open Par (Less many many_err many_done many_more)
section
variable {E : Env} {v : Value} {kvs : List Value} {md : List Nd} {r : Nat} {l : List PT} {w : World}
theorem region_out {P : Program} {A : Prop} (w : World) (h : A) (_ : wpAny P .any #[] (fun _ _ _ => True) 0 #[] { tmps := #[], defers := [] } w) : A := h
theorem grownBy_drew (w : World) : w.grownBy w.drew none := ⟨rfl, rfl, rfl, Nat.le_refl _, fun _ _ _ => rfl⟩
theorem St.drew {v0 : Value} {kvs0 n : List Value} {md0 : List Nd} {w0 : World} {ts : List Ast} (h : St E v0 kvs0 md0 w0 ts r l v n w) : St E v0 kvs0 md0 w0 ts r l v n w.drew := ⟨h.ps.grown (grownBy_drew w) (fun q e => by cases e), h.nw, h.fr.grown (grownBy_drew w) h.fr.size (fun q e => by cases e)⟩
theorem Lcl.drew {q : Nat} {o : Obj} (h : Lcl E v kvs q o w) : Lcl E v kvs q o w.drew := h.grown (grownBy_drew w) (by simp)
theorem St.addC {v0 : Value} {kvs0 n : List Value} {md0 : List Nd} {w0 : World} {ts : List Ast} {kv : Value} (h : St E v0 kvs0 md0 w0 ts r l v n w) (k : Int) (p : Nat) (nn : Int) (t : ByteArray) (kz : Value) (hr : Rw E v (kvs0 ++ n) w0.heap.size kv (roots md0.length ts) w) (hroom : md0.length + sizeL ts + 1 + l.length ≤ 70000) :
    Calls Tryz.prog 88 #[.pointer (some ⟨E.b, 0, none⟩), .agg #[.int .u8 k, .int .i64 (p : Int), .string t, .int .i64 nn, kz], kv] w fun e w' => (∃ z, e = .returned (.int .i64 z)) ∧ OkA E v0 kvs0 md0 r w0 (.mk k p t nn ts) l e w' ∧ ∃ v', Fr E w.heap.size v v' w w' :=
  (add_at h.ps k p nn t kz kv (roots md0.length ts) hr.own hr.loc (by rw [List.length_append, postL_length]; omega)).mono fun e w' hA => ⟨hA.int, h.add rfl hA hr.ge, by
    obtain ⟨v', _, _, hf⟩ := hA
    exact ⟨v', hf⟩⟩
theorem AddP.fr {nd : Nd} {kv : Value} {e : Ending} {w' : World} (h : AddP E v kvs md r l w nd kv e w') : ∃ v', Fr E w.heap.size v v' w w' := by
  obtain ⟨v', _, _, hf⟩ := h
  exact ⟨v', hf⟩
set_option maxRecDepth 1000000 in
set_option maxHeartbeats 2000000 in
theorem names_at (h : PS E v kvs md r l w) (hroom : md.length + 1 + l.length ≤ 70000) : Calls Tryz.prog 143 #[.pointer (some ⟨E.b, 0, none⟩)] w (PostE E (namesP l) fun a l' => OkA E v kvs md r w a l') := by
  have hr64 := h.r64
  have RM := Lib.hid h.room
  have S1 := Lib.hid (St.start h)
  have fl1 := tok_f1
  have hnot : ∀ (x : Bool) (w : World), (Op.unary .not (.bool x)).run Tryz.prog w = .ok (.bool (!x)) w := fun _ _ => rfl
  clear h
  go_enter Tryz.func143, Tryz.ntmps143
  have C2 := Lib.hid (peek_at S1.out.ps)
  go_wp2_with fail
  (with_reducible refine C2.out.mono ?_)
  rintro e w3 ⟨t, l1, sp, hl, rfl, hs, hf⟩
  clear C2
  have X4 : Hid (peekP l = .ok t l) := Lib.hid (by rw [hl, peekP])
  obtain ⟨S, T⟩ := S1.out.same hs hf
  have HL := Lib.hid hl
  clear hs hf hl
  simp only [tokA]
  have S5 := Lib.hid (S)
  clear S T S1
  have S6 := Lib.hid (S5.out.alloc (.cells #[.int .u8 4, .int .i64 (t.at' : Int), .string ⟨#[]⟩, .int .i64 0, .slice none 0 0] 53))
  have Q7 : Hid (w.heap.size ≤ w3.heap.size) := Lib.hid S5.out.fr.size
  have L8 := Lib.hid (Lcl.new S5.out.ps (.cells #[.int .u8 4, .int .i64 (t.at' : Int), .string ⟨#[]⟩, .int .i64 0, .slice none 0 0] 53))
  clear S5
  have hroom1 := Lib.hid hroom
  have C9 := Lib.hid (isNext_at S6.out.ps ⟨#[41]⟩)
  go_wp2_with fail
  (with_reducible refine C9.out.mono ?_)
  rintro e w10 ⟨t10, l10, hl, rfl, hs, hf⟩
  clear C9
  obtain ⟨S, T⟩ := S6.out.same hs hf
  cases hd : decide (t10.txt = ⟨#[41]⟩) with
  | false =>
    have X11 : Hid (isNextP ⟨#[41]⟩ l = .ok false l) := Lib.hid (by rw [hl, isNextP, hd])
    clear hs hf hl hd
    have L12 := Lib.hid (L8.out.tr T)
    have S13 := Lib.hid (S)
    clear S T S6 L8
    have c14 := L12.out.cell 0 rfl
    have c15 := L12.out.cell 1 rfl
    have c16 := L12.out.cell 2 rfl
    have c17 := L12.out.cell 3 rfl
    have c18 := L12.out.cell 4 rfl
    have z19 := L12.out.fz
    cases hx : wordsP l with
    | err pe ce =>
      have W1 := Lib.hid (post_err (words_at S13.out.drew.ps) hx)
      have HR : Hid (namesP l = .err pe ce) := Lib.hid (by simp only [namesP, nodeA, Par.bind, X4.out, X11.out, hx])
      clear hx
      go_wp2_with fail
      go_region_with (go_at_call 142; (with_reducible refine W1.out.mono ?_); rintro e w2 ⟨rfl, hb⟩; refine region_out (P := Tryz.prog) w2 ⟨rfl, of_err HR.out hb⟩ ?_)
      all_goals trivial
    | ok ks l2 =>
      have W1 := Lib.hid (post_ok (words_at S13.out.drew.ps) hx)
      have HR : Hid (namesP l = .ok (.mk 4 t.at' none0 0 ks) l2) := Lib.hid (by simp only [namesP, nodeA, Par.bind, Par.pure, X4.out, X11.out, hx])
      have HRM : Hid (md.length + sizeL ks + 1 + l2.length ≤ 70000) := Lib.hid (by have h1 := hroom1.out; have h2 : sizeL ks + 0 + l2.length ≤ 0 + l.length := sz_words 0 _ _ _ hx; omega)
      have SD := Lib.hid S13.out.drew
      have LD := Lib.hid L12.out.drew
      clear hx S13 L12
      go_wp2_with fail
      go_region_held3 (fun w' => w'.cell? ⟨w3.heap.size, 0, none⟩ = some (.int .u8 4) ∧ w'.cell? ⟨w3.heap.size, 1, none⟩ = some (.int .i64 (t.at' : Int)) ∧ w'.cell? ⟨w3.heap.size, 2, none⟩ = some (.string ⟨#[]⟩) ∧ w'.cell? ⟨w3.heap.size, 3, none⟩ = some (.int .i64 0) ∧ w'.cell? ⟨w3.heap.size, 4, none⟩ = some (.slice none 0 0)) (go_keep)
        (first
          | (go_at_call 142; (with_reducible refine W1.out.mono ?_); rintro e wp hW; obtain ⟨v2, n2, kv2, rfl, S2, T2, R2⟩ := SD.out.list hW; have L2 := LD.out.tr T2; have d0 := L2.cell 0 rfl; have d1 := L2.cell 1 rfl; have d2 := L2.cell 2 rfl; have d3 := L2.cell 3 rfl; have d4 := L2.cell 4 rfl)
          | (go_at_call 88; (with_reducible refine (S2.addC 4 t.at' 0 none0 (.slice none 0 0) (R2.mono SD.out.fr.size) (HRM.out)).mono ?_); rintro e wq ⟨⟨z, rfl⟩, hO, v3, hf3⟩; have k0 := (hf3.cell (p := ⟨w3.heap.size, 0, none⟩) L2.lt (by have := L2.loc.lt; simp only; omega) L2.loc.v).trans (L2.cell 0 rfl); have k1 := (hf3.cell (p := ⟨w3.heap.size, 1, none⟩) L2.lt (by have := L2.loc.lt; simp only; omega) L2.loc.v).trans (L2.cell 1 rfl); have k2 := (hf3.cell (p := ⟨w3.heap.size, 2, none⟩) L2.lt (by have := L2.loc.lt; simp only; omega) L2.loc.v).trans (L2.cell 2 rfl); have k3 := (hf3.cell (p := ⟨w3.heap.size, 3, none⟩) L2.lt (by have := L2.loc.lt; simp only; omega) L2.loc.v).trans (L2.cell 3 rfl); have k4 := (hf3.cell (p := ⟨w3.heap.size, 4, none⟩) L2.lt (by have := L2.loc.lt; simp only; omega) L2.loc.v).trans (L2.cell 4 rfl)))
      go_wp2
      go_ret
      exact of_ok HR.out hO
  | true =>
    have X11 : Hid (isNextP ⟨#[41]⟩ l = .ok true l) := Lib.hid (by rw [hl, isNextP, hd])
    clear hs hf hl hd
    have L12 := Lib.hid (L8.out.tr T)
    have S13 := Lib.hid (S)
    clear S T S6 L8
    have c14 := L12.out.cell 0 rfl
    have c15 := L12.out.cell 1 rfl
    have c16 := L12.out.cell 2 rfl
    have c17 := L12.out.cell 3 rfl
    have c18 := L12.out.cell 4 rfl
    have z19 := L12.out.fz
    have HR : Hid (namesP l = .ok (.mk 4 t.at' none0 0 []) l) := Lib.hid (by simp only [namesP, nodeA, Par.bind, Par.pure, X4.out, X11.out])
    have RN : Hid (Rw E v (kvs ++ []) w.heap.size (.slice none 0 0) [] w10) := Lib.hid Rw.nil
    have C20 := Lib.hid (add_at S13.out.ps (4) ((t.at' : Int)) (0) (none0) (.slice none 0 0) (.slice none 0 0) (roots md.length []) RN.out.own RN.out.loc (by have h2 := hroom1.out; simp only [postL, List.append_nil, List.length_append, List.length_nil]; omega))
    go_wp2_with fail
    clear c14 c15 c16 c17 c18 z19
    (with_reducible refine C20.out.mono ?_)
    rintro e wf hA
    have hO := Lib.hid (S13.out.add (ts := []) rfl hA RN.out.ge)
    obtain ⟨z, rfl⟩ := hA.int
    clear C20
    go_wp2
    go_ret
    exact of_ok HR.out hO.out
end
end Go.Proofs.YtpemghcafbedeaaGreatDoor
end
section
namespace Go.Proofs.YtpemghcafbedeaaGreatDoor
open Go.RowKit Go.Shelf
attribute [local go_sem] Oper.semAt_some
def upto {α : Type} (f : Nat → α) (k : Nat) : List α := (List.range k).map f
theorem upto_succ {α : Type} (f : Nat → α) (k : Nat) : upto f (k + 1) = upto f k ++ [f k] := by simp [upto, List.range_succ]
theorem upto_length {α : Type} (f : Nat → α) (k : Nat) : (upto f k).length = k := by simp [upto]
structure KeepsAt (n₀ q : Nat) (A B : World) : Prop where
  size : A.heap.size ≤ B.heap.size
  block : ∀ g, g < n₀ ∨ g = q → g < A.heap.size → B.heap[g]? = A.heap[g]?
theorem KeepsAt.refl (n₀ q : Nat) (A : World) : KeepsAt n₀ q A A := ⟨Nat.le_refl _, fun _ _ _ => rfl⟩
theorem KeepsAt.trans {n₀ q : Nat} {A B C : World} (h : KeepsAt n₀ q A B) (h' : KeepsAt n₀ q B C) : KeepsAt n₀ q A C := ⟨Nat.le_trans h.size h'.size, fun g hg hl => (h'.block g hg (Nat.lt_of_lt_of_le hl h.size)).trans (h.block g hg hl)⟩
theorem cell_ltB {W : World} {a : Addr} {v : Value} (h : W.cell? a = some v) : a.block < W.heap.size := by
  rcases Nat.lt_or_ge a.block W.heap.size with h1 | h1
  · exact h1
  · simp [World.cell?, Array.getElem?_eq_none h1] at h
theorem KeepsAt.cell {n₀ q : Nat} {A B : World} (h : KeepsAt n₀ q A B) {p : Addr} {u : Value} (hg : p.block < n₀ ∨ p.block = q) (hc : A.cell? p = some u) : B.cell? p = some u := by
  rw [World.cell?_of_block (w := A) (h.block p.block hg (cell_ltB hc))]; exact hc
def backF (zs : List Int) (k : Nat) : Int × Int := (((zs.length : Nat) : Int) - 1 - k, zs[zs.length - 1 - k]?.getD 0)
set_option maxRecDepth 100000 in
set_option maxHeartbeats 2000000 in
theorem back1_in (F : Fence) (n : Nat) (h7 : F.fn 144) (hro : F.round = none) (hn : 1 ≤ n) (l Bs n₀ b off len cap : Nat) (zs : List Int) (hz : zs.length = len) (hreach : len * 8 ≤ 140737488351232) (hb : b < n₀) (J Jx : List (Int × Int) → World → Prop)
    (hY : ∀ pre x W, J pre W → pre.length < len → YieldAt F (n - 1) Tryz.prog l #[.int .i64 x.1, .int .i64 x.2] W fun e W' =>
      (e = .returned (.bool true) ∧ J (pre ++ [x]) W' ∧ KeepsAt n₀ Bs W W') ∨ (e = .returned (.bool false) ∧ Jx (pre ++ [x]) W'))
    (W : World) (hBs : W.cell? ⟨Bs, 0, none⟩ = some (.slice (some ⟨b, off, none⟩) len cap)) (hc : ∀ j, j < len → W.cell? ⟨b, off + j, none⟩ = some (.int .i64 (zs[j]?.getD 0))) (h0 : J [] W) :
    CallsIn F n Tryz.prog 144 #[.func (.yield l) #[] #[], .pointer (some ⟨Bs, 0, none⟩)] W fun e W' => (∃ v, e = .returned v) ∧
      ((∃ ys, ys = upto (backF zs) len ∧ J ys W') ∨ (∃ pre, (∃ k, k ≤ len ∧ pre = upto (backF zs) k) ∧ Jx pre W')) := by
  subst hz
  refine callsIn_of_wp Tryz.func144 rfl h7 ?_ hro
  simp only [Tryz.ntmps144, List.size_toArray, List.length_cons, List.length_nil, Nat.reduceAdd, Nat.reduceSub, Array.replicate_succ, Array.replicate_zero, List.push_toArray, List.append_toArray, List.nil_append, List.cons_append]
  gi_wp2
  gi_loopw [3] (fun i wr => ∃ k : Nat, k ≤ zs.length ∧ i = .int .i64 ((zs.length : Int) - 1 - k) ∧ J (upto (backF zs) k) wr ∧ KeepsAt n₀ Bs W wr)
    (fun i _ => (intOf i + 1).toNat)
  case atStart => exact ⟨0, Nat.zero_le _, by simp, h0, KeepsAt.refl _ _ _⟩
  case round =>
    obtain ⟨k, hk, rfl, hJs, hnx⟩ := hrel
    have hs := hnx.cell (p := ⟨Bs, 0, none⟩) (Or.inr rfl) hBs
    by_cases hlt : k < zs.length
    · have hcx := hnx.cell (p := ⟨b, off + (zs.length - 1 - k), none⟩) (Or.inl hb) (hc (zs.length - 1 - k) (by omega))
      obtain ⟨fn, tmps, assign, body, hy, hR⟩ := hY _ (backF zs k) wr hJs (by rw [upto_length]; exact hlt)
      simp only [backF] at hy
      have hi1 : (0 : Int) ≤ (zs.length : Int) - 1 - k := by omega
      have hi2 : (zs.length : Int) - 1 - k < zs.length := by omega
      have hi3 : ((zs.length : Int) - 1 - k).toNat = zs.length - 1 - k := by omega
      gi_wp2
      refine hR.mono ?_
      rintro e W3 (⟨rfl, hJ3, hk3⟩ | ⟨rfl, hJx3⟩)
      · gi_wp2
        go_roundw
        case rel => exact ⟨k + 1, by omega, by simp; omega, by rw [upto_succ]; exact hJ3, hnx.trans hk3⟩
        case measure => simp [intOf]; omega
      · gi_wp2
        refine bodyPost_ret (results_none rfl _ _ _) rfl ?_
        exact ⟨⟨_, rfl⟩, .inr ⟨_, ⟨k + 1, by omega, (upto_succ _ _).symm⟩, hJx3⟩⟩
    · obtain rfl : k = zs.length := by omega
      have hi1 : ¬ (0 : Int) ≤ (zs.length : Int) - 1 - zs.length := by omega
      gi_wp2
      go_end0
      exact ⟨⟨_, rfl⟩, .inl (by first | exact hJs | exact ⟨_, rfl, hJs⟩)⟩
set_option maxRecDepth 100000 in
set_option maxHeartbeats 1000000 in
theorem back1_nil_in (F : Fence) (n : Nat) (h7 : F.fn 144) (hro : F.round = none) (l Bs : Nat) (J : List (Int × Int) → World → Prop) (W : World) (hBs : W.cell? ⟨Bs, 0, none⟩ = some (.slice none 0 0)) (h0 : J [] W) :
    CallsIn F n Tryz.prog 144 #[.func (.yield l) #[] #[], .pointer (some ⟨Bs, 0, none⟩)] W fun e W' => (∃ v, e = .returned v) ∧ J [] W' := by
  refine callsIn_of_wp Tryz.func144 rfl h7 ?_ hro
  simp only [Tryz.ntmps144, List.size_toArray, List.length_cons, List.length_nil, Nat.reduceAdd, Nat.reduceSub, Array.replicate_succ, Array.replicate_zero, List.push_toArray, List.append_toArray, List.nil_append, List.cons_append]
  gi_wp2
  gi_loopw [3] (fun i wr => i = .int .i64 (-1) ∧ J [] wr) (fun _ _ => 0)
  case atStart => exact ⟨rfl, h0⟩
  case round =>
    obtain ⟨rfl, hJs⟩ := hrel
    gi_wp2
    go_end0
    exact ⟨⟨_, rfl⟩, hJs⟩
set_option maxHeartbeats 1000000 in
theorem back_at (a : Option Addr) (len cap : Nat) (w : World) :
    Calls Tryz.prog 89 #[.slice a len cap] w fun e w' => e = .returned (.func (.func 144) #[] #[.pointer (some ⟨w.heap.size, 0, none⟩)]) ∧ w' = w.alloc (.cells #[.slice a len cap] 50) := by
  go_enter Tryz.func89, Tryz.ntmps89
  go_wp2_with fail
  go_ret
  exact ⟨rfl, rfl⟩
def IntsAt (n₀ : Nat) (W : World) (sv : Value) (zs : List Int) : Prop :=
  (sv = .slice none 0 0 ∧ zs = []) ∨ ∃ b off cap, sv = .slice (some ⟨b, off, none⟩) zs.length cap ∧ b < n₀ ∧ ∀ j, j < zs.length → W.cell? ⟨b, off + j, none⟩ = some (.int .i64 (zs[j]?.getD 0))
theorem IntsAt.below {n₀ : Nat} {A B : World} (h : Below n₀ A B) {sv : Value} {zs : List Int} : IntsAt n₀ A sv zs → IntsAt n₀ B sv zs
  | .inl e => .inl e
  | .inr ⟨b, off, cap, e, hb, hc⟩ => .inr ⟨b, off, cap, e, hb, fun j hj => (h.cell (p := ⟨b, off + j, none⟩) hb).trans (hc j hj)⟩
theorem back_stops (F : Fence) (n : Nat) (h7 : F.fn 144) (hro : F.round = none) (hn : 1 ≤ n) (Bs n₀ : Nat) (sv : Value) (zs : List Int) (hreach : zs.length * 8 ≤ 140737488351232) (w : World) (hBs : Bs < w.heap.size) (hn₀ : n₀ ≤ w.heap.size)
    (hc : w.cell? ⟨Bs, 0, none⟩ = some sv) (hI : IntsAt n₀ w sv zs) :
    SeqStopsK F n Tryz.prog 144 #[.pointer (some ⟨Bs, 0, none⟩)] (fun x : Int × Int => #[Value.int .i64 x.1, Value.int .i64 x.2]) (KeepsAt n₀ Bs) (fun ys => ys = upto (backF zs) zs.length)
      (fun pre => ∃ k, k ≤ zs.length ∧ pre = upto (backF zs) k) zs.length w := fun l J Jx W hW _ _ hY h0 => by
  have hc' := (hW.cell (p := ⟨Bs, 0, none⟩) hBs).trans hc
  rcases hI.below (hW.mono hn₀) with ⟨rfl, rfl⟩ | ⟨b, off, cap, rfl, hb, hcs⟩
  · exact (back1_nil_in F n h7 hro l Bs J W hc' h0).mono fun e W' ⟨he, hj⟩ => ⟨he, .inl ⟨_, rfl, hj⟩⟩
  · exact back1_in F n h7 hro hn l Bs n₀ b off zs.length cap zs rfl hreach hb J Jx hY W hc' hcs h0
theorem KeepsAt.putObj {n₀ Bs : Nat} {w : World} (hn : n₀ ≤ w.heap.size) (hb : Bs < w.heap.size) (W : World) (l : Nat) (o o' : Obj) (hl : w.heap.size ≤ l) (h : W.heap[l]? = some o) (_ : o.isCells = false) (_ : o.isWalk = false) : KeepsAt n₀ Bs W (W.putObj l o') :=
  ⟨by simp, fun g hg _ => World.putObj_heap_other (by rcases hg with hg | rfl <;> omega)⟩
end Go.Proofs.YtpemghcafbedeaaGreatDoor
end
section
namespace Go.Proofs.YtpemghcafbedeaaGreatDoor.Tr
theorem rowsOf_getD (t : List Nd) (i : Nat) : (rowsOf t).getD i [] = kidsAt t i := by
  unfold rowsOf kidsAt
  by_cases h : i < t.length
  · simp [List.getD, h]
  · simp [List.getD, List.getElem?_eq_none (Nat.le_of_not_lt h)]
    rfl
theorem rowsOf_fun (t : List Nd) : (fun i => (rowsOf t).getD i []) = kidsAt t := funext (rowsOf_getD t)
theorem rowsOf_length (t : List Nd) : (rowsOf t).length = t.length := by simp [rowsOf]
structure SizesOk (t : List Nd) (s : List Nat) : Prop where
  right : RightSz (kidsAt t) (fun i => s.getD i 0) t.length
  len : s.length = t.length
  pos : 0 < t.length
  whole : s.getD 0 0 = t.length
theorem sizesP_some {t : List Nd} {s : List Nat} (h : sizesP t = some s) : SizesOk t s := by
  unfold sizesP at h
  split at h
  · simp at h
  · rename_i s1 h1
    split at h
    · rename_i h2
      simp only [Option.some.injEq] at h
      subst h
      have hl := sizesL_len _ _ _ h1
      rw [rowsOf_length] at hl
      have hr := sizesL_right h1
      rw [rowsOf_fun, rowsOf_length] at hr
      exact ⟨hr, hl, by omega, by omega⟩
    · simp at h
theorem sizes_right (t : List Nd) (hn : 0 < t.length) : endK (kidsAt t) t.length t.length 0 = (t.length : Int) ↔ ∃ s, sizesP t = some s := by
  have h := sizes_iff (rowsOf t) (by rw [rowsOf_length]; exact hn)
  rw [rowsOf_fun, rowsOf_length] at h
  rw [h]
  unfold sizesP
  constructor
  · rintro ⟨s, h1, h2⟩
    have hl := sizesL_len _ _ _ h1
    rw [rowsOf_length] at hl
    refine ⟨s, ?_⟩
    rw [h1]
    simp only
    rw [if_pos ⟨by omega, by omega⟩]
  · rintro ⟨s, h1⟩
    split at h1
    · simp at h1
    · rename_i s1 h2
      split at h1
      · rename_i h3
        have hl := sizesL_len _ _ _ h2
        rw [rowsOf_length] at hl
        simp only [Option.some.injEq] at h1
        subst h1
        exact ⟨s1, h2, by omega⟩
      · simp at h1
theorem right_eq (t : List Nd) (hl : ∀ nd ∈ t, nd.kids.length ≤ 9223372036854775807) : rightP t = rightR t := by
  have hall : ruledP t = t.all (nodeR t) := by
    unfold ruledP
    rw [Bool.eq_iff_iff, List.all_eq_true, List.all_eq_true]
    constructor
    · intro h nd hm; rw [← nodeOk_eq t nd (hl nd hm)]; exact h nd hm
    · intro h nd hm; rw [nodeOk_eq t nd (hl nd hm)]; exact h nd hm
  unfold rightP rightR
  by_cases hn : 0 < t.length
  · cases hs : sizesP t with
    | none =>
      have : ¬ endK (kidsAt t) t.length t.length 0 = (t.length : Int) := by
        intro h
        obtain ⟨s, hs2⟩ := (sizes_right t hn).1 h
        rw [hs] at hs2; simp at hs2
      simp [this]
    | some s =>
      have h1 := sizesP_some hs
      have h2 := (sizes_right t hn).2 ⟨s, hs⟩
      have h3 : aheadR t = true := by
        unfold aheadR
        rw [List.all_eq_true]
        intro i hi
        rw [List.all_eq_true]
        intro k hk
        obtain ⟨j, e1, e2, e3, e4⟩ := h1.right.kid (List.mem_range.1 hi) hk
        simp; omega
      simp [hn, h2, h3, hall]
  · have ht : t = [] := List.eq_nil_of_length_eq_zero (by omega)
    subst ht
    simp [sizesP, rowsOf, sizesL]
theorem right_sizes {t : List Nd} (h : rightP t = true) : ∃ s, sizesP t = some s ∧ kindAt t 0 = 1 ∧ ruledP t = true := by
  unfold rightP at h
  split at h
  · simp at h
  · rename_i s hs
    simp only [Bool.and_eq_true, beq_iff_eq] at h
    exact ⟨s, hs, h.1, h.2⟩
theorem sizeP_at {t : List Nd} {s : List Nat} (hr : rightP t = true) (hs : sizesP t = some s) {i : Nat} (hi : i < t.length) : sizeP t i = (s.getD i 0 : Nat) := by
  unfold sizeP
  rw [if_pos ⟨by omega, by omega, hr⟩, hs]
  simp
theorem chain_sum {S : Nat → Nat} {n : Nat} (ks : List Int) (a e : Nat) (h : Chain S n ks a e) : a + (ks.map fun k => S k.toNat).sum = e := by
  induction ks generalizing a with
  | nil => obtain rfl : a = e := h; simp
  | cons k ks ih =>
    obtain ⟨p1, p2, p3⟩ := h
    have := ih _ p3
    simp only [List.map_cons, List.sum_cons, p1, Int.toNat_natCast]
    omega
theorem RightSz.sum {K : Nat → List Int} {S : Nat → Nat} {n : Nat} (h : RightSz K S n) {i : Nat} (hi : i < n) : 1 + ((K i).map fun k => S k.toNat).sum = S i := by
  have := chain_sum _ _ _ (h.chain i hi)
  omega
end Go.Proofs.YtpemghcafbedeaaGreatDoor.Tr
end
section
namespace Go.Proofs.YtpemghcafbedeaaGreatDoor.Tr
open Go.RowKit
structure IV (W : World) (p : Option Addr) (len c : Nat) (xs : List Int) : Prop where
  len_eq : xs.length = len
  cap : len ≤ c
  cell : 0 < len → ∃ b off, p = some ⟨b, off, none⟩ ∧ b < W.heap.size ∧ ∀ i, i < len → W.cell? ⟨b, off + i, none⟩ = some (.int .i64 (xs.getD i 0))
structure NC (W : World) (b o : Nat) (nd : Nd) (kp : Option Addr) (kl kc : Nat) : Prop where
  kind : W.cell? ⟨b, o, none⟩ = some (.int .u8 nd.kind)
  at' : W.cell? ⟨b, o + 1, none⟩ = some (.int .i64 nd.at')
  text : W.cell? ⟨b, o + 2, none⟩ = some (.string nd.text)
  n : W.cell? ⟨b, o + 3, none⟩ = some (.int .i64 nd.n)
  kids : W.cell? ⟨b, o + 4, none⟩ = some (.slice kp kl kc)
  iv : IV W kp kl kc nd.kids
structure TV (W : World) (p : Option Addr) (len c : Nat) (ns : List Nd) : Prop where
  len_eq : ns.length = len
  cap : len ≤ c
  node : 0 < len → ∃ b off, p = some ⟨b, off, none⟩ ∧ b < W.heap.size ∧ ∀ i, i < len → ∃ kp kl kc, NC W b (off + i * 5) (ns.getD i default) kp kl kc
theorem IV.on {W W' : World} {p : Option Addr} {len c : Nat} {xs : List Int} (h : IV W p len c xs) (hb : Below W.heap.size W W') : IV W' p len c xs where
  len_eq := h.len_eq
  cap := h.cap
  cell := fun hl => by
    obtain ⟨b, off, e, hlt, hc⟩ := h.cell hl
    exact ⟨b, off, e, Nat.lt_of_lt_of_le hlt hb.size, fun i hi => by rw [hb.cell (p := ⟨b, off + i, none⟩) hlt]; exact hc i hi⟩
theorem NC.on {W W' : World} {b o : Nat} {nd : Nd} {kp : Option Addr} {kl kc : Nat} (h : NC W b o nd kp kl kc) (hlt : b < W.heap.size) (hb : Below W.heap.size W W') : NC W' b o nd kp kl kc where
  kind := by rw [hb.cell (p := ⟨b, o, none⟩) hlt]; exact h.kind
  at' := by rw [hb.cell (p := ⟨b, o + 1, none⟩) hlt]; exact h.at'
  text := by rw [hb.cell (p := ⟨b, o + 2, none⟩) hlt]; exact h.text
  n := by rw [hb.cell (p := ⟨b, o + 3, none⟩) hlt]; exact h.n
  kids := by rw [hb.cell (p := ⟨b, o + 4, none⟩) hlt]; exact h.kids
  iv := h.iv.on hb
theorem TV.on {W W' : World} {p : Option Addr} {len c : Nat} {ns : List Nd} (h : TV W p len c ns) (hb : Below W.heap.size W W') : TV W' p len c ns where
  len_eq := h.len_eq
  cap := h.cap
  node := fun hl => by
    obtain ⟨b, off, e, hlt, hc⟩ := h.node hl
    refine ⟨b, off, e, Nat.lt_of_lt_of_le hlt hb.size, fun i hi => ?_⟩
    obtain ⟨kp, kl, kc, hn⟩ := hc i hi
    exact ⟨kp, kl, kc, hn.on hlt hb⟩
theorem one_below (w : World) (o : Obj) : Below w.heap.size w (w.alloc o) := (Below.refl _ _).alloc (Nat.le_refl _) _
def fewP (ns : List Nd) (top : Int) : Bool := decide ((ns.length : Int) ≤ top) && ns.all fun nd => decide ((nd.kids.length : Int) ≤ top) && decide (nd.text.size ≤ 100)
theorem all_take {α : Type} [Inhabited α] (p : α → Bool) (l : List α) (k : Nat) (h : k < l.length) : (l.take (k + 1)).all p = ((l.take k).all p && p (l.getD k default)) := by
  rw [List.take_succ_eq_append_getElem h, List.all_append]
  simp [List.getD, h]
theorem all_no {α : Type} [Inhabited α] (p : α → Bool) (l : List α) (k : Nat) (h : k < l.length) (hk : p (l.getD k default) = false) : l.all p = false := by
  rw [List.all_eq_false]
  exact ⟨l.getD k default, by simp [List.getD, h], by rw [hk]; simp⟩
end Go.Proofs.YtpemghcafbedeaaGreatDoor.Tr
end
section
namespace Go.Proofs.YtpemghcafbedeaaGreatDoor
open Par
def TokR (ρ : Nat → Nat → Prop) (t t' : PT) : Prop := t.kind = t'.kind ∧ t.txt = t'.txt ∧ t.n = t'.n ∧ ρ t.at' t'.at'
inductive TokL (ρ : Nat → Nat → Prop) : List PT → List PT → Prop
  | nil : TokL ρ [] []
  | cons {t t' : PT} {l l' : List PT} (h : TokR ρ t t') (r : TokL ρ l l') : TokL ρ (t :: l) (t' :: l')
inductive AstR (ρ : Nat → Nat → Prop) : Ast → Ast → Prop
  | mk {k : Int} {a a' : Nat} {t : ByteArray} {n : Int} {ks ks' : List Ast} (h : ρ a a') (hl : ks.length = ks'.length) (hk : ∀ (i : Nat) (x y : Ast), ks[i]? = some x → ks'[i]? = some y → AstR ρ x y) : AstR ρ (.mk k a t n ks) (.mk k a' t n ks')
def KidsR (ρ : Nat → Nat → Prop) (ks ks' : List Ast) : Prop := ks.length = ks'.length ∧ ∀ (i : Nat) (x y : Ast), ks[i]? = some x → ks'[i]? = some y → AstR ρ x y
def ResR {α : Type} (ρ : Nat → Nat → Prop) (R : α → α → Prop) : Res α → Res α → Prop
  | .err _ c, .err _ c' => c = c'
  | .ok a l, .ok a' l' => R a a' ∧ TokL ρ l l'
  | _, _ => False
def RelP {α : Type} (ρ : Nat → Nat → Prop) (R : α → α → Prop) (f f' : Par α) : Prop := ∀ l l', TokL ρ l l' → ResR ρ R (f l) (f' l')
section
variable {ρ : Nat → Nat → Prop} {α β : Type}
theorem TokL.len {l l' : List PT} (h : TokL ρ l l') : l.length = l'.length := by
  induction h with
  | nil => rfl
  | cons _ _ ih => simp only [List.length_cons, ih]
theorem RelP.pure {R : α → α → Prop} {a a' : α} (h : R a a') : RelP ρ R (Par.pure a) (Par.pure a') := fun _ _ hl => ⟨h, hl⟩
theorem RelP.bind {R : α → α → Prop} {S : β → β → Prop} {f f' : Par α} {g g' : α → Par β} (hf : RelP ρ R f f') (hg : ∀ a a', R a a' → RelP ρ S (g a) (g' a')) : RelP ρ S (Par.bind f g) (Par.bind f' g') := fun l l' hl => by
  have h := hf l l' hl
  simp only [Par.bind]
  cases h1 : f l with
  | err p c =>
    cases h2 : f' l' with
    | err p' c' => rw [h1, h2] at h; exact h
    | ok a' m' => rw [h1, h2] at h; exact h.elim
  | ok a m =>
    cases h2 : f' l' with
    | err p' c' => rw [h1, h2] at h; exact h.elim
    | ok a' m' => rw [h1, h2] at h; exact hg a a' h.1 m m' h.2
def OptR (R : α → α → Prop) : Option α → Option α → Prop
  | none, none => True
  | some a, some b => R a b
  | _, _ => False
theorem RelP.loop {R : α → α → Prop} {step step' : α → Par (Option α)} (hs : ∀ a a', R a a' → RelP ρ (OptR R) (step a) (step' a')) (m : Nat) : ∀ a a', R a a' → RelP ρ R (loop step m a) (loop step' m a') := by
  induction m with
  | zero => intro a a' _ l l' _; exact rfl
  | succ m ih =>
    intro a a' h
    refine RelP.bind (hs a a' h) fun b b' hb => ?_
    cases b with
    | none =>
      cases b' with
      | none => exact RelP.pure h
      | some _ => exact hb.elim
    | some b =>
      cases b' with
      | none => exact hb.elim
      | some b' => exact ih b b' hb
theorem RelP.many {R : α → α → Prop} {step step' : α → Par (Option α)} (hs : ∀ a a', R a a' → RelP ρ (OptR R) (step a) (step' a')) {a a' : α} (h : R a a') : RelP ρ R (many step a) (many step' a') := fun l l' hl => by
  have := RelP.loop hs (l.length + 1) a a' h l l' hl
  simp only [Par.many, ← hl.len]
  exact this
theorem rel_isNext (s : ByteArray) : RelP ρ Eq (isNextP s) (isNextP s) := fun l l' hl => by
  cases hl with
  | nil => exact rfl
  | cons h r => exact ⟨by rw [h.2.1], .cons h r⟩
theorem rel_skip (s : ByteArray) : RelP ρ Eq (skipP s) (skipP s) := fun l l' hl => by
  cases hl with
  | nil => exact rfl
  | cons h r =>
    simp only [skipP, h.2.1]
    split
    · exact ⟨rfl, r⟩
    · exact ⟨rfl, .cons h r⟩
theorem rel_expect (s : ByteArray) : RelP ρ ρ (expectP s) (expectP s) := fun l l' hl => by
  cases hl with
  | nil => exact rfl
  | cons h r =>
    simp only [expectP, h.2.1]
    split
    · exact ⟨h.2.2.2, r⟩
    · exact rfl
theorem rel_take (k : Int) : RelP ρ (TokR ρ) (takeP k) (takeP k) := fun l l' hl => by
  cases hl with
  | nil => exact rfl
  | cons h r =>
    simp only [takeP, h.1]
    split
    · exact ⟨h, r⟩
    · exact rfl
theorem rel_peek : RelP ρ (TokR ρ) peekP peekP := fun l l' hl => by
  cases hl with
  | nil => exact rfl
  | cons h r => exact ⟨h, .cons h r⟩
theorem rel_next : RelP ρ (TokR ρ) nextP nextP := fun l l' hl => by
  cases hl with
  | nil => exact rfl
  | cons h r => exact ⟨h, r⟩
theorem rel_enter (s : ByteArray) (r : Nat) : RelP ρ ρ (enterP s r) (enterP s r) := fun l l' hl => by
  cases hl with
  | nil => exact rfl
  | cons h hr =>
    simp only [enterP, h.2.1]
    split
    · split
      · exact rfl
      · exact ⟨h.2.2.2, hr⟩
    · exact rfl
theorem rel_fail {R : α → α → Prop} : RelP ρ R (failP : Par α) failP := fun l l' hl => by
  cases hl with
  | nil => exact rfl
  | cons h r => exact rfl
theorem KidsR.nil : KidsR ρ [] [] := ⟨rfl, fun i x y h => by simp at h⟩
theorem KidsR.cons {a a' : Ast} {ks ks' : List Ast} (h : AstR ρ a a') (hk : KidsR ρ ks ks') : KidsR ρ (a :: ks) (a' :: ks') := ⟨by simp [hk.1], fun i x y hx hy => by
  cases i with
  | zero => simp at hx hy; subst hx hy; exact h
  | succ i => exact hk.2 i x y (by simpa using hx) (by simpa using hy)⟩
theorem KidsR.snoc {a a' : Ast} {ks ks' : List Ast} (hk : KidsR ρ ks ks') (h : AstR ρ a a') : KidsR ρ (ks ++ [a]) (ks' ++ [a']) := ⟨by simp [hk.1], fun i x y hx hy => by
  by_cases hi : i < ks.length
  · rw [List.getElem?_append_left hi] at hx
    rw [List.getElem?_append_left (by rw [← hk.1]; exact hi)] at hy
    exact hk.2 i x y hx hy
  · rw [List.getElem?_append_right (by omega)] at hx
    rw [List.getElem?_append_right (by rw [← hk.1]; omega), ← hk.1] at hy
    cases hj : i - ks.length with
    | zero => rw [hj] at hx hy; simp at hx hy; subst hx hy; exact h
    | succ j => rw [hj] at hx; simp at hx⟩
theorem AstR.node {k n : Int} {a a' : Nat} {t : ByteArray} {ks ks' : List Ast} (h : ρ a a') (hk : KidsR ρ ks ks') : AstR ρ (.mk k a t n ks) (.mk k a' t n ks') := .mk h hk.1 hk.2
theorem AstR.at' {a a' : Ast} (h : AstR ρ a a') : ρ a.at' a'.at' := by
  cases h with
  | mk h _ _ => exact h
theorem rel_word {t t' : PT} (h : TokR ρ t t') : AstR ρ (wordA t) (wordA t') := by
  unfold wordA; rw [h.2.1]; exact .node h.2.2.2 KidsR.nil
theorem rel_both (k : Int) {a a' b b' : Ast} (h : AstR ρ a a') (h' : AstR ρ b b') : AstR ρ (bothA k a b) (bothA k a' b') := .node h.at' (.cons h (.cons h' .nil))
theorem rel_wordP : RelP ρ (AstR ρ) wordP wordP := .bind (rel_take _) fun _ _ h => .pure (rel_word h)
theorem rel_numberP : RelP ρ (AstR ρ) numberP numberP := .bind (rel_take _) fun t t' h => .pure (by rw [h.2.2.1]; exact .node h.2.2.2 .nil)
theorem rel_times {fac fac' : Par Ast} (h : RelP ρ (AstR ρ) fac fac') (a a' : Ast) (ha : AstR ρ a a') : RelP ρ (OptR (AstR ρ)) (timesStep fac a) (timesStep fac' a') := .bind (rel_skip _) fun b b' e => by
  subst e
  cases b
  · exact .pure trivial
  · exact .bind h fun _ _ hb => .pure (rel_both _ ha hb)
theorem rel_term {fac fac' : Par Ast} (h : RelP ρ (AstR ρ) fac fac') : RelP ρ (AstR ρ) (termP fac) (termP fac') := .bind h fun _ _ ha => .many (rel_times h) ha
theorem rel_sum {fac fac' : Par Ast} (h : RelP ρ (AstR ρ) fac fac') (a a' : Ast) (ha : AstR ρ a a') : RelP ρ (OptR (AstR ρ)) (sumStep fac a) (sumStep fac' a') := .bind (rel_skip _) fun b b' e => by
  subst e
  cases b
  · refine .bind (rel_skip _) fun b b' e => ?_
    subst e
    cases b
    · exact .pure trivial
    · exact .bind (rel_term h) fun _ _ hb => .pure (rel_both _ ha hb)
  · exact .bind (rel_term h) fun _ _ hb => .pure (rel_both _ ha hb)
theorem rel_exprP {fac fac' : Par Ast} (h : RelP ρ (AstR ρ) fac fac') : RelP ρ (AstR ρ) (exprP fac) (exprP fac') := .bind (rel_term h) fun _ _ ha => .many (rel_sum h) ha
theorem RelP.ite {R : α → α → Prop} {p p' : Prop} [Decidable p] [Decidable p'] (hp : p ↔ p') {f f' g g' : Par α} (hf : RelP ρ R f f') (hg : RelP ρ R g g') : RelP ρ R (if p then f else g) (if p' then f' else g') := by
  by_cases h : p
  · rw [if_pos h, if_pos (hp.1 h)]; exact hf
  · rw [if_neg h, if_neg (fun e => h (hp.2 e))]; exact hg
theorem rel_factorOf (r : Nat) {fac fac' : Par Ast} (h : RelP ρ (AstR ρ) fac fac') : RelP ρ (AstR ρ) (factorOf r fac) (factorOf r fac') := .bind rel_peek fun t t' ht =>
  .ite (by rw [ht.1]) rel_numberP <| .ite (by rw [ht.1]) (.bind rel_next fun u u' hu => .pure (by rw [hu.2.1]; exact .node hu.2.2.2 .nil)) <|
  .ite (by rw [ht.2.1]) (.bind (rel_enter _ _) fun _ _ _ => .bind (rel_exprP h) fun _ _ ha => .bind (rel_expect _) fun _ _ _ => .pure ha) <|
  .ite (by rw [ht.2.1]) (.bind (rel_enter _ _) fun _ _ hp => .bind h fun _ _ ha => .pure (.node hp (.cons ha .nil))) rel_fail
theorem rel_factor (r : Nat) : RelP ρ (AstR ρ) (factorP r) (factorP r) := by
  induction r with
  | zero => exact rel_factorOf 0 rel_fail
  | succ r ih => exact rel_factorOf (r + 1) ih
theorem rel_expr (r : Nat) : RelP ρ (AstR ρ) (exprR r) (exprR r) := rel_exprP (rel_factor r)
theorem rel_wordsStep (ks ks' : List Ast) (hk : KidsR ρ ks ks') : RelP ρ (OptR (KidsR ρ)) (wordsStep ks) (wordsStep ks') := .bind (rel_skip _) fun b b' e => by
  subst e
  cases b
  · exact .pure trivial
  · exact .bind rel_wordP fun _ _ ha => .pure (hk.snoc ha)
theorem rel_words : RelP ρ (KidsR ρ) wordsP wordsP := .bind rel_wordP fun _ _ ha => .many rel_wordsStep (.cons ha .nil)
theorem rel_rowOf (r : Nat) {t t' : PT} (ht : TokR ρ t t') : RelP ρ (AstR ρ) (rowOfP r t) (rowOfP r t') := .bind (rel_enter _ _) fun _ _ _ => .bind (rel_expr _) fun _ _ ha => .bind (rel_expect _) fun _ _ _ => .pure (by rw [ht.2.1]; exact .node ht.2.2.2 (.cons ha .nil))
theorem rel_row (r : Nat) : RelP ρ (AstR ρ) (rowP r) (rowP r) := .bind (rel_take _) fun _ _ ht => rel_rowOf r ht
def PairR (ρ : Nat → Nat → Prop) (x y : Ast × Ast) : Prop := AstR ρ x.1 y.1 ∧ AstR ρ x.2 y.2
theorem rel_cell (r : Nat) : RelP ρ (PairR ρ) (cellP r) (cellP r) := .bind (rel_row r) fun _ _ ha => .bind (rel_expect _) fun _ _ _ => .bind rel_wordP fun _ _ hb => .pure ⟨ha, hb⟩
theorem rel_end {a a' : Ast} (h : AstR ρ a a') : RelP ρ (AstR ρ) (endP a) (endP a') := .bind (rel_expect _) fun _ _ _ => .pure h
theorem rel_read (r : Nat) {p p' : Nat} (hp : ρ p p') : RelP ρ (AstR ρ) (readP r p) (readP r p') := .bind (rel_take _) fun t t' ht => .bind (rel_expect _) fun _ _ _ => .bind (rel_cell r) fun _ _ hc => .bind (rel_skip _) fun b b' e => by
  subst e
  rw [ht.2.1]
  cases b
  · exact rel_end (.node hp (.cons hc.1 (.cons hc.2 .nil)))
  · exact .bind (rel_expect _) fun _ _ _ => rel_end (.node hp (.cons hc.1 (.cons hc.2 .nil)))
theorem rel_set (r : Nat) {p p' : Nat} (hp : ρ p p') : RelP ρ (AstR ρ) (setP r p) (setP r p') := .bind (rel_cell r) fun _ _ hc => .bind (rel_expect _) fun _ _ _ => .bind (rel_expr r) fun _ _ hv => rel_end (.node hp (.cons hc.1 (.cons hc.2 (.cons hv .nil))))
theorem rel_putStep (r : Nat) (ks ks' : List Ast) (hk : KidsR ρ ks ks') : RelP ρ (OptR (KidsR ρ)) (putStep r ks) (putStep r ks') := .bind (rel_skip _) fun b b' e => by
  subst e
  cases b
  · exact .pure trivial
  · exact .bind (rel_expr r) fun _ _ ha => .pure (hk.snoc ha)
theorem rel_put (r : Nat) {p p' : Nat} (hp : ρ p p') : RelP ρ (AstR ρ) (putP r p) (putP r p') := .bind (rel_row r) fun _ _ ha => .bind (rel_expect _) fun _ _ _ => .bind (rel_expr r) fun _ _ he => .bind (.many (rel_putStep r) (.cons ha (.cons he .nil))) fun _ _ hk => .bind (rel_expect _) fun _ _ _ => rel_end (.node hp hk)
theorem rel_delete (r : Nat) {p p' : Nat} (hp : ρ p p') : RelP ρ (AstR ρ) (deleteP r p) (deleteP r p') := .bind (rel_row r) fun _ _ ha => rel_end (.node hp (.cons ha .nil))
theorem rel_scan {p p' : Nat} (hp : ρ p p') : RelP ρ (AstR ρ) (scanP p) (scanP p') := .bind (rel_take _) fun t t' ht => .bind (rel_expect _) fun _ _ _ => .bind rel_wordP fun _ _ ha => .bind (rel_expect _) fun _ _ _ => .bind rel_wordP fun _ _ hb => rel_end (by rw [ht.2.1]; exact .node hp (.cons ha (.cons hb .nil)))
theorem rel_lock {p p' : Nat} (hp : ρ p p') : RelP ρ (AstR ρ) (lockP p) (lockP p') := .bind rel_wordP fun _ _ ha => .bind (rel_skip _) fun b b' e => by
  subst e
  cases b
  · exact .bind (rel_expect _) fun _ _ _ => rel_end (.node hp (.cons ha .nil))
  · exact rel_end (.node hp (.cons ha .nil))
theorem rel_release (r : Nat) {p p' : Nat} (hp : ρ p p') : RelP ρ (AstR ρ) (releaseP r p) (releaseP r p') := .bind (rel_take _) fun t t' ht => .bind (rel_isNext _) fun b b' e => by
  subst e
  cases b
  · exact rel_end (.node hp (.cons (rel_word ht) .nil))
  · exact .bind (rel_rowOf r ht) fun _ _ ha => rel_end (.node hp (.cons ha .nil))
theorem rel_ifTail {B B' : Par Ast} (h : RelP ρ (AstR ρ) B B') {p p' : Nat} (hp : ρ p p') (n : Int) {a a' b b' : Ast} (ha : AstR ρ a a') (hb : AstR ρ b b') : RelP ρ (AstR ρ) (ifTail B p n a b) (ifTail B' p' n a' b') := .bind h fun _ _ hc => .bind (rel_skip _) fun u u' e => by
  subst e
  cases u
  · exact .pure (.node hp (.cons ha (.cons hb (.cons hc .nil))))
  · exact .bind h fun _ _ hd => .pure (.node hp (.cons ha (.cons hb (.cons hc (.cons hd .nil)))))
theorem rel_if (r : Nat) {B B' : Par Ast} (h : RelP ρ (AstR ρ) B B') {p p' : Nat} (hp : ρ p p') : RelP ρ (AstR ρ) (ifP r B p) (ifP r B' p') := .bind (rel_expr r) fun _ _ ha => .bind (rel_skip _) fun u u' e => by
  subst e
  cases u
  · exact .bind (rel_expect _) fun _ _ _ => .bind (rel_expr r) fun _ _ hb => rel_ifTail h hp _ ha hb
  · exact .bind (rel_expr r) fun _ _ hb => rel_ifTail h hp _ ha hb
theorem rel_for {B B' : Par Ast} (h : RelP ρ (AstR ρ) B B') {p p' : Nat} (hp : ρ p p') : RelP ρ (AstR ρ) (forP B p) (forP B' p') := .bind (rel_take _) fun t t' ht => .bind (rel_expect _) fun _ _ _ => .bind rel_numberP fun _ _ ha => .bind (rel_expect _) fun _ _ _ => .bind rel_numberP fun _ _ hb => .bind h fun _ _ hc => .pure (by rw [ht.2.1]; exact .node hp (.cons ha (.cons hb (.cons hc .nil))))
theorem rel_let (r : Nat) {p p' : Nat} (hp : ρ p p') : RelP ρ (AstR ρ) (letP r p) (letP r p') := .bind (rel_take _) fun t t' ht => .bind (rel_expect _) fun _ _ _ => .bind (rel_expr r) fun _ _ ha => rel_end (by rw [ht.2.1]; exact .node hp (.cons ha .nil))
theorem rel_emit (r : Nat) {p p' : Nat} (hp : ρ p p') : RelP ρ (AstR ρ) (emitP r p) (emitP r p') := .bind (rel_expr r) fun _ _ ha => rel_end (.node hp (.cons ha .nil))
theorem rel_rest (r : Nat) {B B' : Par Ast} (h : RelP ρ (AstR ρ) B B') (j : Nat) {p p' : Nat} (hp : ρ p p') : RelP ρ (AstR ρ) (restP r B j p) (restP r B' j p') := by
  unfold restP
  split
  · exact rel_read r hp
  · exact rel_set r hp
  · exact rel_put r hp
  · exact rel_delete r hp
  · exact rel_scan hp
  · exact rel_lock hp
  · exact rel_release r hp
  · exact rel_if r h hp
  · exact rel_for h hp
  · exact rel_let r hp
  · exact rel_emit r hp
  · exact rel_end (.node hp .nil)
  · exact rel_end (.node hp .nil)
  · exact rel_fail
theorem rel_stmt (r : Nat) {B B' : Par Ast} (h : RelP ρ (AstR ρ) B B') : RelP ρ (AstR ρ) (stmtP r B) (stmtP r B') := .bind rel_peek fun t t' ht =>
  .ite (by rw [ht.2.1]) (.bind rel_next fun u u' hu => by rw [hu.2.1]; exact rel_rest r h _ hu.2.2.2) rel_fail
theorem rel_blockStep {st st' : Par Ast} (h : RelP ρ (AstR ρ) st st') (ks ks' : List Ast) (hk : KidsR ρ ks ks') : RelP ρ (OptR (KidsR ρ)) (blockStep st ks) (blockStep st' ks') := .bind (rel_isNext _) fun b b' e => by
  subst e
  cases b
  · exact .bind h fun _ _ ha => .pure (hk.snoc ha)
  · exact .pure trivial
theorem rel_blockOf (r : Nat) {st st' : Par Ast} (h : RelP ρ (AstR ρ) st st') : RelP ρ (AstR ρ) (blockOf r st) (blockOf r st') := .bind (rel_enter _ _) fun _ _ hp => .bind (.many (rel_blockStep h) .nil) fun _ _ hk => .bind (rel_expect _) fun _ _ _ => .pure (.node hp hk)
theorem rel_block (r : Nat) : RelP ρ (AstR ρ) (blockP r) (blockP r) := by
  induction r with
  | zero => exact rel_blockOf 0 rel_fail
  | succ r ih => exact rel_blockOf (r + 1) (rel_stmt r ih)
theorem rel_names : RelP ρ (AstR ρ) namesP namesP := .bind rel_peek fun t t' ht => .bind (rel_isNext _) fun b b' e => by
  subst e
  cases b
  · exact .bind rel_words fun _ _ hk => .pure (.node ht.2.2.2 hk)
  · exact .pure (.node ht.2.2.2 .nil)
theorem rel_table : RelP ρ (AstR ρ) tableP tableP := .bind (rel_expect _) fun _ _ hp => .bind (rel_take _) fun t t' ht => .bind (rel_expect _) fun _ _ _ => .bind rel_words fun _ _ hk => .bind (rel_expect _) fun _ _ _ => rel_end (by rw [ht.2.1]; exact .node hp hk)
theorem rel_proc : RelP ρ (AstR ρ) procP procP := .bind (rel_expect _) fun _ _ hp => .bind (rel_take _) fun t t' ht => .bind (rel_expect _) fun _ _ _ => .bind rel_names fun _ _ hn => .bind (rel_expect _) fun _ _ _ => .bind (rel_skip _) fun b b' e => by
  subst e
  rw [ht.2.1]
  cases b
  · exact .bind (rel_block 64) fun _ _ hb => .pure (.node hp (.cons hn (.cons hb .nil)))
  · exact .bind (rel_block 64) fun _ _ hb => .pure (.node hp (.cons hn (.cons hb .nil)))
theorem rel_progStep (ks ks' : List Ast) (hk : KidsR ρ ks ks') : RelP ρ (OptR (KidsR ρ)) (progStep ks) (progStep ks') := .bind rel_peek fun t t' ht => .ite (by rw [ht.1]) (.pure trivial) <| .bind (rel_isNext _) fun b b' e => by
  subst e
  cases b
  · exact .bind rel_proc fun _ _ ha => .pure (hk.snoc ha)
  · exact .bind rel_table fun _ _ ha => .pure (hk.snoc ha)
theorem rel_program : RelP ρ (AstR ρ) programP programP := .bind rel_peek fun t t' ht => .bind (.many rel_progStep .nil) fun _ _ hk => .pure (.node ht.2.2.2 hk)
end
end Go.Proofs.YtpemghcafbedeaaGreatDoor
end
