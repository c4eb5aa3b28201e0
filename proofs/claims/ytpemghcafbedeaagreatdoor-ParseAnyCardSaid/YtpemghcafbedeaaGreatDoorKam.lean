/- Contracts on the way to the laws of layer 5: ParseZk, ParseFo, ParseFq. -/
import Derived.Test.YtpemghcafbedeaaGreatDoorKab
import Derived.Test.YtpemghcafbedeaaGreatDoorKai
import Derived.Test.YtpemghcafbedeaaGreatDoorKal
import Derived.Lib.OwnKind
import Derived.WalkSmall
import Derived.OwnWalkIn
import Derived.Maps.AppendAt
set_option linter.all false
section
namespace Go.Proofs.YtpemghcafbedeaaGreatDoor
open Go.RowKit
open Par (Less many many_err many_done many_more)
section
variable {E : Env} {v : Value} {kvs : List Value} {md : List Nd} {r : Nat} {l : List PT} {w : World}
set_option maxRecDepth 1000000 in
set_option maxHeartbeats 2000000 in
theorem program_at (h : PS E v kvs md 64 l w) (hm : MapAt E) (hroom : md.length + 1 + l.length ≤ 70000) : Calls Tryz.prog 38 #[.pointer (some ⟨E.b, 0, none⟩)] w (PostE E (programP l) fun a l' => OkA E v kvs md 64 w a l') := by
  have hr64 := h.r64
  have RM := Lib.hid h.room
  have S1 := Lib.hid (St.start h)
  have fl0 := tok_f0
  have fl1 := tok_f1
  have hnot : ∀ (x : Bool) (w : World), (Op.unary .not (.bool x)).run Tryz.prog w = .ok (.bool (!x)) w := fun _ _ => rfl
  clear h
  go_enter Tryz.func38, Tryz.ntmps38
  have hroom1 := Lib.hid hroom
  have HBB := Lib.hid (blockR_at hm 64)
  have C2 := Lib.hid (peek_at S1.out.ps)
  go_wp2_with fail
  (with_reducible refine C2.out.mono ?_)
  rintro e w3 ⟨t, l1, sp, hl, rfl, hs, hf⟩
  clear C2
  have X4 : Hid (peekP l = .ok t l) := Lib.hid (by rw [hl, peekP])
  obtain ⟨S, T⟩ := S1.out.same hs hf
  have HL := Lib.hid hl
  clear hs hf hl
  simp only [tokA]
  have S5 := Lib.hid (S)
  clear S T S1
  have S6 := Lib.hid (S5.out.alloc (.cells #[.int .u8 1, .int .i64 (t.at' : Int), .string ⟨#[]⟩, .int .i64 0, .slice none 0 0] 53))
  have Q7 : Hid (w.heap.size ≤ w3.heap.size) := Lib.hid S5.out.fr.size
  have L8 := Lib.hid (Lcl.new S5.out.ps (.cells #[.int .u8 1, .int .i64 (t.at' : Int), .string ⟨#[]⟩, .int .i64 0, .slice none 0 0] 53))
  clear S5
  have RN : Hid (Rw E v (kvs ++ []) (w3.heap.size + 1) (.slice none 0 0) (roots md.length []) (w3.alloc (.cells #[.int .u8 1, .int .i64 (t.at' : Int), .string ⟨#[]⟩, .int .i64 0, .slice none 0 0] 53))) := Lib.hid Rw.nil
  obtain ⟨i0, hi, hz0, hz1, hz2⟩ := info_partsP infoInt
  have I0 := Lib.hid hi
  have I1 := Lib.hid hz0
  have I2 := Lib.hid hz1
  have I3 := Lib.hid hz2
  clear hi hz0 hz1 hz2
  go_wp2_with fail
  go_loopw [4] (fun kvL wr => ∃ (ts : List Ast) (lk : List PT) (vk : Value) (nk : List Value), Hid (St E v kvs md w ts 64 lk vk nk wr) ∧ Hid (Rw E vk (kvs ++ nk) (w3.heap.size + 1) kvL (roots md.length ts) wr) ∧ Hid (Lcl E vk (kvs ++ nk) (w3.heap.size) (.cells #[.int .u8 1, .int .i64 (t.at' : Int), .string ⟨#[]⟩, .int .i64 0, .slice none 0 0] 53 (0, 0)) wr) ∧ Hid (many progStep [] l = many progStep ts lk)) (fun _ wr => E.toks.length - nextOf E wr)
  case atStart => exact ⟨[], l, _, _, S6, RN, L8, Lib.hid rfl⟩
  case round =>
    obtain ⟨ts, lk, vk, nk, S0, R0, L0, HM⟩ := hrel
    have hleft := Lib.hid S0.out.ps.left
    clear S6 RN L8
    have c9 := L0.out.cell 0 rfl
    have c10 := L0.out.cell 1 rfl
    have c11 := L0.out.cell 2 rfl
    have c12 := L0.out.cell 3 rfl
    have c13 := L0.out.cell 4 rfl
    have z14 := L0.out.fz
    have C15 := Lib.hid (peek_at S0.out.ps)
    go_wp2_with fail
    clear c9 c10 c11 c12 c13 z14
    (with_reducible refine C15.out.mono ?_)
    rintro e w16 ⟨t2, l9, sp2, hl, rfl, hs, hf⟩
    clear C15
    have X17 : Hid (peekP lk = .ok t2 lk) := Lib.hid (by rw [hl, peekP])
    obtain ⟨S, T⟩ := S0.out.same hs hf
    have HL := Lib.hid hl
    clear hs hf hl
    simp only [tokA]
    have L18 := Lib.hid (L0.out.tr T)
    have R19 := Lib.hid (R0.out.tr T)
    have S20 := Lib.hid (S)
    clear S T S0 L0 R0
    have c21 := L18.out.cell 0 rfl
    have c22 := L18.out.cell 1 rfl
    have c23 := L18.out.cell 2 rfl
    have c24 := L18.out.cell 3 rfl
    have c25 := L18.out.cell 4 rfl
    have z26 := L18.out.fz
    by_cases hk : t2.kind = 4
    case neg =>
      have XK := Lib.hid hk
      have hd : (t2.kind != 4) = true := by simpa using hk
      clear hk
      have C27 := Lib.hid (isNext_at S20.out.ps ⟨#[116, 97, 98, 108, 101]⟩)
      go_wp2_with fail
      clear c21 c22 c23 c24 c25 z26
      (with_reducible refine C27.out.mono ?_)
      rintro e w28 ⟨t28, l28, hl, rfl, hs, hf⟩
      clear C27
      obtain ⟨S, T⟩ := S20.out.same hs hf
      cases hd : decide (t28.txt = ⟨#[116, 97, 98, 108, 101]⟩) with
      | false =>
        have X29 : Hid (isNextP ⟨#[116, 97, 98, 108, 101]⟩ lk = .ok false lk) := Lib.hid (by rw [hl, isNextP, hd])
        clear hs hf hl hd
        have L30 := Lib.hid (L18.out.tr T)
        have R31 := Lib.hid (R19.out.tr T)
        have S32 := Lib.hid (S)
        clear S T S20 L18 R19
        have c33 := L30.out.cell 0 rfl
        have c34 := L30.out.cell 1 rfl
        have c35 := L30.out.cell 2 rfl
        have c36 := L30.out.cell 3 rfl
        have c37 := L30.out.cell 4 rfl
        have z38 := L30.out.fz
        have C39 := Lib.hid (proc_at S32.out.ps HBB.out)
        go_wp2_with fail
        clear c33 c34 c35 c36 c37 z38
        (with_reducible refine C39.out.mono ?_)
        rintro e w40 hP
        clear C39
        cases hx : procP lk with
        | err pe ce =>
          rw [hx] at hP
          obtain ⟨rfl, hb⟩ := hP
          have HB := Lib.hid hb
          have HX : many progStep [] l = .err pe ce := by rw [HM.out]; exact many_err (by simp only [progStep, reduceIte, Par.bind, X17.out, XK.out, X29.out, hx])
          have HR : Hid (programP l = .err pe ce) := Lib.hid (by simp only [programP, nodeA, Par.bind, X4.out, HX])
          clear hb hx HX
          go_wp2
          exact ⟨rfl, of_err HR.out HB.out⟩
        | ok bq l40 =>
          rw [hx] at hP
          obtain ⟨v40, n40, rfl, S, T⟩ := S32.out.ast (ts' := ts ++ [bq]) hP rfl
          have HM2 : Hid (many progStep [] l = many progStep (ts ++ [bq]) l40) := Lib.hid (by rw [HM.out]; exact many_more step_prog (by simp only [progStep, reduceIte, Par.bind, Par.pure, X17.out, XK.out, X29.out, hx]))
          have hq : l40.length < lk.length := by
            have h5 : progStep ts lk = .ok (some (ts ++ [bq])) l40 := by simp only [progStep, reduceIte, Par.bind, Par.pure, X17.out, XK.out, X29.out, hx]
            exact (step_prog _ _ _ _ h5).1 rfl
          clear hP hx
          have L41 := Lib.hid (L30.out.tr T)
          have R42 := Lib.hid (R31.out.tr T)
          have S43 := Lib.hid (S)
          clear S T S32 L30 R31
          have c44 := L41.out.cell 0 rfl
          have c45 := L41.out.cell 1 rfl
          have c46 := L41.out.cell 2 rfl
          have c47 := L41.out.cell 3 rfl
          have c48 := L41.out.cell 4 rfl
          have z49 := L41.out.fz
          have hk : (roots md.length ts).length ≤ 70000 := by have h6 := S43.out.ps.room; rw [List.length_append, postL_length, sizeL_append] at h6; rw [roots_length]; have := length_le_sizeL ts; omega
          have R50 := Lib.hid (R42.out.alloc (.cells #[.int .i64 (rootI (md.length + sizeL ts) bq)] 3))
          have S51 := Lib.hid (S43.out.alloc (.cells #[.int .i64 (rootI (md.length + sizeL ts) bq)] 3))
          have L52 := Lib.hid (L41.out.alloc (.cells #[.int .i64 (rootI (md.length + sizeL ts) bq)] 3))
          clear c44 c45 c46 c47 c48 z49
          have hbb : Hid (w3.heap.size + 1 ≤ (w40.alloc (.cells #[.int .i64 (rootI (md.length + sizeL ts) bq)] 3)).heap.size) := Lib.hid (by have h7 := S51.out.fr.size; have h8 := L52.out.lt; simp only [World.size_alloc] at *; omega)
          clear R42 S43 L41
          go_wp2_with (at_builtin; refine wpList_append_lies _ rfl (.tmp 20) (.tmp 23) 50 rfl (E.b + 1) 3 i0 _ 1 8 Tryz.underlying50 I0.out I1.out I2.out I3.out rfl (by decide) u4 (roots md.length ts).length ((roots md.length ts).map (Value.int .i64)) rfl R50.out.own ⟨w40.heap.size, 0, none⟩ 1 1 [.int .i64 (rootI (md.length + sizeL ts) bq)] rfl rfl (World.news_of_block (cs := #[.int .i64 (rootI (md.length + sizeL ts) bq)]) (t := 3) (fr := (0, 0)) (heap_alloc_new _ _)) (by simp [Value.oneCell']) (by decide) (by unfold maxLen; omega) (by omega) S51.out.ps.lt _ rfl ?_; intro g5 cap5 w5 hown5 hgrow5 hat5 hlt5)
          have R5 : Hid (Rw E v40 (kvs ++ n40) (w3.heap.size + 1) (.slice (some ⟨g5, 0, none⟩) ((roots md.length ts).length + 1) cap5) (roots md.length (ts ++ [bq])) w5) := Lib.hid (by rw [roots_snoc]; exact R50.out.push hbb.out S51.out.ps.fresh hown5 rfl rfl hat5 rfl)
          have S5 := Lib.hid (S51.out.grown R50.out (by have := Q7.out; omega) hgrow5)
          have L5 := Lib.hid (L52.out.push R50.out (Nat.lt_succ_self _) hgrow5)
          have hl3 := Lib.hid S5.out.ps.left
          clear hown5 hgrow5 hat5 hlt5 R50 S51 L52
          go_wp2
          go_roundw
          case rel => exact ⟨_, _, _, _, S5, R5, L5, HM2⟩
          case measure => have h1 := hleft.out; have h2 := hl3.out; show E.toks.length - nextOf E _ < E.toks.length - nextOf E wr; omega
      | true =>
        have X29 : Hid (isNextP ⟨#[116, 97, 98, 108, 101]⟩ lk = .ok true lk) := Lib.hid (by rw [hl, isNextP, hd])
        clear hs hf hl hd
        have L30 := Lib.hid (L18.out.tr T)
        have R31 := Lib.hid (R19.out.tr T)
        have S32 := Lib.hid (S)
        clear S T S20 L18 R19
        have c33 := L30.out.cell 0 rfl
        have c34 := L30.out.cell 1 rfl
        have c35 := L30.out.cell 2 rfl
        have c36 := L30.out.cell 3 rfl
        have c37 := L30.out.cell 4 rfl
        have z38 := L30.out.fz
        have C39 := Lib.hid (table_at S32.out.ps)
        go_wp2_with fail
        clear c33 c34 c35 c36 c37 z38
        (with_reducible refine C39.out.mono ?_)
        rintro e w40 hP
        clear C39
        cases hx : tableP lk with
        | err pe ce =>
          rw [hx] at hP
          obtain ⟨rfl, hb⟩ := hP
          have HB := Lib.hid hb
          have HX : many progStep [] l = .err pe ce := by rw [HM.out]; exact many_err (by simp only [progStep, reduceIte, Par.bind, X17.out, XK.out, X29.out, hx])
          have HR : Hid (programP l = .err pe ce) := Lib.hid (by simp only [programP, nodeA, Par.bind, X4.out, HX])
          clear hb hx HX
          go_wp2
          exact ⟨rfl, of_err HR.out HB.out⟩
        | ok bq l40 =>
          rw [hx] at hP
          obtain ⟨v40, n40, rfl, S, T⟩ := S32.out.ast (ts' := ts ++ [bq]) hP rfl
          have HM2 : Hid (many progStep [] l = many progStep (ts ++ [bq]) l40) := Lib.hid (by rw [HM.out]; exact many_more step_prog (by simp only [progStep, reduceIte, Par.bind, Par.pure, X17.out, XK.out, X29.out, hx]))
          have hq : l40.length < lk.length := by
            have h5 : progStep ts lk = .ok (some (ts ++ [bq])) l40 := by simp only [progStep, reduceIte, Par.bind, Par.pure, X17.out, XK.out, X29.out, hx]
            exact (step_prog _ _ _ _ h5).1 rfl
          clear hP hx
          have L41 := Lib.hid (L30.out.tr T)
          have R42 := Lib.hid (R31.out.tr T)
          have S43 := Lib.hid (S)
          clear S T S32 L30 R31
          have c44 := L41.out.cell 0 rfl
          have c45 := L41.out.cell 1 rfl
          have c46 := L41.out.cell 2 rfl
          have c47 := L41.out.cell 3 rfl
          have c48 := L41.out.cell 4 rfl
          have z49 := L41.out.fz
          have hk : (roots md.length ts).length ≤ 70000 := by have h6 := S43.out.ps.room; rw [List.length_append, postL_length, sizeL_append] at h6; rw [roots_length]; have := length_le_sizeL ts; omega
          have R50 := Lib.hid (R42.out.alloc (.cells #[.int .i64 (rootI (md.length + sizeL ts) bq)] 3))
          have S51 := Lib.hid (S43.out.alloc (.cells #[.int .i64 (rootI (md.length + sizeL ts) bq)] 3))
          have L52 := Lib.hid (L41.out.alloc (.cells #[.int .i64 (rootI (md.length + sizeL ts) bq)] 3))
          clear c44 c45 c46 c47 c48 z49
          have hbb : Hid (w3.heap.size + 1 ≤ (w40.alloc (.cells #[.int .i64 (rootI (md.length + sizeL ts) bq)] 3)).heap.size) := Lib.hid (by have h7 := S51.out.fr.size; have h8 := L52.out.lt; simp only [World.size_alloc] at *; omega)
          clear R42 S43 L41
          go_wp2_with (at_builtin; refine wpList_append_lies _ rfl (.tmp 15) (.tmp 18) 50 rfl (E.b + 1) 3 i0 _ 1 8 Tryz.underlying50 I0.out I1.out I2.out I3.out rfl (by decide) u4 (roots md.length ts).length ((roots md.length ts).map (Value.int .i64)) rfl R50.out.own ⟨w40.heap.size, 0, none⟩ 1 1 [.int .i64 (rootI (md.length + sizeL ts) bq)] rfl rfl (World.news_of_block (cs := #[.int .i64 (rootI (md.length + sizeL ts) bq)]) (t := 3) (fr := (0, 0)) (heap_alloc_new _ _)) (by simp [Value.oneCell']) (by decide) (by unfold maxLen; omega) (by omega) S51.out.ps.lt _ rfl ?_; intro g5 cap5 w5 hown5 hgrow5 hat5 hlt5)
          have R5 : Hid (Rw E v40 (kvs ++ n40) (w3.heap.size + 1) (.slice (some ⟨g5, 0, none⟩) ((roots md.length ts).length + 1) cap5) (roots md.length (ts ++ [bq])) w5) := Lib.hid (by rw [roots_snoc]; exact R50.out.push hbb.out S51.out.ps.fresh hown5 rfl rfl hat5 rfl)
          have S5 := Lib.hid (S51.out.grown R50.out (by have := Q7.out; omega) hgrow5)
          have L5 := Lib.hid (L52.out.push R50.out (Nat.lt_succ_self _) hgrow5)
          have hl3 := Lib.hid S5.out.ps.left
          clear hown5 hgrow5 hat5 hlt5 R50 S51 L52
          go_wp2
          go_roundw
          case rel => exact ⟨_, _, _, _, S5, R5, L5, HM2⟩
          case measure => have h1 := hleft.out; have h2 := hl3.out; show E.toks.length - nextOf E _ < E.toks.length - nextOf E wr; omega
    case pos =>
      have XK := Lib.hid hk
      have hd : (t2.kind != 4) = false := by simpa using hk
      clear hk
      have HX : Hid (many progStep [] l = .ok ts lk) := Lib.hid (by rw [HM.out]; exact many_done (by simp only [progStep, reduceIte, Par.bind, Par.pure, X17.out, XK.out]))
      clear HM
      have HR : Hid (programP l = .ok (.mk 1 t.at' none0 0 ts) lk) := Lib.hid (by simp only [programP, nodeA, Par.bind, Par.pure, X4.out, HX.out])
      have RM2 := Lib.hid (R19.out.mono (B' := w.heap.size) (by have := Q7.out; omega))
      have HSZ : Hid (sizeL ts + lk.length ≤ 0 + l.length) := Lib.hid (Sz.many (cr := sizeL) sz_prog [] _ _ _ HX.out)
      have C27 := Lib.hid (add_at S20.out.ps (1) ((t.at' : Int)) (0) (none0) (.slice none 0 0) (u4) (roots md.length ts) RM2.out.own RM2.out.loc (by have h1 := hroom1.out; have h2 := HSZ.out; rw [List.length_append, postL_length]; omega))
      go_wp2_with fail
      clear c21 c22 c23 c24 c25 z26
      (with_reducible refine C27.out.mono ?_)
      rintro e wf hA
      have hO := Lib.hid (S20.out.add (ts := ts) rfl hA RM2.out.ge)
      obtain ⟨z, rfl⟩ := hA.int
      clear C27
      go_wp2
      go_ret
      exact of_ok HR.out hO.out
end
end Go.Proofs.YtpemghcafbedeaaGreatDoor
end
section
namespace Go.Proofs.YtpemghcafbedeaaGreatDoor
open Go.RowKit
theorem wpListIn_append_lies {F : Fence} {n : Nat} {P : Program} (w : World) {ops : Array Oper} {rest : List Oper} {o : Oper} {a : Act} {Q : Exit → Act → World → Prop}
    (hg : o.guard = none) (s x : Operand) (t : TypeId) (hop : o.op = Op.call { callee := Callee.builtin Builtin.append, args := #[s, x], argTypes := #[t, t] })
    (base : Nat) (e : TypeId) (i : TypeInfo) (z : Value) (size bytes : Nat) (h1 : P.underlying t = some (.slice e)) (h2 : P.info? e = some i) (h3 : i.zero = some z) (h4 : i.size = size) (h5 : i.bytes = bytes) (h6 : z.cells.size = size) (h7 : 0 < size)
    (v : Value) (k : Nat) (xs : List Value) (hs : a.eval s = v) (hown : w.ownsRow base e size v k xs) (ad : Addr) (m c : Nat) (news : List Value) (hx : a.eval x = .slice (some ad) m c) (hn : news.length = m * size)
    (hc : ∀ j u, news[j]? = some u → w.cell? (ad.add j) = some u) (h1c : ∀ u ∈ news, u.oneCell' = true) (hm : 0 < m) (b1 : k + m ≤ maxLen) (b2 : (k + m) * bytes ≤ 140737488355328) (b3 : base ≤ w.heap.size) (H : Nat) (hH : w.heap.size = H)
    (hK : ∀ g cap w', w'.ownsRow base e size (.slice (some ⟨g, 0, none⟩) (k + m) cap) (k + m) (xs ++ news) → w.grownBy w' v.ownBlock → (v.ownBlock = some g ∨ g = H) → g < w'.heap.size → wpListIn F n P ops Q rest (a.put o.dst (.slice (some ⟨g, 0, none⟩) (k + m) cap)) w') :
    wpListIn F n P ops Q (o :: rest) a w := by
  refine wpListIn_plain hg fun K hK' => ?_
  obtain ⟨g, cap, w', hrun, r1, r2, r3, r4⟩ := run_append_lies (P := P) w t o.type base e i z size bytes h1 h2 h3 h4 h5 h6 h7 v k xs hown ad m c news hn hc h1c hm b1 b2 b3 H hH
  unfold Oper.wpIn
  refine ⟨?_, ?_⟩
  · simp [Oper.about, hop, resolve, Target.leads, Sem.run_pure]
  · rw [Oper.semAt_plain F _ _ (by rw [hop]; intro c hc'; cases hc')]
    simp [execOp, hop, resolve, invoke, builtin, hs, hx, hrun, Result.andThen]
    exact hK' _ _ (hK g cap w' r1 r2 r3 r4)
def rowD (kvs : List Value) : List (Nat × Nd) → List Value
  | [] => []
  | x :: r => nodeC x.2 (kvs.getD x.1 default) ++ rowD kvs r
theorem rowD_append (kvs : List Value) (x y : List (Nat × Nd)) : rowD kvs (x ++ y) = rowD kvs x ++ rowD kvs y := by
  induction x with
  | nil => rfl
  | cons a r ih => simp only [List.cons_append, rowD, ih, List.append_assoc]
theorem rowD_get (kvs : List Value) (x : List (Nat × Nd)) (j : Nat) (y : Nat × Nd) (hj : x[j]? = some y) (i : Nat) (hi : i < 5) : (rowD kvs x)[j * 5 + i]? = (nodeC y.2 (kvs.getD y.1 default))[i]? := by
  induction x generalizing j with
  | nil => simp at hj
  | cons m r ih =>
    cases j with
    | zero =>
      simp only [List.getElem?_cons_zero, Option.some.injEq] at hj
      subst hj
      simp only [rowD, Nat.zero_mul, Nat.zero_add]
      rw [List.getElem?_append_left (by simp [nodeC]; omega)]
    | succ j =>
      simp only [rowD]
      rw [List.getElem?_append_right (by simp [nodeC]; omega)]
      rw [← ih j (by simpa using hj)]
      congr 1
      simp [nodeC]; omega
structure Made (B : Nat) (w0 : World) (v : Value) (kvs : List Value) (md : List Nd) : Prop where
  base : B ≤ w0.heap.size
  own : w0.ownsRow B 53 5 v md.length (cellsM md kvs)
  klen : kvs.length = md.length
  kids : ∀ j, j < md.length → own1 B w0 (kvs.getD j default) (md.getD j default).kids
  apart : ∀ x ∈ kvs, ∀ k, x.ownBlock = some k → v.ownBlock ≠ some k
  pair : kvs.Pairwise fun x y => ∀ k, x.ownBlock = some k → y.ownBlock ≠ some k
  few : md.length ≤ 70000
structure F1 (n0 : Nat) (w0 : World) (kvs : List Value) (N bp bq : Nat) (F : Nat → Int) (D : List (Nat × Nd)) (vn pv : Value) (ts : List Int) (rs : List Nat) (w : World) : Prop where
  below : Below n0 w0 w
  size : n0 ≤ w.heap.size
  bp0 : n0 ≤ bp
  bq0 : n0 ≤ bq
  places : ∃ cs : Array Value, w.heap[bp]? = some (.cells cs 3 (0, 0)) ∧ cs.size = N ∧ ∀ j, j < N → cs[j]? = some (.int .i64 (F j))
  nodes : w.ownsRow n0 53 5 vn D.length (rowD kvs D)
  box : Boxed w bq 50 pv
  pile : w.ownsRow n0 3 1 pv ts.length (ts.map (Value.int .i64))
  sep : pv.ownBlock ≠ some bp
  marks : ∀ r ∈ rs, n0 ≤ r ∧ w.heap[r]? = some (.deferred (some []))
  dist : rs.Nodup
section
variable {n0 : Nat} {w0 : World} {kvs : List Value} {N bp bq : Nat} {F : Nat → Int} {D : List (Nat × Nd)} {vn pv : Value} {ts : List Int} {rs : List Nat} {w w' : World}
theorem row_ne {base e size n g : Nat} {xs : List Value} {v : Value} {o : Obj} (h : w.ownsRow base e size v n xs) (hg : w.heap[g]? = some o) (ho : ∀ cs fr, o ≠ .cells cs e fr) : v.ownBlock ≠ some g := fun e1 => by
  obtain ⟨c, fz, h1⟩ := Lib.ownsRow_kind h g e1
  rw [h1] at hg
  exact ho c fz (Option.some.inj hg).symm
theorem F1.vn_bp (h : F1 n0 w0 kvs N bp bq F D vn pv ts rs w) : vn.ownBlock ≠ some bp := by
  obtain ⟨cs, h1, _, _⟩ := h.places
  exact row_ne h.nodes h1 (fun _ _ e => by simp at e)
theorem F1.vn_bq (h : F1 n0 w0 kvs N bp bq F D vn pv ts rs w) : vn.ownBlock ≠ some bq := row_ne h.nodes h.box (fun _ _ e => by simp at e)
theorem F1.pv_bq (h : F1 n0 w0 kvs N bp bq F D vn pv ts rs w) : pv.ownBlock ≠ some bq := row_ne h.pile h.box (fun _ _ e => by simp at e)
theorem F1.bp_bq (h : F1 n0 w0 kvs N bp bq F D vn pv ts rs w) : bp ≠ bq := fun e => by
  obtain ⟨cs, h1, _, _⟩ := h.places
  have h2 : w.heap[bq]? = _ := h.box
  rw [e, h2] at h1
  simp at h1
theorem F1.mark_ne {cs : Array Value} {T g : Nat} {fr : Nat × Nat} (h : F1 n0 w0 kvs N bp bq F D vn pv ts rs w) (hg : w.heap[g]? = some (.cells cs T fr)) : ∀ r ∈ rs, r ≠ g := fun r hr e => by
  have := (h.marks r hr).2
  rw [e, hg] at this
  simp at this
theorem F1.vn_pv (h : F1 n0 w0 kvs N bp bq F D vn pv ts rs w) : ∀ g, pv.ownBlock = some g → vn.ownBlock ≠ some g := fun g hg => by
  obtain ⟨c, fz, h1⟩ := Lib.ownsRow_kind h.pile g hg
  exact row_ne h.nodes h1 (fun _ _ e => by simp at e)
theorem F1.grown {row : Option Nat} (h : F1 n0 w0 kvs N bp bq F D vn pv ts rs w) (hg : w.grownBy w' row) (h0 : ∀ q, row = some q → n0 ≤ q) (h1 : row ≠ some bp) (h2 : row ≠ some bq) (h3 : ∀ q, row = some q → vn.ownBlock ≠ some q) (h4 : ∀ q, row = some q → pv.ownBlock ≠ some q) (h5 : ∀ r ∈ rs, row ≠ some r) : F1 n0 w0 kvs N bp bq F D vn pv ts rs w' where
  below := h.below.grown hg h.size h0
  size := Nat.le_trans h.size hg.size
  bp0 := h.bp0
  bq0 := h.bq0
  places := by
    obtain ⟨cs, k1, k2⟩ := h.places
    exact ⟨cs, by rw [hg.block bp (Array.getElem?_eq_some_iff.1 k1).1 (fun e => h1 e.symm)]; exact k1, k2⟩
  nodes := h.nodes.kept hg (by
    cases hv : vn.ownBlock with
    | none => exact Or.inl rfl
    | some k => exact Or.inr (fun e => h3 k e.symm hv))
  box := h.box.kept hg (fun e => h2 e.symm)
  pile := h.pile.kept hg (by
    cases hv : pv.ownBlock with
    | none => exact Or.inl rfl
    | some k => exact Or.inr (fun e => h4 k e.symm hv))
  sep := h.sep
  marks := fun r hr => ⟨(h.marks r hr).1, by rw [hg.block r (Array.getElem?_eq_some_iff.1 (h.marks r hr).2).1 (fun e => h5 r hr e.symm)]; exact (h.marks r hr).2⟩
  dist := h.dist
theorem F1.alloc (h : F1 n0 w0 kvs N bp bq F D vn pv ts rs w) (o : Obj) : F1 n0 w0 kvs N bp bq F D vn pv ts rs (w.alloc o) :=
  h.grown (World.grownBy_alloc w o none) (fun _ e => by cases e) (by simp) (by simp) (fun _ e => by cases e) (fun _ e => by cases e) (fun _ _ => by simp)
theorem F1.place (h : F1 n0 w0 kvs N bp bq F D vn pv ts rs w) (j : Nat) (hj : j < N) (z : Int) : F1 n0 w0 kvs N bp bq (fun k => if k = j then z else F k) D vn pv ts rs (w.setCell ⟨bp, j, none⟩ (.int .i64 z)) := by
  obtain ⟨cs, k1, k2, k3⟩ := h.places
  have hg := grownBy_set w ⟨bp, j, none⟩ (.int .i64 z)
  exact {
    below := h.below.grown hg h.size (fun q e => by cases e; exact h.bp0)
    size := Nat.le_trans h.size hg.size
    bp0 := h.bp0
    bq0 := h.bq0
    places := ⟨_, heap_set _ _ _ _ _ _ k1, by simpa using k2, fun k hk => by
      by_cases e : k = j
      · subst e; simp [k2, hj]
      · rw [if_neg e, Array.getElem?_setIfInBounds_ne (fun e1 => e e1.symm)]; exact k3 k hk⟩
    nodes := h.nodes.kept hg (Or.inr h.vn_bp)
    box := h.box.kept hg (fun e => h.bp_bq (Option.some.inj e).symm)
    pile := h.pile.kept hg (Or.inr h.sep)
    sep := h.sep
    marks := fun r hr => ⟨(h.marks r hr).1, by rw [hg.block r (Array.getElem?_eq_some_iff.1 (h.marks r hr).2).1 (fun e => h.mark_ne k1 r hr (Option.some.inj e))]; exact (h.marks r hr).2⟩
    dist := h.dist }
theorem F1.placeAt (h : F1 n0 w0 kvs N bp bq F D vn pv ts rs w) (j : Nat) (hj : j < N) : w.cell? ⟨bp, j, none⟩ = some (.int .i64 (F j)) ∧ w.frozen? ⟨bp, j, none⟩ = false := by
  obtain ⟨cs, k1, k2, k3⟩ := h.places
  exact ⟨by rw [cell_of_row _ _ _ _ _ _ k1]; exact k3 j hj, frozen_of_row _ _ _ _ _ k1⟩
theorem F1.top {t : Int} (h : F1 n0 w0 kvs N bp bq F D vn pv (ts ++ [t]) rs w) : ∃ g cap, pv = .slice (some ⟨g, 0, none⟩) (ts.length + 1) cap ∧ w.cell? ⟨g, ts.length, none⟩ = some (.int .i64 t) ∧ F1 n0 w0 kvs N bp bq F D vn (.slice (some ⟨g, 0, none⟩) ts.length cap) ts rs (w.setCell ⟨bq, 0, none⟩ (.slice (some ⟨g, 0, none⟩) ts.length cap)) := by
  have hp := h.pile
  rw [List.length_append, List.length_singleton] at hp
  obtain ⟨g, cap, rfl⟩ := ownsRow_succ hp
  refine ⟨g, cap, rfl, ?_, ?_⟩
  · rw [hp.cellAt ts.length (by omega)]
    simp
  · have hp2 : w.ownsRow n0 3 1 (.slice (some ⟨g, 0, none⟩) ts.length cap) ts.length (ts.map (Value.int .i64)) := ownsRow_pop (last := [.int .i64 t]) (by simp) (by rw [List.map_append] at hp; exact hp)
    have hg := grownBy_set w ⟨bq, 0, none⟩ (.slice (some ⟨g, 0, none⟩) ts.length cap)
    have hne : g ≠ bq := fun e => h.pv_bq (by rw [← e]; rfl)
    exact {
      below := h.below.grown hg h.size (fun q e => by cases e; exact h.bq0)
      size := Nat.le_trans h.size hg.size
      bp0 := h.bp0
      bq0 := h.bq0
      places := by
        obtain ⟨cs, k1, k2⟩ := h.places
        exact ⟨cs, by rw [hg.block bp (Array.getElem?_eq_some_iff.1 k1).1 (fun e => h.bp_bq (Option.some.inj e))]; exact k1, k2⟩
      nodes := h.nodes.kept hg (Or.inr h.vn_bq)
      box := h.box.set _
      pile := hp2.kept hg (Or.inr (fun e => hne (by simpa [Value.ownBlock] using e)))
      sep := h.sep
      marks := fun r hr => ⟨(h.marks r hr).1, by rw [hg.block r (Array.getElem?_eq_some_iff.1 (h.marks r hr).2).1 (fun e => h.mark_ne (show w.heap[bq]? = _ from h.box) r hr (Option.some.inj e))]; exact (h.marks r hr).2⟩
      dist := h.dist }
theorem F1.node {vn' : Value} {x : Nat × Nd} {wa : World} (h : F1 n0 w0 kvs N bp bq F D vn pv ts rs wa) (hg : wa.grownBy w vn.ownBlock) (hown : w.ownsRow n0 53 5 vn' (D.length + 1) (rowD kvs D ++ nodeC x.2 (kvs.getD x.1 default))) : F1 n0 w0 kvs N bp bq F (D ++ [x]) vn' pv ts rs w where
  below := h.below.grown hg h.size (fun q e => (h.nodes.lt q e).1)
  size := Nat.le_trans h.size hg.size
  bp0 := h.bp0
  bq0 := h.bq0
  places := by
    obtain ⟨cs, k1, k2⟩ := h.places
    exact ⟨cs, by rw [hg.block bp (Array.getElem?_eq_some_iff.1 k1).1 (fun e => h.vn_bp e.symm)]; exact k1, k2⟩
  nodes := by
    rw [List.length_append, rowD_append]
    simpa [rowD] using hown
  box := h.box.kept hg (fun e => h.vn_bq e.symm)
  pile := h.pile.kept hg (by
    cases hv : pv.ownBlock with
    | none => exact Or.inl rfl
    | some k => exact Or.inr (fun e => h.vn_pv k hv e.symm))
  sep := h.sep
  marks := fun r hr => ⟨(h.marks r hr).1, by
    rw [hg.block r (Array.getElem?_eq_some_iff.1 (h.marks r hr).2).1 (fun e => ?_)]
    · exact (h.marks r hr).2
    · obtain ⟨c, fz, h1⟩ := Lib.ownsRow_kind h.nodes r e.symm
      exact h.mark_ne h1 r hr rfl⟩
  dist := h.dist
theorem F1.push {pv' : Value} {t : Int} {w1 : World} {tmp : Obj} (h : F1 n0 w0 kvs N bp bq F D vn pv ts rs w) (hg : (w.alloc tmp).grownBy w1 pv.ownBlock) (hown : w1.ownsRow n0 3 1 pv' (ts.length + 1) (ts.map (Value.int .i64) ++ [.int .i64 t])) (hat : ∀ g, pv'.ownBlock = some g → pv.ownBlock = some g ∨ w.heap.size ≤ g) :
    F1 n0 w0 kvs N bp bq F D vn pv' (ts ++ [t]) rs (w1.setCell ⟨bq, 0, none⟩ pv') := by
  have hb1 : Boxed w1 bq 50 pv := (h.box.alloc tmp).kept hg (fun e => h.pv_bq e.symm)
  have hg2 := grownBy_set w1 ⟨bq, 0, none⟩ pv'
  have hgg : ∀ k, k < w.heap.size → pv.ownBlock ≠ some k → k ≠ bq → (w1.setCell ⟨bq, 0, none⟩ pv').heap[k]? = w.heap[k]? := fun k h1 h2 h3 => by
    rw [hg2.block k (by have := hg.size; simp at this; omega) (fun e => h3 (Option.some.inj e)), hg.block k (by simp; omega) (fun e => h2 e.symm)]
    exact Below.heap_alloc w tmp k h1
  have hsz : w.heap.size ≤ (w1.setCell ⟨bq, 0, none⟩ pv').heap.size := by have h1 := hg.size; have h2 := hg2.size; simp only [World.size_alloc] at h1; omega
  exact {
    below := (((h.below.alloc h.size tmp).grown hg (by have := h.size; simp; omega) (fun q e => (h.pile.lt q e).1))).setCell (p := ⟨bq, 0, none⟩) h.bq0 _
    size := Nat.le_trans h.size hsz
    bp0 := h.bp0
    bq0 := h.bq0
    places := by
      obtain ⟨cs, k1, k2⟩ := h.places
      exact ⟨cs, by rw [hgg bp (Array.getElem?_eq_some_iff.1 k1).1 h.sep h.bp_bq]; exact k1, k2⟩
    nodes := by
      refine ((h.nodes.alloc tmp).kept hg ?_).kept hg2 (Or.inr h.vn_bq)
      cases hv : pv.ownBlock with
      | none =>
        cases hvn : vn.ownBlock with
        | none => exact Or.inl rfl
        | some k => exact Or.inr (by simp)
      | some k => exact Or.inr (fun e => h.vn_pv k hv e)
    box := hb1.set pv'
    pile := by
      rw [List.length_append, List.map_append]
      exact hown.kept hg2 (Or.inr (row_ne hown hb1 (fun _ _ e => by simp at e)))
    sep := fun e => by
      rcases hat bp e with h1 | h1
      · exact h.sep h1
      · obtain ⟨cs, k1, _⟩ := h.places
        have := (Array.getElem?_eq_some_iff.1 k1).1
        omega
    marks := fun r hr => ⟨(h.marks r hr).1, by
      rw [hgg r (Array.getElem?_eq_some_iff.1 (h.marks r hr).2).1 (fun e => ?_) (fun e => h.mark_ne (show w.heap[bq]? = _ from h.box) r hr e)]
      · exact (h.marks r hr).2
      · obtain ⟨c, fz, h1⟩ := Lib.ownsRow_kind h.pile r e
        exact h.mark_ne h1 r hr rfl⟩
    dist := h.dist }
theorem F1.own_from {B qx : Nat} (hm : ∀ r ∈ rs, r < B) (hB : n0 ≤ B) (base : List Int) : OwnFrom B (fun (pre : List (Int × Int)) W => ∃ pv, F1 n0 w0 kvs N bp bq F D vn pv (base ++ pre.map (·.2)) rs W ∧ pv.ownBlock ≠ some qx ∧ qx < W.heap.size) := by
  rintro pre X Y row ⟨pv, h, hx1, hx2⟩ hg hrow
  have hne : ∀ {g : Nat} {cs : Array Value} {T : Nat} {fr : Nat × Nat}, X.heap[g]? = some (.cells cs T fr) → row ≠ some g := fun {g cs T fr} h1 e => by
    obtain ⟨_, o, ho, hc⟩ := hrow g e
    rw [h1] at ho
    cases ho
    simp [Obj.isCells] at hc
  obtain ⟨cs, k1, _⟩ := h.places
  refine ⟨pv, h.grown hg (fun q e => Nat.le_trans hB (hrow q e).1) (hne k1) (hne (show X.heap[bq]? = _ from h.box)) (fun q e e1 => ?_) (fun q e e1 => ?_) (fun r hr e => ?_), hx1, Nat.lt_of_lt_of_le hx2 hg.size⟩
  · obtain ⟨c, fz, h1⟩ := Lib.ownsRow_kind h.nodes q e1
    exact hne h1 e
  · obtain ⟨c, fz, h1⟩ := Lib.ownsRow_kind h.pile q e1
    exact hne h1 e
  · have h1 := (hrow r e).1
    have h2 := hm r hr
    omega
theorem F1.mark (h : F1 n0 w0 kvs N bp bq F D vn pv ts rs w) {r : Nat} (h0 : n0 ≤ r) (hr : w.heap[r]? = some (.deferred (some []))) (hn : r ∉ rs) : F1 n0 w0 kvs N bp bq F D vn pv ts (r :: rs) w :=
  { h with
    marks := fun x hx => by
      rcases List.mem_cons.1 hx with rfl | hx
      · exact ⟨h0, hr⟩
      · exact h.marks x hx
    dist := List.nodup_cons.2 ⟨hn, h.dist⟩ }
theorem back_all (zs : List Int) : (upto (backF zs) zs.length).map (·.2) = zs.reverse := by
  apply List.ext_getElem
  · simp [upto]
  · intro i h1 h2
    have h3 : i < zs.length := by simpa using h2
    simp [upto, backF, show zs.length - 1 - i < zs.length by omega]
theorem F1.pushes {pv' : Value} {w1 : World} {tmp : Obj} {qx : Nat} (h : F1 n0 w0 kvs N bp bq F D vn pv ts rs w) (hg : (w.alloc tmp).grownBy w1 pv.ownBlock) (hq1 : pv.ownBlock ≠ some qx) (hq2 : qx ≠ bq) : KeepsAt n0 qx w (w1.setCell ⟨bq, 0, none⟩ pv') := by
  have hg2 := grownBy_set w1 ⟨bq, 0, none⟩ pv'
  refine ⟨by have h1 := hg.size; have h2 := hg2.size; simp only [World.size_alloc] at h1; omega, fun g hgq hl => ?_⟩
  have e1 : g ≠ bq := by
    have := h.bq0
    rcases hgq with h1 | h1
    · omega
    · rw [h1]; exact hq2
  have e2 : pv.ownBlock ≠ some g := fun e => by
    rcases hgq with h1 | h1
    · have := (h.pile.lt g e).1; omega
    · rw [h1] at e; exact hq1 e
  rw [hg2.block g (by have := hg.size; simp at this; omega) (fun e => e1 (Option.some.inj e)), hg.block g (by simp; omega) (fun e => e2 e.symm)]
  exact Below.heap_alloc w tmp g hl
theorem ints_of_own1 {B n₀ : Nat} {W : World} {kv : Value} {zs : List Int} (h : own1 B W kv zs) (hlt : ∀ g, kv.ownBlock = some g → g < n₀) : IntsAt n₀ W kv zs := by
  obtain ⟨h1, h2⟩ := h
  rcases h2 with ⟨h2, h3⟩ | ⟨g, cap, cur, h2, h3⟩
  · exact Or.inl ⟨h2, List.length_eq_zero_iff.1 h3⟩
  · subst h2
    refine Or.inr ⟨g, 0, cap, rfl, hlt g rfl, fun j hj => ?_⟩
    have h4 := World.ownsRow.cellAt (⟨h1, .inr ⟨g, cap, cur, rfl, h3⟩⟩ : W.ownsRow B 3 1 (.slice (some ⟨g, 0, none⟩) zs.length cap) zs.length (zs.map (Value.int .i64))) j (by omega)
    rw [Nat.zero_add, h4]
    simp [hj]
end
end Go.Proofs.YtpemghcafbedeaaGreatDoor
end
section
namespace Go.Proofs.YtpemghcafbedeaaGreatDoor
open Go.RowKit
mutual
theorem raw_kids (b : Nat) : ∀ (a : Ast) (x : Nat × Nd), x ∈ raw b a → ∀ z ∈ x.2.kids, ∃ y ∈ raw b a, z = (y.1 : Int)
  | .mk k a t n ks, x, hx, z, hz => by
    simp only [raw, List.mem_cons] at hx ⊢
    rcases hx with rfl | hx
    · obtain ⟨y, hy, e⟩ := roots_raw b ks z hz
      exact ⟨y, Or.inr hy, e⟩
    · obtain ⟨y, hy, e⟩ := rawL_kids b ks x hx z hz
      exact ⟨y, Or.inr hy, e⟩
theorem rawL_kids (b : Nat) : ∀ (l : List Ast) (x : Nat × Nd), x ∈ rawL b l → ∀ z ∈ x.2.kids, ∃ y ∈ rawL b l, z = (y.1 : Int)
  | [], x, hx, _, _ => by simp [rawL] at hx
  | y :: r, x, hx, z, hz => by
    simp only [rawL, List.mem_append] at hx ⊢
    rcases hx with hx | hx
    · obtain ⟨u, hu, e⟩ := raw_kids b y x hx z hz
      exact ⟨u, Or.inl hu, e⟩
    · obtain ⟨u, hu, e⟩ := rawL_kids (b + y.size) r x hx z hz
      exact ⟨u, Or.inr hu, e⟩
theorem roots_raw (b : Nat) : ∀ (l : List Ast) (z : Int), z ∈ roots b l → ∃ y ∈ rawL b l, z = (y.1 : Int)
  | [], z, hz => by simp [roots] at hz
  | y :: r, z, hz => by
    simp only [roots, List.mem_cons] at hz
    simp only [rawL, List.mem_append]
    rcases hz with rfl | hz
    · obtain ⟨nd, rest, e⟩ := raw_head b y
      have := size_pos y
      exact ⟨(b + y.size - 1, nd), Or.inl (by rw [e]; simp), by simp only; omega⟩
    · obtain ⟨u, hu, e⟩ := roots_raw (b + y.size) r z hz
      exact ⟨u, Or.inr hu, e⟩
end
mutual
theorem raw_few (b : Nat) : ∀ (a : Ast) (x : Nat × Nd), x ∈ raw b a → x.2.kids.length ≤ a.size
  | .mk k a t n ks, x, hx => by
    simp only [raw, List.mem_cons] at hx
    simp only [Ast.size]
    rcases hx with rfl | hx
    · simp only [roots_length]
      have := length_le_sizeL ks
      omega
    · have := rawL_few b ks x hx
      omega
theorem rawL_few (b : Nat) : ∀ (l : List Ast) (x : Nat × Nd), x ∈ rawL b l → x.2.kids.length ≤ sizeL l
  | [], x, hx => by simp [rawL] at hx
  | y :: r, x, hx => by
    simp only [rawL, List.mem_append] at hx
    simp only [sizeL]
    rcases hx with hx | hx
    · have := raw_few b y x hx
      omega
    · have := rawL_few (b + y.size) r x hx
      omega
end
def startK (D : List (Nat × Nd)) (i : Nat) : List Int := (D.getD i default).2.kids
def gF (F : Nat → Int) (z : Int) : Int := F z.toNat
def kidsK (F : Nat → Int) (D : List (Nat × Nd)) (i j x : Nat) : List Int :=
  if x < i then (startK D x).map (gF F) else if x = i then ((startK D x).take j).map (gF F) ++ (startK D x).drop j else startK D x
theorem kidsK_zero (F : Nat → Int) (D : List (Nat × Nd)) (x : Nat) : kidsK F D 0 0 x = startK D x := by
  simp only [kidsK, Nat.not_lt_zero, if_false]
  split <;> simp
theorem kidsK_done (F : Nat → Int) (D : List (Nat × Nd)) (i x : Nat) : kidsK F D i (startK D i).length x = kidsK F D (i + 1) 0 x := by
  simp only [kidsK]
  by_cases h1 : x < i
  · rw [if_pos h1, if_pos (by omega)]
  · rw [if_neg h1]
    by_cases h2 : x = i
    · subst h2
      rw [if_pos rfl, if_pos (by omega)]
      simp
    · rw [if_neg h2, if_neg (by omega)]
      split <;> simp
theorem kidsK_here (F : Nat → Int) (D : List (Nat × Nd)) (i j : Nat) : kidsK F D i j i = ((startK D i).take j).map (gF F) ++ (startK D i).drop j := by simp [kidsK]
theorem kidsK_length (F : Nat → Int) (D : List (Nat × Nd)) (i j x : Nat) : (kidsK F D i j x).length = (startK D x).length := by
  simp only [kidsK]
  split
  · simp
  · split <;> simp <;> omega
theorem kidsK_at (F : Nat → Int) (D : List (Nat × Nd)) (i j : Nat) (hj : j < (startK D i).length) : (kidsK F D i j i)[j]? = (startK D i)[j]? := by
  rw [kidsK_here, List.getElem?_append_right (by simp; omega)]
  simp [show min j (startK D i).length = j by omega]
theorem kidsK_set (F : Nat → Int) (D : List (Nat × Nd)) (i j : Nat) (z : Int) (hz : (startK D i)[j]? = some z) : kidsK F D i (j + 1) i = (kidsK F D i j i).set j (gF F z) := by
  have hj : j < (startK D i).length := (List.getElem?_eq_some_iff.1 hz).1
  rw [kidsK_here, kidsK_here]
  apply List.ext_getElem?
  intro x
  by_cases h1 : x < j
  · rw [List.getElem?_append_left (by simp; omega), List.getElem?_set_ne (by omega), List.getElem?_append_left (by simp; omega)]
    simp [h1, show x < j + 1 by omega]
  · by_cases h2 : x = j
    · subst h2
      rw [List.getElem?_append_left (by simp; omega), List.getElem?_set_self (by simp; omega)]
      simp [hz]
    · rw [List.getElem?_append_right (by simp; omega), List.getElem?_set_ne (by omega), List.getElem?_append_right (by simp; omega)]
      simp only [List.length_map, List.length_take, List.getElem?_drop]
      congr 1
      omega
theorem kidsK_other (F : Nat → Int) (D : List (Nat × Nd)) (i j x : Nat) (hx : x ≠ i) : kidsK F D i (j + 1) x = kidsK F D i j x := by
  simp only [kidsK, if_neg hx]
structure F2 (B n0 : Nat) (w0 : World) (kvs : List Value) (N bp : Nat) (F : Nat → Int) (D : List (Nat × Nd)) (vn : Value) (K : Nat → List Int) (rs : List Nat) (w : World) : Prop where
  below : Below B w0 w
  size : n0 ≤ w.heap.size
  bp0 : n0 ≤ bp
  places : ∃ cs : Array Value, w.heap[bp]? = some (.cells cs 3 (0, 0)) ∧ cs.size = N ∧ ∀ j, j < N → cs[j]? = some (.int .i64 (F j))
  nodes : w.ownsRow n0 53 5 vn D.length (rowD kvs D)
  kids : ∀ i, i < D.length → own1 B w (kvs.getD (D.getD i default).1 default) (K i)
  near : ∀ i, i < D.length → ∀ g, (kvs.getD (D.getD i default).1 default).ownBlock = some g → g < n0
  apart : ∀ i j, i < D.length → j < D.length → i ≠ j → ∀ g, (kvs.getD (D.getD i default).1 default).ownBlock = some g → (kvs.getD (D.getD j default).1 default).ownBlock ≠ some g
  marks : ∀ r ∈ rs, n0 ≤ r ∧ w.heap[r]? = some (.deferred (some []))
  dist : rs.Nodup
section
variable {B n0 : Nat} {w0 : World} {kvs : List Value} {N bp : Nat} {F : Nat → Int} {D : List (Nat × Nd)} {vn : Value} {K K' : Nat → List Int} {rs : List Nat} {w w' : World}
theorem F2.congr (h : F2 B n0 w0 kvs N bp F D vn K rs w) (hk : ∀ i, i < D.length → K i = K' i) : F2 B n0 w0 kvs N bp F D vn K' rs w :=
  { h with kids := fun i hi => by rw [← hk i hi]; exact h.kids i hi }
theorem F2.grown (h : F2 B n0 w0 kvs N bp F D vn K rs w) (hB : B ≤ n0) (hg : w.grownBy w' none) : F2 B n0 w0 kvs N bp F D vn K rs w' where
  below := h.below.grown hg (Nat.le_trans hB h.size) (fun _ e => by cases e)
  size := Nat.le_trans h.size hg.size
  bp0 := h.bp0
  places := by
    obtain ⟨cs, k1, k2⟩ := h.places
    exact ⟨cs, by rw [hg.block bp (Array.getElem?_eq_some_iff.1 k1).1 (by simp)]; exact k1, k2⟩
  nodes := h.nodes.kept hg (by cases vn.ownBlock <;> simp)
  kids := fun i hi => (h.kids i hi).grown hg (by cases (kvs.getD (D.getD i default).1 default).ownBlock <;> simp)
  near := h.near
  apart := h.apart
  marks := fun r hr => ⟨(h.marks r hr).1, by rw [hg.block r (Array.getElem?_eq_some_iff.1 (h.marks r hr).2).1 (by simp)]; exact (h.marks r hr).2⟩
  dist := h.dist
theorem F2.put (h : F2 B n0 w0 kvs N bp F D vn K rs w) (i : Nat) (hi : i < D.length) {g c : Nat} (hkv : kvs.getD (D.getD i default).1 default = .slice (some ⟨g, 0, none⟩) (K i).length c) (j : Nat) (z : Int) (hj : j < (K i).length) (hB : B ≤ n0)
    (h1 : K' i = (K i).set j z) (h2 : ∀ x, x < D.length → x ≠ i → K' x = K x) : F2 B n0 w0 kvs N bp F D vn K' rs (w.setCell ⟨g, j, none⟩ (.int .i64 z)) := by
  have hg := grownBy_set w ⟨g, j, none⟩ (.int .i64 z)
  have hgb : (kvs.getD (D.getD i default).1 default).ownBlock = some g := by rw [hkv]; rfl
  have hgn := h.near i hi g hgb
  have hk := h.kids i hi
  have hlo := (hk.lt g hgb).1
  exact {
    below := h.below.grown hg (Nat.le_trans hB h.size) (fun q e => by cases e; exact hlo)
    size := Nat.le_trans h.size hg.size
    bp0 := h.bp0
    places := by
      obtain ⟨cs, k1, k2⟩ := h.places
      have := h.bp0
      exact ⟨cs, by rw [hg.block bp (Array.getElem?_eq_some_iff.1 k1).1 (fun e => by have e := Option.some.inj e; simp only at e; omega)]; exact k1, k2⟩
    nodes := h.nodes.kept hg (Or.inr (fun e => by have := (h.nodes.lt _ e).1; simp only at this; omega))
    kids := fun x hx => by
      by_cases e : x = i
      · subst e
        rw [h1]
        rw [hkv] at hk ⊢
        have h3 := World.ownsRow.stored hk j (.int .i64 z)
        unfold own1
        rw [List.length_set, List.map_set]
        exact h3.1
      · rw [h2 x hx e]
        exact (h.kids x hx).grown hg (Or.inr (h.apart i x hi hx (fun e1 => e e1.symm) g hgb))
    near := h.near
    apart := h.apart
    marks := fun r hr => ⟨(h.marks r hr).1, by
      have h3 := (h.marks r hr).1
      rw [hg.block r (Array.getElem?_eq_some_iff.1 (h.marks r hr).2).1 (fun e => by have e := Option.some.inj e; simp only at e; omega)]; exact (h.marks r hr).2⟩
    dist := h.dist }
theorem F2.placeAt (h : F2 B n0 w0 kvs N bp F D vn K rs w) (j : Nat) (hj : j < N) : w.cell? ⟨bp, j, none⟩ = some (.int .i64 (F j)) := by
  obtain ⟨cs, k1, k2, k3⟩ := h.places
  rw [cell_of_row _ _ _ _ _ _ k1]; exact k3 j hj
theorem F1.go {md : List Nd} {bq : Nat} {pv : Value} {ts : List Int} {vm : Value} (h : F1 n0 w0 kvs N bp bq F D vn pv ts rs w) (hM : Made B w0 vm kvs md) (hn : n0 = w0.heap.size) (hD : ∀ (i : Nat) (x : Nat × Nd), D[i]? = some x → md[x.1]? = some x.2) (hnd : (D.map (·.1)).Nodup) : F2 B n0 w0 kvs N bp F D vn (startK D) rs w := by
  have hget : ∀ i, i < D.length → D[i]? = some (D.getD i default) := fun i hi => by simp [List.getD, hi]
  have hk0 : ∀ i, i < D.length → own1 B w0 (kvs.getD (D.getD i default).1 default) (startK D i) := fun i hi => by
    have h1 := hD i _ (hget i hi)
    have h2 := hM.kids (D.getD i default).1 (List.getElem?_eq_some_iff.1 h1).1
    rwa [show md.getD (D.getD i default).1 default = (D.getD i default).2 by simp only [List.getD] at h1 ⊢; rw [h1]; rfl] at h2
  subst hn
  exact {
    below := h.below.mono hM.base
    size := h.size
    bp0 := h.bp0
    places := h.places
    nodes := h.nodes
    kids := fun i hi => by
      obtain ⟨h1, h2⟩ := hk0 i hi
      refine ⟨h1, ?_⟩
      rcases h2 with h2 | ⟨g, cap, cur, e, hb, hh, hr⟩
      · exact Or.inl h2
      · exact Or.inr ⟨g, cap, cur, e, hb, by rw [h.below.block g (Array.getElem?_eq_some_iff.1 hh).1]; exact hh, hr⟩
    near := fun i hi g hg => ((hk0 i hi).lt g hg).2
    apart := fun i j hi hj hne g hg => by
      have e1 := hget i hi
      have e2 := hget j hj
      have l1 : (D.getD i default).1 < kvs.length := by rw [hM.klen]; exact (List.getElem?_eq_some_iff.1 (hD i _ e1)).1
      have l2 : (D.getD j default).1 < kvs.length := by rw [hM.klen]; exact (List.getElem?_eq_some_iff.1 (hD j _ e2)).1
      have hpp : (D.getD i default).1 ≠ (D.getD j default).1 := fun e => by
        have m1 : (D.map (·.1))[i]? = some (D.getD i default).1 := by rw [List.getElem?_map, e1]; rfl
        have m2 : (D.map (·.1))[j]? = some (D.getD j default).1 := by rw [List.getElem?_map, e2]; rfl
        rw [e] at m1
        exact hne ((List.getElem?_inj (by simpa using hi) hnd).1 (by rw [m1, m2]))
      have hp := List.pairwise_iff_getElem.1 hM.pair
      have g1 : kvs.getD (D.getD i default).1 default = kvs[(D.getD i default).1] := by rw [List.getD_eq_getElem?_getD, List.getElem?_eq_getElem l1]; rfl
      have g2 : kvs.getD (D.getD j default).1 default = kvs[(D.getD j default).1] := by rw [List.getD_eq_getElem?_getD, List.getElem?_eq_getElem l2]; rfl
      rw [g1] at hg
      rw [g2]
      rcases Nat.lt_or_gt_of_ne hpp with h3 | h3
      · exact hp _ _ l1 l2 h3 g hg
      · exact fun e => hp _ _ l2 l1 h3 g e hg
    marks := h.marks
    dist := h.dist }
theorem ownsRow_agree {base e size n : Nat} {v : Value} {xs : List Value} {wX : World} (h : w.ownsRow base e size v n xs) (hX : ∀ k, base ≤ k → wX.heap[k]? = w.heap[k]?) : wX.ownsRow base e size v n xs := by
  obtain ⟨h1, h2⟩ := h
  refine ⟨h1, ?_⟩
  rcases h2 with h2 | ⟨g, cap, cur, h2, h3, h4, h5⟩
  · exact .inl h2
  · exact .inr ⟨g, cap, cur, h2, h3, by rw [hX g h3]; exact h4, h5⟩
theorem tree_of {gv vc : Nat} (hnodes : w.ownsRow n0 53 5 (.slice (some ⟨gv, 0, none⟩) D.length vc) D.length (rowD kvs D)) (hkids : ∀ i, i < D.length → own1 B w (kvs.getD (D.getD i default).1 default) ((startK D i).map (gF F))) : Tr.TV w (some ⟨gv, 0, none⟩) D.length vc (D.map (placed (gF F))) where
  len_eq := by simp
  cap := by
    rcases hnodes.2 with ⟨h1, _⟩ | ⟨g, cap, cur, h1, _, _, h2, _⟩
    · simp at h1
    · simp only [Value.slice.injEq] at h1; omega
  node := fun hl => ⟨gv, 0, rfl, (hnodes.lt gv rfl).2, fun i hi => by
    have hx : D[i]? = some (D.getD i default) := by simp [List.getD, hi]
    have hc : ∀ q u, (nodeC (D.getD i default).2 (kvs.getD (D.getD i default).1 default))[q]? = some u → w.cell? ⟨gv, 0 + i * 5 + q, none⟩ = some u := fun q u hq => by
      have h5 : q < 5 := by have := (List.getElem?_eq_some_iff.1 hq).1; simpa [nodeC] using this
      rw [Nat.zero_add, hnodes.cellAt (i * 5 + q) (by omega), rowD_get kvs D i _ hx q h5]
      exact hq
    have hnd : (D.map (placed (gF F))).getD i default = placed (gF F) (D.getD i default) := by simp [List.getD, hi]
    have hk := hkids i hi
    rw [hnd]
    obtain ⟨k1, k2⟩ := hk
    rcases k2 with ⟨k2, k3⟩ | ⟨g, cap, cur, k2, k3⟩
    · have k3' : (placed (gF F) (D.getD i default)).kids = [] := List.length_eq_zero_iff.1 k3
      exact ⟨none, 0, 0, ⟨hc 0 _ rfl, hc 1 _ rfl, hc 2 _ rfl, hc 3 _ rfl, by rw [← k2]; exact hc 4 _ rfl, ⟨by rw [k3']; rfl, Nat.le_refl _, fun h0 => absurd h0 (by omega)⟩⟩⟩
    · refine ⟨some ⟨g, 0, none⟩, ((startK D i).map (gF F)).length, cap, ⟨hc 0 _ rfl, hc 1 _ rfl, hc 2 _ rfl, hc 3 _ rfl, by rw [← k2]; exact hc 4 _ rfl, ⟨rfl, k3.2.2.1, fun h0 => ?_⟩⟩⟩
      have hown : w.ownsRow B 3 1 (.slice (some ⟨g, 0, none⟩) ((startK D i).map (gF F)).length cap) ((startK D i).map (gF F)).length (((startK D i).map (gF F)).map (Value.int .i64)) := ⟨k1, .inr ⟨g, cap, cur, rfl, k3⟩⟩
      refine ⟨g, 0, rfl, (hown.lt g rfl).2, fun j hj => ?_⟩
      rw [Nat.zero_add, hown.cellAt j (by omega)]
      show _ = some (Value.int .i64 (((startK D i).map (gF F)).getD j 0))
      simp only [List.getElem?_map, List.getD]
      simp only [List.length_map] at hj
      simp [hj]⟩
theorem F2.tree {gv vc : Nat} {wX : World} (h : F2 B n0 w0 kvs N bp F D (.slice (some ⟨gv, 0, none⟩) D.length vc) (kidsK F D D.length 0) rs w) (hB : B ≤ n0) (hX : ∀ k, B ≤ k → wX.heap[k]? = w.heap[k]?) : Tr.TV wX (some ⟨gv, 0, none⟩) D.length vc (D.map (placed (gF F))) :=
  tree_of (ownsRow_agree h.nodes (fun k hk => hX k (Nat.le_trans hB hk))) (fun i hi => by
    have hk := h.kids i hi
    have hki : kidsK F D D.length 0 i = (startK D i).map (gF F) := by simp [kidsK, hi]
    rw [hki] at hk
    exact ownsRow_agree hk hX)
theorem F2.unmark {r : Nat} (h : F2 B n0 w0 kvs N bp F D vn K (r :: rs) w) (hB : B ≤ n0) : w.heap[r]? = some (.deferred (some [])) ∧ F2 B n0 w0 kvs N bp F D vn K rs (w.putObj r (.deferred none)) := by
  obtain ⟨h1, h2⟩ := h.marks r (by simp)
  have hg := grownBy_putObj' w r (.deferred none)
  refine ⟨h2, ?_⟩
  exact {
    below := h.below.grown hg (Nat.le_trans hB h.size) (fun q e => by cases e; omega)
    size := Nat.le_trans h.size hg.size
    bp0 := h.bp0
    places := by
      obtain ⟨cs, k1, k2⟩ := h.places
      exact ⟨cs, by rw [hg.block bp (Array.getElem?_eq_some_iff.1 k1).1 (fun e => by
        have e := Option.some.inj e
        rw [e, h2] at k1
        simp at k1)]; exact k1, k2⟩
    nodes := ownsRow_putObj h.nodes _ h2 rfl
    kids := fun i hi => ownsRow_putObj (h.kids i hi) _ h2 rfl
    near := h.near
    apart := h.apart
    marks := fun x hx => ⟨(h.marks x (by simp [hx])).1, by
      have h3 := (h.marks x (by simp [hx])).2
      have hne : x ≠ r := fun e => (List.nodup_cons.1 h.dist).1 (by rw [← e]; exact hx)
      rw [hg.block x (Array.getElem?_eq_some_iff.1 h3).1 (fun e => hne (Option.some.inj e))]; exact h3⟩
    dist := (List.nodup_cons.1 h.dist).2 }
theorem F2.res {q0 T : Nat} {u u' : Value} (h : F2 B n0 w0 kvs N bp F D vn K rs w) (hb : Boxed w q0 T u) (h1 : q0 < n0) (h2 : B ≤ q0) (hT : T ≠ 3) : F2 B n0 w0 kvs N bp F D vn K rs (w.setCell ⟨q0, 0, none⟩ u') := by
  have hg := grownBy_set w ⟨q0, 0, none⟩ u'
  have hb' : w.heap[q0]? = some (.cells #[u] T (0, 0)) := hb
  have hbp := h.bp0
  exact {
    below := h.below.grown hg (by have := hb.lt; omega) (fun q e => by cases e; exact h2)
    size := Nat.le_trans h.size hg.size
    bp0 := h.bp0
    places := by
      obtain ⟨cs, k1, k2⟩ := h.places
      exact ⟨cs, by rw [hg.block bp (Array.getElem?_eq_some_iff.1 k1).1 (fun e => by have e := Option.some.inj e; simp only at e; omega)]; exact k1, k2⟩
    nodes := h.nodes.kept hg (Or.inr (fun e => by have := (h.nodes.lt _ e).1; simp only at this; omega))
    kids := fun i hi => (h.kids i hi).grown hg (Or.inr (row_ne (h.kids i hi) hb' (fun cs fr e => by simp only [Obj.cells.injEq] at e; exact hT e.2.1)))
    near := h.near
    apart := h.apart
    marks := fun r hr => ⟨(h.marks r hr).1, by
      have h3 := (h.marks r hr).1
      rw [hg.block r (Array.getElem?_eq_some_iff.1 (h.marks r hr).2).1 (fun e => by have e := Option.some.inj e; simp only at e; omega)]; exact (h.marks r hr).2⟩
    dist := h.dist }
theorem F2.kidV (h : F2 B n0 w0 kvs N bp F D vn K rs w) (i : Nat) (hi : i < D.length) : ∃ kp kc, kvs.getD (D.getD i default).1 default = .slice kp (K i).length kc ∧ (0 < (K i).length → ∃ g, kp = some ⟨g, 0, none⟩ ∧ (∀ j u, (K i)[j]? = some u → w.cell? ⟨g, j, none⟩ = some (.int .i64 u)) ∧ (∀ j, w.frozen? ⟨g, j, none⟩ = false) ∧ g < n0) := by
  have hk := h.kids i hi
  obtain ⟨h1, h2⟩ := id hk
  rcases h2 with ⟨h2, h3⟩ | ⟨g, cap, cur, h2, h3⟩
  · exact ⟨none, 0, by rw [h3]; exact h2, fun h0 => by omega⟩
  · refine ⟨_, _, h2, fun _ => ⟨g, rfl, fun j u hu => ?_, fun j => ?_, h.near i hi g (by rw [h2]; rfl)⟩⟩
    · rw [h2] at hk
      have hj := (List.getElem?_eq_some_iff.1 hu).1
      rw [World.ownsRow.cellAt hk j (by omega), List.getElem?_map, hu]
      rfl
    · rw [h2] at hk
      exact World.ownsRow.frozenAt hk j
end
def markOf (r : Nat) : Deferred := { target := .collected r, args := #[] }
theorem leaves_marks {F : Fence} {n : Nat} {P : Program} {fn : Func} {tmps : Array Value} {R : Ending → World → Prop} (I : List Nat → World → Prop) (hI : ∀ r rs w, I (r :: rs) w → w.heap[r]? = some (.deferred (some [])) ∧ I rs (w.putObj r (.deferred none))) :
    ∀ (rs : List Nat) (w : World), I rs w → (∀ w', I [] w' → LeavesIn F n P fn tmps R [] .returning w') → LeavesInM F n P fn tmps R (rs.map markOf) .returning w
  | [], w, h, hR => hR w h
  | r :: rs, w, h, hR => ⟨by simp, .inl ⟨r, _, rfl, run_takeDeferred (hI r rs w h).1, leaves_marks I hI rs _ (hI r rs w h).2 hR⟩⟩
end Go.Proofs.YtpemghcafbedeaaGreatDoor
end
