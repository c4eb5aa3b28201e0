import Derived.Test.YtabbodbnjegllaaDoorLexT
import Derived.Laws.AppendOwnNone
namespace Go.Proofs.YtabbodbnjegllaaDoor
open Go.RowKit
theorem wpList_append_src {ops : Array Oper} {rest : List Oper} {o : Oper} {a : Act} {w : World} {Q : Exit → Act → World → Prop} (hgd : o.guard = none) (s x : Operand)
    (ho : o.op = .call { callee := .builtin .append, args := #[s, x], argTypes := #[22, 22] }) (base : Nat) (v : Value) (n : Nat) (xs : List Value) (hs : a.eval s = v) (hown : w.ownsRow base 5 1 v n xs)
    (p : Option Addr) (m c : Nat) (l : List Int) (hx : a.eval x = .slice p m c) (hsrc : Src w p m c l) (hb : n + m ≤ 100000) (hbase : base ≤ w.heap.size)
    (h : ∀ v' w', w'.ownsRow base 5 1 v' (n + m) (xs ++ l.map (Value.int .u8)) → w.grownBy w' v.ownBlock → wpList Tryd.prog ops Q rest (a.put o.dst v') w') : wpList Tryd.prog ops Q (o :: rest) a w := by
  obtain ⟨i0, hi, hz0, hz1, hz2⟩ := info_parts infoB
  obtain ⟨hl, hby, hor⟩ := hsrc
  cases p with
  | none =>
    have hm : m = 0 ∧ c = 0 := by
      rcases hor with h | ⟨b, off, e, _⟩
      · exact h
      · cases e
    obtain ⟨rfl, rfl⟩ := hm
    have e : l = [] := List.eq_nil_of_length_eq_zero hl
    subst e
    exact wpList_append_own_none hgd s x 22 ho base 5 i0 1 Tryd.underlying22 hi v n xs hs hown hx (h v w (by simpa using hown) (World.grownBy.refl w _))
  | some ad =>
    refine wpList_append_own w hgd s x 22 ho base 5 i0 _ 1 1 Tryd.underlying22 hi hz0 hz1 hz2 rfl (by omega) v n xs hs hown ad m c (l.map (Value.int .u8)) hx (by simp; omega) ?_ ?_ (by unfold maxLen; omega) (by omega) hbase (fun v' w' h1 h2 _ => h v' w' h1 h2)
    · intro j u hj
      rcases hor with ⟨rfl, _⟩ | ⟨b, off, e, _, _, hc⟩
      · have e : l = [] := List.eq_nil_of_length_eq_zero hl
        subst e
        simp at hj
      · simp only [Option.some.injEq] at e
        subst e
        have hjl : j < l.length := by
          have := (List.getElem?_eq_some_iff.1 hj).1
          simpa using this
        have ea : (⟨b, off, none⟩ : Addr).add j = ⟨b, off + j, none⟩ := by unfold Addr.add; split <;> simp_all
        rw [ea, hc j (by omega)]
        simp only [List.getElem?_map, List.getElem?_eq_getElem hjl, Option.map_some, Option.some.injEq] at hj
        rw [← hj]
        simp [List.getD, hjl]
    · intro u hu
      obtain ⟨x, _, rfl⟩ := List.mem_map.1 hu
      rfl
set_option maxHeartbeats 1000000 in
theorem lexJoined_big (w : World) (p : Option Addr) (len c : Nat) (p2 : Option Addr) (len2 c2 : Nat) (hg : ET w) (hb : 400 < len ∨ 400 < len2) :
    Calls Tryd.prog 7 #[.slice p len c, .slice p2 len2 c2] w fun e w' => e = .returned (.bool true) ∧ Below w.heap.size w w' := by
  have WK := Lib.hid (works w hg)
  clear hg
  by_cases h1 : 400 < len
  · clear hb
    go_enter Tryd.func7, Tryd.ntmps7
    go_wp2_with fail
    (with_reducible refine WK.out.mono ?_)
    rintro e w1 ⟨rfl, hb1⟩
    go_wp2
    go_ret
    exact ⟨rfl, hb1⟩
  · have h2 : 400 < len2 := by omega
    have hd : decide (400 < (len : Int)) = false := by simp; omega
    clear hb
    go_enter Tryd.func7, Tryd.ntmps7
    go_wp2_with fail
    (with_reducible refine WK.out.mono ?_)
    rintro e w1 ⟨rfl, hb1⟩
    go_wp2
    go_ret
    exact ⟨rfl, hb1⟩
theorem chain_get {xs : List Int} {p : Nat} {ts : List Tok} (h : Chain xs p ts) (k : Nat) (t : Tok) (ht : ts[k]? = some t) : t.at' ≤ t.stop ∧ t.stop ≤ xs.length := by
  induction ts generalizing p k with
  | nil => simp at ht
  | cons u r ih =>
    cases k with
    | zero =>
      simp only [List.getElem?_cons_zero, Option.some.injEq] at ht
      subst ht
      exact ⟨h.2.2.1, h.2.2.2.1⟩
    | succ k => exact ih h.2.2.2.2.2.2 k (by simpa using ht)
/-- What Lex answered, as two values. -/
def LexOut (xs : List Int) (W : World) (v e : Value) : Prop :=
  (∃ i er B, lexS xs = .error (i, er) ∧ v = .slice none 0 0 ∧ e = .iface 59 (.pointer (some ⟨B, 0, none⟩))) ∨ (∃ ts g cap, lexS xs = .ok ts ∧ v = .slice (some ⟨g, 0, none⟩) ts.length cap ∧ e = .nilIface ∧ TR W g cap ts)
theorem LexOut.on {xs : List Int} {W W' : World} {v e : Value} (h : LexOut xs W v e) (hb : Below W.heap.size W W') : LexOut xs W' v e := by
  rcases h with h | ⟨ts, g, cap, h1, h2, h3, h4⟩
  · exact Or.inl h
  · exact Or.inr ⟨ts, g, cap, h1, h2, h3, h4.on hb⟩
theorem lex_out {w : World} {p : Option Addr} {len c : Nat} {xs : List Int} (h : Src w p len c xs) (hb : len ≤ 65536) :
    Calls Tryd.prog 10 #[.slice p len c] w fun e w' => ∃ v1 e1, e = .returned (.tuple #[v1, e1]) ∧ LexOut xs w' v1 e1 ∧ Below w.heap.size w w' := by
  cases hx : lexS xs with
  | error e => exact (lex_no h hb hx).mono fun e w' ⟨B, l, cc, h1, _, h3⟩ => ⟨_, _, h1, Or.inl ⟨_, _, B, hx, rfl, rfl⟩, h3⟩
  | ok ts => exact (lex_ok h hb hx).mono fun e w' ⟨g, cap, h1, h2, _, h3⟩ => ⟨_, _, h1, Or.inr ⟨ts, g, cap, hx, rfl, rfl, h2⟩, h3⟩
set_option maxHeartbeats 4000000 in
set_option maxRecDepth 1000000 in
theorem lexJoined_in (w : World) (p : Option Addr) (len c : Nat) (xs : List Int) (p2 : Option Addr) (len2 c2 : Nat) (ys : List Int) (hs : Src w p len c xs) (hs2 : Src w p2 len2 c2 ys) (hg : ET w) (hb : len ≤ 400) (hb2 : len2 ≤ 400) :
    Calls Tryd.prog 7 #[.slice p len c, .slice p2 len2 c2] w fun e w' => e = .returned (.bool true) ∧ Below w.heap.size w w' := by
  have LX := Lib.hid (lex_out hs (by omega))
  have HG := Lib.hid hg
  have HS := Lib.hid hs
  have HS2 := Lib.hid hs2
  clear hg hs hs2
  have hd : decide (400 < len) = false := by simp; omega
  have hd2 : decide (400 < len2) = false := by simp; omega
  go_enter Tryd.func7, Tryd.ntmps7
  go_wp2_with fail
  (with_reducible refine LX.out.mono ?_)
  rintro e w1 ⟨v1, e1, rfl, hO1, hb1⟩
  have B1 := Lib.hid hb1
  have O1 := Lib.hid hO1
  have LY := Lib.hid (lex_out (HS2.out.below hb1) (by omega))
  clear hb1 LX hO1
  go_wp2_with fail
  (with_reducible refine LY.out.mono ?_)
  rintro e w2 ⟨v2, e2, rfl, hO2, hb2'⟩
  have B2 := Lib.hid (B1.out.trans (hb2'.mono B1.out.size))
  have O1' := Lib.hid (O1.out.on hb2')
  have O2 := Lib.hid hO2
  clear hb2' LY hO2 O1
  have ho0 : (w2.alloc (.cells #[] 5)).ownsRow w2.heap.size 5 1 (.slice (some ⟨w2.heap.size, 0, none⟩) 0 0) 0 [] := World.ownsRow_lit w2 #[] 0 (Nat.le_refl _) (by simp [maxLen]) rfl
  go_wp2_with (at_builtin; refine wpList_append_src rfl (.tmp 34) (.tmp 35) rfl w2.heap.size (.slice (some ⟨w2.heap.size, 0, none⟩) 0 0) 0 [] rfl ho0 p len c xs rfl (HS.out.below (B2.out.trans ((one_below w2 _).mono B2.out.size))) (by omega) (by simp) ?_)
  intro v3 w3 hown3 hgrow3
  have b3 := Lib.hid (((one_below w2 (.cells #[] 5)).grown hgrow3 (by simp) (fun k hk => by simp [Value.ownBlock] at hk; omega)))
  have O3 : Hid (w3.ownsRow w2.heap.size 5 1 v3 len (xs.map (Value.int .u8))) := Lib.hid (by simpa using hown3)
  clear ho0 hown3 hgrow3
  have b3s := b3.out.size
  go_wp2_with (at_builtin; refine wpList_append_src rfl (.tmp 36) (.tmp 37) rfl w2.heap.size v3 len (xs.map (Value.int .u8)) rfl (O3.out.alloc _) (some ⟨w3.heap.size, 0, none⟩) 1 1 [10] rfl (src_const w3 #[.int .u8 10] [10] 1 rfl rfl (by decide) 0 0) (by omega) (by simp; omega) ?_)
  intro v4 w4 hown4 hgrow4
  have b4 := Lib.hid ((b3.out.alloc b3.out.size (.cells #[.int .u8 10] 5)).grown hgrow4 (by simp; omega) (fun k hk => (O3.out.lt k hk).1))
  have O4 : Hid (w4.ownsRow w2.heap.size 5 1 v4 (len + 1) ((xs ++ [10]).map (Value.int .u8))) := Lib.hid (by simpa using hown4)
  clear hown4 hgrow4
  have b4s := b4.out.size
  go_wp2_with (at_builtin; refine wpList_append_src rfl (.tmp 40) (.tmp 41) rfl w2.heap.size v4 (len + 1) ((xs ++ [10]).map (Value.int .u8)) rfl O4.out p2 len2 c2 ys rfl (HS2.out.below (B2.out.trans (b4.out.mono B2.out.size))) (by omega) (by omega) ?_)
  intro v5 w5 hown5 hgrow5
  have b5 := Lib.hid (b4.out.grown hgrow5 b4.out.size (fun k hk => (O4.out.lt k hk).1))
  have O5 : Hid (w5.ownsRow w2.heap.size 5 1 v5 (len + 1 + len2) ((xs ++ 10 :: ys).map (Value.int .u8))) := Lib.hid (by simpa using hown5)
  clear hown5 hgrow5
  obtain ⟨g5, cap5, rfl, hg5, _⟩ := O5.out.form (by omega)
  have HXb := Lib.hid (mem_byte HS.out.2.1)
  have HYb := Lib.hid (mem_byte HS2.out.2.1)
  have hsrc := src_own O5.out (by have := HS.out.1; have := HS2.out.1; simp; omega) (fun z hz => by
    rcases List.mem_append.1 hz with h | h
    · exact HXb.out z h
    · rcases List.mem_cons.1 h with rfl | h
      · decide
      · exact HYb.out z h)
  have LZ := Lib.hid (lex_out hsrc (by omega))
  clear hsrc
  go_wp2_with fail
  (with_reducible refine LZ.out.mono ?_)
  rintro e w6 ⟨v6, e6, rfl, hO6, hb6⟩
  have b6 := Lib.hid (b5.out.trans (hb6.mono b5.out.size))
  have B6 := Lib.hid (B2.out.trans (b6.out.mono B2.out.size))
  have X6 := Lib.hid (O1'.out.on b6.out)
  have Y6 := Lib.hid (O2.out.on b6.out)
  have Z6 := Lib.hid hO6
  have WK := Lib.hid (works w6 (HG.out.below B6.out))
  clear hO6 hb6 LZ O1' O2 b3 b4 b5 O3 O4 O5 b3s b4s hg5 b6 B1 B2 HXb HYb
  rcases X6.out with ⟨i, er, B, hx, rfl, rfl⟩ | ⟨ts, g1, c1, hx, rfl, rfl, T1⟩
  · have hz := join_err xs ys (i, er) hx
    rcases Z6.out with ⟨i3, er3, B3, hz3, rfl, rfl⟩ | ⟨ts3, g3, c3, hz3, rfl, rfl, T3⟩
    · clear hz hz3 hx
      go_wp2_with fail
      (with_reducible refine WK.out.mono ?_)
      rintro e w7 ⟨rfl, hb7⟩
      have B7 := Lib.hid (B6.out.trans (hb7.mono B6.out.size))
      clear hb7 WK
      go_wp2
      go_ret
      exact ⟨rfl, B7.out⟩
    · rw [hz] at hz3
      simp at hz3
  · rcases Y6.out with ⟨i, er, B, hy, rfl, rfl⟩ | ⟨us, g2, c2', hy, rfl, rfl, T2⟩
    · have hz := join_err2 xs ys ts (i, er) hx hy
      rcases Z6.out with ⟨i3, er3, B3, hz3, rfl, rfl⟩ | ⟨ts3, g3, c3, hz3, rfl, rfl, T3⟩
      · clear hz hz3 hx hy T1
        go_wp2_with fail
        (with_reducible refine WK.out.mono ?_)
        rintro e w7 ⟨rfl, hb7⟩
        have B7 := Lib.hid (B6.out.trans (hb7.mono B6.out.size))
        clear hb7 WK
        go_wp2
        go_ret
        exact ⟨rfl, B7.out⟩
      · rw [hz] at hz3
        simp at hz3
    · obtain ⟨vs, hvs, hz⟩ := join_ok xs ys ts us hx hy
      rcases Z6.out with ⟨i3, er3, B3, hz3, rfl, rfl⟩ | ⟨ts3, g3, c3, hz3, rfl, rfl, T3⟩
      · rw [hz] at hz3
        simp at hz3
      · rw [hz] at hz3
        simp only [Except.ok.injEq] at hz3
        have hl1 := lexN_len _ _ _ ts hx
        have hl2 := lexN_len _ _ _ us hy
        have HCY := Lib.hid (chain_of ys ys.length 0 (by omega) (by omega) us (by rw [← lexS_at]; exact hy)).1
        obtain ⟨m, hm⟩ : ∃ m, vs.length = m := ⟨_, rfl⟩
        obtain ⟨n2, hn2⟩ : ∃ n2, us.length = n2 := ⟨_, rfl⟩
        have hn1 : ts.length = m + 1 := by rw [hvs, List.length_append, hm]; rfl
        have hn3 : ts3.length = m + n2 := by rw [← hz3, List.length_append, List.length_map, hm, hn2]
        have hm400 : m ≤ 401 := by have := HS.out.1; omega
        have hn400 : n2 ≤ 401 := by have := HS2.out.1; omega
        have q1 := T1.le
        have q2 := T2.le
        have q3 := T3.le
        rw [hn1] at q1 ⊢
        rw [hn2] at q2 ⊢
        rw [hn3] at q3 ⊢
        have A1 := Lib.hid T1
        have A2 := Lib.hid T2
        have A3 := Lib.hid T3
        have HV := Lib.hid hvs
        have HZ := Lib.hid hz3
        have HM := Lib.hid hm
        have HN2 := Lib.hid hn2
        have hxl := Lib.hid HS.out.1
        clear hx hy hz hz3 hvs hl1 hl2 hm hn1 hn2 hn3 T1 T2 T3 WK X6 Y6 Z6
        have hm10 : ((m : Int) + 1 == 0) = false := by simp; omega
        go_wp2_with fail
        go_loopw [12] (fun iv wr => ∃ k : Nat, k ≤ m + n2 ∧ iv = .int .i64 k ∧ Hid (Below w6.heap.size w6 wr)) (fun iv _ => m + n2 - (intOf iv).toNat)
        case atStart => exact ⟨0, by omega, rfl, Lib.hid (Below.refl _ _)⟩
        case round =>
          obtain ⟨k, hk, rfl, HB⟩ := hrel
          by_cases hkm : k < m
          · obtain ⟨t, ht⟩ : ∃ t, vs[k]? = some t := ⟨vs[k]'(by have := HM.out; omega), List.getElem?_eq_getElem _⟩
            have ht1 : ts[k]? = some t := by rw [HV.out, List.getElem?_append_left (by have := HM.out; omega)]; exact ht
            have ht3 : ts3[k]? = some t := by rw [← HZ.out, List.getElem?_append_left (by have := HM.out; omega)]; exact ht
            have Z := A3.out.on HB.out
            have X := A1.out.on HB.out
            have z0 := Z.cell (k * 5 + 0) (.int .u8 t.kind) (by rw [tok_cell ts3 k 0 t ht3 (by omega)]; rfl)
            have z1 := Z.cell (k * 5 + 1) (.int .i64 t.at') (by rw [tok_cell ts3 k 1 t ht3 (by omega)]; rfl)
            have z2 := Z.cell (k * 5 + 2) (.int .i64 t.stop) (by rw [tok_cell ts3 k 2 t ht3 (by omega)]; rfl)
            have z3 := Z.cell (k * 5 + 3) (.string (strOfNums t.text)) (by rw [tok_cell ts3 k 3 t ht3 (by omega)]; rfl)
            have z4 := Z.cell (k * 5 + 4) (.int .i64 t.n) (by rw [tok_cell ts3 k 4 t ht3 (by omega)]; rfl)
            have x0 := X.cell (k * 5 + 0) (.int .u8 t.kind) (by rw [tok_cell ts k 0 t ht1 (by omega)]; rfl)
            have x1 := X.cell (k * 5 + 1) (.int .i64 t.at') (by rw [tok_cell ts k 1 t ht1 (by omega)]; rfl)
            have x2 := X.cell (k * 5 + 2) (.int .i64 t.stop) (by rw [tok_cell ts k 2 t ht1 (by omega)]; rfl)
            have x3 := X.cell (k * 5 + 3) (.string (strOfNums t.text)) (by rw [tok_cell ts k 3 t ht1 (by omega)]; rfl)
            have x4 := X.cell (k * 5 + 4) (.int .i64 t.n) (by rw [tok_cell ts k 4 t ht1 (by omega)]; rfl)
            rw [Nat.add_zero] at z0 x0
            generalize t.kind = kd at *
            generalize t.at' = at' at *
            generalize t.stop = st at *
            generalize strOfNums t.text = tx at *
            generalize t.n = tn at *
            have hg1 := X.lt
            have hg1n : g1 ≠ wr.heap.size := by omega
            clear Z X ht ht1 ht3
            have hlt1 : decide (k < m) = true := by simpa using hkm
            have hi0 : (0 : Int) ≤ (k : Int) := by omega
            have hi1 : (k : Int) < ((m + 1 : Nat) : Int) := by omega
            have hi2 : (k : Int) < (m : Int) + 1 := by omega
            go_wp2_with fail
            go_quiet (fail)
            have HB2 := Lib.hid (HB.out.trans (((one_below wr (.cells #[.int .u8 kd, .int .i64 at', .int .i64 st, .string tx, .int .i64 tn] 41)).trans (drewN_below _ _ nq)).mono HB.out.size))
            clear z0 z1 z2 z3 z4 x0 x1 x2 x3 x4
            go_wp2
            go_roundw
            case rel => exact ⟨k + 1, by omega, by go_num, HB2⟩
            case measure => simp [intOf]; omega
          · by_cases hlt : k < m + n2
            · obtain ⟨j, rfl⟩ : ∃ j, k = m + j := ⟨k - m, by omega⟩
              obtain ⟨u, hu⟩ : ∃ u, us[j]? = some u := ⟨us[j]'(by have := HN2.out; omega), List.getElem?_eq_getElem _⟩
              have hbd := chain_get HCY.out j u hu
              have ht3 : ts3[m + j]? = some (shiftT (xs.length + 1) u) := by
                rw [← HZ.out, List.getElem?_append_right (by have := HM.out; omega), HM.out, Nat.add_sub_cancel_left, List.getElem?_map, hu]
                rfl
              have Z := A3.out.on HB.out
              have Y := A2.out.on HB.out
              have z0 := Z.cell ((m + j) * 5 + 0) (.int .u8 u.kind) (by rw [tok_cell ts3 (m + j) 0 _ ht3 (by omega)]; rfl)
              have z1 := Z.cell ((m + j) * 5 + 1) (.int .i64 ((u.at' + len + 1 : Nat) : Int)) (by rw [tok_cell ts3 (m + j) 1 _ ht3 (by omega), ← hxl.out]; rfl)
              have z2 := Z.cell ((m + j) * 5 + 2) (.int .i64 ((u.stop + len + 1 : Nat) : Int)) (by rw [tok_cell ts3 (m + j) 2 _ ht3 (by omega), ← hxl.out]; rfl)
              have z3 := Z.cell ((m + j) * 5 + 3) (.string (strOfNums u.text)) (by rw [tok_cell ts3 (m + j) 3 _ ht3 (by omega)]; rfl)
              have z4 := Z.cell ((m + j) * 5 + 4) (.int .i64 u.n) (by rw [tok_cell ts3 (m + j) 4 _ ht3 (by omega)]; rfl)
              have y0 := Y.cell (j * 5 + 0) (.int .u8 u.kind) (by rw [tok_cell us j 0 u hu (by omega)]; rfl)
              have y1 := Y.cell (j * 5 + 1) (.int .i64 u.at') (by rw [tok_cell us j 1 u hu (by omega)]; rfl)
              have y2 := Y.cell (j * 5 + 2) (.int .i64 u.stop) (by rw [tok_cell us j 2 u hu (by omega)]; rfl)
              have y3 := Y.cell (j * 5 + 3) (.string (strOfNums u.text)) (by rw [tok_cell us j 3 u hu (by omega)]; rfl)
              have y4 := Y.cell (j * 5 + 4) (.int .i64 u.n) (by rw [tok_cell us j 4 u hu (by omega)]; rfl)
              rw [Nat.add_zero] at z0 y0
              have hub : u.at' ≤ 401 ∧ u.stop ≤ 401 := by have := HS2.out.1; omega
              clear hbd
              generalize u.kind = kd at *
              generalize u.at' = at' at *
              generalize u.stop = st at *
              generalize strOfNums u.text = tx at *
              generalize u.n = tn at *
              obtain ⟨hub1, hub2⟩ := hub
              have hg2 := Y.lt
              have hg2n : g2 ≠ wr.heap.size := by omega
              clear Z Y hu ht3
              have hlt1 : decide (m + j < m) = false := by simp
              have hjj : ((m : Int) + (j : Int) - ((m : Int) + 1) + 1).toNat = j := by omega
              have HB2 := Lib.hid (HB.out.trans ((two_below wr (.cells #[.int .u8 kd, .int .i64 ((at' + len + 1 : Nat) : Int), .int .i64 ((st + len + 1 : Nat) : Int), .string tx, .int .i64 tn] 41) (.cells #[.int .u8 kd, .int .i64 at', .int .i64 st, .string tx, .int .i64 tn] 41)).mono HB.out.size))
              go_wp2_with fail
              go_roundw
              case rel => exact ⟨m + j + 1, by omega, by go_num, by simpa using HB2⟩
              case measure => simp [intOf]; omega
            · have hkk : k = m + n2 := by omega
              have WK := Lib.hid (works wr (HG.out.below (B6.out.trans (HB.out.mono B6.out.size))))
              clear hkk
              go_wp2_with fail
              (with_reducible refine WK.out.mono ?_)
              rintro e w7 ⟨rfl, hb7⟩
              have B7 := Lib.hid (B6.out.trans ((HB.out.trans (hb7.mono HB.out.size)).mono B6.out.size))
              clear hb7 WK
              go_wp2
              go_ret
              exact ⟨rfl, B7.out⟩

theorem lexJoined (w : World) (p : Option Addr) (len c : Nat) (xs : List Int) (p2 : Option Addr) (len2 c2 : Nat) (ys : List Int) (hs : Src w p len c xs) (hs2 : Src w p2 len2 c2 ys) (hg : ET w) :
    Calls Tryd.prog 7 #[.slice p len c, .slice p2 len2 c2] w fun e w' => e = .returned (.bool true) ∧ Below w.heap.size w w' := by
  by_cases hb : 400 < len ∨ 400 < len2
  · exact lexJoined_big w p len c p2 len2 c2 hg hb
  · exact lexJoined_in w p len c xs p2 len2 c2 ys hs hs2 hg (by omega) (by omega)
end Go.Proofs.YtabbodbnjegllaaDoor
