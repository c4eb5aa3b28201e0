/- Contracts on the way to the laws of layer 5: ParseLd, ParseLe (two sources, one behind the other). -/
import Derived.Test.YtkakhldlmfdcdaaGreatDoorKao
import Derived.Laws.AppendOwnNone
section
namespace Go.Proofs.YtkakhldlmfdcdaaGreatDoor
open Go.RowKit
theorem wpList_append_src {ops : Array Oper} {rest : List Oper} {o : Oper} {a : Act} {w : World} {Q : Exit → Act → World → Prop} (hgd : o.guard = none) (s x : Operand)
    (ho : o.op = .call { callee := .builtin .append, args := #[s, x], argTypes := #[22, 22] }) (base : Nat) (v : Value) (n : Nat) (xs : List Value) (hs : a.eval s = v) (hown : w.ownsRow base 5 1 v n xs)
    (p : Option Addr) (m c : Nat) (l : List Int) (hx : a.eval x = .slice p m c) (hsrc : Src w p m c l) (hb : n + m ≤ 100000) (hbase : base ≤ w.heap.size)
    (h : ∀ v' w', w'.ownsRow base 5 1 v' (n + m) (xs ++ l.map (Value.int .u8)) → w.grownBy w' v.ownBlock → wpList Tryz.prog ops Q rest (a.put o.dst v') w') : wpList Tryz.prog ops Q (o :: rest) a w := by
  obtain ⟨i0, hi, hz0, hz1, hz2⟩ := info_parts infoB
  obtain ⟨hl, hby, hor⟩ := hsrc
  cases p with
  | none =>
    have hm : m = 0 ∧ c = 0 := by
      rcases hor with h | ⟨b, off, e, _⟩
      · exact h
      · cases e
    obtain ⟨rfl, rfl⟩ := hm
    have e : l = [] := List.eq_nil_of_length_eq_zero hl
    subst e
    exact wpList_append_own_none hgd s x 22 ho base 5 i0 1 Tryz.underlying22 hi v n xs hs hown hx (h v w (by simpa using hown) (World.grownBy.refl w _))
  | some ad =>
    refine wpList_append_own w hgd s x 22 ho base 5 i0 _ 1 1 Tryz.underlying22 hi hz0 hz1 hz2 rfl (by omega) v n xs hs hown ad m c (l.map (Value.int .u8)) hx (by simp; omega) ?_ ?_ (by unfold maxLen; omega) (by omega) hbase (fun v' w' h1 h2 _ => h v' w' h1 h2)
    · intro j u hj
      rcases hor with ⟨rfl, _⟩ | ⟨b, off, e, _, _, hc⟩
      · have e : l = [] := List.eq_nil_of_length_eq_zero hl
        subst e
        simp at hj
      · simp only [Option.some.injEq] at e
        subst e
        have hjl : j < l.length := by
          have := (List.getElem?_eq_some_iff.1 hj).1
          simpa using this
        have ea : (⟨b, off, none⟩ : Addr).add j = ⟨b, off + j, none⟩ := by unfold Addr.add; split <;> simp_all
        rw [ea, hc j (by omega)]
        simp only [List.getElem?_map, List.getElem?_eq_getElem hjl, Option.map_some, Option.some.injEq] at hj
        rw [← hj]
        simp [List.getD, hjl]
    · intro u hu
      obtain ⟨x, _, rfl⟩ := List.mem_map.1 hu
      rfl

theorem tokL_shift (d m : Nat) (ts : List Tok) (h : ∀ t ∈ ts, t.at' ≤ m) : TokL (fun a a' => a' = a + d ∧ a ≤ m) (ts.map ptOf) ((ts.map (shiftT d)).map ptOf) := by
  induction ts with
  | nil => exact .nil
  | cons t r ih => exact .cons ⟨rfl, rfl, rfl, rfl, h t (by simp)⟩ (ih fun t ht => h t (by simp [ht]))
/-- What two sources give, one behind the other, with a line's end between them. -/
structure Joint (d m : Nat) (ns ms os : List Nd) : Prop where
  ex : ∃ (n0 m0 o0 : Nd) (nr mr or' : List Nd), ns = n0 :: nr ∧ ms = m0 :: mr ∧ os = o0 :: (nr ++ or') ∧ o0.kids.length = n0.kids.length + m0.kids.length ∧ AllR (NdR fun a a' => a' = a + d ∧ a ≤ m) mr or'
theorem parse_join {xs ys : List Int} {ns : List Nd} (hp : parseS xs = .ok ns) :
    (∀ e, parseS ys = .error e → ∃ e', parseS (xs ++ 10 :: ys) = .error e') ∧ ∀ ms, parseS ys = .ok ms → ∃ os, parseS (xs ++ 10 :: ys) = .ok os ∧ Joint (xs.length + 1) ys.length ns ms os := by
  cases hx : lexS xs with
  | error e => simp [parseS, hx] at hp
  | ok ts =>
    simp only [parseS, hx] at hp
    cases hq : programP (ts.map ptOf) with
    | err p c => rw [hq] at hp; simp at hp
    | ok a l =>
      rw [hq] at hp
      simp only [Except.ok.injEq] at hp
      cases hy : lexS ys with
      | error e =>
        have hj := join_err2 xs ys ts e hx hy
        refine ⟨fun _ _ => ⟨(e.1 + (xs.length + 1), e.2), by simp only [parseS, hj]⟩, fun ms hms => ?_⟩
        simp [parseS, hy] at hms
      | ok us =>
        obtain ⟨vs, hvs, hj⟩ := join_ok xs ys ts us hx hy
        obtain ⟨vs2, hvs2, hk⟩ := lexS_shape hx
        obtain rfl : vs = vs2 := by
          rw [hvs] at hvs2
          exact List.append_inj_left' hvs2 rfl
        obtain ⟨vs3, hvs3, hk3⟩ := lexS_shape hy
        have hq' : programP (vs.map ptOf ++ [ptOf (Tok.endAt xs.length)]) = .ok a l := by rw [← hq, hvs]; simp
        obtain ⟨p0, ksA, ea, hE, hO⟩ := program_joined (ρ := fun a a' => a' = a + (xs.length + 1) ∧ a ≤ ys.length) (end_pt xs.length) (A := vs.map ptOf) (B := us.map ptOf) (C := (us.map (shiftT (xs.length + 1))).map ptOf)
          (fun t ht => by
            obtain ⟨v, hv, rfl⟩ := List.mem_map.1 ht
            exact (hk v hv).1) hq' (by rw [hvs3]; simp) (tokL_shift _ _ us fun t ht => by
            rw [hvs3] at ht
            rcases List.mem_append.1 ht with h | h
            · exact (hk3 t h).2
            · simp only [List.mem_singleton] at h
              subst h
              exact Nat.le_refl _)
        have hmap : (vs ++ us.map (shiftT (xs.length + 1))).map ptOf = vs.map ptOf ++ (us.map (shiftT (xs.length + 1))).map ptOf := by simp
        refine ⟨fun e he => ?_, fun ms hms => ?_⟩
        · simp only [parseS, hy] at he
          cases hb : programP (us.map ptOf) with
          | err q c =>
            obtain ⟨q', h⟩ := hE q c hb
            exact ⟨(q', c), by simp only [parseS, hj, hmap, h]⟩
          | ok b l2 => rw [hb] at he; simp at he
        · simp only [parseS, hy] at hms
          cases hb : programP (us.map ptOf) with
          | err q c => rw [hb] at hms; simp at hms
          | ok b l2 =>
            rw [hb] at hms
            simp only [Except.ok.injEq] at hms
            obtain ⟨q, ksB, q', ksC, l3, eb, hpr, hks⟩ := hO b l2 hb
            refine ⟨flat 0 (nodeA 1 q' (ksA ++ ksC)), by simp only [parseS, hj, hmap, hpr], ?_⟩
            subst hp hms ea eb
            refine ⟨⟨1, p0, none0, 0, heads 1 ksA⟩, ⟨1, q, none0, 0, heads 1 ksB⟩, ⟨1, q', none0, 0, heads 1 (ksA ++ ksC)⟩, flatL 1 ksA, flatL 1 ksB, flatL (1 + sizeL ksA) ksC, by simp only [nodeA, flat, Nat.zero_add], by simp only [nodeA, flat, Nat.zero_add], by simp only [nodeA, flat, Nat.zero_add, flatL_append], ?_, flatL_rel 1 _ ksB ksC hks⟩
            simp only [heads_length, List.length_append, hks.1]

/-- No more nodes than tokens, and one. -/
theorem parse_len {xs : List Int} {ns : List Nd} (hp : parseS xs = .ok ns) : ns.length ≤ xs.length + 2 := by
  cases hx : lexS xs with
  | error e => simp [parseS, hx] at hp
  | ok ts =>
    simp only [parseS, hx] at hp
    cases hq : programP (ts.map ptOf) with
    | err p c => rw [hq] at hp; simp at hp
    | ok a l =>
      rw [hq] at hp
      simp only [Except.ok.injEq] at hp
      subst hp
      have h1 := program_size hq
      have h2 := lexN_len _ _ _ _ hx
      rw [List.length_map] at h1
      rw [flat_length]
      omega
end Go.Proofs.YtkakhldlmfdcdaaGreatDoor
end
section
namespace Go.Proofs.YtkakhldlmfdcdaaGreatDoor
open Go.RowKit
/-- What Parse answered. -/
def ParseOut (xs : List Int) (W : World) (p : Option Addr) (len c : Nat) (e : Value) : Prop :=
  (∃ er B, parseS xs = .error er ∧ e = .iface 74 (.pointer (some ⟨B, 0, none⟩))) ∨ (∃ ns, parseS xs = .ok ns ∧ e = .nilIface ∧ Tr.TV W p len c ns)
theorem ParseOut.on {xs : List Int} {W W' : World} {p : Option Addr} {len c : Nat} {e : Value} (h : ParseOut xs W p len c e) (hb : Below W.heap.size W W') : ParseOut xs W' p len c e := by
  rcases h with h | ⟨ns, h1, h2, h3⟩
  · exact Or.inl h
  · exact Or.inr ⟨ns, h1, h2, h3.on hb⟩
theorem parse_out {w : World} {p : Option Addr} {len c : Nat} {xs : List Int} (h : Src w p len c xs) (hb : len ≤ 65536) :
    Calls Tryz.prog 9 #[.slice p len c] w fun e w' => ∃ q l k er, e = .returned (.tuple #[.agg #[.slice q l k], er]) ∧ ParseOut xs w' q l k er ∧ Below w.heap.size w w' := by
  refine (parse_at w p len c xs h hb).mono fun e w' ⟨hb, hm⟩ => ?_
  cases hx : parseS xs with
  | error e0 =>
    rw [hx] at hm
    obtain ⟨C, l, cc, rfl, _⟩ := hm
    exact ⟨_, _, _, _, rfl, Or.inl ⟨e0, C, hx, rfl⟩, hb⟩
  | ok ns =>
    rw [hx] at hm
    obtain ⟨q, l, k, rfl, hT⟩ := hm
    exact ⟨_, _, _, _, rfl, Or.inr ⟨ns, hx, rfl, hT⟩, hb⟩
set_option maxHeartbeats 1000000 in
set_option maxRecDepth 1000000 in
theorem parseJoined_big (w : World) (p : Option Addr) (len c : Nat) (p2 : Option Addr) (len2 c2 : Nat) (hg : ET w) (hb : 500 < len ∨ 500 < len2) :
    Calls Tryz.prog 7 #[.slice p len c, .slice p2 len2 c2] w fun e w' => e = .returned (.bool true) ∧ Below w.heap.size w w' := by
  have WK := Lib.hid (works_at w hg)
  clear hg
  by_cases h1 : 500 < len
  · clear hb
    go_enter Tryz.func7, Tryz.ntmps7
    go_wp2_with fail
    (with_reducible refine WK.out.mono ?_)
    rintro e w1 ⟨rfl, hb1⟩
    go_wp2
    go_ret
    exact ⟨rfl, hb1⟩
  · have h2 : 500 < len2 := by omega
    have hd : decide (500 < (len : Int)) = false := by simp; omega
    clear hb
    go_enter Tryz.func7, Tryz.ntmps7
    go_wp2_with fail
    (with_reducible refine WK.out.mono ?_)
    rintro e w1 ⟨rfl, hb1⟩
    go_wp2
    go_ret
    exact ⟨rfl, hb1⟩
set_option maxHeartbeats 8000000 in
set_option maxRecDepth 1000000 in
theorem parseJoined_in (w : World) (p : Option Addr) (len c : Nat) (xs : List Int) (p2 : Option Addr) (len2 c2 : Nat) (ys : List Int) (hs : Src w p len c xs) (hs2 : Src w p2 len2 c2 ys) (hg : ET w) (hb : len ≤ 500) (hb2 : len2 ≤ 500) :
    Calls Tryz.prog 7 #[.slice p len c, .slice p2 len2 c2] w fun e w' => e = .returned (.bool true) ∧ Below w.heap.size w w' := by
  have LX := Lib.hid (parse_out hs (by omega))
  have HG := Lib.hid hg
  have HS := Lib.hid hs
  have HS2 := Lib.hid hs2
  clear hg hs hs2
  have hd : decide (500 < len) = false := by simp; omega
  have hd2 : decide (500 < len2) = false := by simp; omega
  go_enter Tryz.func7, Tryz.ntmps7
  go_wp2_with fail
  (with_reducible refine LX.out.mono ?_)
  rintro e w1 ⟨q1, l1, k1, e1, rfl, hO1, hb1⟩
  have B1 := Lib.hid (hb1.trans ((one_below w1 (.cells #[.slice q1 l1 k1] 26)).mono hb1.size))
  have O1 := Lib.hid (hO1.on (one_below w1 (.cells #[.slice q1 l1 k1] 26)))
  have D1 := Lib.hid (Boxed.new w1 26 (.slice q1 l1 k1))
  have LY := Lib.hid (parse_out (HS2.out.below B1.out) (by omega))
  clear hb1 LX hO1
  go_wp2_with fail
  (with_reducible refine LY.out.mono ?_)
  rintro e w2 ⟨q2, l2, k2, e2, rfl, hO2, hb2'⟩
  have hb22 := hb2'.trans ((one_below w2 (.cells #[.slice q2 l2 k2] 26)).mono hb2'.size)
  have B2 := Lib.hid (B1.out.trans (hb22.mono B1.out.size))
  have O1 := Lib.hid (O1.out.on hb22)
  have D1 := Lib.hid (boxed_on D1.out hb22)
  have O2 := Lib.hid (hO2.on (one_below w2 (.cells #[.slice q2 l2 k2] 26)))
  have D2 := Lib.hid (Boxed.new w2 26 (.slice q2 l2 k2))
  clear hb2' LY hO2 hb22
  have hsz : (w2.alloc (.cells #[.slice q2 l2 k2] 26)).heap.size = w2.heap.size + 1 := by simp
  have ho0 : ((w2.alloc (.cells #[.slice q2 l2 k2] 26)).alloc (.cells #[] 5)).ownsRow (w2.alloc (.cells #[.slice q2 l2 k2] 26)).heap.size 5 1 (.slice (some ⟨(w2.alloc (.cells #[.slice q2 l2 k2] 26)).heap.size, 0, none⟩) 0 0) 0 [] := World.ownsRow_lit _ #[] 0 (Nat.le_refl _) (by simp [maxLen]) rfl
  rw [hsz] at ho0
  go_wp2_with (at_builtin; refine wpList_append_src rfl (.tmp 34) (.tmp 35) rfl (w2.heap.size + 1) (.slice (some ⟨w2.heap.size + 1, 0, none⟩) 0 0) 0 [] rfl ho0 p len c xs rfl (HS.out.below (B2.out.trans ((one_below (w2.alloc (.cells #[.slice q2 l2 k2] 26)) _).mono B2.out.size))) (by omega) (by simp) ?_)
  intro v3 w3 hown3 hgrow3
  have b3 := Lib.hid (((one_below (w2.alloc (.cells #[.slice q2 l2 k2] 26)) (.cells #[] 5)).grown hgrow3 (by simp) (fun k hk => by simp [Value.ownBlock] at hk; simp; omega)))
  have O3 : Hid (w3.ownsRow (w2.heap.size + 1) 5 1 v3 len (xs.map (Value.int .u8))) := Lib.hid (by simpa using hown3)
  clear ho0 hown3 hgrow3
  have b3s := b3.out.size
  rw [hsz] at b3s
  go_wp2_with (at_builtin; refine wpList_append_src rfl (.tmp 36) (.tmp 37) rfl (w2.heap.size + 1) v3 len (xs.map (Value.int .u8)) rfl (O3.out.alloc _) (some ⟨w3.heap.size, 0, none⟩) 1 1 [10] rfl (src_const w3 #[.int .u8 10] [10] 1 rfl rfl (by decide) 0 0) (by omega) (by simp; omega) ?_)
  intro v4 w4 hown4 hgrow4
  have b4 := Lib.hid ((b3.out.alloc b3.out.size (.cells #[.int .u8 10] 5)).grown hgrow4 (by rw [hsz]; simp; omega) (fun k hk => by rw [hsz]; exact (O3.out.lt k hk).1))
  have O4 : Hid (w4.ownsRow (w2.heap.size + 1) 5 1 v4 (len + 1) ((xs ++ [10]).map (Value.int .u8))) := Lib.hid (by simpa using hown4)
  clear hown4 hgrow4
  have b4s := b4.out.size
  rw [hsz] at b4s
  go_wp2_with (at_builtin; refine wpList_append_src rfl (.tmp 40) (.tmp 41) rfl (w2.heap.size + 1) v4 (len + 1) ((xs ++ [10]).map (Value.int .u8)) rfl O4.out p2 len2 c2 ys rfl (HS2.out.below (B2.out.trans (b4.out.mono B2.out.size))) (by omega) (by omega) ?_)
  intro v5 w5 hown5 hgrow5
  have b5 := Lib.hid (b4.out.grown hgrow5 b4.out.size (fun k hk => by rw [hsz]; exact (O4.out.lt k hk).1))
  have O5 : Hid (w5.ownsRow (w2.heap.size + 1) 5 1 v5 (len + 1 + len2) ((xs ++ 10 :: ys).map (Value.int .u8))) := Lib.hid (by simpa using hown5)
  clear hown5 hgrow5
  obtain ⟨g5, cap5, rfl, hg5, _⟩ := O5.out.form (by omega)
  have HXb := Lib.hid (mem_byte HS.out.2.1)
  have HYb := Lib.hid (mem_byte HS2.out.2.1)
  have hsrc := src_own O5.out (by have := HS.out.1; have := HS2.out.1; simp; omega) (fun z hz => by
    rcases List.mem_append.1 hz with h | h
    · exact HXb.out z h
    · rcases List.mem_cons.1 h with rfl | h
      · decide
      · exact HYb.out z h)
  have LZ := Lib.hid (parse_out hsrc (by omega))
  clear hsrc
  go_wp2_with fail
  (with_reducible refine LZ.out.mono ?_)
  rintro e w6 ⟨q3, l3, k3, e3, rfl, hO3, hb6⟩
  have hb66 := hb6.trans ((one_below w6 (.cells #[.slice q3 l3 k3] 26)).mono hb6.size)
  have b6 := Lib.hid (b5.out.trans (hb66.mono b5.out.size))
  have B6 := Lib.hid (B2.out.trans (b6.out.mono B2.out.size))
  have X6 := Lib.hid (O1.out.on b6.out)
  have Y6 := Lib.hid (O2.out.on b6.out)
  have Z6 := Lib.hid (hO3.on (one_below w6 (.cells #[.slice q3 l3 k3] 26)))
  have D1 := Lib.hid (boxed_on D1.out b6.out)
  have D2 := Lib.hid (boxed_on D2.out b6.out)
  have D3 := Lib.hid (Boxed.new w6 26 (.slice q3 l3 k3))
  have WK := Lib.hid (works_at _ (HG.out.below B6.out))
  have hxl := Lib.hid HS.out.1
  have hyl := Lib.hid HS2.out.1
  clear hO3 hb6 hb66 LZ O1 O2 b3 b4 b5 O3 O4 O5 b3s b4s hg5 b6 B1 B2 HXb HYb hsz HS HS2
  rcases X6.out with ⟨er, B, hx, rfl⟩ | ⟨ns, hx, rfl, T1⟩
  · clear hx X6 Y6 Z6 D1 D2 D3
    go_wp2_with fail
    (with_reducible refine WK.out.mono ?_)
    rintro e w7 ⟨rfl, hb7⟩
    have B7 := Lib.hid (B6.out.trans (hb7.mono B6.out.size))
    clear hb7 WK
    go_wp2
    go_ret
    exact ⟨rfl, B7.out⟩
  · have HJ := Lib.hid (parse_join (ys := ys) hx)
    rcases Y6.out with ⟨er, B, hy, rfl⟩ | ⟨ms, hy, rfl, T2⟩
    · obtain ⟨e', hz⟩ := HJ.out.1 er hy
      rcases Z6.out with ⟨er3, B3, hz3, rfl⟩ | ⟨os, hz3, rfl, T3⟩
      · clear hx hy hz hz3 X6 Y6 Z6 D1 D2 D3 HJ T1
        go_wp2_with fail
        (with_reducible refine WK.out.mono ?_)
        rintro e w7 ⟨rfl, hb7⟩
        have B7 := Lib.hid (B6.out.trans (hb7.mono B6.out.size))
        clear hb7 WK
        go_wp2
        go_ret
        exact ⟨rfl, B7.out⟩
      · rw [hz] at hz3
        simp at hz3
    · obtain ⟨os', hz, hJ⟩ := HJ.out.2 ms hy
      rcases Z6.out with ⟨er3, B3, hz3, rfl⟩ | ⟨os, hz3, rfl, T3⟩
      · rw [hz] at hz3
        simp at hz3
      · rw [hz] at hz3
        simp only [Except.ok.injEq] at hz3
        subst hz3
        clear hz HJ
        have hn1 : ns.length ≤ 600 := by
          have := parse_len hx
          have := hxl.out
          omega
        have hn2 : ms.length ≤ 600 := by
          have := parse_len hy
          have := hyl.out
          omega
        have hs1 := parse_small hx (by have := hxl.out; omega)
        have hs2 := parse_small hy (by have := hyl.out; omega)
        obtain ⟨n0, m0, o0, nr, mr, or', rfl, rfl, rfl, hkk, hAR⟩ := hJ.ex
        have hAL := hAR.1
        obtain ⟨a, ha⟩ : ∃ a, nr.length = a := ⟨_, rfl⟩
        obtain ⟨b, hb'⟩ : ∃ b, mr.length = b := ⟨_, rfl⟩
        obtain rfl : l1 = a + 1 := by rw [← T1.len_eq, List.length_cons, ha]
        obtain rfl : l2 = b + 1 := by rw [← T2.len_eq, List.length_cons, hb']
        obtain rfl : l3 = a + b + 1 := by rw [← T3.len_eq, List.length_cons, List.length_append, ha, ← hAL, hb']
        obtain ⟨g1, o1, rfl, hg1, hc1⟩ := T1.node (by omega)
        obtain ⟨g2, o2, rfl, hg2, hc2⟩ := T2.node (by omega)
        obtain ⟨g3, o3, rfl, hg3, hc3⟩ := T3.node (by omega)
        obtain ⟨kp1, kl1, kc1, hn1'⟩ := hc1 0 (by omega)
        obtain ⟨kp2, kl2, kc2, hn2'⟩ := hc2 0 (by omega)
        obtain ⟨kp3, kl3, kc3, hn3'⟩ := hc3 0 (by omega)
        have r1 := hn1'.kids
        have r2 := hn2'.kids
        have r3 := hn3'.kids
        have e1 : n0.kids.length = kl1 := hn1'.iv.len_eq
        have e2 : m0.kids.length = kl2 := hn2'.iv.len_eq
        have e3 : o0.kids.length = kl3 := hn3'.iv.len_eq
        have f1 := hs1.each n0 (by simp)
        have f2 := hs2.each m0 (by simp)
        obtain rfl : kl3 = kl1 + kl2 := by omega
        rw [e1] at f1
        rw [e2] at f2
        have ha6 : a ≤ 600 := by simp at hn1; omega
        have hb6 : b ≤ 600 := by simp at hn2; omega
        rw [Nat.zero_mul, Nat.add_zero] at r1 r2 r3
        have A1 := Lib.hid T1
        have A2 := Lib.hid T2
        have A3 := Lib.hid T3
        have HA := Lib.hid ha
        have HBl := Lib.hid hb'
        have HAR := Lib.hid hAR
        have c1 := D1.out.cell
        have c2 := D2.out.cell
        have c3 := D3.out.cell
        clear hx hy X6 Y6 Z6 T1 T2 T3 hJ hd hd2 hAR hAL ha hb' hc1 hc2 hc3 hn1' hn2' hn3' e1 e2 e3 hs1 hs2 hkk hn1 hn2 hg1 hg2 hg3
        have u1 : ((a : Int) + 1 == 0) = false := by simp; omega
        have u2 : ((b : Int) + 1 == 0) = false := by simp; omega
        have u3 : ((a : Int) + (b : Int) + 1 == 0) = false := by simp; omega
        have u4 : ((a : Int) + (b : Int) + 1 != IntKind.i64.wrap (IntKind.i64.wrap ((a : Int) + 1 + ((b : Int) + 1)) - 1)) = false := by
          rw [IntWalk.i64_in ((a : Int) + 1 + ((b : Int) + 1)) (by omega), IntWalk.i64_in _ (by omega)]
          simp
          omega
        have u5 : ((kl1 : Int) + (kl2 : Int) != IntKind.i64.wrap ((kl1 : Int) + (kl2 : Int))) = false := by
          rw [IntWalk.i64_in _ (by omega)]
          simp
        have u6 : (0 : Int) ≤ (a : Int) + (b : Int) := by omega
        have u7 : (0 : Int) < (a : Int) + (b : Int) + 1 := by omega
        go_wp2_with fail
        go_quiet (fail)
        clear u6 u7 r1 r2 r3 u1 u2 u3 u4 u5 c1 c2 c3
        have HB0 := Lib.hid (drewN_below (w6.alloc (.cells #[.slice (some ⟨g3, o3, none⟩) (a + b + 1) k3] 26)).heap.size (w6.alloc (.cells #[.slice (some ⟨g3, o3, none⟩) (a + b + 1) k3] 26)) nq)
        generalize (w6.alloc (.cells #[.slice (some ⟨g3, o3, none⟩) (a + b + 1) k3] 26)) = W6 at *
        go_wp2_with fail
        go_loopw [12] (fun iv wr => ∃ k : Nat, 1 ≤ k ∧ k ≤ a + b + 1 ∧ iv = .int .i64 k ∧ Hid (Below W6.heap.size W6 wr)) (fun iv _ => a + b + 1 - (intOf iv).toNat)
        case atStart => exact ⟨1, by omega, by omega, rfl, HB0⟩
        case round =>
          obtain ⟨k, hk1, hk, rfl, HB⟩ := hrel
          have c1 := (boxed_on D1.out HB.out).cell
          have c2 := (boxed_on D2.out HB.out).cell
          have c3 := (boxed_on D3.out HB.out).cell
          have tl1 := D1.out.lt
          have tl2 := D2.out.lt
          have tl3 := D3.out.lt
          have hbs := HB.out.size
          by_cases hlt : k < a + b + 1
          · obtain ⟨g3', o3', e3', hg3, hc3⟩ := (A3.out.on HB.out).node (by omega)
            simp only [Option.some.injEq, Addr.mk.injEq, and_true] at e3'
            obtain ⟨rfl, rfl⟩ := e3'
            obtain ⟨kp3, kl3, kc3, N3⟩ := hc3 k hlt
            clear hc3
            by_cases hka : k < a + 1
            · obtain ⟨g1', o1', e1', hg1, hc1⟩ := (A1.out.on HB.out).node (by omega)
              simp only [Option.some.injEq, Addr.mk.injEq, and_true] at e1'
              obtain ⟨rfl, rfl⟩ := e1'
              obtain ⟨kp1, kl1', kc1, N1⟩ := hc1 k hka
              clear hc1
              have enode : (n0 :: nr).getD k default = (o0 :: (nr ++ or')).getD k default := by
                obtain ⟨j, rfl⟩ : ∃ j, k = j + 1 := ⟨k - 1, by omega⟩
                have : j < nr.length := by have := HA.out; omega
                simp [List.getD, List.getElem?_append_left this]
              rw [enode] at N1
              have hkl : kl1' = kl3 := N1.iv.len_eq.symm.trans N3.iv.len_eq
              subst hkl
              have x0 := N1.kind
              have x1 := N1.at'
              have x2 := N1.text
              have x3 := N1.n
              have x4 := N1.kids
              have z0 := N3.kind
              have z1 := N3.at'
              have z2 := N3.text
              have z3 := N3.n
              have z4 := N3.kids
              generalize ((o0 :: (nr ++ or')).getD k default).kind = kd at *
              generalize ((o0 :: (nr ++ or')).getD k default).at' = at' at *
              generalize ((o0 :: (nr ++ or')).getD k default).text = tx at *
              generalize ((o0 :: (nr ++ or')).getD k default).n = tn at *
              have hg1n : g1 ≠ wr.heap.size := by omega
              have hg3n : g3 ≠ wr.heap.size := by omega
              have PP : ∀ g o : Nat, g < wr.heap.size → ((wr.alloc (.cells #[.int .u8 kd, .int .i64 at', .string tx, .int .i64 tn, .slice kp3 kl1' kc3] 53)).alloc (.cells #[.int .u8 0, .int .i64 0, .string ⟨#[]⟩, .int .i64 0, .slice none 0 0] 53)).cell? ⟨g, o, none⟩ = wr.cell? ⟨g, o, none⟩ := fun g o hg => by
                rw [World.cell?_alloc_past _ _ _ (by simp; omega), World.cell?_alloc_past _ _ _ hg]
              have c1' := (PP w1.heap.size 0 (by omega)).trans c1
              have y0 := (PP g1 (o1 + k * 5) hg1).trans x0
              have y1 := (PP g1 (o1 + k * 5 + 1) hg1).trans x1
              have y2 := (PP g1 (o1 + k * 5 + 2) hg1).trans x2
              have y3 := (PP g1 (o1 + k * 5 + 3) hg1).trans x3
              have y4 := (PP g1 (o1 + k * 5 + 4) hg1).trans x4
              clear PP x0 x1 x2 x3 x4 c1
              clear N1 N3 enode
              have hi0 : (0 : Int) ≤ (k : Int) := by omega
              have hi1 : (k : Int) < (a : Int) + 1 := by omega
              have hi2 : (k : Int) < (a : Int) + (b : Int) + 1 := by omega
              go_wp2_with fail
              have HB2 := Lib.hid (HB.out.trans ((two_below wr (.cells #[.int .u8 kd, .int .i64 at', .string tx, .int .i64 tn, .slice kp3 kl1' kc3] 53) (.cells #[.int .u8 kd, .int .i64 at', .string tx, .int .i64 tn, .slice kp1 kl1' kc1] 53)).mono HB.out.size))
              go_roundw
              case rel => exact ⟨k + 1, by omega, by omega, by go_num, HB2⟩
              case measure => simp [intOf]; omega
            · obtain ⟨j, rfl⟩ : ∃ j, k = a + j := ⟨k - a, by omega⟩
              have hj1 : 1 ≤ j := by omega
              have hjb : j < b + 1 := by omega
              obtain ⟨g2', o2', e2', hg2, hc2⟩ := (A2.out.on HB.out).node (by omega)
              simp only [Option.some.injEq, Addr.mk.injEq, and_true] at e2'
              obtain ⟨rfl, rfl⟩ := e2'
              obtain ⟨kp1, kl1', kc1, N1⟩ := hc2 j hjb
              clear hc2
              obtain ⟨u, v, hu, hv, eu, ev⟩ : ∃ u v : Nd, mr[j - 1]? = some u ∧ or'[j - 1]? = some v ∧ (m0 :: mr).getD j default = u ∧ (o0 :: (nr ++ or')).getD (a + j) default = v := by
                have h1 : j - 1 < mr.length := by have := HBl.out; omega
                have h2 : j - 1 < or'.length := by rw [← HAR.out.1]; exact h1
                refine ⟨mr[j - 1], or'[j - 1], List.getElem?_eq_getElem h1, List.getElem?_eq_getElem h2, ?_, ?_⟩
                · obtain ⟨i, rfl⟩ : ∃ i, j = i + 1 := ⟨j - 1, by omega⟩
                  simp only [List.getD, List.getElem?_cons_succ, Nat.add_sub_cancel] at h1 ⊢
                  rw [List.getElem?_eq_getElem h1]
                  rfl
                · obtain ⟨i, rfl⟩ : ∃ i, j = i + 1 := ⟨j - 1, by omega⟩
                  simp only [List.getD, ← Nat.add_assoc, List.getElem?_cons_succ, Nat.add_sub_cancel] at h2 ⊢
                  rw [List.getElem?_append_right (by have := HA.out; omega), show a + i - nr.length = i by have := HA.out; omega, List.getElem?_eq_getElem h2]
                  rfl
              obtain ⟨r0, r1, r2, r3, q, q', hq, hq', hqq, hqm⟩ := HAR.out.2 (j - 1) u v hu hv
              rw [eu] at N1
              rw [ev] at N3
              have hkl : kl1' = kl3 := by
                have h1 := N1.iv.len_eq
                have h2 := N3.iv.len_eq
                omega
              subst hkl
              have x0 := N1.kind
              have x1 := N1.at'
              have x2 := N1.text
              have x3 := N1.n
              have x4 := N1.kids
              have z0 := N3.kind
              have z1 := N3.at'
              have z2 := N3.text
              have z3 := N3.n
              have z4 := N3.kids
              have hq5 : q ≤ 500 := by have := hyl.out; omega
              have hqe : q' = q + len + 1 := by have := hxl.out; omega
              subst hqe
              rw [hq] at x1
              rw [hq', show ((q + len + 1 : Nat) : Int) = (q : Int) + (len : Int) + 1 by omega] at z1
              rw [r0] at x0
              rw [r1] at x2
              rw [r2] at x3
              generalize v.kind = kd at *
              generalize v.text = tx at *
              generalize v.n = tn at *
              clear r0 r1 r2 r3 hq hq' hqq hqm N1 N3 eu ev hu hv
              have PP : ∀ g o : Nat, g < wr.heap.size → ((wr.alloc (.cells #[.int .u8 kd, .int .i64 ((q : Int) + (len : Int) + 1), .string tx, .int .i64 tn, .slice kp3 kl1' kc3] 53)).alloc (.cells #[.int .u8 0, .int .i64 0, .string ⟨#[]⟩, .int .i64 0, .slice none 0 0] 53)).cell? ⟨g, o, none⟩ = wr.cell? ⟨g, o, none⟩ := fun g o hg => by
                rw [World.cell?_alloc_past _ _ _ (by simp; omega), World.cell?_alloc_past _ _ _ hg]
              have c1' := (PP w1.heap.size 0 (by omega)).trans c1
              have c2' := (PP w2.heap.size 0 (by omega)).trans c2
              have y0 := (PP g2 (o2 + j * 5) hg2).trans x0
              have y1 := (PP g2 (o2 + j * 5 + 1) hg2).trans x1
              have y2 := (PP g2 (o2 + j * 5 + 2) hg2).trans x2
              have y3 := (PP g2 (o2 + j * 5 + 3) hg2).trans x3
              have y4 := (PP g2 (o2 + j * 5 + 4) hg2).trans x4
              clear PP x0 x1 x2 x3 x4 c1 c2
              have hi1 : ¬ (j : Int) < 1 := by omega
              have hi2 : ¬ (a : Int) + (j : Int) < (a : Int) + 1 := by omega
              have hi3 : (j : Int) < (b : Int) + 1 := by omega
              have hi4 : (a : Int) + (j : Int) < (a : Int) + (b : Int) + 1 := by omega
              have hjj : ((a : Int) + (j : Int) - ((a : Int) + 1) + 1).toNat = j := by omega
              have HB2 := Lib.hid (HB.out.trans ((two_below wr (.cells #[.int .u8 kd, .int .i64 ((q : Int) + (len : Int) + 1), .string tx, .int .i64 tn, .slice kp3 kl1' kc3] 53) (.cells #[.int .u8 kd, .int .i64 ((q : Int) + (len : Int) + 1), .string tx, .int .i64 tn, .slice kp1 kl1' kc1] 53)).mono HB.out.size))
              go_wp2_with fail
              go_roundw
              case rel => exact ⟨a + j + 1, by omega, by omega, by go_num, HB2⟩
              case measure => simp [intOf]; omega
          · have hkk : k = a + b + 1 := by omega
            have WK := Lib.hid (works_at wr (HG.out.below (B6.out.trans (HB.out.mono B6.out.size))))
            clear hkk
            go_wp2_with fail
            (with_reducible refine WK.out.mono ?_)
            rintro e w7 ⟨rfl, hb7⟩
            have B7 := Lib.hid (B6.out.trans ((HB.out.trans (hb7.mono HB.out.size)).mono B6.out.size))
            clear hb7 WK
            go_wp2
            go_ret
            exact ⟨rfl, B7.out⟩
theorem parseJoined (w : World) (p : Option Addr) (len c : Nat) (xs : List Int) (p2 : Option Addr) (len2 c2 : Nat) (ys : List Int) (hs : Src w p len c xs) (hs2 : Src w p2 len2 c2 ys) (hg : ET w) :
    Calls Tryz.prog 7 #[.slice p len c, .slice p2 len2 c2] w fun e w' => e = .returned (.bool true) ∧ Below w.heap.size w w' := by
  by_cases hb : 500 < len ∨ 500 < len2
  · exact parseJoined_big w p len c p2 len2 c2 hg hb
  · exact parseJoined_in w p len c xs p2 len2 c2 ys hs hs2 hg (by omega) (by omega)
end Go.Proofs.YtkakhldlmfdcdaaGreatDoor
end
