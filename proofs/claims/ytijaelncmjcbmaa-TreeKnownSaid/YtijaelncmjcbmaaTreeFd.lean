import Derived.Test.YtijaelncmjcbmaaTreeRs
namespace Go.Proofs.Ytijaelncmjcbmaa
open Go.RowKit
def findF (ns : List Nd) (at' : Int) : Nat → Int
  | 0 => -1
  | m + 1 => if (ns.getD m default).at' = at' then (m : Int) else findF ns at' m
set_option maxHeartbeats 4000000 in
theorem find_at (w : World) (p : Option Addr) (len c : Nat) (ns : List Nd) (a : Int) (h : TV w p len c ns) (hl : len ≤ 1000) :
    Calls Try.prog 19 #[.agg #[.slice p len c], .int .i64 a] w fun e w' => e = .returned (.int .i64 (findF ns a ns.length)) ∧ Below w.heap.size w w' := by
  have hlen := Lib.hid h.len_eq
  have H := Lib.hid h
  clear h
  have B0 := Lib.hid (one_below w (.cells #[.slice p len c] 24))
  have hw1 : IntKind.i64.wrap ((len : Int) - 1) = (len : Int) - 1 := IntWalk.i64_in _ (by omega)
  go_enter Try.func19, Try.ntmps19
  go_wp2_with fail
  go_loopw [5] (fun iv wr => ∃ m : Nat, m ≤ len ∧ iv = .int .i64 ((m : Int) - 1) ∧ Hid (findF ns a m = findF ns a ns.length) ∧ wr = w.alloc (.cells #[.slice p len c] 24)) (fun iv _ => (intOf iv + 1).toNat)
  case atStart => exact ⟨len, by omega, rfl, Lib.hid (by rw [hlen.out]), rfl⟩
  case round =>
    obtain ⟨m, hm, rfl, HF, rfl⟩ := hrel
    by_cases hm0 : m = 0
    · subst hm0
      have HZ : Hid (findF ns a ns.length = -1) := Lib.hid (by rw [← HF.out]; rfl)
      clear hw1
      go_wp2
      go_ret
      exact ⟨retI HZ.out.symm, B0.out⟩
    · obtain ⟨q, rfl⟩ : ∃ q, m = q + 1 := ⟨m - 1, by omega⟩
      have hq : ((q + 1 : Nat) : Int) - 1 = (q : Int) := by omega
      rw [hq]
      have hql : q < len := by omega
      obtain ⟨b, off, rfl, hbl, hc⟩ := (H.out.on B0.out).node (by omega)
      obtain ⟨kp, kl, kc, hn⟩ := hc q hql
      have k1 := hn.at'
      have HFS : Hid (findF ns a (q + 1) = if (ns.getD q default).at' = a then (q : Int) else findF ns a q) := Lib.hid rfl
      generalize (ns.getD q default).at' = x at *
      have hw2 : IntKind.i64.wrap ((q : Int) - 1) = (q : Int) - 1 := IntWalk.i64_in _ (by omega)
      clear hn hc hq hw1
      by_cases hx : x = a
      · have d1 : (x == a) = true := by simpa using hx
        have HZ : Hid (findF ns a ns.length = q) := Lib.hid (by rw [← HF.out, HFS.out, if_pos hx])
        clear hx
        go_wp2
        go_ret
        exact ⟨retI HZ.out.symm, B0.out⟩
      · have d1 : (x == a) = false := by simpa using hx
        have HZ : Hid (findF ns a q = findF ns a ns.length) := Lib.hid (by rw [← HF.out, HFS.out, if_neg hx])
        clear hx
        go_wp2_with fail
        go_roundw
        case rel => exact ⟨q, by omega, rfl, HZ, trivial⟩
        case measure => (simp [intOf]; try omega)
set_option maxHeartbeats 4000000 in
theorem refFind_at (w : World) (p : Option Addr) (len c : Nat) (ns : List Nd) (a : Int) (h : TV w p len c ns) (hl : len ≤ 1000) :
    Calls Try.prog 20 #[.slice p len c, .int .i64 a] w fun e w' => e = .returned (.int .i64 (findF ns a ns.length)) ∧ Below w.heap.size w w' := by
  have hlen := Lib.hid h.len_eq
  have H := Lib.hid h
  clear h
  have hw1 : IntKind.i64.wrap ((len : Int) - 1) = (len : Int) - 1 := IntWalk.i64_in _ (by omega)
  go_enter Try.func20, Try.ntmps20
  go_wp2_with fail
  go_loopw [5] (fun iv wr => ∃ m : Nat, m ≤ len ∧ iv = .int .i64 ((m : Int) - 1) ∧ Hid (findF ns a m = findF ns a ns.length) ∧ wr = w) (fun iv _ => (intOf iv + 1).toNat)
  case atStart => exact ⟨len, by omega, rfl, Lib.hid (by rw [hlen.out]), rfl⟩
  case round =>
    obtain ⟨m, hm, rfl, HF, rfl⟩ := hrel
    by_cases hm0 : m = 0
    · subst hm0
      have HZ : Hid (findF ns a ns.length = -1) := Lib.hid (by rw [← HF.out]; rfl)
      clear hw1
      go_wp2
      go_ret
      exact ⟨retI HZ.out.symm, Below.refl _ _⟩
    · obtain ⟨q, rfl⟩ : ∃ q, m = q + 1 := ⟨m - 1, by omega⟩
      have hq : ((q + 1 : Nat) : Int) - 1 = (q : Int) := by omega
      rw [hq]
      have hql : q < len := by omega
      obtain ⟨b, off, rfl, hbl, hc⟩ := H.out.node (by omega)
      obtain ⟨kp, kl, kc, hn⟩ := hc q hql
      have k1 := hn.at'
      have HFS : Hid (findF ns a (q + 1) = if (ns.getD q default).at' = a then (q : Int) else findF ns a q) := Lib.hid rfl
      generalize (ns.getD q default).at' = x at *
      have hw2 : IntKind.i64.wrap ((q : Int) - 1) = (q : Int) - 1 := IntWalk.i64_in _ (by omega)
      clear hn hc hq hw1
      by_cases hx : x = a
      · have d1 : (x == a) = true := by simpa using hx
        have HZ : Hid (findF ns a ns.length = q) := Lib.hid (by rw [← HF.out, HFS.out, if_pos hx])
        clear hx
        go_wp2
        go_ret
        exact ⟨retI HZ.out.symm, Below.refl _ _⟩
      · have d1 : (x == a) = false := by simpa using hx
        have HZ : Hid (findF ns a q = findF ns a ns.length) := Lib.hid (by rw [← HF.out, HFS.out, if_neg hx])
        clear hx
        go_wp2_with fail
        go_roundw
        case rel => exact ⟨q, by omega, rfl, HZ, trivial⟩
        case measure => (simp [intOf]; try omega)
/-! Places do not matter. -/
def forget (nd : Nd) : Nd := { nd with at' := 0 }
theorem forget_len {ns ms : List Nd} (h : ns.map forget = ms.map forget) : ns.length = ms.length := by
  have := congrArg List.length h
  simpa using this
theorem forget_at {ns ms : List Nd} (h : ns.map forget = ms.map forget) (i : Nat) : forget (ns.getD i default) = forget (ms.getD i default) := by
  have hl := forget_len h
  by_cases hi : i < ns.length
  · have h1 := congrArg (fun l : List Nd => l[i]?) h
    simp only [List.getElem?_map] at h1
    rw [List.getElem?_eq_getElem hi, List.getElem?_eq_getElem (by omega)] at h1
    simpa [List.getD, hi, show i < ms.length by omega] using h1
  · simp [List.getD, List.getElem?_eq_none (show ns.length ≤ i by omega), List.getElem?_eq_none (show ms.length ≤ i by omega)]
theorem same_forget {ns ms : List Nd} (h : ns.map forget = ms.map forget) : sameP ns ms = true := by
  unfold sameP
  rw [decide_eq_true (forget_len h), Bool.true_and, List.all_eq_true]
  intro i _
  have h1 := forget_at h i
  simp only [forget, Nd.mk.injEq] at h1
  unfold sameNd
  rw [h1.1, h1.2.2.1, h1.2.2.2.1, h1.2.2.2.2]
  simp
theorem kind_forget {ns ms : List Nd} (h : ns.map forget = ms.map forget) : kindAt ns = kindAt ms := by
  funext i
  have h1 := forget_at h i
  simp only [forget, Nd.mk.injEq] at h1
  exact h1.1
theorem kids_forget {ns ms : List Nd} (h : ns.map forget = ms.map forget) : kidsAt ns = kidsAt ms := by
  funext i
  have h1 := forget_at h i
  simp only [forget, Nd.mk.injEq] at h1
  exact h1.2.2.2.2
theorem rows_forget {ns ms : List Nd} (h : ns.map forget = ms.map forget) : rowsOf ns = rowsOf ms := by
  have h1 := congrArg (List.map Nd.kids) h
  simp only [List.map_map] at h1
  exact h1
theorem sizes_forget {ns ms : List Nd} (h : ns.map forget = ms.map forget) : sizesP ns = sizesP ms := by
  unfold sizesP
  rw [rows_forget h]
theorem ruled_forget {ns ms : List Nd} (h : ns.map forget = ms.map forget) : ruledP ns = ruledP ms := by
  have key : ∀ (t : List Nd) (nd : Nd), nodeOk t nd = nodeOk t (forget nd) := fun t nd => rfl
  have h2 : ∀ t : List Nd, kindAt t = kindAt ms → t.all (nodeOk t) = (t.map forget).all (nodeOk ms) := by
    intro t ht
    rw [List.all_map]
    congr 1
    funext nd
    show nodeOk t nd = nodeOk ms (forget nd)
    rw [← key]
    unfold nodeOk kindsOf
    rw [ht]
  unfold ruledP
  rw [h2 ns (kind_forget h), h2 ms rfl, h]
theorem right_forget {ns ms : List Nd} (h : ns.map forget = ms.map forget) : rightP ns = rightP ms := by
  unfold rightP
  rw [sizes_forget h, ruled_forget h, kind_forget h]
theorem size_forget {ns ms : List Nd} (h : ns.map forget = ms.map forget) (i : Int) : sizeP ns i = sizeP ms i := by
  unfold sizeP
  rw [right_forget h, sizes_forget h, forget_len h]
theorem deep_forget {ns ms : List Nd} (h : ns.map forget = ms.map forget) : deepP ns = deepP ms := by
  have h1 : ownK ns = ownK ms := by
    funext i j
    unfold ownK
    rw [kind_forget h]
  unfold deepP
  rw [right_forget h, h1, kids_forget h, forget_len h]
theorem small_forget {ns ms : List Nd} (h : ns.map forget = ms.map forget) (hS : Small ns) : Small ms where
  len := by rw [← forget_len h]; exact hS.len
  each := fun nd hm => by
    obtain ⟨i, hi, rfl⟩ := List.mem_iff_getElem.1 hm
    have hl := forget_len h
    have h1 := forget_at h i
    have hi2 : i < ns.length := by omega
    have h2 := hS.each ns[i] (List.getElem_mem hi2)
    simp only [List.getD, List.getElem?_eq_getElem hi, List.getElem?_eq_getElem hi2, Option.getD_some, forget, Nd.mk.injEq] at h1
    rw [← h1.2.2.2.2, ← h1.2.2.1]
    exact h2
end Go.Proofs.Ytijaelncmjcbmaa
