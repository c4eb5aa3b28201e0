/- Contracts on the way to the laws of layer 5: ParseRs, ParseRt, ParseRq, ParseRu, ParseRv, ParseRw, ParseRx, ParseRy. -/
import Derived.Test.YtpemghcafbedeaaGreatDoorKaq
import Derived.Test.YtpemghcafbedeaaGreatDoorKar
import Derived.Test.YtpemghcafbedeaaGreatDoorKas
import Derived.Deep.RegionHeld3
import Derived.Deep.LoopGhost
import Derived.Deep.Cut
set_option linter.all false
section
namespace Go.Proofs.YtpemghcafbedeaaGreatDoor.Rf
open Go.RowKit Par
section
variable {α β : Type} {E : Env} {v : Value} {kvs : List Value} {md : List Nd} {i : Nat} {d e : Int} {w w' : World}
def left {α : Type} (R : Res α) : Nat := match R with
  | .err _ _ => 0
  | .ok _ l => l.length
def Nq (E : Env) (v : Value) (kvs : List Value) (B q0 q1 : Nat) (b : Nat) : Prop := Nx E v kvs B b ∧ b ≠ q0 ∧ b ≠ q1
structure LpX (E : Env) (v : Value) (kvs : List Value) (md : List Nd) (d : Int) (w : World) (q0 q1 : Nat) (R : Res Ast) (k1 a1 : Int) (t1 : ByteArray) (n1 : Int) (p1 : Option Addr) (l1 c1 : Nat) (wr : World) : Prop where
  at' : At E v kvs md d R wr
  fr : Fr E w.heap.size v v w wr
  L0 : Lcl E v kvs q0 (.cells #[.int .u8 0, .int .i64 0, .string ⟨#[]⟩, .int .i64 0, .slice none 0 0] 231 (0, 0)) wr
  L1 : Lcl E v kvs q1 (.cells #[.int .u8 k1, .int .i64 a1, .string t1, .int .i64 n1, .slice p1 l1 c1] 231 (0, 0)) wr
  ge : w.heap.size ≤ q0 ∧ w.heap.size ≤ q1 ∧ q0 ≠ q1
  ex : ∀ y l', R = .ok y l' → ExprV wr (Nq E v kvs w.heap.size q0 q1) y (.agg #[.int .u8 k1, .int .i64 a1, .string t1, .int .i64 n1, .slice p1 l1 c1])
theorem left_le {β : Type} {fac : Par β} (hl : Less fac) (l : List PT) (f : β → Ast) : left (then' (fac l) fun b => Par.pure (f b)) ≤ l.length := by
  cases h : fac l with
  | err p c => simp [then', left]
  | ok b l' => exact hl l b l' h
theorem times_more {fac : Par Ast} (hl : Less fac) {y : Ast} {t : PT} {l : List PT} (ht : t.txt = ⟨#[42]⟩) : then' (.ok y (t :: l)) (many (timesStep fac)) = then' (then' (fac l) fun b => Par.pure (bothA 25 y b)) (many (timesStep fac)) := by
  simp only [then']
  have hs : timesStep fac y (t :: l) = match fac l with | .err p c => .err p c | .ok b l' => .ok (some (bothA 25 y b)) l' := by
    simp only [timesStep, Par.bind, skipP, if_pos ht, Par.pure]
    cases fac l <;> rfl
  cases hf : fac l with
  | err p c =>
    rw [hf] at hs
    exact many_err hs
  | ok b l' =>
    rw [hf] at hs
    exact many_more (step_times hl) hs
theorem times_done {fac : Par Ast} {y : Ast} {t : PT} {l : List PT} (ht : ¬ t.txt = ⟨#[42]⟩) : then' (.ok y (t :: l)) (many (timesStep fac)) = .ok y (t :: l) := by
  simp only [then']
  refine many_done ?_
  simp only [timesStep, Par.bind, skipP, if_neg ht, Par.pure]
theorem ExprV.frq {B B' q0 q1 : Nat} {a : Ast} {x : Value} (h : ExprV w (Nq E v kvs B q0 q1) a x) (hf : Fr E B' v v w w') (hB : w.heap.size ≤ B') : ExprV w' (Nq E v kvs B q0 q1) a x :=
  ExprV.on hf.size (fun k hk hl => hf.block k (by omega) (by have := hk.1.1.lt; omega) hk.1.1.v) (fun k hk _ => hk) a x h
theorem ExprV.setq {B q0 q1 : Nat} {a : Ast} {x : Value} (h : ExprV w (Nq E v kvs B q0 q1) a x) {q : Addr} (hq : q.block = E.b ∨ q.block = q0 ∨ q.block = q1) (u : Value) : ExprV (w.setCell q u) (Nq E v kvs B q0 q1) a x :=
  ExprV.on (by simp [World.setCell]) (fun k hk _ => Below.heap_setCell w q u k (by
    rcases hq with e | e | e
    · rw [e]; have := hk.1.1.lt; omega
    · rw [e]; exact hk.2.1
    · rw [e]; exact hk.2.2)) (fun k hk _ => hk) a x h
theorem ExprV.setq5 {B q0 q1 q : Nat} {a : Ast} {x : Value} (h : ExprV w (Nq E v kvs B q0 q1) a x) (hq : q = q0 ∨ q = q1) (a1 b c e f : Value) : ExprV (((((w.setCell ⟨q, 0, none⟩ a1).setCell ⟨q, 1, none⟩ b).setCell ⟨q, 2, none⟩ c).setCell ⟨q, 3, none⟩ e).setCell ⟨q, 4, none⟩ f) (Nq E v kvs B q0 q1) a x :=
  ((((h.setq (q := ⟨q, 0, none⟩) (Or.inr hq) a1).setq (q := ⟨q, 1, none⟩) (Or.inr hq) b).setq (q := ⟨q, 2, none⟩) (Or.inr hq) c).setq (q := ⟨q, 3, none⟩) (Or.inr hq) e).setq (q := ⟨q, 4, none⟩) (Or.inr hq) f
theorem ExprV.allocq {B q0 q1 : Nat} {a : Ast} {x : Value} (h : ExprV w (Nq E v kvs B q0 q1) a x) (o : Obj) : ExprV (w.alloc o) (Nq E v kvs B q0 q1) a x :=
  ExprV.on (by simp) (fun k _ hl => Below.heap_alloc _ _ _ hl) (fun k hk _ => hk) a x h
theorem ExprV.drewq {B q0 q1 : Nat} {a : Ast} {x : Value} (h : ExprV w (Nq E v kvs B q0 q1) a x) (m : Nat) : ExprV (w.drewN m) (Nq E v kvs B q0 q1) a x :=
  ExprV.on (W := w) (W' := w.drewN m) (Nat.le_refl _) (fun _ _ _ => rfl) (fun k hk _ => hk) a x h
theorem ExprV.nq {B B' q0 q1 : Nat} {a : Ast} {x : Value} (h : ExprV w (Nx E v kvs B') a x) (hB : B ≤ B') (h0 : q0 < B') (h1 : q1 < B') : ExprV w (Nq E v kvs B q0 q1) a x :=
  ExprV.on (Nat.le_refl _) (fun _ _ _ => rfl) (fun k hk _ => ⟨⟨hk.1, by have := hk.2; omega⟩, by have := hk.2; omega, by have := hk.2; omega⟩) a x h
theorem ExprV.unq {B q0 q1 : Nat} {a : Ast} {x : Value} (h : ExprV w (Nq E v kvs B q0 q1) a x) : ExprV w (Nx E v kvs B) a x :=
  ExprV.on (Nat.le_refl _) (fun _ _ _ => rfl) (fun k hk _ => hk.1) a x h
theorem ExprV.node2q {P : Nat → Prop} {b : Nat} {y z : Ast} {c0 c1 c2 c3 c4 e0 e1 e2 e3 e4 : Value} {T : TypeId} (hP : P b) (hs : b < w.heap.size) (ho : w.heap[b]? = some (.cells #[c0, c1, c2, c3, c4, e0, e1, e2, e3, e4] T (0, 0))) (k : Int) (a : Nat) (t : ByteArray) (n : Int)
    (h : ExprV w P y (.agg #[c0, c1, c2, c3, c4])) (h' : ExprV w P z (.agg #[e0, e1, e2, e3, e4])) :
    ExprV w P (.mk k a t n [y, z]) (.agg #[.int .u8 k, .int .i64 (a : Int), .string t, .int .i64 n, .slice (some ⟨b, 0, none⟩) 2 2]) := by
  unfold ExprV
  refine ⟨_, rfl, Or.inr ⟨b, hP, hs, rfl, ?_⟩⟩
  simp only [ExprL, and_true]
  exact ⟨⟨c0, c1, c2, c3, c4, h, by rw [cell_of_row _ _ _ _ _ _ ho]; rfl, by rw [cell_of_row _ _ _ _ _ _ ho]; rfl, by rw [cell_of_row _ _ _ _ _ _ ho]; rfl, by rw [cell_of_row _ _ _ _ _ _ ho]; rfl, by rw [cell_of_row _ _ _ _ _ _ ho]; rfl⟩,
    ⟨e0, e1, e2, e3, e4, h', by rw [cell_of_row _ _ _ _ _ _ ho]; rfl, by rw [cell_of_row _ _ _ _ _ _ ho]; rfl, by rw [cell_of_row _ _ _ _ _ _ ho]; rfl, by rw [cell_of_row _ _ _ _ _ _ ho]; rfl, by rw [cell_of_row _ _ _ _ _ _ ho]; rfl⟩⟩
theorem ExprV.at1 {P : Nat → Prop} {y : Ast} {k1 a1 : Int} {t1 : ByteArray} {n1 : Int} {p1 : Option Addr} {l1 c1 : Nat} (h : ExprV w P y (.agg #[.int .u8 k1, .int .i64 a1, .string t1, .int .i64 n1, .slice p1 l1 c1])) : a1 = (y.at' : Int) := by
  cases y with
  | mk k a t n ks =>
    obtain ⟨kp, hv, _⟩ := h.open
    simp only [Value.agg.injEq, Array.mk.injEq, List.cons.injEq, Value.int.injEq] at hv
    exact hv.2.1.2
end
section
variable {α β : Type} {E : Env} {v : Value} {kvs : List Value} {md : List Nd} {i : Nat} {d e : Int} {w w' : World}
abbrev set5 (w : World) (q : Nat) (a b c e f : Value) : World := ((((w.setCell ⟨q, 0, none⟩ a).setCell ⟨q, 1, none⟩ b).setCell ⟨q, 2, none⟩ c).setCell ⟨q, 3, none⟩ e).setCell ⟨q, 4, none⟩ f
def RelT (E : Env) (v : Value) (kvs : List Value) (md : List Nd) (d : Int) (w : World) (q1 : Nat) (fac : Par Ast) (S : Res Ast) (g : Nat) (wr : World) : Prop :=
  ∃ (R1 : Res Ast) (k1 a1 : Int) (t1 : ByteArray) (m1 : Int) (p1 : Option Addr) (l1 c1 : Nat), Hid (left R1 ≤ g) ∧ Hid (then' R1 (many (timesStep fac)) = S) ∧ Hid (LpX E v kvs md d w w.heap.size q1 R1 k1 a1 t1 m1 p1 l1 c1 wr)
set_option maxRecDepth 1000000 in
set_option maxHeartbeats 8000000 in
theorem term_x {fac : Par Ast} {d : Int} (hf : HasX 229 d fac) (hl : Less fac) : HasX 223 d (termP fac) := by
  intro E v kvs md w α R h
  have HFX := Lib.hid hf
  have HLS := Lib.hid hl
  have L0 := Lib.hid (h.lcl (.cells #[.int .u8 0, .int .i64 0, .string ⟨#[]⟩, .int .i64 0, .slice none 0 0] 231))
  have A0 := Lib.hid (h.alloc (.cells #[.int .u8 0, .int .i64 0, .string ⟨#[]⟩, .int .i64 0, .slice none 0 0] 231))
  have F0 := Lib.hid (show Fr E w.heap.size v v w _ from (Fr.refl E w.heap.size v w).alloc (Nat.le_refl _) (.cells #[.int .u8 0, .int .i64 0, .string ⟨#[]⟩, .int .i64 0, .slice none 0 0] 231))
  have C0 := Lib.hid (HFX.out E v kvs md _ α R A0.out)
  have HEQ := Lib.hid (then_then R (fun _ => fac) (many (timesStep fac)))
  clear h hf hl
  go_enter Tryz.func223, Tryz.ntmps223
  go_wp2_with fail
  (with_reducible refine C0.out.mono ?_)
  rintro x w3 ⟨ev, rfl, ⟨k1, a1, t1, m1, p1, l1, c1, rfl⟩, ha3, hf3, hx3⟩
  have hsz : (w.alloc (.cells #[.int .u8 0, .int .i64 0, .string ⟨#[]⟩, .int .i64 0, .slice none 0 0] 231)).heap.size = w.heap.size + 1 := by simp
  have hs3 : w.heap.size + 1 ≤ w3.heap.size := by have := hf3.size; rwa [hsz] at this
  have HLP : Hid (LpX E v kvs md d w w.heap.size w3.heap.size (then' R fun _ => fac) k1 a1 t1 m1 p1 l1 c1 (w3.alloc (.cells #[.int .u8 k1, .int .i64 a1, .string t1, .int .i64 m1, .slice p1 l1 c1] 231))) := Lib.hid
    { at' := ha3.alloc _
      fr := (F0.out.trans (hf3.mono (show w.heap.size ≤ _ by rw [hsz]; omega))).alloc (by omega) _
      L0 := (L0.out.on0 hf3).alloc _
      L1 := ha3.lcl _
      ge := ⟨by omega, by omega, by omega⟩
      ex := fun y l' e => ExprV.on (by simp) (fun k _ hl => Below.heap_alloc _ _ _ hl) (fun k hk hl => ⟨⟨hk.1, by have := hk.2; rw [hsz] at this; omega⟩, by have := hk.2; rw [hsz] at this; omega, by omega⟩) _ _ (hx3 y l' e) }
  clear ha3 hf3 hx3 C0 L0 A0 F0 hsz
  go_upto_region 2 with fail
  obtain ⟨q1, hq1⟩ : ∃ q1, w3.heap.size = q1 := ⟨_, rfl⟩
  rw [hq1] at HLP hs3 ⊢
  clear hq1
  generalize w3.alloc (.cells #[.int .u8 k1, .int .i64 a1, .string t1, .int .i64 m1, .slice p1 l1 c1] 231) = w4 at *
  go_loopg [] (left (then' R fun _ => fac)) (fun g wr => RelT E v kvs md d w q1 fac (then' (then' R fun _ => fac) (many (timesStep fac))) g wr)
  case atStart => exact ⟨_, _, _, _, _, _, _, _, Lib.hid (Nat.le_refl _), Lib.hid rfl, HLP⟩
  case round =>
    clear HLP
    obtain ⟨R1, k1, a1, t1, m1, p1, l1, c1, HG, HQ, HL⟩ := hrel
    have IS := Lib.hid (is_R HL.out.at' ⟨#[42]⟩ (by decide) (by decide))
    go_wp2_with fail
    (with_reducible refine IS.out.mono ?_)
    rintro x wd ⟨rfl, m, rfl⟩
    clear IS
    cases hy : nxt R1 ⟨#[42]⟩ with
    | true =>
      obtain ⟨y, i, rfl, hrs, htx, hil⟩ := HL.out.at'.yes (by decide) hy
      have h63 : (i : Int) + 1 ≤ 9223372036854775807 := by have := hrs.few; omega
      have HRS := Lib.hid (hrs.drewN m)
      obtain ⟨_, c1', _, _, _⟩ := HRS.out.rowCells
      have cz := HRS.out.fz
      have HK := Lib.hid (HRS.out.inc hil)
      have A5 := Lib.hid (At.of_ok (d := d) y HK.out.rs)
      have M0 := Lib.hid ((show Lcl E v kvs w.heap.size _ (wr.drewN m) from ⟨HL.out.L0.loc, HL.out.L0.lt, HL.out.L0.obj⟩).setB 1 (.int .i64 ((i : Int) + 1)))
      have M1 := Lib.hid ((show Lcl E v kvs q1 _ (wr.drewN m) from ⟨HL.out.L1.loc, HL.out.L1.lt, HL.out.L1.obj⟩).setB 1 (.int .i64 ((i : Int) + 1)))
      have hsw : w.heap.size ≤ (wr.drewN m).heap.size := HL.out.fr.size
      have F5 := Lib.hid ((HL.out.fr.drewN m).trans (HK.out.fr.mono hsw))
      have X5 := Lib.hid (((HL.out.ex y _ rfl).drewq m).setq (q := ⟨E.b, 1, none⟩) (Or.inl rfl) (.int .i64 ((i : Int) + 1)))
      have hge := HL.out.ge
      have HTX := Lib.hid htx
      go_upto_region 4 with fail
      generalize ((wr.drewN m).setCell ⟨E.b, 1, none⟩ (.int .i64 ((i : Int) + 1))) = w5 at *
      clear c1' cz HK HRS hrs hil hsw
      obtain ⟨g0, hg0⟩ : ∃ g0, g0 = gk - 1 := ⟨_, rfl⟩
      have C5 := Lib.hid (HFX.out E v kvs md _ Ast _ A5.out.drew)
      have m0 := M1.out.cell 0 rfl
      have m1' := M1.out.cell 1 rfl
      have m2 := M1.out.cell 2 rfl
      have m3 := M1.out.cell 3 rfl
      have m4 := M1.out.cell 4 rfl
      have LN : Hid (∀ k6 a6 t6 m6 p6 l6 c6 w6, At E v kvs md d (then' (Res.ok y (List.drop (i + 1) E.pts)) fun _ => fac) w6 → Fr E w5.drew.heap.size v v w5.drew w6 → (∀ y' l', then' (Res.ok y (List.drop (i + 1) E.pts)) (fun _ => fac) = .ok y' l' → ExprV w6 (Nx E v kvs w5.drew.heap.size) y' (.agg #[.int .u8 k6, .int .i64 a6, .string t6, .int .i64 m6, .slice p6 l6 c6])) → RelT E v kvs md d w q1 fac (then' (then' R fun _ => fac) (many (timesStep fac))) g0 (set5 (w6.alloc (.cells #[.int .u8 k1, .int .i64 a1, .string t1, .int .i64 m1, .slice p1 l1 c1, .int .u8 k6, .int .i64 a6, .string t6, .int .i64 m6, .slice p6 l6 c6] 231)) q1 (.int .u8 25) (.int .i64 a1) (.string ⟨#[]⟩) (.int .i64 0) (.slice (some ⟨w6.heap.size, 0, none⟩) 2 2))) := Lib.hid (by
        intro k6 a6 t6 m6 p6 l6 c6 w6 ha6 hf6 hx6
        have hdr : w5.drew.heap.size = w5.heap.size := rfl
        have hs6 : w5.heap.size ≤ w6.heap.size := hf6.size
        have hq0 : w.heap.size < w5.heap.size := M0.out.lt
        have hq1 : q1 < w5.heap.size := M1.out.lt
        have e1 : a1 = (y.at' : Int) := X5.out.at1
        refine ⟨then' (fac (List.drop (i + 1) E.pts)) fun b => Par.pure (bothA 25 y b), 25, a1, ⟨#[]⟩, 0, some ⟨w6.heap.size, 0, none⟩, 2, 2, Lib.hid ?_, Lib.hid ?_, Lib.hid ?_⟩
        · have h1 := HG.out
          simp only [left, List.length_cons] at h1
          have h2 := left_le HLS.out (List.drop (i + 1) E.pts) (bothA 25 y)
          omega
        · rw [← HQ.out, times_more HLS.out HTX.out]
        · exact
            { at' := ((ha6.mapv (bothA 25 y)).alloc _).set5 M1.out.loc _ _ _ _ _
              fr := (((F5.out.drewN 1).trans (hf6.mono (show w.heap.size ≤ w5.drew.heap.size by rw [hdr]; omega))).alloc (by omega) _).set5 (by simp; omega) (q := q1) hge.2.1 _ _ _ _ _
              L0 := (((Lcl.drew' M0.out).on0 hf6).alloc _).set5o hge.2.2.symm _ _ _ _ _
              L1 := (((Lcl.drew' M1.out).on0 hf6).alloc _).set5 _ _ _ _ _
              ge := hge
              ex := fun z l' ez => by
                obtain ⟨b, eb, rfl⟩ := thenv_inv ez
                subst e1
                refine ExprV.node2q (P := Nq E v kvs w.heap.size w.heap.size q1) (b := w6.heap.size) (T := 231) ⟨⟨ha6.fresh, by omega⟩, by omega, by omega⟩ (by simp [size_set]) ?_ 25 y.at' none0 0 ((((X5.out.drewq 1).frq hf6 (Nat.le_refl _)).allocq _).setq5 (Or.inr rfl) _ _ _ _ _) ((((hx6 b l' eb).nq (by rw [hdr]; omega) (by rw [hdr]; omega) (by rw [hdr]; omega)).allocq _).setq5 (Or.inr rfl) _ _ _ _ _)
                rw [heap_set5 (show q1 ≠ w6.heap.size by omega)]
                exact heap_alloc_new _ _ })
      have HLT : Hid (g0 < gk) := Lib.hid (by have := HG.out; simp only [left, List.length_cons] at this; omega)
      refine wp_region_held_drew (S := fun _ => True) (by kernel_rfl) trivial (fun hHeld => ?_)
      refine wpAnyH_take (i := 0) (v := ?_) rfl (by kernel_rfl) (by kernel_rfl) (by kernel_rfl) (fun _ _ _ h => h) (Or.inl ⟨by rfl, ?_⟩) hHeld ?_
      rotate_left
      · (intro w hSw; (try dsimp only at hSw); go_simp; try with_reducible rfl)
      (try simp only [Act.put, List.getElem_toArray, List.getElem_cons_zero, List.getElem_cons_succ, List.setIfInBounds_toArray, List.set_cons_zero, List.set_cons_succ])
      refine wpAnyH_take (i := 3) (v := ?_) rfl (by kernel_rfl) (by kernel_rfl) (by kernel_rfl) (fun _ _ _ h => h) (Or.inl ⟨by rfl, ?_⟩) hHeld ?_
      rotate_left
      · (intro w hSw; (try dsimp only at hSw); go_simp; try with_reducible rfl)
      (try simp only [Act.put, List.getElem_toArray, List.getElem_cons_zero, List.getElem_cons_succ, List.setIfInBounds_toArray, List.set_cons_zero, List.set_cons_succ])
      refine wpAnyH_ready (rs := [1, 2, 4]) (by kernel_rfl) (by simp) ?_
      refine AllReadyH.cons rfl (fun K hK => ?_) (AllReadyH.cons rfl (fun K hK => ?_) (AllReadyH.cons rfl (fun K hK => ?_) (AllReadyH.nil)))
      · go_simp
        refine hK.out _ _ trivial (fun hHeld => ?_)
        clear hK K
        (try simp only [Act.put, List.getElem_toArray, List.getElem_cons_zero, List.getElem_cons_succ, List.setIfInBounds_toArray, List.set_cons_zero, List.set_cons_succ])
        refine wpAnyH_ready (rs := [2, 4]) (by kernel_rfl) (by simp) ?_
        refine AllReadyH.cons rfl (fun K hK => ?_) (AllReadyH.cons rfl (fun K hK => ?_) (AllReadyH.nil))
        · go_simp
          refine hK.out _ _ trivial (fun hHeld => ?_)
          clear hK K
          (try simp only [Act.put, List.getElem_toArray, List.getElem_cons_zero, List.getElem_cons_succ, List.setIfInBounds_toArray, List.set_cons_zero, List.set_cons_succ])
          refine wpAnyH_ready (rs := [4]) (by kernel_rfl) (by simp) ?_
          refine AllReadyH.cons rfl (fun K hK => ?_) (AllReadyH.nil)
          · go_simp
            go_at_call 229
            (with_reducible refine C5.out.mono ?_)
            rintro x w6 ⟨ev, rfl, ⟨k6, a6, t6, m6, p6, l6, c6, rfl⟩, ha6, hf6, hx6⟩
            have HN := Lib.hid (LN.out k6 a6 t6 m6 p6 l6 c6 w6 ha6 hf6 hx6)
            have O1 := Lib.hid ((Lcl.drew' M1.out).on0 hf6)
            have x0 := O1.out.cell 0 rfl
            have x1 := O1.out.cell 1 rfl
            have x2 := O1.out.cell 2 rfl
            have x3 := O1.out.cell 3 rfl
            have x4 := O1.out.cell 4 rfl
            clear ha6 hf6 hx6
            go_simp
            refine hK.out _ _ trivial (fun hHeld => ?_)
            clear hK K
            (try simp only [Act.put, List.getElem_toArray, List.getElem_cons_zero, List.getElem_cons_succ, List.setIfInBounds_toArray, List.set_cons_zero, List.set_cons_succ])
            refine wpAnyH_ready (rs := [5]) (by kernel_rfl) (by simp) ?_
            refine AllReadyH.cons rfl (fun K hK => ?_) (AllReadyH.nil)
            · rw [if_pos (by rfl)]
              refine wp_bs 229 2 #[(0, .tmp 17), (1, .tmp 19)] rfl #[(0, .agg #[.int .u8 k1, .int .i64 a1, .string t1, .int .i64 m1, .slice p1 l1 c1]), (1, .agg #[.int .u8 k6, .int .i64 a6, .string t6, .int .i64 m6, .slice p6 l6 c6])] (by simp [Act.eval, Act.put]) _ _ (bs_two _ _ _ _ _ _ _ _ _ _ _) ?_
              have O2 := Lib.hid (O1.out.alloc (.cells #[.int .u8 k1, .int .i64 a1, .string t1, .int .i64 m1, .slice p1 l1 c1, .int .u8 k6, .int .i64 a6, .string t6, .int .i64 m6, .slice p6 l6 c6] 231))
              generalize (w6.alloc (.cells #[.int .u8 k1, .int .i64 a1, .string t1, .int .i64 m1, .slice p1 l1 c1, .int .u8 k6, .int .i64 a6, .string t6, .int .i64 m6, .slice p6 l6 c6] 231)) = w7 at *
              generalize w6.heap.size = q9 at *
              have y0 := O2.out.cell 0 rfl
              have y1 := O2.out.cell 1 rfl
              have y2 := O2.out.cell 2 rfl
              have y3 := O2.out.cell 3 rfl
              have y4 := O2.out.cell 4 rfl
              have yz := O2.out.fz
              clear x0 x1 x2 x3 x4 O1 O2
              refine hK.out _ _ trivial (fun hHeld => ?_)
              clear hK K
              (try simp only [Act.put, List.getElem_toArray, List.getElem_cons_zero, List.getElem_cons_succ, List.setIfInBounds_toArray, List.set_cons_zero, List.set_cons_succ])
              refine wpAnyH_take (i := 6) (v := ?_) rfl (by kernel_rfl) (by kernel_rfl) (by kernel_rfl) (fun _ _ _ h => h) (Or.inl ⟨by rfl, ?_⟩) hHeld ?_
              rotate_left
              · (intro w hSw; (try dsimp only at hSw); go_simp; try with_reducible rfl)
              (try simp only [Act.put, List.getElem_toArray, List.getElem_cons_zero, List.getElem_cons_succ, List.setIfInBounds_toArray, List.set_cons_zero, List.set_cons_succ])
              refine wpAnyH_ready (rs := [7]) (by kernel_rfl) (by simp) ?_
              refine AllReadyH.cons rfl (fun K hK => ?_) AllReadyH.nil
              go_simp
              refine hK.out _ _ trivial (fun hHeld => ?_)
              clear hK K
              (try simp only [Act.put, List.getElem_toArray, List.getElem_cons_zero, List.getElem_cons_succ, List.setIfInBounds_toArray, List.set_cons_zero, List.set_cons_succ])
              refine wpAnyH_done (by kernel_rfl) ?_ _
              go_wp2_with fail
              go_roundg g0
              case rel => exact HN.out
              case measure => exact HLT.out
        · go_simp
          go_at_call 229
          (with_reducible refine C5.out.mono ?_)
          rintro x w6 ⟨ev, rfl, ⟨k6, a6, t6, m6, p6, l6, c6, rfl⟩, ha6, hf6, hx6⟩
          have HN := Lib.hid (LN.out k6 a6 t6 m6 p6 l6 c6 w6 ha6 hf6 hx6)
          have O1 := Lib.hid ((Lcl.drew' M1.out).on0 hf6)
          have x0 := O1.out.cell 0 rfl
          have x1 := O1.out.cell 1 rfl
          have x2 := O1.out.cell 2 rfl
          have x3 := O1.out.cell 3 rfl
          have x4 := O1.out.cell 4 rfl
          clear ha6 hf6 hx6
          go_simp
          refine hK.out _ _ trivial (fun hHeld => ?_)
          clear hK K
          (try simp only [Act.put, List.getElem_toArray, List.getElem_cons_zero, List.getElem_cons_succ, List.setIfInBounds_toArray, List.set_cons_zero, List.set_cons_succ])
          refine wpAnyH_ready (rs := [2]) (by kernel_rfl) (by simp) ?_
          refine AllReadyH.cons rfl (fun K hK => ?_) (AllReadyH.nil)
          · go_simp
            refine hK.out _ _ trivial (fun hHeld => ?_)
            clear hK K
            (try simp only [Act.put, List.getElem_toArray, List.getElem_cons_zero, List.getElem_cons_succ, List.setIfInBounds_toArray, List.set_cons_zero, List.set_cons_succ])
            refine wpAnyH_ready (rs := [5]) (by kernel_rfl) (by simp) ?_
            refine AllReadyH.cons rfl (fun K hK => ?_) (AllReadyH.nil)
            · rw [if_pos (by rfl)]
              refine wp_bs 229 2 #[(0, .tmp 17), (1, .tmp 19)] rfl #[(0, .agg #[.int .u8 k1, .int .i64 a1, .string t1, .int .i64 m1, .slice p1 l1 c1]), (1, .agg #[.int .u8 k6, .int .i64 a6, .string t6, .int .i64 m6, .slice p6 l6 c6])] (by simp [Act.eval, Act.put]) _ _ (bs_two _ _ _ _ _ _ _ _ _ _ _) ?_
              have O2 := Lib.hid (O1.out.alloc (.cells #[.int .u8 k1, .int .i64 a1, .string t1, .int .i64 m1, .slice p1 l1 c1, .int .u8 k6, .int .i64 a6, .string t6, .int .i64 m6, .slice p6 l6 c6] 231))
              generalize (w6.alloc (.cells #[.int .u8 k1, .int .i64 a1, .string t1, .int .i64 m1, .slice p1 l1 c1, .int .u8 k6, .int .i64 a6, .string t6, .int .i64 m6, .slice p6 l6 c6] 231)) = w7 at *
              generalize w6.heap.size = q9 at *
              have y0 := O2.out.cell 0 rfl
              have y1 := O2.out.cell 1 rfl
              have y2 := O2.out.cell 2 rfl
              have y3 := O2.out.cell 3 rfl
              have y4 := O2.out.cell 4 rfl
              have yz := O2.out.fz
              clear x0 x1 x2 x3 x4 O1 O2
              refine hK.out _ _ trivial (fun hHeld => ?_)
              clear hK K
              (try simp only [Act.put, List.getElem_toArray, List.getElem_cons_zero, List.getElem_cons_succ, List.setIfInBounds_toArray, List.set_cons_zero, List.set_cons_succ])
              refine wpAnyH_take (i := 6) (v := ?_) rfl (by kernel_rfl) (by kernel_rfl) (by kernel_rfl) (fun _ _ _ h => h) (Or.inl ⟨by rfl, ?_⟩) hHeld ?_
              rotate_left
              · (intro w hSw; (try dsimp only at hSw); go_simp; try with_reducible rfl)
              (try simp only [Act.put, List.getElem_toArray, List.getElem_cons_zero, List.getElem_cons_succ, List.setIfInBounds_toArray, List.set_cons_zero, List.set_cons_succ])
              refine wpAnyH_ready (rs := [7]) (by kernel_rfl) (by simp) ?_
              refine AllReadyH.cons rfl (fun K hK => ?_) AllReadyH.nil
              go_simp
              refine hK.out _ _ trivial (fun hHeld => ?_)
              clear hK K
              (try simp only [Act.put, List.getElem_toArray, List.getElem_cons_zero, List.getElem_cons_succ, List.setIfInBounds_toArray, List.set_cons_zero, List.set_cons_succ])
              refine wpAnyH_done (by kernel_rfl) ?_ _
              go_wp2_with fail
              go_roundg g0
              case rel => exact HN.out
              case measure => exact HLT.out
      · go_simp
        refine hK.out _ _ trivial (fun hHeld => ?_)
        clear hK K
        (try simp only [Act.put, List.getElem_toArray, List.getElem_cons_zero, List.getElem_cons_succ, List.setIfInBounds_toArray, List.set_cons_zero, List.set_cons_succ])
        refine wpAnyH_ready (rs := [1, 4]) (by kernel_rfl) (by simp) ?_
        refine AllReadyH.cons rfl (fun K hK => ?_) (AllReadyH.cons rfl (fun K hK => ?_) (AllReadyH.nil))
        · go_simp
          refine hK.out _ _ trivial (fun hHeld => ?_)
          clear hK K
          (try simp only [Act.put, List.getElem_toArray, List.getElem_cons_zero, List.getElem_cons_succ, List.setIfInBounds_toArray, List.set_cons_zero, List.set_cons_succ])
          refine wpAnyH_ready (rs := [4]) (by kernel_rfl) (by simp) ?_
          refine AllReadyH.cons rfl (fun K hK => ?_) (AllReadyH.nil)
          · go_simp
            go_at_call 229
            (with_reducible refine C5.out.mono ?_)
            rintro x w6 ⟨ev, rfl, ⟨k6, a6, t6, m6, p6, l6, c6, rfl⟩, ha6, hf6, hx6⟩
            have HN := Lib.hid (LN.out k6 a6 t6 m6 p6 l6 c6 w6 ha6 hf6 hx6)
            have O1 := Lib.hid ((Lcl.drew' M1.out).on0 hf6)
            have x0 := O1.out.cell 0 rfl
            have x1 := O1.out.cell 1 rfl
            have x2 := O1.out.cell 2 rfl
            have x3 := O1.out.cell 3 rfl
            have x4 := O1.out.cell 4 rfl
            clear ha6 hf6 hx6
            go_simp
            refine hK.out _ _ trivial (fun hHeld => ?_)
            clear hK K
            (try simp only [Act.put, List.getElem_toArray, List.getElem_cons_zero, List.getElem_cons_succ, List.setIfInBounds_toArray, List.set_cons_zero, List.set_cons_succ])
            refine wpAnyH_ready (rs := [5]) (by kernel_rfl) (by simp) ?_
            refine AllReadyH.cons rfl (fun K hK => ?_) (AllReadyH.nil)
            · rw [if_pos (by rfl)]
              refine wp_bs 229 2 #[(0, .tmp 17), (1, .tmp 19)] rfl #[(0, .agg #[.int .u8 k1, .int .i64 a1, .string t1, .int .i64 m1, .slice p1 l1 c1]), (1, .agg #[.int .u8 k6, .int .i64 a6, .string t6, .int .i64 m6, .slice p6 l6 c6])] (by simp [Act.eval, Act.put]) _ _ (bs_two _ _ _ _ _ _ _ _ _ _ _) ?_
              have O2 := Lib.hid (O1.out.alloc (.cells #[.int .u8 k1, .int .i64 a1, .string t1, .int .i64 m1, .slice p1 l1 c1, .int .u8 k6, .int .i64 a6, .string t6, .int .i64 m6, .slice p6 l6 c6] 231))
              generalize (w6.alloc (.cells #[.int .u8 k1, .int .i64 a1, .string t1, .int .i64 m1, .slice p1 l1 c1, .int .u8 k6, .int .i64 a6, .string t6, .int .i64 m6, .slice p6 l6 c6] 231)) = w7 at *
              generalize w6.heap.size = q9 at *
              have y0 := O2.out.cell 0 rfl
              have y1 := O2.out.cell 1 rfl
              have y2 := O2.out.cell 2 rfl
              have y3 := O2.out.cell 3 rfl
              have y4 := O2.out.cell 4 rfl
              have yz := O2.out.fz
              clear x0 x1 x2 x3 x4 O1 O2
              refine hK.out _ _ trivial (fun hHeld => ?_)
              clear hK K
              (try simp only [Act.put, List.getElem_toArray, List.getElem_cons_zero, List.getElem_cons_succ, List.setIfInBounds_toArray, List.set_cons_zero, List.set_cons_succ])
              refine wpAnyH_take (i := 6) (v := ?_) rfl (by kernel_rfl) (by kernel_rfl) (by kernel_rfl) (fun _ _ _ h => h) (Or.inl ⟨by rfl, ?_⟩) hHeld ?_
              rotate_left
              · (intro w hSw; (try dsimp only at hSw); go_simp; try with_reducible rfl)
              (try simp only [Act.put, List.getElem_toArray, List.getElem_cons_zero, List.getElem_cons_succ, List.setIfInBounds_toArray, List.set_cons_zero, List.set_cons_succ])
              refine wpAnyH_ready (rs := [7]) (by kernel_rfl) (by simp) ?_
              refine AllReadyH.cons rfl (fun K hK => ?_) AllReadyH.nil
              go_simp
              refine hK.out _ _ trivial (fun hHeld => ?_)
              clear hK K
              (try simp only [Act.put, List.getElem_toArray, List.getElem_cons_zero, List.getElem_cons_succ, List.setIfInBounds_toArray, List.set_cons_zero, List.set_cons_succ])
              refine wpAnyH_done (by kernel_rfl) ?_ _
              go_wp2_with fail
              go_roundg g0
              case rel => exact HN.out
              case measure => exact HLT.out
        · go_simp
          go_at_call 229
          (with_reducible refine C5.out.mono ?_)
          rintro x w6 ⟨ev, rfl, ⟨k6, a6, t6, m6, p6, l6, c6, rfl⟩, ha6, hf6, hx6⟩
          have HN := Lib.hid (LN.out k6 a6 t6 m6 p6 l6 c6 w6 ha6 hf6 hx6)
          have O1 := Lib.hid ((Lcl.drew' M1.out).on0 hf6)
          have x0 := O1.out.cell 0 rfl
          have x1 := O1.out.cell 1 rfl
          have x2 := O1.out.cell 2 rfl
          have x3 := O1.out.cell 3 rfl
          have x4 := O1.out.cell 4 rfl
          clear ha6 hf6 hx6
          go_simp
          refine hK.out _ _ trivial (fun hHeld => ?_)
          clear hK K
          (try simp only [Act.put, List.getElem_toArray, List.getElem_cons_zero, List.getElem_cons_succ, List.setIfInBounds_toArray, List.set_cons_zero, List.set_cons_succ])
          refine wpAnyH_ready (rs := [1, 5]) (by kernel_rfl) (by simp) ?_
          refine AllReadyH.cons rfl (fun K hK => ?_) (AllReadyH.cons rfl (fun K hK => ?_) (AllReadyH.nil))
          · go_simp
            refine hK.out _ _ trivial (fun hHeld => ?_)
            clear hK K
            (try simp only [Act.put, List.getElem_toArray, List.getElem_cons_zero, List.getElem_cons_succ, List.setIfInBounds_toArray, List.set_cons_zero, List.set_cons_succ])
            refine wpAnyH_ready (rs := [5]) (by kernel_rfl) (by simp) ?_
            refine AllReadyH.cons rfl (fun K hK => ?_) (AllReadyH.nil)
            · rw [if_pos (by rfl)]
              refine wp_bs 229 2 #[(0, .tmp 17), (1, .tmp 19)] rfl #[(0, .agg #[.int .u8 k1, .int .i64 a1, .string t1, .int .i64 m1, .slice p1 l1 c1]), (1, .agg #[.int .u8 k6, .int .i64 a6, .string t6, .int .i64 m6, .slice p6 l6 c6])] (by simp [Act.eval, Act.put]) _ _ (bs_two _ _ _ _ _ _ _ _ _ _ _) ?_
              have O2 := Lib.hid (O1.out.alloc (.cells #[.int .u8 k1, .int .i64 a1, .string t1, .int .i64 m1, .slice p1 l1 c1, .int .u8 k6, .int .i64 a6, .string t6, .int .i64 m6, .slice p6 l6 c6] 231))
              generalize (w6.alloc (.cells #[.int .u8 k1, .int .i64 a1, .string t1, .int .i64 m1, .slice p1 l1 c1, .int .u8 k6, .int .i64 a6, .string t6, .int .i64 m6, .slice p6 l6 c6] 231)) = w7 at *
              generalize w6.heap.size = q9 at *
              have y0 := O2.out.cell 0 rfl
              have y1 := O2.out.cell 1 rfl
              have y2 := O2.out.cell 2 rfl
              have y3 := O2.out.cell 3 rfl
              have y4 := O2.out.cell 4 rfl
              have yz := O2.out.fz
              clear x0 x1 x2 x3 x4 O1 O2
              refine hK.out _ _ trivial (fun hHeld => ?_)
              clear hK K
              (try simp only [Act.put, List.getElem_toArray, List.getElem_cons_zero, List.getElem_cons_succ, List.setIfInBounds_toArray, List.set_cons_zero, List.set_cons_succ])
              refine wpAnyH_take (i := 6) (v := ?_) rfl (by kernel_rfl) (by kernel_rfl) (by kernel_rfl) (fun _ _ _ h => h) (Or.inl ⟨by rfl, ?_⟩) hHeld ?_
              rotate_left
              · (intro w hSw; (try dsimp only at hSw); go_simp; try with_reducible rfl)
              (try simp only [Act.put, List.getElem_toArray, List.getElem_cons_zero, List.getElem_cons_succ, List.setIfInBounds_toArray, List.set_cons_zero, List.set_cons_succ])
              refine wpAnyH_ready (rs := [7]) (by kernel_rfl) (by simp) ?_
              refine AllReadyH.cons rfl (fun K hK => ?_) AllReadyH.nil
              go_simp
              refine hK.out _ _ trivial (fun hHeld => ?_)
              clear hK K
              (try simp only [Act.put, List.getElem_toArray, List.getElem_cons_zero, List.getElem_cons_succ, List.setIfInBounds_toArray, List.set_cons_zero, List.set_cons_succ])
              refine wpAnyH_done (by kernel_rfl) ?_ _
              go_wp2_with fail
              go_roundg g0
              case rel => exact HN.out
              case measure => exact HLT.out
          · rw [if_pos (by rfl)]
            refine wp_bs 229 2 #[(0, .tmp 17), (1, .tmp 19)] rfl #[(0, .agg #[.int .u8 k1, .int .i64 a1, .string t1, .int .i64 m1, .slice p1 l1 c1]), (1, .agg #[.int .u8 k6, .int .i64 a6, .string t6, .int .i64 m6, .slice p6 l6 c6])] (by simp [Act.eval, Act.put]) _ _ (bs_two _ _ _ _ _ _ _ _ _ _ _) ?_
            have O2 := Lib.hid (O1.out.alloc (.cells #[.int .u8 k1, .int .i64 a1, .string t1, .int .i64 m1, .slice p1 l1 c1, .int .u8 k6, .int .i64 a6, .string t6, .int .i64 m6, .slice p6 l6 c6] 231))
            generalize (w6.alloc (.cells #[.int .u8 k1, .int .i64 a1, .string t1, .int .i64 m1, .slice p1 l1 c1, .int .u8 k6, .int .i64 a6, .string t6, .int .i64 m6, .slice p6 l6 c6] 231)) = w7 at *
            generalize w6.heap.size = q9 at *
            have y0 := O2.out.cell 0 rfl
            have y1 := O2.out.cell 1 rfl
            have y2 := O2.out.cell 2 rfl
            have y3 := O2.out.cell 3 rfl
            have y4 := O2.out.cell 4 rfl
            have yz := O2.out.fz
            clear x0 x1 x2 x3 x4 O1 O2
            refine hK.out _ _ trivial (fun hHeld => ?_)
            clear hK K
            (try simp only [Act.put, List.getElem_toArray, List.getElem_cons_zero, List.getElem_cons_succ, List.setIfInBounds_toArray, List.set_cons_zero, List.set_cons_succ])
            refine wpAnyH_ready (rs := [1]) (by kernel_rfl) (by simp) ?_
            refine AllReadyH.cons rfl (fun K hK => ?_) (AllReadyH.nil)
            · go_simp
              refine hK.out _ _ trivial (fun hHeld => ?_)
              clear hK K
              (try simp only [Act.put, List.getElem_toArray, List.getElem_cons_zero, List.getElem_cons_succ, List.setIfInBounds_toArray, List.set_cons_zero, List.set_cons_succ])
              refine wpAnyH_take (i := 6) (v := ?_) rfl (by kernel_rfl) (by kernel_rfl) (by kernel_rfl) (fun _ _ _ h => h) (Or.inl ⟨by rfl, ?_⟩) hHeld ?_
              rotate_left
              · (intro w hSw; (try dsimp only at hSw); go_simp; try with_reducible rfl)
              (try simp only [Act.put, List.getElem_toArray, List.getElem_cons_zero, List.getElem_cons_succ, List.setIfInBounds_toArray, List.set_cons_zero, List.set_cons_succ])
              refine wpAnyH_ready (rs := [7]) (by kernel_rfl) (by simp) ?_
              refine AllReadyH.cons rfl (fun K hK => ?_) AllReadyH.nil
              go_simp
              refine hK.out _ _ trivial (fun hHeld => ?_)
              clear hK K
              (try simp only [Act.put, List.getElem_toArray, List.getElem_cons_zero, List.getElem_cons_succ, List.setIfInBounds_toArray, List.set_cons_zero, List.set_cons_succ])
              refine wpAnyH_done (by kernel_rfl) ?_ _
              go_wp2_with fail
              go_roundg g0
              case rel => exact HN.out
              case measure => exact HLT.out
      · go_simp
        go_at_call 229
        (with_reducible refine C5.out.mono ?_)
        rintro x w6 ⟨ev, rfl, ⟨k6, a6, t6, m6, p6, l6, c6, rfl⟩, ha6, hf6, hx6⟩
        have HN := Lib.hid (LN.out k6 a6 t6 m6 p6 l6 c6 w6 ha6 hf6 hx6)
        have O1 := Lib.hid ((Lcl.drew' M1.out).on0 hf6)
        have x0 := O1.out.cell 0 rfl
        have x1 := O1.out.cell 1 rfl
        have x2 := O1.out.cell 2 rfl
        have x3 := O1.out.cell 3 rfl
        have x4 := O1.out.cell 4 rfl
        clear ha6 hf6 hx6
        go_simp
        refine hK.out _ _ trivial (fun hHeld => ?_)
        clear hK K
        (try simp only [Act.put, List.getElem_toArray, List.getElem_cons_zero, List.getElem_cons_succ, List.setIfInBounds_toArray, List.set_cons_zero, List.set_cons_succ])
        refine wpAnyH_ready (rs := [1, 2]) (by kernel_rfl) (by simp) ?_
        refine AllReadyH.cons rfl (fun K hK => ?_) (AllReadyH.cons rfl (fun K hK => ?_) (AllReadyH.nil))
        · go_simp
          refine hK.out _ _ trivial (fun hHeld => ?_)
          clear hK K
          (try simp only [Act.put, List.getElem_toArray, List.getElem_cons_zero, List.getElem_cons_succ, List.setIfInBounds_toArray, List.set_cons_zero, List.set_cons_succ])
          refine wpAnyH_ready (rs := [2]) (by kernel_rfl) (by simp) ?_
          refine AllReadyH.cons rfl (fun K hK => ?_) (AllReadyH.nil)
          · go_simp
            refine hK.out _ _ trivial (fun hHeld => ?_)
            clear hK K
            (try simp only [Act.put, List.getElem_toArray, List.getElem_cons_zero, List.getElem_cons_succ, List.setIfInBounds_toArray, List.set_cons_zero, List.set_cons_succ])
            refine wpAnyH_ready (rs := [5]) (by kernel_rfl) (by simp) ?_
            refine AllReadyH.cons rfl (fun K hK => ?_) (AllReadyH.nil)
            · rw [if_pos (by rfl)]
              refine wp_bs 229 2 #[(0, .tmp 17), (1, .tmp 19)] rfl #[(0, .agg #[.int .u8 k1, .int .i64 a1, .string t1, .int .i64 m1, .slice p1 l1 c1]), (1, .agg #[.int .u8 k6, .int .i64 a6, .string t6, .int .i64 m6, .slice p6 l6 c6])] (by simp [Act.eval, Act.put]) _ _ (bs_two _ _ _ _ _ _ _ _ _ _ _) ?_
              have O2 := Lib.hid (O1.out.alloc (.cells #[.int .u8 k1, .int .i64 a1, .string t1, .int .i64 m1, .slice p1 l1 c1, .int .u8 k6, .int .i64 a6, .string t6, .int .i64 m6, .slice p6 l6 c6] 231))
              generalize (w6.alloc (.cells #[.int .u8 k1, .int .i64 a1, .string t1, .int .i64 m1, .slice p1 l1 c1, .int .u8 k6, .int .i64 a6, .string t6, .int .i64 m6, .slice p6 l6 c6] 231)) = w7 at *
              generalize w6.heap.size = q9 at *
              have y0 := O2.out.cell 0 rfl
              have y1 := O2.out.cell 1 rfl
              have y2 := O2.out.cell 2 rfl
              have y3 := O2.out.cell 3 rfl
              have y4 := O2.out.cell 4 rfl
              have yz := O2.out.fz
              clear x0 x1 x2 x3 x4 O1 O2
              refine hK.out _ _ trivial (fun hHeld => ?_)
              clear hK K
              (try simp only [Act.put, List.getElem_toArray, List.getElem_cons_zero, List.getElem_cons_succ, List.setIfInBounds_toArray, List.set_cons_zero, List.set_cons_succ])
              refine wpAnyH_take (i := 6) (v := ?_) rfl (by kernel_rfl) (by kernel_rfl) (by kernel_rfl) (fun _ _ _ h => h) (Or.inl ⟨by rfl, ?_⟩) hHeld ?_
              rotate_left
              · (intro w hSw; (try dsimp only at hSw); go_simp; try with_reducible rfl)
              (try simp only [Act.put, List.getElem_toArray, List.getElem_cons_zero, List.getElem_cons_succ, List.setIfInBounds_toArray, List.set_cons_zero, List.set_cons_succ])
              refine wpAnyH_ready (rs := [7]) (by kernel_rfl) (by simp) ?_
              refine AllReadyH.cons rfl (fun K hK => ?_) AllReadyH.nil
              go_simp
              refine hK.out _ _ trivial (fun hHeld => ?_)
              clear hK K
              (try simp only [Act.put, List.getElem_toArray, List.getElem_cons_zero, List.getElem_cons_succ, List.setIfInBounds_toArray, List.set_cons_zero, List.set_cons_succ])
              refine wpAnyH_done (by kernel_rfl) ?_ _
              go_wp2_with fail
              go_roundg g0
              case rel => exact HN.out
              case measure => exact HLT.out
        · go_simp
          refine hK.out _ _ trivial (fun hHeld => ?_)
          clear hK K
          (try simp only [Act.put, List.getElem_toArray, List.getElem_cons_zero, List.getElem_cons_succ, List.setIfInBounds_toArray, List.set_cons_zero, List.set_cons_succ])
          refine wpAnyH_ready (rs := [1, 5]) (by kernel_rfl) (by simp) ?_
          refine AllReadyH.cons rfl (fun K hK => ?_) (AllReadyH.cons rfl (fun K hK => ?_) (AllReadyH.nil))
          · go_simp
            refine hK.out _ _ trivial (fun hHeld => ?_)
            clear hK K
            (try simp only [Act.put, List.getElem_toArray, List.getElem_cons_zero, List.getElem_cons_succ, List.setIfInBounds_toArray, List.set_cons_zero, List.set_cons_succ])
            refine wpAnyH_ready (rs := [5]) (by kernel_rfl) (by simp) ?_
            refine AllReadyH.cons rfl (fun K hK => ?_) (AllReadyH.nil)
            · rw [if_pos (by rfl)]
              refine wp_bs 229 2 #[(0, .tmp 17), (1, .tmp 19)] rfl #[(0, .agg #[.int .u8 k1, .int .i64 a1, .string t1, .int .i64 m1, .slice p1 l1 c1]), (1, .agg #[.int .u8 k6, .int .i64 a6, .string t6, .int .i64 m6, .slice p6 l6 c6])] (by simp [Act.eval, Act.put]) _ _ (bs_two _ _ _ _ _ _ _ _ _ _ _) ?_
              have O2 := Lib.hid (O1.out.alloc (.cells #[.int .u8 k1, .int .i64 a1, .string t1, .int .i64 m1, .slice p1 l1 c1, .int .u8 k6, .int .i64 a6, .string t6, .int .i64 m6, .slice p6 l6 c6] 231))
              generalize (w6.alloc (.cells #[.int .u8 k1, .int .i64 a1, .string t1, .int .i64 m1, .slice p1 l1 c1, .int .u8 k6, .int .i64 a6, .string t6, .int .i64 m6, .slice p6 l6 c6] 231)) = w7 at *
              generalize w6.heap.size = q9 at *
              have y0 := O2.out.cell 0 rfl
              have y1 := O2.out.cell 1 rfl
              have y2 := O2.out.cell 2 rfl
              have y3 := O2.out.cell 3 rfl
              have y4 := O2.out.cell 4 rfl
              have yz := O2.out.fz
              clear x0 x1 x2 x3 x4 O1 O2
              refine hK.out _ _ trivial (fun hHeld => ?_)
              clear hK K
              (try simp only [Act.put, List.getElem_toArray, List.getElem_cons_zero, List.getElem_cons_succ, List.setIfInBounds_toArray, List.set_cons_zero, List.set_cons_succ])
              refine wpAnyH_take (i := 6) (v := ?_) rfl (by kernel_rfl) (by kernel_rfl) (by kernel_rfl) (fun _ _ _ h => h) (Or.inl ⟨by rfl, ?_⟩) hHeld ?_
              rotate_left
              · (intro w hSw; (try dsimp only at hSw); go_simp; try with_reducible rfl)
              (try simp only [Act.put, List.getElem_toArray, List.getElem_cons_zero, List.getElem_cons_succ, List.setIfInBounds_toArray, List.set_cons_zero, List.set_cons_succ])
              refine wpAnyH_ready (rs := [7]) (by kernel_rfl) (by simp) ?_
              refine AllReadyH.cons rfl (fun K hK => ?_) AllReadyH.nil
              go_simp
              refine hK.out _ _ trivial (fun hHeld => ?_)
              clear hK K
              (try simp only [Act.put, List.getElem_toArray, List.getElem_cons_zero, List.getElem_cons_succ, List.setIfInBounds_toArray, List.set_cons_zero, List.set_cons_succ])
              refine wpAnyH_done (by kernel_rfl) ?_ _
              go_wp2_with fail
              go_roundg g0
              case rel => exact HN.out
              case measure => exact HLT.out
          · rw [if_pos (by rfl)]
            refine wp_bs 229 2 #[(0, .tmp 17), (1, .tmp 19)] rfl #[(0, .agg #[.int .u8 k1, .int .i64 a1, .string t1, .int .i64 m1, .slice p1 l1 c1]), (1, .agg #[.int .u8 k6, .int .i64 a6, .string t6, .int .i64 m6, .slice p6 l6 c6])] (by simp [Act.eval, Act.put]) _ _ (bs_two _ _ _ _ _ _ _ _ _ _ _) ?_
            have O2 := Lib.hid (O1.out.alloc (.cells #[.int .u8 k1, .int .i64 a1, .string t1, .int .i64 m1, .slice p1 l1 c1, .int .u8 k6, .int .i64 a6, .string t6, .int .i64 m6, .slice p6 l6 c6] 231))
            generalize (w6.alloc (.cells #[.int .u8 k1, .int .i64 a1, .string t1, .int .i64 m1, .slice p1 l1 c1, .int .u8 k6, .int .i64 a6, .string t6, .int .i64 m6, .slice p6 l6 c6] 231)) = w7 at *
            generalize w6.heap.size = q9 at *
            have y0 := O2.out.cell 0 rfl
            have y1 := O2.out.cell 1 rfl
            have y2 := O2.out.cell 2 rfl
            have y3 := O2.out.cell 3 rfl
            have y4 := O2.out.cell 4 rfl
            have yz := O2.out.fz
            clear x0 x1 x2 x3 x4 O1 O2
            refine hK.out _ _ trivial (fun hHeld => ?_)
            clear hK K
            (try simp only [Act.put, List.getElem_toArray, List.getElem_cons_zero, List.getElem_cons_succ, List.setIfInBounds_toArray, List.set_cons_zero, List.set_cons_succ])
            refine wpAnyH_ready (rs := [1]) (by kernel_rfl) (by simp) ?_
            refine AllReadyH.cons rfl (fun K hK => ?_) (AllReadyH.nil)
            · go_simp
              refine hK.out _ _ trivial (fun hHeld => ?_)
              clear hK K
              (try simp only [Act.put, List.getElem_toArray, List.getElem_cons_zero, List.getElem_cons_succ, List.setIfInBounds_toArray, List.set_cons_zero, List.set_cons_succ])
              refine wpAnyH_take (i := 6) (v := ?_) rfl (by kernel_rfl) (by kernel_rfl) (by kernel_rfl) (fun _ _ _ h => h) (Or.inl ⟨by rfl, ?_⟩) hHeld ?_
              rotate_left
              · (intro w hSw; (try dsimp only at hSw); go_simp; try with_reducible rfl)
              (try simp only [Act.put, List.getElem_toArray, List.getElem_cons_zero, List.getElem_cons_succ, List.setIfInBounds_toArray, List.set_cons_zero, List.set_cons_succ])
              refine wpAnyH_ready (rs := [7]) (by kernel_rfl) (by simp) ?_
              refine AllReadyH.cons rfl (fun K hK => ?_) AllReadyH.nil
              go_simp
              refine hK.out _ _ trivial (fun hHeld => ?_)
              clear hK K
              (try simp only [Act.put, List.getElem_toArray, List.getElem_cons_zero, List.getElem_cons_succ, List.setIfInBounds_toArray, List.set_cons_zero, List.set_cons_succ])
              refine wpAnyH_done (by kernel_rfl) ?_ _
              go_wp2_with fail
              go_roundg g0
              case rel => exact HN.out
              case measure => exact HLT.out
    | false =>
      have hS : then' R1 (many (timesStep fac)) = R1 := by
        cases R1 with
        | err p c => rfl
        | ok y l =>
          obtain ⟨i, rfl, _⟩ := HL.out.at'.ok_of
          simp only [nxt, decide_eq_false_iff_not] at hy
          exact times_done hy
      have HS : Hid (then' R (fun _ => termP fac) = R1) := Lib.hid (by
        have h1 := HQ.out
        rw [hS] at h1
        rw [h1, HEQ.out]
        rfl)
      have N0 := Lib.hid (show Lcl E v kvs w.heap.size _ (wr.drewN m) from ⟨HL.out.L0.loc, HL.out.L0.lt, HL.out.L0.obj⟩)
      have N1 := Lib.hid (show Lcl E v kvs q1 _ (wr.drewN m) from ⟨HL.out.L1.loc, HL.out.L1.lt, HL.out.L1.obj⟩)
      have hge := HL.out.ge
      have n10 : q1 ≠ w.heap.size := hge.2.2.symm
      have n01 : w.heap.size ≠ q1 := hge.2.2
      have hsw : w.heap.size ≤ (wr.drewN m).heap.size := HL.out.fr.size
      have ZA := Lib.hid ((HL.out.at'.drewN m).set5 N0.out.loc (.int .u8 k1) (.int .i64 a1) (.string t1) (.int .i64 m1) (.slice p1 l1 c1))
      have ZF := Lib.hid ((HL.out.fr.drewN m).set5 hsw (q := w.heap.size) (Nat.le_refl _) (.int .u8 k1) (.int .i64 a1) (.string t1) (.int .i64 m1) (.slice p1 l1 c1))
      have ZL := Lib.hid (N0.out.set5 (.int .u8 k1) (.int .i64 a1) (.string t1) (.int .i64 m1) (.slice p1 l1 c1))
      have ZX := Lib.hid (fun y l' e => (((HL.out.ex y l' e).drewq m).setq5 (Or.inl rfl) (.int .u8 k1) (.int .i64 a1) (.string t1) (.int .i64 m1) (.slice p1 l1 c1)).unq)
      have m0 := N1.out.cell 0 rfl
      have m1' := N1.out.cell 1 rfl
      have m2 := N1.out.cell 2 rfl
      have m3 := N1.out.cell 3 rfl
      have m4 := N1.out.cell 4 rfl
      have r0 := N0.out.cell 0 rfl
      have r1 := N0.out.cell 1 rfl
      have r2 := N0.out.cell 2 rfl
      have r3 := N0.out.cell 3 rfl
      have r4 := N0.out.cell 4 rfl
      have rz := N0.out.fz
      generalize wr.drewN m = wd at *
      clear hy hS
      go_wp2_with fail
      generalize ((((wd.setCell ⟨w.heap.size, 0, none⟩ (.int .u8 k1)).setCell ⟨w.heap.size, 1, none⟩ (.int .i64 a1)).setCell ⟨w.heap.size, 2, none⟩ (.string t1)).setCell ⟨w.heap.size, 3, none⟩ (.int .i64 m1)).setCell ⟨w.heap.size, 4, none⟩ (.slice p1 l1 c1) = Wz at *
      clear m0 m1' m2 m3 m4 r0 r1 r2 r3 r4 rz
      have y0 := ZL.out.cell 0 rfl
      have y1 := ZL.out.cell 1 rfl
      have y2 := ZL.out.cell 2 rfl
      have y3 := ZL.out.cell 3 rfl
      have y4 := ZL.out.cell 4 rfl
      simp [bodyPost, results, Tryz.results223, go_sem, y0, y1, y2, y3, y4]
      rw [HS.out]
      exact ⟨_, rfl, ⟨_, _, _, _, _, _, _, rfl⟩, ZA.out, ZF.out, ZX.out⟩
end
end Go.Proofs.YtpemghcafbedeaaGreatDoor.Rf
end
section
namespace Go.Proofs.YtpemghcafbedeaaGreatDoor.Rf
open Go.RowKit Par
theorem plus_more {fac : Par Ast} (hl : Less fac) {y : Ast} {t : PT} {l : List PT} (ht : t.txt = ⟨#[43]⟩) : then' (.ok y (t :: l)) (many (sumStep fac)) = then' (then' (termP fac l) fun b => Par.pure (bothA 23 y b)) (many (sumStep fac)) := by
  simp only [then']
  have hs : sumStep fac y (t :: l) = match termP fac l with | .err p c => .err p c | .ok b l' => .ok (some (bothA 23 y b)) l' := by
    simp only [sumStep, Par.bind, skipP, if_pos ht, Par.pure]
    cases termP fac l <;> rfl
  cases hf : termP fac l with
  | err p c => rw [hf] at hs; exact many_err hs
  | ok b l' => rw [hf] at hs; exact many_more (step_sum hl) hs
theorem minus_more {fac : Par Ast} (hl : Less fac) {y : Ast} {t : PT} {l : List PT} (ht : t.txt = ⟨#[45]⟩) : then' (.ok y (t :: l)) (many (sumStep fac)) = then' (then' (termP fac l) fun b => Par.pure (bothA 24 y b)) (many (sumStep fac)) := by
  simp only [then']
  have hs : sumStep fac y (t :: l) = match termP fac l with | .err p c => .err p c | .ok b l' => .ok (some (bothA 24 y b)) l' := by
    simp only [sumStep, Par.bind, skipP]
    rw [if_neg (show ¬ t.txt = ⟨#[43]⟩ by rw [ht]; decide)]
    simp only [Par.bind, skipP, if_pos ht, Par.pure]
    cases termP fac l <;> rfl
  cases hf : termP fac l with
  | err p c => rw [hf] at hs; exact many_err hs
  | ok b l' => rw [hf] at hs; exact many_more (step_sum hl) hs
theorem sum_done {fac : Par Ast} {y : Ast} {t : PT} {l : List PT} (ht : ¬ t.txt = ⟨#[43]⟩) (ht2 : ¬ t.txt = ⟨#[45]⟩) : then' (.ok y (t :: l)) (many (sumStep fac)) = .ok y (t :: l) := by
  simp only [then']
  refine many_done ?_
  simp only [sumStep, Par.bind, skipP, if_neg ht, if_neg ht2, Par.pure]
def RelS (E : Env) (v : Value) (kvs : List Value) (md : List Nd) (d : Int) (w : World) (q1 : Nat) (fac : Par Ast) (S : Res Ast) (g : Nat) (wr : World) : Prop :=
  ∃ (R1 : Res Ast) (k1 a1 : Int) (t1 : ByteArray) (m1 : Int) (p1 : Option Addr) (l1 c1 : Nat), Hid (left R1 ≤ g) ∧ Hid (then' R1 (many (sumStep fac)) = S) ∧ Hid (LpX E v kvs md d w w.heap.size q1 R1 k1 a1 t1 m1 p1 l1 c1 wr)
section
variable {α β : Type} {E : Env} {v : Value} {kvs : List Value} {md : List Nd} {i : Nat} {d e : Int} {w w' : World}
set_option maxRecDepth 1000000 in
set_option maxHeartbeats 8000000 in
theorem sum_x {fac : Par Ast} {d : Int} (hf : HasX 223 d (termP fac)) (hl : Less fac) : HasX 209 d (exprP fac) := by
  intro E v kvs md w α R h
  have HFX := Lib.hid hf
  have HLS := Lib.hid hl
  have HLT0 := Lib.hid (less_term hl)
  have L0 := Lib.hid (h.lcl (.cells #[.int .u8 0, .int .i64 0, .string ⟨#[]⟩, .int .i64 0, .slice none 0 0] 231))
  have A0 := Lib.hid (h.alloc (.cells #[.int .u8 0, .int .i64 0, .string ⟨#[]⟩, .int .i64 0, .slice none 0 0] 231))
  have F0 := Lib.hid (show Fr E w.heap.size v v w _ from (Fr.refl E w.heap.size v w).alloc (Nat.le_refl _) (.cells #[.int .u8 0, .int .i64 0, .string ⟨#[]⟩, .int .i64 0, .slice none 0 0] 231))
  have C0 := Lib.hid (HFX.out E v kvs md _ α R A0.out)
  have HEQ := Lib.hid (then_then R (fun _ => termP fac) (many (sumStep fac)))
  clear h hf hl
  go_enter Tryz.func209, Tryz.ntmps209
  go_wp2_with fail
  (with_reducible refine C0.out.mono ?_)
  rintro x w3 ⟨ev, rfl, ⟨k1, a1, t1, m1, p1, l1, c1, rfl⟩, ha3, hf3, hx3⟩
  have hsz : (w.alloc (.cells #[.int .u8 0, .int .i64 0, .string ⟨#[]⟩, .int .i64 0, .slice none 0 0] 231)).heap.size = w.heap.size + 1 := by simp
  have hs3 : w.heap.size + 1 ≤ w3.heap.size := by have := hf3.size; rwa [hsz] at this
  have HLP : Hid (LpX E v kvs md d w w.heap.size w3.heap.size (then' R fun _ => termP fac) k1 a1 t1 m1 p1 l1 c1 (w3.alloc (.cells #[.int .u8 k1, .int .i64 a1, .string t1, .int .i64 m1, .slice p1 l1 c1] 231))) := Lib.hid
    { at' := ha3.alloc _
      fr := (F0.out.trans (hf3.mono (show w.heap.size ≤ _ by rw [hsz]; omega))).alloc (by omega) _
      L0 := (L0.out.on0 hf3).alloc _
      L1 := ha3.lcl _
      ge := ⟨by omega, by omega, by omega⟩
      ex := fun y l' e => ExprV.on (by simp) (fun k _ hl => Below.heap_alloc _ _ _ hl) (fun k hk hl => ⟨⟨hk.1, by have := hk.2; rw [hsz] at this; omega⟩, by have := hk.2; rw [hsz] at this; omega, by omega⟩) _ _ (hx3 y l' e) }
  clear ha3 hf3 hx3 C0 L0 A0 F0 hsz
  go_upto_region 2 with fail
  obtain ⟨q1, hq1⟩ : ∃ q1, w3.heap.size = q1 := ⟨_, rfl⟩
  rw [hq1] at HLP hs3 ⊢
  clear hq1
  generalize w3.alloc (.cells #[.int .u8 k1, .int .i64 a1, .string t1, .int .i64 m1, .slice p1 l1 c1] 231) = w4 at *
  go_loopg [4] (left (then' R fun _ => termP fac)) (fun g _ wr => RelS E v kvs md d w q1 fac (then' (then' R fun _ => termP fac) (many (sumStep fac))) g wr)
  case atStart => exact ⟨_, _, _, _, _, _, _, _, Lib.hid (Nat.le_refl _), Lib.hid rfl, HLP⟩
  case round =>
    clear HLP
    obtain ⟨R1, k1, a1, t1, m1, p1, l1, c1, HG, HQ, HL⟩ := hrel
    have IS := Lib.hid (is_R HL.out.at' ⟨#[43]⟩ (by decide) (by decide))
    go_wp2_with fail
    (with_reducible refine IS.out.mono ?_)
    rintro x wd ⟨rfl, m, rfl⟩
    clear IS
    cases hy : nxt R1 ⟨#[43]⟩ with
    | true =>
      obtain ⟨y, i, rfl, hrs, htx, hil⟩ := HL.out.at'.yes (by decide) hy
      have hno : nxt (Res.ok y (RT E i :: List.drop (i + 1) E.pts)) ⟨#[45]⟩ = false := by
        simp only [nxt, htx]; decide
      have IS2 := Lib.hid (is_R (HL.out.at'.drewN m) ⟨#[45]⟩ (by decide) (by decide))
      go_wp2_with fail
      (with_reducible refine IS2.out.mono ?_)
      rintro x wd ⟨rfl, m2, rfl⟩
      clear IS2
      rw [hno]
      have h63 : (i : Int) + 1 ≤ 9223372036854775807 := by have := hrs.few; omega
      have HRS := Lib.hid (hrs.drewN (m + m2))
      obtain ⟨_, c1', _, _, _⟩ := HRS.out.rowCells
      have cz := HRS.out.fz
      have HK := Lib.hid (HRS.out.inc hil)
      have A5 := Lib.hid (At.of_ok (d := d) y HK.out.rs)
      have M0 := Lib.hid ((show Lcl E v kvs w.heap.size _ (wr.drewN (m + m2)) from ⟨HL.out.L0.loc, HL.out.L0.lt, HL.out.L0.obj⟩).setB 1 (.int .i64 ((i : Int) + 1)))
      have M1 := Lib.hid ((show Lcl E v kvs q1 _ (wr.drewN (m + m2)) from ⟨HL.out.L1.loc, HL.out.L1.lt, HL.out.L1.obj⟩).setB 1 (.int .i64 ((i : Int) + 1)))
      have hsw : w.heap.size ≤ (wr.drewN (m + m2)).heap.size := HL.out.fr.size
      have F5 := Lib.hid ((HL.out.fr.drewN (m + m2)).trans (HK.out.fr.mono hsw))
      have X5 := Lib.hid (((HL.out.ex y _ rfl).drewq (m + m2)).setq (q := ⟨E.b, 1, none⟩) (Or.inl rfl) (.int .i64 ((i : Int) + 1)))
      have hge := HL.out.ge
      have HTX := Lib.hid htx
      go_upto_region 7 with fail
      generalize ((wr.drewN (m + m2)).setCell ⟨E.b, 1, none⟩ (.int .i64 ((i : Int) + 1))) = w5 at *
      clear c1' cz HK HRS hrs hil hsw
      obtain ⟨g0, hg0⟩ : ∃ g0, g0 = gk - 1 := ⟨_, rfl⟩
      have C5 := Lib.hid (HFX.out E v kvs md _ Ast _ A5.out.drew)
      have m0 := M1.out.cell 0 rfl
      have m1' := M1.out.cell 1 rfl
      have m2 := M1.out.cell 2 rfl
      have m3 := M1.out.cell 3 rfl
      have m4 := M1.out.cell 4 rfl
      have LN : Hid (∀ k6 a6 t6 m6 p6 l6 c6 w6, At E v kvs md d (then' (Res.ok y (List.drop (i + 1) E.pts)) fun _ => termP fac) w6 → Fr E w5.drew.heap.size v v w5.drew w6 → (∀ y' l', then' (Res.ok y (List.drop (i + 1) E.pts)) (fun _ => termP fac) = .ok y' l' → ExprV w6 (Nx E v kvs w5.drew.heap.size) y' (.agg #[.int .u8 k6, .int .i64 a6, .string t6, .int .i64 m6, .slice p6 l6 c6])) → RelS E v kvs md d w q1 fac (then' (then' R fun _ => termP fac) (many (sumStep fac))) g0 (set5 (w6.alloc (.cells #[.int .u8 k1, .int .i64 a1, .string t1, .int .i64 m1, .slice p1 l1 c1, .int .u8 k6, .int .i64 a6, .string t6, .int .i64 m6, .slice p6 l6 c6] 231)) q1 (.int .u8 23) (.int .i64 a1) (.string ⟨#[]⟩) (.int .i64 0) (.slice (some ⟨w6.heap.size, 0, none⟩) 2 2))) := Lib.hid (by
        intro k6 a6 t6 m6 p6 l6 c6 w6 ha6 hf6 hx6
        have hdr : w5.drew.heap.size = w5.heap.size := rfl
        have hs6 : w5.heap.size ≤ w6.heap.size := hf6.size
        have hq0 : w.heap.size < w5.heap.size := M0.out.lt
        have hq1 : q1 < w5.heap.size := M1.out.lt
        have e1 : a1 = (y.at' : Int) := X5.out.at1
        refine ⟨then' (termP fac (List.drop (i + 1) E.pts)) fun b => Par.pure (bothA 23 y b), 23, a1, ⟨#[]⟩, 0, some ⟨w6.heap.size, 0, none⟩, 2, 2, Lib.hid ?_, Lib.hid ?_, Lib.hid ?_⟩
        · have h1 := HG.out
          simp only [left, List.length_cons] at h1
          have h2 := left_le HLT0.out (List.drop (i + 1) E.pts) (bothA 23 y)
          omega
        · rw [← HQ.out, plus_more HLS.out HTX.out]
        · exact
            { at' := ((ha6.mapv (bothA 23 y)).alloc _).set5 M1.out.loc _ _ _ _ _
              fr := (((F5.out.drewN 1).trans (hf6.mono (show w.heap.size ≤ w5.drew.heap.size by rw [hdr]; omega))).alloc (by omega) _).set5 (by simp; omega) (q := q1) hge.2.1 _ _ _ _ _
              L0 := (((Lcl.drew' M0.out).on0 hf6).alloc _).set5o hge.2.2.symm _ _ _ _ _
              L1 := (((Lcl.drew' M1.out).on0 hf6).alloc _).set5 _ _ _ _ _
              ge := hge
              ex := fun z l' ez => by
                obtain ⟨b, eb, rfl⟩ := thenv_inv ez
                subst e1
                refine ExprV.node2q (P := Nq E v kvs w.heap.size w.heap.size q1) (b := w6.heap.size) (T := 231) ⟨⟨ha6.fresh, by omega⟩, by omega, by omega⟩ (by simp [size_set]) ?_ 23 y.at' none0 0 ((((X5.out.drewq 1).frq hf6 (Nat.le_refl _)).allocq _).setq5 (Or.inr rfl) _ _ _ _ _) ((((hx6 b l' eb).nq (by rw [hdr]; omega) (by rw [hdr]; omega) (by rw [hdr]; omega)).allocq _).setq5 (Or.inr rfl) _ _ _ _ _)
                rw [heap_set5 (show q1 ≠ w6.heap.size by omega)]
                exact heap_alloc_new _ _ })
      have HLT : Hid (g0 < gk) := Lib.hid (by have := HG.out; simp only [left, List.length_cons] at this; omega)
      refine wp_region_held_drew (S := fun _ => True) (by kernel_rfl) trivial (fun hHeld => ?_)
      refine wpAnyH_take (i := 0) (v := ?_) rfl (by kernel_rfl) (by kernel_rfl) (by kernel_rfl) (fun _ _ _ h => h) (Or.inl ⟨by rfl, ?_⟩) hHeld ?_
      rotate_left
      · (intro w hSw; (try dsimp only at hSw); go_simp; try with_reducible rfl)
      (try simp only [Act.put, List.getElem_toArray, List.getElem_cons_zero, List.getElem_cons_succ, List.setIfInBounds_toArray, List.set_cons_zero, List.set_cons_succ])
      refine wpAnyH_take (i := 1) (v := ?_) rfl (by kernel_rfl) (by kernel_rfl) (by kernel_rfl) (fun _ _ _ h => h) (Or.inl ⟨by rfl, ?_⟩) hHeld ?_
      rotate_left
      · (intro w hSw; (try dsimp only at hSw); go_simp; try with_reducible rfl)
      (try simp only [Act.put, List.getElem_toArray, List.getElem_cons_zero, List.getElem_cons_succ, List.setIfInBounds_toArray, List.set_cons_zero, List.set_cons_succ])
      refine wpAnyH_take (i := 4) (v := ?_) rfl (by kernel_rfl) (by kernel_rfl) (by kernel_rfl) (fun _ _ _ h => h) (Or.inl ⟨by rfl, ?_⟩) hHeld ?_
      rotate_left
      · (intro w hSw; (try dsimp only at hSw); go_simp; try with_reducible rfl)
      (try simp only [Act.put, List.getElem_toArray, List.getElem_cons_zero, List.getElem_cons_succ, List.setIfInBounds_toArray, List.set_cons_zero, List.set_cons_succ])
      refine wpAnyH_ready (rs := [2, 3, 5]) (by kernel_rfl) (by simp) ?_
      refine AllReadyH.cons rfl (fun K hK => ?_) (AllReadyH.cons rfl (fun K hK => ?_) (AllReadyH.cons rfl (fun K hK => ?_) (AllReadyH.nil)))
      · go_simp
        refine hK.out _ _ trivial (fun hHeld => ?_)
        clear hK K
        (try simp only [Act.put, List.getElem_toArray, List.getElem_cons_zero, List.getElem_cons_succ, List.setIfInBounds_toArray, List.set_cons_zero, List.set_cons_succ])
        refine wpAnyH_ready (rs := [3, 5]) (by kernel_rfl) (by simp) ?_
        refine AllReadyH.cons rfl (fun K hK => ?_) (AllReadyH.cons rfl (fun K hK => ?_) (AllReadyH.nil))
        · go_simp
          refine hK.out _ _ trivial (fun hHeld => ?_)
          clear hK K
          (try simp only [Act.put, List.getElem_toArray, List.getElem_cons_zero, List.getElem_cons_succ, List.setIfInBounds_toArray, List.set_cons_zero, List.set_cons_succ])
          refine wpAnyH_ready (rs := [5]) (by kernel_rfl) (by simp) ?_
          refine AllReadyH.cons rfl (fun K hK => ?_) (AllReadyH.nil)
          · go_simp
            go_at_call 223
            (with_reducible refine C5.out.mono ?_)
            rintro x w6 ⟨ev, rfl, ⟨k6, a6, t6, m6, p6, l6, c6, rfl⟩, ha6, hf6, hx6⟩
            have HN := Lib.hid (LN.out k6 a6 t6 m6 p6 l6 c6 w6 ha6 hf6 hx6)
            have O1 := Lib.hid ((Lcl.drew' M1.out).on0 hf6)
            have x0 := O1.out.cell 0 rfl
            have x1 := O1.out.cell 1 rfl
            have x2 := O1.out.cell 2 rfl
            have x3 := O1.out.cell 3 rfl
            have x4 := O1.out.cell 4 rfl
            clear ha6 hf6 hx6
            go_simp
            refine hK.out _ _ trivial (fun hHeld => ?_)
            clear hK K
            (try simp only [Act.put, List.getElem_toArray, List.getElem_cons_zero, List.getElem_cons_succ, List.setIfInBounds_toArray, List.set_cons_zero, List.set_cons_succ])
            refine wpAnyH_ready (rs := [6]) (by kernel_rfl) (by simp) ?_
            refine AllReadyH.cons rfl (fun K hK => ?_) (AllReadyH.nil)
            · rw [if_pos (by rfl)]
              refine wp_bs 229 2 #[(0, .tmp 25), (1, .tmp 27)] rfl #[(0, .agg #[.int .u8 k1, .int .i64 a1, .string t1, .int .i64 m1, .slice p1 l1 c1]), (1, .agg #[.int .u8 k6, .int .i64 a6, .string t6, .int .i64 m6, .slice p6 l6 c6])] (by simp [Act.eval, Act.put]) _ _ (bs_two _ _ _ _ _ _ _ _ _ _ _) ?_
              have O2 := Lib.hid (O1.out.alloc (.cells #[.int .u8 k1, .int .i64 a1, .string t1, .int .i64 m1, .slice p1 l1 c1, .int .u8 k6, .int .i64 a6, .string t6, .int .i64 m6, .slice p6 l6 c6] 231))
              generalize (w6.alloc (.cells #[.int .u8 k1, .int .i64 a1, .string t1, .int .i64 m1, .slice p1 l1 c1, .int .u8 k6, .int .i64 a6, .string t6, .int .i64 m6, .slice p6 l6 c6] 231)) = w7 at *
              generalize w6.heap.size = q9 at *
              have y0 := O2.out.cell 0 rfl
              have y1 := O2.out.cell 1 rfl
              have y2 := O2.out.cell 2 rfl
              have y3 := O2.out.cell 3 rfl
              have y4 := O2.out.cell 4 rfl
              have yz := O2.out.fz
              clear x0 x1 x2 x3 x4 O1 O2
              refine hK.out _ _ trivial (fun hHeld => ?_)
              clear hK K
              (try simp only [Act.put, List.getElem_toArray, List.getElem_cons_zero, List.getElem_cons_succ, List.setIfInBounds_toArray, List.set_cons_zero, List.set_cons_succ])
              refine wpAnyH_take (i := 7) (v := ?_) rfl (by kernel_rfl) (by kernel_rfl) (by kernel_rfl) (fun _ _ _ h => h) (Or.inl ⟨by rfl, ?_⟩) hHeld ?_
              rotate_left
              · (intro w hSw; (try dsimp only at hSw); go_simp; try with_reducible rfl)
              (try simp only [Act.put, List.getElem_toArray, List.getElem_cons_zero, List.getElem_cons_succ, List.setIfInBounds_toArray, List.set_cons_zero, List.set_cons_succ])
              refine wpAnyH_ready (rs := [8]) (by kernel_rfl) (by simp) ?_
              refine AllReadyH.cons rfl (fun K hK => ?_) AllReadyH.nil
              go_simp
              refine hK.out _ _ trivial (fun hHeld => ?_)
              clear hK K
              (try simp only [Act.put, List.getElem_toArray, List.getElem_cons_zero, List.getElem_cons_succ, List.setIfInBounds_toArray, List.set_cons_zero, List.set_cons_succ])
              refine wpAnyH_done (by kernel_rfl) ?_ _
              go_wp2_with fail
              go_roundg g0
              case rel => exact HN.out
              case measure => exact HLT.out
        · go_simp
          go_at_call 223
          (with_reducible refine C5.out.mono ?_)
          rintro x w6 ⟨ev, rfl, ⟨k6, a6, t6, m6, p6, l6, c6, rfl⟩, ha6, hf6, hx6⟩
          have HN := Lib.hid (LN.out k6 a6 t6 m6 p6 l6 c6 w6 ha6 hf6 hx6)
          have O1 := Lib.hid ((Lcl.drew' M1.out).on0 hf6)
          have x0 := O1.out.cell 0 rfl
          have x1 := O1.out.cell 1 rfl
          have x2 := O1.out.cell 2 rfl
          have x3 := O1.out.cell 3 rfl
          have x4 := O1.out.cell 4 rfl
          clear ha6 hf6 hx6
          go_simp
          refine hK.out _ _ trivial (fun hHeld => ?_)
          clear hK K
          (try simp only [Act.put, List.getElem_toArray, List.getElem_cons_zero, List.getElem_cons_succ, List.setIfInBounds_toArray, List.set_cons_zero, List.set_cons_succ])
          refine wpAnyH_ready (rs := [3]) (by kernel_rfl) (by simp) ?_
          refine AllReadyH.cons rfl (fun K hK => ?_) (AllReadyH.nil)
          · go_simp
            refine hK.out _ _ trivial (fun hHeld => ?_)
            clear hK K
            (try simp only [Act.put, List.getElem_toArray, List.getElem_cons_zero, List.getElem_cons_succ, List.setIfInBounds_toArray, List.set_cons_zero, List.set_cons_succ])
            refine wpAnyH_ready (rs := [6]) (by kernel_rfl) (by simp) ?_
            refine AllReadyH.cons rfl (fun K hK => ?_) (AllReadyH.nil)
            · rw [if_pos (by rfl)]
              refine wp_bs 229 2 #[(0, .tmp 25), (1, .tmp 27)] rfl #[(0, .agg #[.int .u8 k1, .int .i64 a1, .string t1, .int .i64 m1, .slice p1 l1 c1]), (1, .agg #[.int .u8 k6, .int .i64 a6, .string t6, .int .i64 m6, .slice p6 l6 c6])] (by simp [Act.eval, Act.put]) _ _ (bs_two _ _ _ _ _ _ _ _ _ _ _) ?_
              have O2 := Lib.hid (O1.out.alloc (.cells #[.int .u8 k1, .int .i64 a1, .string t1, .int .i64 m1, .slice p1 l1 c1, .int .u8 k6, .int .i64 a6, .string t6, .int .i64 m6, .slice p6 l6 c6] 231))
              generalize (w6.alloc (.cells #[.int .u8 k1, .int .i64 a1, .string t1, .int .i64 m1, .slice p1 l1 c1, .int .u8 k6, .int .i64 a6, .string t6, .int .i64 m6, .slice p6 l6 c6] 231)) = w7 at *
              generalize w6.heap.size = q9 at *
              have y0 := O2.out.cell 0 rfl
              have y1 := O2.out.cell 1 rfl
              have y2 := O2.out.cell 2 rfl
              have y3 := O2.out.cell 3 rfl
              have y4 := O2.out.cell 4 rfl
              have yz := O2.out.fz
              clear x0 x1 x2 x3 x4 O1 O2
              refine hK.out _ _ trivial (fun hHeld => ?_)
              clear hK K
              (try simp only [Act.put, List.getElem_toArray, List.getElem_cons_zero, List.getElem_cons_succ, List.setIfInBounds_toArray, List.set_cons_zero, List.set_cons_succ])
              refine wpAnyH_take (i := 7) (v := ?_) rfl (by kernel_rfl) (by kernel_rfl) (by kernel_rfl) (fun _ _ _ h => h) (Or.inl ⟨by rfl, ?_⟩) hHeld ?_
              rotate_left
              · (intro w hSw; (try dsimp only at hSw); go_simp; try with_reducible rfl)
              (try simp only [Act.put, List.getElem_toArray, List.getElem_cons_zero, List.getElem_cons_succ, List.setIfInBounds_toArray, List.set_cons_zero, List.set_cons_succ])
              refine wpAnyH_ready (rs := [8]) (by kernel_rfl) (by simp) ?_
              refine AllReadyH.cons rfl (fun K hK => ?_) AllReadyH.nil
              go_simp
              refine hK.out _ _ trivial (fun hHeld => ?_)
              clear hK K
              (try simp only [Act.put, List.getElem_toArray, List.getElem_cons_zero, List.getElem_cons_succ, List.setIfInBounds_toArray, List.set_cons_zero, List.set_cons_succ])
              refine wpAnyH_done (by kernel_rfl) ?_ _
              go_wp2_with fail
              go_roundg g0
              case rel => exact HN.out
              case measure => exact HLT.out
      · go_simp
        refine hK.out _ _ trivial (fun hHeld => ?_)
        clear hK K
        (try simp only [Act.put, List.getElem_toArray, List.getElem_cons_zero, List.getElem_cons_succ, List.setIfInBounds_toArray, List.set_cons_zero, List.set_cons_succ])
        refine wpAnyH_ready (rs := [2, 5]) (by kernel_rfl) (by simp) ?_
        refine AllReadyH.cons rfl (fun K hK => ?_) (AllReadyH.cons rfl (fun K hK => ?_) (AllReadyH.nil))
        · go_simp
          refine hK.out _ _ trivial (fun hHeld => ?_)
          clear hK K
          (try simp only [Act.put, List.getElem_toArray, List.getElem_cons_zero, List.getElem_cons_succ, List.setIfInBounds_toArray, List.set_cons_zero, List.set_cons_succ])
          refine wpAnyH_ready (rs := [5]) (by kernel_rfl) (by simp) ?_
          refine AllReadyH.cons rfl (fun K hK => ?_) (AllReadyH.nil)
          · go_simp
            go_at_call 223
            (with_reducible refine C5.out.mono ?_)
            rintro x w6 ⟨ev, rfl, ⟨k6, a6, t6, m6, p6, l6, c6, rfl⟩, ha6, hf6, hx6⟩
            have HN := Lib.hid (LN.out k6 a6 t6 m6 p6 l6 c6 w6 ha6 hf6 hx6)
            have O1 := Lib.hid ((Lcl.drew' M1.out).on0 hf6)
            have x0 := O1.out.cell 0 rfl
            have x1 := O1.out.cell 1 rfl
            have x2 := O1.out.cell 2 rfl
            have x3 := O1.out.cell 3 rfl
            have x4 := O1.out.cell 4 rfl
            clear ha6 hf6 hx6
            go_simp
            refine hK.out _ _ trivial (fun hHeld => ?_)
            clear hK K
            (try simp only [Act.put, List.getElem_toArray, List.getElem_cons_zero, List.getElem_cons_succ, List.setIfInBounds_toArray, List.set_cons_zero, List.set_cons_succ])
            refine wpAnyH_ready (rs := [6]) (by kernel_rfl) (by simp) ?_
            refine AllReadyH.cons rfl (fun K hK => ?_) (AllReadyH.nil)
            · rw [if_pos (by rfl)]
              refine wp_bs 229 2 #[(0, .tmp 25), (1, .tmp 27)] rfl #[(0, .agg #[.int .u8 k1, .int .i64 a1, .string t1, .int .i64 m1, .slice p1 l1 c1]), (1, .agg #[.int .u8 k6, .int .i64 a6, .string t6, .int .i64 m6, .slice p6 l6 c6])] (by simp [Act.eval, Act.put]) _ _ (bs_two _ _ _ _ _ _ _ _ _ _ _) ?_
              have O2 := Lib.hid (O1.out.alloc (.cells #[.int .u8 k1, .int .i64 a1, .string t1, .int .i64 m1, .slice p1 l1 c1, .int .u8 k6, .int .i64 a6, .string t6, .int .i64 m6, .slice p6 l6 c6] 231))
              generalize (w6.alloc (.cells #[.int .u8 k1, .int .i64 a1, .string t1, .int .i64 m1, .slice p1 l1 c1, .int .u8 k6, .int .i64 a6, .string t6, .int .i64 m6, .slice p6 l6 c6] 231)) = w7 at *
              generalize w6.heap.size = q9 at *
              have y0 := O2.out.cell 0 rfl
              have y1 := O2.out.cell 1 rfl
              have y2 := O2.out.cell 2 rfl
              have y3 := O2.out.cell 3 rfl
              have y4 := O2.out.cell 4 rfl
              have yz := O2.out.fz
              clear x0 x1 x2 x3 x4 O1 O2
              refine hK.out _ _ trivial (fun hHeld => ?_)
              clear hK K
              (try simp only [Act.put, List.getElem_toArray, List.getElem_cons_zero, List.getElem_cons_succ, List.setIfInBounds_toArray, List.set_cons_zero, List.set_cons_succ])
              refine wpAnyH_take (i := 7) (v := ?_) rfl (by kernel_rfl) (by kernel_rfl) (by kernel_rfl) (fun _ _ _ h => h) (Or.inl ⟨by rfl, ?_⟩) hHeld ?_
              rotate_left
              · (intro w hSw; (try dsimp only at hSw); go_simp; try with_reducible rfl)
              (try simp only [Act.put, List.getElem_toArray, List.getElem_cons_zero, List.getElem_cons_succ, List.setIfInBounds_toArray, List.set_cons_zero, List.set_cons_succ])
              refine wpAnyH_ready (rs := [8]) (by kernel_rfl) (by simp) ?_
              refine AllReadyH.cons rfl (fun K hK => ?_) AllReadyH.nil
              go_simp
              refine hK.out _ _ trivial (fun hHeld => ?_)
              clear hK K
              (try simp only [Act.put, List.getElem_toArray, List.getElem_cons_zero, List.getElem_cons_succ, List.setIfInBounds_toArray, List.set_cons_zero, List.set_cons_succ])
              refine wpAnyH_done (by kernel_rfl) ?_ _
              go_wp2_with fail
              go_roundg g0
              case rel => exact HN.out
              case measure => exact HLT.out
        · go_simp
          go_at_call 223
          (with_reducible refine C5.out.mono ?_)
          rintro x w6 ⟨ev, rfl, ⟨k6, a6, t6, m6, p6, l6, c6, rfl⟩, ha6, hf6, hx6⟩
          have HN := Lib.hid (LN.out k6 a6 t6 m6 p6 l6 c6 w6 ha6 hf6 hx6)
          have O1 := Lib.hid ((Lcl.drew' M1.out).on0 hf6)
          have x0 := O1.out.cell 0 rfl
          have x1 := O1.out.cell 1 rfl
          have x2 := O1.out.cell 2 rfl
          have x3 := O1.out.cell 3 rfl
          have x4 := O1.out.cell 4 rfl
          clear ha6 hf6 hx6
          go_simp
          refine hK.out _ _ trivial (fun hHeld => ?_)
          clear hK K
          (try simp only [Act.put, List.getElem_toArray, List.getElem_cons_zero, List.getElem_cons_succ, List.setIfInBounds_toArray, List.set_cons_zero, List.set_cons_succ])
          refine wpAnyH_ready (rs := [2, 6]) (by kernel_rfl) (by simp) ?_
          refine AllReadyH.cons rfl (fun K hK => ?_) (AllReadyH.cons rfl (fun K hK => ?_) (AllReadyH.nil))
          · go_simp
            refine hK.out _ _ trivial (fun hHeld => ?_)
            clear hK K
            (try simp only [Act.put, List.getElem_toArray, List.getElem_cons_zero, List.getElem_cons_succ, List.setIfInBounds_toArray, List.set_cons_zero, List.set_cons_succ])
            refine wpAnyH_ready (rs := [6]) (by kernel_rfl) (by simp) ?_
            refine AllReadyH.cons rfl (fun K hK => ?_) (AllReadyH.nil)
            · rw [if_pos (by rfl)]
              refine wp_bs 229 2 #[(0, .tmp 25), (1, .tmp 27)] rfl #[(0, .agg #[.int .u8 k1, .int .i64 a1, .string t1, .int .i64 m1, .slice p1 l1 c1]), (1, .agg #[.int .u8 k6, .int .i64 a6, .string t6, .int .i64 m6, .slice p6 l6 c6])] (by simp [Act.eval, Act.put]) _ _ (bs_two _ _ _ _ _ _ _ _ _ _ _) ?_
              have O2 := Lib.hid (O1.out.alloc (.cells #[.int .u8 k1, .int .i64 a1, .string t1, .int .i64 m1, .slice p1 l1 c1, .int .u8 k6, .int .i64 a6, .string t6, .int .i64 m6, .slice p6 l6 c6] 231))
              generalize (w6.alloc (.cells #[.int .u8 k1, .int .i64 a1, .string t1, .int .i64 m1, .slice p1 l1 c1, .int .u8 k6, .int .i64 a6, .string t6, .int .i64 m6, .slice p6 l6 c6] 231)) = w7 at *
              generalize w6.heap.size = q9 at *
              have y0 := O2.out.cell 0 rfl
              have y1 := O2.out.cell 1 rfl
              have y2 := O2.out.cell 2 rfl
              have y3 := O2.out.cell 3 rfl
              have y4 := O2.out.cell 4 rfl
              have yz := O2.out.fz
              clear x0 x1 x2 x3 x4 O1 O2
              refine hK.out _ _ trivial (fun hHeld => ?_)
              clear hK K
              (try simp only [Act.put, List.getElem_toArray, List.getElem_cons_zero, List.getElem_cons_succ, List.setIfInBounds_toArray, List.set_cons_zero, List.set_cons_succ])
              refine wpAnyH_take (i := 7) (v := ?_) rfl (by kernel_rfl) (by kernel_rfl) (by kernel_rfl) (fun _ _ _ h => h) (Or.inl ⟨by rfl, ?_⟩) hHeld ?_
              rotate_left
              · (intro w hSw; (try dsimp only at hSw); go_simp; try with_reducible rfl)
              (try simp only [Act.put, List.getElem_toArray, List.getElem_cons_zero, List.getElem_cons_succ, List.setIfInBounds_toArray, List.set_cons_zero, List.set_cons_succ])
              refine wpAnyH_ready (rs := [8]) (by kernel_rfl) (by simp) ?_
              refine AllReadyH.cons rfl (fun K hK => ?_) AllReadyH.nil
              go_simp
              refine hK.out _ _ trivial (fun hHeld => ?_)
              clear hK K
              (try simp only [Act.put, List.getElem_toArray, List.getElem_cons_zero, List.getElem_cons_succ, List.setIfInBounds_toArray, List.set_cons_zero, List.set_cons_succ])
              refine wpAnyH_done (by kernel_rfl) ?_ _
              go_wp2_with fail
              go_roundg g0
              case rel => exact HN.out
              case measure => exact HLT.out
          · rw [if_pos (by rfl)]
            refine wp_bs 229 2 #[(0, .tmp 25), (1, .tmp 27)] rfl #[(0, .agg #[.int .u8 k1, .int .i64 a1, .string t1, .int .i64 m1, .slice p1 l1 c1]), (1, .agg #[.int .u8 k6, .int .i64 a6, .string t6, .int .i64 m6, .slice p6 l6 c6])] (by simp [Act.eval, Act.put]) _ _ (bs_two _ _ _ _ _ _ _ _ _ _ _) ?_
            have O2 := Lib.hid (O1.out.alloc (.cells #[.int .u8 k1, .int .i64 a1, .string t1, .int .i64 m1, .slice p1 l1 c1, .int .u8 k6, .int .i64 a6, .string t6, .int .i64 m6, .slice p6 l6 c6] 231))
            generalize (w6.alloc (.cells #[.int .u8 k1, .int .i64 a1, .string t1, .int .i64 m1, .slice p1 l1 c1, .int .u8 k6, .int .i64 a6, .string t6, .int .i64 m6, .slice p6 l6 c6] 231)) = w7 at *
            generalize w6.heap.size = q9 at *
            have y0 := O2.out.cell 0 rfl
            have y1 := O2.out.cell 1 rfl
            have y2 := O2.out.cell 2 rfl
            have y3 := O2.out.cell 3 rfl
            have y4 := O2.out.cell 4 rfl
            have yz := O2.out.fz
            clear x0 x1 x2 x3 x4 O1 O2
            refine hK.out _ _ trivial (fun hHeld => ?_)
            clear hK K
            (try simp only [Act.put, List.getElem_toArray, List.getElem_cons_zero, List.getElem_cons_succ, List.setIfInBounds_toArray, List.set_cons_zero, List.set_cons_succ])
            refine wpAnyH_ready (rs := [2]) (by kernel_rfl) (by simp) ?_
            refine AllReadyH.cons rfl (fun K hK => ?_) (AllReadyH.nil)
            · go_simp
              refine hK.out _ _ trivial (fun hHeld => ?_)
              clear hK K
              (try simp only [Act.put, List.getElem_toArray, List.getElem_cons_zero, List.getElem_cons_succ, List.setIfInBounds_toArray, List.set_cons_zero, List.set_cons_succ])
              refine wpAnyH_take (i := 7) (v := ?_) rfl (by kernel_rfl) (by kernel_rfl) (by kernel_rfl) (fun _ _ _ h => h) (Or.inl ⟨by rfl, ?_⟩) hHeld ?_
              rotate_left
              · (intro w hSw; (try dsimp only at hSw); go_simp; try with_reducible rfl)
              (try simp only [Act.put, List.getElem_toArray, List.getElem_cons_zero, List.getElem_cons_succ, List.setIfInBounds_toArray, List.set_cons_zero, List.set_cons_succ])
              refine wpAnyH_ready (rs := [8]) (by kernel_rfl) (by simp) ?_
              refine AllReadyH.cons rfl (fun K hK => ?_) AllReadyH.nil
              go_simp
              refine hK.out _ _ trivial (fun hHeld => ?_)
              clear hK K
              (try simp only [Act.put, List.getElem_toArray, List.getElem_cons_zero, List.getElem_cons_succ, List.setIfInBounds_toArray, List.set_cons_zero, List.set_cons_succ])
              refine wpAnyH_done (by kernel_rfl) ?_ _
              go_wp2_with fail
              go_roundg g0
              case rel => exact HN.out
              case measure => exact HLT.out
      · go_simp
        go_at_call 223
        (with_reducible refine C5.out.mono ?_)
        rintro x w6 ⟨ev, rfl, ⟨k6, a6, t6, m6, p6, l6, c6, rfl⟩, ha6, hf6, hx6⟩
        have HN := Lib.hid (LN.out k6 a6 t6 m6 p6 l6 c6 w6 ha6 hf6 hx6)
        have O1 := Lib.hid ((Lcl.drew' M1.out).on0 hf6)
        have x0 := O1.out.cell 0 rfl
        have x1 := O1.out.cell 1 rfl
        have x2 := O1.out.cell 2 rfl
        have x3 := O1.out.cell 3 rfl
        have x4 := O1.out.cell 4 rfl
        clear ha6 hf6 hx6
        go_simp
        refine hK.out _ _ trivial (fun hHeld => ?_)
        clear hK K
        (try simp only [Act.put, List.getElem_toArray, List.getElem_cons_zero, List.getElem_cons_succ, List.setIfInBounds_toArray, List.set_cons_zero, List.set_cons_succ])
        refine wpAnyH_ready (rs := [2, 3]) (by kernel_rfl) (by simp) ?_
        refine AllReadyH.cons rfl (fun K hK => ?_) (AllReadyH.cons rfl (fun K hK => ?_) (AllReadyH.nil))
        · go_simp
          refine hK.out _ _ trivial (fun hHeld => ?_)
          clear hK K
          (try simp only [Act.put, List.getElem_toArray, List.getElem_cons_zero, List.getElem_cons_succ, List.setIfInBounds_toArray, List.set_cons_zero, List.set_cons_succ])
          refine wpAnyH_ready (rs := [3]) (by kernel_rfl) (by simp) ?_
          refine AllReadyH.cons rfl (fun K hK => ?_) (AllReadyH.nil)
          · go_simp
            refine hK.out _ _ trivial (fun hHeld => ?_)
            clear hK K
            (try simp only [Act.put, List.getElem_toArray, List.getElem_cons_zero, List.getElem_cons_succ, List.setIfInBounds_toArray, List.set_cons_zero, List.set_cons_succ])
            refine wpAnyH_ready (rs := [6]) (by kernel_rfl) (by simp) ?_
            refine AllReadyH.cons rfl (fun K hK => ?_) (AllReadyH.nil)
            · rw [if_pos (by rfl)]
              refine wp_bs 229 2 #[(0, .tmp 25), (1, .tmp 27)] rfl #[(0, .agg #[.int .u8 k1, .int .i64 a1, .string t1, .int .i64 m1, .slice p1 l1 c1]), (1, .agg #[.int .u8 k6, .int .i64 a6, .string t6, .int .i64 m6, .slice p6 l6 c6])] (by simp [Act.eval, Act.put]) _ _ (bs_two _ _ _ _ _ _ _ _ _ _ _) ?_
              have O2 := Lib.hid (O1.out.alloc (.cells #[.int .u8 k1, .int .i64 a1, .string t1, .int .i64 m1, .slice p1 l1 c1, .int .u8 k6, .int .i64 a6, .string t6, .int .i64 m6, .slice p6 l6 c6] 231))
              generalize (w6.alloc (.cells #[.int .u8 k1, .int .i64 a1, .string t1, .int .i64 m1, .slice p1 l1 c1, .int .u8 k6, .int .i64 a6, .string t6, .int .i64 m6, .slice p6 l6 c6] 231)) = w7 at *
              generalize w6.heap.size = q9 at *
              have y0 := O2.out.cell 0 rfl
              have y1 := O2.out.cell 1 rfl
              have y2 := O2.out.cell 2 rfl
              have y3 := O2.out.cell 3 rfl
              have y4 := O2.out.cell 4 rfl
              have yz := O2.out.fz
              clear x0 x1 x2 x3 x4 O1 O2
              refine hK.out _ _ trivial (fun hHeld => ?_)
              clear hK K
              (try simp only [Act.put, List.getElem_toArray, List.getElem_cons_zero, List.getElem_cons_succ, List.setIfInBounds_toArray, List.set_cons_zero, List.set_cons_succ])
              refine wpAnyH_take (i := 7) (v := ?_) rfl (by kernel_rfl) (by kernel_rfl) (by kernel_rfl) (fun _ _ _ h => h) (Or.inl ⟨by rfl, ?_⟩) hHeld ?_
              rotate_left
              · (intro w hSw; (try dsimp only at hSw); go_simp; try with_reducible rfl)
              (try simp only [Act.put, List.getElem_toArray, List.getElem_cons_zero, List.getElem_cons_succ, List.setIfInBounds_toArray, List.set_cons_zero, List.set_cons_succ])
              refine wpAnyH_ready (rs := [8]) (by kernel_rfl) (by simp) ?_
              refine AllReadyH.cons rfl (fun K hK => ?_) AllReadyH.nil
              go_simp
              refine hK.out _ _ trivial (fun hHeld => ?_)
              clear hK K
              (try simp only [Act.put, List.getElem_toArray, List.getElem_cons_zero, List.getElem_cons_succ, List.setIfInBounds_toArray, List.set_cons_zero, List.set_cons_succ])
              refine wpAnyH_done (by kernel_rfl) ?_ _
              go_wp2_with fail
              go_roundg g0
              case rel => exact HN.out
              case measure => exact HLT.out
        · go_simp
          refine hK.out _ _ trivial (fun hHeld => ?_)
          clear hK K
          (try simp only [Act.put, List.getElem_toArray, List.getElem_cons_zero, List.getElem_cons_succ, List.setIfInBounds_toArray, List.set_cons_zero, List.set_cons_succ])
          refine wpAnyH_ready (rs := [2, 6]) (by kernel_rfl) (by simp) ?_
          refine AllReadyH.cons rfl (fun K hK => ?_) (AllReadyH.cons rfl (fun K hK => ?_) (AllReadyH.nil))
          · go_simp
            refine hK.out _ _ trivial (fun hHeld => ?_)
            clear hK K
            (try simp only [Act.put, List.getElem_toArray, List.getElem_cons_zero, List.getElem_cons_succ, List.setIfInBounds_toArray, List.set_cons_zero, List.set_cons_succ])
            refine wpAnyH_ready (rs := [6]) (by kernel_rfl) (by simp) ?_
            refine AllReadyH.cons rfl (fun K hK => ?_) (AllReadyH.nil)
            · rw [if_pos (by rfl)]
              refine wp_bs 229 2 #[(0, .tmp 25), (1, .tmp 27)] rfl #[(0, .agg #[.int .u8 k1, .int .i64 a1, .string t1, .int .i64 m1, .slice p1 l1 c1]), (1, .agg #[.int .u8 k6, .int .i64 a6, .string t6, .int .i64 m6, .slice p6 l6 c6])] (by simp [Act.eval, Act.put]) _ _ (bs_two _ _ _ _ _ _ _ _ _ _ _) ?_
              have O2 := Lib.hid (O1.out.alloc (.cells #[.int .u8 k1, .int .i64 a1, .string t1, .int .i64 m1, .slice p1 l1 c1, .int .u8 k6, .int .i64 a6, .string t6, .int .i64 m6, .slice p6 l6 c6] 231))
              generalize (w6.alloc (.cells #[.int .u8 k1, .int .i64 a1, .string t1, .int .i64 m1, .slice p1 l1 c1, .int .u8 k6, .int .i64 a6, .string t6, .int .i64 m6, .slice p6 l6 c6] 231)) = w7 at *
              generalize w6.heap.size = q9 at *
              have y0 := O2.out.cell 0 rfl
              have y1 := O2.out.cell 1 rfl
              have y2 := O2.out.cell 2 rfl
              have y3 := O2.out.cell 3 rfl
              have y4 := O2.out.cell 4 rfl
              have yz := O2.out.fz
              clear x0 x1 x2 x3 x4 O1 O2
              refine hK.out _ _ trivial (fun hHeld => ?_)
              clear hK K
              (try simp only [Act.put, List.getElem_toArray, List.getElem_cons_zero, List.getElem_cons_succ, List.setIfInBounds_toArray, List.set_cons_zero, List.set_cons_succ])
              refine wpAnyH_take (i := 7) (v := ?_) rfl (by kernel_rfl) (by kernel_rfl) (by kernel_rfl) (fun _ _ _ h => h) (Or.inl ⟨by rfl, ?_⟩) hHeld ?_
              rotate_left
              · (intro w hSw; (try dsimp only at hSw); go_simp; try with_reducible rfl)
              (try simp only [Act.put, List.getElem_toArray, List.getElem_cons_zero, List.getElem_cons_succ, List.setIfInBounds_toArray, List.set_cons_zero, List.set_cons_succ])
              refine wpAnyH_ready (rs := [8]) (by kernel_rfl) (by simp) ?_
              refine AllReadyH.cons rfl (fun K hK => ?_) AllReadyH.nil
              go_simp
              refine hK.out _ _ trivial (fun hHeld => ?_)
              clear hK K
              (try simp only [Act.put, List.getElem_toArray, List.getElem_cons_zero, List.getElem_cons_succ, List.setIfInBounds_toArray, List.set_cons_zero, List.set_cons_succ])
              refine wpAnyH_done (by kernel_rfl) ?_ _
              go_wp2_with fail
              go_roundg g0
              case rel => exact HN.out
              case measure => exact HLT.out
          · rw [if_pos (by rfl)]
            refine wp_bs 229 2 #[(0, .tmp 25), (1, .tmp 27)] rfl #[(0, .agg #[.int .u8 k1, .int .i64 a1, .string t1, .int .i64 m1, .slice p1 l1 c1]), (1, .agg #[.int .u8 k6, .int .i64 a6, .string t6, .int .i64 m6, .slice p6 l6 c6])] (by simp [Act.eval, Act.put]) _ _ (bs_two _ _ _ _ _ _ _ _ _ _ _) ?_
            have O2 := Lib.hid (O1.out.alloc (.cells #[.int .u8 k1, .int .i64 a1, .string t1, .int .i64 m1, .slice p1 l1 c1, .int .u8 k6, .int .i64 a6, .string t6, .int .i64 m6, .slice p6 l6 c6] 231))
            generalize (w6.alloc (.cells #[.int .u8 k1, .int .i64 a1, .string t1, .int .i64 m1, .slice p1 l1 c1, .int .u8 k6, .int .i64 a6, .string t6, .int .i64 m6, .slice p6 l6 c6] 231)) = w7 at *
            generalize w6.heap.size = q9 at *
            have y0 := O2.out.cell 0 rfl
            have y1 := O2.out.cell 1 rfl
            have y2 := O2.out.cell 2 rfl
            have y3 := O2.out.cell 3 rfl
            have y4 := O2.out.cell 4 rfl
            have yz := O2.out.fz
            clear x0 x1 x2 x3 x4 O1 O2
            refine hK.out _ _ trivial (fun hHeld => ?_)
            clear hK K
            (try simp only [Act.put, List.getElem_toArray, List.getElem_cons_zero, List.getElem_cons_succ, List.setIfInBounds_toArray, List.set_cons_zero, List.set_cons_succ])
            refine wpAnyH_ready (rs := [2]) (by kernel_rfl) (by simp) ?_
            refine AllReadyH.cons rfl (fun K hK => ?_) (AllReadyH.nil)
            · go_simp
              refine hK.out _ _ trivial (fun hHeld => ?_)
              clear hK K
              (try simp only [Act.put, List.getElem_toArray, List.getElem_cons_zero, List.getElem_cons_succ, List.setIfInBounds_toArray, List.set_cons_zero, List.set_cons_succ])
              refine wpAnyH_take (i := 7) (v := ?_) rfl (by kernel_rfl) (by kernel_rfl) (by kernel_rfl) (fun _ _ _ h => h) (Or.inl ⟨by rfl, ?_⟩) hHeld ?_
              rotate_left
              · (intro w hSw; (try dsimp only at hSw); go_simp; try with_reducible rfl)
              (try simp only [Act.put, List.getElem_toArray, List.getElem_cons_zero, List.getElem_cons_succ, List.setIfInBounds_toArray, List.set_cons_zero, List.set_cons_succ])
              refine wpAnyH_ready (rs := [8]) (by kernel_rfl) (by simp) ?_
              refine AllReadyH.cons rfl (fun K hK => ?_) AllReadyH.nil
              go_simp
              refine hK.out _ _ trivial (fun hHeld => ?_)
              clear hK K
              (try simp only [Act.put, List.getElem_toArray, List.getElem_cons_zero, List.getElem_cons_succ, List.setIfInBounds_toArray, List.set_cons_zero, List.set_cons_succ])
              refine wpAnyH_done (by kernel_rfl) ?_ _
              go_wp2_with fail
              go_roundg g0
              case rel => exact HN.out
              case measure => exact HLT.out
    | false =>
      have IS2 := Lib.hid (is_R (HL.out.at'.drewN m) ⟨#[45]⟩ (by decide) (by decide))
      go_wp2_with fail
      (with_reducible refine IS2.out.mono ?_)
      rintro x wd ⟨rfl, m2, rfl⟩
      clear IS2
      cases hy2 : nxt R1 ⟨#[45]⟩ with
      | true =>
        obtain ⟨y, i, rfl, hrs, htx, hil⟩ := HL.out.at'.yes (by decide) hy2
        have IS3 := Lib.hid (is_R (HL.out.at'.drewN (m + m2)) ⟨#[45]⟩ (by decide) (by decide))
        go_wp2_with fail
        (with_reducible refine IS3.out.mono ?_)
        rintro x wd ⟨rfl, m3, rfl⟩
        clear IS3
        rw [hy2]
        have h63 : (i : Int) + 1 ≤ 9223372036854775807 := by have := hrs.few; omega
        have HRS := Lib.hid (hrs.drewN (m + m2 + m3))
        obtain ⟨_, c1', _, _, _⟩ := HRS.out.rowCells
        have cz := HRS.out.fz
        have HK := Lib.hid (HRS.out.inc hil)
        have A5 := Lib.hid (At.of_ok (d := d) y HK.out.rs)
        have M0 := Lib.hid ((show Lcl E v kvs w.heap.size _ (wr.drewN (m + m2 + m3)) from ⟨HL.out.L0.loc, HL.out.L0.lt, HL.out.L0.obj⟩).setB 1 (.int .i64 ((i : Int) + 1)))
        have M1 := Lib.hid ((show Lcl E v kvs q1 _ (wr.drewN (m + m2 + m3)) from ⟨HL.out.L1.loc, HL.out.L1.lt, HL.out.L1.obj⟩).setB 1 (.int .i64 ((i : Int) + 1)))
        have hsw : w.heap.size ≤ (wr.drewN (m + m2 + m3)).heap.size := HL.out.fr.size
        have F5 := Lib.hid ((HL.out.fr.drewN (m + m2 + m3)).trans (HK.out.fr.mono hsw))
        have X5 := Lib.hid (((HL.out.ex y _ rfl).drewq (m + m2 + m3)).setq (q := ⟨E.b, 1, none⟩) (Or.inl rfl) (.int .i64 ((i : Int) + 1)))
        have hge := HL.out.ge
        have HTX := Lib.hid htx
        go_upto_region 7 with fail
        generalize ((wr.drewN (m + m2 + m3)).setCell ⟨E.b, 1, none⟩ (.int .i64 ((i : Int) + 1))) = w5 at *
        clear c1' cz HK HRS hrs hil hsw
        obtain ⟨g0, hg0⟩ : ∃ g0, g0 = gk - 1 := ⟨_, rfl⟩
        have C5 := Lib.hid (HFX.out E v kvs md _ Ast _ A5.out.drew)
        have m0 := M1.out.cell 0 rfl
        have m1' := M1.out.cell 1 rfl
        have m2 := M1.out.cell 2 rfl
        have m3 := M1.out.cell 3 rfl
        have m4 := M1.out.cell 4 rfl
        have LN : Hid (∀ k6 a6 t6 m6 p6 l6 c6 w6, At E v kvs md d (then' (Res.ok y (List.drop (i + 1) E.pts)) fun _ => termP fac) w6 → Fr E w5.drew.heap.size v v w5.drew w6 → (∀ y' l', then' (Res.ok y (List.drop (i + 1) E.pts)) (fun _ => termP fac) = .ok y' l' → ExprV w6 (Nx E v kvs w5.drew.heap.size) y' (.agg #[.int .u8 k6, .int .i64 a6, .string t6, .int .i64 m6, .slice p6 l6 c6])) → RelS E v kvs md d w q1 fac (then' (then' R fun _ => termP fac) (many (sumStep fac))) g0 (set5 (w6.alloc (.cells #[.int .u8 k1, .int .i64 a1, .string t1, .int .i64 m1, .slice p1 l1 c1, .int .u8 k6, .int .i64 a6, .string t6, .int .i64 m6, .slice p6 l6 c6] 231)) q1 (.int .u8 24) (.int .i64 a1) (.string ⟨#[]⟩) (.int .i64 0) (.slice (some ⟨w6.heap.size, 0, none⟩) 2 2))) := Lib.hid (by
          intro k6 a6 t6 m6 p6 l6 c6 w6 ha6 hf6 hx6
          have hdr : w5.drew.heap.size = w5.heap.size := rfl
          have hs6 : w5.heap.size ≤ w6.heap.size := hf6.size
          have hq0 : w.heap.size < w5.heap.size := M0.out.lt
          have hq1 : q1 < w5.heap.size := M1.out.lt
          have e1 : a1 = (y.at' : Int) := X5.out.at1
          refine ⟨then' (termP fac (List.drop (i + 1) E.pts)) fun b => Par.pure (bothA 24 y b), 24, a1, ⟨#[]⟩, 0, some ⟨w6.heap.size, 0, none⟩, 2, 2, Lib.hid ?_, Lib.hid ?_, Lib.hid ?_⟩
          · have h1 := HG.out
            simp only [left, List.length_cons] at h1
            have h2 := left_le HLT0.out (List.drop (i + 1) E.pts) (bothA 24 y)
            omega
          · rw [← HQ.out, minus_more HLS.out HTX.out]
          · exact
              { at' := ((ha6.mapv (bothA 24 y)).alloc _).set5 M1.out.loc _ _ _ _ _
                fr := (((F5.out.drewN 1).trans (hf6.mono (show w.heap.size ≤ w5.drew.heap.size by rw [hdr]; omega))).alloc (by omega) _).set5 (by simp; omega) (q := q1) hge.2.1 _ _ _ _ _
                L0 := (((Lcl.drew' M0.out).on0 hf6).alloc _).set5o hge.2.2.symm _ _ _ _ _
                L1 := (((Lcl.drew' M1.out).on0 hf6).alloc _).set5 _ _ _ _ _
                ge := hge
                ex := fun z l' ez => by
                  obtain ⟨b, eb, rfl⟩ := thenv_inv ez
                  subst e1
                  refine ExprV.node2q (P := Nq E v kvs w.heap.size w.heap.size q1) (b := w6.heap.size) (T := 231) ⟨⟨ha6.fresh, by omega⟩, by omega, by omega⟩ (by simp [size_set]) ?_ 24 y.at' none0 0 ((((X5.out.drewq 1).frq hf6 (Nat.le_refl _)).allocq _).setq5 (Or.inr rfl) _ _ _ _ _) ((((hx6 b l' eb).nq (by rw [hdr]; omega) (by rw [hdr]; omega) (by rw [hdr]; omega)).allocq _).setq5 (Or.inr rfl) _ _ _ _ _)
                  rw [heap_set5 (show q1 ≠ w6.heap.size by omega)]
                  exact heap_alloc_new _ _ })
        have HLT : Hid (g0 < gk) := Lib.hid (by have := HG.out; simp only [left, List.length_cons] at this; omega)
        refine wp_region_held_drew (S := fun _ => True) (by kernel_rfl) trivial (fun hHeld => ?_)
        refine wpAnyH_take (i := 0) (v := ?_) rfl (by kernel_rfl) (by kernel_rfl) (by kernel_rfl) (fun _ _ _ h => h) (Or.inl ⟨by rfl, ?_⟩) hHeld ?_
        rotate_left
        · (intro w hSw; (try dsimp only at hSw); go_simp; try with_reducible rfl)
        (try simp only [Act.put, List.getElem_toArray, List.getElem_cons_zero, List.getElem_cons_succ, List.setIfInBounds_toArray, List.set_cons_zero, List.set_cons_succ])
        refine wpAnyH_take (i := 1) (v := ?_) rfl (by kernel_rfl) (by kernel_rfl) (by kernel_rfl) (fun _ _ _ h => h) (Or.inl ⟨by rfl, ?_⟩) hHeld ?_
        rotate_left
        · (intro w hSw; (try dsimp only at hSw); go_simp; try with_reducible rfl)
        (try simp only [Act.put, List.getElem_toArray, List.getElem_cons_zero, List.getElem_cons_succ, List.setIfInBounds_toArray, List.set_cons_zero, List.set_cons_succ])
        refine wpAnyH_take (i := 4) (v := ?_) rfl (by kernel_rfl) (by kernel_rfl) (by kernel_rfl) (fun _ _ _ h => h) (Or.inl ⟨by rfl, ?_⟩) hHeld ?_
        rotate_left
        · (intro w hSw; (try dsimp only at hSw); go_simp; try with_reducible rfl)
        (try simp only [Act.put, List.getElem_toArray, List.getElem_cons_zero, List.getElem_cons_succ, List.setIfInBounds_toArray, List.set_cons_zero, List.set_cons_succ])
        refine wpAnyH_ready (rs := [2, 3, 5]) (by kernel_rfl) (by simp) ?_
        refine AllReadyH.cons rfl (fun K hK => ?_) (AllReadyH.cons rfl (fun K hK => ?_) (AllReadyH.cons rfl (fun K hK => ?_) (AllReadyH.nil)))
        · go_simp
          refine hK.out _ _ trivial (fun hHeld => ?_)
          clear hK K
          (try simp only [Act.put, List.getElem_toArray, List.getElem_cons_zero, List.getElem_cons_succ, List.setIfInBounds_toArray, List.set_cons_zero, List.set_cons_succ])
          refine wpAnyH_ready (rs := [3, 5]) (by kernel_rfl) (by simp) ?_
          refine AllReadyH.cons rfl (fun K hK => ?_) (AllReadyH.cons rfl (fun K hK => ?_) (AllReadyH.nil))
          · go_simp
            refine hK.out _ _ trivial (fun hHeld => ?_)
            clear hK K
            (try simp only [Act.put, List.getElem_toArray, List.getElem_cons_zero, List.getElem_cons_succ, List.setIfInBounds_toArray, List.set_cons_zero, List.set_cons_succ])
            refine wpAnyH_ready (rs := [5]) (by kernel_rfl) (by simp) ?_
            refine AllReadyH.cons rfl (fun K hK => ?_) (AllReadyH.nil)
            · go_simp
              go_at_call 223
              (with_reducible refine C5.out.mono ?_)
              rintro x w6 ⟨ev, rfl, ⟨k6, a6, t6, m6, p6, l6, c6, rfl⟩, ha6, hf6, hx6⟩
              have HN := Lib.hid (LN.out k6 a6 t6 m6 p6 l6 c6 w6 ha6 hf6 hx6)
              have O1 := Lib.hid ((Lcl.drew' M1.out).on0 hf6)
              have x0 := O1.out.cell 0 rfl
              have x1 := O1.out.cell 1 rfl
              have x2 := O1.out.cell 2 rfl
              have x3 := O1.out.cell 3 rfl
              have x4 := O1.out.cell 4 rfl
              clear ha6 hf6 hx6
              go_simp
              refine hK.out _ _ trivial (fun hHeld => ?_)
              clear hK K
              (try simp only [Act.put, List.getElem_toArray, List.getElem_cons_zero, List.getElem_cons_succ, List.setIfInBounds_toArray, List.set_cons_zero, List.set_cons_succ])
              refine wpAnyH_ready (rs := [6]) (by kernel_rfl) (by simp) ?_
              refine AllReadyH.cons rfl (fun K hK => ?_) (AllReadyH.nil)
              · rw [if_pos (by rfl)]
                refine wp_bs 229 2 #[(0, .tmp 25), (1, .tmp 27)] rfl #[(0, .agg #[.int .u8 k1, .int .i64 a1, .string t1, .int .i64 m1, .slice p1 l1 c1]), (1, .agg #[.int .u8 k6, .int .i64 a6, .string t6, .int .i64 m6, .slice p6 l6 c6])] (by simp [Act.eval, Act.put]) _ _ (bs_two _ _ _ _ _ _ _ _ _ _ _) ?_
                have O2 := Lib.hid (O1.out.alloc (.cells #[.int .u8 k1, .int .i64 a1, .string t1, .int .i64 m1, .slice p1 l1 c1, .int .u8 k6, .int .i64 a6, .string t6, .int .i64 m6, .slice p6 l6 c6] 231))
                generalize (w6.alloc (.cells #[.int .u8 k1, .int .i64 a1, .string t1, .int .i64 m1, .slice p1 l1 c1, .int .u8 k6, .int .i64 a6, .string t6, .int .i64 m6, .slice p6 l6 c6] 231)) = w7 at *
                generalize w6.heap.size = q9 at *
                have y0 := O2.out.cell 0 rfl
                have y1 := O2.out.cell 1 rfl
                have y2 := O2.out.cell 2 rfl
                have y3 := O2.out.cell 3 rfl
                have y4 := O2.out.cell 4 rfl
                have yz := O2.out.fz
                clear x0 x1 x2 x3 x4 O1 O2
                refine hK.out _ _ trivial (fun hHeld => ?_)
                clear hK K
                (try simp only [Act.put, List.getElem_toArray, List.getElem_cons_zero, List.getElem_cons_succ, List.setIfInBounds_toArray, List.set_cons_zero, List.set_cons_succ])
                refine wpAnyH_take (i := 7) (v := ?_) rfl (by kernel_rfl) (by kernel_rfl) (by kernel_rfl) (fun _ _ _ h => h) (Or.inl ⟨by rfl, ?_⟩) hHeld ?_
                rotate_left
                · (intro w hSw; (try dsimp only at hSw); go_simp; try with_reducible rfl)
                (try simp only [Act.put, List.getElem_toArray, List.getElem_cons_zero, List.getElem_cons_succ, List.setIfInBounds_toArray, List.set_cons_zero, List.set_cons_succ])
                refine wpAnyH_ready (rs := [8]) (by kernel_rfl) (by simp) ?_
                refine AllReadyH.cons rfl (fun K hK => ?_) AllReadyH.nil
                go_simp
                refine hK.out _ _ trivial (fun hHeld => ?_)
                clear hK K
                (try simp only [Act.put, List.getElem_toArray, List.getElem_cons_zero, List.getElem_cons_succ, List.setIfInBounds_toArray, List.set_cons_zero, List.set_cons_succ])
                refine wpAnyH_done (by kernel_rfl) ?_ _
                go_wp2_with fail
                go_roundg g0
                case rel => exact HN.out
                case measure => exact HLT.out
          · go_simp
            go_at_call 223
            (with_reducible refine C5.out.mono ?_)
            rintro x w6 ⟨ev, rfl, ⟨k6, a6, t6, m6, p6, l6, c6, rfl⟩, ha6, hf6, hx6⟩
            have HN := Lib.hid (LN.out k6 a6 t6 m6 p6 l6 c6 w6 ha6 hf6 hx6)
            have O1 := Lib.hid ((Lcl.drew' M1.out).on0 hf6)
            have x0 := O1.out.cell 0 rfl
            have x1 := O1.out.cell 1 rfl
            have x2 := O1.out.cell 2 rfl
            have x3 := O1.out.cell 3 rfl
            have x4 := O1.out.cell 4 rfl
            clear ha6 hf6 hx6
            go_simp
            refine hK.out _ _ trivial (fun hHeld => ?_)
            clear hK K
            (try simp only [Act.put, List.getElem_toArray, List.getElem_cons_zero, List.getElem_cons_succ, List.setIfInBounds_toArray, List.set_cons_zero, List.set_cons_succ])
            refine wpAnyH_ready (rs := [3]) (by kernel_rfl) (by simp) ?_
            refine AllReadyH.cons rfl (fun K hK => ?_) (AllReadyH.nil)
            · go_simp
              refine hK.out _ _ trivial (fun hHeld => ?_)
              clear hK K
              (try simp only [Act.put, List.getElem_toArray, List.getElem_cons_zero, List.getElem_cons_succ, List.setIfInBounds_toArray, List.set_cons_zero, List.set_cons_succ])
              refine wpAnyH_ready (rs := [6]) (by kernel_rfl) (by simp) ?_
              refine AllReadyH.cons rfl (fun K hK => ?_) (AllReadyH.nil)
              · rw [if_pos (by rfl)]
                refine wp_bs 229 2 #[(0, .tmp 25), (1, .tmp 27)] rfl #[(0, .agg #[.int .u8 k1, .int .i64 a1, .string t1, .int .i64 m1, .slice p1 l1 c1]), (1, .agg #[.int .u8 k6, .int .i64 a6, .string t6, .int .i64 m6, .slice p6 l6 c6])] (by simp [Act.eval, Act.put]) _ _ (bs_two _ _ _ _ _ _ _ _ _ _ _) ?_
                have O2 := Lib.hid (O1.out.alloc (.cells #[.int .u8 k1, .int .i64 a1, .string t1, .int .i64 m1, .slice p1 l1 c1, .int .u8 k6, .int .i64 a6, .string t6, .int .i64 m6, .slice p6 l6 c6] 231))
                generalize (w6.alloc (.cells #[.int .u8 k1, .int .i64 a1, .string t1, .int .i64 m1, .slice p1 l1 c1, .int .u8 k6, .int .i64 a6, .string t6, .int .i64 m6, .slice p6 l6 c6] 231)) = w7 at *
                generalize w6.heap.size = q9 at *
                have y0 := O2.out.cell 0 rfl
                have y1 := O2.out.cell 1 rfl
                have y2 := O2.out.cell 2 rfl
                have y3 := O2.out.cell 3 rfl
                have y4 := O2.out.cell 4 rfl
                have yz := O2.out.fz
                clear x0 x1 x2 x3 x4 O1 O2
                refine hK.out _ _ trivial (fun hHeld => ?_)
                clear hK K
                (try simp only [Act.put, List.getElem_toArray, List.getElem_cons_zero, List.getElem_cons_succ, List.setIfInBounds_toArray, List.set_cons_zero, List.set_cons_succ])
                refine wpAnyH_take (i := 7) (v := ?_) rfl (by kernel_rfl) (by kernel_rfl) (by kernel_rfl) (fun _ _ _ h => h) (Or.inl ⟨by rfl, ?_⟩) hHeld ?_
                rotate_left
                · (intro w hSw; (try dsimp only at hSw); go_simp; try with_reducible rfl)
                (try simp only [Act.put, List.getElem_toArray, List.getElem_cons_zero, List.getElem_cons_succ, List.setIfInBounds_toArray, List.set_cons_zero, List.set_cons_succ])
                refine wpAnyH_ready (rs := [8]) (by kernel_rfl) (by simp) ?_
                refine AllReadyH.cons rfl (fun K hK => ?_) AllReadyH.nil
                go_simp
                refine hK.out _ _ trivial (fun hHeld => ?_)
                clear hK K
                (try simp only [Act.put, List.getElem_toArray, List.getElem_cons_zero, List.getElem_cons_succ, List.setIfInBounds_toArray, List.set_cons_zero, List.set_cons_succ])
                refine wpAnyH_done (by kernel_rfl) ?_ _
                go_wp2_with fail
                go_roundg g0
                case rel => exact HN.out
                case measure => exact HLT.out
        · go_simp
          refine hK.out _ _ trivial (fun hHeld => ?_)
          clear hK K
          (try simp only [Act.put, List.getElem_toArray, List.getElem_cons_zero, List.getElem_cons_succ, List.setIfInBounds_toArray, List.set_cons_zero, List.set_cons_succ])
          refine wpAnyH_ready (rs := [2, 5]) (by kernel_rfl) (by simp) ?_
          refine AllReadyH.cons rfl (fun K hK => ?_) (AllReadyH.cons rfl (fun K hK => ?_) (AllReadyH.nil))
          · go_simp
            refine hK.out _ _ trivial (fun hHeld => ?_)
            clear hK K
            (try simp only [Act.put, List.getElem_toArray, List.getElem_cons_zero, List.getElem_cons_succ, List.setIfInBounds_toArray, List.set_cons_zero, List.set_cons_succ])
            refine wpAnyH_ready (rs := [5]) (by kernel_rfl) (by simp) ?_
            refine AllReadyH.cons rfl (fun K hK => ?_) (AllReadyH.nil)
            · go_simp
              go_at_call 223
              (with_reducible refine C5.out.mono ?_)
              rintro x w6 ⟨ev, rfl, ⟨k6, a6, t6, m6, p6, l6, c6, rfl⟩, ha6, hf6, hx6⟩
              have HN := Lib.hid (LN.out k6 a6 t6 m6 p6 l6 c6 w6 ha6 hf6 hx6)
              have O1 := Lib.hid ((Lcl.drew' M1.out).on0 hf6)
              have x0 := O1.out.cell 0 rfl
              have x1 := O1.out.cell 1 rfl
              have x2 := O1.out.cell 2 rfl
              have x3 := O1.out.cell 3 rfl
              have x4 := O1.out.cell 4 rfl
              clear ha6 hf6 hx6
              go_simp
              refine hK.out _ _ trivial (fun hHeld => ?_)
              clear hK K
              (try simp only [Act.put, List.getElem_toArray, List.getElem_cons_zero, List.getElem_cons_succ, List.setIfInBounds_toArray, List.set_cons_zero, List.set_cons_succ])
              refine wpAnyH_ready (rs := [6]) (by kernel_rfl) (by simp) ?_
              refine AllReadyH.cons rfl (fun K hK => ?_) (AllReadyH.nil)
              · rw [if_pos (by rfl)]
                refine wp_bs 229 2 #[(0, .tmp 25), (1, .tmp 27)] rfl #[(0, .agg #[.int .u8 k1, .int .i64 a1, .string t1, .int .i64 m1, .slice p1 l1 c1]), (1, .agg #[.int .u8 k6, .int .i64 a6, .string t6, .int .i64 m6, .slice p6 l6 c6])] (by simp [Act.eval, Act.put]) _ _ (bs_two _ _ _ _ _ _ _ _ _ _ _) ?_
                have O2 := Lib.hid (O1.out.alloc (.cells #[.int .u8 k1, .int .i64 a1, .string t1, .int .i64 m1, .slice p1 l1 c1, .int .u8 k6, .int .i64 a6, .string t6, .int .i64 m6, .slice p6 l6 c6] 231))
                generalize (w6.alloc (.cells #[.int .u8 k1, .int .i64 a1, .string t1, .int .i64 m1, .slice p1 l1 c1, .int .u8 k6, .int .i64 a6, .string t6, .int .i64 m6, .slice p6 l6 c6] 231)) = w7 at *
                generalize w6.heap.size = q9 at *
                have y0 := O2.out.cell 0 rfl
                have y1 := O2.out.cell 1 rfl
                have y2 := O2.out.cell 2 rfl
                have y3 := O2.out.cell 3 rfl
                have y4 := O2.out.cell 4 rfl
                have yz := O2.out.fz
                clear x0 x1 x2 x3 x4 O1 O2
                refine hK.out _ _ trivial (fun hHeld => ?_)
                clear hK K
                (try simp only [Act.put, List.getElem_toArray, List.getElem_cons_zero, List.getElem_cons_succ, List.setIfInBounds_toArray, List.set_cons_zero, List.set_cons_succ])
                refine wpAnyH_take (i := 7) (v := ?_) rfl (by kernel_rfl) (by kernel_rfl) (by kernel_rfl) (fun _ _ _ h => h) (Or.inl ⟨by rfl, ?_⟩) hHeld ?_
                rotate_left
                · (intro w hSw; (try dsimp only at hSw); go_simp; try with_reducible rfl)
                (try simp only [Act.put, List.getElem_toArray, List.getElem_cons_zero, List.getElem_cons_succ, List.setIfInBounds_toArray, List.set_cons_zero, List.set_cons_succ])
                refine wpAnyH_ready (rs := [8]) (by kernel_rfl) (by simp) ?_
                refine AllReadyH.cons rfl (fun K hK => ?_) AllReadyH.nil
                go_simp
                refine hK.out _ _ trivial (fun hHeld => ?_)
                clear hK K
                (try simp only [Act.put, List.getElem_toArray, List.getElem_cons_zero, List.getElem_cons_succ, List.setIfInBounds_toArray, List.set_cons_zero, List.set_cons_succ])
                refine wpAnyH_done (by kernel_rfl) ?_ _
                go_wp2_with fail
                go_roundg g0
                case rel => exact HN.out
                case measure => exact HLT.out
          · go_simp
            go_at_call 223
            (with_reducible refine C5.out.mono ?_)
            rintro x w6 ⟨ev, rfl, ⟨k6, a6, t6, m6, p6, l6, c6, rfl⟩, ha6, hf6, hx6⟩
            have HN := Lib.hid (LN.out k6 a6 t6 m6 p6 l6 c6 w6 ha6 hf6 hx6)
            have O1 := Lib.hid ((Lcl.drew' M1.out).on0 hf6)
            have x0 := O1.out.cell 0 rfl
            have x1 := O1.out.cell 1 rfl
            have x2 := O1.out.cell 2 rfl
            have x3 := O1.out.cell 3 rfl
            have x4 := O1.out.cell 4 rfl
            clear ha6 hf6 hx6
            go_simp
            refine hK.out _ _ trivial (fun hHeld => ?_)
            clear hK K
            (try simp only [Act.put, List.getElem_toArray, List.getElem_cons_zero, List.getElem_cons_succ, List.setIfInBounds_toArray, List.set_cons_zero, List.set_cons_succ])
            refine wpAnyH_ready (rs := [2, 6]) (by kernel_rfl) (by simp) ?_
            refine AllReadyH.cons rfl (fun K hK => ?_) (AllReadyH.cons rfl (fun K hK => ?_) (AllReadyH.nil))
            · go_simp
              refine hK.out _ _ trivial (fun hHeld => ?_)
              clear hK K
              (try simp only [Act.put, List.getElem_toArray, List.getElem_cons_zero, List.getElem_cons_succ, List.setIfInBounds_toArray, List.set_cons_zero, List.set_cons_succ])
              refine wpAnyH_ready (rs := [6]) (by kernel_rfl) (by simp) ?_
              refine AllReadyH.cons rfl (fun K hK => ?_) (AllReadyH.nil)
              · rw [if_pos (by rfl)]
                refine wp_bs 229 2 #[(0, .tmp 25), (1, .tmp 27)] rfl #[(0, .agg #[.int .u8 k1, .int .i64 a1, .string t1, .int .i64 m1, .slice p1 l1 c1]), (1, .agg #[.int .u8 k6, .int .i64 a6, .string t6, .int .i64 m6, .slice p6 l6 c6])] (by simp [Act.eval, Act.put]) _ _ (bs_two _ _ _ _ _ _ _ _ _ _ _) ?_
                have O2 := Lib.hid (O1.out.alloc (.cells #[.int .u8 k1, .int .i64 a1, .string t1, .int .i64 m1, .slice p1 l1 c1, .int .u8 k6, .int .i64 a6, .string t6, .int .i64 m6, .slice p6 l6 c6] 231))
                generalize (w6.alloc (.cells #[.int .u8 k1, .int .i64 a1, .string t1, .int .i64 m1, .slice p1 l1 c1, .int .u8 k6, .int .i64 a6, .string t6, .int .i64 m6, .slice p6 l6 c6] 231)) = w7 at *
                generalize w6.heap.size = q9 at *
                have y0 := O2.out.cell 0 rfl
                have y1 := O2.out.cell 1 rfl
                have y2 := O2.out.cell 2 rfl
                have y3 := O2.out.cell 3 rfl
                have y4 := O2.out.cell 4 rfl
                have yz := O2.out.fz
                clear x0 x1 x2 x3 x4 O1 O2
                refine hK.out _ _ trivial (fun hHeld => ?_)
                clear hK K
                (try simp only [Act.put, List.getElem_toArray, List.getElem_cons_zero, List.getElem_cons_succ, List.setIfInBounds_toArray, List.set_cons_zero, List.set_cons_succ])
                refine wpAnyH_take (i := 7) (v := ?_) rfl (by kernel_rfl) (by kernel_rfl) (by kernel_rfl) (fun _ _ _ h => h) (Or.inl ⟨by rfl, ?_⟩) hHeld ?_
                rotate_left
                · (intro w hSw; (try dsimp only at hSw); go_simp; try with_reducible rfl)
                (try simp only [Act.put, List.getElem_toArray, List.getElem_cons_zero, List.getElem_cons_succ, List.setIfInBounds_toArray, List.set_cons_zero, List.set_cons_succ])
                refine wpAnyH_ready (rs := [8]) (by kernel_rfl) (by simp) ?_
                refine AllReadyH.cons rfl (fun K hK => ?_) AllReadyH.nil
                go_simp
                refine hK.out _ _ trivial (fun hHeld => ?_)
                clear hK K
                (try simp only [Act.put, List.getElem_toArray, List.getElem_cons_zero, List.getElem_cons_succ, List.setIfInBounds_toArray, List.set_cons_zero, List.set_cons_succ])
                refine wpAnyH_done (by kernel_rfl) ?_ _
                go_wp2_with fail
                go_roundg g0
                case rel => exact HN.out
                case measure => exact HLT.out
            · rw [if_pos (by rfl)]
              refine wp_bs 229 2 #[(0, .tmp 25), (1, .tmp 27)] rfl #[(0, .agg #[.int .u8 k1, .int .i64 a1, .string t1, .int .i64 m1, .slice p1 l1 c1]), (1, .agg #[.int .u8 k6, .int .i64 a6, .string t6, .int .i64 m6, .slice p6 l6 c6])] (by simp [Act.eval, Act.put]) _ _ (bs_two _ _ _ _ _ _ _ _ _ _ _) ?_
              have O2 := Lib.hid (O1.out.alloc (.cells #[.int .u8 k1, .int .i64 a1, .string t1, .int .i64 m1, .slice p1 l1 c1, .int .u8 k6, .int .i64 a6, .string t6, .int .i64 m6, .slice p6 l6 c6] 231))
              generalize (w6.alloc (.cells #[.int .u8 k1, .int .i64 a1, .string t1, .int .i64 m1, .slice p1 l1 c1, .int .u8 k6, .int .i64 a6, .string t6, .int .i64 m6, .slice p6 l6 c6] 231)) = w7 at *
              generalize w6.heap.size = q9 at *
              have y0 := O2.out.cell 0 rfl
              have y1 := O2.out.cell 1 rfl
              have y2 := O2.out.cell 2 rfl
              have y3 := O2.out.cell 3 rfl
              have y4 := O2.out.cell 4 rfl
              have yz := O2.out.fz
              clear x0 x1 x2 x3 x4 O1 O2
              refine hK.out _ _ trivial (fun hHeld => ?_)
              clear hK K
              (try simp only [Act.put, List.getElem_toArray, List.getElem_cons_zero, List.getElem_cons_succ, List.setIfInBounds_toArray, List.set_cons_zero, List.set_cons_succ])
              refine wpAnyH_ready (rs := [2]) (by kernel_rfl) (by simp) ?_
              refine AllReadyH.cons rfl (fun K hK => ?_) (AllReadyH.nil)
              · go_simp
                refine hK.out _ _ trivial (fun hHeld => ?_)
                clear hK K
                (try simp only [Act.put, List.getElem_toArray, List.getElem_cons_zero, List.getElem_cons_succ, List.setIfInBounds_toArray, List.set_cons_zero, List.set_cons_succ])
                refine wpAnyH_take (i := 7) (v := ?_) rfl (by kernel_rfl) (by kernel_rfl) (by kernel_rfl) (fun _ _ _ h => h) (Or.inl ⟨by rfl, ?_⟩) hHeld ?_
                rotate_left
                · (intro w hSw; (try dsimp only at hSw); go_simp; try with_reducible rfl)
                (try simp only [Act.put, List.getElem_toArray, List.getElem_cons_zero, List.getElem_cons_succ, List.setIfInBounds_toArray, List.set_cons_zero, List.set_cons_succ])
                refine wpAnyH_ready (rs := [8]) (by kernel_rfl) (by simp) ?_
                refine AllReadyH.cons rfl (fun K hK => ?_) AllReadyH.nil
                go_simp
                refine hK.out _ _ trivial (fun hHeld => ?_)
                clear hK K
                (try simp only [Act.put, List.getElem_toArray, List.getElem_cons_zero, List.getElem_cons_succ, List.setIfInBounds_toArray, List.set_cons_zero, List.set_cons_succ])
                refine wpAnyH_done (by kernel_rfl) ?_ _
                go_wp2_with fail
                go_roundg g0
                case rel => exact HN.out
                case measure => exact HLT.out
        · go_simp
          go_at_call 223
          (with_reducible refine C5.out.mono ?_)
          rintro x w6 ⟨ev, rfl, ⟨k6, a6, t6, m6, p6, l6, c6, rfl⟩, ha6, hf6, hx6⟩
          have HN := Lib.hid (LN.out k6 a6 t6 m6 p6 l6 c6 w6 ha6 hf6 hx6)
          have O1 := Lib.hid ((Lcl.drew' M1.out).on0 hf6)
          have x0 := O1.out.cell 0 rfl
          have x1 := O1.out.cell 1 rfl
          have x2 := O1.out.cell 2 rfl
          have x3 := O1.out.cell 3 rfl
          have x4 := O1.out.cell 4 rfl
          clear ha6 hf6 hx6
          go_simp
          refine hK.out _ _ trivial (fun hHeld => ?_)
          clear hK K
          (try simp only [Act.put, List.getElem_toArray, List.getElem_cons_zero, List.getElem_cons_succ, List.setIfInBounds_toArray, List.set_cons_zero, List.set_cons_succ])
          refine wpAnyH_ready (rs := [2, 3]) (by kernel_rfl) (by simp) ?_
          refine AllReadyH.cons rfl (fun K hK => ?_) (AllReadyH.cons rfl (fun K hK => ?_) (AllReadyH.nil))
          · go_simp
            refine hK.out _ _ trivial (fun hHeld => ?_)
            clear hK K
            (try simp only [Act.put, List.getElem_toArray, List.getElem_cons_zero, List.getElem_cons_succ, List.setIfInBounds_toArray, List.set_cons_zero, List.set_cons_succ])
            refine wpAnyH_ready (rs := [3]) (by kernel_rfl) (by simp) ?_
            refine AllReadyH.cons rfl (fun K hK => ?_) (AllReadyH.nil)
            · go_simp
              refine hK.out _ _ trivial (fun hHeld => ?_)
              clear hK K
              (try simp only [Act.put, List.getElem_toArray, List.getElem_cons_zero, List.getElem_cons_succ, List.setIfInBounds_toArray, List.set_cons_zero, List.set_cons_succ])
              refine wpAnyH_ready (rs := [6]) (by kernel_rfl) (by simp) ?_
              refine AllReadyH.cons rfl (fun K hK => ?_) (AllReadyH.nil)
              · rw [if_pos (by rfl)]
                refine wp_bs 229 2 #[(0, .tmp 25), (1, .tmp 27)] rfl #[(0, .agg #[.int .u8 k1, .int .i64 a1, .string t1, .int .i64 m1, .slice p1 l1 c1]), (1, .agg #[.int .u8 k6, .int .i64 a6, .string t6, .int .i64 m6, .slice p6 l6 c6])] (by simp [Act.eval, Act.put]) _ _ (bs_two _ _ _ _ _ _ _ _ _ _ _) ?_
                have O2 := Lib.hid (O1.out.alloc (.cells #[.int .u8 k1, .int .i64 a1, .string t1, .int .i64 m1, .slice p1 l1 c1, .int .u8 k6, .int .i64 a6, .string t6, .int .i64 m6, .slice p6 l6 c6] 231))
                generalize (w6.alloc (.cells #[.int .u8 k1, .int .i64 a1, .string t1, .int .i64 m1, .slice p1 l1 c1, .int .u8 k6, .int .i64 a6, .string t6, .int .i64 m6, .slice p6 l6 c6] 231)) = w7 at *
                generalize w6.heap.size = q9 at *
                have y0 := O2.out.cell 0 rfl
                have y1 := O2.out.cell 1 rfl
                have y2 := O2.out.cell 2 rfl
                have y3 := O2.out.cell 3 rfl
                have y4 := O2.out.cell 4 rfl
                have yz := O2.out.fz
                clear x0 x1 x2 x3 x4 O1 O2
                refine hK.out _ _ trivial (fun hHeld => ?_)
                clear hK K
                (try simp only [Act.put, List.getElem_toArray, List.getElem_cons_zero, List.getElem_cons_succ, List.setIfInBounds_toArray, List.set_cons_zero, List.set_cons_succ])
                refine wpAnyH_take (i := 7) (v := ?_) rfl (by kernel_rfl) (by kernel_rfl) (by kernel_rfl) (fun _ _ _ h => h) (Or.inl ⟨by rfl, ?_⟩) hHeld ?_
                rotate_left
                · (intro w hSw; (try dsimp only at hSw); go_simp; try with_reducible rfl)
                (try simp only [Act.put, List.getElem_toArray, List.getElem_cons_zero, List.getElem_cons_succ, List.setIfInBounds_toArray, List.set_cons_zero, List.set_cons_succ])
                refine wpAnyH_ready (rs := [8]) (by kernel_rfl) (by simp) ?_
                refine AllReadyH.cons rfl (fun K hK => ?_) AllReadyH.nil
                go_simp
                refine hK.out _ _ trivial (fun hHeld => ?_)
                clear hK K
                (try simp only [Act.put, List.getElem_toArray, List.getElem_cons_zero, List.getElem_cons_succ, List.setIfInBounds_toArray, List.set_cons_zero, List.set_cons_succ])
                refine wpAnyH_done (by kernel_rfl) ?_ _
                go_wp2_with fail
                go_roundg g0
                case rel => exact HN.out
                case measure => exact HLT.out
          · go_simp
            refine hK.out _ _ trivial (fun hHeld => ?_)
            clear hK K
            (try simp only [Act.put, List.getElem_toArray, List.getElem_cons_zero, List.getElem_cons_succ, List.setIfInBounds_toArray, List.set_cons_zero, List.set_cons_succ])
            refine wpAnyH_ready (rs := [2, 6]) (by kernel_rfl) (by simp) ?_
            refine AllReadyH.cons rfl (fun K hK => ?_) (AllReadyH.cons rfl (fun K hK => ?_) (AllReadyH.nil))
            · go_simp
              refine hK.out _ _ trivial (fun hHeld => ?_)
              clear hK K
              (try simp only [Act.put, List.getElem_toArray, List.getElem_cons_zero, List.getElem_cons_succ, List.setIfInBounds_toArray, List.set_cons_zero, List.set_cons_succ])
              refine wpAnyH_ready (rs := [6]) (by kernel_rfl) (by simp) ?_
              refine AllReadyH.cons rfl (fun K hK => ?_) (AllReadyH.nil)
              · rw [if_pos (by rfl)]
                refine wp_bs 229 2 #[(0, .tmp 25), (1, .tmp 27)] rfl #[(0, .agg #[.int .u8 k1, .int .i64 a1, .string t1, .int .i64 m1, .slice p1 l1 c1]), (1, .agg #[.int .u8 k6, .int .i64 a6, .string t6, .int .i64 m6, .slice p6 l6 c6])] (by simp [Act.eval, Act.put]) _ _ (bs_two _ _ _ _ _ _ _ _ _ _ _) ?_
                have O2 := Lib.hid (O1.out.alloc (.cells #[.int .u8 k1, .int .i64 a1, .string t1, .int .i64 m1, .slice p1 l1 c1, .int .u8 k6, .int .i64 a6, .string t6, .int .i64 m6, .slice p6 l6 c6] 231))
                generalize (w6.alloc (.cells #[.int .u8 k1, .int .i64 a1, .string t1, .int .i64 m1, .slice p1 l1 c1, .int .u8 k6, .int .i64 a6, .string t6, .int .i64 m6, .slice p6 l6 c6] 231)) = w7 at *
                generalize w6.heap.size = q9 at *
                have y0 := O2.out.cell 0 rfl
                have y1 := O2.out.cell 1 rfl
                have y2 := O2.out.cell 2 rfl
                have y3 := O2.out.cell 3 rfl
                have y4 := O2.out.cell 4 rfl
                have yz := O2.out.fz
                clear x0 x1 x2 x3 x4 O1 O2
                refine hK.out _ _ trivial (fun hHeld => ?_)
                clear hK K
                (try simp only [Act.put, List.getElem_toArray, List.getElem_cons_zero, List.getElem_cons_succ, List.setIfInBounds_toArray, List.set_cons_zero, List.set_cons_succ])
                refine wpAnyH_take (i := 7) (v := ?_) rfl (by kernel_rfl) (by kernel_rfl) (by kernel_rfl) (fun _ _ _ h => h) (Or.inl ⟨by rfl, ?_⟩) hHeld ?_
                rotate_left
                · (intro w hSw; (try dsimp only at hSw); go_simp; try with_reducible rfl)
                (try simp only [Act.put, List.getElem_toArray, List.getElem_cons_zero, List.getElem_cons_succ, List.setIfInBounds_toArray, List.set_cons_zero, List.set_cons_succ])
                refine wpAnyH_ready (rs := [8]) (by kernel_rfl) (by simp) ?_
                refine AllReadyH.cons rfl (fun K hK => ?_) AllReadyH.nil
                go_simp
                refine hK.out _ _ trivial (fun hHeld => ?_)
                clear hK K
                (try simp only [Act.put, List.getElem_toArray, List.getElem_cons_zero, List.getElem_cons_succ, List.setIfInBounds_toArray, List.set_cons_zero, List.set_cons_succ])
                refine wpAnyH_done (by kernel_rfl) ?_ _
                go_wp2_with fail
                go_roundg g0
                case rel => exact HN.out
                case measure => exact HLT.out
            · rw [if_pos (by rfl)]
              refine wp_bs 229 2 #[(0, .tmp 25), (1, .tmp 27)] rfl #[(0, .agg #[.int .u8 k1, .int .i64 a1, .string t1, .int .i64 m1, .slice p1 l1 c1]), (1, .agg #[.int .u8 k6, .int .i64 a6, .string t6, .int .i64 m6, .slice p6 l6 c6])] (by simp [Act.eval, Act.put]) _ _ (bs_two _ _ _ _ _ _ _ _ _ _ _) ?_
              have O2 := Lib.hid (O1.out.alloc (.cells #[.int .u8 k1, .int .i64 a1, .string t1, .int .i64 m1, .slice p1 l1 c1, .int .u8 k6, .int .i64 a6, .string t6, .int .i64 m6, .slice p6 l6 c6] 231))
              generalize (w6.alloc (.cells #[.int .u8 k1, .int .i64 a1, .string t1, .int .i64 m1, .slice p1 l1 c1, .int .u8 k6, .int .i64 a6, .string t6, .int .i64 m6, .slice p6 l6 c6] 231)) = w7 at *
              generalize w6.heap.size = q9 at *
              have y0 := O2.out.cell 0 rfl
              have y1 := O2.out.cell 1 rfl
              have y2 := O2.out.cell 2 rfl
              have y3 := O2.out.cell 3 rfl
              have y4 := O2.out.cell 4 rfl
              have yz := O2.out.fz
              clear x0 x1 x2 x3 x4 O1 O2
              refine hK.out _ _ trivial (fun hHeld => ?_)
              clear hK K
              (try simp only [Act.put, List.getElem_toArray, List.getElem_cons_zero, List.getElem_cons_succ, List.setIfInBounds_toArray, List.set_cons_zero, List.set_cons_succ])
              refine wpAnyH_ready (rs := [2]) (by kernel_rfl) (by simp) ?_
              refine AllReadyH.cons rfl (fun K hK => ?_) (AllReadyH.nil)
              · go_simp
                refine hK.out _ _ trivial (fun hHeld => ?_)
                clear hK K
                (try simp only [Act.put, List.getElem_toArray, List.getElem_cons_zero, List.getElem_cons_succ, List.setIfInBounds_toArray, List.set_cons_zero, List.set_cons_succ])
                refine wpAnyH_take (i := 7) (v := ?_) rfl (by kernel_rfl) (by kernel_rfl) (by kernel_rfl) (fun _ _ _ h => h) (Or.inl ⟨by rfl, ?_⟩) hHeld ?_
                rotate_left
                · (intro w hSw; (try dsimp only at hSw); go_simp; try with_reducible rfl)
                (try simp only [Act.put, List.getElem_toArray, List.getElem_cons_zero, List.getElem_cons_succ, List.setIfInBounds_toArray, List.set_cons_zero, List.set_cons_succ])
                refine wpAnyH_ready (rs := [8]) (by kernel_rfl) (by simp) ?_
                refine AllReadyH.cons rfl (fun K hK => ?_) AllReadyH.nil
                go_simp
                refine hK.out _ _ trivial (fun hHeld => ?_)
                clear hK K
                (try simp only [Act.put, List.getElem_toArray, List.getElem_cons_zero, List.getElem_cons_succ, List.setIfInBounds_toArray, List.set_cons_zero, List.set_cons_succ])
                refine wpAnyH_done (by kernel_rfl) ?_ _
                go_wp2_with fail
                go_roundg g0
                case rel => exact HN.out
                case measure => exact HLT.out
      | false =>
        have hS : then' R1 (many (sumStep fac)) = R1 := by
          cases R1 with
          | err p c => rfl
          | ok y l =>
            obtain ⟨i, rfl, _⟩ := HL.out.at'.ok_of
            simp only [nxt, decide_eq_false_iff_not] at hy
            simp only [nxt, decide_eq_false_iff_not] at hy2
            exact sum_done hy hy2
        have HS : Hid (then' R (fun _ => exprP fac) = R1) := Lib.hid (by
          have h1 := HQ.out
          rw [hS] at h1
          rw [h1, HEQ.out]
          rfl)
        have N0 := Lib.hid (show Lcl E v kvs w.heap.size _ (wr.drewN (m + m2)) from ⟨HL.out.L0.loc, HL.out.L0.lt, HL.out.L0.obj⟩)
        have N1 := Lib.hid (show Lcl E v kvs q1 _ (wr.drewN (m + m2)) from ⟨HL.out.L1.loc, HL.out.L1.lt, HL.out.L1.obj⟩)
        have hge := HL.out.ge
        have n10 : q1 ≠ w.heap.size := hge.2.2.symm
        have n01 : w.heap.size ≠ q1 := hge.2.2
        have hsw : w.heap.size ≤ (wr.drewN (m + m2)).heap.size := HL.out.fr.size
        have ZA := Lib.hid ((HL.out.at'.drewN (m + m2)).set5 N0.out.loc (.int .u8 k1) (.int .i64 a1) (.string t1) (.int .i64 m1) (.slice p1 l1 c1))
        have ZF := Lib.hid ((HL.out.fr.drewN (m + m2)).set5 hsw (q := w.heap.size) (Nat.le_refl _) (.int .u8 k1) (.int .i64 a1) (.string t1) (.int .i64 m1) (.slice p1 l1 c1))
        have ZL := Lib.hid (N0.out.set5 (.int .u8 k1) (.int .i64 a1) (.string t1) (.int .i64 m1) (.slice p1 l1 c1))
        have ZX := Lib.hid (fun y l' e => (((HL.out.ex y l' e).drewq (m + m2)).setq5 (Or.inl rfl) (.int .u8 k1) (.int .i64 a1) (.string t1) (.int .i64 m1) (.slice p1 l1 c1)).unq)
        have m0 := N1.out.cell 0 rfl
        have m1' := N1.out.cell 1 rfl
        have mm2 := N1.out.cell 2 rfl
        have m3 := N1.out.cell 3 rfl
        have m4 := N1.out.cell 4 rfl
        have r0 := N0.out.cell 0 rfl
        have r1 := N0.out.cell 1 rfl
        have r2 := N0.out.cell 2 rfl
        have r3 := N0.out.cell 3 rfl
        have r4 := N0.out.cell 4 rfl
        have rz := N0.out.fz
        rw [show (wr.drewN m).drewN m2 = wr.drewN (m + m2) from by simp [World.drewN, Nat.add_assoc]]
        generalize wr.drewN (m + m2) = wd at *
        clear hy hy2 hS
        go_wp2_with fail
        generalize ((((wd.setCell ⟨w.heap.size, 0, none⟩ (.int .u8 k1)).setCell ⟨w.heap.size, 1, none⟩ (.int .i64 a1)).setCell ⟨w.heap.size, 2, none⟩ (.string t1)).setCell ⟨w.heap.size, 3, none⟩ (.int .i64 m1)).setCell ⟨w.heap.size, 4, none⟩ (.slice p1 l1 c1) = Wz at *
        clear m0 m1' mm2 m3 m4 r0 r1 r2 r3 r4 rz
        have y0 := ZL.out.cell 0 rfl
        have y1 := ZL.out.cell 1 rfl
        have y2 := ZL.out.cell 2 rfl
        have y3 := ZL.out.cell 3 rfl
        have y4 := ZL.out.cell 4 rfl
        simp [bodyPost, results, Tryz.results209, go_sem, y0, y1, y2, y3, y4]
        rw [HS.out]
        exact ⟨_, rfl, ⟨_, _, _, _, _, _, _, rfl⟩, ZA.out, ZF.out, ZX.out⟩
end
end Go.Proofs.YtpemghcafbedeaaGreatDoor.Rf
end
section
namespace Go.Proofs.YtpemghcafbedeaaGreatDoor.Rf
open Go.RowKit Par
section
variable {p : List Nd} {k : Int} {a : Nat} {t : ByteArray} {n : Int} {Q B : Nat} {R : Res (List Ast)} {md : List Nd} {E : Env} {v : Value} {kvs : List Value} {d : Int} {w w' : World}
structure Nod (E : Env) (j : Nat) (g len cap : Nat) (w : World) : Prop where
  lt : j < len
  gb : E.b ≠ g
  c3 : w.cell? ⟨E.b, 3, none⟩ = some (.slice (some ⟨g, 0, none⟩) len cap)
  fz : ∀ c, w.frozen? ⟨g, j * 5 + c, none⟩ = false
  k0 : ∃ x : Int, w.cell? ⟨g, j * 5, none⟩ = some (.int .u8 x)
  t0 : ∃ x : ByteArray, w.cell? ⟨g, j * 5 + 2, none⟩ = some (.string x)
  n0 : ∃ x : Int, w.cell? ⟨g, j * 5 + 3, none⟩ = some (.int .i64 x)
theorem RS.nod {g cap i : Nat} {e : Int} (h : RS E (.slice (some ⟨g, 0, none⟩) md.length cap) kvs md i d e w) (j : Nat) (hj : j < md.length) : Nod E j g md.length cap w where
  lt := hj
  gb := by have := (h.vlt g rfl).1; omega
  c3 := h.rowCells.2.2.2.1
  fz := fun c => h.own.frozenAt (j * 5 + c)
  k0 := ⟨_, by have := h.own.cellAt (j * 5 + 0) (by omega); rw [cellsM_get md kvs h.klen j hj 0 (by decide)] at this; exact this⟩
  t0 := ⟨_, by have := h.own.cellAt (j * 5 + 2) (by omega); rw [cellsM_get md kvs h.klen j hj 2 (by decide)] at this; exact this⟩
  n0 := ⟨_, by have := h.own.cellAt (j * 5 + 3) (by omega); rw [cellsM_get md kvs h.klen j hj 3 (by decide)] at this; exact this⟩
theorem Sh.nod (hs : Sh p k a t n Q B R md) (h : At E v kvs md d R w) : ∃ g cap, v = .slice (some ⟨g, 0, none⟩) md.length cap ∧ Nod E p.length g md.length cap w := by
  obtain ⟨i, d', e', _, h⟩ := h.rs
  obtain ⟨g, cap, rfl, _, _⟩ := h.own.form (by have := hs.lt; omega)
  exact ⟨g, cap, rfl, h.nod p.length hs.lt⟩
theorem At.nod {g cap : Nat} {α : Type} {R : Res α} (hj : p.length < md.length) (h : At E (.slice (some ⟨g, 0, none⟩) md.length cap) kvs md d R w) : Nod E p.length g md.length cap w := by
  obtain ⟨i, d', e', _, h⟩ := h.rs
  exact h.nod p.length hj
theorem At.putf {g cap : Nat} {α : Type} {R : Res α} (h : At E (.slice (some ⟨g, 0, none⟩) md.length cap) kvs md d R w) (j : Nat) (hj : j < md.length) (c : Nat) (hc : c < 5) (u : Value) (nd' : Nd)
    (hnd : nodeC nd' (kvs.getD j default) = (nodeC (md.getD j default) (kvs.getD j default)).set c u) (hk : nd'.kids = (md.getD j default).kids) : At E (.slice (some ⟨g, 0, none⟩) md.length cap) kvs (md.set j nd') d R (w.setCell ⟨g, j * 5 + c, none⟩ u) := by
  cases R with
  | ok a l =>
    obtain ⟨i, h1, h⟩ := h
    exact ⟨i, h1, (h.putf rfl j hj c hc u nd' hnd hk).1⟩
  | err q c' =>
    obtain ⟨i, d', h1, h2, h3, h⟩ := h
    exact ⟨i, d', h1, h2, h3, (h.putf rfl j hj c hc u nd' hnd hk).1⟩
theorem In.text {g cap : Nat} (hs : Sh p k a t n Q B R md) (h : At E (.slice (some ⟨g, 0, none⟩) md.length cap) kvs md d R w) (t' : ByteArray) : In E p k a t' n d Q B R (w.setCell ⟨g, p.length * 5 + 2, none⟩ (.string t')) :=
  ⟨_, kvs, _, hs.setT t', h.putf p.length hs.lt 2 (by decide) _ _ rfl rfl⟩
theorem In.num {g cap : Nat} (hs : Sh p k a t n Q B R md) (h : At E (.slice (some ⟨g, 0, none⟩) md.length cap) kvs md d R w) (n' : Int) : In E p k a t n' d Q B R (w.setCell ⟨g, p.length * 5 + 3, none⟩ (.int .i64 n')) :=
  ⟨_, kvs, _, hs.setN n', h.putf p.length hs.lt 3 (by decide) _ _ rfl rfl⟩
theorem In.kind {g cap : Nat} (hs : Sh p k a t n Q B R md) (h : At E (.slice (some ⟨g, 0, none⟩) md.length cap) kvs md d R w) (k' : Int) : In E p k' a t n d Q B R (w.setCell ⟨g, p.length * 5, none⟩ (.int .u8 k')) :=
  ⟨_, kvs, _, hs.setK k', by have := h.putf p.length hs.lt 0 (by decide) (.int .u8 k') { md.getD p.length default with kind := k' } rfl rfl; simpa using this⟩
theorem In.nod (h : In E p k a t n d Q B R w) : ∃ g len cap, Nod E p.length g len cap w ∧ (∀ t', In E p k a t' n d Q B R (w.setCell ⟨g, p.length * 5 + 2, none⟩ (.string t'))) ∧ (∀ n', In E p k a t n' d Q B R (w.setCell ⟨g, p.length * 5 + 3, none⟩ (.int .i64 n'))) ∧ (∀ k', In E p k' a t n d Q B R (w.setCell ⟨g, p.length * 5, none⟩ (.int .u8 k'))) := by
  obtain ⟨v, kvs, md, hs, h⟩ := h
  obtain ⟨g, cap, rfl, hn⟩ := hs.nod h
  exact ⟨g, md.length, cap, hn, fun t' => In.text hs h t', fun n' => In.num hs h n', fun k' => In.kind hs h k'⟩
theorem name_I (h : In E p k a t n d Q B R w) (hQ : Q ≤ B) : ∃ g len cap, Nod E p.length g len cap w ∧ Calls Tryz.prog 97 #[.pointer (some ⟨E.b, 0, none⟩)] w fun x w' => ∃ s, x = .returned (.string s) ∧ (hdk R = 1 → s = hdt R) ∧ Nod E p.length g len cap w' ∧ In E p k a s n d Q B (skp R (takeP 1)) (w'.setCell ⟨g, p.length * 5 + 2, none⟩ (.string s)) := by
  obtain ⟨v, kvs, md, hs, h⟩ := h
  obtain ⟨g, cap, rfl, hn⟩ := hs.nod h
  refine ⟨g, md.length, cap, hn, (name_R h).mono ?_⟩
  rintro x w' ⟨s, rfl, hd, h2, _⟩
  exact ⟨s, rfl, hd, h2.nod hs.lt, In.text (hs.skp (less_take 1) hQ) h2 s⟩
theorem name_IT (h : In E p k a t n d (Q + 1) B R w) (hQ : Q + 1 ≤ B) : ∃ g len cap, Nod E p.length g len cap w ∧ Calls Tryz.prog 97 #[.pointer (some ⟨E.b, 0, none⟩)] w fun x w' => ∃ s, x = .returned (.string s) ∧ (hdk R = 1 → s = hdt R) ∧ Nod E p.length g len cap w' ∧ In E p k a s n d Q B (skp R (takeP 1)) (w'.setCell ⟨g, p.length * 5 + 2, none⟩ (.string s)) := by
  obtain ⟨v, kvs, md, hs, h⟩ := h
  obtain ⟨g, cap, rfl, hn⟩ := hs.nod h
  refine ⟨g, md.length, cap, hn, (name_R h).mono ?_⟩
  rintro x w' ⟨s, rfl, hd, h2, _⟩
  exact ⟨s, rfl, hd, h2.nod hs.lt, In.text (hs.skpT (takes_take 1) hQ) h2 s⟩
theorem In.inc (h : In E p k a t n d (Q + 1) B R w) (hQ : Q + 1 ≤ B) {s : ByteArray} (hn : s ≠ none0) (hy : nxt R s = true) : ∃ (i : Nat), (i : Int) + 1 ≤ 9223372036854775807 ∧ w.cell? ⟨E.b, 1, none⟩ = some (.int .i64 (i : Int)) ∧ w.frozen? ⟨E.b, 1, none⟩ = false ∧ In E p k a t n d Q B (skp R (skipP s)) (w.setCell ⟨E.b, 1, none⟩ (.int .i64 ((i : Int) + 1))) := by
  obtain ⟨v, kvs, md, hs, h⟩ := h
  obtain ⟨ks, i, rfl, h1, ht, hl⟩ := h.yes hn hy
  refine ⟨i, by have := h1.few; omega, h1.rowCells.2.1, h1.fz 1, v, kvs, md, ?_, ?_⟩
  · simp only [skp, then', Par.bind, skipP, if_pos ht, Par.pure]
    exact ⟨by have := hs.1; simp only [List.length_cons] at this; omega, hs.2⟩
  · simp only [skp, then', Par.bind, skipP, if_pos ht, Par.pure]
    exact ⟨i + 1, rfl, (h1.inc hl).rs⟩
theorem In.not (h : In E p k a t n d Q B R w) {s : ByteArray} (hy : nxt R s = false) : skp R (skipP s) = R := by
  cases R with
  | err q c => rfl
  | ok ks l =>
    obtain ⟨v, kvs, md, hs, h⟩ := h
    obtain ⟨i, rfl, h1⟩ := h.ok_of
    simp only [nxt, decide_eq_false_iff_not] at hy
    simp only [skp, then', Par.bind, skipP, if_neg hy, Par.pure]
end
end Go.Proofs.YtpemghcafbedeaaGreatDoor.Rf
end
section
namespace Go.Proofs.YtpemghcafbedeaaGreatDoor.Rf
open Go.RowKit Par
theorem fac_all : ∀ (r : Nat), r ≤ 64 → HasX 229 (64 - (r : Int)) (factorP r) ∧ HasX 209 (64 - (r : Int)) (exprR r)
  | 0, h => by
    have h1 : HasX 229 (64 - ((0 : Nat) : Int)) (factorP 0) := factor_x (r := 0) rfl h (fun r' e => by omega)
    exact ⟨h1, sum_x (term_x h1 (less_factor 0)) (less_factor 0)⟩
  | r + 1, h => by
    obtain ⟨i1, i2⟩ := fac_all r (by omega)
    have hd : (64 : Int) - ((r + 1 : Nat) : Int) + 1 = 64 - (r : Int) := by omega
    have h1 : HasX 229 (64 - ((r + 1 : Nat) : Int)) (factorP (r + 1)) := factor_x (r := r + 1) (fac := factorP r) rfl h (fun r' e => by
      obtain rfl : r' = r := by omega
      rw [hd]
      exact ⟨i2, i1⟩)
    exact ⟨h1, sum_x (term_x h1 (less_factor (r + 1))) (less_factor (r + 1))⟩
section
variable {p : List Nd} {k : Int} {a : Nat} {t : ByteArray} {n : Int} {Q B : Nat} {R : Res (List Ast)} {md : List Nd} {E : Env} {v : Value} {kvs : List Value} {d : Int} {w w' : World}
theorem In.look (_h : In E p k a t n d Q B R w) (s : ByteArray) : ∃ b, nxt R s = b := ⟨_, rfl⟩
set_option maxRecDepth 1000000 in
set_option maxHeartbeats 2000000 in
theorem expr_I {r : Nat} (h : In E p k a t n (64 - (r : Int)) Q B R w) (hr : r ≤ 64) (hQ : Q ≤ B) (hB : B ≤ 890000) : Calls Tryz.prog 188 #[.pointer (some ⟨E.b, 0, none⟩), .int .i64 (p.length : Int)] w fun x w' => x = .returned (.tuple #[]) ∧ In E p k a t n (64 - (r : Int)) Q (B + 1) (knd R (exprR r)) w' := by
  obtain ⟨v, kvs, md, hs, hm⟩ := h
  have C1 := Lib.hid ((fac_all r hr).2 E v kvs md w _ R hm)
  have HS := Lib.hid hs
  have HQ := Lib.hid hQ
  have HB := Lib.hid hB
  clear hs hm hQ hB
  go_enter Tryz.func188, Tryz.ntmps188
  go_wp2_with fail
  (with_reducible refine C1.out.mono ?_)
  rintro x w1 ⟨ev, rfl, ⟨k6, a6, t6, m6, p6, l6, c6, rfl⟩, ha, hf, hx⟩
  clear C1
  cases hS : then' R (fun _ => exprR r) with
  | err q c =>
    rw [hS] at ha
    obtain ⟨i, d', g1, g2, g3, h3⟩ := ha
    have H3 := Lib.hid (h3.alloc (.cells #[.int .u8 k6, .int .i64 a6, .string t6, .int .i64 m6, .slice p6 l6 c6] 231))
    obtain ⟨_, _, _, _, c4⟩ := H3.out.rowCells
    have hb : (c == 0) = false := by simpa using g2
    have hk : knd R (exprR r) = .err q c := by
      cases R with
      | err q' c' => simpa [then', knd] using hS
      | ok ks l => simp only [then'] at hS; simp only [knd, then', Par.bind, hS]
    obtain ⟨nd, rest, e1, e2, e3⟩ := HS.out.any HQ.out
    have HF : Hid (In E p k a t n (64 - (r : Int)) Q (B + 1) (knd R (exprR r)) (w1.alloc (.cells #[.int .u8 k6, .int .i64 a6, .string t6, .int .i64 m6, .slice p6 l6 c6] 231))) := Lib.hid (by
      rw [hk]
      exact ⟨v, kvs, md, ⟨nd, rest, e1, by omega, by omega⟩, ⟨i, d', g1, g2, g3, H3.out⟩⟩)
    clear h3 hx hf hS hk g1 g2 g3 e1 e2 e3
    go_wp2
    simp [bodyPost, results, Tryz.results188, go_sem]
    exact HF.out
  | ok y l' =>
    rw [hS] at ha hx
    obtain ⟨i, rfl, h3⟩ := ha
    cases R with
    | err q c => simp [then'] at hS
    | ok ks l =>
      simp only [then'] at hS
      obtain ⟨hb, rfl⟩ := HS.out
      have hz : y.size + (List.drop i E.pts).length ≤ l.length := by have := sz_exprR r 0 l y _ hS; simpa using this
      have hX : ExprV (w1.alloc (.cells #[.int .u8 k6, .int .i64 a6, .string t6, .int .i64 m6, .slice p6 l6 c6] 231)) (Loc E v kvs) y (.agg #[.int .u8 k6, .int .i64 a6, .string t6, .int .i64 m6, .slice p6 l6 c6]) :=
        ExprV.on (by simp) (fun k _ hl => Below.heap_alloc _ _ _ hl) (fun k hk _ => hk.1) _ _ (hx y _ rfl)
      have H3 := Lib.hid (h3.alloc (.cells #[.int .u8 k6, .int .i64 a6, .string t6, .int .i64 m6, .slice p6 l6 c6] 231))
      have HL := Lib.hid (h3.lcl (.cells #[.int .u8 k6, .int .i64 a6, .string t6, .int .i64 m6, .slice p6 l6 c6] 231))
      obtain ⟨_, _, _, _, c4⟩ := H3.out.rowCells
      have m0 := HL.out.cell 0 rfl
      have m1 := HL.out.cell 1 rfl
      have m2 := HL.out.cell 2 rfl
      have m3 := HL.out.cell 3 rfl
      have m4 := HL.out.cell 4 rfl
      have PT := Lib.hid (put_at y.size y (Nat.le_refl _) E v kvs p k a t n ks i _ _ _ H3.out hX (by have := HQ.out; have := HB.out; omega))
      have HK : Hid (knd (Res.ok ks l) (exprR r) = .ok (ks ++ [y]) (List.drop i E.pts)) := Lib.hid (by simp only [knd, then', Par.bind, hS, Par.pure])
      have HZ := Lib.hid hz
      have HBB := Lib.hid hb
      clear h3 hx hf hS hX hz hb
      go_wp2_with fail
      (with_reducible refine PT.out.mono ?_)
      rintro x w5 ⟨rfl, v5, kvs5, h5, _⟩
      have HF : Hid (In E p k a t n (64 - (r : Int)) Q (B + 1) (knd (Res.ok ks l) (exprR r)) w5) := Lib.hid (by
        rw [HK.out]
        exact ⟨v5, kvs5, _, ⟨by have := HZ.out; have := HBB.out; simp only [sizeL_append, sizeL_one]; omega, rfl⟩, ⟨i, rfl, h5⟩⟩)
      clear PT h5
      go_wp2
      simp [bodyPost, results, Tryz.results188, go_sem]
      exact HF.out
theorem in_I {r : Nat} (h : In E p k a t n (64 - (r : Int)) Q B R w) (hr : r ≤ 64) (hQ : Q ≤ B) {s : ByteArray} (hn : s ≠ none0) (hy : nxt R s = true) : Calls Tryz.prog 145 #[.pointer (some ⟨E.b, 0, none⟩)] w fun x w' => ∃ b, x = .returned (.bool b) ∧ (b = true → ∃ r', r = r' + 1 ∧ In E p k a t n (64 - (r' : Int)) Q B R w') ∧ (b = false → r = 0 ∧ In E p k a t n (64 - (r : Int)) Q B (.err (hda R) 51) w') := by
  obtain ⟨v, kvs, md, hs, hm⟩ := h
  obtain ⟨ks, i, rfl, h1, ht, hl⟩ := hm.yes hn hy
  cases r with
  | zero =>
    refine (in_deep h1).mono ?_
    rintro x w' ⟨rfl, hk⟩
    refine ⟨false, rfl, (fun e => by cases e), fun _ => ⟨rfl, v, kvs, md, hs.any hQ, ?_⟩⟩
    exact ⟨i, 65, by decide, by decide, rfl, hk.rs⟩
  | succ r =>
    refine (in_ok h1 (by omega)).mono ?_
    rintro x w' ⟨rfl, hk⟩
    refine ⟨true, rfl, fun _ => ⟨r, rfl, v, kvs, md, hs, ?_⟩, fun e => by cases e⟩
    have hk := hk.rs
    rw [show (64 : Int) - ((r + 1 : Nat) : Int) + 1 = 64 - (r : Int) by omega] at hk
    exact ⟨i, hk.drop.symm, hk⟩
theorem In.deep {r : Nat} (h : In E p k a t n (64 - (r : Int)) Q B R w) (hr : r + 1 ≤ 64) : ∃ d' : Int, IntKind.i64.wrap (d' - 1) = d' - 1 ∧ -9223372036854775808 ≤ d' - 1 ∧ d' - 1 ≤ 9223372036854775807 ∧ w.cell? ⟨E.b, 2, none⟩ = some (.int .i64 d') ∧ w.frozen? ⟨E.b, 2, none⟩ = false ∧ In E p k a t n (64 - ((r + 1 : Nat) : Int)) Q B R (w.setCell ⟨E.b, 2, none⟩ (.int .i64 (d' - 1))) := by
  obtain ⟨v, kvs, md, hs, hm⟩ := h
  rw [show (64 : Int) - (r : Int) = 64 - ((r + 1 : Nat) : Int) + 1 by omega] at hm
  obtain ⟨d', h1, h2, h3, h4, h5, _⟩ := hm.deep (by omega)
  exact ⟨d', IntWalk.i64_in _ (by omega), by omega, by omega, h3, h4, v, kvs, md, hs, h5⟩
def brkP (r : Nat) : Par Ast := Par.bind (enterP ⟨#[91]⟩ r) fun _ => Par.bind (exprR (r - 1)) fun y => Par.bind (expectP ⟨#[93]⟩) fun _ => Par.pure y
theorem brk_yes {r : Nat} (hy : nxt R ⟨#[91]⟩ = true) : skp (knd (skp R (skipP ⟨#[91]⟩)) (exprR r)) (expectP ⟨#[93]⟩) = knd R (brkP (r + 1)) := by
  cases R with
  | err q c => rfl
  | ok ks l =>
    cases l with
    | nil => simp [nxt] at hy
    | cons t l =>
      simp only [nxt, decide_eq_true_eq] at hy
      simp only [skp, knd, then', Par.bind, skipP, if_pos hy, Par.pure, brkP, enterP, Nat.add_sub_cancel]
      rw [if_neg (by omega)]
      cases hx : exprR r l with
      | err q c => simp only [hx]
      | ok y l' =>
        simp only [hx]
        cases hz : expectP ⟨#[93]⟩ l' <;> simp only [hz]
theorem brk_deep (hy : nxt R ⟨#[91]⟩ = true) : knd R (brkP 0) = .err (hda R) 51 := by
  cases R with
  | err q c => simp [nxt] at hy
  | ok ks l =>
    cases l with
    | nil => simp [nxt] at hy
    | cons t l =>
      simp only [nxt, decide_eq_true_eq] at hy
      simp only [knd, then', Par.bind, brkP, enterP, if_pos hy, hda]
      rfl
theorem brk_no {r : Nat} (hne : ∀ ks l, R = .ok ks l → l ≠ []) (hy : nxt R ⟨#[91]⟩ = false) : knd R (brkP r) = then' R fun _ => (failP : Par (List Ast)) := by
  cases R with
  | err q c => rfl
  | ok ks l =>
    cases l with
    | nil => exact absurd rfl (hne ks [] rfl)
    | cons t l =>
      simp only [nxt, decide_eq_false_iff_not] at hy
      simp only [knd, then', Par.bind, brkP, enterP, if_neg hy]
      rfl
theorem In.ne (h : In E p k a t n d Q B R w) : ∀ ks l, R = .ok ks l → l ≠ [] := fun ks l e => by
  subst e
  obtain ⟨v, kvs, md, hs, hm⟩ := h
  obtain ⟨i, rfl, _⟩ := hm.ok_of
  simp
set_option maxRecDepth 1000000 in
set_option maxHeartbeats 2000000 in
theorem bracket_I {r : Nat} (h : In E p k a t n (64 - (r : Int)) Q B R w) (hr : r ≤ 64) (hQ : Q + 2 ≤ B) (hB : B ≤ 880000) : Calls Tryz.prog 189 #[.pointer (some ⟨E.b, 0, none⟩), .int .i64 (p.length : Int)] w fun x w' => x = .returned (.tuple #[]) ∧ In E p k a t n (64 - (r : Int)) Q (B + 1) (knd R (brkP r)) w' := by
  have H0 := Lib.hid h
  have C0 := Lib.hid (is_I h ⟨#[91]⟩ (by decide) (by decide))
  have HQ := Lib.hid hQ
  have HB := Lib.hid hB
  have HR := Lib.hid hr
  obtain ⟨b, hb⟩ := h.look ⟨#[91]⟩
  rw [hb] at C0
  have HY := Lib.hid hb
  clear h hQ hB hb hr
  go_enter Tryz.func189, Tryz.ntmps189
  go_wp2_with fail
  (with_reducible refine C0.out.mono ?_)
  rintro x wd ⟨rfl, m, rfl⟩
  have H1 := Lib.hid (H0.out.drewN m)
  generalize w.drewN m = w1 at *
  clear C0
  cases b with
  | false =>
    have C1 := Lib.hid (fail_I H1.out (by have := HQ.out; omega))
    go_wp2_with fail
    (with_reducible refine C1.out.mono ?_)
    rintro x w2 ⟨rfl, h2⟩
    have H2 := Lib.hid h2
    clear C1 h2
    go_wp2
    simp [bodyPost, results, Tryz.results189, go_sem]
    rw [brk_no H0.out.ne HY.out]
    exact H2.out.mono (Nat.le_refl _) (by omega)
  | true =>
    have C1 := Lib.hid (in_I H1.out HR.out (by have := HQ.out; omega) (by decide) HY.out)
    go_wp2_with fail
    (with_reducible refine C1.out.mono ?_)
    rintro x w2 ⟨b2, rfl, ht, hf⟩
    clear C1
    cases b2 with
    | false =>
      obtain ⟨rfl, h2⟩ := hf rfl
      have C2 := Lib.hid (fail_I h2 (by have := HQ.out; omega))
      clear ht hf h2
      go_wp2_with fail
      (with_reducible refine C2.out.mono ?_)
      rintro x w3 ⟨rfl, h3⟩
      have H3 := Lib.hid h3
      clear C2 h3
      go_wp2
      simp [bodyPost, results, Tryz.results189, go_sem]
      rw [brk_deep HY.out]
      exact H3.out.mono (Nat.le_refl _) (by omega)
    | true =>
      obtain ⟨r', rfl, h2⟩ := ht rfl
      obtain ⟨i, h63, c1, cz, h3⟩ := (h2.mono (Nat.le_succ Q) (Nat.le_refl B)).inc (by have := HQ.out; omega) (by decide) HY.out
      have H3 := Lib.hid h3
      clear ht hf h2 h3
      have C2 := Lib.hid (expr_I H3.out (by have := HR.out; omega) (by have := HQ.out; omega) (by have := HB.out; omega))
      go_wp2_with fail
      (with_reducible refine C2.out.mono ?_)
      rintro x w4 ⟨rfl, h4⟩
      have C3 := Lib.hid (take_I h4 (by have := HQ.out; omega) ⟨#[93]⟩ (by decide) (by decide))
      clear C2 h4 c1 cz
      go_wp2_with fail
      (with_reducible refine C3.out.mono ?_)
      rintro x w5 ⟨rfl, h5⟩
      obtain ⟨d', hw, l63, u63, c2, cz, h6⟩ := h5.deep (by have := HR.out; omega)
      have H6 := Lib.hid h6
      clear C3 h5 h6
      go_wp2
      simp [bodyPost, results, Tryz.results189, go_sem]
      rw [← brk_yes HY.out]
      exact H6.out
end
end Go.Proofs.YtpemghcafbedeaaGreatDoor.Rf
end
section
namespace Go.Proofs.YtpemghcafbedeaaGreatDoor.Rf
open Go.RowKit Par
theorem skip_yes {ks : List Ast} {l : List PT} {s : ByteArray} (hy : nxt (.ok ks l) s = true) : ∃ t l', l = t :: l' ∧ skipP s l = .ok true l' := by
  cases l with
  | nil => simp [nxt] at hy
  | cons t l =>
    simp only [nxt, decide_eq_true_eq] at hy
    exact ⟨t, l, rfl, by simp only [skipP, if_pos hy]⟩
theorem skip_no {ks : List Ast} {l : List PT} {s : ByteArray} (hl : l ≠ []) (hy : nxt (.ok ks l) s = false) : skipP s l = .ok false l := by
  cases l with
  | nil => exact absurd rfl hl
  | cons t l =>
    simp only [nxt, decide_eq_false_iff_not] at hy
    simp only [skipP, if_neg hy]
theorem take_hd {ks : List Ast} {l l' : List PT} {s : ByteArray} {t : PT} (hd : hdk (.ok ks l : Res (List Ast)) = 1 → s = hdt (.ok ks l : Res (List Ast))) (h : takeP 1 l = .ok t l') : s = t.txt := by
  cases l with
  | nil => simp [takeP] at h
  | cons u l =>
    simp only [takeP] at h
    split at h
    · rename_i hk
      simp only [Res.ok.injEq] at h
      rw [← h.1]
      exact hd hk
    · simp at h
theorem then_pure (R : Res (List Ast)) (k : Int) (a : Nat) (t : ByteArray) (n : Int) (ks : List Ast) : (then' R fun ks2 l => Res.ok (ks ++ [Ast.mk k a t n ks2]) l) = then' (then' R fun ks2 l1 => Res.ok (Ast.mk k a t n ks2) l1) fun x l => Res.ok (ks ++ [x]) l := by
  cases R <;> rfl
theorem eq0y {r : Nat} {a : Nat} {l : List PT} {s : ByteArray} (hd : hdk (Res.ok [] l : Res (List Ast)) = 1 → s = hdt (Res.ok [] l : Res (List Ast))) (hy1 : nxt (knd (skp (knd (skp (skp (Res.ok [] l : Res (List Ast)) (takeP 1)) (expectP ⟨#[61]⟩)) (rowP r)) (expectP ⟨#[46]⟩)) (wordP)) ⟨#[102, 111, 114]⟩ = true) : then' (skp (skp (skp (knd (skp (knd (skp (skp (Res.ok [] l : Res (List Ast)) (takeP 1)) (expectP ⟨#[61]⟩)) (rowP r)) (expectP ⟨#[46]⟩)) (wordP)) (skipP ⟨#[102, 111, 114]⟩)) (expectP ⟨#[117, 112, 100, 97, 116, 101]⟩)) (expectP ⟨#[59]⟩)) (fun ks2 l1 => Res.ok (Ast.mk 7 a s 1 ks2) l1) = readP r a l := by
  cases h1 : takeP 1 l with
  | err q c => simp only [skp, knd, then', Par.bind, Par.pure, readP, cellP, endP, h1]
  | ok x1 l1 =>
    obtain rfl := take_hd hd h1
    cases h2 : expectP ⟨#[61]⟩ l1 with
    | err q c => simp only [skp, knd, then', Par.bind, Par.pure, readP, cellP, endP, h1, h2]
    | ok x2 l2 =>
      cases h3 : rowP r l2 with
      | err q c => simp only [skp, knd, then', Par.bind, Par.pure, readP, cellP, endP, h1, h2, h3]
      | ok x3 l3 =>
        cases h4 : expectP ⟨#[46]⟩ l3 with
        | err q c => simp only [skp, knd, then', Par.bind, Par.pure, readP, cellP, endP, h1, h2, h3, h4]
        | ok x4 l4 =>
          cases h5 : wordP l4 with
          | err q c => simp only [skp, knd, then', Par.bind, Par.pure, readP, cellP, endP, h1, h2, h3, h4, h5]
          | ok x5 l5 =>
            simp only [skp, knd, then', Par.bind, Par.pure, h1, h2, h3, h4, h5] at hy1
            obtain ⟨t1, m1, e1, k1⟩ := skip_yes hy1
            cases h6 : expectP ⟨#[117, 112, 100, 97, 116, 101]⟩ m1 with
            | err q c => simp only [skp, knd, then', Par.bind, Par.pure, readP, cellP, endP, h1, h2, h3, h4, h5, k1, h6]
            | ok x6 l6 =>
              cases h7 : expectP ⟨#[59]⟩ l6 with
              | err q c => simp only [skp, knd, then', Par.bind, Par.pure, readP, cellP, endP, h1, h2, h3, h4, h5, k1, h6, h7]
              | ok x7 l7 =>
                simp only [skp, knd, then', Par.bind, Par.pure, readP, cellP, endP, h1, h2, h3, h4, h5, k1, h6, h7, List.nil_append, List.cons_append]
theorem eq0n {r : Nat} {a : Nat} {l : List PT} {s : ByteArray} (hd : hdk (Res.ok [] l : Res (List Ast)) = 1 → s = hdt (Res.ok [] l : Res (List Ast))) (hy1 : nxt (knd (skp (knd (skp (skp (Res.ok [] l : Res (List Ast)) (takeP 1)) (expectP ⟨#[61]⟩)) (rowP r)) (expectP ⟨#[46]⟩)) (wordP)) ⟨#[102, 111, 114]⟩ = false) (hn1 : ∀ ks l1, (knd (skp (knd (skp (skp (Res.ok [] l : Res (List Ast)) (takeP 1)) (expectP ⟨#[61]⟩)) (rowP r)) (expectP ⟨#[46]⟩)) (wordP)) = .ok ks l1 → l1 ≠ []) : then' (skp (knd (skp (knd (skp (skp (Res.ok [] l : Res (List Ast)) (takeP 1)) (expectP ⟨#[61]⟩)) (rowP r)) (expectP ⟨#[46]⟩)) (wordP)) (expectP ⟨#[59]⟩)) (fun ks2 l1 => Res.ok (Ast.mk 7 a s 0 ks2) l1) = readP r a l := by
  cases h1 : takeP 1 l with
  | err q c => simp only [skp, knd, then', Par.bind, Par.pure, readP, cellP, endP, h1]
  | ok x1 l1 =>
    obtain rfl := take_hd hd h1
    cases h2 : expectP ⟨#[61]⟩ l1 with
    | err q c => simp only [skp, knd, then', Par.bind, Par.pure, readP, cellP, endP, h1, h2]
    | ok x2 l2 =>
      cases h3 : rowP r l2 with
      | err q c => simp only [skp, knd, then', Par.bind, Par.pure, readP, cellP, endP, h1, h2, h3]
      | ok x3 l3 =>
        cases h4 : expectP ⟨#[46]⟩ l3 with
        | err q c => simp only [skp, knd, then', Par.bind, Par.pure, readP, cellP, endP, h1, h2, h3, h4]
        | ok x4 l4 =>
          cases h5 : wordP l4 with
          | err q c => simp only [skp, knd, then', Par.bind, Par.pure, readP, cellP, endP, h1, h2, h3, h4, h5]
          | ok x5 l5 =>
            simp only [skp, knd, then', Par.bind, Par.pure, h1, h2, h3, h4, h5] at hy1 hn1
            have k1 := skip_no (hn1 _ _ rfl) hy1
            cases h6 : expectP ⟨#[59]⟩ l5 with
            | err q c => simp only [skp, knd, then', Par.bind, Par.pure, readP, cellP, endP, h1, h2, h3, h4, h5, k1, h6]
            | ok x6 l6 =>
              simp only [skp, knd, then', Par.bind, Par.pure, readP, cellP, endP, h1, h2, h3, h4, h5, k1, h6, List.nil_append, List.cons_append]
theorem eq1 {r : Nat} {a : Nat} {l : List PT} : then' (skp (knd (skp (knd (skp (knd (Res.ok [] l : Res (List Ast)) (rowP r)) (expectP ⟨#[46]⟩)) (wordP)) (expectP ⟨#[61]⟩)) (exprR r)) (expectP ⟨#[59]⟩)) (fun ks2 l1 => Res.ok (Ast.mk 8 a none0 0 ks2) l1) = setP r a l := by
  cases h1 : rowP r l with
  | err q c => simp only [skp, knd, then', Par.bind, Par.pure, setP, cellP, endP, nodeA, h1]
  | ok x1 l1 =>
    cases h2 : expectP ⟨#[46]⟩ l1 with
    | err q c => simp only [skp, knd, then', Par.bind, Par.pure, setP, cellP, endP, nodeA, h1, h2]
    | ok x2 l2 =>
      cases h3 : wordP l2 with
      | err q c => simp only [skp, knd, then', Par.bind, Par.pure, setP, cellP, endP, nodeA, h1, h2, h3]
      | ok x3 l3 =>
        cases h4 : expectP ⟨#[61]⟩ l3 with
        | err q c => simp only [skp, knd, then', Par.bind, Par.pure, setP, cellP, endP, nodeA, h1, h2, h3, h4]
        | ok x4 l4 =>
          cases h5 : exprR r l4 with
          | err q c => simp only [skp, knd, then', Par.bind, Par.pure, setP, cellP, endP, nodeA, h1, h2, h3, h4, h5]
          | ok x5 l5 =>
            cases h6 : expectP ⟨#[59]⟩ l5 with
            | err q c => simp only [skp, knd, then', Par.bind, Par.pure, setP, cellP, endP, nodeA, h1, h2, h3, h4, h5, h6]
            | ok x6 l6 =>
              simp only [skp, knd, then', Par.bind, Par.pure, setP, cellP, endP, nodeA, h1, h2, h3, h4, h5, h6, List.nil_append, List.cons_append]
theorem eq3 {r : Nat} {a : Nat} {l : List PT} : then' (skp (knd (Res.ok [] l : Res (List Ast)) (rowP r)) (expectP ⟨#[59]⟩)) (fun ks2 l1 => Res.ok (Ast.mk 10 a none0 0 ks2) l1) = deleteP r a l := by
  cases h1 : rowP r l with
  | err q c => simp only [skp, knd, then', Par.bind, Par.pure, deleteP, endP, nodeA, h1]
  | ok x1 l1 =>
    cases h2 : expectP ⟨#[59]⟩ l1 with
    | err q c => simp only [skp, knd, then', Par.bind, Par.pure, deleteP, endP, nodeA, h1, h2]
    | ok x2 l2 =>
      simp only [skp, knd, then', Par.bind, Par.pure, deleteP, endP, nodeA, h1, h2, List.nil_append, List.cons_append]
theorem eq4 {r : Nat} {a : Nat} {l : List PT} {s : ByteArray} (hd : hdk (Res.ok [] l : Res (List Ast)) = 1 → s = hdt (Res.ok [] l : Res (List Ast))) : then' (skp (knd (skp (knd (skp (skp (Res.ok [] l : Res (List Ast)) (takeP 1)) (expectP ⟨#[61]⟩)) (wordP)) (expectP ⟨#[46]⟩)) (wordP)) (expectP ⟨#[59]⟩)) (fun ks2 l1 => Res.ok (Ast.mk 11 a s 0 ks2) l1) = scanP a l := by
  cases h1 : takeP 1 l with
  | err q c => simp only [skp, knd, then', Par.bind, Par.pure, scanP, endP, h1]
  | ok x1 l1 =>
    obtain rfl := take_hd hd h1
    cases h2 : expectP ⟨#[61]⟩ l1 with
    | err q c => simp only [skp, knd, then', Par.bind, Par.pure, scanP, endP, h1, h2]
    | ok x2 l2 =>
      cases h3 : wordP l2 with
      | err q c => simp only [skp, knd, then', Par.bind, Par.pure, scanP, endP, h1, h2, h3]
      | ok x3 l3 =>
        cases h4 : expectP ⟨#[46]⟩ l3 with
        | err q c => simp only [skp, knd, then', Par.bind, Par.pure, scanP, endP, h1, h2, h3, h4]
        | ok x4 l4 =>
          cases h5 : wordP l4 with
          | err q c => simp only [skp, knd, then', Par.bind, Par.pure, scanP, endP, h1, h2, h3, h4, h5]
          | ok x5 l5 =>
            cases h6 : expectP ⟨#[59]⟩ l5 with
            | err q c => simp only [skp, knd, then', Par.bind, Par.pure, scanP, endP, h1, h2, h3, h4, h5, h6]
            | ok x6 l6 =>
              simp only [skp, knd, then', Par.bind, Par.pure, scanP, endP, h1, h2, h3, h4, h5, h6, List.nil_append, List.cons_append]
theorem eq5y {r : Nat} {a : Nat} {l : List PT} (hy1 : nxt (knd (Res.ok [] l : Res (List Ast)) (wordP)) ⟨#[97, 108, 108]⟩ = true) : then' (skp (skp (knd (Res.ok [] l : Res (List Ast)) (wordP)) (skipP ⟨#[97, 108, 108]⟩)) (expectP ⟨#[59]⟩)) (fun ks2 l1 => Res.ok (Ast.mk 12 a none0 1 ks2) l1) = lockP a l := by
  cases h1 : wordP l with
  | err q c => simp only [skp, knd, then', Par.bind, Par.pure, lockP, endP, h1]
  | ok x1 l1 =>
    simp only [skp, knd, then', Par.bind, Par.pure, h1] at hy1
    obtain ⟨t1, m1, e1, k1⟩ := skip_yes hy1
    cases h2 : expectP ⟨#[59]⟩ m1 with
    | err q c => simp only [skp, knd, then', Par.bind, Par.pure, lockP, endP, h1, k1, h2]
    | ok x2 l2 =>
      simp only [skp, knd, then', Par.bind, Par.pure, lockP, endP, h1, k1, h2, List.nil_append, List.cons_append]
theorem eq5n {r : Nat} {a : Nat} {l : List PT} (hy1 : nxt (knd (Res.ok [] l : Res (List Ast)) (wordP)) ⟨#[97, 108, 108]⟩ = false) (hn1 : ∀ ks l1, (knd (Res.ok [] l : Res (List Ast)) (wordP)) = .ok ks l1 → l1 ≠ []) : then' (skp (skp (knd (Res.ok [] l : Res (List Ast)) (wordP)) (expectP ⟨#[115, 104, 97, 114, 101, 100]⟩)) (expectP ⟨#[59]⟩)) (fun ks2 l1 => Res.ok (Ast.mk 12 a none0 0 ks2) l1) = lockP a l := by
  cases h1 : wordP l with
  | err q c => simp only [skp, knd, then', Par.bind, Par.pure, lockP, endP, h1]
  | ok x1 l1 =>
    simp only [skp, knd, then', Par.bind, Par.pure, h1] at hy1 hn1
    have k1 := skip_no (hn1 _ _ rfl) hy1
    cases h2 : expectP ⟨#[115, 104, 97, 114, 101, 100]⟩ l1 with
    | err q c => simp only [skp, knd, then', Par.bind, Par.pure, lockP, endP, h1, k1, h2]
    | ok x2 l2 =>
      cases h3 : expectP ⟨#[59]⟩ l2 with
      | err q c => simp only [skp, knd, then', Par.bind, Par.pure, lockP, endP, h1, k1, h2, h3]
      | ok x3 l3 =>
        simp only [skp, knd, then', Par.bind, Par.pure, lockP, endP, h1, k1, h2, h3, List.nil_append, List.cons_append]
theorem eq9 {r : Nat} {a : Nat} {l : List PT} {s : ByteArray} (hd : hdk (Res.ok [] l : Res (List Ast)) = 1 → s = hdt (Res.ok [] l : Res (List Ast))) : then' (skp (knd (skp (skp (Res.ok [] l : Res (List Ast)) (takeP 1)) (expectP ⟨#[61]⟩)) (exprR r)) (expectP ⟨#[59]⟩)) (fun ks2 l1 => Res.ok (Ast.mk 16 a s 0 ks2) l1) = letP r a l := by
  cases h1 : takeP 1 l with
  | err q c => simp only [skp, knd, then', Par.bind, Par.pure, letP, endP, h1]
  | ok x1 l1 =>
    obtain rfl := take_hd hd h1
    cases h2 : expectP ⟨#[61]⟩ l1 with
    | err q c => simp only [skp, knd, then', Par.bind, Par.pure, letP, endP, h1, h2]
    | ok x2 l2 =>
      cases h3 : exprR r l2 with
      | err q c => simp only [skp, knd, then', Par.bind, Par.pure, letP, endP, h1, h2, h3]
      | ok x3 l3 =>
        cases h4 : expectP ⟨#[59]⟩ l3 with
        | err q c => simp only [skp, knd, then', Par.bind, Par.pure, letP, endP, h1, h2, h3, h4]
        | ok x4 l4 =>
          simp only [skp, knd, then', Par.bind, Par.pure, letP, endP, h1, h2, h3, h4, List.nil_append, List.cons_append]
theorem eq10 {r : Nat} {a : Nat} {l : List PT} : then' (skp (knd (Res.ok [] l : Res (List Ast)) (exprR r)) (expectP ⟨#[59]⟩)) (fun ks2 l1 => Res.ok (Ast.mk 17 a none0 0 ks2) l1) = emitP r a l := by
  cases h1 : exprR r l with
  | err q c => simp only [skp, knd, then', Par.bind, Par.pure, emitP, endP, nodeA, h1]
  | ok x1 l1 =>
    cases h2 : expectP ⟨#[59]⟩ l1 with
    | err q c => simp only [skp, knd, then', Par.bind, Par.pure, emitP, endP, nodeA, h1, h2]
    | ok x2 l2 =>
      simp only [skp, knd, then', Par.bind, Par.pure, emitP, endP, nodeA, h1, h2, List.nil_append, List.cons_append]
theorem eq11 {r : Nat} {a : Nat} {l : List PT} : then' (skp (Res.ok [] l : Res (List Ast)) (expectP ⟨#[59]⟩)) (fun ks2 l1 => Res.ok (Ast.mk 18 a none0 0 ks2) l1) = rollbackP a l := by
  cases h1 : expectP ⟨#[59]⟩ l with
  | err q c => simp only [skp, knd, then', Par.bind, Par.pure, rollbackP, endP, nodeA, h1]
  | ok x1 l1 =>
    simp only [skp, knd, then', Par.bind, Par.pure, rollbackP, endP, nodeA, h1, List.nil_append, List.cons_append]
theorem eq12 {r : Nat} {a : Nat} {l : List PT} : then' (skp (Res.ok [] l : Res (List Ast)) (expectP ⟨#[59]⟩)) (fun ks2 l1 => Res.ok (Ast.mk 19 a none0 0 ks2) l1) = chopP a l := by
  cases h1 : expectP ⟨#[59]⟩ l with
  | err q c => simp only [skp, knd, then', Par.bind, Par.pure, chopP, endP, nodeA, h1]
  | ok x1 l1 =>
    simp only [skp, knd, then', Par.bind, Par.pure, chopP, endP, nodeA, h1, List.nil_append, List.cons_append]
theorem eq7yy {r : Nat} {a : Nat} {l : List PT} (hy1 : nxt (knd (Res.ok [] l : Res (List Ast)) (exprR r)) ⟨#[61, 61]⟩ = true) (hy2 : nxt (knd (knd (skp (knd (Res.ok [] l : Res (List Ast)) (exprR r)) (skipP ⟨#[61, 61]⟩)) (exprR r)) (blockP r)) ⟨#[101, 108, 115, 101]⟩ = true) : then' (knd (skp (knd (knd (skp (knd (Res.ok [] l : Res (List Ast)) (exprR r)) (skipP ⟨#[61, 61]⟩)) (exprR r)) (blockP r)) (skipP ⟨#[101, 108, 115, 101]⟩)) (blockP r)) (fun ks2 l1 => Res.ok (Ast.mk 14 a none0 1 ks2) l1) = ifP r (blockP r) a l := by
  cases h1 : exprR r l with
  | err q c => simp only [skp, knd, then', Par.bind, Par.pure, ifP, ifTail, h1]
  | ok x1 l1 =>
    simp only [skp, knd, then', Par.bind, Par.pure, h1] at hy1
    obtain ⟨t1, m1, e1, k1⟩ := skip_yes hy1
    cases h2 : exprR r m1 with
    | err q c => simp only [skp, knd, then', Par.bind, Par.pure, ifP, ifTail, h1, k1, h2]
    | ok x2 l2 =>
      cases h3 : blockP r l2 with
      | err q c => simp only [skp, knd, then', Par.bind, Par.pure, ifP, ifTail, h1, k1, h2, h3]
      | ok x3 l3 =>
        simp only [skp, knd, then', Par.bind, Par.pure, h1, k1, h2, h3] at hy2
        obtain ⟨t2, m2, e2, k2⟩ := skip_yes hy2
        cases h4 : blockP r m2 with
        | err q c => simp only [skp, knd, then', Par.bind, Par.pure, ifP, ifTail, h1, k1, h2, h3, k2, h4]
        | ok x4 l4 =>
          simp only [skp, knd, then', Par.bind, Par.pure, ifP, ifTail, h1, k1, h2, h3, k2, h4, List.nil_append, List.cons_append]
theorem eq7yn {r : Nat} {a : Nat} {l : List PT} (hy1 : nxt (knd (Res.ok [] l : Res (List Ast)) (exprR r)) ⟨#[61, 61]⟩ = true) (hy2 : nxt (knd (knd (skp (knd (Res.ok [] l : Res (List Ast)) (exprR r)) (skipP ⟨#[61, 61]⟩)) (exprR r)) (blockP r)) ⟨#[101, 108, 115, 101]⟩ = false) (hn2 : ∀ ks l1, (knd (knd (skp (knd (Res.ok [] l : Res (List Ast)) (exprR r)) (skipP ⟨#[61, 61]⟩)) (exprR r)) (blockP r)) = .ok ks l1 → l1 ≠ []) : then' (knd (knd (skp (knd (Res.ok [] l : Res (List Ast)) (exprR r)) (skipP ⟨#[61, 61]⟩)) (exprR r)) (blockP r)) (fun ks2 l1 => Res.ok (Ast.mk 14 a none0 1 ks2) l1) = ifP r (blockP r) a l := by
  cases h1 : exprR r l with
  | err q c => simp only [skp, knd, then', Par.bind, Par.pure, ifP, ifTail, h1]
  | ok x1 l1 =>
    simp only [skp, knd, then', Par.bind, Par.pure, h1] at hy1
    obtain ⟨t1, m1, e1, k1⟩ := skip_yes hy1
    cases h2 : exprR r m1 with
    | err q c => simp only [skp, knd, then', Par.bind, Par.pure, ifP, ifTail, h1, k1, h2]
    | ok x2 l2 =>
      cases h3 : blockP r l2 with
      | err q c => simp only [skp, knd, then', Par.bind, Par.pure, ifP, ifTail, h1, k1, h2, h3]
      | ok x3 l3 =>
        simp only [skp, knd, then', Par.bind, Par.pure, h1, k1, h2, h3] at hy2 hn2
        have k2 := skip_no (hn2 _ _ rfl) hy2
        simp only [skp, knd, then', Par.bind, Par.pure, ifP, ifTail, h1, k1, h2, h3, k2, List.nil_append, List.cons_append]
theorem eq7ny {r : Nat} {a : Nat} {l : List PT} (hy1 : nxt (knd (Res.ok [] l : Res (List Ast)) (exprR r)) ⟨#[61, 61]⟩ = false) (hn1 : ∀ ks l1, (knd (Res.ok [] l : Res (List Ast)) (exprR r)) = .ok ks l1 → l1 ≠ []) (hy2 : nxt (knd (knd (skp (knd (Res.ok [] l : Res (List Ast)) (exprR r)) (expectP ⟨#[60]⟩)) (exprR r)) (blockP r)) ⟨#[101, 108, 115, 101]⟩ = true) : then' (knd (skp (knd (knd (skp (knd (Res.ok [] l : Res (List Ast)) (exprR r)) (expectP ⟨#[60]⟩)) (exprR r)) (blockP r)) (skipP ⟨#[101, 108, 115, 101]⟩)) (blockP r)) (fun ks2 l1 => Res.ok (Ast.mk 14 a none0 0 ks2) l1) = ifP r (blockP r) a l := by
  cases h1 : exprR r l with
  | err q c => simp only [skp, knd, then', Par.bind, Par.pure, ifP, ifTail, h1]
  | ok x1 l1 =>
    simp only [skp, knd, then', Par.bind, Par.pure, h1] at hy1 hn1
    have k1 := skip_no (hn1 _ _ rfl) hy1
    cases h2 : expectP ⟨#[60]⟩ l1 with
    | err q c => simp only [skp, knd, then', Par.bind, Par.pure, ifP, ifTail, h1, k1, h2]
    | ok x2 l2 =>
      cases h3 : exprR r l2 with
      | err q c => simp only [skp, knd, then', Par.bind, Par.pure, ifP, ifTail, h1, k1, h2, h3]
      | ok x3 l3 =>
        cases h4 : blockP r l3 with
        | err q c => simp only [skp, knd, then', Par.bind, Par.pure, ifP, ifTail, h1, k1, h2, h3, h4]
        | ok x4 l4 =>
          simp only [skp, knd, then', Par.bind, Par.pure, h1, k1, h2, h3, h4] at hy2
          obtain ⟨t2, m2, e2, k2⟩ := skip_yes hy2
          cases h5 : blockP r m2 with
          | err q c => simp only [skp, knd, then', Par.bind, Par.pure, ifP, ifTail, h1, k1, h2, h3, h4, k2, h5]
          | ok x5 l5 =>
            simp only [skp, knd, then', Par.bind, Par.pure, ifP, ifTail, h1, k1, h2, h3, h4, k2, h5, List.nil_append, List.cons_append]
theorem eq7nn {r : Nat} {a : Nat} {l : List PT} (hy1 : nxt (knd (Res.ok [] l : Res (List Ast)) (exprR r)) ⟨#[61, 61]⟩ = false) (hn1 : ∀ ks l1, (knd (Res.ok [] l : Res (List Ast)) (exprR r)) = .ok ks l1 → l1 ≠ []) (hy2 : nxt (knd (knd (skp (knd (Res.ok [] l : Res (List Ast)) (exprR r)) (expectP ⟨#[60]⟩)) (exprR r)) (blockP r)) ⟨#[101, 108, 115, 101]⟩ = false) (hn2 : ∀ ks l1, (knd (knd (skp (knd (Res.ok [] l : Res (List Ast)) (exprR r)) (expectP ⟨#[60]⟩)) (exprR r)) (blockP r)) = .ok ks l1 → l1 ≠ []) : then' (knd (knd (skp (knd (Res.ok [] l : Res (List Ast)) (exprR r)) (expectP ⟨#[60]⟩)) (exprR r)) (blockP r)) (fun ks2 l1 => Res.ok (Ast.mk 14 a none0 0 ks2) l1) = ifP r (blockP r) a l := by
  cases h1 : exprR r l with
  | err q c => simp only [skp, knd, then', Par.bind, Par.pure, ifP, ifTail, h1]
  | ok x1 l1 =>
    simp only [skp, knd, then', Par.bind, Par.pure, h1] at hy1 hn1
    have k1 := skip_no (hn1 _ _ rfl) hy1
    cases h2 : expectP ⟨#[60]⟩ l1 with
    | err q c => simp only [skp, knd, then', Par.bind, Par.pure, ifP, ifTail, h1, k1, h2]
    | ok x2 l2 =>
      cases h3 : exprR r l2 with
      | err q c => simp only [skp, knd, then', Par.bind, Par.pure, ifP, ifTail, h1, k1, h2, h3]
      | ok x3 l3 =>
        cases h4 : blockP r l3 with
        | err q c => simp only [skp, knd, then', Par.bind, Par.pure, ifP, ifTail, h1, k1, h2, h3, h4]
        | ok x4 l4 =>
          simp only [skp, knd, then', Par.bind, Par.pure, h1, k1, h2, h3, h4] at hy2 hn2
          have k2 := skip_no (hn2 _ _ rfl) hy2
          simp only [skp, knd, then', Par.bind, Par.pure, ifP, ifTail, h1, k1, h2, h3, h4, k2, List.nil_append, List.cons_append]
theorem eq8 {r : Nat} {a : Nat} {l : List PT} {s : ByteArray} (hd : hdk (Res.ok [] l : Res (List Ast)) = 1 → s = hdt (Res.ok [] l : Res (List Ast))) : then' (knd (knd (skp (knd (skp (skp (Res.ok [] l : Res (List Ast)) (takeP 1)) (expectP ⟨#[61]⟩)) (numberP)) (expectP ⟨#[116, 111]⟩)) (numberP)) (blockP r)) (fun ks2 l1 => Res.ok (Ast.mk 15 a s 0 ks2) l1) = forP (blockP r) a l := by
  cases h1 : takeP 1 l with
  | err q c => simp only [skp, knd, then', Par.bind, Par.pure, forP, h1]
  | ok x1 l1 =>
    obtain rfl := take_hd hd h1
    cases h2 : expectP ⟨#[61]⟩ l1 with
    | err q c => simp only [skp, knd, then', Par.bind, Par.pure, forP, h1, h2]
    | ok x2 l2 =>
      cases h3 : numberP l2 with
      | err q c => simp only [skp, knd, then', Par.bind, Par.pure, forP, h1, h2, h3]
      | ok x3 l3 =>
        cases h4 : expectP ⟨#[116, 111]⟩ l3 with
        | err q c => simp only [skp, knd, then', Par.bind, Par.pure, forP, h1, h2, h3, h4]
        | ok x4 l4 =>
          cases h5 : numberP l4 with
          | err q c => simp only [skp, knd, then', Par.bind, Par.pure, forP, h1, h2, h3, h4, h5]
          | ok x5 l5 =>
            cases h6 : blockP r l5 with
            | err q c => simp only [skp, knd, then', Par.bind, Par.pure, forP, h1, h2, h3, h4, h5, h6]
            | ok x6 l6 =>
              simp only [skp, knd, then', Par.bind, Par.pure, forP, h1, h2, h3, h4, h5, h6, List.nil_append, List.cons_append]
end Go.Proofs.YtpemghcafbedeaaGreatDoor.Rf
end
section
namespace Go.Proofs.YtpemghcafbedeaaGreatDoor.Rf
open Go.RowKit Par
section
variable {p : List Nd} {k : Int} {a : Nat} {t : ByteArray} {n : Int} {Q B : Nat} {R : Res (List Ast)} {md : List Nd} {E : Env} {v : Value} {kvs : List Value} {d : Int} {w w' : World}
theorem row_eq {r : Nat} {s : ByteArray} (hd : hdk (then' R fun _ => (Par.pure [] : Par (List Ast))) = 1 → s = hdt (then' R fun _ => (Par.pure [] : Par (List Ast)))) :
    (then' R fun ks _ => then' (knd (skp (then' R fun _ => (Par.pure [] : Par (List Ast))) (takeP 1)) (brkP r)) fun ks2 l => Res.ok (ks ++ [Ast.mk 20 (hda R) s 0 ks2]) l) = knd R (rowP r) := by
  cases R with
  | err q c => rfl
  | ok ks l =>
    simp only [then', Par.pure] at hd
    cases h1 : takeP 1 l with
    | err q c => simp only [then', knd, skp, Par.bind, Par.pure, rowP, h1]
    | ok t l1 =>
      obtain rfl := take_hd hd h1
      have ha : hda (Res.ok ks l) = t.at' := by
        cases l with
        | nil => simp [takeP] at h1
        | cons u l =>
          simp only [takeP] at h1
          split at h1
          · simp only [Res.ok.injEq] at h1; rw [← h1.1]; rfl
          · simp at h1
      rw [ha]
      simp only [then', knd, skp, Par.bind, Par.pure, rowP, h1, rowOfP, brkP]
      cases h2 : enterP ⟨#[91]⟩ r l1 with
      | err q c => simp only [h2]
      | ok x2 l2 =>
        simp only [h2]
        cases h3 : exprR (r - 1) l2 with
        | err q c => simp only [h3]
        | ok x3 l3 =>
          simp only [h3]
          cases h4 : expectP ⟨#[93]⟩ l3 with
          | err q c => simp only [h4]
          | ok x4 l4 => simp only [h4, List.nil_append]
theorem R_err (q : Nat) (c : Int) (h : R = .err q c) {f : Res (List Ast) → Res (List Ast)} (hf : f (.err q c) = .err q c) : f (then' R fun _ => (Par.pure [] : Par (List Ast))) = .err q c := by
  subst h
  exact hf
set_option maxRecDepth 1000000 in
set_option maxHeartbeats 4000000 in
theorem row_I {r : Nat} (h : In E p k a t n (64 - (r : Int)) Q B R w) (hr : r ≤ 64) (hQ : Q + 2 ≤ B) (hB : B ≤ 870000) : Calls Tryz.prog 187 #[.pointer (some ⟨E.b, 0, none⟩), .int .i64 (p.length : Int)] w fun x w' => x = .returned (.tuple #[]) ∧ In E p k a t n (64 - (r : Int)) Q (B + 2) (knd R (rowP r)) w' := by
  have C1 := Lib.hid (kid_I h (by omega) (by omega))
  have HQ := Lib.hid hQ
  have HB := Lib.hid hB
  have HR := Lib.hid hr
  clear h hQ hB hr
  go_enter Tryz.func187, Tryz.ntmps187
  go_wp2_with fail
  (with_reducible refine C1.out.mono ?_)
  rintro x w1 ⟨rfl, v1, kvs1, p2, ho, h1⟩
  have HO := Lib.hid ho
  have C2 := Lib.hid (node_I ho h1 (by have := HQ.out; omega) (by have := HB.out; omega) 20)
  clear C1 ho h1
  go_wp2_with fail
  (with_reducible refine C2.out.mono ?_)
  rintro x w2 ⟨rfl, h2⟩
  have H2 := Lib.hid h2
  clear C2 h2
  obtain ⟨g3, len3, cap3, hn3, hc3⟩ := name_IT H2.out.drew (by have := HQ.out; omega)
  have c33 := hn3.c3
  have b03 : (0 : Int) ≤ (p2.length : Int) := by omega
  have b13 : (p2.length : Int) < (len3 : Int) := by have := hn3.lt; omega
  have gb3 := hn3.gb
  have NM3 := Lib.hid hc3
  clear hn3 hc3
  go_wp2_with fail
  go_region_held3 (fun w' => w'.cell? ⟨E.b, 3, none⟩ = some (.slice (some ⟨g3, 0, none⟩) len3 cap3)) (first | exact c33 | exact k33 | exact (World.cell?_of_block (w := v3) (a := ⟨E.b, 3, none⟩) (Below.heap_setCell _ _ _ _ gb3)).trans k33)
    (first
      | (go_at_call 97; (with_reducible refine NM3.out.mono ?_); rintro x v3 ⟨s3, rfl, hd3, hm3, hi3⟩; have k33 := hm3.c3; have z53 := hm3.fz 2; obtain ⟨t53, k53⟩ := hm3.t0; have H3 := Lib.hid hi3; have HD3 := Lib.hid hd3; clear hm3 hi3 hd3))
  generalize v3.setCell ⟨g3, p2.length * 5 + 2, none⟩ (.string s3) = w3 at *
  clear c33 k33 z53 k53 NM3
  have C4 := Lib.hid (bracket_I H3.out HR.out (by have := HQ.out; omega) (by have := HB.out; omega))
  go_wp2_with fail
  (with_reducible refine C4.out.mono ?_)
  rintro x w4 ⟨rfl, h4⟩
  have H4 := Lib.hid h4
  clear C4 h4
  have HF := Lib.hid (In.close HO.out H4.out (by have := HQ.out; omega) (by omega) (fun q c e => R_err q c e (f := fun R => knd (skp R (takeP 1)) (brkP r)) rfl))
  rw [row_eq HD3.out] at HF
  go_wp2
  simp [bodyPost, results, Tryz.results187, go_sem]
  exact HF.out
end
end Go.Proofs.YtpemghcafbedeaaGreatDoor.Rf
end
section
namespace Go.Proofs.YtpemghcafbedeaaGreatDoor.Rf
open Go.RowKit Par
def HasB (r : Nat) : Prop := ∀ (E : Env) (p : List Nd) (k : Int) (a : Nat) (t : ByteArray) (n : Int) (Q B : Nat) (R : Res (List Ast)) (w : World), In E p k a t n (64 - (r : Int)) Q B R w → (Q + 20 * r + 10 ≤ B ∧ Q ≤ 200000) → B ≤ 800000 →
  Calls Tryz.prog 100 #[.pointer (some ⟨E.b, 0, none⟩), .int .i64 (p.length : Int)] w fun x w' => x = .returned (.tuple #[]) ∧ In E p k a t n (64 - (r : Int)) Q (B + 2) (knd R (blockP r)) w'
def HasS (r : Nat) : Prop := ∀ (E : Env) (p : List Nd) (k : Int) (a : Nat) (t : ByteArray) (n : Int) (Q B : Nat) (ks : List Ast) (l : List PT) (w : World), In E p k a t n (64 - (r : Int)) Q B (.ok ks l) w → (Q + 20 * r + 24 ≤ B ∧ Q ≤ 200000) →
  Calls Tryz.prog 146 #[.pointer (some ⟨E.b, 0, none⟩), .int .i64 (p.length : Int)] w fun x w' => x = .returned (.tuple #[]) ∧ In E p k a t n (64 - (r : Int)) Q B (knd (.ok ks l) (stmtP r (blockP r))) w'
section
variable {p : List Nd} {k : Int} {a : Nat} {t : ByteArray} {n : Int} {Q B : Nat} {R : Res (List Ast)} {md : List Nd} {E : Env} {v : Value} {kvs : List Value} {d : Int} {w w' : World}
theorem In.okB {ks : List Ast} {l : List PT} (h : In E p k a t n d Q B (.ok ks l) w) (B' : Nat) : In E p k a t n d Q B' (.ok ks l) w := h
theorem In.c4 {ks : List Ast} {l : List PT} (h : In E p k a t n d Q B (.ok ks l) w) : w.cell? ⟨E.b, 4, none⟩ = some (.int .i64 0) := by
  obtain ⟨v, kvs, md, _, i, _, h⟩ := h
  exact h.rowCells.2.2.2.2
theorem In.c4e {q : Nat} {c : Int} (h : In E p k a t n d Q B (.err q c) w) : w.cell? ⟨E.b, 4, none⟩ = some (.int .i64 c) ∧ c ≠ 0 := by
  obtain ⟨v, kvs, md, _, i, d', _, h1, _, h⟩ := h
  exact ⟨h.rowCells.2.2.2.2, h1⟩
theorem block_more {st : Par Ast} (ht : Takes st) {ks : List Ast} {l : List PT} (hl : l ≠ []) (hy : nxt (.ok ks l) ⟨#[125]⟩ = false) : then' (.ok ks l) (many (blockStep st)) = then' (knd (.ok ks l) st) (many (blockStep st)) := by
  cases l with
  | nil => exact absurd rfl hl
  | cons t l =>
    simp only [nxt, decide_eq_false_iff_not] at hy
    simp only [then', knd, Par.bind]
    have hs : blockStep st ks (t :: l) = match st (t :: l) with | .err p c => .err p c | .ok s l' => .ok (some (ks ++ [s])) l' := by
      simp only [blockStep, Par.bind, isNextP, hy, decide_false, Par.pure]
      cases st (t :: l) <;> rfl
    cases hf : st (t :: l) with
    | err p c => rw [hf] at hs; exact many_err hs
    | ok b l' => rw [hf] at hs; exact many_more (step_block ht) hs
theorem block_done {st : Par Ast} {ks : List Ast} {l : List PT} (hy : nxt (.ok ks l) ⟨#[125]⟩ = true) : then' (.ok ks l) (many (blockStep st)) = .ok ks l := by
  cases l with
  | nil => simp [nxt] at hy
  | cons t l =>
    simp only [nxt, decide_eq_true_eq] at hy
    simp only [then']
    refine many_done ?_
    simp only [blockStep, Par.bind, isNextP, hy, decide_true, Par.pure]
theorem block_eq {r : Nat} {S : Res (List Ast)} (hy : nxt R ⟨#[123]⟩ = true) (hS : S = then' (skp (then' R fun _ => (Par.pure [] : Par (List Ast))) (skipP ⟨#[123]⟩)) (many (blockStep (stmtP r (blockP r))))) :
    (then' R fun ks _ => then' (skp S (expectP ⟨#[125]⟩)) fun ks2 l => Res.ok (ks ++ [Ast.mk 6 (hda R) none0 0 ks2]) l) = knd R (blockP (r + 1)) := by
  subst hS
  cases R with
  | err q c => rfl
  | ok ks l =>
    cases l with
    | nil => simp [nxt] at hy
    | cons t l =>
      simp only [nxt, decide_eq_true_eq] at hy
      have hx : many (blockStep (stmtP r (blockP r))) [] l = many (blockStep (stmtP r (blockP r))) [] l := rfl
      simp only [then', knd, skp, Par.bind, Par.pure, skipP, if_pos hy, hda, blockP, blockOf, enterP]
      rw [if_neg (by omega)]
      cases h1 : many (blockStep (stmtP r (blockP r))) [] l with
      | err q c => simp only [h1]
      | ok x1 l1 =>
        simp only [h1]
        cases h2 : expectP ⟨#[125]⟩ l1 with
        | err q c => simp only [h2]
        | ok x2 l2 => simp only [h2, nodeA]
theorem block_deep (hy : nxt R ⟨#[123]⟩ = true) : knd R (blockP 0) = .err (hda R) 51 := by
  cases R with
  | err q c => simp [nxt] at hy
  | ok ks l =>
    cases l with
    | nil => simp [nxt] at hy
    | cons t l =>
      simp only [nxt, decide_eq_true_eq] at hy
      simp only [knd, then', Par.bind, blockP, blockOf, enterP, if_pos hy, hda, if_true]
theorem blockP_of (r : Nat) : ∃ st, blockP r = blockOf r st := by
  cases r with
  | zero => exact ⟨_, rfl⟩
  | succ r => exact ⟨_, rfl⟩
theorem block_no {r : Nat} (hne : ∀ ks l, R = .ok ks l → l ≠ []) (hy : nxt R ⟨#[123]⟩ = false) : knd R (blockP r) = then' R fun _ => (failP : Par (List Ast)) := by
  cases R with
  | err q c => rfl
  | ok ks l =>
    cases l with
    | nil => exact absurd rfl (hne ks [] rfl)
    | cons t l =>
      simp only [nxt, decide_eq_false_iff_not] at hy
      obtain ⟨st, hst⟩ := blockP_of r
      simp only [hst, knd, then', Par.bind, blockOf, enterP, if_neg hy]
      rfl
theorem nxt_open (s : ByteArray) : nxt (then' R fun _ => (Par.pure [] : Par (List Ast))) s = nxt R s := by
  cases R with
  | err q c => rfl
  | ok ks l => cases l <;> rfl
theorem hda_open : hda (then' R fun _ => (Par.pure [] : Par (List Ast))) = hda R := by
  cases R with
  | err q c => rfl
  | ok ks l => cases l <;> rfl
theorem In.shut {p2 : List Nd} {k2 : Int} {a2 : Nat} {t2 : ByteArray} {n2 : Int} {Q2 B' : Nat} {q : Nat} {c : Int} (ho : Opn p k a t n Q B R p2) (h : In E p2 k2 a2 t2 n2 d Q2 B' (.err q c) w) (hQ : Q ≤ B) (hB : B + 1 ≤ B') (hR : ∀ q' c', R = .err q' c' → q' = q ∧ c' = c) : In E p k a t n d Q B' (.err q c) w := by
  have h' : In E p2 k2 a2 t2 n2 d Q B' (.err q c) w := h
  have := In.close ho h' hQ hB (fun q' c' e => by obtain ⟨rfl, rfl⟩ := hR q' c' e; rfl)
  cases R with
  | err q' c' => obtain ⟨rfl, rfl⟩ := hR q' c' rfl; exact this
  | ok ks l => exact this
set_option maxRecDepth 1000000 in
set_option maxHeartbeats 4000000 in
theorem block_of {r : Nat} (hr : r ≤ 64) (hst : ∀ r', r = r' + 1 → HasS r') : HasB r := by
  intro E p k a t n Q B R w h hQ hB
  have C1 := Lib.hid (kid_I h (by omega) (by omega))
  have HQ := Lib.hid hQ
  have HB := Lib.hid hB
  have HR := Lib.hid hr
  have HST := Lib.hid hst
  have HNE := Lib.hid h.ne
  clear h hQ hB hr hst
  go_enter Tryz.func100, Tryz.ntmps100
  go_wp2_with fail
  (with_reducible refine C1.out.mono ?_)
  rintro x w1 ⟨rfl, v1, kvs1, p2, ho, h1⟩
  have HO := Lib.hid ho
  have C2 := Lib.hid (node_I ho h1 (by have := HQ.out; omega) (by have := HB.out; omega) 6)
  clear C1 ho h1
  go_wp2_with fail
  (with_reducible refine C2.out.mono ?_)
  rintro x w2 ⟨rfl, h2⟩
  have H2 := Lib.hid h2
  have C3 := Lib.hid (is_I h2 ⟨#[123]⟩ (by decide) (by decide))
  rw [nxt_open] at C3
  obtain ⟨b, hb⟩ : ∃ b, nxt R ⟨#[123]⟩ = b := ⟨_, rfl⟩
  rw [hb] at C3
  have HY := Lib.hid hb
  clear C2 h2 hb
  go_wp2_with fail
  (with_reducible refine C3.out.mono ?_)
  rintro x wd ⟨rfl, m, rfl⟩
  have H3 := Lib.hid (H2.out.drewN m)
  generalize w2.drewN m = w3 at *
  clear C3
  cases b with
  | false =>
    have C4 := Lib.hid (fail_I H3.out (by have := HQ.out; omega))
    go_wp2_with fail
    (with_reducible refine C4.out.mono ?_)
    rintro x w4 ⟨rfl, h4⟩
    have HF : Hid (In E p k a t n (64 - (r : Int)) Q (B + 2) (knd R (blockP r)) w4) := Lib.hid (by
      rw [block_no HNE.out HY.out]
      cases R with
      | err q c => exact In.shut HO.out (h4 : In E p2 6 _ none0 0 _ (Q + 1) (B + 1) (.err q c) w4) (by have := HQ.out; omega) (by omega) (fun q' c' e => by cases e; exact ⟨rfl, rfl⟩) |>.mono (Nat.le_refl _) (by omega)
      | ok ks l =>
        cases l with
        | nil => exact absurd rfl (HNE.out ks [] rfl)
        | cons t l => exact In.shut HO.out (h4 : In E p2 6 _ none0 0 _ (Q + 1) (B + 1) (.err t.at' 50) w4) (by have := HQ.out; omega) (by omega) (fun q' c' e => by cases e) |>.mono (Nat.le_refl _) (by omega))
    clear C4 h4
    go_wp2
    simp [bodyPost, results, Tryz.results100, go_sem]
    exact HF.out
  | true =>
    have C4 := Lib.hid (in_I H3.out HR.out (by have := HQ.out; omega) (s := ⟨#[123]⟩) (by decide) (by rw [nxt_open]; exact HY.out))
    go_wp2_with fail
    (with_reducible refine C4.out.mono ?_)
    rintro x w4 ⟨b2, rfl, ht, hf⟩
    clear C4
    cases b2 with
    | false =>
      obtain ⟨rfl, h4⟩ := hf rfl
      rw [hda_open] at h4
      have C5 := Lib.hid (fail_I h4 (by have := HQ.out; omega))
      clear ht hf h4
      go_wp2_with fail
      (with_reducible refine C5.out.mono ?_)
      rintro x w5 ⟨rfl, h5⟩
      have HF : Hid (In E p k a t n (64 - ((0 : Nat) : Int)) Q (B + 2) (knd R (blockP 0)) w5) := Lib.hid (by
        rw [block_deep HY.out]
        have hR : ∀ q' c', R = .err q' c' → q' = hda R ∧ c' = 51 := fun q' c' e => by have := HY.out; rw [e] at this; simp [nxt] at this
        exact In.shut HO.out (h5 : In E p2 6 _ none0 0 _ (Q + 1) (B + 1) (.err (hda R) 51) w5) (by have := HQ.out; omega) (by omega) hR |>.mono (Nat.le_refl _) (by omega))
      clear C5 h5
      go_wp2
      simp [bodyPost, results, Tryz.results100, go_sem]
      exact HF.out
    | true =>
      obtain ⟨r', rfl, h4⟩ := ht rfl
      obtain ⟨i, h63, c1, cz, h5⟩ := h4.inc (s := ⟨#[123]⟩) (by have := HQ.out; omega) (by decide) (by rw [nxt_open]; exact HY.out)
      have H5 := Lib.hid h5
      clear ht hf h4 h5
      go_upto_region 5 with fail
      generalize w4.setCell ⟨E.b, 1, none⟩ (.int .i64 ((i : Int) + 1)) = w5 at *
      clear c1 cz
      go_loopg [] (left (skp (then' R fun _ => (Par.pure [] : Par (List Ast))) (skipP ⟨#[123]⟩))) (fun g wr => ∃ R1 : Res (List Ast), Hid (left R1 ≤ g) ∧ Hid (then' R1 (many (blockStep (stmtP r' (blockP r')))) = then' (skp (then' R fun _ => (Par.pure [] : Par (List Ast))) (skipP ⟨#[123]⟩)) (many (blockStep (stmtP r' (blockP r'))))) ∧ Hid (In E p2 6 (hda R) none0 0 (64 - (r' : Int)) Q (B + 1) R1 wr))
      case atStart => exact ⟨_, Lib.hid (Nat.le_refl _), Lib.hid rfl, H5⟩
      case round =>
        clear H5
        obtain ⟨R1, HG, HE, HL⟩ := hrel
        cases R1 with
        | err q c =>
          obtain ⟨c4, hc⟩ := HL.out.c4e
          have hb : (c == 0) = false := by simpa using hc
          clear hc
          have C7 := Lib.hid (take_I HL.out (by have := HQ.out; omega) ⟨#[125]⟩ (by decide) (by decide))
          go_wp2_with fail
          (with_reducible refine C7.out.mono ?_)
          rintro x w7 ⟨rfl, h7⟩
          obtain ⟨d', hw, l63, u63, c2, cz, h8⟩ := h7.deep (by have := HR.out; omega)
          have HF : Hid (In E p k a t n (64 - ((r' + 1 : Nat) : Int)) Q (B + 2) (knd R (blockP (r' + 1))) (w7.setCell ⟨E.b, 2, none⟩ (.int .i64 (d' - 1)))) := Lib.hid (by
            have := In.close HO.out h8 (by have := HQ.out; omega) (Nat.le_refl _) (fun q c e => by have := HY.out; rw [e] at this; simp [nxt] at this)
            rw [block_eq HY.out (show Res.err q c = _ from HE.out)] at this
            exact this.mono (Nat.le_refl _) (by omega))
          clear C7 h7 h8
          go_wp2
          simp [bodyPost, results, Tryz.results100, go_sem]
          exact HF.out
        | ok ks l =>
          have c4 := HL.out.c4
          have C6 := Lib.hid (is_I HL.out ⟨#[125]⟩ (by decide) (by decide))
          obtain ⟨b6, hb6⟩ := HL.out.look ⟨#[125]⟩
          rw [hb6] at C6
          have HY6 := Lib.hid hb6
          clear hb6
          go_wp2_with fail
          (with_reducible refine C6.out.mono ?_)
          rintro x wd ⟨rfl, m6, rfl⟩
          have HL6 := Lib.hid (HL.out.drewN m6)
          clear C6
          cases b6 with
          | true =>
            have C7 := Lib.hid (take_I HL6.out (by have := HQ.out; omega) ⟨#[125]⟩ (by decide) (by decide))
            go_wp2_with fail
            (with_reducible refine C7.out.mono ?_)
            rintro x w7 ⟨rfl, h7⟩
            obtain ⟨d', hw, l63, u63, c2, cz, h8⟩ := h7.deep (by have := HR.out; omega)
            have HF : Hid (In E p k a t n (64 - ((r' + 1 : Nat) : Int)) Q (B + 2) (knd R (blockP (r' + 1))) (w7.setCell ⟨E.b, 2, none⟩ (.int .i64 (d' - 1)))) := Lib.hid (by
              have := In.close HO.out h8 (by have := HQ.out; omega) (Nat.le_refl _) (fun q c e => by have := HY.out; rw [e] at this; simp [nxt] at this)
              rw [block_eq HY.out ((block_done HY6.out).symm.trans HE.out)] at this
              exact this.mono (Nat.le_refl _) (by omega))
            clear C7 h7 h8
            go_wp2
            simp [bodyPost, results, Tryz.results100, go_sem]
            exact HF.out
          | false =>
            have C7 := Lib.hid (HST.out r' rfl _ _ _ _ _ _ _ _ _ _ _ HL6.out (by have := HQ.out; omega))
            go_wp2_with fail
            (with_reducible refine C7.out.mono ?_)
            rintro x w7 ⟨rfl, h7⟩
            have H7 := Lib.hid h7
            clear C7 h7
            have hlt : left (knd (.ok ks l) (stmtP r' (blockP r'))) < l.length := by
              simp only [knd, then', Par.bind]
              cases hs : stmtP r' (blockP r') l with
              | err q c => have := HL.out.ne ks l rfl; cases l with | nil => exact absurd rfl this | cons t l => simp [left]
              | ok x l' => exact takes_stmt r' (less_block r') l x l' hs
            have HLT : Hid (left (knd (.ok ks l) (stmtP r' (blockP r'))) < gk) := Lib.hid (by have := HG.out; simp only [left] at this; omega)
            have HE7 := Lib.hid ((block_more (takes_stmt r' (less_block r')) (HL.out.ne ks l rfl) HY6.out).symm.trans HE.out)
            clear hlt
            go_wp2_with fail
            go_roundg (left (knd (.ok ks l) (stmtP r' (blockP r'))))
            case rel => exact ⟨_, Lib.hid (Nat.le_refl _), HE7, H7⟩
            case measure => exact HLT.out
end
end Go.Proofs.YtpemghcafbedeaaGreatDoor.Rf
end
section
namespace Go.Proofs.YtpemghcafbedeaaGreatDoor.Rf
open Go.RowKit Par
section
variable {p : List Nd} {k : Int} {a : Nat} {t : ByteArray} {n : Int} {Q B : Nat} {R : Res (List Ast)} {md : List Nd} {E : Env} {v : Value} {kvs : List Value} {d : Int} {w w' : World}
set_option maxRecDepth 1000000 in
set_option maxHeartbeats 4000000 in
theorem branch_I {r : Nat} {l : List PT} (hbk : HasB r) (h : In E p 14 a none0 0 (64 - (r : Int)) Q B (.ok [] l) w) (hr : r ≤ 64) (hQ : Q + 20 * r + 10 ≤ B ∧ Q ≤ 200000) (hB : B ≤ 700000) : Calls Tryz.prog 190 #[.pointer (some ⟨E.b, 0, none⟩), .int .i64 (p.length : Int)] w fun x w' => x = .returned (.tuple #[]) ∧ ∃ s' n' R2, In E p 14 a s' n' (64 - (r : Int)) Q (B + 8) R2 w' ∧ then' R2 (fun ks2 l1 => Res.ok (Ast.mk 14 a s' n' ks2) l1) = ifP r (blockP r) a l := by
  have H0 := Lib.hid h
  have HBK := Lib.hid hbk
  have HQ := Lib.hid hQ
  have HB := Lib.hid hB
  have HR := Lib.hid hr
  clear h hbk hQ hB hr
  go_enter Tryz.func190, Tryz.ntmps190
  have C1 := Lib.hid (expr_I H0.out HR.out (by have := HQ.out; omega) (by have := HB.out; omega))
  go_wp2_with fail
  (with_reducible refine C1.out.mono ?_)
  rintro x w1 ⟨rfl, h1⟩
  have H1 := Lib.hid h1
  clear C1 h1
  have C2 := Lib.hid (is_I H1.out ⟨#[61, 61]⟩ (by decide) (by decide))
  obtain ⟨b2, y2⟩ := H1.out.look ⟨#[61, 61]⟩
  rw [y2] at C2
  have HY2 := Lib.hid y2
  have HN2 := Lib.hid H1.out.ne
  clear y2
  go_wp2_with fail
  (with_reducible refine C2.out.mono ?_)
  rintro x wd ⟨rfl, m, rfl⟩
  have H2 := Lib.hid (H1.out.drewN m)
  generalize w1.drewN m = w2 at *
  clear C2
  cases b2 with
  | true =>
    obtain ⟨g3, len3, cap3, hn3, _, hs3, _⟩ := H2.out.nod
    have c33 := hn3.c3
    have z33 := hn3.fz 3
    obtain ⟨o3, f3⟩ := hn3.n0
    have b03 : (0 : Int) ≤ (p.length : Int) := by omega
    have b13 : (p.length : Int) < (len3 : Int) := by have := hn3.lt; omega
    have H3 := Lib.hid (hs3 1)
    clear hn3 hs3
    go_upto_region 3 with fail
    generalize w2.setCell ⟨g3, p.length * 5 + 3, none⟩ (.int .i64 1) = w3 at *
    clear c33 z33 f3
    obtain ⟨i4, h634, c14, cz4, h4⟩ := (H3.out.mono (Nat.le_succ _) (Nat.le_refl _)).inc (by have := HQ.out; omega) (by decide) HY2.out
    have H4 := Lib.hid h4
    clear h4
    go_upto_region 5 with fail
    generalize w3.setCell ⟨E.b, 1, none⟩ (.int .i64 ((i4 : Int) + 1)) = w4 at *
    clear c14 cz4
    have C5 := Lib.hid (expr_I H4.out HR.out (by have := HQ.out; omega) (by have := HB.out; omega))
    go_wp2_with fail
    (with_reducible refine C5.out.mono ?_)
    rintro x w5 ⟨rfl, h5⟩
    have H5 := Lib.hid h5
    clear C5 h5
    have C6 := Lib.hid (HBK.out _ _ _ _ _ _ _ _ _ _ H5.out (by have := HQ.out; omega) (by have := HB.out; omega))
    go_wp2_with fail
    (with_reducible refine C6.out.mono ?_)
    rintro x w6 ⟨rfl, h6⟩
    have H6 := Lib.hid h6
    clear C6 h6
    have C7 := Lib.hid (is_I H6.out ⟨#[101, 108, 115, 101]⟩ (by decide) (by decide))
    obtain ⟨b7, y7⟩ := H6.out.look ⟨#[101, 108, 115, 101]⟩
    rw [y7] at C7
    have HY7 := Lib.hid y7
    have HN7 := Lib.hid H6.out.ne
    clear y7
    go_wp2_with fail
    (with_reducible refine C7.out.mono ?_)
    rintro x wd ⟨rfl, m, rfl⟩
    have H7 := Lib.hid (H6.out.drewN m)
    generalize w6.drewN m = w7 at *
    clear C7
    cases b7 with
    | true =>
      obtain ⟨i8, h638, c18, cz8, h8⟩ := (H7.out.mono (Nat.le_succ _) (Nat.le_refl _)).inc (by have := HQ.out; omega) (by decide) HY7.out
      have H8 := Lib.hid h8
      clear h8
      go_upto_region 9 with fail
      generalize w7.setCell ⟨E.b, 1, none⟩ (.int .i64 ((i8 : Int) + 1)) = w8 at *
      clear c18 cz8
      have C9 := Lib.hid (HBK.out _ _ _ _ _ _ _ _ _ _ H8.out (by have := HQ.out; omega) (by have := HB.out; omega))
      go_wp2_with fail
      (with_reducible refine C9.out.mono ?_)
      rintro x w9 ⟨rfl, h9⟩
      have H9 := Lib.hid h9
      clear C9 h9
      have HF : Hid (∃ s' n' R2, In E p 14 a s' n' (64 - (r : Int)) Q (B + 8) R2 w9 ∧ then' R2 (fun ks2 l1 => Res.ok (Ast.mk 14 a s' n' ks2) l1) = ifP r (blockP r) a l) := Lib.hid ⟨_, _, _, H9.out.mono (Nat.le_refl _) (by omega), eq7yy HY2.out HY7.out⟩
      go_wp2
      simp [bodyPost, results, Tryz.results190, go_sem]
      exact HF.out
    | false =>
      have HF : Hid (∃ s' n' R2, In E p 14 a s' n' (64 - (r : Int)) Q (B + 8) R2 w7 ∧ then' R2 (fun ks2 l1 => Res.ok (Ast.mk 14 a s' n' ks2) l1) = ifP r (blockP r) a l) := Lib.hid ⟨_, _, _, H7.out.mono (Nat.le_refl _) (by omega), eq7yn HY2.out HY7.out HN7.out⟩
      go_wp2
      simp [bodyPost, results, Tryz.results190, go_sem]
      exact HF.out
  | false =>
    have C10 := Lib.hid (take_I H2.out (by have := HQ.out; omega) ⟨#[60]⟩ (by decide) (by decide))
    go_wp2_with fail
    (with_reducible refine C10.out.mono ?_)
    rintro x w10 ⟨rfl, h10⟩
    have H10 := Lib.hid h10
    clear C10 h10
    have C11 := Lib.hid (expr_I H10.out HR.out (by have := HQ.out; omega) (by have := HB.out; omega))
    go_wp2_with fail
    (with_reducible refine C11.out.mono ?_)
    rintro x w11 ⟨rfl, h11⟩
    have H11 := Lib.hid h11
    clear C11 h11
    have C12 := Lib.hid (HBK.out _ _ _ _ _ _ _ _ _ _ H11.out (by have := HQ.out; omega) (by have := HB.out; omega))
    go_wp2_with fail
    (with_reducible refine C12.out.mono ?_)
    rintro x w12 ⟨rfl, h12⟩
    have H12 := Lib.hid h12
    clear C12 h12
    have C13 := Lib.hid (is_I H12.out ⟨#[101, 108, 115, 101]⟩ (by decide) (by decide))
    obtain ⟨b13, y13⟩ := H12.out.look ⟨#[101, 108, 115, 101]⟩
    rw [y13] at C13
    have HY13 := Lib.hid y13
    have HN13 := Lib.hid H12.out.ne
    clear y13
    go_wp2_with fail
    (with_reducible refine C13.out.mono ?_)
    rintro x wd ⟨rfl, m, rfl⟩
    have H13 := Lib.hid (H12.out.drewN m)
    generalize w12.drewN m = w13 at *
    clear C13
    cases b13 with
    | true =>
      obtain ⟨i14, h6314, c114, cz14, h14⟩ := (H13.out.mono (Nat.le_succ _) (Nat.le_refl _)).inc (by have := HQ.out; omega) (by decide) HY13.out
      have H14 := Lib.hid h14
      clear h14
      go_upto_region 9 with fail
      generalize w13.setCell ⟨E.b, 1, none⟩ (.int .i64 ((i14 : Int) + 1)) = w14 at *
      clear c114 cz14
      have C15 := Lib.hid (HBK.out _ _ _ _ _ _ _ _ _ _ H14.out (by have := HQ.out; omega) (by have := HB.out; omega))
      go_wp2_with fail
      (with_reducible refine C15.out.mono ?_)
      rintro x w15 ⟨rfl, h15⟩
      have H15 := Lib.hid h15
      clear C15 h15
      have HF : Hid (∃ s' n' R2, In E p 14 a s' n' (64 - (r : Int)) Q (B + 8) R2 w15 ∧ then' R2 (fun ks2 l1 => Res.ok (Ast.mk 14 a s' n' ks2) l1) = ifP r (blockP r) a l) := Lib.hid ⟨_, _, _, H15.out.mono (Nat.le_refl _) (by omega), eq7ny HY2.out HN2.out HY13.out⟩
      go_wp2
      simp [bodyPost, results, Tryz.results190, go_sem]
      exact HF.out
    | false =>
      have HF : Hid (∃ s' n' R2, In E p 14 a s' n' (64 - (r : Int)) Q (B + 8) R2 w13 ∧ then' R2 (fun ks2 l1 => Res.ok (Ast.mk 14 a s' n' ks2) l1) = ifP r (blockP r) a l) := Lib.hid ⟨_, _, _, H13.out.mono (Nat.le_refl _) (by omega), eq7nn HY2.out HN2.out HY13.out HN13.out⟩
      go_wp2
      simp [bodyPost, results, Tryz.results190, go_sem]
      exact HF.out
set_option maxRecDepth 1000000 in
set_option maxHeartbeats 4000000 in
theorem loop_I {r : Nat} {l : List PT} (hbk : HasB r) (h : In E p 15 a none0 0 (64 - (r : Int)) Q B (.ok [] l) w) (hr : r ≤ 64) (hQ : Q + 20 * r + 10 ≤ B ∧ Q ≤ 200000) (hB : B ≤ 700000) : Calls Tryz.prog 191 #[.pointer (some ⟨E.b, 0, none⟩), .int .i64 (p.length : Int)] w fun x w' => x = .returned (.tuple #[]) ∧ ∃ s' n' R2, In E p 15 a s' n' (64 - (r : Int)) Q (B + 8) R2 w' ∧ then' R2 (fun ks2 l1 => Res.ok (Ast.mk 15 a s' n' ks2) l1) = forP (blockP r) a l := by
  have H0 := Lib.hid h
  have HBK := Lib.hid hbk
  have HQ := Lib.hid hQ
  have HB := Lib.hid hB
  have HR := Lib.hid hr
  clear h hbk hQ hB hr
  go_enter Tryz.func191, Tryz.ntmps191
  obtain ⟨g1, len1, cap1, hn1, hc1⟩ := name_I H0.out.drew (by have := HQ.out; omega)
  have c31 := hn1.c3
  have b01 : (0 : Int) ≤ (p.length : Int) := by omega
  have b11 : (p.length : Int) < (len1 : Int) := by have := hn1.lt; omega
  have gb1 := hn1.gb
  have NM1 := Lib.hid hc1
  clear hn1 hc1
  go_wp2_with fail
  go_region_held3 (fun w' => w'.cell? ⟨E.b, 3, none⟩ = some (.slice (some ⟨g1, 0, none⟩) len1 cap1)) (first | exact c31 | exact k31 | exact (World.cell?_of_block (w := v1) (a := ⟨E.b, 3, none⟩) (Below.heap_setCell _ _ _ _ gb1)).trans k31)
    (first
      | (go_at_call 97; (with_reducible refine NM1.out.mono ?_); rintro x v1 ⟨s1, rfl, hd1, hm1, hi1⟩; have k31 := hm1.c3; have z51 := hm1.fz 2; obtain ⟨t51, k51⟩ := hm1.t0; have H1 := Lib.hid hi1; have HD1 := Lib.hid hd1; clear hm1 hi1 hd1))
  generalize v1.setCell ⟨g1, p.length * 5 + 2, none⟩ (.string s1) = w1 at *
  clear c31 k31 z51 k51 NM1
  have C2 := Lib.hid (take_I H1.out (by have := HQ.out; omega) ⟨#[61]⟩ (by decide) (by decide))
  go_wp2_with fail
  (with_reducible refine C2.out.mono ?_)
  rintro x w2 ⟨rfl, h2⟩
  have H2 := Lib.hid h2
  clear C2 h2
  have C3 := Lib.hid (number_I H2.out (by have := HQ.out; omega) (by have := HB.out; omega))
  go_wp2_with fail
  (with_reducible refine C3.out.mono ?_)
  rintro x w3 ⟨rfl, h3⟩
  have H3 := Lib.hid h3
  clear C3 h3
  have C4 := Lib.hid (take_I H3.out (by have := HQ.out; omega) ⟨#[116, 111]⟩ (by decide) (by decide))
  go_wp2_with fail
  (with_reducible refine C4.out.mono ?_)
  rintro x w4 ⟨rfl, h4⟩
  have H4 := Lib.hid h4
  clear C4 h4
  have C5 := Lib.hid (number_I H4.out (by have := HQ.out; omega) (by have := HB.out; omega))
  go_wp2_with fail
  (with_reducible refine C5.out.mono ?_)
  rintro x w5 ⟨rfl, h5⟩
  have H5 := Lib.hid h5
  clear C5 h5
  have C6 := Lib.hid (HBK.out _ _ _ _ _ _ _ _ _ _ H5.out (by have := HQ.out; omega) (by have := HB.out; omega))
  go_wp2_with fail
  (with_reducible refine C6.out.mono ?_)
  rintro x w6 ⟨rfl, h6⟩
  have H6 := Lib.hid h6
  clear C6 h6
  have HF : Hid (∃ s' n' R2, In E p 15 a s' n' (64 - (r : Int)) Q (B + 8) R2 w6 ∧ then' R2 (fun ks2 l1 => Res.ok (Ast.mk 15 a s' n' ks2) l1) = forP (blockP r) a l) := Lib.hid ⟨_, _, _, H6.out.mono (Nat.le_refl _) (by omega), eq8 HD1.out⟩
  go_wp2
  simp [bodyPost, results, Tryz.results191, go_sem]
  exact HF.out
end
end Go.Proofs.YtpemghcafbedeaaGreatDoor.Rf
end
