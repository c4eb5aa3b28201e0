/- Contracts on the way to the laws of layer 5: DiagH, TreeC, TreeD, TreeE. -/
import Derived.Test.YthdioipfdbbmmaaGreatDoorKaa
import Derived.Test.YthdioipfdbbmmaaGreatDoorKai
import Derived.Test.YthdioipfdbbmmaaGreatDoorKaj
import Derived.Test.YthdioipfdbbmmaaGreatDoorKak
import Derived.MapKept
import Derived.Orders
set_option linter.all false
set_option maxRecDepth 1000000
set_option maxHeartbeats 16000000
namespace Go.Proofs.YthdioipfdbbmmaaGreatDoor
section
open Go.RowKit
abbrev ET (w : World) : Prop := w.cell? ⟨0, 0, none⟩ = some (.iface 229 (.agg #[.pointer (some ⟨5, 25, none⟩)]))
theorem ET.below {w W : World} (h : ET w) (hb : Below w.heap.size w W) : ET W := by
 show W.cell? ⟨0, 0, none⟩ = _
 rw [hb.cell (p := ⟨0, 0, none⟩) (cell_lt h)]; exact h
structure ErrAt (W : World) (B : Nat) (x l c n : Int) : Prop where
 lt : B < W.heap.size
 c0 : W.cell? ⟨B, 0, none⟩ = some (.int .i64 x)
 c1 : W.cell? ⟨B, 1, none⟩ = some (.int .i64 l)
 c2 : W.cell? ⟨B, 2, none⟩ = some (.int .i64 c)
 c3 : W.cell? ⟨B, 3, none⟩ = some (.int .i64 n)
theorem ErrAt.on {W W' : World} {B : Nat} {x l c n : Int} (h : ErrAt W B x l c n) (hb : Below W.heap.size W W') : ErrAt W' B x l c n where
 lt := Nat.lt_of_lt_of_le h.lt hb.size
 c0 := by rw [hb.cell (p := ⟨B, 0, none⟩) h.lt]; exact h.c0
 c1 := by rw [hb.cell (p := ⟨B, 1, none⟩) h.lt]; exact h.c1
 c2 := by rw [hb.cell (p := ⟨B, 2, none⟩) h.lt]; exact h.c2
 c3 := by rw [hb.cell (p := ⟨B, 3, none⟩) h.lt]; exact h.c3
theorem NewW.at_ {w W : World} {x l c n : Int} (h : NewW w W x l c n) : ErrAt W (w.heap.size + 1) x l c n := ⟨h.size, h.c0, h.c1, h.c2, h.c3⟩
end
namespace Tr
open Go.RowKit
structure NV (W : World) (tb mb kb : Nat) (R : Rule) : Prop where
 text : W.cell? ⟨tb, 0, none⟩ = some (.func (.func (if R.named then 189 else 187)) #[] #[])
 most : W.cell? ⟨mb, 0, none⟩ = some (.int .i64 R.most)
 kids : ∃ q l c, W.cell? ⟨kb, 0, none⟩ = some (.slice q l c) ∧ PV W q l c R.parts
theorem NV.on {W V : World} {tb mb kb : Nat} {R : Rule} (h : NV W tb mb kb R) (hb : Aside W V) : NV V tb mb kb R where
 text := hb _ _ h.text
 most := hb _ _ h.most
 kids := by
  obtain ⟨q, l, c, h1, h2⟩ := h.kids
  exact ⟨q, l, c, hb _ _ h1, h2.on hb⟩
def closV (tb mb kb : Nat) : Value := .func (.func 236) #[] #[.pointer (some ⟨tb, 0, none⟩), .pointer (some ⟨mb, 0, none⟩), .pointer (some ⟨kb, 0, none⟩)]
theorem node_at (w : World) (q : Option Addr) (l c : Nat) (R : Rule) (fT : Nat) (most : Int) (hT : fT = if R.named then 189 else 187) (hM : most = R.most) (h : PV w q l c R.parts) :
 Calls Tryz.prog 186 #[.func (.func fT) #[] #[], .int .i64 most, .slice q l c] w fun e w' => (∃ tb mb kb, e = .returned (closV tb mb kb) ∧ NV w' tb mb kb R) ∧ Below w.heap.size w w' := by
 subst hT hM
 have H := lh h
 clear h
 generalize hf : (if R.named then 189 else 187) = fT at *
 have HF := lh hf
 clear hf
 go_enter Tryz.func186, Tryz.ntmps186
 go_wp2
 go_ret
 have hB := ((one_below w (.cells #[.func (.func fT) #[] #[]] 161)).trans ((one_below (w.alloc (.cells #[.func (.func fT) #[] #[]] 161)) (.cells #[.int .i64 R.most] 2)).mono (by simp))).trans ((one_below ((w.alloc (.cells #[.func (.func fT) #[] #[]] 161)).alloc (.cells #[.int .i64 R.most] 2)) (.cells #[.slice q l c] 287)).mono (by simp; omega))
 refine ⟨⟨_, _, _, rfl, ⟨?_, ?_, ⟨q, l, c, ?_, H.out.on (Aside.of hB)⟩⟩⟩, hB⟩
 · rw [HF.out, World.cell?_alloc_past _ _ _ (by simp; omega), World.cell?_alloc_past _ _ _ (by simp)]; simp
 · rw [World.cell?_alloc_past _ _ _ (by simp)]; exact World.cell?_alloc_at _ _ _ _ (by simp)
 · exact World.cell?_alloc_at _ _ _ _ (by simp)
theorem rule_at (w : World) (tb mb kb : Nat) (R : Rule) (nd : Nd) (kv : Value) (p : Option Addr) (n c2 : Nat) (ks : List Int) (h : NV w tb mb kb R) (hk : BV w p n c2 ks) (hn : n ≤ 70000) (hs : nd.text.size ≤ 70000) (hR : R.parts.length ≤ 8 ∧ ∀ x ∈ R.parts, x.least ≤ 1 ∧ x.most ≤ 9223372036854775807)
 (kp : Option Addr) (kl kc : Nat) (hkv : kv = .slice kp kl kc) :
 Calls Tryz.prog 236 #[.agg #[.int .u8 nd.kind, .int .i64 nd.at', .string nd.text, .int .i64 nd.n, kv], .slice p n c2, .pointer (some ⟨tb, 0, none⟩), .pointer (some ⟨mb, 0, none⟩), .pointer (some ⟨kb, 0, none⟩)] w
  fun e w' => e = .returned (.bool (fitsRule R nd ks)) ∧ Below w.heap.size w w' := by
 subst hkv
 obtain ⟨q, l, c, hkb, hpv⟩ := h.kids
 have htb := h.text
 have hmb := h.most
 have l1 : tb < w.heap.size := World.block_lt_of_cell? w _ htb
 have l2 : mb < w.heap.size := World.block_lt_of_cell? w _ hmb
 have l3 : kb < w.heap.size := World.block_lt_of_cell? w _ hkb
 have HPV := lh hpv
 have HBV := lh hk
 have HR := lh hR
 have HS := lh hs
 have HPL := lh hpv.len_eq
 have B0 := lh (one_below w (.cells #[.int .u8 nd.kind, .int .i64 nd.at', .string nd.text, .int .i64 nd.n, .slice kp kl kc] 54))
 clear h hpv hk hR hs
 obtain ⟨named, most, parts⟩ := R
 simp only at hmb htb
 have fin : ∀ W, Hid (Below (w.heap.size + 1) (w.alloc (.cells #[.int .u8 nd.kind, .int .i64 nd.at', .string nd.text, .int .i64 nd.n, .slice kp kl kc] 54)) W) → Hid (Below w.heap.size w W) := fun W hW => lh (B0.out.trans (hW.out.mono (by omega)))
 have FIN := lh fin
 clear fin
 cases named with
 | true =>
  simp only [if_true] at htb
  have HT := lh (isName_at (w.alloc (.cells #[.int .u8 nd.kind, .int .i64 nd.at', .string nd.text, .int .i64 nd.n, .slice kp kl kc] 54)) nd.text HS.out)
  have hfr : ∀ t : Bool, namesF (bytesI nd.text) = t → fitsRule ⟨true, most, parts⟩ nd ks = (t && (decide (0 ≤ nd.n) && (decide (nd.n ≤ most) && inTurnP parts ks))) := fun t ht => by rw [← ht]; rfl
  have HFR := lh hfr
  clear hfr
  generalize namesF (bytesI nd.text) = t at *
  go_enter Tryz.func236, Tryz.ntmps236
  go_wp2_with fail
  (with_reducible refine HT.out.mono ?_)
  rintro e W1 ⟨rfl, hb1⟩
  have B1 : Hid (Below (w.heap.size + 1) (w.alloc (.cells #[.int .u8 nd.kind, .int .i64 nd.at', .string nd.text, .int .i64 nd.n, .slice kp kl kc] 54)) W1) := lh (by simpa using hb1)
  have n3 : W1.cell? ⟨w.heap.size, 3, none⟩ = some (.int .i64 nd.n) := by rw [B1.out.cell (by simp)]; simp
  have m0 : W1.cell? ⟨mb, 0, none⟩ = some (.int .i64 most) := by rw [B1.out.cell (by simp; omega), World.cell?_alloc_past _ _ _ l2]; exact hmb
  have k0 : W1.cell? ⟨kb, 0, none⟩ = some (.slice q l c) := by rw [B1.out.cell (by simp; omega), World.cell?_alloc_past _ _ _ l3]; exact hkb
  have BW := FIN.out W1 B1
  have HIT := lh (inTurn_at W1 q l c parts p n c2 ks (HPV.out.on (Aside.of BW.out)) (HBV.out.on (Aside.of BW.out)) (by rw [← HPL.out]; exact HR.out.1) hn HR.out.2)
  clear hb1 HT htb hmb hkb
  cases t with
  | false =>
   go_wp2
   go_ret
   exact ⟨retB (by rw [HFR.out false rfl]; rfl), BW.out⟩
  | true =>
   by_cases h0 : 0 ≤ nd.n
   · have d0 : decide (0 ≤ nd.n) = true := by simpa using h0
     by_cases h1 : nd.n ≤ most
     · have d1 : decide (nd.n ≤ most) = true := by simpa using h1
       go_wp2_with fail
       (with_reducible refine HIT.out.mono ?_)
       rintro e W2 ⟨rfl, hb2⟩
       have BZ := lh (BW.out.trans (hb2.mono BW.out.size))
       clear hb2
       go_wp2
       go_ret
       exact ⟨retB (by rw [HFR.out true rfl, d0, d1]; simp), BZ.out⟩
     · have d1 : decide (nd.n ≤ most) = false := by simpa using h1
       go_wp2
       go_ret
       exact ⟨retB (by rw [HFR.out true rfl, d0, d1]; rfl), BW.out⟩
   · have d0 : decide (0 ≤ nd.n) = false := by simpa using h0
     go_wp2
     go_ret
     exact ⟨retB (by rw [HFR.out true rfl, d0]; rfl), BW.out⟩
 | false =>
  simp only [Bool.false_eq_true, if_false] at htb
  have HT := lh (show Calls Tryz.prog 187 #[.string nd.text] (w.alloc (.cells #[.int .u8 nd.kind, .int .i64 nd.at', .string nd.text, .int .i64 nd.n, .slice kp kl kc] 54)) fun e w' => e = .returned (.bool (decide (nd.text.size = 0))) ∧ Below (w.alloc (.cells #[.int .u8 nd.kind, .int .i64 nd.at', .string nd.text, .int .i64 nd.n, .slice kp kl kc] 54)).heap.size (w.alloc (.cells #[.int .u8 nd.kind, .int .i64 nd.at', .string nd.text, .int .i64 nd.n, .slice kp kl kc] 54)) w' from (isEmpty_at nd.text _).mono fun _ _ ⟨h1, h2⟩ => ⟨h1, by rw [h2]; exact Below.refl _ _⟩)
  have hfr : ∀ t : Bool, decide (nd.text.size = 0) = t → fitsRule ⟨false, most, parts⟩ nd ks = (t && (decide (0 ≤ nd.n) && (decide (nd.n ≤ most) && inTurnP parts ks))) := fun t ht => by rw [← ht]; rfl
  have HFR := lh hfr
  clear hfr
  generalize decide (nd.text.size = 0) = t at *
  go_enter Tryz.func236, Tryz.ntmps236
  go_wp2_with fail
  (with_reducible refine HT.out.mono ?_)
  rintro e W1 ⟨rfl, hb1⟩
  have B1 : Hid (Below (w.heap.size + 1) (w.alloc (.cells #[.int .u8 nd.kind, .int .i64 nd.at', .string nd.text, .int .i64 nd.n, .slice kp kl kc] 54)) W1) := lh (by simpa using hb1)
  have n3 : W1.cell? ⟨w.heap.size, 3, none⟩ = some (.int .i64 nd.n) := by rw [B1.out.cell (by simp)]; simp
  have m0 : W1.cell? ⟨mb, 0, none⟩ = some (.int .i64 most) := by rw [B1.out.cell (by simp; omega), World.cell?_alloc_past _ _ _ l2]; exact hmb
  have k0 : W1.cell? ⟨kb, 0, none⟩ = some (.slice q l c) := by rw [B1.out.cell (by simp; omega), World.cell?_alloc_past _ _ _ l3]; exact hkb
  have BW := FIN.out W1 B1
  have HIT := lh (inTurn_at W1 q l c parts p n c2 ks (HPV.out.on (Aside.of BW.out)) (HBV.out.on (Aside.of BW.out)) (by rw [← HPL.out]; exact HR.out.1) hn HR.out.2)
  clear hb1 HT htb hmb hkb
  cases t with
  | false =>
   go_wp2
   go_ret
   exact ⟨retB (by rw [HFR.out false rfl]; rfl), BW.out⟩
  | true =>
   by_cases h0 : 0 ≤ nd.n
   · have d0 : decide (0 ≤ nd.n) = true := by simpa using h0
     by_cases h1 : nd.n ≤ most
     · have d1 : decide (nd.n ≤ most) = true := by simpa using h1
       go_wp2_with fail
       (with_reducible refine HIT.out.mono ?_)
       rintro e W2 ⟨rfl, hb2⟩
       have BZ := lh (BW.out.trans (hb2.mono BW.out.size))
       clear hb2
       go_wp2
       go_ret
       exact ⟨retB (by rw [HFR.out true rfl, d0, d1]; simp), BZ.out⟩
     · have d1 : decide (nd.n ≤ most) = false := by simpa using h1
       go_wp2
       go_ret
       exact ⟨retB (by rw [HFR.out true rfl, d0, d1]; rfl), BW.out⟩
   · have d0 : decide (0 ≤ nd.n) = false := by simpa using h0
     go_wp2
     go_ret
     exact ⟨retB (by rw [HFR.out true rfl, d0]; rfl), BW.out⟩
end Tr
namespace Tr
open Go.RowKit Go.MapKept
theorem insert_at (W : World) (r n : Nat) (es : Array MapEntry) (k : Int) (v : Value) (hb : W.heap[r]? = some (.map es n)) (hks : ∀ x ∈ es.toList, IsKey (.int .u8) x.key) (hno : ∀ x ∈ es.toList, x.key ≠ .int .u8 k) :
 ∃ V, (Instr.mapUpdate 187 (.map (some r)) (.int .u8 k) v).run Tryz.prog W = .ok () V ∧ V.heap[r]? = some (.map (es.push { key := .int .u8 k, val := v, born := n }) (n + 1)) ∧ Aside W V ∧ (∀ B, B ≤ r → Below B W V) := by
 have hf : Instr.findNow (.int .u8) (.int .u8 k) es.toList 0 = some none := by
  rcases findNow_spec (d := .int .u8) (k := .int .u8 k) (by simp [IsKey]) es.toList 0 hks with ⟨h1, _⟩ | ⟨j, e, _, h2, h3⟩
  · exact h1
  · exact absurd h3 (hno e (List.mem_of_getElem? h2))
 have hck : (Instr.checkKey false 10000 5 (.int .u8 k)).run Tryz.prog W = .ok () W := run_checkKey Tryz.underlying5 (by simp [IsKey]) false 9999
 have hr : r < W.heap.size := by
  by_cases h : r < W.heap.size
  · exact h
  · rw [Array.getElem?_eq_none (by omega)] at hb; simp at hb
 have hother : ∀ (o : Obj) b, b ≠ r → ({ W with heap := W.heap.setIfInBounds r o } : World).heap[b]? = W.heap[b]? := fun o b hne => by
  show (W.heap.setIfInBounds r _)[b]? = _
  rw [Array.getElem?_setIfInBounds_ne (fun e => hne e.symm)]
 refine ⟨{ W with heap := W.heap.setIfInBounds r (.map (es.push { key := .int .u8 k, val := v, born := n }) (n + 1)) }, ?_, ?_, ?_, ?_⟩
 · simp only [Instr.mapUpdate, Sem.run_bind, run_underlying Tryz.underlying187, Result.andThen, Go.MapKept.run_getObj_map hb, hck, run_findKey (P := Tryz.prog) Tryz.underlying5 hf, run_setObj_map _ hb]
 · show (W.heap.setIfInBounds r _)[r]? = _
   rw [Array.getElem?_setIfInBounds_self, if_pos hr]
 · intro p u hp
   have hne : p.block ≠ r := by
    intro e
    simp [World.cell?, e, hb] at hp
   rw [World.cell?_of_block (w := W) (hother _ p.block hne)]
   exact hp
 · intro B hB
   exact ⟨rfl, rfl, rfl, by show W.heap.size ≤ (W.heap.setIfInBounds r _).size; simp, fun b hb => hother _ b (by omega)⟩
theorem known_no (W : World) (r n : Nat) (es : Array MapEntry) (k : Int) (hb : W.heap[r]? = some (.map es n)) (hks : ∀ x ∈ es.toList, IsKey (.int .u8) x.key) (hno : ∀ x ∈ es.toList, x.key ≠ .int .u8 k) :
 (Instr.lookup 187 (.map (some r)) (.int .u8 k) true).run Tryz.prog W = .ok (.tuple #[.nilFunc, .bool false]) W := by
 have hf : Instr.findNow (.int .u8) (.int .u8 k) es.toList 0 = some none := by
  rcases findNow_spec (d := .int .u8) (k := .int .u8 k) (by simp [IsKey]) es.toList 0 hks with ⟨h1, _⟩ | ⟨j, e, _, h2, h3⟩
  · exact h1
  · exact absurd h3 (hno e (List.mem_of_getElem? h2))
 have hk : ∀ b, (Instr.checkKey b 10000 5 (.int .u8 k)).run Tryz.prog W = .ok () W := fun b => run_checkKey Tryz.underlying5 (by simp [IsKey]) b 9999
 have hz : (zeroValue 190).run Tryz.prog W = .ok .nilFunc W := by kernel_rfl
 simp only [Instr.lookup, Sem.run_bind, run_underlying Tryz.underlying187, Result.andThen, Go.MapKept.run_getObj_map hb, hk, run_findKey (P := Tryz.prog) Tryz.underlying5 hf, Sem.run_pure, hz]
 simp
theorem known_yes (W : World) (r n : Nat) (es : Array MapEntry) (k : Int) (hb : W.heap[r]? = some (.map es n)) (hks : ∀ x ∈ es.toList, IsKey (.int .u8) x.key) (hyes : ∃ x ∈ es.toList, x.key = .int .u8 k) :
 ∃ e ∈ es.toList, e.key = .int .u8 k ∧ (Instr.lookup 187 (.map (some r)) (.int .u8 k) true).run Tryz.prog W = .ok (.tuple #[e.val, .bool true]) W := by
 rcases findNow_spec (d := .int .u8) (k := .int .u8 k) (by simp [IsKey]) es.toList 0 hks with ⟨_, h2⟩ | ⟨j, e, h1, h2, h3⟩
 · obtain ⟨x, hx, hxk⟩ := hyes
   exact absurd hxk (h2 x hx)
 · refine ⟨e, List.mem_of_getElem? h2, h3, ?_⟩
   have hk : ∀ b, (Instr.checkKey b 10000 5 (.int .u8 k)).run Tryz.prog W = .ok () W := fun b => run_checkKey Tryz.underlying5 (by simp [IsKey]) b 9999
   simp only [Instr.lookup, Sem.run_bind, run_underlying Tryz.underlying187, Result.andThen, Go.MapKept.run_getObj_map hb, hk, run_findKey (P := Tryz.prog) Tryz.underlying5 h1, Sem.run_pure]
   simp
theorem bv_new (W : World) (cells : Array Value) (xs : List Int) (n : Nat) (hn : n = xs.length) (hc : cells = (xs.map (Value.int .u8)).toArray) : BV (W.alloc (.cells cells 5)) (some ⟨W.heap.size, 0, none⟩) n n xs where
 len_eq := hn.symm
 cap := Nat.le_refl _
 cell := fun _ => ⟨W.heap.size, 0, rfl, fun i hi => by
  rw [World.cell?_alloc_at _ _ _ _ rfl, hc]
  simp [List.getD, show i < xs.length by omega]⟩
section
variable {P : Program} {ops : Array Oper} {Q : Exit → Act → World → Prop} {md : Region.Mode}
def openN (l : List Bool) : Nat := l.countP (· == false)
theorem openN_set (l : List Bool) (i : Nat) (h : l[i]? = some false) : openN l = openN (l.set i true) + 1 := by
 induction l generalizing i with
 | nil => simp at h
 | cons b l ih =>
  cases i with
  | zero =>
   simp only [List.getElem?_cons_zero, Option.some.injEq] at h
   subst h
   simp [openN]
  | succ i =>
   simp only [List.getElem?_cons_succ] at h
   have := ih i h
   simp only [openN, List.set_cons_succ, List.countP_cons] at this ⊢
   omega
theorem wpAny_inv (Inv : Array Bool → Act → World → Prop) (hlow : ∀ i o, ops[i]? = some o → ∀ e ∈ o.after, Region.binds md e = true → e.on < i)
 (hstep : ∀ listed a w i o, listed.size = ops.size → Inv listed a w → ops[i]? = some o → listed.getD i true = false → (∀ e ∈ o.after, Region.binds md e = true → listed.getD e.on false = true) →
  wpOp P ops Q i (fun a' w' => Inv (listed.setIfInBounds i true) a' w') a w)
 (hdone : ∀ listed a w, listed.size = ops.size → (∀ i, i < ops.size → listed.getD i false = true) → Inv listed a w → Q .normal a w) :
 ∀ (fuel : Nat) (listed : Array Bool) (a : Act) (w : World), listed.size = ops.size → openN listed.toList = fuel → Inv listed a w → wpAny P md ops Q fuel listed a w := by
 have hempty : ∀ listed : Array Bool, listed.size = ops.size → Region.ready md ops listed = [] → ∀ i, i < ops.size → listed.getD i false = true := by
  intro listed hs hr i
  induction i using Nat.strongRecOn with
  | ind i ih =>
   intro hi
   by_cases hl : listed.getD i false = true
   · exact hl
   · exfalso
     have : i ∈ Region.ready md ops listed := mem_ready.2 ⟨by
      have hi' : i < listed.size := by omega
      simp [Array.getD, hi'] at hl ⊢
      exact hl, ops[i], by simp [hi], fun e he hb => ih e.on (hlow i ops[i] (by simp [hi]) e he hb) (Nat.lt_trans (hlow i ops[i] (by simp [hi]) e he hb) hi)⟩
     rw [hr] at this
     simp at this
 intro fuel
 induction fuel with
 | zero =>
  intro listed a w hs hn hI
  have hall : ∀ i, i < ops.size → listed.getD i false = true := by
   intro i hi
   have hi' : i < listed.toList.length := by simp; omega
   have h0 := List.countP_eq_zero.1 hn listed.toList[i] (List.getElem_mem hi')
   have hi2 : i < listed.size := by omega
   simp [Array.getD, hi2] at h0 ⊢
   exact h0
  refine ⟨?_, hdone listed a w hs hall hI⟩
  rw [List.eq_nil_iff_forall_not_mem]
  intro i hi
  obtain ⟨h1, o, h2, _⟩ := mem_ready.1 hi
  have hlt : i < ops.size := by
   by_cases h : i < ops.size
   · exact h
   · rw [Array.getElem?_eq_none (by omega)] at h2; simp at h2
  have h3 := hall i hlt
  have hi' : i < listed.size := by omega
  simp [Array.getD, hi'] at h1 h3
  rw [h1] at h3
  simp at h3
 | succ fuel ih =>
  intro listed a w hs hn hI
  refine ⟨fun hr => hdone listed a w hs (hempty listed hs hr) hI, fun i hi => ?_⟩
  obtain ⟨h1, o, h2, h3⟩ := mem_ready.1 hi
  refine wpOp_mono (fun a' w' hI' => ih _ _ _ (by simpa using hs) ?_ hI') (hstep listed a w i o hs hI h2 h1 h3)
  have hlt : i < listed.size := by
   rw [hs]
   by_cases h : i < ops.size
   · exact h
   · rw [Array.getElem?_eq_none (by omega)] at h2; simp at h2
  have h4 : listed.toList[i]? = some false := by
   simp [Array.getD, hlt] at h1
   simp [hlt, h1]
  have := openN_set _ _ h4
  rw [Array.toList_setIfInBounds]
  omega
theorem openN_start (n : Nat) : openN (Array.replicate n false).toList = n := by simp [openN, List.countP_replicate]
end
end Tr
namespace Tr
set_option maxRecDepth 1000000
open Go.RowKit Go.MapKept
inductive Sp where
 | ks (l : List Int)
 | fit (f : Fit)
 | part (p : Part)
 | parts (ps : List Part)
 | node (R : Rule)
 deriving DecidableEq
def SpV (W : World) (v : Value) : Sp → Prop
 | .ks l => ∃ q n c, v = .slice q n c ∧ BV W q n c l ∧ n ≤ 70000
 | .fit f => ∃ g cs, v = .func g #[] cs ∧ FitV W g cs f
 | .part p => ∃ g cs, v = .agg #[.func g #[] cs, .int .i64 (p.least : Int), .int .i64 (p.most : Int)] ∧ FitV W g cs p.fit
 | .parts ps => ∃ q l c, v = .slice q l c ∧ PV W q l c ps
 | .node R => ∃ tb mb kb, v = closV tb mb kb ∧ NV W tb mb kb R
theorem SpV.on {W V : World} {v : Value} {s : Sp} (h : SpV W v s) (hb : Aside W V) : SpV V v s := by
 cases s with
 | ks l => obtain ⟨q, n, c, e, h1, h2⟩ := h; exact ⟨q, n, c, e, h1.on hb, h2⟩
 | fit f => obtain ⟨g, cs, e, h1⟩ := h; exact ⟨g, cs, e, h1.on hb⟩
 | part p => obtain ⟨g, cs, e, h1⟩ := h; exact ⟨g, cs, e, h1.on hb⟩
 | parts ps => obtain ⟨q, l, c, e, h1⟩ := h; exact ⟨q, l, c, e, h1.on hb⟩
 | node R => obtain ⟨tb, mb, kb, e, h1⟩ := h; exact ⟨tb, mb, kb, e, h1.on hb⟩
inductive RK where
 | mk
 | bs (d : Nat) (l : List Int)
 | isc (d t : Nat) (l : List Int)
 | part (d : Nat) (s : Option Nat) (p : Part)
 | ld (d x : Nat) (p : Part)
 | ps (d : Nat) (ts : List (Nat × Part))
 | nd (d : Nat) (s : Option Nat) (R : Rule)
 | ins (k : Int) (t : Nat) (R : Rule)
 | mv (d : Nat)
 | asg (d t : Nat)
def partFn (p : Part) : Nat := if p.least = 1 then 184 else if p.most = 1 then 191 else 188
def RK.op : RK → Op
 | .mk => .makeMap 187 none
 | .bs _ [x] => .buildSlice 22 1 #[(0, .const (.int .u8 x))]
 | .bs _ [x, y] => .buildSlice 22 2 #[(0, .const (.int .u8 x)), (1, .const (.int .u8 y))]
 | .bs _ _ => .ready 0
 | .isc _ t _ => .call { callee := .value (.func 185), args := #[.tmp t], argTypes := #[22] }
 | .part _ (some t) p => .call { callee := .value (.func (partFn p)), args := #[.tmp t], argTypes := #[113] }
 | .part _ none p => .call { callee := .value (.func (partFn p)), args := #[.func (if p.fit = .stmt then 190 else 115)], argTypes := #[113] }
 | .ld _ x _ => .load 255 (.tmp x)
 | .ps _ [(t, _)] => .buildSlice 287 1 #[(0, .tmp t)]
 | .ps _ [(t, _), (u, _)] => .buildSlice 287 2 #[(0, .tmp t), (1, .tmp u)]
 | .ps _ [(t, _), (u, _), (v, _)] => .buildSlice 287 3 #[(0, .tmp t), (1, .tmp u), (2, .tmp v)]
 | .ps _ [(t, _), (u, _), (v, _), (x, _)] => .buildSlice 287 4 #[(0, .tmp t), (1, .tmp u), (2, .tmp v), (3, .tmp x)]
 | .ps _ _ => .ready 0
 | .nd _ (some t) R => .call { callee := .value (.func 186), args := #[.func (if R.named then 189 else 187), .const (.int .i64 R.most), .tmp t], argTypes := #[161, 2, 287] }
 | .nd _ none R => .call { callee := .value (.func 186), args := #[.func (if R.named then 189 else 187), .const (.int .i64 R.most), .const (.slice none 0 0)], argTypes := #[161, 2, 287] }
 | .ins k t _ => .insert 187 (.tmp 19) (.const (.int .u8 k)) (.tmp t)
 | .mv _ => .move (.tmp 19)
 | .asg _ t => .assign (.tmp t)
def RK.dst : RK → Option Nat
 | .mk => some 19
 | .bs d _ => some d
 | .isc d _ _ => some d
 | .part d _ _ => some d
 | .ld d _ _ => some d
 | .ps d _ => some d
 | .nd d _ _ => some d
 | .ins _ _ _ => none
 | .mv d => some d
 | .asg d _ => some d
def RK.out : RK → Option (Nat × Sp)
 | .bs d l => some (d, .ks l)
 | .isc d _ l => some (d, .fit (.of l))
 | .part d _ p => some (d, .part p)
 | .ld d _ p => some (d, .part p)
 | .ps d ts => some (d, .parts (ts.map (·.2)))
 | .nd d _ R => some (d, .node R)
 | _ => none
def RK.reqs : RK → List (Nat × Sp)
 | .isc _ t l => [(t, .ks l)]
 | .part _ (some t) p => [(t, .fit p.fit)]
 | .ps _ ts => ts.map fun x => (x.1, .part x.2)
 | .nd _ (some t) R => [(t, .parts R.parts)]
 | .ins _ t R => [(t, .node R)]
 | _ => []
def RK.first : RK → Option Nat
 | .ins _ _ _ => some 0
 | .mv _ => some 0
 | .asg _ _ => some 123
 | _ => none
def RK.mvd : RK → Option Nat
 | .mv d => some d
 | .asg d _ => some d
 | _ => none
def RK.key : RK → Option Int
 | .ins k _ _ => some k
 | _ => none
def locP (x : Nat) : Part := if x = 1 then pW else if x = 2 then pR else if x = 3 then pB else if x = 4 then pE else pN
def RK.good : RK → Bool
 | .bs _ l => l.length == 1 || l.length == 2
 | .part _ s p => (p == .one p.fit || p == .maybe p.fit || p == .many p.fit) && (s.isSome || p.fit == .stmt || p.fit == .expr)
 | .ld _ x p => decide (1 ≤ x) && decide (x ≤ 5) && p == locP x
 | .ps _ ts => ts.length == 1 || ts.length == 2 || ts.length == 3 || ts.length == 4
 | .nd _ s R => s.isSome || R.parts == []
 | .ins k _ R => ruleOf k == some R
 | .asg _ t => t == 116
 | .mv d => d == 116
 | _ => true
def RT : List RK :=
 [.mk,
  .bs 20 [2, 3],
  .isc 21 20 [2, 3],
  .part 22 (some 21) (Part.many (.of [2, 3])),
  .ps 23 [(22, Part.many (.of [2, 3]))],
  .nd 24 (some 23) ⟨false, 0, [.many (.of [2, 3])]⟩,
  .ins 1 24 ⟨false, 0, [.many (.of [2, 3])]⟩,
  .ld 25 1 pW,
  .bs 26 [5],
  .isc 27 26 [5],
  .part 28 (some 27) (Part.many (.of [5])),
  .ps 29 [(25, pW), (28, Part.many (.of [5]))],
  .nd 30 (some 29) ⟨true, 0, [pW, .many (.of [5])]⟩,
  .ins 2 30 ⟨true, 0, [pW, .many (.of [5])]⟩,
  .bs 31 [4],
  .isc 32 31 [4],
  .part 33 (some 32) (Part.one (.of [4])),
  .ld 34 3 pB,
  .ps 35 [(33, Part.one (.of [4])), (34, pB)],
  .nd 36 (some 35) ⟨true, 1, [.one (.of [4]), pB]⟩,
  .ins 3 36 ⟨true, 1, [.one (.of [4]), pB]⟩,
  .bs 37 [5],
  .isc 38 37 [5],
  .part 39 (some 38) (Part.many (.of [5])),
  .ps 40 [(39, Part.many (.of [5]))],
  .nd 41 (some 40) ⟨false, 0, [.many (.of [5])]⟩,
  .ins 4 41 ⟨false, 0, [.many (.of [5])]⟩,
  .nd 42 none ⟨true, 0, []⟩,
  .ins 5 42 ⟨true, 0, []⟩,
  .part 43 none (Part.many .stmt),
  .ps 44 [(43, Part.many .stmt)],
  .nd 45 (some 44) ⟨false, 0, [.many .stmt]⟩,
  .ins 6 45 ⟨false, 0, [.many .stmt]⟩,
  .ld 46 2 pR,
  .ld 47 1 pW,
  .ps 48 [(46, pR), (47, pW)],
  .nd 49 (some 48) ⟨true, 1, [pR, pW]⟩,
  .ins 7 49 ⟨true, 1, [pR, pW]⟩,
  .ld 50 2 pR,
  .ld 51 1 pW,
  .ld 52 4 pE,
  .ps 53 [(50, pR), (51, pW), (52, pE)],
  .nd 54 (some 53) ⟨false, 0, [pR, pW, pE]⟩,
  .ins 8 54 ⟨false, 0, [pR, pW, pE]⟩,
  .ld 55 2 pR,
  .ld 56 4 pE,
  .part 57 none (Part.many .expr),
  .ps 58 [(55, pR), (56, pE), (57, Part.many .expr)],
  .nd 59 (some 58) ⟨false, 0, [pR, pE, .many .expr]⟩,
  .ins 9 59 ⟨false, 0, [pR, pE, .many .expr]⟩,
  .ld 60 2 pR,
  .ps 61 [(60, pR)],
  .nd 62 (some 61) ⟨false, 0, [pR]⟩,
  .ins 10 62 ⟨false, 0, [pR]⟩,
  .ld 63 1 pW,
  .ld 64 1 pW,
  .ps 65 [(63, pW), (64, pW)],
  .nd 66 (some 65) ⟨true, 0, [pW, pW]⟩,
  .ins 11 66 ⟨true, 0, [pW, pW]⟩,
  .ld 67 1 pW,
  .ps 68 [(67, pW)],
  .nd 69 (some 68) ⟨false, 1, [pW]⟩,
  .ins 12 69 ⟨false, 1, [pW]⟩,
  .bs 70 [5, 20],
  .isc 71 70 [5, 20],
  .part 72 (some 71) (Part.one (.of [5, 20])),
  .ps 73 [(72, Part.one (.of [5, 20]))],
  .nd 74 (some 73) ⟨false, 0, [.one (.of [5, 20])]⟩,
  .ins 13 74 ⟨false, 0, [.one (.of [5, 20])]⟩,
  .ld 75 4 pE,
  .ld 76 4 pE,
  .ld 77 3 pB,
  .bs 78 [6],
  .isc 79 78 [6],
  .part 80 (some 79) (Part.maybe (.of [6])),
  .ps 81 [(75, pE), (76, pE), (77, pB), (80, Part.maybe (.of [6]))],
  .nd 82 (some 81) ⟨false, 1, [pE, pE, pB, .maybe (.of [6])]⟩,
  .ins 14 82 ⟨false, 1, [pE, pE, pB, .maybe (.of [6])]⟩,
  .ld 83 5 pN,
  .ld 84 5 pN,
  .ld 85 3 pB,
  .ps 86 [(83, pN), (84, pN), (85, pB)],
  .nd 87 (some 86) ⟨true, 0, [pN, pN, pB]⟩,
  .ins 15 87 ⟨true, 0, [pN, pN, pB]⟩,
  .ld 88 4 pE,
  .ps 89 [(88, pE)],
  .nd 90 (some 89) ⟨true, 0, [pE]⟩,
  .ins 16 90 ⟨true, 0, [pE]⟩,
  .ld 91 4 pE,
  .ps 92 [(91, pE)],
  .nd 93 (some 92) ⟨false, 0, [pE]⟩,
  .ins 17 93 ⟨false, 0, [pE]⟩,
  .nd 94 none ⟨false, 0, []⟩,
  .ins 18 94 ⟨false, 0, []⟩,
  .nd 95 none ⟨false, 0, []⟩,
  .ins 19 95 ⟨false, 0, []⟩,
  .ld 96 4 pE,
  .ps 97 [(96, pE)],
  .nd 98 (some 97) ⟨true, 0, [pE]⟩,
  .ins 20 98 ⟨true, 0, [pE]⟩,
  .nd 99 none ⟨false, 2147483647, []⟩,
  .ins 21 99 ⟨false, 2147483647, []⟩,
  .nd 100 none ⟨true, 0, []⟩,
  .ins 22 100 ⟨true, 0, []⟩,
  .ld 101 4 pE,
  .ld 102 4 pE,
  .ps 103 [(101, pE), (102, pE)],
  .nd 104 (some 103) ⟨false, 0, [pE, pE]⟩,
  .ins 23 104 ⟨false, 0, [pE, pE]⟩,
  .ld 105 4 pE,
  .ld 106 4 pE,
  .ps 107 [(105, pE), (106, pE)],
  .nd 108 (some 107) ⟨false, 0, [pE, pE]⟩,
  .ins 24 108 ⟨false, 0, [pE, pE]⟩,
  .ld 109 4 pE,
  .ld 110 4 pE,
  .ps 111 [(109, pE), (110, pE)],
  .nd 112 (some 111) ⟨false, 0, [pE, pE]⟩,
  .ins 25 112 ⟨false, 0, [pE, pE]⟩,
  .ld 113 4 pE,
  .ps 114 [(113, pE)],
  .nd 115 (some 114) ⟨false, 0, [pE]⟩,
  .ins 26 115 ⟨false, 0, [pE]⟩,
  .mv 116,
  .asg 0 116]
theorem rt_size : RT.length = 125 := by decide +kernel
def chkDst : Bool := (List.range 125).all fun i => (List.range 125).all fun j => i == j || (match RT[i]?.bind RK.dst, RT[j]?.bind RK.dst with | some d, some e => d != e | _, _ => true)
def chkKey : Bool := (List.range 125).all fun i => (List.range 125).all fun j => i == j || (match RT[i]?.bind RK.key, RT[j]?.bind RK.key with | some d, some e => d != e | _, _ => true)
def chkLow : Bool := RT.all fun k => match k.dst with | some d => (d == 0 || decide (19 ≤ d)) && decide (d < 117) | none => true
def chkGood : Bool := RT.all RK.good
def chkAll : Bool := (List.range 27).all fun k => k == 0 || RT.any fun x => x.key == some (k : Int)
theorem chk_dst : chkDst = true := by decide +kernel
theorem chk_key : chkKey = true := by decide +kernel
theorem chk_low : chkLow = true := by decide +kernel
theorem chk_good : chkGood = true := by decide +kernel
theorem chk_all : chkAll = true := by decide +kernel
theorem dst_one {i j : Nat} {k l : RK} {d : Nat} (hi : RT[i]? = some k) (hj : RT[j]? = some l) (h1 : k.dst = some d) (h2 : l.dst = some d) : i = j := by
 have hil : i < 125 := by rw [← rt_size]; exact (List.getElem?_eq_some_iff.1 hi).1
 have hjl : j < 125 := by rw [← rt_size]; exact (List.getElem?_eq_some_iff.1 hj).1
 have h := chk_dst
 unfold chkDst at h
 rw [List.all_eq_true] at h
 have h3 := h i (List.mem_range.2 hil)
 rw [List.all_eq_true] at h3
 have h4 := h3 j (List.mem_range.2 hjl)
 rw [hi, hj] at h4
 simpa [h1, h2] using h4
theorem key_one {i j : Nat} {k l : RK} {d : Int} (hi : RT[i]? = some k) (hj : RT[j]? = some l) (h1 : k.key = some d) (h2 : l.key = some d) : i = j := by
 have hil : i < 125 := by rw [← rt_size]; exact (List.getElem?_eq_some_iff.1 hi).1
 have hjl : j < 125 := by rw [← rt_size]; exact (List.getElem?_eq_some_iff.1 hj).1
 have h := chk_key
 unfold chkKey at h
 rw [List.all_eq_true] at h
 have h3 := h i (List.mem_range.2 hil)
 rw [List.all_eq_true] at h3
 have h4 := h3 j (List.mem_range.2 hjl)
 rw [hi, hj] at h4
 simpa [h1, h2] using h4
theorem dst_low {i : Nat} {k : RK} {d : Nat} (hi : RT[i]? = some k) (h1 : k.dst = some d) : (d = 0 ∨ 19 ≤ d) ∧ d < 117 := by
 have h := chk_low
 unfold chkLow at h
 rw [List.all_eq_true] at h
 have := h k (List.mem_of_getElem? hi)
 rw [h1] at this
 simpa using this
theorem rt_good {i : Nat} {k : RK} (hi : RT[i]? = some k) : k.good = true := by
 have h := chk_good
 unfold chkGood at h
 rw [List.all_eq_true] at h
 exact h k (List.mem_of_getElem? hi)
theorem key_all (k : Int) (h1 : 1 ≤ k) (h2 : k ≤ 26) : ∃ (i : Nat) (t : Nat) (R : Rule), RT[i]? = some (RK.ins k t R) := by
 have h := chk_all
 unfold chkAll at h
 rw [List.all_eq_true] at h
 have h3 := h k.toNat (List.mem_range.2 (by omega))
 simp only [Bool.or_eq_true, beq_iff_eq] at h3
 rcases h3 with h3 | h3
 · omega
 · rw [List.any_eq_true] at h3
   obtain ⟨x, hx, hk⟩ := h3
   obtain ⟨i, hi⟩ := List.mem_iff_getElem?.1 hx
   cases x with
   | ins q t R =>
    simp only [RK.key, beq_iff_eq, Option.some.injEq] at hk
    have : q = k := by omega
    subst this
    exact ⟨i, t, R, hi⟩
   | _ => simp [RK.key] at hk
theorem rule_range {k : Int} {R : Rule} (h : ruleOf k = some R) : 1 ≤ k ∧ k ≤ 26 := by
 unfold ruleOf at h
 rw [Option.map_eq_some_iff] at h
 obtain ⟨x, hx, _⟩ := h
 have h1 := List.find?_some hx
 have h2 := List.mem_of_find?_eq_some hx
 have h3 : (ruleT.all fun x => decide (1 ≤ x.1) && decide (x.1 ≤ 26)) = true := by decide
 rw [List.all_eq_true] at h3
 have := h3 x h2
 simp at this h1
 omega
end Tr
end Go.Proofs.YthdioipfdbbmmaaGreatDoor
