/- Contracts on the way to the laws of layer 5: PrintRg, PrintSd, TreeY, ParseLz, PrintPo. -/
import Derived.Test.YthdioipfdbbmmaaGreatDoorKan
import Derived.Test.YthdioipfdbbmmaaGreatDoorKax
import Derived.Test.YthdioipfdbbmmaaGreatDoorKbh
import Derived.Test.YthdioipfdbbmmaaGreatDoorKbl
import Derived.Test.YthdioipfdbbmmaaGreatDoorKbn
import Derived.Test.YthdioipfdbbmmaaGreatDoorKbo
import Derived.Test.YthdioipfdbbmmaaGreatDoorKbp
import Derived.Deep.RegionHeld3
set_option linter.all false
set_option maxRecDepth 1000000
set_option maxHeartbeats 16000000
namespace Go.Proofs.YthdioipfdbbmmaaGreatDoor
section
open Par Tr
mutual
theorem size_z : ∀ x : Ast, (zA x).size = x.size
 | .mk k a t n ks => by simp only [zA, Ast.size, sizeL_z ks]
theorem sizeL_z : ∀ l : List Ast, sizeL (zL l) = sizeL l
 | [] => rfl
 | x :: r => by simp only [zL, sizeL, size_z x, sizeL_z r]
end
theorem heads_z : ∀ (l : List Ast) (o : Nat), heads o (zL l) = heads o l
 | [], _ => rfl
 | x :: r, o => by simp only [zL, heads, size_z x, heads_z r]
mutual
theorem flat_z : ∀ (x : Ast) (o : Nat), (flat o x).map noAt = flat o (zA x)
 | .mk k a t n ks, o => by
  simp only [zA, flat, List.map_cons, flatL_z ks, heads_z]
  rfl
theorem flatL_z : ∀ (l : List Ast) (o : Nat), (flatL o l).map noAt = flatL o (zL l)
 | [], _ => rfl
 | x :: r, o => by simp only [zL, flatL, List.map_append, flat_z x, flatL_z r, size_z x]
end
mutual
theorem zz : ∀ x : Ast, zA (zA x) = zA x
 | .mk k a t n ks => by simp only [zA, zzL ks]
theorem zzL : ∀ l : List Ast, zL (zL l) = zL l
 | [] => rfl
 | x :: r => by simp only [zL, zz x, zzL r]
end
theorem AstR.z {ρ : Nat → Nat → Prop} {x y : Ast} (h : AstR ρ x y) : zA x = zA y := by
 induction h with
 | @mk k a a' t n ks ks' _ hl hk ih =>
  simp only [zA]
  congr 1
  rw [zL_map, zL_map]
  refine List.ext_getElem? fun i => ?_
  rw [List.getElem?_map, List.getElem?_map]
  cases h1 : ks[i]? with
  | none =>
   have h2 : ks'[i]? = none := by
    rw [List.getElem?_eq_none_iff] at h1 ⊢
    omega
   rw [h2]
  | some u =>
   cases h2 : ks'[i]? with
   | none =>
    rw [List.getElem?_eq_none_iff] at h2
    have := (List.getElem?_eq_some_iff.1 h1).1
    omega
   | some v => simp only [Option.map_some, ih i u v h1 h2]
theorem tokL_z : ∀ l : List PT, TokL (fun _ _ => True) l (l.map zP)
 | [] => .nil
 | t :: r => .cons ⟨rfl, rfl, rfl, trivial⟩ (tokL_z r)
theorem round {a0 : Nat} {ks : List Ast} (hw : wfR (.mk 1 a0 none0 0 ks)) (hd : ∀ z ∈ ks, deepPt z) : ∃ a, parseS (Tr.bytesI (progL ks)) = .ok (flat 0 a) ∧ zA a = zA (.mk 1 a0 none0 0 ks) := by
 have hk : (ks.map Ast.kind).all (fun k => k == 2 || k == 3) = true := by simpa [kidsR] using hw.parts.2.2.2
 have hp : ∀ z ∈ ks, Pt z := fun z hz => pt_of (wfRL_mem hw.2 z hz) (by
  have := (List.all_eq_true.1 hk) _ (List.mem_map_of_mem hz)
  simpa using this)
 obtain ⟨ts, e1, e2⟩ := lex_printed ks hp hw.2
 have h1 := rel_program (ρ := fun _ _ => True) (ts.map ptOf) ((ts.map ptOf).map zP) (tokL_z _)
 rw [e2, prog_read ks hp hd] at h1
 unfold parseS
 rw [e1]
 dsimp only
 cases h2 : programP (ts.map ptOf) with
 | err p c => rw [h2] at h1; exact h1.elim
 | ok a l =>
  rw [h2] at h1
  refine ⟨a, rfl, h1.1.z.trans ?_⟩
  simp only [zA, zzL]
theorem noAt_z {a b : Ast} (h : zA a = zA b) : (flat 0 a).map noAt = (flat 0 b).map noAt := by rw [flat_z, flat_z, h]
end
section
open Par Tr
def ExC (x : Ast) : Prop := (exT x).size ≤ 24 * cwL (exK x)
theorem inB_size (b : Bool) (s : ByteArray) : (inB b s).size = s.size + 2 * b2n b := by
 cases b with
 | false => simp [inB, b2n]
 | true =>
  simp only [inB, if_true, ByteArray.size_append, b2n, lit0]
  simp
  omega
theorem num_size (n : Int) (h0 : 0 ≤ n) (h1 : n ≤ 2147483647) : (numT n).size ≤ 21 := by
 unfold numT
 have := Lib.itoa_length_le n (by omega) (by omega)
 show (Lib.itoa n).toArray.size ≤ 21
 simpa using this
theorem exC_ {x : Ast} (h : Ex x) : wfR x → ExC x := by
 induction h with
 | num a n =>
  intro hw
  have h1 := num_size n hw.parts.2.1.1 hw.parts.2.1.2
  show (numT n).size ≤ 24 * 1
  omega
 | var a s =>
  intro hw
  show s.size ≤ 24 * (max 1 s.size + 0)
  omega
 | neg a x hx ih =>
  intro hw
  have h1 := ih hw.2.1
  have e1 : exT (.mk 26 a none0 0 [x]) = ⟨#[45]⟩ ++ inB (br 26 false x.kind) (exT x) := rfl
  have e2 : exK (.mk 26 a none0 0 [x]) = mk3 ⟨#[45]⟩ :: bT (br 26 false x.kind) (exK x) := rfl
  unfold ExC at h1 ⊢
  rw [e1, e2, ByteArray.size_append, inB_size, cwL_cons, cw_bT, cw_mk]
  simp only [lit0]
  simp
  omega
 | bin k a x y hk hx hy ihx ihy =>
  intro hw
  have h1 := ihx hw.2.1
  have h2 := ihy hw.2.2.1
  have e1 : exT (.mk k a none0 0 [x, y]) = inB (br k false x.kind) (exT x) ++ markT k ++ inB (br k true y.kind) (exT y) := by rcases hk with rfl | rfl | rfl <;> rfl
  have e2 := cw_bin hk a x y
  have e3 : (markT k).size = 3 := by rcases hk with rfl | rfl | rfl <;> rfl
  unfold ExC at h1 h2 ⊢
  rw [e1, e2, ByteArray.size_append, ByteArray.size_append, inB_size, inB_size, e3]
  omega
theorem wd_c {x : Ast} (h : Wd x) : ExC x := by
 cases h with
 | mk a s =>
  show s.size ≤ 24 * (max 1 s.size + 0)
  omega
theorem rw_c {x : Ast} (h : RwA x) (hw : wfR x) : ExC x := by
 cases h with
 | mk a s e he =>
  have h1 := exC_ he hw.2.1
  have hb : br 20 false e.kind = false := by unfold br; split <;> (try split) <;> rfl
  have e1 : exT (.mk 20 a s 0 [e]) = s ++ ⟨#[91]⟩ ++ exT e ++ ⟨#[93]⟩ := by
   show nodeT 20 s 0 (exL 20 0 [e]) = _
   simp [nodeT, exL, hb, inB]
  have e2 : exK (.mk 20 a s 0 [e]) = [nm s] ++ [mk3 ⟨#[91]⟩] ++ exK e ++ [mk3 ⟨#[93]⟩] := by simp [exK, nodeK, exKL, hb, bT]
  unfold ExC at h1 ⊢
  rw [e1, e2]
  simp only [ByteArray.size_append, cwL_app, cwL_cons, cwL_nil, cw_nm, cw_mk, lit0]
  simp
  omega
theorem join_c : ∀ (ks : List Ast), (∀ z ∈ ks, ExC z) → (joinT (ks.map exT)).size ≤ 24 * cwL (joinK (ks.map exK))
 | [], _ => Nat.zero_le _
 | [x], h => by
  have := h x (by simp)
  unfold ExC at this
  simpa [joinT, joinK] using this
 | x :: y :: r, h => by
  have h1 := join_c (y :: r) (fun z hz => h z (by simp [hz]))
  have h2 := h x (by simp)
  unfold ExC at h2
  have e1 : joinT ((x :: y :: r).map exT) = exT x ++ ⟨#[44, 32]⟩ ++ joinT ((y :: r).map exT) := rfl
  have e2 : joinK ((x :: y :: r).map exK) = exK x ++ [mk3 ⟨#[44]⟩] ++ joinK ((y :: r).map exK) := by simp [joinK]
  rw [e1, e2]
  simp only [ByteArray.size_append, cwL_app, cwL_cons, cwL_nil, cw_mk, lit0] at *
  simp at *
  omega
def StC (x : Ast) : Prop := wfR x → ∀ d, d + nA x ≤ 64 → (stT d x).size ≤ 56 * cwL (stA x)
theorem zc_read0 (a : Nat) (t : ByteArray) (x y : Ast) (gx : RwA x) (gy : Wd y) : StC (.mk 7 a t 0 [x, y]) := fun hw d hd => by
 skip
 have hx := rw_c gx hw.2.1
 have hy := wd_c gy
 skip
 have hd2 : d ≤ 64 := by omega
 have e1 : stT d (.mk 7 a t 0 [x, y]) = lineT d (⟨#[114, 101, 97, 100, 32]⟩ ++ t ++ ⟨#[32, 61, 32]⟩ ++ exT x ++ ⟨#[46]⟩ ++ exT y ++ ⟨#[]⟩ ++ ⟨#[59]⟩) := rfl
 have e2 : stA (.mk 7 a t 0 [x, y]) = [nm ⟨#[114, 101, 97, 100]⟩] ++ [nm t] ++ [mk3 ⟨#[61]⟩] ++ exK x ++ [mk3 ⟨#[46]⟩] ++ exK y ++ [] ++ [mk3 ⟨#[59]⟩] := by simp [stA, stK]
 rw [e1, e2]
 clear e1 e2 hd hw
 unfold ExC at *
 simp only [lineT_size, ByteArray.size_append, cwL_app, cwL_cons, cwL_nil, cw_nm, cw_mk, lit0] at *
 simp at *
 omega
theorem zc_read1 (a : Nat) (t : ByteArray) (x y : Ast) (gx : RwA x) (gy : Wd y) : StC (.mk 7 a t 1 [x, y]) := fun hw d hd => by
 skip
 have hx := rw_c gx hw.2.1
 have hy := wd_c gy
 have hd2 : d ≤ 64 := by omega
 have e1 : stT d (.mk 7 a t 1 [x, y]) = lineT d (⟨#[114, 101, 97, 100, 32]⟩ ++ t ++ ⟨#[32, 61, 32]⟩ ++ exT x ++ ⟨#[46]⟩ ++ exT y ++ ⟨#[32, 102, 111, 114, 32, 117, 112, 100, 97, 116, 101]⟩ ++ ⟨#[59]⟩) := rfl
 have e2 : stA (.mk 7 a t 1 [x, y]) = [nm ⟨#[114, 101, 97, 100]⟩] ++ [nm t] ++ [mk3 ⟨#[61]⟩] ++ exK x ++ [mk3 ⟨#[46]⟩] ++ exK y ++ [nm ⟨#[102, 111, 114]⟩, nm ⟨#[117, 112, 100, 97, 116, 101]⟩] ++ [mk3 ⟨#[59]⟩] := by simp [stA, stK]
 rw [e1, e2]
 clear e1 e2 hd hw
 unfold ExC at *
 simp only [lineT_size, ByteArray.size_append, cwL_app, cwL_cons, cwL_nil, cw_nm, cw_mk, lit0] at *
 simp at *
 omega
theorem zc_set (a : Nat) (x y v : Ast) (gx : RwA x) (gy : Wd y) (gv : Ex v) : StC (.mk 8 a none0 0 [x, y, v]) := fun hw d hd => by
 have hx := rw_c gx hw.2.1
 have hy := wd_c gy
 have hv := exC_ gv hw.2.2.2.1
 have hd2 : d ≤ 64 := by omega
 have e1 : stT d (.mk 8 a none0 0 [x, y, v]) = lineT d (⟨#[115, 101, 116, 32]⟩ ++ exT x ++ ⟨#[46]⟩ ++ exT y ++ ⟨#[32, 61, 32]⟩ ++ exT v ++ ⟨#[59]⟩) := rfl
 have e2 : stA (.mk 8 a none0 0 [x, y, v]) = [nm ⟨#[115, 101, 116]⟩] ++ exK x ++ [mk3 ⟨#[46]⟩] ++ exK y ++ [mk3 ⟨#[61]⟩] ++ exK v ++ [mk3 ⟨#[59]⟩] := by simp [stA, stK]
 rw [e1, e2]
 clear e1 e2 hd hw
 unfold ExC at *
 simp only [lineT_size, ByteArray.size_append, cwL_app, cwL_cons, cwL_nil, cw_nm, cw_mk, lit0] at *
 simp at *
 omega
theorem zc_put (a : Nat) (x v : Ast) (es : List Ast) (gx : RwA x) (gv : Ex v) (gs : ∀ z ∈ es, Ex z) : StC (.mk 9 a none0 0 (x :: v :: es)) := fun hw d hd => by
 have hx := rw_c gx hw.2.1
 have hj := join_c (v :: es) (fun z hz => exC_ (by rcases List.mem_cons.1 hz with rfl | hz; exact gv; exact gs z hz) (wfRL_mem hw.2.2 z hz))
 have hd2 : d ≤ 64 := by omega
 have e1 : stT d (.mk 9 a none0 0 (x :: v :: es)) = lineT d (⟨#[112, 117, 116, 32]⟩ ++ exT x ++ ⟨#[40]⟩ ++ joinT ((v :: es).map exT) ++ ⟨#[41, 59]⟩) := rfl
 have e2 : stA (.mk 9 a none0 0 (x :: v :: es)) = [nm ⟨#[112, 117, 116]⟩] ++ exK x ++ [mk3 ⟨#[40]⟩] ++ joinK ((v :: es).map exK) ++ [mk3 ⟨#[41]⟩, mk3 ⟨#[59]⟩] := by simp [stA, stK]
 rw [e1, e2]
 clear e1 e2 hd hw
 unfold ExC at *
 simp only [lineT_size, ByteArray.size_append, cwL_app, cwL_cons, cwL_nil, cw_nm, cw_mk, lit0] at *
 simp at *
 omega
theorem zc_delete (a : Nat) (x : Ast) (gx : RwA x) : StC (.mk 10 a none0 0 [x]) := fun hw d hd => by
 have hx := rw_c gx hw.2.1
 have hd2 : d ≤ 64 := by omega
 have e1 : stT d (.mk 10 a none0 0 [x]) = lineT d (⟨#[100, 101, 108, 101, 116, 101, 32]⟩ ++ exT x ++ ⟨#[59]⟩) := rfl
 have e2 : stA (.mk 10 a none0 0 [x]) = [nm ⟨#[100, 101, 108, 101, 116, 101]⟩] ++ exK x ++ [mk3 ⟨#[59]⟩] := by simp [stA, stK]
 rw [e1, e2]
 clear e1 e2 hd hw
 unfold ExC at *
 simp only [lineT_size, ByteArray.size_append, cwL_app, cwL_cons, cwL_nil, cw_nm, cw_mk, lit0] at *
 simp at *
 omega
theorem zc_scan (a : Nat) (t : ByteArray) (x y : Ast) (gx : Wd x) (gy : Wd y) : StC (.mk 11 a t 0 [x, y]) := fun hw d hd => by
 skip
 have hx := wd_c gx
 have hy := wd_c gy
 have hd2 : d ≤ 64 := by omega
 have e1 : stT d (.mk 11 a t 0 [x, y]) = lineT d (⟨#[115, 99, 97, 110, 32]⟩ ++ t ++ ⟨#[32, 61, 32]⟩ ++ exT x ++ ⟨#[46]⟩ ++ exT y ++ ⟨#[59]⟩) := rfl
 have e2 : stA (.mk 11 a t 0 [x, y]) = [nm ⟨#[115, 99, 97, 110]⟩] ++ [nm t] ++ [mk3 ⟨#[61]⟩] ++ exK x ++ [mk3 ⟨#[46]⟩] ++ exK y ++ [mk3 ⟨#[59]⟩] := by simp [stA, stK]
 rw [e1, e2]
 clear e1 e2 hd hw
 unfold ExC at *
 simp only [lineT_size, ByteArray.size_append, cwL_app, cwL_cons, cwL_nil, cw_nm, cw_mk, lit0] at *
 simp at *
 omega
theorem zc_lock0 (a : Nat) (x : Ast) (gx : Wd x) : StC (.mk 12 a none0 0 [x]) := fun hw d hd => by
 have hx := wd_c gx
 have hd2 : d ≤ 64 := by omega
 have e1 : stT d (.mk 12 a none0 0 [x]) = lineT d (⟨#[108, 111, 99, 107, 32]⟩ ++ exT x ++ ⟨#[32, 115, 104, 97, 114, 101, 100]⟩ ++ ⟨#[59]⟩) := rfl
 have e2 : stA (.mk 12 a none0 0 [x]) = [nm ⟨#[108, 111, 99, 107]⟩] ++ exK x ++ [nm ⟨#[115, 104, 97, 114, 101, 100]⟩] ++ [mk3 ⟨#[59]⟩] := by simp [stA, stK]
 rw [e1, e2]
 clear e1 e2 hd hw
 unfold ExC at *
 simp only [lineT_size, ByteArray.size_append, cwL_app, cwL_cons, cwL_nil, cw_nm, cw_mk, lit0] at *
 simp at *
 omega
theorem zc_lock1 (a : Nat) (x : Ast) (gx : Wd x) : StC (.mk 12 a none0 1 [x]) := fun hw d hd => by
 have hx := wd_c gx
 have hd2 : d ≤ 64 := by omega
 have e1 : stT d (.mk 12 a none0 1 [x]) = lineT d (⟨#[108, 111, 99, 107, 32]⟩ ++ exT x ++ ⟨#[32, 97, 108, 108]⟩ ++ ⟨#[59]⟩) := rfl
 have e2 : stA (.mk 12 a none0 1 [x]) = [nm ⟨#[108, 111, 99, 107]⟩] ++ exK x ++ [nm ⟨#[97, 108, 108]⟩] ++ [mk3 ⟨#[59]⟩] := by simp [stA, stK]
 rw [e1, e2]
 clear e1 e2 hd hw
 unfold ExC at *
 simp only [lineT_size, ByteArray.size_append, cwL_app, cwL_cons, cwL_nil, cw_nm, cw_mk, lit0] at *
 simp at *
 omega
theorem zc_rel5 (a : Nat) (x : Ast) (gx : Wd x) : StC (.mk 13 a none0 0 [x]) := fun hw d hd => by
 have hx := wd_c gx
 have hd2 : d ≤ 64 := by omega
 have e1 : stT d (.mk 13 a none0 0 [x]) = lineT d (⟨#[114, 101, 108, 101, 97, 115, 101, 32]⟩ ++ exT x ++ ⟨#[59]⟩) := rfl
 have e2 : stA (.mk 13 a none0 0 [x]) = [nm ⟨#[114, 101, 108, 101, 97, 115, 101]⟩] ++ exK x ++ [mk3 ⟨#[59]⟩] := by simp [stA, stK]
 rw [e1, e2]
 clear e1 e2 hd hw
 unfold ExC at *
 simp only [lineT_size, ByteArray.size_append, cwL_app, cwL_cons, cwL_nil, cw_nm, cw_mk, lit0] at *
 simp at *
 omega
theorem zc_rel20 (a : Nat) (x : Ast) (gx : RwA x) : StC (.mk 13 a none0 0 [x]) := fun hw d hd => by
 have hx := rw_c gx hw.2.1
 have hd2 : d ≤ 64 := by omega
 have e1 : stT d (.mk 13 a none0 0 [x]) = lineT d (⟨#[114, 101, 108, 101, 97, 115, 101, 32]⟩ ++ exT x ++ ⟨#[59]⟩) := rfl
 have e2 : stA (.mk 13 a none0 0 [x]) = [nm ⟨#[114, 101, 108, 101, 97, 115, 101]⟩] ++ exK x ++ [mk3 ⟨#[59]⟩] := by simp [stA, stK]
 rw [e1, e2]
 clear e1 e2 hd hw
 unfold ExC at *
 simp only [lineT_size, ByteArray.size_append, cwL_app, cwL_cons, cwL_nil, cw_nm, cw_mk, lit0] at *
 simp at *
 omega
theorem zc_let (a : Nat) (t : ByteArray) (v : Ast) (gv : Ex v) : StC (.mk 16 a t 0 [v]) := fun hw d hd => by
 skip
 have hv := exC_ gv hw.2.1
 have hd2 : d ≤ 64 := by omega
 have e1 : stT d (.mk 16 a t 0 [v]) = lineT d (⟨#[108, 101, 116, 32]⟩ ++ t ++ ⟨#[32, 61, 32]⟩ ++ exT v ++ ⟨#[59]⟩) := rfl
 have e2 : stA (.mk 16 a t 0 [v]) = [nm ⟨#[108, 101, 116]⟩] ++ [nm t] ++ [mk3 ⟨#[61]⟩] ++ exK v ++ [mk3 ⟨#[59]⟩] := by simp [stA, stK]
 rw [e1, e2]
 clear e1 e2 hd hw
 unfold ExC at *
 simp only [lineT_size, ByteArray.size_append, cwL_app, cwL_cons, cwL_nil, cw_nm, cw_mk, lit0] at *
 simp at *
 omega
theorem zc_emit (a : Nat) (v : Ast) (gv : Ex v) : StC (.mk 17 a none0 0 [v]) := fun hw d hd => by
 have hv := exC_ gv hw.2.1
 have hd2 : d ≤ 64 := by omega
 have e1 : stT d (.mk 17 a none0 0 [v]) = lineT d (⟨#[101, 109, 105, 116, 32]⟩ ++ exT v ++ ⟨#[59]⟩) := rfl
 have e2 : stA (.mk 17 a none0 0 [v]) = [nm ⟨#[101, 109, 105, 116]⟩] ++ exK v ++ [mk3 ⟨#[59]⟩] := by simp [stA, stK]
 rw [e1, e2]
 clear e1 e2 hd hw
 unfold ExC at *
 simp only [lineT_size, ByteArray.size_append, cwL_app, cwL_cons, cwL_nil, cw_nm, cw_mk, lit0] at *
 simp at *
 omega
theorem zc_rollback (a : Nat) : StC (.mk 18 a none0 0 []) := fun hw d hd => by
 have hd2 : d ≤ 64 := by omega
 have e1 : stT d (.mk 18 a none0 0 []) = lineT d (⟨#[114, 111, 108, 108, 98, 97, 99, 107, 59]⟩) := rfl
 have e2 : stA (.mk 18 a none0 0 []) = [nm ⟨#[114, 111, 108, 108, 98, 97, 99, 107]⟩, mk3 ⟨#[59]⟩] := by simp [stA, stK]
 rw [e1, e2]
 clear e1 e2 hd hw
 skip
 simp only [lineT_size, ByteArray.size_append, cwL_app, cwL_cons, cwL_nil, cw_nm, cw_mk, lit0] at *
 simp at *
 omega
theorem zc_chop (a : Nat) : StC (.mk 19 a none0 0 []) := fun hw d hd => by
 have hd2 : d ≤ 64 := by omega
 have e1 : stT d (.mk 19 a none0 0 []) = lineT d (⟨#[99, 104, 111, 112, 59]⟩) := rfl
 have e2 : stA (.mk 19 a none0 0 []) = [nm ⟨#[99, 104, 111, 112]⟩, mk3 ⟨#[59]⟩] := by simp [stA, stK]
 rw [e1, e2]
 clear e1 e2 hd hw
 skip
 simp only [lineT_size, ByteArray.size_append, cwL_app, cwL_cons, cwL_nil, cw_nm, cw_mk, lit0] at *
 simp at *
 omega
theorem stmts_c : ∀ (ks : List Ast), (∀ z ∈ ks, StC z) → wfRL ks → ∀ d, (∀ z ∈ ks, d + nA z ≤ 64) → (stL d ks).size ≤ 56 * cwL (stAL ks)
 | [], _, _, d, _ => by simp only [stL]; exact Nat.zero_le _
 | x :: r, h, hw, d, hd => by
  have h1 := h x (by simp) hw.1 d (hd x (by simp))
  have h2 := stmts_c r (fun z hz => h z (by simp [hz])) hw.2 d (fun z hz => hd z (by simp [hz]))
  simp only [stL, stAL, ByteArray.size_append, cwL_app]
  omega
theorem blk_c (b : Nat) (ks : List Ast) (h : ∀ z ∈ ks, StC z) (hw : wfR (.mk 6 b none0 0 ks)) (d : Nat) (hd : d + nA (.mk 6 b none0 0 ks) ≤ 64) : (blT d (.mk 6 b none0 0 ks)).size ≤ 56 * cwL (stAL ks) := stmts_c ks h hw.2 d (fun z hz => by
 have h1 := nAL_mem hz
 have h2 : nA (.mk 6 b none0 0 ks) = nAL ks := nA_no rfl
 omega)
theorem zc_if30 (a : Nat) (x y : Ast) (b : Nat) (ks : List Ast) (gx : Ex x) (gy : Ex y) (ih : ∀ z ∈ ks, StC z) : StC (.mk 14 a none0 0 [x, y, .mk 6 b none0 0 ks]) := fun hw d hd => by
 have hx := exC_ gx hw.2.1
 have hy := exC_ gy hw.2.2.1
 have hb := bound_bl (Nat.le_refl _) (k := 14) (a := a) (s := none0) (n := 0) (ks := [x, y, .mk 6 b none0 0 ks]) (b := b) (l := ks) (by simp)
 have h2 := blk_c b ks ih hw.2.2.2.1 (d + 1) (by omega)
 have hd2 : d ≤ 64 := by omega
 have e1 : stT d (.mk 14 a none0 0 [x, y, .mk 6 b none0 0 ks]) = lineT d (⟨#[105, 102, 32]⟩ ++ exT x ++ ⟨#[32, 60, 32]⟩ ++ exT y ++ ⟨#[32, 123]⟩) ++ blT (d + 1) (.mk 6 b none0 0 ks) ++ none0 ++ lineT d ⟨#[125]⟩ := rfl
 have e2 : stA (.mk 14 a none0 0 [x, y, .mk 6 b none0 0 ks]) = ([nm ⟨#[105, 102]⟩] ++ exK x ++ [mk3 ⟨#[60]⟩] ++ exK y ++ [mk3 ⟨#[123]⟩]) ++ stAL ks ++ [] ++ [mk3 ⟨#[125]⟩] := by simp [stA, stK, blAL, blA]
 rw [e1, e2]
 clear e1 e2 hd hw hb
 unfold ExC at *
 simp only [lineT_size, ByteArray.size_append, cwL_app, cwL_cons, cwL_nil, cw_nm, cw_mk, lit0] at *
 simp at *
 omega
theorem zc_if40 (a : Nat) (x y : Ast) (b : Nat) (ks : List Ast) (c : Nat) (ls : List Ast) (gx : Ex x) (gy : Ex y) (ih : ∀ z ∈ ks, StC z) (ih2 : ∀ z ∈ ls, StC z) : StC (.mk 14 a none0 0 [x, y, .mk 6 b none0 0 ks, .mk 6 c none0 0 ls]) := fun hw d hd => by
 have hx := exC_ gx hw.2.1
 have hy := exC_ gy hw.2.2.1
 have hb := bound_bl (Nat.le_refl _) (k := 14) (a := a) (s := none0) (n := 0) (ks := [x, y, .mk 6 b none0 0 ks, .mk 6 c none0 0 ls]) (b := b) (l := ks) (by simp)
 have hc := bound_bl (Nat.le_refl _) (k := 14) (a := a) (s := none0) (n := 0) (ks := [x, y, .mk 6 b none0 0 ks, .mk 6 c none0 0 ls]) (b := c) (l := ls) (by simp)
 have h2 := blk_c b ks ih hw.2.2.2.1 (d + 1) (by omega)
 have h4 := blk_c c ls ih2 hw.2.2.2.2.1 (d + 1) (by omega)
 have hd2 : d ≤ 64 := by omega
 have e1 : stT d (.mk 14 a none0 0 [x, y, .mk 6 b none0 0 ks, .mk 6 c none0 0 ls]) = lineT d (⟨#[105, 102, 32]⟩ ++ exT x ++ ⟨#[32, 60, 32]⟩ ++ exT y ++ ⟨#[32, 123]⟩) ++ blT (d + 1) (.mk 6 b none0 0 ks) ++ (lineT d ⟨#[125, 32, 101, 108, 115, 101, 32, 123]⟩ ++ blT (d + 1) (.mk 6 c none0 0 ls)) ++ lineT d ⟨#[125]⟩ := rfl
 have e2 : stA (.mk 14 a none0 0 [x, y, .mk 6 b none0 0 ks, .mk 6 c none0 0 ls]) = ([nm ⟨#[105, 102]⟩] ++ exK x ++ [mk3 ⟨#[60]⟩] ++ exK y ++ [mk3 ⟨#[123]⟩]) ++ stAL ks ++ ([mk3 ⟨#[125]⟩, nm ⟨#[101, 108, 115, 101]⟩, mk3 ⟨#[123]⟩] ++ stAL ls) ++ [mk3 ⟨#[125]⟩] := by simp [stA, stK, blAL, blA]
 rw [e1, e2]
 clear e1 e2 hd hw hb hc
 unfold ExC at *
 simp only [lineT_size, ByteArray.size_append, cwL_app, cwL_cons, cwL_nil, cw_nm, cw_mk, lit0] at *
 simp at *
 omega
theorem zc_if31 (a : Nat) (x y : Ast) (b : Nat) (ks : List Ast) (gx : Ex x) (gy : Ex y) (ih : ∀ z ∈ ks, StC z) : StC (.mk 14 a none0 1 [x, y, .mk 6 b none0 0 ks]) := fun hw d hd => by
 have hx := exC_ gx hw.2.1
 have hy := exC_ gy hw.2.2.1
 have hb := bound_bl (Nat.le_refl _) (k := 14) (a := a) (s := none0) (n := 1) (ks := [x, y, .mk 6 b none0 0 ks]) (b := b) (l := ks) (by simp)
 have h2 := blk_c b ks ih hw.2.2.2.1 (d + 1) (by omega)
 have hd2 : d ≤ 64 := by omega
 have e1 : stT d (.mk 14 a none0 1 [x, y, .mk 6 b none0 0 ks]) = lineT d (⟨#[105, 102, 32]⟩ ++ exT x ++ ⟨#[32, 61, 61, 32]⟩ ++ exT y ++ ⟨#[32, 123]⟩) ++ blT (d + 1) (.mk 6 b none0 0 ks) ++ none0 ++ lineT d ⟨#[125]⟩ := rfl
 have e2 : stA (.mk 14 a none0 1 [x, y, .mk 6 b none0 0 ks]) = ([nm ⟨#[105, 102]⟩] ++ exK x ++ [mk3 ⟨#[61, 61]⟩] ++ exK y ++ [mk3 ⟨#[123]⟩]) ++ stAL ks ++ [] ++ [mk3 ⟨#[125]⟩] := by simp [stA, stK, blAL, blA]
 rw [e1, e2]
 clear e1 e2 hd hw hb
 unfold ExC at *
 simp only [lineT_size, ByteArray.size_append, cwL_app, cwL_cons, cwL_nil, cw_nm, cw_mk, lit0] at *
 simp at *
 omega
theorem zc_if41 (a : Nat) (x y : Ast) (b : Nat) (ks : List Ast) (c : Nat) (ls : List Ast) (gx : Ex x) (gy : Ex y) (ih : ∀ z ∈ ks, StC z) (ih2 : ∀ z ∈ ls, StC z) : StC (.mk 14 a none0 1 [x, y, .mk 6 b none0 0 ks, .mk 6 c none0 0 ls]) := fun hw d hd => by
 have hx := exC_ gx hw.2.1
 have hy := exC_ gy hw.2.2.1
 have hb := bound_bl (Nat.le_refl _) (k := 14) (a := a) (s := none0) (n := 1) (ks := [x, y, .mk 6 b none0 0 ks, .mk 6 c none0 0 ls]) (b := b) (l := ks) (by simp)
 have hc := bound_bl (Nat.le_refl _) (k := 14) (a := a) (s := none0) (n := 1) (ks := [x, y, .mk 6 b none0 0 ks, .mk 6 c none0 0 ls]) (b := c) (l := ls) (by simp)
 have h2 := blk_c b ks ih hw.2.2.2.1 (d + 1) (by omega)
 have h4 := blk_c c ls ih2 hw.2.2.2.2.1 (d + 1) (by omega)
 have hd2 : d ≤ 64 := by omega
 have e1 : stT d (.mk 14 a none0 1 [x, y, .mk 6 b none0 0 ks, .mk 6 c none0 0 ls]) = lineT d (⟨#[105, 102, 32]⟩ ++ exT x ++ ⟨#[32, 61, 61, 32]⟩ ++ exT y ++ ⟨#[32, 123]⟩) ++ blT (d + 1) (.mk 6 b none0 0 ks) ++ (lineT d ⟨#[125, 32, 101, 108, 115, 101, 32, 123]⟩ ++ blT (d + 1) (.mk 6 c none0 0 ls)) ++ lineT d ⟨#[125]⟩ := rfl
 have e2 : stA (.mk 14 a none0 1 [x, y, .mk 6 b none0 0 ks, .mk 6 c none0 0 ls]) = ([nm ⟨#[105, 102]⟩] ++ exK x ++ [mk3 ⟨#[61, 61]⟩] ++ exK y ++ [mk3 ⟨#[123]⟩]) ++ stAL ks ++ ([mk3 ⟨#[125]⟩, nm ⟨#[101, 108, 115, 101]⟩, mk3 ⟨#[123]⟩] ++ stAL ls) ++ [mk3 ⟨#[125]⟩] := by simp [stA, stK, blAL, blA]
 rw [e1, e2]
 clear e1 e2 hd hw hb hc
 unfold ExC at *
 simp only [lineT_size, ByteArray.size_append, cwL_app, cwL_cons, cwL_nil, cw_nm, cw_mk, lit0] at *
 simp at *
 omega
theorem zc_for (a : Nat) (t : ByteArray) (x y : Ast) (b : Nat) (ks : List Ast) (gx : Ex x) (gy : Ex y) (ih : ∀ z ∈ ks, StC z) : StC (.mk 15 a t 0 [x, y, .mk 6 b none0 0 ks]) := fun hw d hd => by
 have hx := exC_ gx hw.2.1
 have hy := exC_ gy hw.2.2.1
 have hb := bound_bl (Nat.le_refl _) (k := 15) (a := a) (s := t) (n := 0) (ks := [x, y, .mk 6 b none0 0 ks]) (b := b) (l := ks) (by simp)
 have h2 := blk_c b ks ih hw.2.2.2.1 (d + 1) (by omega)
 have hd2 : d ≤ 64 := by omega
 have e1 : stT d (.mk 15 a t 0 [x, y, .mk 6 b none0 0 ks]) = lineT d (⟨#[102, 111, 114, 32]⟩ ++ t ++ ⟨#[32, 61, 32]⟩ ++ exT x ++ ⟨#[32, 116, 111, 32]⟩ ++ exT y ++ ⟨#[32, 123]⟩) ++ blT (d + 1) (.mk 6 b none0 0 ks) ++ lineT d ⟨#[125]⟩ := rfl
 have e2 : stA (.mk 15 a t 0 [x, y, .mk 6 b none0 0 ks]) = ([nm ⟨#[102, 111, 114]⟩] ++ [nm t] ++ [mk3 ⟨#[61]⟩] ++ exK x ++ [nm ⟨#[116, 111]⟩] ++ exK y ++ [mk3 ⟨#[123]⟩]) ++ stAL ks ++ [mk3 ⟨#[125]⟩] := by simp [stA, stK, blAL, blA]
 rw [e1, e2]
 clear e1 e2 hd hw hb
 unfold ExC at *
 simp only [lineT_size, ByteArray.size_append, cwL_app, cwL_cons, cwL_nil, cw_nm, cw_mk, lit0] at *
 simp at *
 omega
theorem st_c {x : Ast} (h : StA x) : StC x := by
 induction h with
 | read a t n x y hn hx hy =>
  rcases hn with rfl | rfl
  · exact zc_read0 a t x y hx hy
  · exact zc_read1 a t x y hx hy
 | set a x y v hx hy hv => exact zc_set a x y v hx hy hv
 | put a x v es hx hv hs => exact zc_put a x v es hx hv hs
 | delete a x hx => exact zc_delete a x hx
 | scan a t x y hx hy => exact zc_scan a t x y hx hy
 | lock a n x hn hx =>
  rcases hn with rfl | rfl
  · exact zc_lock0 a x hx
  · exact zc_lock1 a x hx
 | rel5 a x hx => exact zc_rel5 a x hx
 | rel20 a x hx => exact zc_rel20 a x hx
 | if3 a n x y b ks hn hx hy hk ih =>
  rcases hn with rfl | rfl
  · exact zc_if30 a x y b ks hx hy ih
  · exact zc_if31 a x y b ks hx hy ih
 | if4 a n x y b ks c ls hn hx hy hk hl ih ih2 =>
  rcases hn with rfl | rfl
  · exact zc_if40 a x y b ks c ls hx hy ih ih2
  · exact zc_if41 a x y b ks c ls hx hy ih ih2
 | for_ a t p q n m b ks hk ih => exact zc_for a t _ _ b ks (.num p n) (.num q m) ih
 | let_ a t v hv => exact zc_let a t v hv
 | emit a v hv => exact zc_emit a v hv
 | rollback a => exact zc_rollback a
 | chop a => exact zc_chop a
def PtC (x : Ast) : Prop := wfR x → deepPt x → (partT x).size ≤ 56 * cwL (partA x)
theorem qc_table (a : Nat) (t : ByteArray) (w : Ast) (ws : List Ast) (gw : Wd w) (h : ∀ z ∈ ws, Wd z) : PtC (.mk 2 a t 0 (w :: ws)) := fun hw hdp => by
 have hj := join_c (w :: ws) (fun z hz => wd_c (by rcases List.mem_cons.1 hz with rfl | hz; exact gw; exact h z hz))
 have e1 : partT (.mk 2 a t 0 (w :: ws)) = lineT 0 (⟨#[116, 97, 98, 108, 101, 32]⟩ ++ t ++ ⟨#[40]⟩ ++ namesOf (w :: ws) ++ ⟨#[41, 59]⟩) := rfl
 have e2 : partA (.mk 2 a t 0 (w :: ws)) = [nm ⟨#[116, 97, 98, 108, 101]⟩] ++ [nm t] ++ [mk3 ⟨#[40]⟩] ++ joinK ((w :: ws).map exK) ++ [mk3 ⟨#[41]⟩, mk3 ⟨#[59]⟩] := by simp [partA]
 rw [e1, e2]
 clear e1 e2 hw hdp
 unfold namesOf
 generalize joinT ((w :: ws).map exT) = JT at *
 generalize joinK ((w :: ws).map exK) = JK at *
 simp only [lineT_size, ByteArray.size_append, cwL_app, cwL_cons, cwL_nil, cw_nm, cw_mk, lit0] at *
 simp at *
 omega
theorem qc_proc0 (a : Nat) (t : ByteArray) (b : Nat) (ns : List Ast) (c : Nat) (ks : List Ast) (gw : ∀ z ∈ ns, WdN z) (hk : ∀ z ∈ ks, StA z) : PtC (.mk 3 a t 0 [.mk 4 b none0 0 ns, .mk 6 c none0 0 ks]) := fun hw hdp => by
 have hj := join_c ns (fun z hz => wd_c (gw z hz).1)
 have hb : ownB 6 + nA (.mk 6 c none0 0 ks) ≤ 64 := hdp (.mk 6 c none0 0 ks) (by simp [Ast.kids])
 have ho : ownB 6 = 1 := rfl
 have h2 := blk_c c ks (fun z hz => st_c (hk z hz)) hw.2.2.1 1 (by omega)
 have e1 : partT (.mk 3 a t 0 [.mk 4 b none0 0 ns, .mk 6 c none0 0 ks]) = lineT 0 (⟨#[112, 114, 111, 99, 32]⟩ ++ t ++ ⟨#[40]⟩ ++ namesOf ns ++ ⟨#[41]⟩ ++ ⟨#[]⟩ ++ ⟨#[32, 123]⟩) ++ blT 1 (.mk 6 c none0 0 ks) ++ lineT 0 ⟨#[125]⟩ := rfl
 have e2 : partA (.mk 3 a t 0 [.mk 4 b none0 0 ns, .mk 6 c none0 0 ks]) = ([nm ⟨#[112, 114, 111, 99]⟩] ++ [nm t] ++ [mk3 ⟨#[40]⟩] ++ joinK (ns.map exK) ++ [mk3 ⟨#[41]⟩] ++ [] ++ [mk3 ⟨#[123]⟩]) ++ stAL ks ++ [mk3 ⟨#[125]⟩] := by simp [partA, blA, Ast.kids]
 rw [e1, e2]
 clear e1 e2 hw hdp hb ho
 unfold namesOf
 simp only [lineT_size, ByteArray.size_append, cwL_app, cwL_cons, cwL_nil, cw_nm, cw_mk, lit0] at *
 simp at *
 omega
theorem qc_proc1 (a : Nat) (t : ByteArray) (b : Nat) (ns : List Ast) (c : Nat) (ks : List Ast) (gw : ∀ z ∈ ns, WdN z) (hk : ∀ z ∈ ks, StA z) : PtC (.mk 3 a t 1 [.mk 4 b none0 0 ns, .mk 6 c none0 0 ks]) := fun hw hdp => by
 have hj := join_c ns (fun z hz => wd_c (gw z hz).1)
 have hb : ownB 6 + nA (.mk 6 c none0 0 ks) ≤ 64 := hdp (.mk 6 c none0 0 ks) (by simp [Ast.kids])
 have ho : ownB 6 = 1 := rfl
 have h2 := blk_c c ks (fun z hz => st_c (hk z hz)) hw.2.2.1 1 (by omega)
 have e1 : partT (.mk 3 a t 1 [.mk 4 b none0 0 ns, .mk 6 c none0 0 ks]) = lineT 0 (⟨#[112, 114, 111, 99, 32]⟩ ++ t ++ ⟨#[40]⟩ ++ namesOf ns ++ ⟨#[41]⟩ ++ ⟨#[32, 115, 105, 110, 103, 108, 101]⟩ ++ ⟨#[32, 123]⟩) ++ blT 1 (.mk 6 c none0 0 ks) ++ lineT 0 ⟨#[125]⟩ := rfl
 have e2 : partA (.mk 3 a t 1 [.mk 4 b none0 0 ns, .mk 6 c none0 0 ks]) = ([nm ⟨#[112, 114, 111, 99]⟩] ++ [nm t] ++ [mk3 ⟨#[40]⟩] ++ joinK (ns.map exK) ++ [mk3 ⟨#[41]⟩] ++ [nm ⟨#[115, 105, 110, 103, 108, 101]⟩] ++ [mk3 ⟨#[123]⟩]) ++ stAL ks ++ [mk3 ⟨#[125]⟩] := by simp [partA, blA, Ast.kids]
 rw [e1, e2]
 clear e1 e2 hw hdp hb ho
 unfold namesOf
 simp only [lineT_size, ByteArray.size_append, cwL_app, cwL_cons, cwL_nil, cw_nm, cw_mk, lit0] at *
 simp at *
 omega
theorem pt_c {x : Ast} (h : Pt x) : PtC x := by
 cases h with
 | table a t w ws hw h => exact qc_table a t w ws hw h
 | proc a t n hn b ns c ks hw hk =>
  rcases hn with rfl | rfl
  · exact qc_proc0 a t b ns c ks hw hk
  · exact qc_proc1 a t b ns c ks hw hk
theorem prog_c : ∀ (ks : List Ast), (∀ z ∈ ks, Pt z) → wfRL ks → (∀ z ∈ ks, deepPt z) → (progL ks).size ≤ 56 * cwL (progA ks)
 | [], _, _, _ => by simp only [progL]; exact Nat.zero_le _
 | x :: r, h, hw, hd => by
  have h1 := pt_c (h x (by simp)) hw.1 (hd x (by simp))
  have h2 := prog_c r (fun z hz => h z (by simp [hz])) hw.2 (fun z hz => hd z (by simp [hz]))
  simp only [progL, progA, ByteArray.size_append, cwL_app]
  omega
theorem lex_w : ∀ (f p : Nat) (l : List Int) (ts : List Tok), l.length < f → lexN f p l = .ok ts → swL (ts.map ptOf) ≤ l.length + 1
 | 0, p, l, ts, h, _ => by omega
 | f + 1, p, l, ts, hl, h => by
  simp only [lexN] at h
  split at h
  · simp only [Except.ok.injEq] at h
    subst h
    have e : swL ([Tok.endAt (p + blk false l)].map ptOf) = 1 := by simp [swL, sw, ptOf, Tok.endAt, strOfNums]; rfl
    rw [e]
    omega
  · rename_i c r hd
    have hcr : (c :: r).length = l.length - blk false l := by rw [← hd, List.length_drop]
    split at h
    · simp at h
    · rename_i k len n hs
      have hln := step_len hs
      cases hu : lexN f (p + blk false l + len) ((c :: r).drop len) with
      | error e => rw [hu] at h; simp [pre] at h
      | ok us =>
       rw [hu] at h
       simp only [pre, Except.ok.injEq, List.singleton_append] at h
       subst h
       have ih := lex_w f _ _ us (by rw [List.length_drop]; omega) hu
       rw [List.length_drop] at ih
       rw [List.map_cons, swL_cons]
       have e : sw (ptOf ⟨k, p + blk false l, p + blk false l + len, (c :: r).take len, n⟩) = max 1 len := by
        show max 1 (strOfNums ((c :: r).take len)).size = _
        rw [strOfNums_size, List.length_take]
        omega
       rw [e]
       omega
theorem fits_src {xs : List Int} {ns : List Nd} (h : parseS xs = .ok ns) (hl : xs.length ≤ 1000) : ∃ a0 ks, ns = flat 0 (.mk 1 a0 none0 0 ks) ∧ wfR (.mk 1 a0 none0 0 ks) ∧ (∀ z ∈ ks, deepPt z) ∧ (progL ks).size ≤ 65536 := by
 obtain ⟨hr, ht⟩ := parse_right h (by omega)
 have h0 := (parse_few h (by omega)).1
 unfold parseS at h
 cases hx : lexS xs with
 | error e => rw [hx] at h; simp at h
 | ok ts =>
  rw [hx] at h
  dsimp only at h
  cases hp : programP (ts.map ptOf) with
  | err p c => rw [hp] at h; simp at h
  | ok a l =>
   rw [hp] at h
   simp only [Except.ok.injEq] at h
   obtain ⟨p, ks, rfl, hw, hd⟩ := prog_w hp
   have hs := lex_w _ _ _ _ (Nat.lt_succ_self _) hx
   subst h
   have hsz : (Ast.mk 1 p none0 0 ks).size ≤ 70000 := by
    rw [flat_length] at h0
    exact h0
   have hwf : wfR (.mk 1 p none0 0 ks) := wfR_wfA 0 _ hsz ht ((right_flat _).1 hr).2
   have hk : (ks.map Ast.kind).all (fun k => k == 2 || k == 3) = true := by simpa [kidsR] using hwf.parts.2.2.2
   have hq : ∀ z ∈ ks, Pt z := fun z hz => pt_of (wfRL_mem hwf.2 z hz) (by
    have := (List.all_eq_true.1 hk) _ (List.mem_map_of_mem hz)
    simpa using this)
   have hc := prog_c ks hq hwf.2 hd
   exact ⟨p, ks, rfl, hwf, hd, by omega⟩
end
namespace Tr
open Go.RowKit
structure But (g : Nat) (W V : World) : Prop where
 below : Below g W V
 block : ∀ b, b ≠ g → V.heap[b]? = W.heap[b]?
theorem But.refl (g : Nat) (W : World) : But g W W := ⟨Below.refl _ _, fun _ _ => rfl⟩
theorem But.cell {g : Nat} {W V : World} (h : But g W V) {p : Addr} (hp : p.block ≠ g) : V.cell? p = W.cell? p := World.cell?_of_block (w := W) (h.block p.block hp)
theorem But.set {g : Nat} {W V : World} (h : But g W V) (i : Nat) (v : Value) : But g W (V.setCell ⟨g, i, none⟩ v) :=
 ⟨h.below.setCell (Nat.le_refl _) v, fun b hb => (Below.heap_setCell V ⟨g, i, none⟩ v b hb).trans (h.block b hb)⟩
theorem But.drewN {g : Nat} {W V : World} (h : But g W V) (n : Nat) : But g W (V.drewN n) := ⟨h.below.trans (drewN_below _ _ _), h.block⟩
end Tr
section
open Go.RowKit
theorem sameBytes_at (w : World) (p p2 : Option Addr) (n c c2 : Nat) (xs : List Int) (h1 : Src w p n c xs) (h2 : Src w p2 n c2 xs) :
 Calls Tryz.prog 33 #[.slice p n c, .slice p2 n c2] w fun e w' => e = .returned (.bool true) ∧ w = w' := by
 have e1 := src_conv h1
 have e2 := src_conv h2
 generalize strOfNums xs = s at *
 clear h1 h2
 go_enter Tryz.func33, Tryz.ntmps33
 go_wp2
 go_ret
 exact ⟨rfl, rfl⟩
end
section
open Go.RowKit Tr Go.Shelf
theorem src_row {W : World} {base : Nat} {v : Value} {S : ByteArray} (h : W.ownsRow base 5 1 v S.size (Lib.strCells S)) : ∃ p c, v = .slice p S.size c ∧ Src W p S.size c (Tr.bytesI S) := by
 have hlen : (Tr.bytesI S).length = S.size := Tr.bytesI_length S
 have hb := Tr.bytesI_byte S
 rcases h.2 with ⟨rfl, h2⟩ | ⟨g, cap, cur, rfl, hbg, hgl, hcl, hrow⟩
 · rw [h2]
   exact ⟨none, 0, rfl, by omega, hb, Or.inl ⟨rfl, rfl⟩⟩
 · refine ⟨_, _, rfl, hlen, hb, Or.inr ⟨g, 0, rfl, by omega, (h.lt g rfl).2, fun i hi => ?_⟩⟩
   rw [Nat.zero_add, h.cellAt i (by omega)]
   have hi' : i < S.data.size := hi
   simp [Lib.strCells, Tr.bytesI, List.getD]
   rw [Array.getElem?_eq_getElem hi']
   exact ⟨_, rfl, rfl⟩
theorem same_noAt {ns ms : List Nd} (h : ns.map noAt = ms.map noAt) : sameP ns ms = true := by
 have hl := noAt_len h
 unfold sameP
 simp only [Bool.and_eq_true, decide_eq_true_eq, List.all_eq_true]
 refine ⟨hl, fun i _ => ?_⟩
 have h1 := noAt_at h i
 generalize ns.getD i default = a at *
 generalize ms.getD i default = b at *
 cases a with
 | mk k1 a1 t1 n1 l1 =>
 cases b with
 | mk k2 a2 t2 n2 l2 =>
 simp only [noAt, Tr.Nd.mk.injEq] at h1
 obtain ⟨rfl, _, rfl, rfl, rfl⟩ := h1
 unfold sameNd
 simp
theorem on_again {ns : List Nd} {a : Ast} {b : Ast} (h : ns.map noAt = (flat 0 b).map noAt) (hz : zA b = zA a) : On ns 0 a := ⟨flat 0 a, by rw [h]; exact (noAt_z hz).symm, Lies.whole a⟩
end
end Go.Proofs.YthdioipfdbbmmaaGreatDoor
