/- Contracts on the way to the laws of layer 5: ParseSe, ParseSf, ParseSg, LexH, LexI, LexV, LexX, ParseLp. -/
import Derived.Test.YtpemghcafbedeaaGreatDoorKah
import Derived.Test.YtpemghcafbedeaaGreatDoorKao
import Derived.Test.YtpemghcafbedeaaGreatDoorKau
import Derived.Test.YtpemghcafbedeaaGreatDoorKav
import Derived.Deep.LoopGhost
import Derived.Deep.RegionHeld3
import Derived.Deep.Cut
import Derived.Lib.ConvBytes
import Derived.Lib.AppendStr
import Derived.Deep.AppendLies
set_option linter.all false
section
namespace Go.Proofs.YtpemghcafbedeaaGreatDoor.Rf
open Go.RowKit Par
section
variable {R : Res (List Ast)} {u : PT} {ks : List Ast} {l : List PT} {S : Res (List Ast)} {s : ByteArray}
theorem nxt_cons {s : ByteArray} (hy : nxt (.ok ks l) s = true) : ∃ u l', l = u :: l' ∧ u.txt = s := by
  cases l with
  | nil => simp [nxt] at hy
  | cons t l => exact ⟨t, l, rfl, by simpa only [nxt, decide_eq_true_eq] using hy⟩
theorem Opn.up {p : List Nd} {k : Int} {a : Nat} {t : ByteArray} {n : Int} {Q B : Nat} {md : List Nd} (h : Opn p k a t n Q B R md) : Opn p k a t n (Q + 1) B R md := by
  cases R with
  | err q c => exact h
  | ok ks l => exact ⟨by have := h.1; omega, h.2⟩
theorem part_close {F : Par Ast} {kk n2 : Int} (hS : then' S (fun ks2 l1 => Res.ok (Ast.mk kk u.at' s n2 ks2) l1) = F (u :: l)) :
    (then' (Res.ok ks (u :: l)) fun ks _ => then' S fun ks2 l1 => Res.ok (ks ++ [Ast.mk kk u.at' s n2 ks2]) l1) = knd (.ok ks (u :: l)) F := by
  rw [then_ok, then_pure, hS]
  simp only [knd, then', Par.bind, Par.pure]
  cases F (u :: l) <;> rfl
theorem tbl_eq (hu : u.txt = ⟨#[116, 97, 98, 108, 101]⟩) (hd : hdk (Res.ok [] l : Res (List Ast)) = 1 → s = hdt (Res.ok [] l : Res (List Ast))) (hS : S = then' (knd (skp (skp (Res.ok [] l : Res (List Ast)) (takeP 1)) (expectP ⟨#[40]⟩)) wordP) (many (listStep wordP))) :
    then' (skp (skp S (expectP ⟨#[41]⟩)) (expectP ⟨#[59]⟩)) (fun ks2 l1 => Res.ok (Ast.mk 2 u.at' s 0 ks2) l1) = tableP (u :: l) := by
  subst hS
  rw [← list_words]
  have h0 : expectP ⟨#[116, 97, 98, 108, 101]⟩ (u :: l) = .ok u.at' l := by simp only [expectP, if_pos hu]
  cases h1 : takeP 1 l with
  | err q c => simp only [skp, knd, then', Par.bind, Par.pure, tableP, h0, h1]
  | ok x1 l1 =>
    obtain rfl := take_hd hd h1
    cases h2 : expectP ⟨#[40]⟩ l1 with
    | err q c => simp only [skp, knd, then', Par.bind, Par.pure, tableP, h0, h1, h2]
    | ok x2 l2 =>
      cases h3 : wordP l2 with
      | err q c => simp only [skp, knd, then', Par.bind, Par.pure, tableP, wordsP, h0, h1, h2, h3]
      | ok x3 l3 =>
        cases h4 : many wordsStep [x3] l3 with
        | err q c => simp only [skp, knd, then', Par.bind, Par.pure, tableP, wordsP, h0, h1, h2, h3, h4, List.nil_append]
        | ok x4 l4 =>
          cases h5 : expectP ⟨#[41]⟩ l4 with
          | err q c => simp only [skp, knd, then', Par.bind, Par.pure, tableP, wordsP, h0, h1, h2, h3, h4, h5, List.nil_append]
          | ok x5 l5 =>
            cases h6 : expectP ⟨#[59]⟩ l5 with
            | err q c => simp only [skp, knd, then', Par.bind, Par.pure, tableP, wordsP, endP, h0, h1, h2, h3, h4, h5, h6, List.nil_append]
            | ok x6 l6 => simp only [skp, knd, then', Par.bind, Par.pure, tableP, wordsP, endP, h0, h1, h2, h3, h4, h5, h6, List.nil_append]
theorem names_y (hy : nxt (then' R fun _ => (Par.pure [] : Par (List Ast))) ⟨#[41]⟩ = true) :
    (then' R fun ks _ => then' (then' R fun _ => (Par.pure [] : Par (List Ast))) fun ks2 l => Res.ok (ks ++ [Ast.mk 4 (hda R) none0 0 ks2]) l) = knd R namesP := by
  rw [nxt_open] at hy
  cases R with
  | err q c => simp [nxt] at hy
  | ok ks l =>
    cases l with
    | nil => simp [nxt] at hy
    | cons t l =>
      have k1 := is_yes hy
      simp only [then', knd, Par.bind, Par.pure, namesP, peekP, k1, hda, nodeA]
theorem names_n (hy : nxt (then' R fun _ => (Par.pure [] : Par (List Ast))) ⟨#[41]⟩ = false) (hn : ∀ ks l, (then' R fun _ => (Par.pure [] : Par (List Ast))) = .ok ks l → l ≠ []) (hS : S = then' (knd (then' R fun _ => (Par.pure [] : Par (List Ast))) wordP) (many (listStep wordP))) :
    (then' R fun ks _ => then' S fun ks2 l => Res.ok (ks ++ [Ast.mk 4 (hda R) none0 0 ks2]) l) = knd R namesP := by
  subst hS
  rw [nxt_open] at hy
  cases R with
  | err q c => rfl
  | ok ks l =>
    cases l with
    | nil => exact absurd rfl (hn [] [] rfl)
    | cons t l =>
      have k1 := is_no (by simp) hy
      rw [← list_words]
      cases h3 : wordP (t :: l) with
      | err q c => simp only [then', knd, Par.bind, Par.pure, namesP, wordsP, peekP, k1, h3]
      | ok x3 l3 =>
        cases h4 : many wordsStep [x3] l3 with
        | err q c => simp only [then', knd, Par.bind, Par.pure, namesP, wordsP, peekP, k1, h3, h4, List.nil_append]
        | ok x4 l4 => simp only [then', knd, Par.bind, Par.pure, namesP, wordsP, peekP, k1, h3, h4, List.nil_append, hda, nodeA]
def procR (p : Nat) : Par Ast := Par.bind (takeP 1) fun t => Par.bind (expectP ⟨#[40]⟩) fun _ => Par.bind namesP fun ns => Par.bind (expectP ⟨#[41]⟩) fun _ => Par.bind (skipP ⟨#[115, 105, 110, 103, 108, 101]⟩) fun
  | true => Par.bind (blockP 64) fun b => Par.pure (.mk 3 p t.txt 1 [ns, b])
  | false => Par.bind (blockP 64) fun b => Par.pure (.mk 3 p t.txt 0 [ns, b])
theorem procR_eq (hu : u.txt = ⟨#[112, 114, 111, 99]⟩) : procP (u :: l) = procR u.at' l := by
  have h0 : expectP ⟨#[112, 114, 111, 99]⟩ (u :: l) = .ok u.at' l := by simp only [expectP, if_pos hu]
  have h1 : procP (u :: l) = Par.bind (expectP ⟨#[112, 114, 111, 99]⟩) procR (u :: l) := rfl
  rw [h1]
  simp only [Par.bind, h0]
end
theorem prc_y {a : Nat} {l : List PT} {s : ByteArray} (hd : hdk (Res.ok [] l : Res (List Ast)) = 1 → s = hdt (Res.ok [] l : Res (List Ast))) (hy1 : nxt (skp (knd (skp (skp (Res.ok [] l : Res (List Ast)) (takeP 1)) (expectP ⟨#[40]⟩)) (namesP)) (expectP ⟨#[41]⟩)) ⟨#[115, 105, 110, 103, 108, 101]⟩ = true) : then' (knd (skp (skp (knd (skp (skp (Res.ok [] l : Res (List Ast)) (takeP 1)) (expectP ⟨#[40]⟩)) (namesP)) (expectP ⟨#[41]⟩)) (skipP ⟨#[115, 105, 110, 103, 108, 101]⟩)) (blockP 64)) (fun ks2 l1 => Res.ok (Ast.mk 3 a s 1 ks2) l1) = procR a l := by
  cases h1 : takeP 1 l with
  | err q c => simp only [skp, knd, then', Par.bind, Par.pure, procR, h1]
  | ok x1 l1 =>
    obtain rfl := take_hd hd h1
    cases h2 : expectP ⟨#[40]⟩ l1 with
    | err q c => simp only [skp, knd, then', Par.bind, Par.pure, procR, h1, h2]
    | ok x2 l2 =>
      cases h3 : namesP l2 with
      | err q c => simp only [skp, knd, then', Par.bind, Par.pure, procR, h1, h2, h3]
      | ok x3 l3 =>
        cases h4 : expectP ⟨#[41]⟩ l3 with
        | err q c => simp only [skp, knd, then', Par.bind, Par.pure, procR, h1, h2, h3, h4]
        | ok x4 l4 =>
          simp only [skp, knd, then', Par.bind, Par.pure, h1, h2, h3, h4] at hy1
          obtain ⟨t1, m1, e1, k1⟩ := skip_yes hy1
          cases h5 : blockP 64 m1 with
          | err q c => simp only [skp, knd, then', Par.bind, Par.pure, procR, h1, h2, h3, h4, k1, h5]
          | ok x5 l5 =>
            simp only [skp, knd, then', Par.bind, Par.pure, procR, h1, h2, h3, h4, k1, h5, List.nil_append, List.cons_append]
theorem prc_n {a : Nat} {l : List PT} {s : ByteArray} (hd : hdk (Res.ok [] l : Res (List Ast)) = 1 → s = hdt (Res.ok [] l : Res (List Ast))) (hy1 : nxt (skp (knd (skp (skp (Res.ok [] l : Res (List Ast)) (takeP 1)) (expectP ⟨#[40]⟩)) (namesP)) (expectP ⟨#[41]⟩)) ⟨#[115, 105, 110, 103, 108, 101]⟩ = false) (hn1 : ∀ ks l1, (skp (knd (skp (skp (Res.ok [] l : Res (List Ast)) (takeP 1)) (expectP ⟨#[40]⟩)) (namesP)) (expectP ⟨#[41]⟩)) = .ok ks l1 → l1 ≠ []) : then' (knd (skp (knd (skp (skp (Res.ok [] l : Res (List Ast)) (takeP 1)) (expectP ⟨#[40]⟩)) (namesP)) (expectP ⟨#[41]⟩)) (blockP 64)) (fun ks2 l1 => Res.ok (Ast.mk 3 a s 0 ks2) l1) = procR a l := by
  cases h1 : takeP 1 l with
  | err q c => simp only [skp, knd, then', Par.bind, Par.pure, procR, h1]
  | ok x1 l1 =>
    obtain rfl := take_hd hd h1
    cases h2 : expectP ⟨#[40]⟩ l1 with
    | err q c => simp only [skp, knd, then', Par.bind, Par.pure, procR, h1, h2]
    | ok x2 l2 =>
      cases h3 : namesP l2 with
      | err q c => simp only [skp, knd, then', Par.bind, Par.pure, procR, h1, h2, h3]
      | ok x3 l3 =>
        cases h4 : expectP ⟨#[41]⟩ l3 with
        | err q c => simp only [skp, knd, then', Par.bind, Par.pure, procR, h1, h2, h3, h4]
        | ok x4 l4 =>
          simp only [skp, knd, then', Par.bind, Par.pure, h1, h2, h3, h4] at hy1 hn1
          have k1 := skip_no (hn1 _ _ rfl) hy1
          cases h5 : blockP 64 l4 with
          | err q c => simp only [skp, knd, then', Par.bind, Par.pure, procR, h1, h2, h3, h4, k1, h5]
          | ok x5 l5 =>
            simp only [skp, knd, then', Par.bind, Par.pure, procR, h1, h2, h3, h4, k1, h5, List.nil_append, List.cons_append]
end Go.Proofs.YtpemghcafbedeaaGreatDoor.Rf
end
section
namespace Go.Proofs.YtpemghcafbedeaaGreatDoor.Rf
open Go.RowKit Par
section
variable {p : List Nd} {k : Int} {a : Nat} {t : ByteArray} {n : Int} {Q B : Nat} {R : Res (List Ast)} {md : List Nd} {E : Env} {v : Value} {kvs : List Value} {d : Int} {w w' : World} {i : Nat}
set_option maxRecDepth 1000000 in
set_option maxHeartbeats 8000000 in
theorem table_I {ks : List Ast} {l : List PT} (h : In E [] 1 a none0 0 (64 - ((64 : Nat) : Int)) Q B (.ok ks l) w) (hy : nxt (.ok ks l : Res (List Ast)) ⟨#[116, 97, 98, 108, 101]⟩ = true) (hQ : Q + 1310 ≤ B ∧ Q ≤ 199000) :
    Calls Tryz.prog 43 #[.pointer (some ⟨E.b, 0, none⟩)] w fun x w' => x = .returned (.tuple #[]) ∧ In E [] 1 a none0 0 (64 - ((64 : Nat) : Int)) Q B (knd (.ok ks l) tableP) w' := by
  obtain ⟨u, l, rfl, hu⟩ := nxt_cons hy
  have HU := Lib.hid hu
  have HN : Hid (u.txt ≠ none0) := Lib.hid (by rw [hu]; decide)
  have HQ := Lib.hid hQ
  have HR : Hid (64 ≤ 64) := Lib.hid (Nat.le_refl _)
  have HBK := Lib.hid (block_all 64 (Nat.le_refl _))
  have HB : Hid (Q + 1310 ≤ 400000) := Lib.hid (by omega)
  have C1 : Hid (Calls Tryz.prog 96 #[.pointer (some ⟨E.b, 0, none⟩), .int .i64 0] w fun x w' => x = .returned (.tuple #[]) ∧ ∃ v kvs p2, Opn [] 1 a none0 0 Q (Q + 1292) (.ok ks (u :: l)) p2 ∧ At E v kvs p2 (64 - ((64 : Nat) : Int)) (.ok ks (u :: l) : Res (List Ast)) w') := Lib.hid (kid_I (p := []) (h.okB (Q + 1292)) (by omega) (by omega))
  clear h hy hQ hu
  go_enter Tryz.func43, Tryz.ntmps43
  go_wp2_with fail
  (with_reducible refine C1.out.mono ?_)
  rintro x w4 ⟨rfl, v4, kvs4, p2, ho, h4⟩
  have HO := Lib.hid ho
  have C5 := Lib.hid (node_I ho h4 (by omega) (by have := HB.out; omega) 2)
  clear C1 ho h4
  go_wp2_with fail
  (with_reducible refine C5.out.mono ?_)
  rintro x w5 ⟨rfl, h5⟩
  have h5 : In E p2 2 u.at' none0 0 (64 - ((64 : Nat) : Int)) (Q + 1) (Q + 1292 + 1) (.ok [] (u :: l)) w5 := h5
  obtain ⟨i6, h63, c16, cz6, h6⟩ := inc_ok h5 (by omega) HN.out
  have H6 := Lib.hid h6
  clear C5 h5 h6
  go_upto_region 3 with fail
  generalize w5.setCell ⟨E.b, 1, none⟩ (.int .i64 ((i6 : Int) + 1)) = w6 at *
  clear c16 cz6
  obtain ⟨g7, len7, cap7, hn7, hc7⟩ := name_I H6.out.drew (by have := HQ.out; omega)
  have c37 := hn7.c3
  have b07 : (0 : Int) ≤ (p2.length : Int) := by omega
  have b17 : (p2.length : Int) < (len7 : Int) := by have := hn7.lt; omega
  have gb7 := hn7.gb
  have NM7 := Lib.hid hc7
  clear hn7 hc7
  go_wp2_with fail
  go_region_held3 (fun w' => w'.cell? ⟨E.b, 3, none⟩ = some (.slice (some ⟨g7, 0, none⟩) len7 cap7)) (first | exact c37 | exact k37 | exact (World.cell?_of_block (w := v7) (a := ⟨E.b, 3, none⟩) (Below.heap_setCell _ _ _ _ gb7)).trans k37)
    (first
      | (go_at_call 97; (with_reducible refine NM7.out.mono ?_); rintro x v7 ⟨s7, rfl, hd7, hm7, hi7⟩; have k37 := hm7.c3; have z57 := hm7.fz 2; obtain ⟨t57, k57⟩ := hm7.t0; have H7 := Lib.hid hi7; have HD7 := Lib.hid hd7; clear hm7 hi7 hd7))
  generalize v7.setCell ⟨g7, p2.length * 5 + 2, none⟩ (.string s7) = w7 at *
  clear c37 k37 z57 k57 NM7
  have C8 := Lib.hid (take_I H7.out (by have := HQ.out; omega) ⟨#[40]⟩ (by decide) (by decide))
  go_wp2_with fail
  (with_reducible refine C8.out.mono ?_)
  rintro x w8 ⟨rfl, h8⟩
  have H8 := Lib.hid h8
  clear C8 h8
  have C9 := Lib.hid (word_I H8.out (by have := HQ.out; omega) (by have := HB.out; omega))
  go_wp2_with fail
  (with_reducible refine C9.out.mono ?_)
  rintro x w9 ⟨rfl, h9⟩
  have H9 := Lib.hid h9
  clear C9 h9
  go_wp2_with fail
  go_loopg [] (left (knd (skp (skp (Res.ok [] l : Res (List Ast)) (takeP 1)) (expectP ⟨#[40]⟩)) wordP)) (fun g wr => ∃ R1 : Res (List Ast), Hid (left R1 ≤ g) ∧ Hid (then' R1 (many (listStep wordP)) = then' (knd (skp (skp (Res.ok [] l : Res (List Ast)) (takeP 1)) (expectP ⟨#[40]⟩)) wordP) (many (listStep wordP))) ∧ Hid (In E p2 2 u.at' s7 0 (64 - ((64 : Nat) : Int)) Q (Q + 1294 + 2) R1 wr))
  case atStart => exact ⟨_, Lib.hid (Nat.le_refl _), Lib.hid rfl, Lib.hid (H9.out.mono (Nat.le_refl _) (by omega))⟩
  case round =>
    clear H9
    obtain ⟨R1, HG, HE, HL⟩ := hrel
    have C10 := Lib.hid (is_I HL.out ⟨#[44]⟩ (by decide) (by decide))
    obtain ⟨b10, y10⟩ := HL.out.look ⟨#[44]⟩
    rw [y10] at C10
    have HY10 := Lib.hid y10
    have HN10 := Lib.hid HL.out.ne
    clear y10
    go_wp2_with fail
    (with_reducible refine C10.out.mono ?_)
    rintro x wd ⟨rfl, m, rfl⟩
    have H10 := Lib.hid (HL.out.drewN m)
    generalize wr.drewN m = w10 at *
    clear C10
    cases b10 with
    | false =>
      have HE2 := Lib.hid ((list_done HN10.out HY10.out).symm.trans HE.out)
      have C11 := Lib.hid (take_I H10.out (by have := HQ.out; omega) ⟨#[41]⟩ (by decide) (by decide))
      go_wp2_with fail
      (with_reducible refine C11.out.mono ?_)
      rintro x w11 ⟨rfl, h11⟩
      have H11 := Lib.hid h11
      clear C11 h11
      have C12 := Lib.hid (take_I H11.out (by have := HQ.out; omega) ⟨#[59]⟩ (by decide) (by decide))
      go_wp2_with fail
      (with_reducible refine C12.out.mono ?_)
      rintro x w12 ⟨rfl, h12⟩
      have H12 := Lib.hid h12
      clear C12 h12
      have HF := Lib.hid (In.close (B' := B) HO.out (H12.out.mono (Nat.le_refl _) (B' := B) (by have := HQ.out; omega)) (by omega) (by have := HQ.out; omega) (fun q c e => by cases e))
      rw [part_close (tbl_eq HU.out HD7.out HE2.out)] at HF
      go_wp2
      simp [bodyPost, results, Tryz.results43, go_sem]
      exact HF.out
    | true =>
      obtain ⟨ks1, l1, rfl⟩ := nxt_ok HY10.out
      have HL2 := Lib.hid (H10.out.okB (Q + 1294 + 1))
      obtain ⟨i13, h6313, c113, cz13, h13⟩ := (HL2.out.mono (Nat.le_succ _) (Nat.le_refl _)).inc (by have := HQ.out; omega) (by decide) HY10.out
      have H13 := Lib.hid h13
      clear h13
      go_upto_region 8 with fail
      generalize w10.setCell ⟨E.b, 1, none⟩ (.int .i64 ((i13 : Int) + 1)) = w13 at *
      clear c113 cz13
      have C14 := Lib.hid (word_I H13.out (by have := HQ.out; omega) (by have := HB.out; omega))
      go_wp2_with fail
      (with_reducible refine C14.out.mono ?_)
      rintro x w14 ⟨rfl, h14⟩
      have H14 := Lib.hid h14
      clear C14 h14
      have HLT : Hid (left (knd (skp (Res.ok ks1 l1) (skipP ⟨#[44]⟩)) wordP) < gk) := Lib.hid (by have := HG.out; have := list_left less_word HY10.out; omega)
      have HE3 := Lib.hid ((list_more less_word HY10.out).symm.trans HE.out)
      go_wp2_with fail
      go_roundg (left (knd (skp (Res.ok ks1 l1) (skipP ⟨#[44]⟩)) wordP))
      case rel => exact ⟨_, Lib.hid (Nat.le_refl _), HE3, H14⟩
      case measure => exact HLT.out
end
end Go.Proofs.YtpemghcafbedeaaGreatDoor.Rf
end
section
namespace Go.Proofs.YtpemghcafbedeaaGreatDoor.Rf
open Go.RowKit Par
section
variable {p : List Nd} {k : Int} {a : Nat} {t : ByteArray} {n : Int} {Q B : Nat} {R : Res (List Ast)} {md : List Nd} {E : Env} {v : Value} {kvs : List Value} {d : Int} {w w' : World} {i : Nat}
set_option maxRecDepth 1000000 in
set_option maxHeartbeats 8000000 in
theorem proc_J {ks : List Ast} {l : List PT} (h : In E [] 1 a none0 0 (64 - ((64 : Nat) : Int)) (Q + 1) B (.ok ks l) w) (hy : nxt (.ok ks l : Res (List Ast)) ⟨#[112, 114, 111, 99]⟩ = true) (hQ : Q + 1310 ≤ B ∧ Q ≤ 199000) :
    Calls Tryz.prog 44 #[.pointer (some ⟨E.b, 0, none⟩)] w fun x w' => x = .returned (.tuple #[]) ∧ In E [] 1 a none0 0 (64 - ((64 : Nat) : Int)) (Q + 1) B (knd (.ok ks l) procP) w' := by
  obtain ⟨u, l, rfl, hu⟩ := nxt_cons hy
  have HU := Lib.hid hu
  have HN : Hid (u.txt ≠ none0) := Lib.hid (by rw [hu]; decide)
  have HQ := Lib.hid hQ
  have HR : Hid (64 ≤ 64) := Lib.hid (Nat.le_refl _)
  have HBK := Lib.hid (block_all 64 (Nat.le_refl _))
  have HB : Hid (Q + 1310 ≤ 400000) := Lib.hid (by omega)
  have C1 : Hid (Calls Tryz.prog 96 #[.pointer (some ⟨E.b, 0, none⟩), .int .i64 0] w fun x w' => x = .returned (.tuple #[]) ∧ ∃ v kvs p2, Opn [] 1 a none0 0 (Q + 1) (Q + 1292) (.ok ks (u :: l)) p2 ∧ At E v kvs p2 (64 - ((64 : Nat) : Int)) (.ok ks (u :: l) : Res (List Ast)) w') := Lib.hid (kid_I (p := []) (h.okB (Q + 1292)) (by omega) (by omega))
  clear h hy hQ hu
  go_enter Tryz.func44, Tryz.ntmps44
  go_wp2_with fail
  (with_reducible refine C1.out.mono ?_)
  rintro x w4 ⟨rfl, v4, kvs4, p2, ho, h4⟩
  have HO := Lib.hid ho
  have C5 := Lib.hid (node_I ho h4 (by omega) (by have := HB.out; omega) 3)
  clear C1 ho h4
  go_wp2_with fail
  (with_reducible refine C5.out.mono ?_)
  rintro x w5 ⟨rfl, h5⟩
  have h5 : In E p2 3 u.at' none0 0 (64 - ((64 : Nat) : Int)) ((Q + 1) + 1) (Q + 1292 + 1) (.ok [] (u :: l)) w5 := h5
  obtain ⟨i6, h63, c16, cz6, h6⟩ := inc_ok h5 (by omega) HN.out
  have H6 := Lib.hid h6
  clear C5 h5 h6
  go_upto_region 3 with fail
  generalize w5.setCell ⟨E.b, 1, none⟩ (.int .i64 ((i6 : Int) + 1)) = w6 at *
  clear c16 cz6
  obtain ⟨g7, len7, cap7, hn7, hc7⟩ := name_IT H6.out.drew (by have := HQ.out; omega)
  have c37 := hn7.c3
  have b07 : (0 : Int) ≤ (p2.length : Int) := by omega
  have b17 : (p2.length : Int) < (len7 : Int) := by have := hn7.lt; omega
  have gb7 := hn7.gb
  have NM7 := Lib.hid hc7
  clear hn7 hc7
  go_wp2_with fail
  go_region_held3 (fun w' => w'.cell? ⟨E.b, 3, none⟩ = some (.slice (some ⟨g7, 0, none⟩) len7 cap7)) (first | exact c37 | exact k37 | exact (World.cell?_of_block (w := v7) (a := ⟨E.b, 3, none⟩) (Below.heap_setCell _ _ _ _ gb7)).trans k37)
    (first
      | (go_at_call 97; (with_reducible refine NM7.out.mono ?_); rintro x v7 ⟨s7, rfl, hd7, hm7, hi7⟩; have k37 := hm7.c3; have z57 := hm7.fz 2; obtain ⟨t57, k57⟩ := hm7.t0; have H7 := Lib.hid hi7; have HD7 := Lib.hid hd7; clear hm7 hi7 hd7))
  generalize v7.setCell ⟨g7, p2.length * 5 + 2, none⟩ (.string s7) = w7 at *
  clear c37 k37 z57 k57 NM7
  have C8 := Lib.hid (take_I H7.out (by have := HQ.out; omega) ⟨#[40]⟩ (by decide) (by decide))
  go_wp2_with fail
  (with_reducible refine C8.out.mono ?_)
  rintro x w8 ⟨rfl, h8⟩
  have H8 := Lib.hid h8
  clear C8 h8
  have C10 := Lib.hid (kid_I H8.out (by omega) (by have := HB.out; omega))
  go_wp2_with fail
  (with_reducible refine C10.out.mono ?_)
  rintro x w10 ⟨rfl, v10, kvs10, p3, ho, h10⟩
  have HO2 := Lib.hid ho
  have C11 := Lib.hid (node_I ho h10 (by omega) (by have := HB.out; omega) 4)
  clear C10 ho h10
  go_wp2_with fail
  (with_reducible refine C11.out.mono ?_)
  rintro x w11 ⟨rfl, h11⟩
  have H11 := Lib.hid (h11.mono (Nat.le_refl _) (Nat.le_refl _))
  clear C11 h11
  have C12 := Lib.hid (is_I H11.out ⟨#[41]⟩ (by decide) (by decide))
  obtain ⟨b12, y12⟩ := H11.out.look ⟨#[41]⟩
  rw [y12] at C12
  have HY12 := Lib.hid y12
  have HN12 := Lib.hid H11.out.ne
  clear y12
  go_wp2_with fail
  (with_reducible refine C12.out.mono ?_)
  rintro x wd ⟨rfl, m, rfl⟩
  have H12 := Lib.hid (H11.out.drewN m)
  generalize w11.drewN m = w12 at *
  clear C12
  cases b12 with
  | true =>
    have HI := Lib.hid (In.close (B' := Q + 1298) HO2.out.up (H12.out.mono (Nat.le_refl _) (by omega)) (by omega) (by omega) (fun q c e => by rw [e]; rfl))
    rw [names_y HY12.out] at HI
    have C13 := Lib.hid (take_I HI.out (by have := HQ.out; omega) ⟨#[41]⟩ (by decide) (by decide))
    go_wp2_with fail
    (with_reducible refine C13.out.mono ?_)
    rintro x w13 ⟨rfl, h13⟩
    have H13 := Lib.hid h13
    clear C13 h13
    have C14 := Lib.hid (is_I H13.out ⟨#[115, 105, 110, 103, 108, 101]⟩ (by decide) (by decide))
    obtain ⟨b14, y14⟩ := H13.out.look ⟨#[115, 105, 110, 103, 108, 101]⟩
    rw [y14] at C14
    have HY14 := Lib.hid y14
    have HN14 := Lib.hid H13.out.ne
    clear y14
    go_wp2_with fail
    (with_reducible refine C14.out.mono ?_)
    rintro x wd ⟨rfl, m, rfl⟩
    have H14 := Lib.hid (H13.out.drewN m)
    generalize w13.drewN m = w14 at *
    clear C14
    cases b14 with
    | true =>
      obtain ⟨g15, len15, cap15, hn15, _, hs15, _⟩ := H14.out.nod
      have c315 := hn15.c3
      have z315 : w14.frozen? ⟨g15, p2.length * 5 + 3, none⟩ = false := hn15.fz 3
      obtain ⟨o15, f15⟩ := hn15.n0
      have b015 : (0 : Int) ≤ (p2.length : Int) := by omega
      have b115 : (p2.length : Int) < (len15 : Int) := by have := hn15.lt; omega
      have H15 := Lib.hid (hs15 1)
      clear hn15 hs15
      go_upto_region 15 with fail
      generalize w14.setCell ⟨g15, p2.length * 5 + 3, none⟩ (.int .i64 1) = w15 at *
      clear c315 z315 f15
      obtain ⟨i16, h6316, c116, cz16, h16⟩ := (H15.out.mono (Nat.le_succ _) (Nat.le_refl _)).inc (by have := HQ.out; omega) (by decide) HY14.out
      have H16 := Lib.hid h16
      clear h16
      go_upto_region 16 with fail
      generalize w15.setCell ⟨E.b, 1, none⟩ (.int .i64 ((i16 : Int) + 1)) = w16 at *
      clear c116 cz16
      have C17 := Lib.hid (HBK.out _ _ _ _ _ _ _ _ _ _ H16.out (by have := HQ.out; omega) (by have := HB.out; omega))
      go_wp2_with fail
      (with_reducible refine C17.out.mono ?_)
      rintro x w17 ⟨rfl, h17⟩
      have H17 := Lib.hid h17
      clear C17 h17
      have HF := Lib.hid (In.close (B' := B) HO.out (H17.out.mono (Nat.le_refl _) (B' := B) (by have := HQ.out; omega)) (by omega) (by have := HQ.out; omega) (fun q c e => by cases e))
      rw [part_close ((prc_y HD7.out HY14.out).trans (procR_eq HU.out).symm)] at HF
      go_wp2
      simp [bodyPost, results, Tryz.results44, go_sem]
      exact HF.out
    | false =>
      have C15 := Lib.hid (HBK.out _ _ _ _ _ _ _ _ _ _ H14.out (by have := HQ.out; omega) (by have := HB.out; omega))
      go_wp2_with fail
      (with_reducible refine C15.out.mono ?_)
      rintro x w15 ⟨rfl, h15⟩
      have H15 := Lib.hid h15
      clear C15 h15
      have HF := Lib.hid (In.close (B' := B) HO.out (H15.out.mono (Nat.le_refl _) (B' := B) (by have := HQ.out; omega)) (by omega) (by have := HQ.out; omega) (fun q c e => by cases e))
      rw [part_close ((prc_n HD7.out HY14.out HN14.out).trans (procR_eq HU.out).symm)] at HF
      go_wp2
      simp [bodyPost, results, Tryz.results44, go_sem]
      exact HF.out
  | false =>
    have C18 := Lib.hid (word_I H12.out (by have := HQ.out; omega) (by have := HB.out; omega))
    go_wp2_with fail
    (with_reducible refine C18.out.mono ?_)
    rintro x w18 ⟨rfl, h18⟩
    have H18 := Lib.hid h18
    clear C18 h18
    go_wp2_with fail
    go_loopg [] (left (knd (then' (skp (skp (Res.ok [] l : Res (List Ast)) (takeP 1)) (expectP ⟨#[40]⟩)) fun _ => (Par.pure [] : Par (List Ast))) wordP)) (fun g wr => ∃ R1 : Res (List Ast), Hid (left R1 ≤ g) ∧ Hid (then' R1 (many (listStep wordP)) = then' (knd (then' (skp (skp (Res.ok [] l : Res (List Ast)) (takeP 1)) (expectP ⟨#[40]⟩)) fun _ => (Par.pure [] : Par (List Ast))) wordP) (many (listStep wordP))) ∧ Hid (In E p3 4 (hda (skp (skp (Res.ok [] l : Res (List Ast)) (takeP 1)) (expectP ⟨#[40]⟩))) none0 0 (64 - ((64 : Nat) : Int)) (Q + 1) (Q + 1295 + 2) R1 wr))
    case atStart => exact ⟨_, Lib.hid (Nat.le_refl _), Lib.hid rfl, Lib.hid (H18.out.mono (Nat.le_refl _) (by omega))⟩
    case round =>
      clear H18
      obtain ⟨R1, HG, HE, HL⟩ := hrel
      have C19 := Lib.hid (is_I HL.out ⟨#[44]⟩ (by decide) (by decide))
      obtain ⟨b19, y19⟩ := HL.out.look ⟨#[44]⟩
      rw [y19] at C19
      have HY19 := Lib.hid y19
      have HN19 := Lib.hid HL.out.ne
      clear y19
      go_wp2_with fail
      (with_reducible refine C19.out.mono ?_)
      rintro x wd ⟨rfl, m, rfl⟩
      have H19 := Lib.hid (HL.out.drewN m)
      generalize wr.drewN m = w19 at *
      clear C19
      cases b19 with
      | false =>
        have HE2 := Lib.hid ((list_done HN19.out HY19.out).symm.trans HE.out)
        have HI := Lib.hid (In.close (B' := Q + 1300) HO2.out.up (H19.out.mono (Nat.le_refl _) (by omega)) (by omega) (by omega) (fun q c e => by rw [HE2.out, e]; rfl))
        rw [names_n HY12.out HN12.out HE2.out] at HI
        have C20 := Lib.hid (take_I HI.out (by have := HQ.out; omega) ⟨#[41]⟩ (by decide) (by decide))
        go_wp2_with fail
        (with_reducible refine C20.out.mono ?_)
        rintro x w20 ⟨rfl, h20⟩
        have H20 := Lib.hid h20
        clear C20 h20
        have C21 := Lib.hid (is_I H20.out ⟨#[115, 105, 110, 103, 108, 101]⟩ (by decide) (by decide))
        obtain ⟨b21, y21⟩ := H20.out.look ⟨#[115, 105, 110, 103, 108, 101]⟩
        rw [y21] at C21
        have HY21 := Lib.hid y21
        have HN21 := Lib.hid H20.out.ne
        clear y21
        go_wp2_with fail
        (with_reducible refine C21.out.mono ?_)
        rintro x wd ⟨rfl, m, rfl⟩
        have H21 := Lib.hid (H20.out.drewN m)
        generalize w20.drewN m = w21 at *
        clear C21
        cases b21 with
        | true =>
          obtain ⟨g22, len22, cap22, hn22, _, hs22, _⟩ := H21.out.nod
          have c322 := hn22.c3
          have z322 : w21.frozen? ⟨g22, p2.length * 5 + 3, none⟩ = false := hn22.fz 3
          obtain ⟨o22, f22⟩ := hn22.n0
          have b022 : (0 : Int) ≤ (p2.length : Int) := by omega
          have b122 : (p2.length : Int) < (len22 : Int) := by have := hn22.lt; omega
          have H22 := Lib.hid (hs22 1)
          clear hn22 hs22
          go_upto_region 15 with fail
          generalize w21.setCell ⟨g22, p2.length * 5 + 3, none⟩ (.int .i64 1) = w22 at *
          clear c322 z322 f22
          obtain ⟨i23, h6323, c123, cz23, h23⟩ := (H22.out.mono (Nat.le_succ _) (Nat.le_refl _)).inc (by have := HQ.out; omega) (by decide) HY21.out
          have H23 := Lib.hid h23
          clear h23
          go_upto_region 16 with fail
          generalize w22.setCell ⟨E.b, 1, none⟩ (.int .i64 ((i23 : Int) + 1)) = w23 at *
          clear c123 cz23
          have C24 := Lib.hid (HBK.out _ _ _ _ _ _ _ _ _ _ H23.out (by have := HQ.out; omega) (by have := HB.out; omega))
          go_wp2_with fail
          (with_reducible refine C24.out.mono ?_)
          rintro x w24 ⟨rfl, h24⟩
          have H24 := Lib.hid h24
          clear C24 h24
          have HF := Lib.hid (In.close (B' := B) HO.out (H24.out.mono (Nat.le_refl _) (B' := B) (by have := HQ.out; omega)) (by omega) (by have := HQ.out; omega) (fun q c e => by cases e))
          rw [part_close ((prc_y HD7.out HY21.out).trans (procR_eq HU.out).symm)] at HF
          go_wp2
          simp [bodyPost, results, Tryz.results44, go_sem]
          exact HF.out
        | false =>
          have C22 := Lib.hid (HBK.out _ _ _ _ _ _ _ _ _ _ H21.out (by have := HQ.out; omega) (by have := HB.out; omega))
          go_wp2_with fail
          (with_reducible refine C22.out.mono ?_)
          rintro x w22 ⟨rfl, h22⟩
          have H22 := Lib.hid h22
          clear C22 h22
          have HF := Lib.hid (In.close (B' := B) HO.out (H22.out.mono (Nat.le_refl _) (B' := B) (by have := HQ.out; omega)) (by omega) (by have := HQ.out; omega) (fun q c e => by cases e))
          rw [part_close ((prc_n HD7.out HY21.out HN21.out).trans (procR_eq HU.out).symm)] at HF
          go_wp2
          simp [bodyPost, results, Tryz.results44, go_sem]
          exact HF.out
      | true =>
        obtain ⟨ks1, l1, rfl⟩ := nxt_ok HY19.out
        have HL2 := Lib.hid (H19.out.okB (Q + 1295 + 1))
        obtain ⟨i25, h6325, c125, cz25, h25⟩ := (HL2.out.mono (Nat.le_succ _) (Nat.le_refl _)).inc (by have := HQ.out; omega) (by decide) HY19.out
        have H25 := Lib.hid h25
        clear h25
        go_upto_region 11 with fail
        generalize w19.setCell ⟨E.b, 1, none⟩ (.int .i64 ((i25 : Int) + 1)) = w25 at *
        clear c125 cz25
        have C26 := Lib.hid (word_I H25.out (by have := HQ.out; omega) (by have := HB.out; omega))
        go_wp2_with fail
        (with_reducible refine C26.out.mono ?_)
        rintro x w26 ⟨rfl, h26⟩
        have H26 := Lib.hid h26
        clear C26 h26
        have HLT : Hid (left (knd (skp (Res.ok ks1 l1) (skipP ⟨#[44]⟩)) wordP) < gk) := Lib.hid (by have := HG.out; have := list_left less_word HY19.out; omega)
        have HE3 := Lib.hid ((list_more less_word HY19.out).symm.trans HE.out)
        go_wp2_with fail
        go_roundg (left (knd (skp (Res.ok ks1 l1) (skipP ⟨#[44]⟩)) wordP))
        case rel => exact ⟨_, Lib.hid (Nat.le_refl _), HE3, H26⟩
        case measure => exact HLT.out
theorem proc_I {ks : List Ast} {l : List PT} (h : In E [] 1 a none0 0 (64 - ((64 : Nat) : Int)) Q B (.ok ks l) w) (hy : nxt (.ok ks l : Res (List Ast)) ⟨#[112, 114, 111, 99]⟩ = true) (hQ : Q + 1310 ≤ B ∧ Q ≤ 199000) :
    Calls Tryz.prog 44 #[.pointer (some ⟨E.b, 0, none⟩)] w fun x w' => x = .returned (.tuple #[]) ∧ In E [] 1 a none0 0 (64 - ((64 : Nat) : Int)) Q B (knd (.ok ks l) procP) w' := by
  cases Q with
  | zero =>
    obtain ⟨_, _, _, hs, _⟩ := h
    have := hs.1
    omega
  | succ Q => exact proc_J h hy (by omega)

end
end Go.Proofs.YtpemghcafbedeaaGreatDoor.Rf
end
section
namespace Go.Proofs.YtpemghcafbedeaaGreatDoor
open Go.RowKit
def bytesI (s : ByteArray) : List Int := s.data.toList.map fun b => (b.toNat : Int)
theorem bytesI_length (s : ByteArray) : (bytesI s).length = s.size := by simp [bytesI]
theorem bytesI_get (s : ByteArray) (k : Nat) (h : k < s.size) : (bytesI s).getD k 0 = (s[k].toNat : Int) := by
  have : k < s.data.toList.length := by simpa using h
  have e : s.data.toList[k]? = some s[k] := List.getElem?_eq_getElem this
  simp only [bytesI, List.getD, List.getElem?_map, e, Option.map_some, Option.getD_some]
theorem bytesI_byte (s : ByteArray) (i : Nat) : 0 ≤ (bytesI s).getD i 0 ∧ (bytesI s).getD i 0 < 256 := by
  by_cases h : i < s.size
  · rw [bytesI_get s i h]
    have := UInt8.toNat_lt s[i]
    omega
  · simp [List.getD, List.getElem?_eq_none (show (bytesI s).length ≤ i by rw [bytesI_length]; omega)]
theorem bytesI_str (s : ByteArray) : strOfNums (bytesI s) = s := by
  obtain ⟨⟨l⟩⟩ := s
  simp [strOfNums, bytesI, Function.comp_def]
def namesF (l : List Int) : Bool := (match l with | [] => false | c :: _ => isLetter c) && l.all isNameB
theorem namesF_nil : namesF [] = false := rfl
theorem all_take_succ (l : List Int) (k : Nat) (h : k < l.length) : (l.take (k + 1)).all isNameB = ((l.take k).all isNameB && isNameB (l.getD k 0)) := by
  rw [List.take_succ_eq_append_getElem h, List.all_append]
  simp [List.getD, h]
theorem namesF_no (l : List Int) (k : Nat) (h : k < l.length) (hk : isNameB (l.getD k 0) = false) : namesF l = false := by
  unfold namesF
  have : l.all isNameB = false := by
    rw [List.all_eq_false]
    exact ⟨l.getD k 0, by simp [List.getD, h], by rw [hk]; simp⟩
  rw [this, Bool.and_false]
theorem namesF_head (l : List Int) (h : 0 < l.length) (hk : isLetter (l.getD 0 0) = false) : namesF l = false := by
  cases l with
  | nil => simp at h
  | cons c r => simp only [List.getD_cons_zero] at hk; simp [namesF, hk]
theorem namesF_yes (l : List Int) (h : 0 < l.length) (hk : isLetter (l.getD 0 0) = true) (ha : (l.take l.length).all isNameB = true) : namesF l = true := by
  cases l with
  | nil => simp at h
  | cons c r => simp only [List.getD_cons_zero] at hk; rw [List.take_length] at ha; simp only [namesF, hk, ha, Bool.and_true]
theorem retB {a b : Bool} (h : a = b) : Ending.returned (.bool a) = .returned (.bool b) := by rw [h]
set_option maxHeartbeats 4000000 in
set_option maxRecDepth 1000000 in
theorem isName_at (w : World) (s : ByteArray) (hb : s.size ≤ 70000) :
    Calls Tryz.prog 172 #[.string s] w fun e w' => e = .returned (.bool (namesF (bytesI s))) ∧ Below w.heap.size w w' := by
  have HK := Lib.hid (byteKinds_run w)
  by_cases h0 : s.size = 0
  · obtain rfl : s = ByteArray.empty := ByteArray.size_eq_zero_iff.1 h0
    show Calls Tryz.prog 172 #[.string ⟨#[]⟩] w fun e w' => e = .returned (.bool false) ∧ Below w.heap.size w w'
    go_enter Tryz.func172, Tryz.ntmps172
    go_wp2_with fail
    (with_reducible refine HK.out.mono ?_)
    rintro e W1 ⟨rfl, hk⟩
    have HB := Lib.hid hk.below
    clear hk HK
    go_wp2
    go_ret
    exact ⟨rfl, HB.out⟩
  · have hne : s.toList.isEmpty = false := by
      rw [← bytesI_str s, Lib.strOfNums_toList, List.isEmpty_eq_false_iff]
      intro e
      have := congrArg List.length e
      rw [Lib.bytesOf, List.length_map, bytesI_length, List.length_nil] at this
      exact h0 this
    have hpos : 0 < s.size := by omega
    have hlen := Lib.hid (bytesI_length s)
    have h00 := Lib.hid (bytesI_get s 0 hpos)
    have hm0 := UInt8.toNat_lt s[0]
    have KL := Lib.hid (kind_letter (s[0].toNat : Int))
    obtain ⟨m0, hm⟩ : ∃ m0, s[0].toNat = m0 := ⟨_, rfl⟩
    go_enter Tryz.func172, Tryz.ntmps172
    go_wp2_with fail
    (with_reducible refine HK.out.mono ?_)
    rintro e W1 ⟨rfl, hk⟩
    have HKW := Lib.hid hk
    have HB := Lib.hid hk.below
    clear hk HK
    go_wp2_with fail
    have hm256 : m0 < 256 := by omega
    have KA := kind_at W1 (w.heap.size + 1) m0 hm256 (by rw [HKW.out.arr m0 hm256, FK_kind m0 hm256])
    have KL2 := KL.out
    rw [hm] at KL2
    have KL3 := Lib.hid KL2
    have H00 : Hid ((bytesI s).getD 0 0 = (m0 : Int)) := by rw [← hm]; exact h00
    clear KL2 KL h00
    generalize kindF m0 = k at *
    (with_reducible refine KA.mono ?_)
    rintro e w' ⟨rfl, rfl⟩
    clear KA
    by_cases hk3 : k = 3
    · subst hk3
      have HL : Hid (isLetter ((bytesI s).getD 0 0) = true) := Lib.hid (by rw [H00.out]; simpa using KL3.out.symm)
      clear hm hm0 hm256 KL3 H00
      go_wp2_with fail
      go_loop [17] (fun iv => ∃ k : Nat, k ≤ s.size ∧ iv = .int .i64 k ∧ Hid (((bytesI s).take k).all isNameB = true)) (fun iv => s.size - (intOf iv).toNat)
      case atStart => exact ⟨0, Nat.zero_le _, rfl, Lib.hid rfl⟩
      case round =>
        obtain ⟨k, hk, rfl, HA⟩ := hrel
        by_cases hlt : k < s.size
        · have hgk := bytesI_get s k hlt
          have hmk := UInt8.toNat_lt s[k]
          obtain ⟨m, hm⟩ : ∃ m, s[k].toNat = m := ⟨_, rfl⟩
          rw [hm] at hgk hmk
          have hm256 : m < 256 := by omega
          have KA := kind_at w' (w.heap.size + 1) m hm256 (by rw [HKW.out.arr m hm256, FK_kind m hm256])
          have KN := kind_name m
          have HG := Lib.hid hgk
          clear hgk
          generalize kindF m = kk at *
          have IN := inName_at w' kk
          rw [KN] at IN
          have HKA := Lib.hid KA
          have HIN := Lib.hid IN
          clear KN KA IN
          cases hq : isNameB m with
          | true =>
            have HIN2 : Hid (Calls Tryz.prog 151 #[.int .u8 kk] w' fun e w1 => e = .returned (.bool true) ∧ w1 = w') := by rw [← hq]; exact HIN.out
            have HQ := Lib.hid hq
            clear hq HIN
            go_wp2_with fail
            (with_reducible refine HKA.out.mono ?_)
            rintro e w2 ⟨rfl, rfl⟩
            go_wp2_with fail
            (with_reducible refine HIN2.out.mono ?_)
            rintro e w3 ⟨rfl, rfl⟩
            clear HKA HIN2
            go_wp2
            go_round
            case rel => exact ⟨k + 1, by omega, by go_num, Lib.hid (by rw [all_take_succ _ _ (by have := hlen.out; omega), HA.out, HG.out, HQ.out]; rfl)⟩
            case measure => simp [intOf]; omega
          | false =>
            have HIN2 : Hid (Calls Tryz.prog 151 #[.int .u8 kk] w' fun e w1 => e = .returned (.bool false) ∧ w1 = w') := by rw [← hq]; exact HIN.out
            have HQ := Lib.hid hq
            clear hq HIN
            go_wp2_with fail
            (with_reducible refine HKA.out.mono ?_)
            rintro e w2 ⟨rfl, rfl⟩
            go_wp2_with fail
            (with_reducible refine HIN2.out.mono ?_)
            rintro e w3 ⟨rfl, rfl⟩
            clear HKA HIN2
            go_wp2
            go_ret
            exact ⟨retB (namesF_no _ k (by have := hlen.out; omega) (by rw [HG.out]; exact HQ.out)).symm, HB.out⟩
        · have hks : k = s.size := by omega
          have HKS := Lib.hid hks
          clear hks
          go_wp2
          go_ret
          exact ⟨retB (namesF_yes _ (by have := hlen.out; omega) HL.out (by rw [hlen.out, ← HKS.out]; exact HA.out)).symm, HB.out⟩
    · have hk3' : (k != 3) = true := by simpa using hk3
      have HL : Hid (isLetter ((bytesI s).getD 0 0) = false) := Lib.hid (by rw [H00.out, ← KL3.out]; simpa using hk3)
      clear KL3 H00
      go_wp2
      go_ret
      exact ⟨retB (namesF_head _ (by have := hlen.out; omega) HL.out).symm, HB.out⟩
end Go.Proofs.YtpemghcafbedeaaGreatDoor
end
section
namespace Go.Proofs.YtpemghcafbedeaaGreatDoor
open Go.RowKit
set_option maxHeartbeats 1000000 in
theorem letter_at (c : Int) (w : World) : Calls Tryz.prog 91 #[.int .u8 c] w fun e w' => e = .returned (.bool (isLetter c)) ∧ w' = w := by
  unfold isLetter
  by_cases h : 97 ≤ c
  · by_cases h2 : c ≤ 122
    · have e : (decide (97 ≤ c) && decide (c ≤ 122)) = true := by simp [h, h2]
      rw [e]
      clear e
      go_enter Tryz.func91, Tryz.ntmps91
      go_wp2
      go_ret
      exact ⟨rfl, rfl⟩
    · have e : (decide (97 ≤ c) && decide (c ≤ 122)) = false := by simp [h2]
      rw [e]
      clear e
      go_enter Tryz.func91, Tryz.ntmps91
      go_wp2
      go_ret
      exact ⟨rfl, rfl⟩
  · have e : (decide (97 ≤ c) && decide (c ≤ 122)) = false := by simp [h]
    rw [e]
    clear e
    have hd : decide (97 ≤ c) = false := by simpa using h
    go_enter Tryz.func91, Tryz.ntmps91
    go_wp2
    go_ret
    exact ⟨rfl, rfl⟩
set_option maxHeartbeats 1000000 in
theorem digit_at (c : Int) (w : World) : Calls Tryz.prog 92 #[.int .u8 c] w fun e w' => e = .returned (.bool (isDigit c)) ∧ w' = w := by
  unfold isDigit
  by_cases h : 48 ≤ c
  · by_cases h2 : c ≤ 57
    · have e : (decide (48 ≤ c) && decide (c ≤ 57)) = true := by simp [h, h2]
      rw [e]
      clear e
      go_enter Tryz.func92, Tryz.ntmps92
      go_wp2
      go_ret
      exact ⟨rfl, rfl⟩
    · have e : (decide (48 ≤ c) && decide (c ≤ 57)) = false := by simp [h2]
      rw [e]
      clear e
      go_enter Tryz.func92, Tryz.ntmps92
      go_wp2
      go_ret
      exact ⟨rfl, rfl⟩
  · have e : (decide (48 ≤ c) && decide (c ≤ 57)) = false := by simp [h]
    rw [e]
    clear e
    have hd : decide (48 ≤ c) = false := by simpa using h
    go_enter Tryz.func92, Tryz.ntmps92
    go_wp2
    go_ret
    exact ⟨rfl, rfl⟩
set_option maxHeartbeats 4000000 in
set_option maxRecDepth 1000000 in
theorem refIsName_at (w : World) (s : ByteArray) (hb : s.size ≤ 70000) :
    Calls Tryz.prog 156 #[.string s] w fun e w' => e = .returned (.bool (namesF (bytesI s))) ∧ w' = w := by
  have hlen := Lib.hid (bytesI_length s)
  go_enter Tryz.func156, Tryz.ntmps156
  go_wp2_with fail
  go_loop [3] (fun iv => ∃ k : Nat, k ≤ s.size ∧ iv = .int .i64 k ∧ Hid (0 < k → isLetter ((bytesI s).getD 0 0) = true) ∧ Hid (((bytesI s).take k).all isNameB = true)) (fun iv => s.size - (intOf iv).toNat)
  case atStart => exact ⟨0, Nat.zero_le _, rfl, Lib.hid (fun h => absurd h (by omega)), Lib.hid rfl⟩
  case round =>
    obtain ⟨k, hk, rfl, HF, HA⟩ := hrel
    by_cases hlt : k < s.size
    · have hgk := bytesI_get s k hlt
      have hmk := UInt8.toNat_lt s[k]
      obtain ⟨m, hm⟩ : ∃ m, s[k].toNat = m := ⟨_, rfl⟩
      rw [hm] at hgk hmk
      have HG := Lib.hid hgk
      clear hgk
      have LA := Lib.hid (letter_at (m : Int) w)
      have DA := Lib.hid (digit_at (m : Int) w)
      cases hl : isLetter (m : Int) with
      | true =>
        rw [hl] at LA
        have HL := Lib.hid hl
        clear hl DA
        go_wp2_with fail
        (with_reducible refine LA.out.mono ?_)
        rintro e w1 ⟨rfl, rfl⟩
        clear LA
        go_wp2
        go_round
        case rel => exact ⟨k + 1, by omega, by go_num, Lib.hid (fun _ => by
            by_cases h0 : 0 < k
            · exact HF.out h0
            · have : k = 0 := by omega
              rw [← this, HG.out]; exact HL.out), Lib.hid (by rw [all_take_succ _ _ (by have := hlen.out; omega), HA.out, HG.out, isNameB, HL.out]; rfl)⟩
        case measure => simp [intOf]; omega
      | false =>
        rw [hl] at LA
        have HL := Lib.hid hl
        clear hl
        by_cases h0 : k = 0
        · have h0' : ((k : Int) == 0) = true := by simpa using h0
          have HK0 := Lib.hid h0
          clear h0 DA
          go_wp2_with fail
          (with_reducible refine LA.out.mono ?_)
          rintro e w1 ⟨rfl, rfl⟩
          clear LA
          go_wp2
          go_ret
          exact ⟨retB (namesF_head _ (by have := hlen.out; omega) (by have := HG.out; rw [HK0.out] at this; rw [this]; exact HL.out)).symm, rfl⟩
        · have h0' : ((k : Int) == 0) = false := by simpa using h0
          cases hd : isDigit (m : Int) with
          | true =>
            rw [hd] at DA
            have HD := Lib.hid hd
            clear hd
            go_wp2_with fail
            (with_reducible refine LA.out.mono ?_)
            rintro e w1 ⟨rfl, rfl⟩
            go_wp2_with fail
            (with_reducible refine DA.out.mono ?_)
            rintro e w1 ⟨rfl, rfl⟩
            clear LA DA
            go_wp2
            go_round
            case rel => exact ⟨k + 1, by omega, by go_num, Lib.hid (fun _ => HF.out (by omega)), Lib.hid (by rw [all_take_succ _ _ (by have := hlen.out; omega), HA.out, HG.out, isNameB, HL.out, HD.out]; rfl)⟩
            case measure => simp [intOf]; omega
          | false =>
            rw [hd] at DA
            have HD := Lib.hid hd
            clear hd
            by_cases h95 : (m : Int) = 95
            · have h1 : ((m : Int) != 95) = false := by simp [h95]
              have H95 := Lib.hid h95
              clear h95
              go_wp2_with fail
              (with_reducible refine LA.out.mono ?_)
              rintro e w1 ⟨rfl, rfl⟩
              go_wp2_with fail
              (with_reducible refine DA.out.mono ?_)
              rintro e w1 ⟨rfl, rfl⟩
              clear LA DA
              go_wp2
              go_round
              case rel => exact ⟨k + 1, by omega, by go_num, Lib.hid (fun _ => HF.out (by omega)), Lib.hid (by rw [all_take_succ _ _ (by have := hlen.out; omega), HA.out, HG.out, H95.out]; rfl)⟩
              case measure => simp [intOf]; omega
            · have h1 : ((m : Int) != 95) = true := by simpa using h95
              have H95 := Lib.hid h95
              clear h95
              go_wp2_with fail
              (with_reducible refine LA.out.mono ?_)
              rintro e w1 ⟨rfl, rfl⟩
              go_wp2_with fail
              (with_reducible refine DA.out.mono ?_)
              rintro e w1 ⟨rfl, rfl⟩
              clear LA DA
              go_wp2
              go_ret
              exact ⟨retB (namesF_no _ k (by have := hlen.out; omega) (by rw [HG.out, isNameB, HL.out, HD.out]; simpa using H95.out)).symm, rfl⟩
    · have hks : k = s.size := by omega
      have HKS := Lib.hid hks
      clear hks
      go_wp2
      go_ret
      refine ⟨retB ?_, rfl⟩
      by_cases h0 : 0 < s.size
      · rw [namesF_yes _ (by have := hlen.out; omega) (HF.out (by have := HKS.out; omega)) (by rw [hlen.out, ← HKS.out]; exact HA.out)]
        exact decide_eq_true (by omega)
      · have e : bytesI s = [] := List.eq_nil_of_length_eq_zero (by have := hlen.out; omega)
        rw [e, namesF_nil]
        exact decide_eq_false (by omega)
theorem bytes_conv (W : World) (s : ByteArray) : ∃ W' cap, (convert 9 22 (.string s)).run Tryz.prog W = .ok (.slice (some ⟨W.heap.size, 0, none⟩) s.size cap) W' ∧ Below W.heap.size W W' ∧ Src W' (some ⟨W.heap.size, 0, none⟩) s.size cap (bytesI s) := by
  refine ⟨Lib.bytesWorld W 5 s, grownCap W s.size 0 5, Lib.run_convert_string_bytes W 9 22 5 s Tryz.underlying9 Tryz.underlying22 Tryz.underlying5, ?_, bytesI_length s, bytesI_byte s, Or.inr ⟨W.heap.size, 0, rfl, grownCap_ge _ _ _ _, by rw [Lib.bytesWorld_size]; omega, fun i hi => ?_⟩⟩
  · exact ⟨by simp [Lib.bytesWorld, World.freeze, World.alloc, World.drew, -World.alloc_eq, -World.drew_eq], by simp [Lib.bytesWorld, World.freeze, World.alloc, World.drew, -World.alloc_eq, -World.drew_eq], by simp [Lib.bytesWorld, World.freeze, World.alloc, World.drew, -World.alloc_eq, -World.drew_eq], by rw [Lib.bytesWorld_size]; omega, fun k hk => Lib.bytesWorld_at_old W 5 s k hk⟩
  · rw [Nat.zero_add, Lib.bytesWorld_cell W 5 s i hi, bytesI_get s i hi]
    have e : s.data.toList[i]? = some s[i] := List.getElem?_eq_getElem (by simpa using hi)
    rw [List.getD, e, Option.getD_some]
end Go.Proofs.YtpemghcafbedeaaGreatDoor
end
section
namespace Go.Proofs.YtpemghcafbedeaaGreatDoor
open Go.RowKit
set_option maxHeartbeats 1000000 in
theorem blank_at (c : Int) (w : World) : Calls Tryz.prog 90 #[.int .u8 c] w fun e w' => e = .returned (.bool (isBlank c)) ∧ w' = w := by
  by_cases h1 : c = 32
  · subst h1
    show Calls Tryz.prog 90 #[.int .u8 32] w fun e w' => e = .returned (.bool true) ∧ w' = w
    go_enter Tryz.func90, Tryz.ntmps90
    go_wp2
    go_ret
    exact ⟨rfl, rfl⟩
  · have d1 : (c == 32) = false := by simpa using h1
    by_cases h2 : c = 9
    · subst h2
      show Calls Tryz.prog 90 #[.int .u8 9] w fun e w' => e = .returned (.bool true) ∧ w' = w
      go_enter Tryz.func90, Tryz.ntmps90
      go_wp2
      go_ret
      exact ⟨rfl, rfl⟩
    · have d2 : (c == 9) = false := by simpa using h2
      by_cases h3 : c = 10
      · subst h3
        show Calls Tryz.prog 90 #[.int .u8 10] w fun e w' => e = .returned (.bool true) ∧ w' = w
        go_enter Tryz.func90, Tryz.ntmps90
        go_wp2
        go_ret
        exact ⟨rfl, rfl⟩
      · have d3 : (c == 10) = false := by simpa using h3
        have e : isBlank c = (c == 13) := by simp [isBlank, d1, d2, d3]
        rw [e]
        generalize hq : (c == 13) = q
        go_enter Tryz.func90, Tryz.ntmps90
        go_wp2
        go_ret
        exact ⟨rfl, rfl⟩
def marks : List Int := [123, 125, 40, 41, 91, 93, 59, 44, 46, 43, 45, 42, 60, 61]
theorem isMark_yes (c : Int) (k : Nat) (hk : k < 14) (h : marks.getD k 0 = c) : isMark c = true := by
  have hk' : k < marks.length := hk
  have : c ∈ marks := by
    rw [← h, List.getD, List.getElem?_eq_getElem hk', Option.getD_some]
    exact List.getElem_mem hk'
  simpa [isMark, marks] using this
theorem isMark_no (c : Int) (h : ∀ k, k < 14 → marks.getD k 0 ≠ c) : isMark c = false := by
  cases hm : isMark c with
  | false => rfl
  | true =>
    have hin : c ∈ marks := by simpa [isMark, marks] using hm
    obtain ⟨k, hk, e⟩ := List.mem_iff_getElem.1 hin
    exact absurd (by rw [List.getD, List.getElem?_eq_getElem hk, Option.getD_some]; exact e) (h k hk)
set_option maxHeartbeats 1000000 in
theorem one_at (c : Int) (w : World) : Calls Tryz.prog 94 #[.int .u8 c] w fun e w' => e = .returned (.bool (isMark c)) ∧ Below w.heap.size w w' := by
  have kc := fun (w : World) (C : Array Value) (n c : Nat) => Lib.run_convert_bytes_const (P := Tryz.prog) w 22 5 C n c Tryz.underlying22 Tryz.underlying5
  have HC : Hid (∀ k, k < 14 → (w.alloc (.cells #[.int .u8 123, .int .u8 125, .int .u8 40, .int .u8 41, .int .u8 91, .int .u8 93, .int .u8 59, .int .u8 44, .int .u8 46, .int .u8 43, .int .u8 45, .int .u8 42, .int .u8 60, .int .u8 61] 5 (14, 15))).cell? ⟨w.heap.size, k, none⟩ = some (.int .u8 (marks.getD k 0))) := Lib.hid (fun k hk => by
    have hs := src_const w #[.int .u8 123, .int .u8 125, .int .u8 40, .int .u8 41, .int .u8 91, .int .u8 93, .int .u8 59, .int .u8 44, .int .u8 46, .int .u8 43, .int .u8 45, .int .u8 42, .int .u8 60, .int .u8 61] marks 14 rfl rfl (by decide) 14 15
    rcases hs.2.2 with ⟨h, _⟩ | ⟨b, off, e, _, _, hx⟩
    · omega
    · simp only [Option.some.injEq, Addr.mk.injEq, and_true] at e
      obtain ⟨rfl, rfl⟩ := e
      have := hx k hk
      rw [Nat.zero_add] at this
      exact this)
  go_enter Tryz.func94, Tryz.ntmps94
  go_wp2_with fail
  go_loop [8] (fun iv => ∃ k : Nat, k ≤ 14 ∧ iv = .int .i64 k ∧ Hid (∀ j, j < k → marks.getD j 0 ≠ c)) (fun iv => 14 - (intOf iv).toNat)
  case atStart => exact ⟨0, by omega, rfl, Lib.hid (fun j hj => by omega)⟩
  case round =>
    obtain ⟨k, hk, rfl, HN⟩ := hrel
    by_cases hlt : k < 14
    · have hc := HC.out k hlt
      obtain ⟨m, hm⟩ : ∃ m, marks.getD k 0 = m := ⟨_, rfl⟩
      rw [hm] at hc
      have HM := Lib.hid hm
      clear hm kc
      by_cases he : m = c
      · have hd : (m == c) = true := by simpa using he
        have HE := Lib.hid he
        clear he
        go_wp2
        go_ret
        exact ⟨retB (isMark_yes c k hlt (HM.out.trans HE.out)).symm, one_below _ _⟩
      · have hd : (m == c) = false := by simpa using he
        have HE := Lib.hid he
        clear he
        go_wp2
        go_round
        case rel => exact ⟨k + 1, by omega, by go_num, Lib.hid (fun j hj => by
          by_cases hjk : j < k
          · exact HN.out j hjk
          · obtain rfl : j = k := by omega
            rw [HM.out]
            exact HE.out)⟩
        case measure => simp [intOf]; omega
    · clear kc
      go_wp2
      go_ret
      exact ⟨retB (isMark_no c (fun j hj => HN.out j (by omega))).symm, one_below _ _⟩
def RefNum (s : ByteArray) (e : Ending) : Prop :=
  e = match numV 0 (bytesI s) with
    | some n => .returned (.tuple #[.int .i64 n, .bool true])
    | none => .returned (.tuple #[.int .i64 0, .bool false])
set_option maxHeartbeats 4000000 in
set_option maxRecDepth 1000000 in
theorem refNumber_at (w : World) (s : ByteArray) (hb : s.size ≤ 70000) (hd : ∀ k, k < s.size → isDigit ((bytesI s).getD k 0) = true) :
    Calls Tryz.prog 93 #[.string s] w fun e w' => RefNum s e ∧ w' = w := by
  have hlen := Lib.hid (bytesI_length s)
  have HD := Lib.hid hd
  clear hd
  go_enter Tryz.func93, Tryz.ntmps93
  go_wp2_with fail
  go_loop [4, 5] (fun nv iv => ∃ (k : Nat) (n : Int), k ≤ s.size ∧ 0 ≤ n ∧ n ≤ 2147483647 ∧ nv = .int .i64 n ∧ iv = .int .i64 k ∧ Hid (numV n ((bytesI s).drop k) = numV 0 (bytesI s))) (fun _ iv => s.size - (intOf iv).toNat)
  case atStart => exact ⟨0, 0, by omega, by omega, by omega, rfl, rfl, Lib.hid rfl⟩
  case round =>
    obtain ⟨k, n, hk, hn0, hn1, rfl, rfl, HN⟩ := hrel
    by_cases hlt : k < s.size
    · have hgk := bytesI_get s k hlt
      have hdk := HD.out k hlt
      have HY := numV_yes n (bytesI s) k (by have := hlen.out; omega) hdk
      have hmk := UInt8.toNat_lt s[k]
      obtain ⟨m, hm⟩ : ∃ m, s[k].toNat = m := ⟨_, rfl⟩
      rw [hm] at hgk hmk
      rw [hgk] at HY hdk
      have hdd : 48 ≤ m ∧ m ≤ 57 := by simp [isDigit] at hdk; omega
      obtain ⟨hd1, hd2⟩ := hdd
      have HYY := Lib.hid HY
      clear HY hgk hdk
      by_cases hbig : 2147483647 < 10 * n + ((m : Int) - 48)
      · have HF : Hid (numV 0 (bytesI s) = none) := Lib.hid (by rw [← HN.out, HYY.out, if_pos hbig])
        have hbig2 : 2147483647 < n * 10 + ((m : Int) - 48) := by omega
        go_wp2
        go_ret2
        exact ⟨by rw [RefNum, HF.out]; rfl, rfl⟩
      · have HF : Hid (numV (10 * n + ((m : Int) - 48)) ((bytesI s).drop (k + 1)) = numV 0 (bytesI s)) := Lib.hid (by rw [← HN.out, HYY.out, if_neg hbig])
        have hbig2 : ¬ 2147483647 < n * 10 + ((m : Int) - 48) := by omega
        go_wp2
        go_round
        case rel => exact ⟨k + 1, 10 * n + ((m : Int) - 48), by omega, by omega, by omega, by rw [Int.mul_comm], by go_num, HF⟩
        case measure => simp [intOf]; omega
    · have HF : Hid (numV 0 (bytesI s) = some n) := Lib.hid (by rw [← HN.out, List.drop_eq_nil_of_le (by have := hlen.out; omega)]; rfl)
      go_wp2
      go_ret2
      exact ⟨by rw [RefNum, HF.out]; rfl, rfl⟩
end Go.Proofs.YtpemghcafbedeaaGreatDoor
end
section
namespace Go.Proofs.YtpemghcafbedeaaGreatDoor
open Go.RowKit
theorem numV_takeX (n : Int) (l : List Int) : numV n (l.take (run isDigit l)) = numV n l := by
  induction l generalizing n with
  | nil => simp [run]
  | cons c r ih =>
    simp only [run]
    split
    · rename_i h
      rw [List.take_succ_cons]
      simp only [numV, h, if_true, ih]
    · rename_i h
      simp [numV, h]
theorem mem_byteX {xs : List Int} (h : ∀ i, 0 ≤ xs.getD i 0 ∧ xs.getD i 0 < 256) : ∀ x ∈ xs, 0 ≤ x ∧ x < 256 := by
  intro x hx
  obtain ⟨i, hi, rfl⟩ := List.mem_iff_getElem.1 hx
  simpa [List.getD, hi] using h i
theorem mem_subX {xs : List Int} (h : ∀ x ∈ xs, 0 ≤ x ∧ x < 256) (i l : Nat) : ∀ x ∈ (xs.drop i).take l, 0 ≤ x ∧ x < 256 := fun x hx => h x (List.mem_of_mem_drop (List.mem_of_mem_take hx))
theorem info83 : (Tryz.prog.info? 83).map (fun i => (i.zero, i.size, i.bytes)) = some (some (.agg #[.int .u8 0, .int .i64 0, .int .i64 0, .string ⟨#[]⟩, .int .i64 0]), 5, 48) := by kernel_rfl
def RefPost (xs : List Int) (w : World) (e : Ending) (w' : World) : Prop :=
  (match lexS xs with
    | .ok ts => ∃ g cap, e = .returned (.tuple #[.slice (some ⟨g, 0, none⟩) ts.length cap, .int .i64 0, .int .i64 0]) ∧ w'.ownsRow w.heap.size 83 5 (.slice (some ⟨g, 0, none⟩) ts.length cap) ts.length (cellsT ts)
    | .error (i, er) => e = .returned (.tuple #[.slice none 0 0, .int .i64 i, .int .i64 er])) ∧ Below w.heap.size w w'
theorem refPost_err {xs : List Int} {i : Nat} {er : Int} {w W : World} (h : lexS xs = .error (i, er)) (hb : Below w.heap.size w W) : RefPost xs w (.returned (.tuple #[.slice none 0 0, .int .i64 i, .int .i64 er])) W := by
  refine ⟨?_, hb⟩
  rw [h]
theorem refPost_ok {xs : List Int} {ts : List Tok} {w W : World} {g n cap : Nat} {cs : List Value} (h : lexS xs = .ok ts) (hn : n = ts.length) (hc : cs = cellsT ts) (ho : W.ownsRow w.heap.size 83 5 (.slice (some ⟨g, 0, none⟩) n cap) n cs) (hb : Below w.heap.size w W) :
    RefPost xs w (.returned (.tuple #[.slice (some ⟨g, 0, none⟩) n cap, .int .i64 0, .int .i64 0])) W := by
  subst hn hc
  refine ⟨?_, hb⟩
  rw [h]
  exact ⟨g, cap, rfl, ho⟩
structure RefInv (w : World) (v : Value) (ts : List Tok) (W : World) : Prop where
  below : Below w.heap.size w W
  own : W.ownsRow w.heap.size 83 5 v ts.length (cellsT ts)
theorem RefInv.on {w W W' : World} {v : Value} {ts : List Tok} (h : RefInv w v ts W) (hb : Below W.heap.size W W') : RefInv w v ts W' where
  below := h.below.trans (hb.mono h.below.size)
  own := h.own.kept (row := none) ⟨hb.os, hb.tape, hb.output, hb.size, fun k hk _ => hb.block k hk⟩ (by
    cases hv : v.ownBlock with
    | none => exact Or.inl rfl
    | some k => exact Or.inr (by simp))
theorem RefInv.push {w W W' w5 : World} {g cap : Nat} {v : Value} {ts : List Tok} (h : RefInv w v ts W) (hW : Below W.heap.size W W') (hg : W'.grownBy w5 v.ownBlock) (t : Tok) (cs : List Value) (hc : cs = tokC t)
    (ho : w5.ownsRow w.heap.size 83 5 (.slice (some ⟨g, 0, none⟩) (ts.length + 1) cap) (ts.length + 1) (cellsT ts ++ cs)) : RefInv w (.slice (some ⟨g, 0, none⟩) (ts.length + 1) cap) (ts ++ [t]) w5 where
  below := (h.on hW).below.grown hg ((h.on hW).below.size) (fun k hk => (h.own.lt k hk).1)
  own := by rw [cellsT_snoc, ← hc, List.length_append]; exact ho
theorem bytesI_of (l : List Int) (h : ∀ x ∈ l, 0 ≤ x ∧ x < 256) : bytesI (strOfNums l) = l := by
  unfold bytesI
  rw [strOfNums_data, List.map_map]
  conv => rhs; rw [← List.map_id l]
  apply List.map_congr_left
  intro x hx
  have := h x hx
  have e : (UInt8.ofNat x.toNat).toNat = x.toNat := by simp; omega
  simp only [Function.comp, e, id]
  rw [Int.toNat_of_nonneg this.1]
theorem blank_k (c : Int) (w : World) : Calls Tryz.prog 90 #[.int .u8 c] w fun e w' => e = .returned (.bool (isBlank c)) ∧ w = w' := (blank_at c w).mono fun _ _ ⟨h1, h2⟩ => ⟨h1, h2.symm⟩
theorem letter_k (c : Int) (w : World) : Calls Tryz.prog 91 #[.int .u8 c] w fun e w' => e = .returned (.bool (isLetter c)) ∧ w = w' := (letter_at c w).mono fun _ _ ⟨h1, h2⟩ => ⟨h1, h2.symm⟩
theorem digit_k (c : Int) (w : World) : Calls Tryz.prog 92 #[.int .u8 c] w fun e w' => e = .returned (.bool (isDigit c)) ∧ w = w' := (digit_at c w).mono fun _ _ ⟨h1, h2⟩ => ⟨h1, h2.symm⟩
theorem step_letter {xs : List Int} {i : Nat} (h : i < xs.length) (hc : isLetter (xs.getD i 0) = true) : step (xs.drop i) = .tok 1 (run isNameB (xs.drop i)) 0 := by
  rw [drop_at xs i h, step, if_pos hc]
theorem step_digit {xs : List Int} {i : Nat} (h : i < xs.length) (hl : isLetter (xs.getD i 0) = false) (hc : isDigit (xs.getD i 0) = true) : step (xs.drop i) = match numV 0 (xs.drop i) with | some n => .tok 2 (run isDigit (xs.drop i)) n | none => .err 31 := by
  rw [drop_at xs i h, step, if_neg (by rw [hl]; simp), if_pos hc]
  cases numV 0 (xs.getD i 0 :: xs.drop (i + 1)) <;> rfl
theorem step_mark {xs : List Int} {i : Nat} (h : i < xs.length) (hc : isMark (xs.getD i 0) = true) : step (xs.drop i) = .tok 3 (if xs.getD i 0 = 61 ∧ (xs.drop (i + 1)).head? = some 61 then 2 else 1) 0 := by
  have hl : ¬ isLetter (xs.getD i 0) = true := by rcases mark_cases hc with h | h | h | h | h | h | h | h | h | h | h | h | h | h <;> rw [h] <;> decide
  have hd : ¬ isDigit (xs.getD i 0) = true := by rcases mark_cases hc with h | h | h | h | h | h | h | h | h | h | h | h | h | h <;> rw [h] <;> decide
  rw [drop_at xs i h, step, if_neg hl, if_neg hd, if_pos hc]
theorem step_none {xs : List Int} {i : Nat} (h : i < xs.length) (hl : isLetter (xs.getD i 0) = false) (hd : isDigit (xs.getD i 0) = false) (hc : isMark (xs.getD i 0) = false) : step (xs.drop i) = .err 30 := by
  rw [drop_at xs i h, step, if_neg (by rw [hl]; simp), if_neg (by rw [hd]; simp), if_neg (by rw [hc]; simp)]
theorem lexAt_tokK {xs : List Int} {i K l : Nat} {k n : Int} (h : i < xs.length) (hb : bl xs i = i) (hs : step (xs.drop i) = .tok k l n) (hK : K = i + l) :
    lexAt xs i = pre [⟨k, i, K, (xs.drop i).take (K - i), n⟩] (lexAt xs K) := by
  subst hK
  rw [lexAt_tok xs i k l n h hb hs, Nat.add_sub_cancel_left]
theorem head_at (xs : List Int) (i : Nat) (h : i < xs.length) : (xs.drop i).head? = some (xs.getD i 0) := by rw [drop_at xs i h]; rfl
theorem head_end (xs : List Int) (i : Nat) (h : xs.length ≤ i) : (xs.drop i).head? = none := by rw [List.drop_eq_nil_of_le h]; rfl
set_option maxHeartbeats 8000000 in
set_option maxRecDepth 1000000 in
theorem refLex_at (w : World) (p : Option Addr) (len c : Nat) (xs : List Int) (h : Src w p len c xs) (hb : len ≤ 65536) :
    Calls Tryz.prog 40 #[.slice p len c] w (RefPost xs w) := by
  have hlc : len ≤ c := by
    rcases h.2.2 with ⟨h, h'⟩ | ⟨b, off, e, hc, hb, hx⟩ <;> omega
  have hlen := Lib.hid h.1
  have HS := Lib.hid h
  obtain ⟨i0, hi, hz0, hz1, hz2⟩ := info_parts info83
  have I0 := Lib.hid hi
  have I1 := Lib.hid hz0
  have I2 := Lib.hid hz1
  have I3 := Lib.hid hz2
  have HI0 : Hid (RefInv w (.slice none 0 0) [] w) := Lib.hid ⟨Below.refl _ _, World.ownsRow_nil _ _ _ _⟩
  clear h hi hz0 hz1 hz2
  go_enter Tryz.func40, Tryz.ntmps40
  go_wp2_with fail
  go_loopw [5, 6] (fun v iv wr => ∃ (i : Nat) (ts : List Tok), i ≤ len ∧ ts.length ≤ i ∧ iv = .int .i64 i ∧ Hid (lexS xs = pre ts (lexAt xs i)) ∧ Hid (RefInv w v ts wr)) (fun _ iv _ => len - (intOf iv).toNat)
  case atStart => exact ⟨0, [], by omega, by simp, rfl, Lib.hid (by rw [lexS_at, pre_nil]), HI0⟩
  case round =>
    obtain ⟨i, ts, hil, htl, rfl, HL, HV⟩ := hrel
    have hsz := HV.out.below.size
    have ho := HV.out.own
    by_cases hlt : i < len
    · have hix : i < xs.length := by have := hlen.out; omega
      have hsrc := HS.out.below HV.out.below
      have HSW := Lib.hid hsrc
      obtain ⟨_, hby, hor⟩ := hsrc
      obtain ⟨b, off, rfl, hc2, _, hx⟩ : ∃ b off, p = some ⟨b, off, none⟩ ∧ len ≤ c ∧ b < wr.heap.size ∧ ∀ i, i < len → wr.cell? ⟨b, off + i, none⟩ = some (.int .u8 (xs.getD i 0)) := by
        rcases hor with ⟨h, _⟩ | h
        · omega
        · exact h
      have HX := Lib.hid hx
      have HBY := Lib.hid hby
      have hcell := hx i hlt
      have hbi := hby i
      obtain ⟨m, hm⟩ : ∃ m, xs.getD i 0 = m := ⟨_, rfl⟩
      rw [hm] at hcell hbi
      have HM := Lib.hid hm
      have HIX := Lib.hid hix
      clear hor hx hby hm hix hlc
      have BK := Lib.hid (blank_k m wr)
      have LK := Lib.hid (letter_k m wr)
      have DK := Lib.hid (digit_k m wr)
      have OK := Lib.hid (one_at m wr)
      cases hbl : isBlank m with
      | true =>
        rw [hbl] at BK
        have HBl := Lib.hid hbl
        clear hbl LK DK OK ho
        go_wp2_with fail
        (with_reducible refine BK.out.mono ?_)
        rintro e w2 ⟨rfl, rfl⟩
        clear BK
        go_wp2_with fail
        go_roundw
        case rel => exact ⟨i + 1, ts, by omega, by omega, by go_num, Lib.hid (by rw [HL.out, lexAt_blank xs i HIX.out (by rw [HM.out]; exact HBl.out)]), HV⟩
        case measure => simp [intOf]; omega
      | false =>
        rw [hbl] at BK
        have HBl := Lib.hid hbl
        clear hbl
        by_cases h35 : m = 35
        · have d35 : (m == 35) = true := by simpa using h35
          have H35 := Lib.hid h35
          have HRn := Lib.hid (run_yes nl xs i HIX.out (by rw [HM.out, h35]; rfl))
          have HRem := Lib.hid (lexAt_rem xs i HIX.out (by rw [HM.out, h35]))
          clear h35 LK DK OK ho
          go_wp2_with fail
          (with_reducible refine BK.out.mono ?_)
          rintro e w2 ⟨rfl, rfl⟩
          clear BK
          go_wp2_with fail
          go_loop [8] (fun kv => ∃ k : Nat, i < k ∧ k ≤ len ∧ kv = .int .i64 k ∧ Hid (k + run nl (xs.drop k) = i + run nl (xs.drop i))) (fun kv => len - (intOf kv).toNat)
          case atStart => exact ⟨i + 1, by omega, by omega, by go_num, Lib.hid (by have := HRn.out; omega)⟩
          case round =>
            obtain ⟨k, hik, hkl, rfl, HK⟩ := hrel
            by_cases hk2 : k < len
            · have hck := HX.out k hk2
              obtain ⟨q, hq⟩ : ∃ q, xs.getD k 0 = q := ⟨_, rfl⟩
              rw [hq] at hck
              have HQ := Lib.hid hq
              clear hq
              by_cases h10 : q = 10
              · have d10 : (q != 10) = false := by simpa using h10
                have HR0 := Lib.hid (run_no nl xs k (by have := hlen.out; omega) (by rw [HQ.out, h10]; rfl))
                have hke : k = i + run nl (xs.drop i) := by have := HR0.out; have := HK.out; omega
                have HKE := Lib.hid hke
                clear h10 hke
                go_wp2_with fail
                go_roundw
                case rel => exact ⟨k, ts, by omega, by omega, by go_num, Lib.hid (by rw [HL.out, HRem.out, ← HKE.out]), HV⟩
                case measure => simp [intOf]; omega
              · have d10 : (q != 10) = true := by simpa using h10
                have HR0 := Lib.hid (run_yes nl xs k (by have := hlen.out; omega) (by rw [HQ.out]; simpa [nl] using h10))
                clear h10
                go_wp2_with fail
                go_round
                case rel => exact ⟨k + 1, by omega, by omega, by go_num, Lib.hid (by have := HR0.out; have := HK.out; omega)⟩
                case measure => simp [intOf]; omega
            · have HR0 := Lib.hid (run_out nl xs k (by have := hlen.out; omega))
              have hke : k = i + run nl (xs.drop i) := by have := HR0.out; have := HK.out; omega
              have HKE := Lib.hid hke
              clear hke
              have hkd : decide (k < len) = false := decide_eq_false (by omega)
              go_wp2_with fail
              go_roundw
              case rel => exact ⟨k, ts, by omega, by omega, by go_num, Lib.hid (by rw [HL.out, HRem.out, ← HKE.out]), HV⟩
              case measure => simp [intOf]; omega
        · have d35 : (m == 35) = false := by simpa using h35
          have HST := Lib.hid (bl_stay xs i HIX.out (by rw [HM.out]; exact HBl.out) (by rw [HM.out]; exact h35))
          clear h35
          cases hl : isLetter m with
          | true =>
            rw [hl] at LK
            have HLt := Lib.hid hl
            have HSp := Lib.hid (step_letter HIX.out (by rw [HM.out]; exact hl))
            have HRn := Lib.hid (run_yes isNameB xs i HIX.out (by rw [HM.out, isNameB, hl]; rfl))
            clear hl DK OK
            go_wp2_with fail
            (with_reducible refine BK.out.mono ?_)
            rintro e w2 ⟨rfl, rfl⟩
            clear BK
            go_wp2_with fail
            (with_reducible refine LK.out.mono ?_)
            rintro e w2 ⟨rfl, rfl⟩
            clear LK
            go_wp2_with fail
            go_loop [8] (fun kv => ∃ k : Nat, i < k ∧ k ≤ len ∧ kv = .int .i64 k ∧ Hid (k + run isNameB (xs.drop k) = i + run isNameB (xs.drop i))) (fun kv => len - (intOf kv).toNat)
            case atStart => exact ⟨i + 1, by omega, by omega, by go_num, Lib.hid (by have := HRn.out; omega)⟩
            case round =>
              obtain ⟨k, hik, hkl, rfl, HK⟩ := hrel
              by_cases hk2 : k < len
              · have hck := HX.out k hk2
                have hbk := HBY.out k
                obtain ⟨q, hq⟩ : ∃ q, xs.getD k 0 = q := ⟨_, rfl⟩
                rw [hq] at hck hbk
                have HQ := Lib.hid hq
                have LQ := Lib.hid (letter_k q wr)
                have DQ := Lib.hid (digit_k q wr)
                clear hq
                cases hlq : isLetter q with
                | true =>
                  rw [hlq] at LQ
                  have HR0 := Lib.hid (run_yes isNameB xs k (by have := hlen.out; omega) (by rw [HQ.out, isNameB, hlq]; rfl))
                  clear hlq DQ
                  go_wp2_with fail
                  (with_reducible refine LQ.out.mono ?_)
                  rintro e w2 ⟨rfl, rfl⟩
                  clear LQ
                  go_wp2_with fail
                  go_round
                  case rel => exact ⟨k + 1, by omega, by omega, by go_num, Lib.hid (by have := HR0.out; have := HK.out; omega)⟩
                  case measure => simp [intOf]; omega
                | false =>
                  rw [hlq] at LQ
                  cases hdq : isDigit q with
                  | true =>
                    rw [hdq] at DQ
                    have HR0 := Lib.hid (run_yes isNameB xs k (by have := hlen.out; omega) (by rw [HQ.out, isNameB, hlq, hdq]; rfl))
                    clear hlq hdq
                    go_wp2_with fail
                    (with_reducible refine LQ.out.mono ?_)
                    rintro e w2 ⟨rfl, rfl⟩
                    go_wp2_with fail
                    (with_reducible refine DQ.out.mono ?_)
                    rintro e w2 ⟨rfl, rfl⟩
                    clear LQ DQ
                    go_wp2_with fail
                    go_round
                    case rel => exact ⟨k + 1, by omega, by omega, by go_num, Lib.hid (by have := HR0.out; have := HK.out; omega)⟩
                    case measure => simp [intOf]; omega
                  | false =>
                    rw [hdq] at DQ
                    by_cases h95 : q = 95
                    · have d95 : (q == 95) = true := by simpa using h95
                      have HR0 := Lib.hid (run_yes isNameB xs k (by have := hlen.out; omega) (by rw [HQ.out, h95]; rfl))
                      clear hlq hdq h95
                      go_wp2_with fail
                      (with_reducible refine LQ.out.mono ?_)
                      rintro e w2 ⟨rfl, rfl⟩
                      go_wp2_with fail
                      (with_reducible refine DQ.out.mono ?_)
                      rintro e w2 ⟨rfl, rfl⟩
                      clear LQ DQ
                      go_wp2_with fail
                      go_round
                      case rel => exact ⟨k + 1, by omega, by omega, by go_num, Lib.hid (by have := HR0.out; have := HK.out; omega)⟩
                      case measure => simp [intOf]; omega
                    · have d95 : (q == 95) = false := by simpa using h95
                      have hr0 := run_no isNameB xs k (by have := hlen.out; omega) (by rw [HQ.out, isNameB, hlq, hdq]; simpa using h95)
                      have KE : Hid (k = i + run isNameB (xs.drop i)) := Lib.hid (by have := HK.out; omega)
                      clear hlq hdq h95 hr0
                      go_wp2_with fail
                      (with_reducible refine LQ.out.mono ?_)
                      rintro e w2 ⟨rfl, rfl⟩
                      go_wp2_with fail
                      (with_reducible refine DQ.out.mono ?_)
                      rintro e w2 ⟨rfl, rfl⟩
                      clear LQ DQ
                      have sr := fun W => sub_run W (some ⟨b, off, none⟩) len c i (k) (by omega) (by omega)
                      have cv := src_conv (sub_src HSW.out i (k) (by omega) (by omega))
                      obtain ⟨st, hst⟩ : ∃ st, strOfNums ((xs.drop i).take (k - i)) = st := ⟨_, rfl⟩
                      rw [hst] at cv
                      have HStr := Lib.hid hst
                      clear hst
                      go_wp2_with (at_builtin; refine wpList_append_lies _ rfl (.tmp 77) (.tmp 86) 76 rfl w.heap.size 83 i0 _ 5 48 Tryz.underlying76 I0.out I1.out I2.out I3.out rfl (by decide) u5 ts.length (cellsT ts) rfl (ho.alloc _) ⟨wr.heap.size, 0, none⟩ 1 1 [.int .u8 1, .int .i64 i, .int .i64 (k : Nat), .string st, .int .i64 0] rfl rfl (World.news_of_block (cs := #[.int .u8 1, .int .i64 i, .int .i64 (k : Nat), .string st, .int .i64 0]) (t := 83) (fr := (0, 0)) (heap_alloc_new _ _)) (tok_one _ _ _ _ _) (by decide) (by unfold maxLen; omega) (by omega) (by simp; omega) _ rfl ?_)
                      intro g cap w5 hown5 hgrow5 _ _
                      have hV5 := Lib.hid (HV.out.push (one_below wr _) hgrow5 ⟨1, i, k, (xs.drop i).take (k - i), 0⟩ _ (by rw [tokC, HStr.out] <;> rfl) hown5)
                      clear hown5 hgrow5 ho sr cv
                      go_wp2_with fail
                      go_roundw
                      case rel => exact ⟨k, ts ++ [⟨1, i, k, (xs.drop i).take (k - i), 0⟩], by omega, by simp; omega, rfl, Lib.hid (by rw [HL.out, lexAt_tokK HIX.out HST.out HSp.out KE.out, pre_pre]), hV5⟩
                      case measure => simp [intOf]; omega
              · have hr0 := run_out isNameB xs k (by have := hlen.out; omega)
                have KE : Hid (k = i + run isNameB (xs.drop i)) := Lib.hid (by have := HK.out; omega)
                have hkd : decide (k < len) = false := decide_eq_false (by omega)
                clear hr0
                have sr := fun W => sub_run W (some ⟨b, off, none⟩) len c i (k) (by omega) (by omega)
                have cv := src_conv (sub_src HSW.out i (k) (by omega) (by omega))
                obtain ⟨st, hst⟩ : ∃ st, strOfNums ((xs.drop i).take (k - i)) = st := ⟨_, rfl⟩
                rw [hst] at cv
                have HStr := Lib.hid hst
                clear hst
                go_wp2_with (at_builtin; refine wpList_append_lies _ rfl (.tmp 77) (.tmp 86) 76 rfl w.heap.size 83 i0 _ 5 48 Tryz.underlying76 I0.out I1.out I2.out I3.out rfl (by decide) u5 ts.length (cellsT ts) rfl (ho.alloc _) ⟨wr.heap.size, 0, none⟩ 1 1 [.int .u8 1, .int .i64 i, .int .i64 (k : Nat), .string st, .int .i64 0] rfl rfl (World.news_of_block (cs := #[.int .u8 1, .int .i64 i, .int .i64 (k : Nat), .string st, .int .i64 0]) (t := 83) (fr := (0, 0)) (heap_alloc_new _ _)) (tok_one _ _ _ _ _) (by decide) (by unfold maxLen; omega) (by omega) (by simp; omega) _ rfl ?_)
                intro g cap w5 hown5 hgrow5 _ _
                have hV5 := Lib.hid (HV.out.push (one_below wr _) hgrow5 ⟨1, i, k, (xs.drop i).take (k - i), 0⟩ _ (by rw [tokC, HStr.out] <;> rfl) hown5)
                clear hown5 hgrow5 ho sr cv
                go_wp2_with fail
                go_roundw
                case rel => exact ⟨k, ts ++ [⟨1, i, k, (xs.drop i).take (k - i), 0⟩], by omega, by simp; omega, rfl, Lib.hid (by rw [HL.out, lexAt_tokK HIX.out HST.out HSp.out KE.out, pre_pre]), hV5⟩
                case measure => simp [intOf]; omega
          | false =>
            rw [hl] at LK
            have HLt := Lib.hid hl
            clear hl
            cases hd : isDigit m with
            | true =>
              rw [hd] at DK
              have HSp := Lib.hid (step_digit HIX.out (by rw [HM.out]; exact HLt.out) (by rw [HM.out]; exact hd))
              have HRn := Lib.hid (run_yes isDigit xs i HIX.out (by rw [HM.out]; exact hd))
              clear hd OK
              go_wp2_with fail
              (with_reducible refine BK.out.mono ?_)
              rintro e w2 ⟨rfl, rfl⟩
              clear BK
              go_wp2_with fail
              (with_reducible refine LK.out.mono ?_)
              rintro e w2 ⟨rfl, rfl⟩
              clear LK
              go_wp2_with fail
              (with_reducible refine DK.out.mono ?_)
              rintro e w2 ⟨rfl, rfl⟩
              clear DK
              go_wp2_with fail
              go_loop [8] (fun kv => ∃ k : Nat, i < k ∧ k ≤ len ∧ kv = .int .i64 k ∧ Hid (k + run isDigit (xs.drop k) = i + run isDigit (xs.drop i))) (fun kv => len - (intOf kv).toNat)
              case atStart => exact ⟨i + 1, by omega, by omega, by go_num, Lib.hid (by have := HRn.out; omega)⟩
              case round =>
                obtain ⟨k, hik, hkl, rfl, HK⟩ := hrel
                by_cases hk2 : k < len
                · have hck := HX.out k hk2
                  have hbk := HBY.out k
                  obtain ⟨q, hq⟩ : ∃ q, xs.getD k 0 = q := ⟨_, rfl⟩
                  rw [hq] at hck hbk
                  have HQ := Lib.hid hq
                  have DQ := Lib.hid (digit_k q wr)
                  clear hq
                  cases hdq : isDigit q with
                  | true =>
                    rw [hdq] at DQ
                    have HR0 := Lib.hid (run_yes isDigit xs k (by have := hlen.out; omega) (by rw [HQ.out]; exact hdq))
                    clear hdq
                    go_wp2_with fail
                    (with_reducible refine DQ.out.mono ?_)
                    rintro e w2 ⟨rfl, rfl⟩
                    clear DQ
                    go_wp2_with fail
                    go_round
                    case rel => exact ⟨k + 1, by omega, by omega, by go_num, Lib.hid (by have := HR0.out; have := HK.out; omega)⟩
                    case measure => simp [intOf]; omega
                  | false =>
                    rw [hdq] at DQ
                    have hr0 := run_no isDigit xs k (by have := hlen.out; omega) (by rw [HQ.out]; exact hdq)
                    have KE : Hid (k = i + run isDigit (xs.drop i)) := Lib.hid (by have := HK.out; omega)
                    clear hdq hr0
                    have srn := fun W => sub_run W (some ⟨b, off, none⟩) len c i k (by omega) (by omega)
                    have cvn := src_conv (sub_src HSW.out i k (by omega) (by omega))
                    have hrl := run_le isDigit (xs.drop i)
                    obtain ⟨st, hst⟩ : ∃ st, strOfNums ((xs.drop i).take (k - i)) = st := ⟨_, rfl⟩
                    have hbt := mem_subX (mem_byteX HBY.out) i (k - i)
                    have hbI : bytesI st = (xs.drop i).take (run isDigit (xs.drop i)) := by rw [← hst, bytesI_of _ hbt, KE.out, Nat.add_sub_cancel_left]
                    have hssz : st.size = run isDigit (xs.drop i) := by
                      rw [← bytesI_length, hbI, List.length_take]
                      omega
                    have hkk := KE.out
                    have RN := refNumber_at wr st (by omega) (fun j hj => by
                      rw [hbI]
                      have := run_all isDigit (xs.drop i) j (by omega)
                      simpa [List.getD, List.getElem?_take, show j < run isDigit (xs.drop i) by omega] using this)
                    have hnv : numV 0 (bytesI st) = numV 0 (xs.drop i) := by rw [hbI, numV_takeX]
                    rw [hst] at cvn
                    have HStr := Lib.hid hst
                    clear hst hbt hbI hssz hkk hrl
                    cases hn : numV 0 (xs.drop i) with
                    | some n =>
                      have HSp2 : Hid (step (xs.drop i) = .tok 2 (run isDigit (xs.drop i)) n) := Lib.hid (by rw [HSp.out, hn])
                      have RN2 : Hid (Calls Tryz.prog 93 #[.string st] wr fun e w' => e = .returned (.tuple #[.int .i64 n, .bool true]) ∧ wr = w') := Lib.hid (RN.mono fun e w' ⟨h1, h2⟩ => ⟨by
                        unfold RefNum at h1
                        rw [hnv, hn] at h1
                        exact h1, h2.symm⟩)
                      clear RN hnv hn
                      go_wp2_with fail
                      (with_reducible refine DQ.out.mono ?_)
                      rintro e w2 ⟨rfl, rfl⟩
                      clear DQ
                      go_wp2_with fail
                      (with_reducible refine RN2.out.mono ?_)
                      rintro e w2 ⟨rfl, rfl⟩
                      clear RN2
                      go_wp2_with (at_builtin; refine wpList_append_lies _ rfl (.tmp 116) (.tmp 126) 76 rfl w.heap.size 83 i0 _ 5 48 Tryz.underlying76 I0.out I1.out I2.out I3.out rfl (by decide) u5 ts.length (cellsT ts) rfl (ho.alloc _) ⟨wr.heap.size, 0, none⟩ 1 1 [.int .u8 2, .int .i64 i, .int .i64 (k : Nat), .string st, .int .i64 n] rfl rfl (World.news_of_block (cs := #[.int .u8 2, .int .i64 i, .int .i64 (k : Nat), .string st, .int .i64 n]) (t := 83) (fr := (0, 0)) (heap_alloc_new _ _)) (tok_one _ _ _ _ _) (by decide) (by unfold maxLen; omega) (by omega) (by simp; omega) _ rfl ?_)
                      intro g cap w5 hown5 hgrow5 _ _
                      have hV5 := Lib.hid (HV.out.push (one_below wr _) hgrow5 ⟨2, i, k, (xs.drop i).take (k - i), n⟩ _ (by rw [tokC, HStr.out] <;> rfl) hown5)
                      clear hown5 hgrow5 ho srn cvn
                      go_wp2_with fail
                      go_roundw
                      case rel => exact ⟨k, ts ++ [⟨2, i, k, (xs.drop i).take (k - i), n⟩], by omega, by simp; omega, rfl, Lib.hid (by rw [HL.out, lexAt_tokK HIX.out HST.out HSp2.out KE.out, pre_pre]), hV5⟩
                      case measure => simp [intOf]; omega
                    | none =>
                      have HSp2 : Hid (step (xs.drop i) = .err 31) := Lib.hid (by rw [HSp.out, hn])
                      have RN2 : Hid (Calls Tryz.prog 93 #[.string st] wr fun e w' => e = .returned (.tuple #[.int .i64 0, .bool false]) ∧ wr = w') := Lib.hid (RN.mono fun e w' ⟨h1, h2⟩ => ⟨by
                        unfold RefNum at h1
                        rw [hnv, hn] at h1
                        exact h1, h2.symm⟩)
                      clear RN hnv hn
                      go_wp2_with fail
                      (with_reducible refine DQ.out.mono ?_)
                      rintro e w2 ⟨rfl, rfl⟩
                      clear DQ
                      go_wp2_with fail
                      (with_reducible refine RN2.out.mono ?_)
                      rintro e w2 ⟨rfl, rfl⟩
                      clear RN2
                      go_wp2
                      go_ret3
                      exact refPost_err (by rw [HL.out, lexAt_err xs i 31 HIX.out HST.out HSp2.out]; rfl) HV.out.below
                · have hr0 := run_out isDigit xs k (by have := hlen.out; omega)
                  have KE : Hid (k = i + run isDigit (xs.drop i)) := Lib.hid (by have := HK.out; omega)
                  have hkd : decide (k < len) = false := decide_eq_false (by omega)
                  clear hr0
                  have srn := fun W => sub_run W (some ⟨b, off, none⟩) len c i k (by omega) (by omega)
                  have cvn := src_conv (sub_src HSW.out i k (by omega) (by omega))
                  have hrl := run_le isDigit (xs.drop i)
                  obtain ⟨st, hst⟩ : ∃ st, strOfNums ((xs.drop i).take (k - i)) = st := ⟨_, rfl⟩
                  have hbt := mem_subX (mem_byteX HBY.out) i (k - i)
                  have hbI : bytesI st = (xs.drop i).take (run isDigit (xs.drop i)) := by rw [← hst, bytesI_of _ hbt, KE.out, Nat.add_sub_cancel_left]
                  have hssz : st.size = run isDigit (xs.drop i) := by
                    rw [← bytesI_length, hbI, List.length_take]
                    omega
                  have hkk := KE.out
                  have RN := refNumber_at wr st (by omega) (fun j hj => by
                    rw [hbI]
                    have := run_all isDigit (xs.drop i) j (by omega)
                    simpa [List.getD, List.getElem?_take, show j < run isDigit (xs.drop i) by omega] using this)
                  have hnv : numV 0 (bytesI st) = numV 0 (xs.drop i) := by rw [hbI, numV_takeX]
                  rw [hst] at cvn
                  have HStr := Lib.hid hst
                  clear hst hbt hbI hssz hkk hrl
                  cases hn : numV 0 (xs.drop i) with
                  | some n =>
                    have HSp2 : Hid (step (xs.drop i) = .tok 2 (run isDigit (xs.drop i)) n) := Lib.hid (by rw [HSp.out, hn])
                    have RN2 : Hid (Calls Tryz.prog 93 #[.string st] wr fun e w' => e = .returned (.tuple #[.int .i64 n, .bool true]) ∧ wr = w') := Lib.hid (RN.mono fun e w' ⟨h1, h2⟩ => ⟨by
                      unfold RefNum at h1
                      rw [hnv, hn] at h1
                      exact h1, h2.symm⟩)
                    clear RN hnv hn
                    go_wp2_with fail
                    (with_reducible refine RN2.out.mono ?_)
                    rintro e w2 ⟨rfl, rfl⟩
                    clear RN2
                    go_wp2_with (at_builtin; refine wpList_append_lies _ rfl (.tmp 116) (.tmp 126) 76 rfl w.heap.size 83 i0 _ 5 48 Tryz.underlying76 I0.out I1.out I2.out I3.out rfl (by decide) u5 ts.length (cellsT ts) rfl (ho.alloc _) ⟨wr.heap.size, 0, none⟩ 1 1 [.int .u8 2, .int .i64 i, .int .i64 (k : Nat), .string st, .int .i64 n] rfl rfl (World.news_of_block (cs := #[.int .u8 2, .int .i64 i, .int .i64 (k : Nat), .string st, .int .i64 n]) (t := 83) (fr := (0, 0)) (heap_alloc_new _ _)) (tok_one _ _ _ _ _) (by decide) (by unfold maxLen; omega) (by omega) (by simp; omega) _ rfl ?_)
                    intro g cap w5 hown5 hgrow5 _ _
                    have hV5 := Lib.hid (HV.out.push (one_below wr _) hgrow5 ⟨2, i, k, (xs.drop i).take (k - i), n⟩ _ (by rw [tokC, HStr.out] <;> rfl) hown5)
                    clear hown5 hgrow5 ho srn cvn
                    go_wp2_with fail
                    go_roundw
                    case rel => exact ⟨k, ts ++ [⟨2, i, k, (xs.drop i).take (k - i), n⟩], by omega, by simp; omega, rfl, Lib.hid (by rw [HL.out, lexAt_tokK HIX.out HST.out HSp2.out KE.out, pre_pre]), hV5⟩
                    case measure => simp [intOf]; omega
                  | none =>
                    have HSp2 : Hid (step (xs.drop i) = .err 31) := Lib.hid (by rw [HSp.out, hn])
                    have RN2 : Hid (Calls Tryz.prog 93 #[.string st] wr fun e w' => e = .returned (.tuple #[.int .i64 0, .bool false]) ∧ wr = w') := Lib.hid (RN.mono fun e w' ⟨h1, h2⟩ => ⟨by
                      unfold RefNum at h1
                      rw [hnv, hn] at h1
                      exact h1, h2.symm⟩)
                    clear RN hnv hn
                    go_wp2_with fail
                    (with_reducible refine RN2.out.mono ?_)
                    rintro e w2 ⟨rfl, rfl⟩
                    clear RN2
                    go_wp2
                    go_ret3
                    exact refPost_err (by rw [HL.out, lexAt_err xs i 31 HIX.out HST.out HSp2.out]; rfl) HV.out.below
            | false =>
              rw [hd] at DK
              have HDt := Lib.hid hd
              clear hd
              go_wp2_with fail
              (with_reducible refine BK.out.mono ?_)
              rintro e w2 ⟨rfl, rfl⟩
              clear BK
              go_wp2_with fail
              (with_reducible refine LK.out.mono ?_)
              rintro e w2 ⟨rfl, rfl⟩
              clear LK
              go_wp2_with fail
              (with_reducible refine DK.out.mono ?_)
              rintro e w2 ⟨rfl, rfl⟩
              clear DK
              by_cases h61 : m = 61
              · have d61 : (m == 61) = true := by simpa using h61
                have H61 := Lib.hid h61
                by_cases hi1 : i + 1 < len
                · have hck := HX.out (i + 1) hi1
                  have hbk := HBY.out (i + 1)
                  have hHd := head_at xs (i + 1) (by have := hlen.out; omega)
                  obtain ⟨q, hq⟩ : ∃ q, xs.getD (i + 1) 0 = q := ⟨_, rfl⟩
                  rw [hq] at hck hbk hHd
                  have HQ := Lib.hid hq
                  have hd1 : decide (i + 1 < len) = true := by simpa using hi1
                  clear hq
                  by_cases hq61 : q = 61
                  · have dq : (q == 61) = true := by simpa using hq61
                    have HSp2 : Hid (step (xs.drop i) = .tok 3 2 0) := Lib.hid (by rw [step_mark HIX.out (by rw [HM.out, h61]; rfl), if_pos ⟨by rw [HM.out, h61], by rw [hHd, hq61]⟩])
                    have KE : Hid (i + 2 = i + 2) := Lib.hid rfl
                    have HStr : Hid (strOfNums ((xs.drop i).take (i + 2 - i)) = ⟨#[61, 61]⟩) := Lib.hid (by
                      rw [Nat.add_sub_cancel_left, drop_at xs i HIX.out, drop_at xs (i + 1) (by have := hlen.out; omega), HM.out, HQ.out, h61, hq61]
                      rfl)
                    clear h61 hq61 hHd OK
                    go_wp2_with (at_builtin; refine wpList_append_lies _ rfl (.tmp 146) (.tmp 150) 76 rfl w.heap.size 83 i0 _ 5 48 Tryz.underlying76 I0.out I1.out I2.out I3.out rfl (by decide) u5 ts.length (cellsT ts) rfl (ho.alloc _) ⟨wr.heap.size, 0, none⟩ 1 1 [.int .u8 3, .int .i64 i, .int .i64 ((i : Int) + 2), .string ⟨#[61, 61]⟩, .int .i64 0] rfl rfl (World.news_of_block (cs := #[.int .u8 3, .int .i64 i, .int .i64 ((i : Int) + 2), .string ⟨#[61, 61]⟩, .int .i64 0]) (t := 83) (fr := (0, 0)) (heap_alloc_new _ _)) (tok_one _ _ _ _ _) (by decide) (by unfold maxLen; omega) (by omega) (by simp; omega) _ rfl ?_)
                    intro g cap w5 hown5 hgrow5 _ _
                    have hV5 := Lib.hid (HV.out.push (one_below wr _) hgrow5 ⟨3, i, i + 2, (xs.drop i).take (i + 2 - i), 0⟩ _ (by rw [tokC, HStr.out] <;> rfl) hown5)
                    clear hown5 hgrow5 ho 
                    go_wp2_with fail
                    go_roundw
                    case rel => exact ⟨i + 2, ts ++ [⟨3, i, i + 2, (xs.drop i).take (i + 2 - i), 0⟩], by omega, by simp; omega, by go_num, Lib.hid (by rw [HL.out, lexAt_tokK HIX.out HST.out HSp2.out (by rfl), pre_pre]), hV5⟩
                    case measure => simp [intOf]; omega
                  · have dq : (q == 61) = false := by simpa using hq61
                    have hne : ¬ (xs.getD i 0 = 61 ∧ (xs.drop (i + 1)).head? = some 61) := by
                      rw [hHd]
                      intro h
                      exact hq61 (by simpa using h.2)
                    have HNE := Lib.hid hne
                    clear h61 hq61 hHd hne
                    cases hmk : isMark m with
                    | true =>
                      rw [hmk] at OK
                      have HMk := Lib.hid (step_mark HIX.out (by rw [HM.out]; exact hmk))
                      have KE : Hid (i + 1 = i + 1) := Lib.hid rfl
                      have HSp2 : Hid (step (xs.drop i) = .tok 3 1 0) := Lib.hid (by rw [HMk.out, if_neg HNE.out])
                      clear hmk
                      go_wp2_with fail
                      (with_reducible refine OK.out.mono ?_)
                      rintro e w2 ⟨rfl, hb2⟩
                      have hV2 := Lib.hid (HV.out.on hb2)
                      have HSW2 := Lib.hid (HSW.out.below hb2)
                      have ho2 := hV2.out.own
                      have hsz2 := hV2.out.below.size
                      clear hb2 OK
                      have sr : ∀ W, (Instr.sliceAt 22 (.slice (some ⟨b, off, none⟩) len c) (some (.int .i64 i)) (some (.int .i64 ((i : Int) + 1))) none).run Tryz.prog W = .ok (.slice (subP (some ⟨b, off, none⟩) c i) 1 (c - i)) W := fun W => by
                        have := sub_run W (some ⟨b, off, none⟩) len c i (i + 1) (by omega) (by omega)
                        rw [Nat.add_sub_cancel_left] at this
                        exact this
                      have cv := src_conv (sub_src HSW2.out i (i + 1) (by omega) (by omega))
                      obtain ⟨st, hst⟩ : ∃ st, strOfNums ((xs.drop i).take (i + 1 - i)) = st := ⟨_, rfl⟩
                      rw [hst, Nat.add_sub_cancel_left] at cv
                      have HStr := Lib.hid hst
                      clear hst
                      go_wp2_with (at_builtin; refine wpList_append_lies _ rfl (.tmp 155) (.tmp 164) 76 rfl w.heap.size 83 i0 _ 5 48 Tryz.underlying76 I0.out I1.out I2.out I3.out rfl (by decide) u5 ts.length (cellsT ts) rfl (ho2.alloc _) ⟨w2.heap.size, 0, none⟩ 1 1 [.int .u8 3, .int .i64 i, .int .i64 ((i : Int) + 1), .string st, .int .i64 0] rfl rfl (World.news_of_block (cs := #[.int .u8 3, .int .i64 i, .int .i64 ((i : Int) + 1), .string st, .int .i64 0]) (t := 83) (fr := (0, 0)) (heap_alloc_new _ _)) (tok_one _ _ _ _ _) (by decide) (by unfold maxLen; omega) (by omega) (by simp; omega) _ rfl ?_)
                      intro g cap w5 hown5 hgrow5 _ _
                      have hV5 := Lib.hid (hV2.out.push (one_below w2 _) hgrow5 ⟨3, i, i + 1, (xs.drop i).take (i + 1 - i), 0⟩ _ (by rw [tokC, HStr.out] <;> rfl) hown5)
                      clear hown5 hgrow5  sr cv
                      go_wp2_with fail
                      go_roundw
                      case rel => exact ⟨i + 1, ts ++ [⟨3, i, i + 1, (xs.drop i).take (i + 1 - i), 0⟩], by omega, by simp; omega, by go_num, Lib.hid (by rw [HL.out, lexAt_tokK HIX.out HST.out HSp2.out (by rfl), pre_pre]), hV5⟩
                      case measure => simp [intOf]; omega
                    | false =>
                      rw [hmk] at OK
                      have HSp2 : Hid (step (xs.drop i) = .err 30) := Lib.hid (step_none HIX.out (by rw [HM.out]; exact HLt.out) (by rw [HM.out]; exact HDt.out) (by rw [HM.out]; exact hmk))
                      clear hmk
                      go_wp2_with fail
                      (with_reducible refine OK.out.mono ?_)
                      rintro e w2 ⟨rfl, hb2⟩
                      have HB2 := Lib.hid (HV.out.on hb2).below
                      clear hb2 OK
                      go_wp2
                      go_ret3
                      exact refPost_err (by rw [HL.out, lexAt_err xs i 30 HIX.out HST.out HSp2.out]; rfl) HB2.out
                · have hd1 : decide (i + 1 < len) = false := decide_eq_false (by omega)
                  have hHd := head_end xs (i + 1) (by have := hlen.out; omega)
                  have hne : ¬ (xs.getD i 0 = 61 ∧ (xs.drop (i + 1)).head? = some 61) := by
                    rw [hHd]
                    intro h
                    simp at h
                  have HNE := Lib.hid hne
                  clear h61 hHd hne
                  cases hmk : isMark m with
                  | true =>
                    rw [hmk] at OK
                    have HMk := Lib.hid (step_mark HIX.out (by rw [HM.out]; exact hmk))
                    have KE : Hid (i + 1 = i + 1) := Lib.hid rfl
                    have HSp2 : Hid (step (xs.drop i) = .tok 3 1 0) := Lib.hid (by rw [HMk.out, if_neg HNE.out])
                    clear hmk
                    go_wp2_with fail
                    (with_reducible refine OK.out.mono ?_)
                    rintro e w2 ⟨rfl, hb2⟩
                    have hV2 := Lib.hid (HV.out.on hb2)
                    have HSW2 := Lib.hid (HSW.out.below hb2)
                    have ho2 := hV2.out.own
                    have hsz2 := hV2.out.below.size
                    clear hb2 OK
                    have sr : ∀ W, (Instr.sliceAt 22 (.slice (some ⟨b, off, none⟩) len c) (some (.int .i64 i)) (some (.int .i64 ((i : Int) + 1))) none).run Tryz.prog W = .ok (.slice (subP (some ⟨b, off, none⟩) c i) 1 (c - i)) W := fun W => by
                      have := sub_run W (some ⟨b, off, none⟩) len c i (i + 1) (by omega) (by omega)
                      rw [Nat.add_sub_cancel_left] at this
                      exact this
                    have cv := src_conv (sub_src HSW2.out i (i + 1) (by omega) (by omega))
                    obtain ⟨st, hst⟩ : ∃ st, strOfNums ((xs.drop i).take (i + 1 - i)) = st := ⟨_, rfl⟩
                    rw [hst, Nat.add_sub_cancel_left] at cv
                    have HStr := Lib.hid hst
                    clear hst
                    go_wp2_with (at_builtin; refine wpList_append_lies _ rfl (.tmp 155) (.tmp 164) 76 rfl w.heap.size 83 i0 _ 5 48 Tryz.underlying76 I0.out I1.out I2.out I3.out rfl (by decide) u5 ts.length (cellsT ts) rfl (ho2.alloc _) ⟨w2.heap.size, 0, none⟩ 1 1 [.int .u8 3, .int .i64 i, .int .i64 ((i : Int) + 1), .string st, .int .i64 0] rfl rfl (World.news_of_block (cs := #[.int .u8 3, .int .i64 i, .int .i64 ((i : Int) + 1), .string st, .int .i64 0]) (t := 83) (fr := (0, 0)) (heap_alloc_new _ _)) (tok_one _ _ _ _ _) (by decide) (by unfold maxLen; omega) (by omega) (by simp; omega) _ rfl ?_)
                    intro g cap w5 hown5 hgrow5 _ _
                    have hV5 := Lib.hid (hV2.out.push (one_below w2 _) hgrow5 ⟨3, i, i + 1, (xs.drop i).take (i + 1 - i), 0⟩ _ (by rw [tokC, HStr.out] <;> rfl) hown5)
                    clear hown5 hgrow5  sr cv
                    go_wp2_with fail
                    go_roundw
                    case rel => exact ⟨i + 1, ts ++ [⟨3, i, i + 1, (xs.drop i).take (i + 1 - i), 0⟩], by omega, by simp; omega, by go_num, Lib.hid (by rw [HL.out, lexAt_tokK HIX.out HST.out HSp2.out (by rfl), pre_pre]), hV5⟩
                    case measure => simp [intOf]; omega
                  | false =>
                    rw [hmk] at OK
                    have HSp2 : Hid (step (xs.drop i) = .err 30) := Lib.hid (step_none HIX.out (by rw [HM.out]; exact HLt.out) (by rw [HM.out]; exact HDt.out) (by rw [HM.out]; exact hmk))
                    clear hmk
                    go_wp2_with fail
                    (with_reducible refine OK.out.mono ?_)
                    rintro e w2 ⟨rfl, hb2⟩
                    have HB2 := Lib.hid (HV.out.on hb2).below
                    clear hb2 OK
                    go_wp2
                    go_ret3
                    exact refPost_err (by rw [HL.out, lexAt_err xs i 30 HIX.out HST.out HSp2.out]; rfl) HB2.out
              · have d61 : (m == 61) = false := by simpa using h61
                have hne : ¬ (xs.getD i 0 = 61 ∧ (xs.drop (i + 1)).head? = some 61) := by
                  rw [HM.out]
                  exact fun h => h61 h.1
                have HNE := Lib.hid hne
                clear h61 hne
                cases hmk : isMark m with
                | true =>
                  rw [hmk] at OK
                  have HMk := Lib.hid (step_mark HIX.out (by rw [HM.out]; exact hmk))
                  have KE : Hid (i + 1 = i + 1) := Lib.hid rfl
                  have HSp2 : Hid (step (xs.drop i) = .tok 3 1 0) := Lib.hid (by rw [HMk.out, if_neg HNE.out])
                  clear hmk
                  go_wp2_with fail
                  (with_reducible refine OK.out.mono ?_)
                  rintro e w2 ⟨rfl, hb2⟩
                  have hV2 := Lib.hid (HV.out.on hb2)
                  have HSW2 := Lib.hid (HSW.out.below hb2)
                  have ho2 := hV2.out.own
                  have hsz2 := hV2.out.below.size
                  clear hb2 OK
                  have sr : ∀ W, (Instr.sliceAt 22 (.slice (some ⟨b, off, none⟩) len c) (some (.int .i64 i)) (some (.int .i64 ((i : Int) + 1))) none).run Tryz.prog W = .ok (.slice (subP (some ⟨b, off, none⟩) c i) 1 (c - i)) W := fun W => by
                    have := sub_run W (some ⟨b, off, none⟩) len c i (i + 1) (by omega) (by omega)
                    rw [Nat.add_sub_cancel_left] at this
                    exact this
                  have cv := src_conv (sub_src HSW2.out i (i + 1) (by omega) (by omega))
                  obtain ⟨st, hst⟩ : ∃ st, strOfNums ((xs.drop i).take (i + 1 - i)) = st := ⟨_, rfl⟩
                  rw [hst, Nat.add_sub_cancel_left] at cv
                  have HStr := Lib.hid hst
                  clear hst
                  go_wp2_with (at_builtin; refine wpList_append_lies _ rfl (.tmp 155) (.tmp 164) 76 rfl w.heap.size 83 i0 _ 5 48 Tryz.underlying76 I0.out I1.out I2.out I3.out rfl (by decide) u5 ts.length (cellsT ts) rfl (ho2.alloc _) ⟨w2.heap.size, 0, none⟩ 1 1 [.int .u8 3, .int .i64 i, .int .i64 ((i : Int) + 1), .string st, .int .i64 0] rfl rfl (World.news_of_block (cs := #[.int .u8 3, .int .i64 i, .int .i64 ((i : Int) + 1), .string st, .int .i64 0]) (t := 83) (fr := (0, 0)) (heap_alloc_new _ _)) (tok_one _ _ _ _ _) (by decide) (by unfold maxLen; omega) (by omega) (by simp; omega) _ rfl ?_)
                  intro g cap w5 hown5 hgrow5 _ _
                  have hV5 := Lib.hid (hV2.out.push (one_below w2 _) hgrow5 ⟨3, i, i + 1, (xs.drop i).take (i + 1 - i), 0⟩ _ (by rw [tokC, HStr.out] <;> rfl) hown5)
                  clear hown5 hgrow5  sr cv
                  go_wp2_with fail
                  go_roundw
                  case rel => exact ⟨i + 1, ts ++ [⟨3, i, i + 1, (xs.drop i).take (i + 1 - i), 0⟩], by omega, by simp; omega, by go_num, Lib.hid (by rw [HL.out, lexAt_tokK HIX.out HST.out HSp2.out (by rfl), pre_pre]), hV5⟩
                  case measure => simp [intOf]; omega
                | false =>
                  rw [hmk] at OK
                  have HSp2 : Hid (step (xs.drop i) = .err 30) := Lib.hid (step_none HIX.out (by rw [HM.out]; exact HLt.out) (by rw [HM.out]; exact HDt.out) (by rw [HM.out]; exact hmk))
                  clear hmk
                  go_wp2_with fail
                  (with_reducible refine OK.out.mono ?_)
                  rintro e w2 ⟨rfl, hb2⟩
                  have HB2 := Lib.hid (HV.out.on hb2).below
                  clear hb2 OK
                  go_wp2
                  go_ret3
                  exact refPost_err (by rw [HL.out, lexAt_err xs i 30 HIX.out HST.out HSp2.out]; rfl) HB2.out
    · have HE := Lib.hid (lexAt_end xs i (by have := hlen.out; omega))
      have hil2 : i = len := by omega
      go_wp2_with (at_builtin; refine wpList_append_lies _ rfl (.tmp 167) (.tmp 173) 76 rfl w.heap.size 83 i0 _ 5 48 Tryz.underlying76 I0.out I1.out I2.out I3.out rfl (by decide) u5 ts.length (cellsT ts) rfl (ho.alloc _) ⟨wr.heap.size, 0, none⟩ 1 1 [.int .u8 4, .int .i64 len, .int .i64 len, .string ⟨#[]⟩, .int .i64 0] rfl rfl ?zz1 ?zz2 (by decide) ?zz3 ?zz4 ?zz5 _ rfl ?_)
      case zz1 =>
        refine World.news_of_block (cs := #[.int .u8 4, .int .i64 len, .int .i64 len, .string ⟨#[]⟩, .int .i64 0]) (t := 83) (fr := (0, 0)) ?_
        exact heap_alloc_new _ _
      case zz2 => exact tok_one _ _ _ _ _
      case zz3 => unfold maxLen; omega
      case zz4 => omega
      case zz5 => simp; omega
      intro g cap w5 hown5 hgrow5 _ _
      have hV5 := Lib.hid (HV.out.push (one_below wr _) hgrow5 (Tok.endAt len) _ (by simp [tokC, Tok.endAt, strOfNums]) hown5)
      have HIL := Lib.hid hil2
      clear hown5 hgrow5 ho hil2
      go_wp2
      go_ret3
      exact refPost_ok (ts := ts ++ [Tok.endAt len]) (by rw [HL.out, HE.out, HIL.out]; rfl) (by simp) (by rfl) (by have := hV5.out.own; rw [List.length_append] at this; exact this) hV5.out.below
end Go.Proofs.YtpemghcafbedeaaGreatDoor
end
section
namespace Go.Proofs.YtpemghcafbedeaaGreatDoor
open Go.RowKit Par
mutual
theorem flatL_few (o : Nat) : ∀ (ks : List Ast), sizeL ks ≤ 70000 → ∀ nd ∈ flatL o ks, nd.kids.length ≤ 70000
  | [], _, nd, hnd => by simp [flatL] at hnd
  | x :: r, hs, nd, hnd => by
    simp only [flatL, List.mem_append] at hnd
    simp only [sizeL] at hs
    rcases hnd with hnd | hnd
    · exact flat_few o x (by omega) nd hnd
    · exact flatL_few _ r (by omega) nd hnd
theorem flat_few (o : Nat) : ∀ (a : Ast), a.size ≤ 70000 → ∀ nd ∈ flat o a, nd.kids.length ≤ 70000
  | .mk k p t n ks, hs, nd, hnd => by
    simp only [flat, List.mem_cons] at hnd
    simp only [Ast.size] at hs
    rcases hnd with rfl | hnd
    · simp only [heads_length]
      have := length_le_sizeL ks
      omega
    · exact flatL_few (o + 1) ks (by omega) nd hnd
end
theorem program_few {l l' : List PT} {a : Ast} (h : programP l = .ok a l') : a.size ≤ l.length + 1 := by
  obtain ⟨t, r, ks, hl, rfl, hm⟩ := program_of h
  have h2 : sizeL ks + l'.length ≤ 0 + l.length := Sz.many (cr := sizeL) sz_prog [] _ _ _ hm
  simp only [nodeA, Ast.size]
  omega
theorem parse_few {xs : List Int} {ns : List Nd} (hp : parseS xs = .ok ns) (hl : xs.length ≤ 60000) : ns.length ≤ 70000 ∧ ∀ nd ∈ ns, nd.kids.length ≤ 70000 := by
  cases hx : lexS xs with
  | error e => simp [parseS, hx] at hp
  | ok ts =>
    simp only [parseS, hx] at hp
    cases hq : programP (ts.map ptOf) with
    | err p c => rw [hq] at hp; simp at hp
    | ok a l =>
      rw [hq] at hp
      simp only [Except.ok.injEq] at hp
      subst hp
      have h1 := program_few hq
      have h2 := lexN_len _ _ _ _ hx
      rw [List.length_map] at h1
      exact ⟨by rw [flat_length]; omega, flat_few 0 a (by omega)⟩
set_option maxHeartbeats 4000000 in
set_option maxRecDepth 1000000 in
theorem place_nilA (w : World) :
    Calls Tryz.prog 16 #[.nilIface] w fun e w' => e = .returned (.tuple #[.int .i64 0, .int .i64 0, .int .i64 0, .bool false]) ∧ Below w.heap.size w w' := by
  have hmf : ∀ (fn : Fn) (first cap : Array Value) (w : World), (Instr.makeFunc fn first cap).run Tryz.prog w = .ok (.func fn first cap) w := fun _ _ _ _ => rfl
  have HA : ∀ (v : Value) (W : World), Calls Tryz.prog 47 #[.nilIface, v] W fun e w' => e = .returned (.bool false) ∧ W = w' := fun v W => by
    go_enter Tryz.func47, Tryz.ntmps47
    go_wp2
    go_ret
    exact ⟨rfl, rfl⟩
  have H := Lib.hid HA
  clear HA
  go_enter_defers Tryz.func16, Tryz.ntmps16
  go_wp2_with (go_at_call 47; (with_reducible refine (H.out _ _).mono ?_); rintro e' w' ⟨rfl, rfl⟩)
  refine leaves_cons (f := 46) (args := #[.pointer (some ⟨w.heap.size, 0, none⟩), .pointer (some ⟨w.heap.size + 1, 0, none⟩), .pointer (some ⟨w.heap.size + 1 + 1, 0, none⟩), .pointer (some ⟨w.heap.size + 1 + 1 + 1, 0, none⟩)]) (by simp) (by simp [go_sem]) ?_
  refine (placeDone _ _ _ _ _).mono ?_
  rintro e u' w'' ⟨rfl, rfl, rfl⟩
  simp [Leaves, settle, results, Tryz.results16, go_sem]
  exact (((((Below.refl _ _).alloc (Nat.le_refl _) _).alloc (by simp) _).alloc (by simp; omega) _).alloc (by simp; omega) _).alloc (by simp; omega) _
end Go.Proofs.YtpemghcafbedeaaGreatDoor
end
