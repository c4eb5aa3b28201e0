/- Contracts. -/
import Derived.Test.YthdioipfdbbmmaaGreatDoorKah
import Derived.Test.YthdioipfdbbmmaaGreatDoorKbb
set_option linter.all false
set_option maxRecDepth 1000000
set_option maxHeartbeats 16000000
namespace Go.Proofs.YthdioipfdbbmmaaGreatDoor
section
open Go.RowKit
open Par (Less many many_err many_done many_more)
section
variable {E:Env}{v:Value}{kvs:List Value}{md:List Nd}{r:Nat}{l:List PT}{w:World}
theorem end_one {v0:Value}{kvs0 n:List Value}{md0:List Nd}{w0:World}{a:Ast}(h:St E v0 kvs0 md0 w0 [a] r l v n w)(k:Int)(p:Nat)(nn:Int)(t:ByteArray)(kz:Value) :
 Calls Tryz.prog 196 #[.pointer (some ⟨E.b,0,none⟩),.agg #[.int .u8 k,.int .i64 (p:Int),.string t,.int .i64 nn,kz],.slice (some ⟨w.heap.size,0,none⟩) 1 1] (w.alloc (.cells #[.int .i64 (rootI (md0.length+sizeL []) a)] 3)) (PostE E (endP (.mk k p t nn [a]) l) fun a l'=>OkA E v0 kvs0 md0 r w0 a l') :=
 end_at (h.alloc _) (Rw.lit h (q:=w.heap.size) rfl (ks:=roots md0.length [a]) (cs:=#[.int .i64 (rootI (md0.length+sizeL []) a)]) (m:=1) (by simp [roots,rootI,sizeL]<;>omega) (by simp [roots]) (by omega)) rfl
theorem release_at (h:PS E v kvs md r l w)(p:Nat):Calls Tryz.prog 122 #[.pointer (some ⟨E.b,0,none⟩),.int .i64 (p:Int)] w (PostE E (releaseP r p l) fun a l'=>OkA E v kvs md r w a l'):=by
 have hr64:=h.r64
 have RM:=lh h.room
 have S1:=lh (St.start h)
 have hnot:=nt
 clear h
 have S2:=lh (S1.out.alloc (.cells #[.int .u8 13,.int .i64 (p:Int),.string ⟨#[]⟩,.int .i64 0,.slice none 0 0] 54))
 have Q3:Hid (w.heap.size≤w.heap.size):=lh S1.out.fr.size
 have L4:=lh (Lcl.new S1.out.ps (.cells #[.int .u8 13,.int .i64 (p:Int),.string ⟨#[]⟩,.int .i64 0,.slice none 0 0] 54))
 clear S1
 go_enter Tryz.func122,Tryz.ntmps122
 have C5:=lh (take_at S2.out.ps 1 (by decide))
 go_wp2_with fail
 (with_reducible refine C5.out.mono ?_)
 rintro e w6 hP
 clear C5
 cases hx:takeP 1 l with
 | err pe ce =>
  obtain ⟨rfl,HB⟩:=pE hx hP
  replace hx:=lh hx
  go_wp2
  exact ⟨rfl,of_err (by simp only [releaseP,nodeA,Par.bind,hx.out]) HB.out⟩
 | ok t l1 =>
  rw [hx] at hP
  have X7:=lh hx
  obtain ⟨sp,rfl,hs,hf⟩:=hP
  obtain ⟨S,T⟩:=S2.out.same hs hf
  clear hs hf hx
  simp only [tokA]
  have L8:=lh (L4.out.tr T)
  have S9:=lh (S)
  clear S T S2 L4
  have c10:=L8.out.cell 0 rfl
  have c11:=L8.out.cell 1 rfl
  have c12:=L8.out.cell 2 rfl
  have c13:=L8.out.cell 3 rfl
  have c14:=L8.out.cell 4 rfl
  have z15:=L8.out.fz
  have hroom2:Hid (md.length+1+l1.length≤70000):=lh (by have h1:=RM.out;have h2:=takes_take _ _ _ _ X7.out;omega)
  have S16:=lh (S9.out.alloc (.cells #[.int .u8 t.kind,.int .i64 (t.at':Int),.int .i64 (sp:Int),.string t.txt,.int .i64 t.n] 29))
  have L17:=lh (L8.out.alloc (.cells #[.int .u8 t.kind,.int .i64 (t.at':Int),.int .i64 (sp:Int),.string t.txt,.int .i64 t.n] 29))
  have Q18:Hid (w.heap.size≤w6.heap.size):=lh S9.out.fr.size
  have L19:=lh (Lcl.new S9.out.ps (.cells #[.int .u8 t.kind,.int .i64 (t.at':Int),.int .i64 (sp:Int),.string t.txt,.int .i64 t.n] 29))
  clear S9 L8
  have C20:=lh (isNext_at S16.out.ps ⟨#[91]⟩)
  go_wp2_with fail
  clear c10 c11 c12 c13 c14 z15
  (with_reducible refine C20.out.mono ?_)
  rintro e w21 ⟨t21,l21,hl,rfl,hs,hf⟩
  clear C20
  obtain ⟨S,T⟩:=S16.out.same hs hf
  cases hd:decide (t21.txt=⟨#[91]⟩) with
  | false =>
   have X22:Hid (isNextP ⟨#[91]⟩ l1=.ok false l1):=lh (by rw [hl,isNextP,hd])
   clear hs hf hl hd
   have L23:=lh (L17.out.tr T)
   have L24:=lh (L19.out.tr T)
   have S25:=lh (S)
   clear S T S16 L17 L19
   have c26:=L23.out.cell 0 rfl
   have c27:=L23.out.cell 1 rfl
   have c28:=L23.out.cell 2 rfl
   have c29:=L23.out.cell 3 rfl
   have c30:=L23.out.cell 4 rfl
   have z31:=L23.out.fz
   have c32:=L24.out.cell 0 rfl
   have c33:=L24.out.cell 1 rfl
   have c34:=L24.out.cell 2 rfl
   have c35:=L24.out.cell 3 rfl
   have c36:=L24.out.cell 4 rfl
   have z37:=L24.out.fz
   have SD:=lh S25.out.drew
   have LD:=lh L23.out.drew
   cases hx:endP (.mk 13 p none0 0 [wordA t]) l1 with
   | err pe ce =>
    have HR:Hid (releaseP r p l=.err pe ce):=lh (by simp only [releaseP,nodeA,Par.bind,X7.out,X22.out,hx])
    have HE:=lh hx
    clear hx
    go_wp2_with fail
    go_region_with (first
     | (go_at_call 202;(with_reducible refine (addWord_at SD.out.ps t sp (by have h9:=hroom2.out;simp only [postL,List.append_nil];exact h9)).mono ?_);rintro e wp hA;obtain ⟨v2,n2,rfl,S2,T2⟩:=SD.out.ast (ts':=[wordA t]) hA rfl;have L2:=LD.out.tr T2;have d0:=L2.cell 0 rfl;have d1:=L2.cell 1 rfl;have d2:=L2.cell 2 rfl;have d3:=L2.cell 3 rfl;have d4:=L2.cell 4 rfl;have L3:=L2.alloc (.cells #[.int .i64 (rootI (md.length+sizeL []) (wordA t))] 3);have e0:=L3.cell 0 rfl;have e1:=L3.cell 1 rfl;have e2:=L3.cell 2 rfl;have e3:=L3.cell 3 rfl;have e4:=L3.cell 4 rfl)
     | (go_at_call 196;(with_reducible refine (post_err (end_one S2 13 p 0 none0 (.slice none 0 0)) HE.out).mono ?_);rintro e wq ⟨rfl,hb⟩;refine region_out (P:=Tryz.prog) wq ⟨rfl,of_err HR.out hb⟩ ?_))
    all_goals trivial
   | ok ka l5 =>
    have HR:Hid (releaseP r p l=.ok ka l5):=lh (by simp only [releaseP,nodeA,Par.bind,X7.out,X22.out,hx])
    have HE:=lh hx
    clear hx
    go_wp2_with fail
    go_region_with (first
     | (go_at_call 202;(with_reducible refine (addWord_at SD.out.ps t sp (by have h9:=hroom2.out;simp only [postL,List.append_nil];exact h9)).mono ?_);rintro e wp hA;obtain ⟨v2,n2,rfl,S2,T2⟩:=SD.out.ast (ts':=[wordA t]) hA rfl;have L2:=LD.out.tr T2;have d0:=L2.cell 0 rfl;have d1:=L2.cell 1 rfl;have d2:=L2.cell 2 rfl;have d3:=L2.cell 3 rfl;have d4:=L2.cell 4 rfl;have L3:=L2.alloc (.cells #[.int .i64 (rootI (md.length+sizeL []) (wordA t))] 3);have e0:=L3.cell 0 rfl;have e1:=L3.cell 1 rfl;have e2:=L3.cell 2 rfl;have e3:=L3.cell 3 rfl;have e4:=L3.cell 4 rfl)
     | (go_at_call 196;(with_reducible refine (post_ok (end_one S2 13 p 0 none0 (.slice none 0 0)) HE.out).mono ?_);rintro e wq hO;obtain ⟨z,rfl⟩:=OkA.int hO))
    all_goals go_wp2
    all_goals go_ret
    all_goals exact of_ok HR.out hO
  | true =>
   have X22:Hid (isNextP ⟨#[91]⟩ l1=.ok true l1):=lh (by rw [hl,isNextP,hd])
   clear hs hf hl hd
   have L23:=lh (L17.out.tr T)
   have L24:=lh (L19.out.tr T)
   have S25:=lh (S)
   clear S T S16 L17 L19
   have c26:=L23.out.cell 0 rfl
   have c27:=L23.out.cell 1 rfl
   have c28:=L23.out.cell 2 rfl
   have c29:=L23.out.cell 3 rfl
   have c30:=L23.out.cell 4 rfl
   have z31:=L23.out.fz
   have c32:=L24.out.cell 0 rfl
   have c33:=L24.out.cell 1 rfl
   have c34:=L24.out.cell 2 rfl
   have c35:=L24.out.cell 3 rfl
   have c36:=L24.out.cell 4 rfl
   have z37:=L24.out.fz
   have C38:=lh (rowOf_at S25.out.ps t sp)
   go_wp2_with fail
   clear c26 c27 c28 c29 c30 z31 c32 c33 c34 c35 c36 z37
   (with_reducible refine C38.out.mono ?_)
   rintro e w39 hP
   clear C38
   cases hx:rowOfP r t l1 with
   | err pe ce =>
    obtain ⟨rfl,HB⟩:=pE hx hP
    replace hx:=lh hx
    go_wp2
    exact ⟨rfl,of_err (by simp only [releaseP,nodeA,Par.bind,X7.out,X22.out,hx.out]) HB.out⟩
   | ok a l3 =>
    rw [hx] at hP
    have X40:=lh hx
    obtain ⟨v39,n39,rfl,S,T⟩:=S25.out.ast (ts':=[a]) hP rfl
    clear hP hx
    have L41:=lh (L23.out.tr T)
    have L42:=lh (L24.out.tr T)
    have S43:=lh (S)
    clear S T S25 L23 L24
    have c44:=L41.out.cell 0 rfl
    have c45:=L41.out.cell 1 rfl
    have c46:=L41.out.cell 2 rfl
    have c47:=L41.out.cell 3 rfl
    have c48:=L41.out.cell 4 rfl
    have z49:=L41.out.fz
    have c50:=L42.out.cell 0 rfl
    have c51:=L42.out.cell 1 rfl
    have c52:=L42.out.cell 2 rfl
    have c53:=L42.out.cell 3 rfl
    have c54:=L42.out.cell 4 rfl
    have z55:=L42.out.fz
    have R56:=lh (Rw.lit S43.out (q:=w39.heap.size) (by first|rfl|simp [World.setCell]) (ks:=roots md.length [a]) (cs:=#[.int .i64 (rootI (md.length+sizeL []) a)]) (m:=1) (by simp [roots,rootI,sizeL]<;>omega) (by simp [roots]) (by omega))
    have S57:=lh (S43.out.alloc (.cells #[.int .i64 (rootI (md.length+sizeL []) a)] 3))
    have L58:=lh (L41.out.alloc (.cells #[.int .i64 (rootI (md.length+sizeL []) a)] 3))
    have L59:=lh (L42.out.alloc (.cells #[.int .i64 (rootI (md.length+sizeL []) a)] 3))
    clear S43 L41 L42
    have C60:=lh (end_at (k:=13) (p:=p) (t:=none0) (nn:=0) (kz:=.slice none 0 0) S57.out R56.out rfl)
    go_wp2_with fail
    clear c44 c45 c46 c47 c48 z49 c50 c51 c52 c53 c54 z55
    (with_reducible refine C60.out.mono ?_)
    rintro e wf hP
    have HR:releaseP r p l=endP (.mk 13 p none0 0 [a]) l3:=by simp only [releaseP,nodeA,Par.bind,X7.out,X22.out,X40.out]
    rw [← HR] at hP
    have hfin:=lh hP
    rcases post_form hP with ⟨z,rfl⟩|⟨ch,rfl⟩
    · clear hP HR C60
      go_wp2
      go_ret
      exact hfin.out
    · clear hP HR C60
      go_wp2
      exact ⟨rfl,hfin.out⟩
theorem proc_at (h:PS E v kvs md 64 l w)(hB:∀v kvs md l w,PS E v kvs md 64 l w→Calls Tryz.prog 203 #[.pointer (some ⟨E.b,0,none⟩)] w (PostE E (blockP 64 l) fun a l'=>OkA E v kvs md 64 w a l')):Calls Tryz.prog 132 #[.pointer (some ⟨E.b,0,none⟩)] w (PostE E (procP l) fun a l'=>OkA E v kvs md 64 w a l'):=by
 have HBB:=lh hB
 clear hB
 have hr64:=h.r64
 have RM:=lh h.room
 have S1:=lh (St.start h)
 have fl3:=tok_f3
 have hnot:=nt
 clear h
 go_enter Tryz.func132,Tryz.ntmps132
 have C2:=lh (expect_at S1.out.ps ⟨#[112,114,111,99]⟩ (by decide))
 go_wp2_with fail
 (with_reducible refine C2.out.mono ?_)
 rintro e w3 hP
 clear C2
 cases hx:expectP ⟨#[112,114,111,99]⟩ l with
 | err pe ce =>
  obtain ⟨rfl,HB⟩:=pE hx hP
  replace hx:=lh hx
  go_wp2
  exact ⟨rfl,of_err (by simp only [procP,Par.bind,hx.out]) HB.out⟩
 | ok p l1 =>
  rw [hx] at hP
  have X4:=lh hx
  obtain ⟨rfl,hs,hf⟩:=hP
  obtain ⟨S,T⟩:=S1.out.same hs hf
  clear hs hf hx
  have S5:=lh (S)
  clear S T S1
  have S6:=lh (S5.out.alloc (.cells #[.int .u8 3,.int .i64 (p:Int),.string ⟨#[]⟩,.int .i64 0,.slice none 0 0] 54))
  have Q7:Hid (w.heap.size≤w3.heap.size):=lh S5.out.fr.size
  have L8:=lh (Lcl.new S5.out.ps (.cells #[.int .u8 3,.int .i64 (p:Int),.string ⟨#[]⟩,.int .i64 0,.slice none 0 0] 54))
  clear S5
  have C9:=lh (take_at S6.out.ps 1 (by decide))
  go_wp2_with fail
  (with_reducible refine C9.out.mono ?_)
  rintro e w10 hP
  clear C9
  cases hx:takeP 1 l1 with
  | err pe ce =>
   obtain ⟨rfl,HB⟩:=pE hx hP
   replace hx:=lh hx
   go_wp2
   exact ⟨rfl,of_err (by simp only [procP,Par.bind,X4.out,hx.out]) HB.out⟩
  | ok t l2 =>
   rw [hx] at hP
   have X11:=lh hx
   obtain ⟨sp,rfl,hs,hf⟩:=hP
   obtain ⟨S,T⟩:=S6.out.same hs hf
   clear hs hf hx
   simp only [tokA]
   have L12:=lh (L8.out.tr T)
   have S13:=lh (S)
   clear S T S6 L8
   have c14:=L12.out.cell 0 rfl
   have c15:=L12.out.cell 1 rfl
   have c16:=L12.out.cell 2 rfl
   have c17:=L12.out.cell 3 rfl
   have c18:=L12.out.cell 4 rfl
   have z19:=L12.out.fz
   have S20:=lh (S13.out.set (a:=⟨w3.heap.size,2,none⟩) L12.out.loc Q7.out (.string t.txt))
   have L21:=lh (L12.out.set 2 (.string t.txt))
   clear S13 L12
   have C22:=lh (expect_at S20.out.ps ⟨#[40]⟩ (by decide))
   go_wp2_with fail
   clear c14 c15 c16 c17 c18 z19
   (with_reducible refine C22.out.mono ?_)
   rintro e w23 hP
   clear C22
   cases hx:expectP ⟨#[40]⟩ l2 with
   | err pe ce =>
    obtain ⟨rfl,HB⟩:=pE hx hP
    replace hx:=lh hx
    go_wp2
    exact ⟨rfl,of_err (by simp only [procP,Par.bind,X4.out,X11.out,hx.out]) HB.out⟩
   | ok p3 l3 =>
    rw [hx] at hP
    have X24:=lh hx
    obtain ⟨rfl,hs,hf⟩:=hP
    obtain ⟨S,T⟩:=S20.out.same hs hf
    clear hs hf hx
    have L25:=lh (L21.out.tr T)
    have S26:=lh (S)
    clear S T S20 L21
    have c27:=L25.out.cell 0 rfl
    have c28:=L25.out.cell 1 rfl
    have c29:=L25.out.cell 2 rfl
    have c30:=L25.out.cell 3 rfl
    have c31:=L25.out.cell 4 rfl
    have z32:=L25.out.fz
    have hroom3:Hid (md.length+1+l3.length≤70000):=lh (by have h1:=RM.out;have h2:=takes_expect _ _ _ _ X4.out;have h3:=takes_take _ _ _ _ X11.out;have h4:=takes_expect _ _ _ _ X24.out;omega)
    have C33:=lh (names_at S26.out.ps (by have h9:=hroom3.out;simp only [postL,List.append_nil];exact h9))
    go_wp2_with fail
    clear c27 c28 c29 c30 c31 z32
    (with_reducible refine C33.out.mono ?_)
    rintro e w34 hP
    clear C33
    cases hx:namesP l3 with
    | err pe ce =>
     obtain ⟨rfl,HB⟩:=pE hx hP
     replace hx:=lh hx
     go_wp2
     exact ⟨rfl,of_err (by simp only [procP,Par.bind,X4.out,X11.out,X24.out,hx.out]) HB.out⟩
    | ok ns l4 =>
     rw [hx] at hP
     have X35:=lh hx
     obtain ⟨v34,n34,rfl,S,T⟩:=S26.out.ast (ts':=[ns]) hP rfl
     clear hP hx
     have L36:=lh (L25.out.tr T)
     have S37:=lh (S)
     clear S T S26 L25
     have c38:=L36.out.cell 0 rfl
     have c39:=L36.out.cell 1 rfl
     have c40:=L36.out.cell 2 rfl
     have c41:=L36.out.cell 3 rfl
     have c42:=L36.out.cell 4 rfl
     have z43:=L36.out.fz
     have C44:=lh (expect_at S37.out.ps ⟨#[41]⟩ (by decide))
     go_wp2_with fail
     clear c38 c39 c40 c41 c42 z43
     (with_reducible refine C44.out.mono ?_)
     rintro e w45 hP
     clear C44
     cases hx:expectP ⟨#[41]⟩ l4 with
     | err pe ce =>
      obtain ⟨rfl,HB⟩:=pE hx hP
      replace hx:=lh hx
      go_wp2
      exact ⟨rfl,of_err (by simp only [procP,Par.bind,X4.out,X11.out,X24.out,X35.out,hx.out]) HB.out⟩
     | ok p5 l5 =>
      rw [hx] at hP
      have X46:=lh hx
      obtain ⟨rfl,hs,hf⟩:=hP
      obtain ⟨S,T⟩:=S37.out.same hs hf
      clear hs hf hx
      have L47:=lh (L36.out.tr T)
      have S48:=lh (S)
      clear S T S37 L36
      have c49:=L47.out.cell 0 rfl
      have c50:=L47.out.cell 1 rfl
      have c51:=L47.out.cell 2 rfl
      have c52:=L47.out.cell 3 rfl
      have c53:=L47.out.cell 4 rfl
      have z54:=L47.out.fz
      have C55:=lh (skip_at S48.out.ps ⟨#[115,105,110,103,108,101]⟩ (by decide))
      go_wp2_with fail
      clear c49 c50 c51 c52 c53 z54
      (with_reducible refine C55.out.mono ?_)
      rintro e w56 hP
      clear C55
      cases hx:skipP ⟨#[115,105,110,103,108,101]⟩ l5 with
      | err pe ce =>
       obtain ⟨rfl,HB⟩:=pE hx hP
       replace hx:=lh hx
       go_wp2
       exact ⟨rfl,of_err (by simp only [procP,Par.bind,X4.out,X11.out,X24.out,X35.out,X46.out,hx.out]) HB.out⟩
      | ok u l6 =>
       rw [hx] at hP
       cases u with
       | false =>
        have X57:=lh hx
        obtain ⟨rfl,hs,hf⟩:=hP
        obtain ⟨S,T⟩:=S48.out.same hs hf
        clear hs hf hx
        have L58:=lh (L47.out.tr T)
        have S59:=lh (S)
        clear S T S48 L47
        have c60:=L58.out.cell 0 rfl
        have c61:=L58.out.cell 1 rfl
        have c62:=L58.out.cell 2 rfl
        have c63:=L58.out.cell 3 rfl
        have c64:=L58.out.cell 4 rfl
        have z65:=L58.out.fz
        have C66:=lh (HBB.out _ _ _ _ _ S59.out.ps)
        go_wp2_with fail
        clear c60 c61 c62 c63 c64 z65
        (with_reducible refine C66.out.mono ?_)
        rintro e w67 hP
        clear C66
        cases hx:blockP 64 l6 with
        | err pe ce =>
         obtain ⟨rfl,HB⟩:=pE hx hP
         replace hx:=lh hx
         go_wp2
         exact ⟨rfl,of_err (by simp only [procP,Par.bind,X4.out,X11.out,X24.out,X35.out,X46.out,X57.out,hx.out]) HB.out⟩
        | ok c l7 =>
         rw [hx] at hP
         have X68:=lh hx
         obtain ⟨v67,n67,rfl,S,T⟩:=S59.out.ast (ts':=[ns,c]) hP rfl
         clear hP hx
         have L69:=lh (L58.out.tr T)
         have S70:=lh (S)
         clear S T S59 L58
         have c71:=L69.out.cell 0 rfl
         have c72:=L69.out.cell 1 rfl
         have c73:=L69.out.cell 2 rfl
         have c74:=L69.out.cell 3 rfl
         have c75:=L69.out.cell 4 rfl
         have z76:=L69.out.fz
         have HR:Hid (procP l=.ok (.mk 3 p t.txt 0 [ns,c]) l7):=lh (by simp only [procP,Par.bind,Par.pure,X4.out,X11.out,X24.out,X35.out,X46.out,X57.out,X68.out])
         have R77:=lh (Rw.lit S70.out (q:=w67.heap.size) (by first|rfl|simp [World.setCell]) (ks:=roots md.length [ns,c]) (cs:=#[.int .i64 (rootI (md.length+sizeL []) ns),.int .i64 (rootI (md.length+sizeL [ns]) c)]) (m:=2) (by simp [roots,rootI,sizeL]<;>omega) (by simp [roots]) (by omega))
         have S78:=lh (S70.out.alloc (.cells #[.int .i64 (rootI (md.length+sizeL []) ns),.int .i64 (rootI (md.length+sizeL [ns]) c)] 3))
         have L79:=lh (L69.out.alloc (.cells #[.int .i64 (rootI (md.length+sizeL []) ns),.int .i64 (rootI (md.length+sizeL [ns]) c)] 3))
         clear S70 L69
         have C80:=lh (add_at S78.out.ps (3) ((p:Int)) (0) (t.txt) (.slice none 0 0) (.slice (some ⟨w67.heap.size,0,none⟩) 2 2) (roots md.length [ns,c]) R77.out.own R77.out.loc (by have h1:=RM.out;have h2:=sz_proc 0 _ _ _ HR.out;simp only [Ast.size] at h2;rw [List.length_append,postL_length];omega))
         go_wp2_with fail
         clear c71 c72 c73 c74 c75 z76
         (with_reducible refine C80.out.mono ?_)
         rintro e wf hA
         have hO:=lh (S78.out.add (ts:=[ns,c]) rfl hA R77.out.ge)
         obtain ⟨z,rfl⟩:=hA.int
         clear C80
         go_wp2
         go_ret
         exact of_ok HR.out hO.out
       | true =>
        have X57:=lh hx
        obtain ⟨rfl,hs,hf⟩:=hP
        obtain ⟨S,T⟩:=S48.out.same hs hf
        clear hs hf hx
        have L58:=lh (L47.out.tr T)
        have S59:=lh (S)
        clear S T S48 L47
        have c60:=L58.out.cell 0 rfl
        have c61:=L58.out.cell 1 rfl
        have c62:=L58.out.cell 2 rfl
        have c63:=L58.out.cell 3 rfl
        have c64:=L58.out.cell 4 rfl
        have z65:=L58.out.fz
        have S66:=lh (S59.out.set (a:=⟨w3.heap.size,3,none⟩) L58.out.loc Q7.out (.int .i64 1))
        have L67:=lh (L58.out.set 3 (.int .i64 1))
        clear S59 L58
        have C68:=lh (HBB.out _ _ _ _ _ S66.out.ps)
        go_wp2_with fail
        clear c60 c61 c62 c63 c64 z65
        (with_reducible refine C68.out.mono ?_)
        rintro e w69 hP
        clear C68
        cases hx:blockP 64 l6 with
        | err pe ce =>
         obtain ⟨rfl,HB⟩:=pE hx hP
         replace hx:=lh hx
         go_wp2
         exact ⟨rfl,of_err (by simp only [procP,Par.bind,X4.out,X11.out,X24.out,X35.out,X46.out,X57.out,hx.out]) HB.out⟩
        | ok c l7 =>
         rw [hx] at hP
         have X70:=lh hx
         obtain ⟨v69,n69,rfl,S,T⟩:=S66.out.ast (ts':=[ns,c]) hP rfl
         clear hP hx
         have L71:=lh (L67.out.tr T)
         have S72:=lh (S)
         clear S T S66 L67
         have c73:=L71.out.cell 0 rfl
         have c74:=L71.out.cell 1 rfl
         have c75:=L71.out.cell 2 rfl
         have c76:=L71.out.cell 3 rfl
         have c77:=L71.out.cell 4 rfl
         have z78:=L71.out.fz
         have HR:Hid (procP l=.ok (.mk 3 p t.txt 1 [ns,c]) l7):=lh (by simp only [procP,Par.bind,Par.pure,X4.out,X11.out,X24.out,X35.out,X46.out,X57.out,X70.out])
         have R79:=lh (Rw.lit S72.out (q:=w69.heap.size) (by first|rfl|simp [World.setCell]) (ks:=roots md.length [ns,c]) (cs:=#[.int .i64 (rootI (md.length+sizeL []) ns),.int .i64 (rootI (md.length+sizeL [ns]) c)]) (m:=2) (by simp [roots,rootI,sizeL]<;>omega) (by simp [roots]) (by omega))
         have S80:=lh (S72.out.alloc (.cells #[.int .i64 (rootI (md.length+sizeL []) ns),.int .i64 (rootI (md.length+sizeL [ns]) c)] 3))
         have L81:=lh (L71.out.alloc (.cells #[.int .i64 (rootI (md.length+sizeL []) ns),.int .i64 (rootI (md.length+sizeL [ns]) c)] 3))
         clear S72 L71
         have C82:=lh (add_at S80.out.ps (3) ((p:Int)) (1) (t.txt) (.slice none 0 0) (.slice (some ⟨w69.heap.size,0,none⟩) 2 2) (roots md.length [ns,c]) R79.out.own R79.out.loc (by have h1:=RM.out;have h2:=sz_proc 0 _ _ _ HR.out;simp only [Ast.size] at h2;rw [List.length_append,postL_length];omega))
         go_wp2_with fail
         clear c73 c74 c75 c76 c77 z78
         (with_reducible refine C82.out.mono ?_)
         rintro e wf hA
         have hO:=lh (S80.out.add (ts:=[ns,c]) rfl hA R79.out.ge)
         obtain ⟨z,rfl⟩:=hA.int
         clear C82
         go_wp2
         go_ret
         exact of_ok HR.out hO.out
end
end
end Go.Proofs.YthdioipfdbbmmaaGreatDoor
