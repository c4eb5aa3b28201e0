/- Contracts. -/
import Derived.Test.YthdioipfdbbmmaaGreatDoorKah
import Derived.Test.YthdioipfdbbmmaaGreatDoorKam
import Derived.Test.YthdioipfdbbmmaaGreatDoorKay
set_option linter.all false
set_option maxRecDepth 1000000
set_option maxHeartbeats 16000000
namespace Go.Proofs.YthdioipfdbbmmaaGreatDoor
section
open Go.RowKit
open Par (Less many many_err many_done many_more)
section
variable {E:Env}{v:Value}{kvs:List Value}{md:List Nd}{r:Nat}{l:List PT}{w:World}
theorem set_at (h:PS E v kvs md r l w)(p:Nat):Calls Tryz.prog 117 #[.pointer (some ⟨E.b,0,none⟩),.int .i64 (p:Int)] w (PostE E (setP r p l) fun a l'=>OkA E v kvs md r w a l'):=by
 have hr64:=h.r64
 have RM:=lh h.room
 have S1:=lh (St.start h)
 have hnot:=nt
 clear h
 go_enter Tryz.func117,Tryz.ntmps117
 have C2:=lh (cell_at S1.out.ps)
 go_wp2_with fail
 (with_reducible refine C2.out.mono ?_)
 rintro e w3 hP
 clear C2
 cases hx:cellP r l with
 | err pe ce =>
  obtain ⟨rfl,HB⟩:=pE hx hP
  replace hx:=lh hx
  go_wp2
  exact ⟨rfl,of_err (by simp only [setP,nodeA,Par.bind,hx.out]) HB.out⟩
 | ok ab l1 =>
  rw [hx] at hP
  have X4:=lh hx
  obtain ⟨v3,n3,rfl,S,T⟩:=S1.out.two hP
  clear hP hx
  have S5:=lh (S)
  clear S T S1
  have C6:=lh (expect_at S5.out.ps ⟨#[61]⟩ (by decide))
  go_wp2_with fail
  (with_reducible refine C6.out.mono ?_)
  rintro e w7 hP
  clear C6
  cases hx:expectP ⟨#[61]⟩ l1 with
  | err pe ce =>
   obtain ⟨rfl,HB⟩:=pE hx hP
   replace hx:=lh hx
   go_wp2
   exact ⟨rfl,of_err (by simp only [setP,nodeA,Par.bind,X4.out,hx.out]) HB.out⟩
  | ok p2 l2 =>
   rw [hx] at hP
   have X8:=lh hx
   obtain ⟨rfl,hs,hf⟩:=hP
   obtain ⟨S,T⟩:=S5.out.same hs hf
   clear hs hf hx
   have S9:=lh (S)
   clear S T S5
   have C10:=lh (exprR_at S9.out.ps)
   go_wp2_with fail
   (with_reducible refine C10.out.mono ?_)
   rintro e w11 hP
   clear C10
   cases hx:exprR r l2 with
   | err pe ce =>
    obtain ⟨rfl,HB⟩:=pE hx hP
    replace hx:=lh hx
    go_wp2
    exact ⟨rfl,of_err (by simp only [setP,nodeA,Par.bind,X4.out,X8.out,hx.out]) HB.out⟩
   | ok c l3 =>
    rw [hx] at hP
    have X12:=lh hx
    obtain ⟨v11,n11,rfl,S,T⟩:=S9.out.ast (ts':=[ab.1,ab.2,c]) hP rfl
    clear hP hx
    have S13:=lh (S)
    clear S T S9
    have R14:=lh (Rw.lit S13.out (q:=w11.heap.size) (by first|rfl|simp [World.setCell]) (ks:=roots md.length [ab.1,ab.2,c]) (cs:=#[.int .i64 (rootI (md.length+sizeL []) ab.1),.int .i64 (rootI (md.length+sizeL [ab.1]) ab.2),.int .i64 (rootI (md.length+sizeL [ab.1,ab.2]) c)]) (m:=3) (by simp [roots,rootI,sizeL]<;>omega) (by simp [roots]) (by omega))
    have S15:=lh (S13.out.alloc (.cells #[.int .i64 (rootI (md.length+sizeL []) ab.1),.int .i64 (rootI (md.length+sizeL [ab.1]) ab.2),.int .i64 (rootI (md.length+sizeL [ab.1,ab.2]) c)] 3))
    clear S13
    have C16:=lh (end_at (k:=8) (p:=p) (t:=none0) (nn:=0) (kz:=.slice none 0 0) S15.out R14.out rfl)
    go_wp2_with fail
    (with_reducible refine C16.out.mono ?_)
    rintro e wf hP
    have HR:setP r p l=endP (.mk 8 p none0 0 [ab.1,ab.2,c]) l3:=by simp only [setP,nodeA,Par.bind,X4.out,X8.out,X12.out]
    rw [← HR] at hP
    have hfin:=lh hP
    rcases post_form hP with ⟨z,rfl⟩|⟨ch,rfl⟩
    · clear hP HR C16
      go_wp2
      go_ret
      exact hfin.out
    · clear hP HR C16
      go_wp2
      exact ⟨rfl,hfin.out⟩
theorem delete_at (h:PS E v kvs md r l w)(p:Nat):Calls Tryz.prog 119 #[.pointer (some ⟨E.b,0,none⟩),.int .i64 (p:Int)] w (PostE E (deleteP r p l) fun a l'=>OkA E v kvs md r w a l'):=by
 have hr64:=h.r64
 have RM:=lh h.room
 have S1:=lh (St.start h)
 have hnot:=nt
 clear h
 go_enter Tryz.func119,Tryz.ntmps119
 have C2:=lh (row_at S1.out.ps)
 go_wp2_with fail
 (with_reducible refine C2.out.mono ?_)
 rintro e w3 hP
 clear C2
 cases hx:rowP r l with
 | err pe ce =>
  obtain ⟨rfl,HB⟩:=pE hx hP
  replace hx:=lh hx
  go_wp2
  exact ⟨rfl,of_err (by simp only [deleteP,nodeA,Par.bind,hx.out]) HB.out⟩
 | ok a l1 =>
  rw [hx] at hP
  have X4:=lh hx
  obtain ⟨v3,n3,rfl,S,T⟩:=S1.out.ast (ts':=[a]) hP rfl
  clear hP hx
  have S5:=lh (S)
  clear S T S1
  have R6:=lh (Rw.lit S5.out (q:=w3.heap.size) (by first|rfl|simp [World.setCell]) (ks:=roots md.length [a]) (cs:=#[.int .i64 (rootI (md.length+sizeL []) a)]) (m:=1) (by simp [roots,rootI,sizeL]<;>omega) (by simp [roots]) (by omega))
  have S7:=lh (S5.out.alloc (.cells #[.int .i64 (rootI (md.length+sizeL []) a)] 3))
  clear S5
  have C8:=lh (end_at (k:=10) (p:=p) (t:=none0) (nn:=0) (kz:=.slice none 0 0) S7.out R6.out rfl)
  go_wp2_with fail
  (with_reducible refine C8.out.mono ?_)
  rintro e wf hP
  have HR:deleteP r p l=endP (.mk 10 p none0 0 [a]) l1:=by simp only [deleteP,nodeA,Par.bind,X4.out]
  rw [← HR] at hP
  have hfin:=lh hP
  rcases post_form hP with ⟨z,rfl⟩|⟨ch,rfl⟩
  · clear hP HR C8
    go_wp2
    go_ret
    exact hfin.out
  · clear hP HR C8
    go_wp2
    exact ⟨rfl,hfin.out⟩
theorem emit_at (h:PS E v kvs md r l w)(p:Nat):Calls Tryz.prog 126 #[.pointer (some ⟨E.b,0,none⟩),.int .i64 (p:Int)] w (PostE E (emitP r p l) fun a l'=>OkA E v kvs md r w a l'):=by
 have hr64:=h.r64
 have RM:=lh h.room
 have S1:=lh (St.start h)
 have hnot:=nt
 clear h
 go_enter Tryz.func126,Tryz.ntmps126
 have C2:=lh (exprR_at S1.out.ps)
 go_wp2_with fail
 (with_reducible refine C2.out.mono ?_)
 rintro e w3 hP
 clear C2
 cases hx:exprR r l with
 | err pe ce =>
  obtain ⟨rfl,HB⟩:=pE hx hP
  replace hx:=lh hx
  go_wp2
  exact ⟨rfl,of_err (by simp only [emitP,nodeA,Par.bind,hx.out]) HB.out⟩
 | ok a l1 =>
  rw [hx] at hP
  have X4:=lh hx
  obtain ⟨v3,n3,rfl,S,T⟩:=S1.out.ast (ts':=[a]) hP rfl
  clear hP hx
  have S5:=lh (S)
  clear S T S1
  have R6:=lh (Rw.lit S5.out (q:=w3.heap.size) (by first|rfl|simp [World.setCell]) (ks:=roots md.length [a]) (cs:=#[.int .i64 (rootI (md.length+sizeL []) a)]) (m:=1) (by simp [roots,rootI,sizeL]<;>omega) (by simp [roots]) (by omega))
  have S7:=lh (S5.out.alloc (.cells #[.int .i64 (rootI (md.length+sizeL []) a)] 3))
  clear S5
  have C8:=lh (end_at (k:=17) (p:=p) (t:=none0) (nn:=0) (kz:=.slice none 0 0) S7.out R6.out rfl)
  go_wp2_with fail
  (with_reducible refine C8.out.mono ?_)
  rintro e wf hP
  have HR:emitP r p l=endP (.mk 17 p none0 0 [a]) l1:=by simp only [emitP,nodeA,Par.bind,X4.out]
  rw [← HR] at hP
  have hfin:=lh hP
  rcases post_form hP with ⟨z,rfl⟩|⟨ch,rfl⟩
  · clear hP HR C8
    go_wp2
    go_ret
    exact hfin.out
  · clear hP HR C8
    go_wp2
    exact ⟨rfl,hfin.out⟩
theorem rollback_at (h:PS E v kvs md r l w)(p:Nat):Calls Tryz.prog 127 #[.pointer (some ⟨E.b,0,none⟩),.int .i64 (p:Int)] w (PostE E (rollbackP p l) fun a l'=>OkA E v kvs md r w a l'):=by
 have hr64:=h.r64
 have RM:=lh h.room
 have S1:=lh (St.start h)
 have hnot:=nt
 clear h
 go_enter Tryz.func127,Tryz.ntmps127
 have RN:Hid (Rw E v (kvs++[]) w.heap.size (.slice none 0 0) [] w):=lh Rw.nil
 have C2:=lh (end_at (k:=18) (p:=p) (t:=none0) (nn:=0) (kz:=.slice none 0 0) S1.out RN.out rfl)
 go_wp2_with fail
 (with_reducible refine C2.out.mono ?_)
 rintro e wf hP
 have HR:rollbackP p l=endP (.mk 18 p none0 0 []) l:=by simp only [rollbackP,nodeA,Par.bind]
 rw [← HR] at hP
 have hfin:=lh hP
 rcases post_form hP with ⟨z,rfl⟩|⟨ch,rfl⟩
 · clear hP HR C2
   go_wp2
   go_ret
   exact hfin.out
 · clear hP HR C2
   go_wp2
   exact ⟨rfl,hfin.out⟩
theorem chop_at (h:PS E v kvs md r l w)(p:Nat):Calls Tryz.prog 128 #[.pointer (some ⟨E.b,0,none⟩),.int .i64 (p:Int)] w (PostE E (chopP p l) fun a l'=>OkA E v kvs md r w a l'):=by
 have hr64:=h.r64
 have RM:=lh h.room
 have S1:=lh (St.start h)
 have hnot:=nt
 clear h
 go_enter Tryz.func128,Tryz.ntmps128
 have RN:Hid (Rw E v (kvs++[]) w.heap.size (.slice none 0 0) [] w):=lh Rw.nil
 have C2:=lh (end_at (k:=19) (p:=p) (t:=none0) (nn:=0) (kz:=.slice none 0 0) S1.out RN.out rfl)
 go_wp2_with fail
 (with_reducible refine C2.out.mono ?_)
 rintro e wf hP
 have HR:chopP p l=endP (.mk 19 p none0 0 []) l:=by simp only [chopP,nodeA,Par.bind]
 rw [← HR] at hP
 have hfin:=lh hP
 rcases post_form hP with ⟨z,rfl⟩|⟨ch,rfl⟩
 · clear hP HR C2
   go_wp2
   go_ret
   exact hfin.out
 · clear hP HR C2
   go_wp2
   exact ⟨rfl,hfin.out⟩
theorem let_at (h:PS E v kvs md r l w)(p:Nat):Calls Tryz.prog 125 #[.pointer (some ⟨E.b,0,none⟩),.int .i64 (p:Int)] w (PostE E (letP r p l) fun a l'=>OkA E v kvs md r w a l'):=by
 have hr64:=h.r64
 have RM:=lh h.room
 have S1:=lh (St.start h)
 have hnot:=nt
 clear h
 go_enter Tryz.func125,Tryz.ntmps125
 have C2:=lh (named_at S1.out.ps 16 p)
 go_wp2_with fail
 (with_reducible refine C2.out.mono ?_)
 rintro e w3 hP
 clear C2
 cases hx:takeP 1 l with
 | err pe ce =>
  obtain ⟨rfl,HB⟩:=pE hx hP
  replace hx:=lh hx
  go_wp2
  exact ⟨rfl,of_err (by simp only [letP,Par.bind,hx.out]) HB.out⟩
 | ok t l1 =>
  rw [hx] at hP
  have X4:=lh hx
  obtain ⟨rfl,hs,hf⟩:=hP
  obtain ⟨S,T⟩:=S1.out.same hs hf
  clear hs hf hx
  have S5:=lh (S)
  clear S T S1
  have S6:=lh (S5.out.alloc (.cells #[.int .u8 16,.int .i64 (p:Int),.string t.txt,.int .i64 0,.slice none 0 0] 54))
  have Q7:Hid (w.heap.size≤w3.heap.size):=lh S5.out.fr.size
  have L8:=lh (Lcl.new S5.out.ps (.cells #[.int .u8 16,.int .i64 (p:Int),.string t.txt,.int .i64 0,.slice none 0 0] 54))
  clear S5
  have C9:=lh (expect_at S6.out.ps ⟨#[61]⟩ (by decide))
  go_wp2_with fail
  (with_reducible refine C9.out.mono ?_)
  rintro e w10 hP
  clear C9
  cases hx:expectP ⟨#[61]⟩ l1 with
  | err pe ce =>
   obtain ⟨rfl,HB⟩:=pE hx hP
   replace hx:=lh hx
   go_wp2
   exact ⟨rfl,of_err (by simp only [letP,Par.bind,X4.out,hx.out]) HB.out⟩
  | ok p2 l2 =>
   rw [hx] at hP
   have X11:=lh hx
   obtain ⟨rfl,hs,hf⟩:=hP
   obtain ⟨S,T⟩:=S6.out.same hs hf
   clear hs hf hx
   have L12:=lh (L8.out.tr T)
   have S13:=lh (S)
   clear S T S6 L8
   have c14:=L12.out.cell 0 rfl
   have c15:=L12.out.cell 1 rfl
   have c16:=L12.out.cell 2 rfl
   have c17:=L12.out.cell 3 rfl
   have c18:=L12.out.cell 4 rfl
   have z19:=L12.out.fz
   have C20:=lh (exprR_at S13.out.ps)
   go_wp2_with fail
   clear c14 c15 c16 c17 c18 z19
   (with_reducible refine C20.out.mono ?_)
   rintro e w21 hP
   clear C20
   cases hx:exprR r l2 with
   | err pe ce =>
    obtain ⟨rfl,HB⟩:=pE hx hP
    replace hx:=lh hx
    go_wp2
    exact ⟨rfl,of_err (by simp only [letP,Par.bind,X4.out,X11.out,hx.out]) HB.out⟩
   | ok a l3 =>
    rw [hx] at hP
    have X22:=lh hx
    obtain ⟨v21,n21,rfl,S,T⟩:=S13.out.ast (ts':=[a]) hP rfl
    clear hP hx
    have L23:=lh (L12.out.tr T)
    have S24:=lh (S)
    clear S T S13 L12
    have c25:=L23.out.cell 0 rfl
    have c26:=L23.out.cell 1 rfl
    have c27:=L23.out.cell 2 rfl
    have c28:=L23.out.cell 3 rfl
    have c29:=L23.out.cell 4 rfl
    have z30:=L23.out.fz
    have R31:=lh (Rw.lit S24.out (q:=w21.heap.size) (by first|rfl|simp [World.setCell]) (ks:=roots md.length [a]) (cs:=#[.int .i64 (rootI (md.length+sizeL []) a)]) (m:=1) (by simp [roots,rootI,sizeL]<;>omega) (by simp [roots]) (by omega))
    have S32:=lh (S24.out.alloc (.cells #[.int .i64 (rootI (md.length+sizeL []) a)] 3))
    have L33:=lh (L23.out.alloc (.cells #[.int .i64 (rootI (md.length+sizeL []) a)] 3))
    clear S24 L23
    have C34:=lh (end_at (k:=16) (p:=p) (t:=t.txt) (nn:=0) (kz:=.slice none 0 0) S32.out R31.out rfl)
    go_wp2_with fail
    clear c25 c26 c27 c28 c29 z30
    (with_reducible refine C34.out.mono ?_)
    rintro e wf hP
    have HR:letP r p l=endP (.mk 16 p t.txt 0 [a]) l3:=by simp only [letP,Par.bind,X4.out,X11.out,X22.out]
    rw [← HR] at hP
    have hfin:=lh hP
    rcases post_form hP with ⟨z,rfl⟩|⟨ch,rfl⟩
    · clear hP HR C34
      go_wp2
      go_ret
      exact hfin.out
    · clear hP HR C34
      go_wp2
      exact ⟨rfl,hfin.out⟩
theorem scan_at (h:PS E v kvs md r l w)(p:Nat):Calls Tryz.prog 120 #[.pointer (some ⟨E.b,0,none⟩),.int .i64 (p:Int)] w (PostE E (scanP p l) fun a l'=>OkA E v kvs md r w a l'):=by
 have hr64:=h.r64
 have RM:=lh h.room
 have S1:=lh (St.start h)
 have hnot:=nt
 clear h
 go_enter Tryz.func120,Tryz.ntmps120
 have C2:=lh (named_at S1.out.ps 11 p)
 go_wp2_with fail
 (with_reducible refine C2.out.mono ?_)
 rintro e w3 hP
 clear C2
 cases hx:takeP 1 l with
 | err pe ce =>
  obtain ⟨rfl,HB⟩:=pE hx hP
  replace hx:=lh hx
  go_wp2
  exact ⟨rfl,of_err (by simp only [scanP,Par.bind,hx.out]) HB.out⟩
 | ok t l1 =>
  rw [hx] at hP
  have X4:=lh hx
  obtain ⟨rfl,hs,hf⟩:=hP
  obtain ⟨S,T⟩:=S1.out.same hs hf
  clear hs hf hx
  have S5:=lh (S)
  clear S T S1
  have S6:=lh (S5.out.alloc (.cells #[.int .u8 11,.int .i64 (p:Int),.string t.txt,.int .i64 0,.slice none 0 0] 54))
  have Q7:Hid (w.heap.size≤w3.heap.size):=lh S5.out.fr.size
  have L8:=lh (Lcl.new S5.out.ps (.cells #[.int .u8 11,.int .i64 (p:Int),.string t.txt,.int .i64 0,.slice none 0 0] 54))
  clear S5
  have C9:=lh (expect_at S6.out.ps ⟨#[61]⟩ (by decide))
  go_wp2_with fail
  (with_reducible refine C9.out.mono ?_)
  rintro e w10 hP
  clear C9
  cases hx:expectP ⟨#[61]⟩ l1 with
  | err pe ce =>
   obtain ⟨rfl,HB⟩:=pE hx hP
   replace hx:=lh hx
   go_wp2
   exact ⟨rfl,of_err (by simp only [scanP,Par.bind,X4.out,hx.out]) HB.out⟩
  | ok p2 l2 =>
   rw [hx] at hP
   have X11:=lh hx
   obtain ⟨rfl,hs,hf⟩:=hP
   obtain ⟨S,T⟩:=S6.out.same hs hf
   clear hs hf hx
   have L12:=lh (L8.out.tr T)
   have S13:=lh (S)
   clear S T S6 L8
   have c14:=L12.out.cell 0 rfl
   have c15:=L12.out.cell 1 rfl
   have c16:=L12.out.cell 2 rfl
   have c17:=L12.out.cell 3 rfl
   have c18:=L12.out.cell 4 rfl
   have z19:=L12.out.fz
   have C20:=lh (word_at S13.out.ps)
   go_wp2_with fail
   clear c14 c15 c16 c17 c18 z19
   (with_reducible refine C20.out.mono ?_)
   rintro e w21 hP
   clear C20
   cases hx:wordP l2 with
   | err pe ce =>
    obtain ⟨rfl,HB⟩:=pE hx hP
    replace hx:=lh hx
    go_wp2
    exact ⟨rfl,of_err (by simp only [scanP,Par.bind,X4.out,X11.out,hx.out]) HB.out⟩
   | ok a l3 =>
    rw [hx] at hP
    have X22:=lh hx
    obtain ⟨v21,n21,rfl,S,T⟩:=S13.out.ast (ts':=[a]) hP rfl
    clear hP hx
    have L23:=lh (L12.out.tr T)
    have S24:=lh (S)
    clear S T S13 L12
    have c25:=L23.out.cell 0 rfl
    have c26:=L23.out.cell 1 rfl
    have c27:=L23.out.cell 2 rfl
    have c28:=L23.out.cell 3 rfl
    have c29:=L23.out.cell 4 rfl
    have z30:=L23.out.fz
    have C31:=lh (expect_at S24.out.ps ⟨#[46]⟩ (by decide))
    go_wp2_with fail
    clear c25 c26 c27 c28 c29 z30
    (with_reducible refine C31.out.mono ?_)
    rintro e w32 hP
    clear C31
    cases hx:expectP ⟨#[46]⟩ l3 with
    | err pe ce =>
     obtain ⟨rfl,HB⟩:=pE hx hP
     replace hx:=lh hx
     go_wp2
     exact ⟨rfl,of_err (by simp only [scanP,Par.bind,X4.out,X11.out,X22.out,hx.out]) HB.out⟩
    | ok p4 l4 =>
     rw [hx] at hP
     have X33:=lh hx
     obtain ⟨rfl,hs,hf⟩:=hP
     obtain ⟨S,T⟩:=S24.out.same hs hf
     clear hs hf hx
     have L34:=lh (L23.out.tr T)
     have S35:=lh (S)
     clear S T S24 L23
     have c36:=L34.out.cell 0 rfl
     have c37:=L34.out.cell 1 rfl
     have c38:=L34.out.cell 2 rfl
     have c39:=L34.out.cell 3 rfl
     have c40:=L34.out.cell 4 rfl
     have z41:=L34.out.fz
     have C42:=lh (word_at S35.out.ps)
     go_wp2_with fail
     clear c36 c37 c38 c39 c40 z41
     (with_reducible refine C42.out.mono ?_)
     rintro e w43 hP
     clear C42
     cases hx:wordP l4 with
     | err pe ce =>
      obtain ⟨rfl,HB⟩:=pE hx hP
      replace hx:=lh hx
      go_wp2
      exact ⟨rfl,of_err (by simp only [scanP,Par.bind,X4.out,X11.out,X22.out,X33.out,hx.out]) HB.out⟩
     | ok b l5 =>
      rw [hx] at hP
      have X44:=lh hx
      obtain ⟨v43,n43,rfl,S,T⟩:=S35.out.ast (ts':=[a,b]) hP rfl
      clear hP hx
      have L45:=lh (L34.out.tr T)
      have S46:=lh (S)
      clear S T S35 L34
      have c47:=L45.out.cell 0 rfl
      have c48:=L45.out.cell 1 rfl
      have c49:=L45.out.cell 2 rfl
      have c50:=L45.out.cell 3 rfl
      have c51:=L45.out.cell 4 rfl
      have z52:=L45.out.fz
      have R53:=lh (Rw.lit S46.out (q:=w43.heap.size) (by first|rfl|simp [World.setCell]) (ks:=roots md.length [a,b]) (cs:=#[.int .i64 (rootI (md.length+sizeL []) a),.int .i64 (rootI (md.length+sizeL [a]) b)]) (m:=2) (by simp [roots,rootI,sizeL]<;>omega) (by simp [roots]) (by omega))
      have S54:=lh (S46.out.alloc (.cells #[.int .i64 (rootI (md.length+sizeL []) a),.int .i64 (rootI (md.length+sizeL [a]) b)] 3))
      have L55:=lh (L45.out.alloc (.cells #[.int .i64 (rootI (md.length+sizeL []) a),.int .i64 (rootI (md.length+sizeL [a]) b)] 3))
      clear S46 L45
      have C56:=lh (end_at (k:=11) (p:=p) (t:=t.txt) (nn:=0) (kz:=.slice none 0 0) S54.out R53.out rfl)
      go_wp2_with fail
      clear c47 c48 c49 c50 c51 z52
      (with_reducible refine C56.out.mono ?_)
      rintro e wf hP
      have HR:scanP p l=endP (.mk 11 p t.txt 0 [a,b]) l5:=by simp only [scanP,Par.bind,X4.out,X11.out,X22.out,X33.out,X44.out]
      rw [← HR] at hP
      have hfin:=lh hP
      rcases post_form hP with ⟨z,rfl⟩|⟨ch,rfl⟩
      · clear hP HR C56
        go_wp2
        go_ret
        exact hfin.out
      · clear hP HR C56
        go_wp2
        exact ⟨rfl,hfin.out⟩
theorem read_at (h:PS E v kvs md r l w)(p:Nat):Calls Tryz.prog 116 #[.pointer (some ⟨E.b,0,none⟩),.int .i64 (p:Int)] w (PostE E (readP r p l) fun a l'=>OkA E v kvs md r w a l'):=by
 have hr64:=h.r64
 have RM:=lh h.room
 have S1:=lh (St.start h)
 have hnot:=nt
 clear h
 go_enter Tryz.func116,Tryz.ntmps116
 have C2:=lh (named_at S1.out.ps 7 p)
 go_wp2_with fail
 (with_reducible refine C2.out.mono ?_)
 rintro e w3 hP
 clear C2
 cases hx:takeP 1 l with
 | err pe ce =>
  obtain ⟨rfl,HB⟩:=pE hx hP
  replace hx:=lh hx
  go_wp2
  exact ⟨rfl,of_err (by simp only [readP,Par.bind,hx.out]) HB.out⟩
 | ok t l1 =>
  rw [hx] at hP
  have X4:=lh hx
  obtain ⟨rfl,hs,hf⟩:=hP
  obtain ⟨S,T⟩:=S1.out.same hs hf
  clear hs hf hx
  have S5:=lh (S)
  clear S T S1
  have S6:=lh (S5.out.alloc (.cells #[.int .u8 7,.int .i64 (p:Int),.string t.txt,.int .i64 0,.slice none 0 0] 54))
  have Q7:Hid (w.heap.size≤w3.heap.size):=lh S5.out.fr.size
  have L8:=lh (Lcl.new S5.out.ps (.cells #[.int .u8 7,.int .i64 (p:Int),.string t.txt,.int .i64 0,.slice none 0 0] 54))
  clear S5
  have C9:=lh (expect_at S6.out.ps ⟨#[61]⟩ (by decide))
  go_wp2_with fail
  (with_reducible refine C9.out.mono ?_)
  rintro e w10 hP
  clear C9
  cases hx:expectP ⟨#[61]⟩ l1 with
  | err pe ce =>
   obtain ⟨rfl,HB⟩:=pE hx hP
   replace hx:=lh hx
   go_wp2
   exact ⟨rfl,of_err (by simp only [readP,Par.bind,X4.out,hx.out]) HB.out⟩
  | ok p2 l2 =>
   rw [hx] at hP
   have X11:=lh hx
   obtain ⟨rfl,hs,hf⟩:=hP
   obtain ⟨S,T⟩:=S6.out.same hs hf
   clear hs hf hx
   have L12:=lh (L8.out.tr T)
   have S13:=lh (S)
   clear S T S6 L8
   have c14:=L12.out.cell 0 rfl
   have c15:=L12.out.cell 1 rfl
   have c16:=L12.out.cell 2 rfl
   have c17:=L12.out.cell 3 rfl
   have c18:=L12.out.cell 4 rfl
   have z19:=L12.out.fz
   have C20:=lh (cell_at S13.out.ps)
   go_wp2_with fail
   clear c14 c15 c16 c17 c18 z19
   (with_reducible refine C20.out.mono ?_)
   rintro e w21 hP
   clear C20
   cases hx:cellP r l2 with
   | err pe ce =>
    obtain ⟨rfl,HB⟩:=pE hx hP
    replace hx:=lh hx
    go_wp2
    exact ⟨rfl,of_err (by simp only [readP,Par.bind,X4.out,X11.out,hx.out]) HB.out⟩
   | ok ab l3 =>
    rw [hx] at hP
    have X22:=lh hx
    obtain ⟨v21,n21,rfl,S,T⟩:=S13.out.two hP
    clear hP hx
    have L23:=lh (L12.out.tr T)
    have S24:=lh (S)
    clear S T S13 L12
    have c25:=L23.out.cell 0 rfl
    have c26:=L23.out.cell 1 rfl
    have c27:=L23.out.cell 2 rfl
    have c28:=L23.out.cell 3 rfl
    have c29:=L23.out.cell 4 rfl
    have z30:=L23.out.fz
    have C31:=lh (skip_at S24.out.ps ⟨#[102,111,114]⟩ (by decide))
    go_wp2_with fail
    clear c25 c26 c27 c28 c29 z30
    (with_reducible refine C31.out.mono ?_)
    rintro e w32 hP
    clear C31
    cases hx:skipP ⟨#[102,111,114]⟩ l3 with
    | err pe ce =>
     obtain ⟨rfl,HB⟩:=pE hx hP
     replace hx:=lh hx
     go_wp2
     exact ⟨rfl,of_err (by simp only [readP,Par.bind,X4.out,X11.out,X22.out,hx.out]) HB.out⟩
    | ok u l4 =>
     rw [hx] at hP
     cases u with
     | false =>
      have X33:=lh hx
      obtain ⟨rfl,hs,hf⟩:=hP
      obtain ⟨S,T⟩:=S24.out.same hs hf
      clear hs hf hx
      have L34:=lh (L23.out.tr T)
      have S35:=lh (S)
      clear S T S24 L23
      have c36:=L34.out.cell 0 rfl
      have c37:=L34.out.cell 1 rfl
      have c38:=L34.out.cell 2 rfl
      have c39:=L34.out.cell 3 rfl
      have c40:=L34.out.cell 4 rfl
      have z41:=L34.out.fz
      have R42:=lh (Rw.lit S35.out (q:=w32.heap.size) (by first|rfl|simp [World.setCell]) (ks:=roots md.length [ab.1,ab.2]) (cs:=#[.int .i64 (rootI (md.length+sizeL []) ab.1),.int .i64 (rootI (md.length+sizeL [ab.1]) ab.2)]) (m:=2) (by simp [roots,rootI,sizeL]<;>omega) (by simp [roots]) (by omega))
      have S43:=lh (S35.out.alloc (.cells #[.int .i64 (rootI (md.length+sizeL []) ab.1),.int .i64 (rootI (md.length+sizeL [ab.1]) ab.2)] 3))
      have L44:=lh (L34.out.alloc (.cells #[.int .i64 (rootI (md.length+sizeL []) ab.1),.int .i64 (rootI (md.length+sizeL [ab.1]) ab.2)] 3))
      clear S35 L34
      have C45:=lh (end_at (k:=7) (p:=p) (t:=t.txt) (nn:=0) (kz:=.slice none 0 0) S43.out R42.out rfl)
      go_wp2_with fail
      clear c36 c37 c38 c39 c40 z41
      (with_reducible refine C45.out.mono ?_)
      rintro e wf hP
      have HR:readP r p l=endP (.mk 7 p t.txt 0 [ab.1,ab.2]) l4:=by simp only [readP,Par.bind,X4.out,X11.out,X22.out,X33.out]
      rw [← HR] at hP
      have hfin:=lh hP
      rcases post_form hP with ⟨z,rfl⟩|⟨ch,rfl⟩
      · clear hP HR C45
        go_wp2
        go_ret
        exact hfin.out
      · clear hP HR C45
        go_wp2
        exact ⟨rfl,hfin.out⟩
     | true =>
      have X33:=lh hx
      obtain ⟨rfl,hs,hf⟩:=hP
      obtain ⟨S,T⟩:=S24.out.same hs hf
      clear hs hf hx
      have L34:=lh (L23.out.tr T)
      have S35:=lh (S)
      clear S T S24 L23
      have c36:=L34.out.cell 0 rfl
      have c37:=L34.out.cell 1 rfl
      have c38:=L34.out.cell 2 rfl
      have c39:=L34.out.cell 3 rfl
      have c40:=L34.out.cell 4 rfl
      have z41:=L34.out.fz
      have C42:=lh (expect_at S35.out.ps ⟨#[117,112,100,97,116,101]⟩ (by decide))
      go_wp2_with fail
      clear c36 c37 c38 c39 c40 z41
      (with_reducible refine C42.out.mono ?_)
      rintro e w43 hP
      clear C42
      cases hx:expectP ⟨#[117,112,100,97,116,101]⟩ l4 with
      | err pe ce =>
       obtain ⟨rfl,HB⟩:=pE hx hP
       replace hx:=lh hx
       go_wp2
       exact ⟨rfl,of_err (by simp only [readP,Par.bind,X4.out,X11.out,X22.out,X33.out,hx.out]) HB.out⟩
      | ok p5 l5 =>
       rw [hx] at hP
       have X44:=lh hx
       obtain ⟨rfl,hs,hf⟩:=hP
       obtain ⟨S,T⟩:=S35.out.same hs hf
       clear hs hf hx
       have L45:=lh (L34.out.tr T)
       have S46:=lh (S)
       clear S T S35 L34
       have c47:=L45.out.cell 0 rfl
       have c48:=L45.out.cell 1 rfl
       have c49:=L45.out.cell 2 rfl
       have c50:=L45.out.cell 3 rfl
       have c51:=L45.out.cell 4 rfl
       have z52:=L45.out.fz
       have S53:=lh (S46.out.set (a:=⟨w3.heap.size,3,none⟩) L45.out.loc Q7.out (.int .i64 1))
       have L54:=lh (L45.out.set 3 (.int .i64 1))
       clear S46 L45
       have R55:=lh (Rw.lit S53.out (q:=w43.heap.size) (by first|rfl|simp [World.setCell]) (ks:=roots md.length [ab.1,ab.2]) (cs:=#[.int .i64 (rootI (md.length+sizeL []) ab.1),.int .i64 (rootI (md.length+sizeL [ab.1]) ab.2)]) (m:=2) (by simp [roots,rootI,sizeL]<;>omega) (by simp [roots]) (by omega))
       have S56:=lh (S53.out.alloc (.cells #[.int .i64 (rootI (md.length+sizeL []) ab.1),.int .i64 (rootI (md.length+sizeL [ab.1]) ab.2)] 3))
       have L57:=lh (L54.out.alloc (.cells #[.int .i64 (rootI (md.length+sizeL []) ab.1),.int .i64 (rootI (md.length+sizeL [ab.1]) ab.2)] 3))
       clear S53 L54
       have C58:=lh (end_at (k:=7) (p:=p) (t:=t.txt) (nn:=1) (kz:=.slice none 0 0) S56.out R55.out rfl)
       go_wp2_with fail
       clear c47 c48 c49 c50 c51 z52
       (with_reducible refine C58.out.mono ?_)
       rintro e wf hP
       have HR:readP r p l=endP (.mk 7 p t.txt 1 [ab.1,ab.2]) l5:=by simp only [readP,Par.bind,X4.out,X11.out,X22.out,X33.out,X44.out]
       rw [← HR] at hP
       have hfin:=lh hP
       rcases post_form hP with ⟨z,rfl⟩|⟨ch,rfl⟩
       · clear hP HR C58
         go_wp2
         go_ret
         exact hfin.out
       · clear hP HR C58
         go_wp2
         exact ⟨rfl,hfin.out⟩
theorem lock_at (h:PS E v kvs md r l w)(p:Nat):Calls Tryz.prog 121 #[.pointer (some ⟨E.b,0,none⟩),.int .i64 (p:Int)] w (PostE E (lockP p l) fun a l'=>OkA E v kvs md r w a l'):=by
 have hr64:=h.r64
 have RM:=lh h.room
 have S1:=lh (St.start h)
 have hnot:=nt
 clear h
 have S2:=lh (S1.out.alloc (.cells #[.int .u8 12,.int .i64 (p:Int),.string ⟨#[]⟩,.int .i64 0,.slice none 0 0] 54))
 have Q3:Hid (w.heap.size≤w.heap.size):=lh S1.out.fr.size
 have L4:=lh (Lcl.new S1.out.ps (.cells #[.int .u8 12,.int .i64 (p:Int),.string ⟨#[]⟩,.int .i64 0,.slice none 0 0] 54))
 clear S1
 go_enter Tryz.func121,Tryz.ntmps121
 have C5:=lh (word_at S2.out.ps)
 go_wp2_with fail
 (with_reducible refine C5.out.mono ?_)
 rintro e w6 hP
 clear C5
 cases hx:wordP l with
 | err pe ce =>
  obtain ⟨rfl,HB⟩:=pE hx hP
  replace hx:=lh hx
  go_wp2
  exact ⟨rfl,of_err (by simp only [lockP,Par.bind,hx.out]) HB.out⟩
 | ok a l1 =>
  rw [hx] at hP
  have X7:=lh hx
  obtain ⟨v6,n6,rfl,S,T⟩:=S2.out.ast (ts':=[a]) hP rfl
  clear hP hx
  have L8:=lh (L4.out.tr T)
  have S9:=lh (S)
  clear S T S2 L4
  have c10:=L8.out.cell 0 rfl
  have c11:=L8.out.cell 1 rfl
  have c12:=L8.out.cell 2 rfl
  have c13:=L8.out.cell 3 rfl
  have c14:=L8.out.cell 4 rfl
  have z15:=L8.out.fz
  have C16:=lh (skip_at S9.out.ps ⟨#[97,108,108]⟩ (by decide))
  go_wp2_with fail
  clear c10 c11 c12 c13 c14 z15
  (with_reducible refine C16.out.mono ?_)
  rintro e w17 hP
  clear C16
  cases hx:skipP ⟨#[97,108,108]⟩ l1 with
  | err pe ce =>
   obtain ⟨rfl,HB⟩:=pE hx hP
   replace hx:=lh hx
   go_wp2
   exact ⟨rfl,of_err (by simp only [lockP,Par.bind,X7.out,hx.out]) HB.out⟩
  | ok u l2 =>
   rw [hx] at hP
   cases u with
   | false =>
    have X18:=lh hx
    obtain ⟨rfl,hs,hf⟩:=hP
    obtain ⟨S,T⟩:=S9.out.same hs hf
    clear hs hf hx
    have L19:=lh (L8.out.tr T)
    have S20:=lh (S)
    clear S T S9 L8
    have c21:=L19.out.cell 0 rfl
    have c22:=L19.out.cell 1 rfl
    have c23:=L19.out.cell 2 rfl
    have c24:=L19.out.cell 3 rfl
    have c25:=L19.out.cell 4 rfl
    have z26:=L19.out.fz
    have C27:=lh (expect_at S20.out.ps ⟨#[115,104,97,114,101,100]⟩ (by decide))
    go_wp2_with fail
    clear c21 c22 c23 c24 c25 z26
    (with_reducible refine C27.out.mono ?_)
    rintro e w28 hP
    clear C27
    cases hx:expectP ⟨#[115,104,97,114,101,100]⟩ l2 with
    | err pe ce =>
     obtain ⟨rfl,HB⟩:=pE hx hP
     replace hx:=lh hx
     go_wp2
     exact ⟨rfl,of_err (by simp only [lockP,Par.bind,X7.out,X18.out,hx.out]) HB.out⟩
    | ok p3 l3 =>
     rw [hx] at hP
     have X29:=lh hx
     obtain ⟨rfl,hs,hf⟩:=hP
     obtain ⟨S,T⟩:=S20.out.same hs hf
     clear hs hf hx
     have L30:=lh (L19.out.tr T)
     have S31:=lh (S)
     clear S T S20 L19
     have c32:=L30.out.cell 0 rfl
     have c33:=L30.out.cell 1 rfl
     have c34:=L30.out.cell 2 rfl
     have c35:=L30.out.cell 3 rfl
     have c36:=L30.out.cell 4 rfl
     have z37:=L30.out.fz
     have R38:=lh (Rw.lit S31.out (q:=w28.heap.size) (by first|rfl|simp [World.setCell]) (ks:=roots md.length [a]) (cs:=#[.int .i64 (rootI (md.length+sizeL []) a)]) (m:=1) (by simp [roots,rootI,sizeL]<;>omega) (by simp [roots]) (by omega))
     have S39:=lh (S31.out.alloc (.cells #[.int .i64 (rootI (md.length+sizeL []) a)] 3))
     have L40:=lh (L30.out.alloc (.cells #[.int .i64 (rootI (md.length+sizeL []) a)] 3))
     clear S31 L30
     have C41:=lh (end_at (k:=12) (p:=p) (t:=none0) (nn:=0) (kz:=.slice none 0 0) S39.out R38.out rfl)
     go_wp2_with fail
     clear c32 c33 c34 c35 c36 z37
     (with_reducible refine C41.out.mono ?_)
     rintro e wf hP
     have HR:lockP p l=endP (.mk 12 p none0 0 [a]) l3:=by simp only [lockP,Par.bind,X7.out,X18.out,X29.out]
     rw [← HR] at hP
     have hfin:=lh hP
     rcases post_form hP with ⟨z,rfl⟩|⟨ch,rfl⟩
     · clear hP HR C41
       go_wp2
       go_ret
       exact hfin.out
     · clear hP HR C41
       go_wp2
       exact ⟨rfl,hfin.out⟩
   | true =>
    have X18:=lh hx
    obtain ⟨rfl,hs,hf⟩:=hP
    obtain ⟨S,T⟩:=S9.out.same hs hf
    clear hs hf hx
    have L19:=lh (L8.out.tr T)
    have S20:=lh (S)
    clear S T S9 L8
    have c21:=L19.out.cell 0 rfl
    have c22:=L19.out.cell 1 rfl
    have c23:=L19.out.cell 2 rfl
    have c24:=L19.out.cell 3 rfl
    have c25:=L19.out.cell 4 rfl
    have z26:=L19.out.fz
    have S27:=lh (S20.out.set (a:=⟨w.heap.size,3,none⟩) L19.out.loc Q3.out (.int .i64 1))
    have L28:=lh (L19.out.set 3 (.int .i64 1))
    clear S20 L19
    have R29:=lh (Rw.lit S27.out (q:=w17.heap.size) (by first|rfl|simp [World.setCell]) (ks:=roots md.length [a]) (cs:=#[.int .i64 (rootI (md.length+sizeL []) a)]) (m:=1) (by simp [roots,rootI,sizeL]<;>omega) (by simp [roots]) (by omega))
    have S30:=lh (S27.out.alloc (.cells #[.int .i64 (rootI (md.length+sizeL []) a)] 3))
    have L31:=lh (L28.out.alloc (.cells #[.int .i64 (rootI (md.length+sizeL []) a)] 3))
    clear S27 L28
    have C32:=lh (end_at (k:=12) (p:=p) (t:=none0) (nn:=1) (kz:=.slice none 0 0) S30.out R29.out rfl)
    go_wp2_with fail
    clear c21 c22 c23 c24 c25 z26
    (with_reducible refine C32.out.mono ?_)
    rintro e wf hP
    have HR:lockP p l=endP (.mk 12 p none0 1 [a]) l2:=by simp only [lockP,Par.bind,X7.out,X18.out]
    rw [← HR] at hP
    have hfin:=lh hP
    rcases post_form hP with ⟨z,rfl⟩|⟨ch,rfl⟩
    · clear hP HR C32
      go_wp2
      go_ret
      exact hfin.out
    · clear hP HR C32
      go_wp2
      exact ⟨rfl,hfin.out⟩
end
end
section
open Go.RowKit
open Par (Less many many_err many_done many_more)
section
variable {E:Env}{v:Value}{kvs:List Value}{md:List Nd}{r:Nat}{l:List PT}{w:World}
theorem words_at (h:PS E v kvs md r l w):Calls Tryz.prog 205 #[.pointer (some ⟨E.b,0,none⟩)] w (PostE E (wordsP l) fun a l'=>OkL E v kvs md r w a l'):=by
 have hr64:=h.r64
 have RM:=lh h.room
 have S1:=lh (St.start h)
 have hnot:=nt
 clear h
 go_enter Tryz.func205,Tryz.ntmps205
 have C2:=lh (word_at S1.out.ps)
 go_wp2_with fail
 (with_reducible refine C2.out.mono ?_)
 rintro e w3 hP
 clear C2
 cases hx:wordP l with
 | err pe ce =>
  obtain ⟨rfl,HB⟩:=pE hx hP
  replace hx:=lh hx
  go_wp2
  exact ⟨rfl,of_err (by simp only [wordsP,Par.bind,hx.out]) HB.out⟩
 | ok a l1 =>
  rw [hx] at hP
  have X4:=lh hx
  obtain ⟨v3,n3,rfl,S,T⟩:=S1.out.ast (ts':=[a]) hP rfl
  clear hP hx
  have S5:=lh (S)
  clear S T S1
  have R6:=lh (Rw.lit S5.out (q:=w3.heap.size) (by first|rfl|simp [World.setCell]) (ks:=roots md.length [a]) (cs:=#[.int .i64 (rootI (md.length+sizeL []) a)]) (m:=1) (by simp [roots,rootI,sizeL]<;>omega) (by simp [roots]) (by omega))
  have S7:=lh (S5.out.alloc (.cells #[.int .i64 (rootI (md.length+sizeL []) a)] 3))
  clear S5
  obtain ⟨i0,hi,hz0,hz1,hz2⟩:=info_partsP infoInt
  have I0:=lh hi
  have I1:=lh hz0
  have I2:=lh hz1
  have I3:=lh hz2
  clear hi hz0 hz1 hz2
  go_wp2_with fail
  go_loopw [3] (fun kvL wr=>∃(ts:List Ast) (lk:List PT) (vk:Value) (nk:List Value),Hid (St E v kvs md w ts r lk vk nk wr)∧Hid (Rw E vk (kvs++nk) (w.heap.size) kvL (roots md.length ts) wr)∧Hid (many wordsStep [a] l1=many wordsStep ts lk)) (fun _ wr=>E.toks.length-nextOf E wr)
  case atStart=>exact ⟨[a],l1,_,_,S7,R6,lh rfl⟩
  case round =>
   obtain ⟨ts,lk,vk,nk,S0,R0,HM⟩:=hrel
   have hleft:=lh S0.out.ps.left
   clear S7 R6
   have C8:=lh (skip_at S0.out.ps ⟨#[44]⟩ (by decide))
   go_wp2_with fail
   (with_reducible refine C8.out.mono ?_)
   rintro e w9 hP
   clear C8
   cases hx:skipP ⟨#[44]⟩ lk with
   | err pe ce =>
    rw [hx] at hP
    obtain ⟨rfl,hb⟩:=hP
    have HB:=lh hb
    have HX:many wordsStep [a] l1=.err pe ce:=by rw [HM.out];exact many_err (by simp only [wordsStep,Par.bind,hx])
    have HR:Hid (wordsP l=.err pe ce):=lh (by simp only [wordsP,Par.bind,X4.out,HX])
    clear hb hx HX
    go_wp2
    exact ⟨rfl,of_err HR.out HB.out⟩
   | ok u l9 =>
    rw [hx] at hP
    cases u with
    | true =>
     have X10:=lh hx
     obtain ⟨rfl,hs,hf2⟩:=hP
     obtain ⟨S,T⟩:=S0.out.same hs hf2
     clear hs hf2 hx
     have R11:=lh (R0.out.tr T)
     have S12:=lh (S)
     clear S T S0 R0
     have C13:=lh (word_at S12.out.ps)
     go_wp2_with fail
     (with_reducible refine C13.out.mono ?_)
     rintro e w14 hP
     clear C13
     cases hx:wordP l9 with
     | err pe ce =>
      rw [hx] at hP
      obtain ⟨rfl,hb⟩:=hP
      have HB:=lh hb
      have HX:many wordsStep [a] l1=.err pe ce:=by rw [HM.out];exact many_err (by simp only [wordsStep,Par.bind,X10.out,hx])
      have HR:Hid (wordsP l=.err pe ce):=lh (by simp only [wordsP,Par.bind,X4.out,HX])
      clear hb hx HX
      go_wp2
      exact ⟨rfl,of_err HR.out HB.out⟩
     | ok bq l14 =>
      rw [hx] at hP
      obtain ⟨v14,n14,rfl,S,T⟩:=S12.out.ast (ts':=ts++[bq]) hP rfl
      have HM2:Hid (many wordsStep [a] l1=many wordsStep (ts++[bq]) l14):=lh (by rw [HM.out];exact many_more step_words (by simp only [wordsStep,Par.bind,Par.pure,X10.out,hx]))
      have hq:l14.length<lk.length:=by
       have h5:wordsStep ts lk=.ok (some (ts++[bq])) l14:=by simp only [wordsStep,Par.bind,Par.pure,X10.out,hx]
       exact (step_words _ _ _ _ h5).1 rfl
      clear hP hx
      have R15:=lh (R11.out.tr T)
      have S16:=lh (S)
      clear S T S12 R11
      have hk:(roots md.length ts).length≤70000:=by have h6:=S16.out.ps.room;rw [List.length_append,postL_length,sizeL_append] at h6;rw [roots_length];have:=length_le_sizeL ts;omega
      have R17:=lh (R15.out.alloc (.cells #[.int .i64 (rootI (md.length+sizeL ts) bq)] 3))
      have S18:=lh (S16.out.alloc (.cells #[.int .i64 (rootI (md.length+sizeL ts) bq)] 3))
      have hbb:Hid (w.heap.size≤(w14.alloc (.cells #[.int .i64 (rootI (md.length+sizeL ts) bq)] 3)).heap.size):=lh (by have h7:=S18.out.fr.size;simp only [World.size_alloc] at *;omega)
      clear R15 S16
      go_wp2_with (at_builtin;refine wpList_append_lies _ rfl (.tmp 9) (.tmp 12) 32 rfl (E.b+1) 3 i0 _ 1 8 Tryz.underlying32 I0.out I1.out I2.out I3.out rfl (by decide) u3 (roots md.length ts).length ((roots md.length ts).map (Value.int .i64)) rfl R17.out.own ⟨w14.heap.size,0,none⟩ 1 1 [.int .i64 (rootI (md.length+sizeL ts) bq)] rfl rfl (World.news_of_block (cs:=#[.int .i64 (rootI (md.length+sizeL ts) bq)]) (t:=3) (fr:=(0,0)) (heap_alloc_new _ _)) (by simp [Value.oneCell']) (by decide) (by unfold maxLen;omega) (by omega) S18.out.ps.lt _ rfl ?_;intro g5 cap5 w5 hown5 hgrow5 hat5 hlt5)
      have R5:Hid (Rw E v14 (kvs++n14) (w.heap.size) (.slice (some ⟨g5,0,none⟩) ((roots md.length ts).length+1) cap5) (roots md.length (ts++[bq])) w5):=lh (by rw [roots_snoc];exact R17.out.push hbb.out S18.out.ps.fresh hown5 rfl rfl hat5 rfl)
      have S5:=lh (S18.out.grown R17.out (Nat.le_refl _) hgrow5)
      have hl3:=lh S5.out.ps.left
      clear hown5 hgrow5 hat5 hlt5 R17 S18
      go_wp2
      go_roundw
      case rel=>exact ⟨_,_,_,_,S5,R5,HM2⟩
      case measure=>have h1:=hleft.out;have h2:=hl3.out;show E.toks.length-nextOf E _<E.toks.length-nextOf E wr;omega
    | false =>
     have X10:=lh hx
     obtain ⟨rfl,hs,hf2⟩:=hP
     obtain ⟨S,T⟩:=S0.out.same hs hf2
     clear hs hf2 hx
     have R11:=lh (R0.out.tr T)
     have S12:=lh (S)
     clear S T S0 R0
     have HX:Hid (many wordsStep [a] l1=.ok ts l9):=lh (by rw [HM.out];exact many_done (by simp only [wordsStep,Par.bind,Par.pure,X10.out]))
     clear HM
     have HR:Hid (wordsP l=.ok ts l9):=lh (by simp only [wordsP,Par.bind,X4.out,HX.out])
     go_wp2
     go_ret
     exact of_ok HR.out ⟨_,_,_,rfl,S12.out,R11.out⟩
end
end
namespace Nm
open Tr
section
variable {ns:List Nd}{S:Nat→Nat}{tabs:List Tb}
theorem Rt.leaf (h:Rt ns S){i:Nat}(hi:i<ns.length)(hk:(nd ns i).kind=5∨(nd ns i).kind=18∨(nd ns i).kind=19∨(nd ns i).kind=21):S i=1:=by
 refine h.kids0 hi ?_
 have hs:=h.shape i hi
 rw [← kindsOf_len ns]
 rcases hk with hk|hk|hk|hk<;>rw [hk] at hs<;>simp [kidsR] at hs<;>simp [hs]
theorem Rt.row_of (h:Rt ns S){i:Nat}(hi:i<ns.length)(hk:(nd ns i).kind=20):kid ns i 0=i+1∧S i=1+S (i+1)∧i+1<ns.length∧isExprK (nd ns (i+1)).kind=true:=by
 have hs:=h.shape i hi
 rw [hk] at hs
 obtain ⟨hl,hw⟩:=h.want hi (want:=[0]) (by simpa [kidsR] using hs)
 obtain ⟨k0,k1⟩:=h.kids1 hi hl
 obtain ⟨_,h2,_,h3⟩:=hw 0 (by simp)
 rw [k0] at h2 h3
 exact ⟨k0,k1,h2,by simpa using h3⟩
theorem does_row (h:Rt ns S){i x:Nat}{s t:St}(hs:So s)(hl:s.of.length=ns.length)(hi:i<ns.length)(hk:(nd ns i).kind=20)(he:row ns tabs i s=.ok (x,t)):Does ns tabs (fun k=>i≤k∧k<i+S i) s t:=by
 obtain ⟨q0,q1,q2,q3⟩:=h.row_of hi hk
 unfold row at he
 obtain ⟨⟨y,s1⟩,h1,he⟩:=bind_ok he
 obtain ⟨s2,h2,he⟩:=bind_ok he
 cases he
 have d1:=does_tableOf hs (by omega) (by omega) (by unfold VarK;omega) h1
 rw [q0] at h2
 have d2:=does_exprAt (tabs:=tabs) h d1.so (d1.len.trans hl) q2 q3 h2
 exact (d1.comp d2).more (fun k hk=>by omega) (fun k hk hn=>by omega)
theorem IC.app:∀(a b:List Item) (p m e:Nat) {n:Nat},IC S n a p m→IC S n b m e→IC S n (a++b) p e
 | [],b,p,m,e,n,h,h2=>by
  have:p=m:=h
  subst this
  exact h2
 | none::a,b,p,m,e,n,h,h2=>IC.app a b p m e (n:=n) h h2
 | some j::a,b,p,m,e,n,h,h2=>⟨h.1,h.2.1,IC.app a b _ m e h.2.2 h2⟩
theorem IC.drop:∀(a b:List Item) (p e:Nat) {n:Nat},IC S n (a++b) p e→∃m,IC S n a p m∧IC S n b m e
 | [],b,p,e,n,h=>⟨p,rfl,h⟩
 | none::a,b,p,e,n,h=>IC.drop a b p e (n:=n) h
 | some j::a,b,p,e,n,h=>by
  obtain ⟨m,h1,h2⟩:=IC.drop a b _ e h.2.2
  exact ⟨m,⟨h.1,h.2.1,h1⟩,h2⟩
theorem IC.le (h:Rt ns S):∀(l:List Item) (i e:Nat),IC S ns.length l i e→i≤e
 | [],i,e,hf=>by
  have:i=e:=hf
  omega
 | none::l,i,e,hf=>IC.le h l i e hf
 | some j::l,i,e,hf=>by
  have h1:=h.sz.size i hf.2.1
  have:=IC.le h l _ _ hf.2.2
  omega
theorem LC.le (h:Rt ns S):∀(l:List Nat) (i e:Nat),LC S ns.length l i e→i≤e
 | [],i,e,hf=>by
  have:i=e:=hf
  omega
 | j::l,i,e,hf=>by
  have h1:=h.sz.size i hf.2.1
  have:=LC.le h l _ _ hf.2.2
  omega
theorem lc_chain:∀(ks:List Int) (a e:Nat),Tr.Chain S ns.length ks a e→LC S ns.length (ks.map Int.toNat) a e
 | [],_,_,h=>h
 | k::ks,a,e,h=>⟨by have h1:=h.1;simp [h1],h.2.1,lc_chain ks _ e h.2.2⟩
theorem ic_chain:∀(ks:List Int) (a e:Nat),Tr.Chain S ns.length ks a e→IC S ns.length (ks.map fun k=>some k.toNat) a e
 | [],_,_,h=>h
 | k::ks,a,e,h=>⟨by have h1:=h.1;simp [h1],h.2.1,ic_chain ks _ e h.2.2⟩
theorem Rt.lc (h:Rt ns S){i:Nat}(hi:i<ns.length):LC S ns.length ((nd ns i).kids.map Int.toNat) (i+1) (i+S i):=lc_chain _ _ _ (h.sz.chain i hi)
theorem Rt.ic (h:Rt ns S){i:Nat}(hi:i<ns.length):IC S ns.length (kidsOf ns i) (i+1) (i+S i):=ic_chain _ _ _ (h.sz.chain i hi)
theorem does_exprs (h:Rt ns S):∀(l:List Nat) (p e:Nat) (s t:St),So s→s.of.length=ns.length→LC S ns.length l p e→(∀x∈l,isExprK (nd ns x).kind=true)→exprs ns l s=.ok t→Does ns tabs (fun k=>p≤k∧k<e) s t
 | [],p,e,s,t,hs,hl,hc,_,he=>by
  have hie:p=e:=hc
  cases he
  exact Does.triv hs (fun k hk=>by omega)
 | i::r,p,e,s,t,hs,hl,hc,hk,he=>by
  obtain ⟨rfl,hi,hr⟩:=hc
  unfold exprs at he
  obtain ⟨s1,h1,he⟩:=bind_ok he
  have d1:=does_exprAt (tabs:=tabs) h hs hl hi (hk i (by simp)) h1
  have d2:=does_exprs h r (i+S i) e s1 t d1.so (d1.len.trans hl) hr (fun x hx=>hk x (by simp [hx])) he
  have h3:=h.sz.size i hi
  have h4:=LC.le h _ _ _ hr
  exact (d1.comp d2).more (fun k hk=>by omega) (fun k hk hn=>by omega)
theorem does_put (h:Rt ns S){i:Nat}{s t:St}(hs:So s)(hl:s.of.length=ns.length)(hi:i<ns.length)(hk:(nd ns i).kind=9)(he:put ns tabs i s=.ok t):Does ns tabs (fun k=>i≤k∧k<i+S i) s t:=by
 have hsh:=h.shape i hi
 rw [hk] at hsh
 have hsh:1<(kindsOf ns (nd ns i)).length∧(kindsOf ns (nd ns i)).getD 0 0=20∧((kindsOf ns (nd ns i)).drop 1).all isExprK=true:=by
  have:=hsh
  simp only [kidsR] at this
  simpa using this
 obtain ⟨s1,s2,s3⟩:=hsh
 rw [kindsOf_len] at s1
 rw [kindsOf_get ns i 0 (by omega)] at s2
 have hlc:=h.lc hi
 obtain ⟨a,r,hkids⟩:∃a r,(nd ns i).kids=a::r:=by
  cases hq:(nd ns i).kids with
  | nil=>rw [hq] at s1;simp at s1
  | cons a r=>exact ⟨a,r,rfl⟩
 rw [hkids] at hlc
 obtain ⟨ha,hi1,hlr⟩:=hlc
 have k0:kid ns i 0=i+1:=by
  unfold Nm.kid
  rw [hkids]
  simpa using ha
 have hex:∀x∈r.map Int.toNat,isExprK (nd ns x).kind=true:=by
  intro x hx
  obtain ⟨k,hkr,rfl⟩:=List.mem_map.1 hx
  have:(nd ns k.toNat).kind∈(kindsOf ns (nd ns i)).drop 1:=by
   unfold kindsOf
   rw [hkids]
   exact List.mem_map.2 ⟨k,hkr,rfl⟩
  exact List.all_eq_true.1 s3 _ this
 unfold put at he
 obtain ⟨⟨t1,u1⟩,h1,he⟩:=bind_ok he
 simp only at he
 split at he
 · cases he
 · obtain ⟨⟨t2,u2⟩,h2,he⟩:=bind_ok he
   rw [k0] at h1 h2 s2
   simp only [hkids,List.drop_succ_cons,List.drop_zero] at he
   have d1:=does_tableOf hs (by omega) (by omega) (by unfold VarK;omega) h1
   have d2:=does_row h d1.so (d1.len.trans hl) hi1 s2 h2
   have d3:Does ns tabs (fun k=>k=i) u2 (u2.set i t2):=does_set d2.so (Triv.gv ⟨by omega,by omega,by unfold VarK;omega⟩ _ _ _)
   have d4:=does_exprs (tabs:=tabs) h _ _ _ _ _ d3.so (d3.len.trans (d2.len.trans (d1.len.trans hl))) hlr hex he
   have h3:=h.sz.size (i+1) hi1
   have h4:=LC.le h _ _ _ hlr
   exact (((d1.comp d2).comp d3).comp d4).more (fun k hk=>by omega) (fun k hk hn=>by omega)
theorem So.push {s:St}(h:So s):So { s with envs:=s.there::s.envs }:=⟨fun env he v hv=>by
 rcases List.mem_cons.1 he with rfl|he
 · exact h.there v hv
 · exact h.env env he v hv,h.few⟩
theorem So.pop {s:St}(h:So s):So { s with envs:=s.envs.drop 1 }:=⟨fun env he v hv=>h.env env (List.mem_of_mem_drop he) v hv,h.few⟩
theorem Does.envs {R:Nat→Prop}{s t:St}{e:List (List Vr)}(h:Does ns tabs R { s with envs:=e } t):Does ns tabs R s t:=⟨h.len,h.off,h.vars,h.so,h.good⟩
def Stmt (ns:List Nd)(S:Nat→Nat)(tabs:List Tb)(i:Nat)(s:St)(more:List Item)(t:St):Prop :=
 ∃p,IC S ns.length more p (i+S i)∧i<p∧(∀x∈more,ItOk ns x)∧Does ns tabs (fun k=>i≤k∧k<p) s t
theorem stmt_nil (h:Rt ns S){i:Nat}{s t:St}(hi:i<ns.length)(d:Does ns tabs (fun k=>i≤k∧k<i+S i) s t):Stmt ns S tabs i s [] t :=
 ⟨i+S i,rfl,by have:=(h.sz.size i hi).1;omega,fun _ hx=>(by cases hx),d⟩
theorem does_stmt (h:Rt ns S){i:Nat}{s t:St}{more:List Item}(hs:So s)(hl:s.of.length=ns.length)(hi:i<ns.length)(hki:(nd ns i).kind=6∨7≤(nd ns i).kind∧(nd ns i).kind≤19)(he:statement ns tabs i s=.ok (more,t)):Stmt ns S tabs i s more t:=by
 have hsh:=h.shape i hi
 have hS:=h.sz.size i hi
 unfold statement at he
 rcases Classical.em ((nd ns i).kind=6) with hk|hk
 · rw [if_pos hk] at he
   cases he
   refine ⟨i+1,IC.app _ _ _ _ _ (h.ic hi) rfl,by omega,?_,(Does.triv hs.push (fun k hk2=>?_)).envs⟩
   · intro x hx
     rcases List.mem_append.1 hx with hx|hx
     · exact h.block_kids hi hk x hx
     · rw [List.mem_singleton.1 hx];trivial
   · obtain rfl:k=i:=by omega
     exact ⟨by omega,by omega,by unfold VarK;omega⟩
 rw [if_neg hk] at he
 rcases Classical.em ((nd ns i).kind=7) with hk|hk
 · rw [if_pos hk] at he
   rw [hk] at hsh
   obtain ⟨hkl,hw⟩:=h.want hi (want:=[20,5]) (by simpa [kidsR] using hsh)
   obtain ⟨k0,k1,kS⟩:=h.kids2 hi hkl
   obtain ⟨_,b0,_,c0⟩:=hw 0 (by simp)
   obtain ⟨_,b1,_,c1⟩:=hw 1 (by simp)
   simp at c0 c1
   have l1:=h.leaf b1 (Or.inl c1)
   obtain ⟨⟨t1,s1⟩,h1,he⟩:=bind_ok he
   obtain ⟨s2,h2,he⟩:=bind_ok he
   obtain ⟨s3,h3,he⟩:=bind_ok he
   cases he
   have d1:=does_row h hs hl b0 c0 h1
   have d2:=does_column d1.so c1 h2
   have d3:=does_assign (tabs:=tabs) d2.so (by rw [d2.len,d1.len];omega) (by omega) (by omega) h3
   rw [k0] at d1
   have hS1:=h.sz.size (i+1) (by omega)
   exact stmt_nil h hi (((d1.comp d2).comp d3).more (fun k hk=>by omega) (fun k hk hn=>by omega))
 rw [if_neg hk] at he
 rcases Classical.em ((nd ns i).kind=8) with hk|hk
 · rw [if_pos hk] at he
   rw [hk] at hsh
   obtain ⟨hkl,hw⟩:=h.want hi (want:=[20,5,0]) (by simpa [kidsR] using hsh)
   obtain ⟨k0,k1,k2,kS⟩:=h.kids3 hi hkl
   obtain ⟨_,b0,_,c0⟩:=hw 0 (by simp)
   obtain ⟨_,b1,_,c1⟩:=hw 1 (by simp)
   obtain ⟨_,b2,_,c2⟩:=hw 2 (by simp)
   simp at c0 c1 c2
   have l1:=h.leaf b1 (Or.inl c1)
   obtain ⟨⟨t1,s1⟩,h1,he⟩:=bind_ok he
   obtain ⟨s2,h2,he⟩:=bind_ok he
   obtain ⟨s3,h3,he⟩:=bind_ok he
   cases he
   have d1:=does_row h hs hl b0 c0 h1
   have d2:=does_column d1.so c1 h2
   have d3:=does_exprAt (tabs:=tabs) h d2.so (by rw [d2.len,d1.len];omega) b2 c2 h3
   rw [k0] at d1
   have hS1:=h.sz.size (i+1) (by omega)
   exact stmt_nil h hi (((d1.comp d2).comp d3).more (fun k hk=>by omega) (fun k hk2 hn=>by
    obtain rfl:k=i:=by omega
    exact ⟨by omega,by omega,by unfold VarK;omega⟩))
 rw [if_neg hk] at he
 rcases Classical.em ((nd ns i).kind=9) with hk|hk
 · rw [if_pos hk] at he
   obtain ⟨s1,h1,he⟩:=bind_ok he
   cases he
   exact stmt_nil h hi (does_put h hs hl hi hk h1)
 rw [if_neg hk] at he
 rcases Classical.em ((nd ns i).kind=10) with hk|hk
 · rw [if_pos hk] at he
   rw [hk] at hsh
   obtain ⟨hkl,hw⟩:=h.want hi (want:=[20]) (by simpa [kidsR] using hsh)
   obtain ⟨k0,kS⟩:=h.kids1 hi hkl
   obtain ⟨_,b0,_,c0⟩:=hw 0 (by simp)
   simp at c0
   obtain ⟨⟨t1,s1⟩,h1,he⟩:=bind_ok he
   cases he
   have d1:=does_row h hs hl b0 c0 h1
   rw [k0] at d1
   exact stmt_nil h hi (d1.more (fun k hk=>by omega) (fun k hk2 hn=>by
    obtain rfl:k=i:=by omega
    exact ⟨by omega,by omega,by unfold VarK;omega⟩))
 rw [if_neg hk] at he
 rcases Classical.em ((nd ns i).kind=11) with hk|hk
 · rw [if_pos hk] at he
   rw [hk] at hsh
   obtain ⟨hkl,hw⟩:=h.want hi (want:=[5,5]) (by simpa [kidsR] using hsh)
   obtain ⟨k0,k1,kS⟩:=h.kids2 hi hkl
   obtain ⟨_,b0,_,c0⟩:=hw 0 (by simp)
   obtain ⟨_,b1,_,c1⟩:=hw 1 (by simp)
   simp at c0 c1
   have l0:=h.leaf b0 (Or.inl c0)
   have l1:=h.leaf b1 (Or.inl c1)
   obtain ⟨⟨t1,s1⟩,h1,he⟩:=bind_ok he
   obtain ⟨s2,h2,he⟩:=bind_ok he
   obtain ⟨s3,h3,he⟩:=bind_ok he
   cases he
   have d1:=does_tableOf hs (by omega) (by omega) (by unfold VarK;omega) h1
   have d2:=does_column d1.so c1 h2
   have d3:=does_assign (tabs:=tabs) d2.so (by rw [d2.len,d1.len];omega) (by omega) (by omega) h3
   rw [k0] at d1 l0
   exact stmt_nil h hi (((d1.comp d2).comp d3).more (fun k hk=>by omega) (fun k hk hn=>by omega))
 rw [if_neg hk] at he
 rcases Classical.em ((nd ns i).kind=12) with hk|hk
 · rw [if_pos hk] at he
   rw [hk] at hsh
   obtain ⟨hkl,hw⟩:=h.want hi (want:=[5]) (by simpa [kidsR] using hsh)
   obtain ⟨k0,kS⟩:=h.kids1 hi hkl
   obtain ⟨_,b0,_,c0⟩:=hw 0 (by simp)
   simp at c0
   have l0:=h.leaf b0 (Or.inl c0)
   obtain ⟨⟨t1,s1⟩,h1,he⟩:=bind_ok he
   cases he
   have d1:=does_tableOf hs (by omega) (by omega) (by unfold VarK;omega) h1
   rw [k0] at d1 l0
   exact stmt_nil h hi (d1.more (fun k hk=>by omega) (fun k hk2 hn=>by
    obtain rfl:k=i:=by omega
    exact ⟨by omega,by omega,by unfold VarK;omega⟩))
 rw [if_neg hk] at he
 rcases Classical.em ((nd ns i).kind=13) with hk|hk
 · rw [if_pos hk] at he
   rw [hk] at hsh
   rcases Classical.em ((nd ns (kid ns i 0)).kind=20) with h20|h20
   · simp only [h20,if_true] at he
     have hkl:(nd ns i).kids.length=1:=by
      have hsh:(Tr.isR (kindsOf ns (nd ns i)) [5]||Tr.isR (kindsOf ns (nd ns i)) [20])=true:=by simpa [kidsR] using hsh
      rcases Bool.or_eq_true_iff.1 hsh with h1|h1
      · exact (h.want hi h1).1
      · exact (h.want hi h1).1
     obtain ⟨k0,kS⟩:=h.kids1 hi hkl
     obtain ⟨_,_,b0⟩:=h.kidOf hi (j:=0) (by omega)
     obtain ⟨⟨t1,s1⟩,h1,he⟩:=bind_ok he
     cases he
     have d1:=does_row h hs hl b0 h20 h1
     rw [k0] at d1
     exact stmt_nil h hi (d1.more (fun k hk=>by omega) (fun k hk2 hn=>by
      obtain rfl:k=i:=by omega
      exact ⟨by omega,by omega,by unfold VarK;omega⟩))
   · simp only [h20,if_false] at he
     have hsh:(Tr.isR (kindsOf ns (nd ns i)) [5]||Tr.isR (kindsOf ns (nd ns i)) [20])=true:=by simpa [kidsR] using hsh
     have hw5:Tr.isR (kindsOf ns (nd ns i)) [5]=true:=by
      rcases Bool.or_eq_true_iff.1 hsh with h1|h1
      · exact h1
      · obtain ⟨_,hw⟩:=h.want hi h1
        obtain ⟨_,_,_,c0⟩:=hw 0 (by simp)
        simp at c0
        exact absurd c0 h20
     obtain ⟨hkl,hw⟩:=h.want hi hw5
     obtain ⟨k0,kS⟩:=h.kids1 hi hkl
     obtain ⟨_,b0,_,c0⟩:=hw 0 (by simp)
     simp at c0
     have l0:=h.leaf b0 (Or.inl c0)
     obtain ⟨⟨t1,s1⟩,h1,he⟩:=bind_ok he
     cases he
     have d1:=does_tableOf hs (by omega) (by omega) (by unfold VarK;omega) h1
     rw [k0] at d1 l0
     exact stmt_nil h hi (d1.more (fun k hk=>by omega) (fun k hk2 hn=>by
      obtain rfl:k=i:=by omega
      exact ⟨by omega,by omega,by unfold VarK;omega⟩))
 rw [if_neg hk] at he
 rcases Classical.em ((nd ns i).kind=14) with hk|hk
 · rw [if_pos hk] at he
   obtain ⟨s1,h1,he⟩:=bind_ok he
   obtain ⟨s2,h2,he⟩:=bind_ok he
   cases he
   obtain ⟨k1,k2,k3⟩:=h.if_kids hi hk
   obtain ⟨a,b,r,hkids⟩:∃a b r,(nd ns i).kids=a::b::r:=by
    match hq:(nd ns i).kids,k1 with
    | a::b::r,_=>exact ⟨a,b,r,rfl⟩
   have hic:=h.ic hi
   have eko:kidsOf ns i=some a.toNat::some b.toNat::(r.map fun k=>some k.toNat):=by
    unfold kidsOf
    rw [hkids]
    rfl
   rw [eko] at hic
   obtain ⟨ea,la,eb,lb,hr⟩:=hic
   have q0:kid ns i 0=i+1:=by unfold Nm.kid;rw [hkids];exact ea
   have q1:kid ns i 1=i+1+S (i+1):=by unfold Nm.kid;rw [hkids];exact eb
   have x0:=k3 0 (by omega)
   have x1:=k3 1 (by omega)
   have d1:=does_exprAt (tabs:=tabs) h hs hl (by omega) x0 h1
   have d2:=does_exprAt (tabs:=tabs) h d1.so (d1.len.trans hl) (by omega) x1 h2
   rw [q0] at d1
   rw [q1] at d2
   have hS1:=h.sz.size (i+1) la
   have hS2:=h.sz.size (i+1+S (i+1)) lb
   refine ⟨i+1+S (i+1)+S (i+1+S (i+1)),by rw [eko];exact hr,by omega,k2,(d1.comp d2).more (fun k hk=>by omega) (fun k hk2 hn=>?_)⟩
   obtain rfl:k=i:=by omega
   exact ⟨by omega,by omega,by unfold VarK;omega⟩
 rw [if_neg hk] at he
 rcases Classical.em ((nd ns i).kind=15) with hk|hk
 · rw [if_pos hk] at he
   obtain ⟨s1,h1,he⟩:=bind_ok he
   obtain ⟨s2,h2,he⟩:=bind_ok he
   cases he
   rw [hk] at hsh
   obtain ⟨hkl,hw⟩:=h.want hi (want:=[21,21,6]) (by simpa [kidsR] using hsh)
   obtain ⟨k0,k1,k2,kS⟩:=h.kids3 hi hkl
   obtain ⟨_,b0,_,c0⟩:=hw 0 (by simp)
   obtain ⟨_,b1,_,c1⟩:=hw 1 (by simp)
   obtain ⟨_,b2,_,c2⟩:=hw 2 (by simp)
   simp at c0 c1 c2
   have l0:=h.leaf b0 (Or.inr (Or.inr (Or.inr c0)))
   have l1:=h.leaf b1 (Or.inr (Or.inr (Or.inr c1)))
   rw [k0] at l0 c0 b0
   have e1:s1=s:=by
    unfold mustBeNew at h1
    split at h1
    · cases h1
    · cases h1;rfl
   subst e1
   have d1:=does_declare (tabs:=tabs) hs.push (by simp only;omega) (by omega) (by omega) h2
   have hic:=h.ic b2
   refine ⟨kid ns i 2+1,IC.app _ _ _ _ _ (by rw [show i+S i=kid ns i 2+S (kid ns i 2) by omega];exact hic) rfl,by omega,?_,(d1.more (fun k hk=>by omega) (fun k hk2 hn=>?_)).envs⟩
   · intro x hx
     rcases List.mem_append.1 hx with hx|hx
     · exact h.block_kids b2 c2 x hx
     · rw [List.mem_singleton.1 hx];trivial
   · have hc:k=i+1∨k=kid ns i 1∨k=kid ns i 2:=by omega
     rcases hc with rfl|rfl|rfl
     · exact ⟨by omega,by omega,by unfold VarK;omega⟩
     · exact ⟨by omega,by omega,by unfold VarK;omega⟩
     · exact ⟨by omega,by omega,by unfold VarK;omega⟩
 rw [if_neg hk] at he
 rcases Classical.em ((nd ns i).kind=16) with hk|hk
 · rw [if_pos hk] at he
   rw [hk] at hsh
   obtain ⟨hkl,hw⟩:=h.want hi (want:=[0]) (by simpa [kidsR] using hsh)
   obtain ⟨k0,kS⟩:=h.kids1 hi hkl
   obtain ⟨_,b0,_,c0⟩:=hw 0 (by simp)
   simp at c0
   obtain ⟨s1,h1,he⟩:=bind_ok he
   obtain ⟨s2,h2,he⟩:=bind_ok he
   cases he
   have d1:=does_exprAt (tabs:=tabs) h hs hl b0 c0 h1
   have d2:=does_assign (tabs:=tabs) d1.so (by rw [d1.len];omega) (by omega) (by omega) h2
   rw [k0] at d1
   exact stmt_nil h hi ((d1.comp d2).more (fun k hk=>by omega) (fun k hk hn=>by omega))
 rw [if_neg hk] at he
 rcases Classical.em ((nd ns i).kind=17) with hk|hk
 · rw [if_pos hk] at he
   rw [hk] at hsh
   obtain ⟨hkl,hw⟩:=h.want hi (want:=[0]) (by simpa [kidsR] using hsh)
   obtain ⟨k0,kS⟩:=h.kids1 hi hkl
   obtain ⟨_,b0,_,c0⟩:=hw 0 (by simp)
   simp at c0
   obtain ⟨s1,h1,he⟩:=bind_ok he
   cases he
   have d1:=does_exprAt (tabs:=tabs) h hs hl b0 c0 h1
   rw [k0] at d1
   exact stmt_nil h hi (d1.more (fun k hk=>by omega) (fun k hk2 hn=>by
    obtain rfl:k=i:=by omega
    exact ⟨by omega,by omega,by unfold VarK;omega⟩))
 rw [if_neg hk] at he
 have last:(nd ns i).kind=18∨(nd ns i).kind=19:=by omega
 have l0:=h.leaf hi (by omega)
 have dt:Does ns tabs (fun k=>i≤k∧k<i+S i) s s:=Does.triv hs (fun k hk2=>by
  obtain rfl:k=i:=by omega
  exact ⟨by omega,by omega,by unfold VarK;omega⟩)
 rcases Classical.em ((nd ns i).kind=19) with hk|hk
 · rw [if_pos hk] at he
   split at he
   · cases he
   · cases he;exact stmt_nil h hi dt
 rw [if_neg hk] at he
 cases he
 exact stmt_nil h hi dt
theorem does_read (h:Rt ns S):∀(f:Nat) (pile:List Item) (p e:Nat) (s t:St),So s→s.of.length=ns.length→(∀x∈pile,ItOk ns x)→IC S ns.length pile p e→read ns tabs f pile s=.ok t→Does ns tabs (fun k=>p≤k∧k<e) s t
 | f,[],p,e,s,t,hs,_,_,hc,he=>by
  have hie:p=e:=hc
  have:s=t:=by cases f<;>(simp only [read] at he;cases he;rfl)
  subst this
  exact Does.triv hs (fun k hk=>by omega)
 | 0,_::_,_,_,_,_,_,_,_,_,he=>by cases he
 | f+1,none::r,p,e,s,t,hs,hl,hit,hc,he=>by
  exact (does_read h f r p e _ t hs.pop hl (fun x hx=>hit x (by simp [hx])) hc he).envs
 | f+1,some i::r,p,e,s,t,hs,hl,hit,hc,he=>by
  obtain ⟨rfl,hi,hr⟩:=hc
  simp only [read] at he
  obtain ⟨⟨more,s1⟩,h1,he⟩:=bind_ok he
  obtain ⟨_,_,hk⟩:=hit (some i) (by simp)
  obtain ⟨q,q1,q2,q3,d1⟩:=does_stmt h hs hl hi hk h1
  have hc2:=IC.app _ _ _ _ _ q1 hr
  have d2:=does_read h f (more++r) q e s1 t d1.so (d1.len.trans hl) (fun x hx=>by
   rcases List.mem_append.1 hx with hx|hx
   · exact q3 x hx
   · exact hit x (by simp [hx])) hc2 he
  have h4:=IC.le h _ _ _ hc2
  exact (d1.comp d2).more (fun k hk=>by omega) (fun k hk hn=>by omega)
end
end Nm
namespace Nm
open Tr
def inAt (ns:List Nd)(of:List Int):Nat→Int
 | 0=>-1
 | i+1=>if (nd ns i).kind=3 then of.getD i 0 else inAt ns of i
structure NumAt (ns:List Nd)(tabs:List Tb)(ps:List Pr)(of:List Int)(i:Nat):Prop where
 proc:(nd ns i).kind=3→∃(m:Nat) (pr:Pr),of.getD i 0=m∧ps[m]?=some pr∧pr.name=(nd ns i).text∧pr.root=i
 table:((nd ns i).kind=2∨(nd ns i).kind=20)→∃t:Nat,of.getD i 0=t∧t<tabs.length∧(tabs.map Tb.name).getD t default=(nd ns i).text
 var:VarK (nd ns i).kind→∃(q m:Nat) (pr:Pr),inAt ns of i=q∧ps[q]?=some pr∧of.getD i 0=m∧m<pr.vars.length∧pr.vars.length≤64∧pr.vars.getD m default=(nd ns i).text
def HeadOk (ns:List Nd)(tabs:List Tb)(of:List Int):List Nat→Nat→Prop
 | [],_=>True
 | r::l,c=>((nd ns r).kind=2∧(∃t:Nat,of.getD r 0=t∧t<tabs.length∧(tabs.map Tb.name).getD t default=(nd ns r).text)∧HeadOk ns tabs of l c)∨((nd ns r).kind=3∧of.getD r 0=c∧HeadOk ns tabs of l (c+1))
def ProcsOk (ns:List Nd)(S:Nat→Nat)(tabs:List Tb)(of:List Int)(ps:List Pr):List Nat→Nat→Prop
 | [],_=>True
 | r::l,c=>((nd ns r).kind=3∧(∃pr:Pr,ps[c]?=some pr∧pr.name=(nd ns r).text∧pr.root=r∧pr.vars.length≤64∧∀k,r<k→k<r+S r→GV ns tabs pr.vars of k)∧ProcsOk ns S tabs of ps l (c+1))∨((nd ns r).kind=2∧ProcsOk ns S tabs of ps l c)
section
variable {ns:List Nd}{S:Nat→Nat}{tabs:List Tb}
theorem lc_ge (h:Rt ns S):∀(l:List Nat) (p e:Nat),LC S ns.length l p e→∀x∈l,p≤x∧x<ns.length
 | [],_,_,_,_,hx=>by cases hx
 | j::l,p,e,hc,x,hx=>by
  obtain ⟨rfl,hi,hr⟩:=hc
  have:=h.sz.size j hi
  rcases List.mem_cons.1 hx with rfl|hx
  · exact ⟨Nat.le_refl _,hi⟩
  · have:=lc_ge h l _ _ hr x hx
    omega
theorem words_all (h:Rt ns S):∀(l:List Nat) (p e:Nat),LC S ns.length l p e→(∀x∈l,(nd ns x).kind=5)→∀k,p≤k→k<e→(nd ns k).kind=5
 | [],p,e,hc,_,k,h1,h2=>by
  have:p=e:=hc
  omega
 | j::l,p,e,hc,hk,k,h1,h2=>by
  obtain ⟨rfl,hi,hr⟩:=hc
  have h5:=hk j (by simp)
  have hS:=h.leaf hi (Or.inl h5)
  by_cases e:k=j
  · rw [e];exact h5
  · rw [hS] at hr
    exact words_all h l _ _ hr (fun x hx=>hk x (by simp [hx])) k (by omega) h2
theorem Rt.wordKids (h:Rt ns S){i:Nat}(hi:i<ns.length)(hk:(nd ns i).kind=2∨(nd ns i).kind=4):∀x∈(nd ns i).kids.map Int.toNat,(nd ns x).kind=5:=by
 intro x hx
 obtain ⟨k,hk2,rfl⟩:=List.mem_map.1 hx
 refine h.kidKinds hi (fun k=>k=5) (fun j hj=>?_) k hk2
 have hs:=h.shape i hi
 have ha:(kindsOf ns (nd ns i)).all (·==5)=true:=by
  rcases hk with hk|hk<;>rw [hk] at hs<;>simp [kidsR] at hs
  · simpa using hs.2
  · simpa using hs
 have:=List.all_eq_true.1 ha ((kindsOf ns (nd ns i)).getD j 0) (by simp [List.getD,hj])
 simpa using this
theorem does_params (h:Rt ns S):∀(l:List Nat) (p e:Nat) (s t:St),So s→s.of.length=ns.length→LC S ns.length l p e→(∀x∈l,(nd ns x).kind=5)→params ns l s=.ok t→Does ns tabs (fun k=>p≤k∧k<e) s t
 | [],p,e,s,t,hs,_,hc,_,he=>by
  have hie:p=e:=hc
  cases he
  exact Does.triv hs (fun k hk=>by omega)
 | i::r,p,e,s,t,hs,hl,hc,hk,he=>by
  obtain ⟨rfl,hi,hr⟩:=hc
  have h5:=hk i (by simp)
  have hS:=h.leaf hi (Or.inl h5)
  unfold params at he
  obtain ⟨s1,h1,he⟩:=bind_ok he
  obtain ⟨s2,h2,he⟩:=bind_ok he
  have e1:s1=s:=by
   unfold mustBeNew at h1
   split at h1
   · cases h1
   · cases h1;rfl
  rw [e1] at h2
  have d1:=does_declare (tabs:=tabs) hs (by omega) (by omega) (by omega) h2
  have d2:=does_params h r (i+S i) e s2 t d1.so (d1.len.trans hl) hr (fun x hx=>hk x (by simp [hx])) he
  have h4:=LC.le h _ _ _ hr
  exact (d1.comp d2).more (fun k hk=>by omega) (fun k hk hn=>by omega)
theorem proc_ok (h:Rt ns S){i:Nat}{of of':List Int}{pr:Pr}(hi:i<ns.length)(hk:(nd ns i).kind=3)(hl:of.length=ns.length)(he:proc ns tabs i of=.ok (of',pr)):of'.length=ns.length∧(∀k,¬ (i<k∧k<i+S i)→of'.getD k 0=of.getD k 0)∧pr.name=(nd ns i).text∧pr.root=i∧pr.vars.length≤64∧∀k,i<k→k<i+S i→GV ns tabs pr.vars of' k:=by
 have hsh:=h.shape i hi
 rw [hk] at hsh
 obtain ⟨hkl,hw⟩:=h.want hi (want:=[4,6]) (by simpa [kidsR] using hsh)
 obtain ⟨k0,k1,kS⟩:=h.kids2 hi hkl
 obtain ⟨_,b0,_,c0⟩:=hw 0 (by simp)
 obtain ⟨_,b1,_,c1⟩:=hw 1 (by simp)
 simp at c0 c1
 unfold proc at he
 obtain ⟨s1,h1,he⟩:=bind_ok he
 obtain ⟨s2,h2,he⟩:=bind_ok he
 cases he
 have so0:So { of:=of,vars:=[],envs:=[[]] }:=⟨fun env henv v hv=>(by
  rw [List.mem_singleton.1 henv] at hv
  exact absurd hv (by simp)),by simp⟩
 have d1:=does_params (tabs:=tabs) h _ _ _ _ _ so0 hl (h.lc b0) (h.wordKids b0 (Or.inr c0)) h1
 have d2:=does_read h _ _ _ _ _ _ d1.so (d1.len.trans hl) (fun x hx=>by
  rcases List.mem_append.1 hx with hx|hx
  · exact h.block_kids b1 c1 x hx
  · rw [List.mem_singleton.1 hx];trivial) (show IC S ns.length (kidsOf ns (kid ns i 1)++[none]) (kid ns i 1+1) (kid ns i 1+S (kid ns i 1)) from IC.app _ _ _ _ _ (h.ic b1) rfl) h2
 have hS0:=h.sz.size _ b0
 have hS1:=h.sz.size _ b1
 rw [k0] at d1 c0 hS0
 have d:=(d1.comp d2).more (Q:=fun k=>i<k∧k<i+S i) (fun k hk=>by omega) (fun k hk2 hn=>by
  have hc:k=i+1∨k=kid ns i 1:=by omega
  rcases hc with rfl|rfl
  · exact ⟨by omega,by omega,by unfold VarK;omega⟩
  · exact ⟨by omega,by omega,by unfold VarK;omega⟩)
 exact ⟨d.len.trans hl,d.off,rfl,rfl,d.so.few,fun k a b=>d.good k ⟨a,b⟩⟩
theorem number_ok {names names':List ByteArray}{i most:Nat}{of of':List Int}(he:number ns names i most of=.ok (of',names')):of'=of.set i names.length∧names'=names++[(nd ns i).text]:=by
 unfold number at he
 split at he
 · cases he
 · split at he
   · cases he
   · cases he;exact ⟨rfl,rfl⟩
theorem cols_ok (h:Rt ns S):∀(l:List Nat) (p e:Nat) (cs cs':List ByteArray) (of of':List Int),LC S ns.length l p e→cols ns l cs of=.ok (of',cs')→of'.length=of.length∧∀k,¬ (p≤k∧k<e)→of'.getD k 0=of.getD k 0
 | [],p,e,cs,cs',of,of',hc,he=>by cases he;exact ⟨rfl,fun _ _=>rfl⟩
 | i::r,p,e,cs,cs',of,of',hc,he=>by
  obtain ⟨rfl,hi,hr⟩:=hc
  unfold cols at he
  obtain ⟨⟨o1,c1⟩,h1,he⟩:=bind_ok he
  obtain ⟨rfl,rfl⟩:=number_ok h1
  obtain ⟨g1,g2⟩:=cols_ok h r _ e _ _ _ _ hr he
  have hS:=h.sz.size i hi
  have hle:=LC.le h _ _ _ hr
  exact ⟨g1.trans (by simp),fun k hk=>(g2 k (by omega)).trans (set_off (by omega))⟩
theorem table_ok (h:Rt ns S){i:Nat}{a b:Hd}(hi:i<ns.length)(he:table ns i a=.ok b):b.of.length=a.of.length∧(∀k,¬ (i≤k∧k<i+S i)→b.of.getD k 0=a.of.getD k 0)∧(i<a.of.length→b.of.getD i 0=a.tnames.length)∧b.pnames=a.pnames∧b.tnames=a.tnames++[(nd ns i).text]∧∃cs,b.tabs=a.tabs++[⟨(nd ns i).text,cs⟩]:=by
 unfold table at he
 obtain ⟨⟨o1,n1⟩,h1,he⟩:=bind_ok he
 obtain ⟨rfl,rfl⟩:=number_ok h1
 simp only at he
 split at he
 · cases he
 · obtain ⟨⟨o2,cs⟩,h2,he⟩:=bind_ok he
   cases he
   obtain ⟨g1,g2⟩:=cols_ok h _ _ _ _ _ _ _ (h.lc hi) h2
   have hS:=h.sz.size i hi
   exact ⟨g1.trans (by simp),fun k hk=>(g2 k (by omega)).trans (set_off (by omega)),fun hl=>(g2 i (by omega)).trans (set_get hl),rfl,rfl,cs,rfl⟩
theorem getD_name {l m:List Tb}{t:Nat}(h:t<l.length):((l++m).map Tb.name).getD t default=(l.map Tb.name).getD t default:=by
 rw [List.map_append]
 exact getD_app (by simpa using h)
theorem heads_ok (h:Rt ns S):∀(l:List Nat) (p e:Nat) (a b:Hd),LC S ns.length l p e→(∀x∈l,(nd ns x).kind=2∨(nd ns x).kind=3)→a.tnames=a.tabs.map Tb.name→a.of.length=ns.length→heads ns l a=.ok b→HeadOk ns b.tabs b.of l a.pnames.length∧b.of.length=ns.length∧(∀k,k<p→b.of.getD k 0=a.of.getD k 0)∧∃more,b.tabs=a.tabs++more
 | [],p,e,a,b,hc,_,_,hl,he=>by cases he;exact ⟨trivial,hl,fun _ _=>rfl,[],by simp⟩
 | i::r,p,e,a,b,hc,hk,ht,hl,he=>by
  obtain ⟨rfl,hi,hr⟩:=hc
  have hS:=h.sz.size i hi
  unfold heads at he
  split at he
  · rename_i h2
    obtain ⟨a1,h1,he⟩:=bind_ok he
    obtain ⟨g1,g2,g3,g4,g6,cs,g5⟩:=table_ok h hi h1
    obtain ⟨f1,f2,f3,more,f4⟩:=heads_ok h r _ e a1 b hr (fun x hx=>hk x (by simp [hx])) (by rw [g6,g5,ht];simp) (g1.trans hl) he
    refine ⟨Or.inl ⟨h2,⟨a.tabs.length,?_,?_,?_⟩,by rw [← g4];exact f1⟩,f2,fun k hk2=>(f3 k (by omega)).trans (g2 k (by omega)),[⟨(nd ns i).text,cs⟩]++more,by rw [f4,g5,List.append_assoc]⟩
    · rw [f3 i (by omega),g3 (by omega),ht];simp
    · rw [f4,g5];simp
    · rw [f4,getD_name (by rw [g5];simp),g5]
      simp [List.getD]
  · rename_i h2
    have h3:(nd ns i).kind=3:=(hk i (by simp)).resolve_left h2
    obtain ⟨⟨o1,n1⟩,h1,he⟩:=bind_ok he
    obtain ⟨rfl,rfl⟩:=number_ok h1
    obtain ⟨f1,f2,f3,more,f4⟩:=heads_ok h r _ e _ b hr (fun x hx=>hk x (by simp [hx])) (by exact ht) (by simpa using hl) he
    simp only [List.length_append,List.length_cons,List.length_nil,Nat.zero_add] at f1
    refine ⟨Or.inr ⟨h3,?_,f1⟩,f2,fun k hk2=>(f3 k (by omega)).trans (set_off (by omega)),more,f4⟩
    rw [f3 i (by omega)]
    exact set_get (by omega)
theorem procs_ok (h:Rt ns S):∀(l:List Nat) (p e:Nat) (of of':List Int) (ps ps':List Pr),LC S ns.length l p e→(∀x∈l,(nd ns x).kind=2∨(nd ns x).kind=3)→of.length=ns.length→procs ns tabs l of ps=.ok (of',ps')→ProcsOk ns S tabs of' ps' l ps.length∧of'.length=ns.length∧(∀k,k<p→of'.getD k 0=of.getD k 0)∧(∀r∈l,of'.getD r 0=of.getD r 0)∧∃more,ps'=ps++more
 | [],p,e,of,of',ps,ps',hc,_,hl,he=>by cases he;exact ⟨trivial,hl,fun _ _=>rfl,fun _ _=>rfl,[],by simp⟩
 | i::r,p,e,of,of',ps,ps',hc,hk,hl,he=>by
  obtain ⟨rfl,hi,hr⟩:=hc
  have hS:=h.sz.size i hi
  unfold procs at he
  split at he
  · rename_i h3
    obtain ⟨⟨o1,pr⟩,h1,he⟩:=bind_ok he
    obtain ⟨g1,g2,g3,g4,g5,g6⟩:=proc_ok h hi h3 hl h1
    obtain ⟨f1,f2,f3,f4,more,f5⟩:=procs_ok h r _ e o1 of' (ps++[pr]) ps' hr (fun x hx=>hk x (by simp [hx])) g1 he
    simp only [List.length_append,List.length_cons,List.length_nil,Nat.zero_add] at f1
    refine ⟨Or.inl ⟨h3,⟨pr,?_,g3,g4,g5,fun k hk1 hk2=>?_⟩,f1⟩,f2,fun k hk2=>(f3 k (by omega)).trans (g2 k (by omega)),fun x hx=>?_,[pr]++more,by rw [f5,List.append_assoc]⟩
    · rw [f5];simp
    · obtain ⟨q1,q2,q3⟩:=g6 k hk1 hk2
      have hq:=f3 k (by omega)
      exact ⟨q1,fun e=>by rw [hq];exact q2 e,fun e=>by rw [hq];exact q3 e⟩
    · rcases List.mem_cons.1 hx with rfl|hx
      · exact (f3 x (by omega)).trans (g2 x (by omega))
      · have:=lc_ge h _ _ _ hr x hx
        exact (f4 x hx).trans (g2 x (by omega))
  · rename_i h3
    have h2:(nd ns i).kind=2:=(hk i (by simp)).resolve_right h3
    obtain ⟨f1,f2,f3,f4,more,f5⟩:=procs_ok h r _ e of of' ps ps' hr (fun x hx=>hk x (by simp [hx])) hl he
    refine ⟨Or.inr ⟨h2,f1⟩,f2,fun k hk2=>f3 k (by omega),fun x hx=>?_,more,f5⟩
    rcases List.mem_cons.1 hx with rfl|hx
    · exact f3 x (by omega)
    · exact f4 x hx
theorem head_mono {of of':List Int}:∀(l:List Nat) (c:Nat),HeadOk ns tabs of l c→(∀r∈l,of'.getD r 0=of.getD r 0)→HeadOk ns tabs of' l c
 | [],_,_,_=>trivial
 | r::l,c,h,hq=>by
  have e:=hq r (by simp)
  rcases h with ⟨h1,h2,h3⟩|⟨h1,h2,h3⟩
  · exact Or.inl ⟨h1,by rw [e];exact h2,head_mono l c h3 (fun x hx=>hq x (by simp [hx]))⟩
  · exact Or.inr ⟨h1,by rw [e];exact h2,head_mono l _ h3 (fun x hx=>hq x (by simp [hx]))⟩
theorem in_const {of:List Int}{r:Nat}(h3:(nd ns r).kind=3):∀d,(∀k,r<k→k<r+1+d→(nd ns k).kind≠3)→inAt ns of (r+1+d)=of.getD r 0
 | 0,_=>by simp [inAt,h3]
 | d+1,hn=>by
  rw [show r+1+(d+1)=(r+1+d)+1 by omega]
  unfold inAt
  rw [if_neg (hn _ (by omega) (by omega))]
  exact in_const h3 d (fun k h1 h2=>hn k h1 (by omega))
theorem all_num (h:Rt ns S){of:List Int}{ps:List Pr}:∀(l:List Nat) (p e c:Nat),LC S ns.length l p e→HeadOk ns tabs of l c→ProcsOk ns S tabs of ps l c→∀i,p≤i→i<e→NumAt ns tabs ps of i
 | [],p,e,c,hc,_,_,i,h1,h2=>by
  have:p=e:=hc
  omega
 | r::l,p,e,c,hc,hh,hp,i,h1,h2=>by
  obtain ⟨rfl,hi,hr⟩:=hc
  have hS:=h.sz.size r hi
  rcases hh with ⟨h2k,ht,hh⟩|⟨h3k,ht,hh⟩
  · have hp:ProcsOk ns S tabs of ps l c:=by
     rcases hp with ⟨h3,_⟩|⟨_,hp⟩
     · omega
     · exact hp
    by_cases hin:i<r+S r
    · by_cases hir:i=r
      · subst hir
        exact ⟨fun e=>by omega,fun _=>ht,fun e=>by unfold VarK at e;omega⟩
      · have h5:=words_all h _ _ _ (h.lc hi) (h.wordKids hi (Or.inl h2k)) i (by omega) hin
        exact ⟨fun e=>by omega,fun e=>by omega,fun e=>by unfold VarK at e;omega⟩
    · exact all_num h l _ e c hr hh hp i (by omega) h2
  · obtain ⟨pr,hpr,hp1,hp2,hp3,hp4,hp⟩:∃pr:Pr,ps[c]?=some pr∧pr.name=(nd ns r).text∧pr.root=r∧pr.vars.length≤64∧(∀k,r<k→k<r+S r→GV ns tabs pr.vars of k)∧ProcsOk ns S tabs of ps l (c+1):=by
     rcases hp with ⟨_,⟨pr,a,b,c,d,f⟩,hp⟩|⟨h2,_⟩
     · exact ⟨pr,a,b,c,d,f,hp⟩
     · omega
    by_cases hin:i<r+S r
    · by_cases hir:i=r
      · subst hir
        exact ⟨fun _=>⟨c,pr,ht,hpr,hp1,hp2⟩,fun e=>by omega,fun e=>by unfold VarK at e;omega⟩
      · obtain ⟨q1,q2,q3⟩:=hp4 i (by omega) hin
        refine ⟨fun e=>by omega,fun e=>q2 (by omega),fun e=>?_⟩
        obtain ⟨m,m1,m2,m3⟩:=q3 e
        refine ⟨c,m,pr,?_,hpr,m1,m2,hp3,m3⟩
        have hic:=in_const (of:=of) h3k (i-r-1) (fun k a b=>by
         have:=(hp4 k a (by omega)).1
         omega)
        rw [show r+1+(i-r-1)=i by omega] at hic
        rw [hic,ht]
    · exact all_num h l _ e _ hr hh hp i (by omega) h2
theorem whole_num (h:Rt ns S){tabs:List Tb}{ps:List Pr}{of:List Int}(he:whole ns=.ok (tabs,ps,of)):of.length=ns.length∧∀i,i<ns.length→NumAt ns tabs ps of i:=by
 have h0:=h.pos
 have hlc:=h.lc h0
 have hkk:∀x∈(nd ns 0).kids.map Int.toNat,(nd ns x).kind=2∨(nd ns x).kind=3:=by
  intro x hx
  obtain ⟨k,hk2,rfl⟩:=List.mem_map.1 hx
  refine h.kidKinds h0 (fun k=>k=2∨k=3) (fun j hj=>?_) k hk2
  have hs:=h.shape 0 h0
  rw [h.root] at hs
  have hs:(kindsOf ns (nd ns 0)).all (fun k=>k==2||k==3)=true:=by simpa [kidsR] using hs
  have:=List.all_eq_true.1 hs ((kindsOf ns (nd ns 0)).getD j 0) (by simp [List.getD,hj])
  simpa using this
 unfold whole at he
 obtain ⟨hd,h1,he⟩:=bind_ok he
 obtain ⟨⟨o2,p2⟩,h2,he⟩:=bind_ok he
 cases he
 obtain ⟨a1,a2,_,_⟩:=heads_ok h _ _ _ _ _ hlc hkk (by rfl) (by simp) h1
 obtain ⟨b1,b2,_,b4,_⟩:=procs_ok h _ _ _ _ _ _ _ hlc hkk a2 h2
 refine ⟨b2,fun i hi=>?_⟩
 by_cases hz:i=0
 · subst hz
   have hr:=h.root
   exact ⟨fun e=>by omega,fun e=>by omega,fun e=>by unfold VarK at e;omega⟩
 · exact all_num h _ _ _ _ hlc (head_mono _ _ a1 b4) b1 i (by omega) (by rw [h.s0];omega)
end
end Nm
end Go.Proofs.YthdioipfdbbmmaaGreatDoor
