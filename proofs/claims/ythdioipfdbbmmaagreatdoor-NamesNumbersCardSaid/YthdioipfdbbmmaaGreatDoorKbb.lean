/- Contracts. -/
import Derived.Test.YthdioipfdbbmmaaGreatDoorKah
import Derived.Test.YthdioipfdbbmmaaGreatDoorKba
import Derived.Deep.RegionHeld3
import Derived.Deep.RegionWith
import Derived.WalkSmall
set_option linter.all false
set_option maxRecDepth 1000000
set_option maxHeartbeats 16000000
namespace Go.Proofs.YthdioipfdbbmmaaGreatDoor
section
open Go.RowKit
open Par (Less many many_err many_done many_more)
section
variable {E:Env}{v:Value}{kvs:List Value}{md:List Nd}{r:Nat}{l:List PT}{w:World}
theorem put_at (h:PS E v kvs md r l w)(p:Nat):Calls Tryz.prog 118 #[.pointer (some ⟨E.b,0,none⟩),.int .i64 (p:Int)] w (PostE E (putP r p l) fun a l'=>OkA E v kvs md r w a l'):=by
 have hr64:=h.r64
 have RM:=lh h.room
 have S1:=lh (St.start h)
 have hnot:=nt
 clear h
 go_enter Tryz.func118,Tryz.ntmps118
 have C2:=lh (row_at S1.out.ps)
 go_wp2_with fail
 (with_reducible refine C2.out.mono ?_)
 rintro e w3 hP
 clear C2
 cases hx:rowP r l with
 | err pe ce =>
  obtain ⟨rfl,HB⟩:=pE hx hP
  replace hx:=lh hx
  go_wp2
  exact ⟨rfl,of_err (by simp only [putP,nodeA,Par.bind,hx.out]) HB.out⟩
 | ok a l1 =>
  rw [hx] at hP
  have X4:=lh hx
  obtain ⟨v3,n3,rfl,S,T⟩:=S1.out.ast (ts':=[a]) hP rfl
  clear hP hx
  have S5:=lh (S)
  clear S T S1
  have R6:=lh (Rw.lit S5.out (q:=w3.heap.size) (by first|rfl|simp [World.setCell]) (ks:=roots md.length [a]) (cs:=#[.int .i64 (rootI (md.length+sizeL []) a)]) (m:=1) (by simp [roots,rootI,sizeL]<;>omega) (by simp [roots]) (by omega))
  have S7:=lh (S5.out.alloc (.cells #[.int .i64 (rootI (md.length+sizeL []) a)] 3))
  clear S5
  have C8:=lh (expect_at S7.out.ps ⟨#[40]⟩ (by decide))
  go_wp2_with fail
  (with_reducible refine C8.out.mono ?_)
  rintro e w9 hP
  clear C8
  cases hx:expectP ⟨#[40]⟩ l1 with
  | err pe ce =>
   obtain ⟨rfl,HB⟩:=pE hx hP
   replace hx:=lh hx
   go_wp2
   exact ⟨rfl,of_err (by simp only [putP,nodeA,Par.bind,X4.out,hx.out]) HB.out⟩
  | ok p2 l2 =>
   rw [hx] at hP
   have X10:=lh hx
   obtain ⟨rfl,hs,hf⟩:=hP
   obtain ⟨S,T⟩:=S7.out.same hs hf
   clear hs hf hx
   have R11:=lh (R6.out.tr T)
   have S12:=lh (S)
   clear S T S7 R6
   have C13:=lh (exprR_at S12.out.ps)
   go_wp2_with fail
   (with_reducible refine C13.out.mono ?_)
   rintro e w14 hP
   clear C13
   cases hx:exprR r l2 with
   | err pe ce =>
    obtain ⟨rfl,HB⟩:=pE hx hP
    replace hx:=lh hx
    go_wp2
    exact ⟨rfl,of_err (by simp only [putP,nodeA,Par.bind,X4.out,X10.out,hx.out]) HB.out⟩
   | ok b l3 =>
    rw [hx] at hP
    have X15:=lh hx
    obtain ⟨v14,n14,rfl,S,T⟩:=S12.out.ast (ts':=[a,b]) hP rfl
    clear hP hx
    have R16:=lh (R11.out.tr T)
    have S17:=lh (S)
    clear S T S12 R11
    obtain ⟨i0,hi,hz0,hz1,hz2⟩:=info_partsP infoInt
    have I0:=lh hi
    have I1:=lh hz0
    have I2:=lh hz1
    have I3:=lh hz2
    clear hi hz0 hz1 hz2
    have hk:(roots md.length [a]).length≤70000:=by rw [roots_length];simp
    have R18:=lh (R16.out.alloc (.cells #[.int .i64 (rootI (md.length+sizeL [a]) b)] 3))
    have S19:=lh (S17.out.alloc (.cells #[.int .i64 (rootI (md.length+sizeL [a]) b)] 3))
    have hbb:Hid (w.heap.size≤(w14.alloc (.cells #[.int .i64 (rootI (md.length+sizeL [a]) b)] 3)).heap.size):=lh (by have h7:=S19.out.fr.size;simp only [World.size_alloc] at *;omega)
    clear R16 S17
    go_wp2_with (at_builtin;refine wpList_append_lies _ rfl (.tmp 11) (.tmp 14) 32 rfl (E.b+1) 3 i0 _ 1 8 Tryz.underlying32 I0.out I1.out I2.out I3.out rfl (by decide) (.slice (some ⟨w3.heap.size,0,none⟩) 1 1) (roots md.length [a]).length ((roots md.length [a]).map (Value.int .i64)) rfl R18.out.own ⟨w14.heap.size,0,none⟩ 1 1 [.int .i64 (rootI (md.length+sizeL [a]) b)] rfl rfl (World.news_of_block (cs:=#[.int .i64 (rootI (md.length+sizeL [a]) b)]) (t:=3) (fr:=(0,0)) (heap_alloc_new _ _)) (by simp [Value.oneCell']) (by decide) (by unfold maxLen;omega) (by omega) S19.out.ps.lt _ rfl ?_;intro g5 cap5 w5 hown5 hgrow5 hat5 hlt5)
    have R5:Hid (Rw E v14 (kvs++n14) (w.heap.size) (.slice (some ⟨g5,0,none⟩) ((roots md.length [a]).length+1) cap5) (roots md.length [a,b]) w5):=lh (by rw [show [a,b]=[a]++[b] from rfl,roots_snoc];exact R18.out.push hbb.out S19.out.ps.fresh hown5 rfl rfl hat5 rfl)
    have S5:=lh (S19.out.grown R18.out (Nat.le_refl _) hgrow5)
    clear hown5 hgrow5 hat5 hlt5 hbb R18 S19
    go_wp2_with fail
    go_loopw [5] (fun kvL wr=>∃(ts:List Ast) (lk:List PT) (vk:Value) (nk:List Value),Hid (St E v kvs md w ts r lk vk nk wr)∧Hid (Rw E vk (kvs++nk) (w.heap.size) kvL (roots md.length ts) wr)∧Hid (many (putStep r) [a,b] l3=many (putStep r) ts lk)) (fun _ wr=>E.toks.length-nextOf E wr)
    case atStart=>exact ⟨[a,b],l3,_,_,S5,R5,lh rfl⟩
    case round =>
     obtain ⟨ts,lk,vk,nk,S0,R0,HM⟩:=hrel
     have hleft:=lh S0.out.ps.left
     clear S5 R5
     have C20:=lh (skip_at S0.out.ps ⟨#[44]⟩ (by decide))
     go_wp2_with fail
     (with_reducible refine C20.out.mono ?_)
     rintro e w21 hP
     clear C20
     cases hx:skipP ⟨#[44]⟩ lk with
     | err pe ce =>
      rw [hx] at hP
      obtain ⟨rfl,hb⟩:=hP
      have HB:=lh hb
      have HX:many (putStep r) [a,b] l3=.err pe ce:=by rw [HM.out];exact many_err (by simp only [putStep,Par.bind,hx])
      have HR:Hid (putP r p l=.err pe ce):=lh (by simp only [putP,nodeA,Par.bind,X4.out,X10.out,X15.out,HX])
      clear hb hx HX
      go_wp2
      exact ⟨rfl,of_err HR.out HB.out⟩
     | ok u l21 =>
      rw [hx] at hP
      cases u with
      | true =>
       have X22:=lh hx
       obtain ⟨rfl,hs,hf2⟩:=hP
       obtain ⟨S,T⟩:=S0.out.same hs hf2
       clear hs hf2 hx
       have R23:=lh (R0.out.tr T)
       have S24:=lh (S)
       clear S T S0 R0
       have C25:=lh (exprR_at S24.out.ps)
       go_wp2_with fail
       (with_reducible refine C25.out.mono ?_)
       rintro e w26 hP
       clear C25
       cases hx:exprR r l21 with
       | err pe ce =>
        rw [hx] at hP
        obtain ⟨rfl,hb⟩:=hP
        have HB:=lh hb
        have HX:many (putStep r) [a,b] l3=.err pe ce:=by rw [HM.out];exact many_err (by simp only [putStep,Par.bind,X22.out,hx])
        have HR:Hid (putP r p l=.err pe ce):=lh (by simp only [putP,nodeA,Par.bind,X4.out,X10.out,X15.out,HX])
        clear hb hx HX
        go_wp2
        exact ⟨rfl,of_err HR.out HB.out⟩
       | ok bq l26 =>
        rw [hx] at hP
        obtain ⟨v26,n26,rfl,S,T⟩:=S24.out.ast (ts':=ts++[bq]) hP rfl
        have HM2:Hid (many (putStep r) [a,b] l3=many (putStep r) (ts++[bq]) l26):=lh (by rw [HM.out];exact many_more (step_put r) (by simp only [putStep,Par.bind,Par.pure,X22.out,hx]))
        have hq:l26.length<lk.length:=by
         have h5:(putStep r) ts lk=.ok (some (ts++[bq])) l26:=by simp only [putStep,Par.bind,Par.pure,X22.out,hx]
         exact ((step_put r) _ _ _ _ h5).1 rfl
        clear hP hx
        have R27:=lh (R23.out.tr T)
        have S28:=lh (S)
        clear S T S24 R23
        have hk:(roots md.length ts).length≤70000:=by have h6:=S28.out.ps.room;rw [List.length_append,postL_length,sizeL_append] at h6;rw [roots_length];have:=length_le_sizeL ts;omega
        have R29:=lh (R27.out.alloc (.cells #[.int .i64 (rootI (md.length+sizeL ts) bq)] 3))
        have S30:=lh (S28.out.alloc (.cells #[.int .i64 (rootI (md.length+sizeL ts) bq)] 3))
        have hbb:Hid (w.heap.size≤(w26.alloc (.cells #[.int .i64 (rootI (md.length+sizeL ts) bq)] 3)).heap.size):=lh (by have h7:=S30.out.fr.size;simp only [World.size_alloc] at *;omega)
        clear R27 S28
        go_wp2_with (at_builtin;refine wpList_append_lies _ rfl (.tmp 18) (.tmp 21) 32 rfl (E.b+1) 3 i0 _ 1 8 Tryz.underlying32 I0.out I1.out I2.out I3.out rfl (by decide) u5 (roots md.length ts).length ((roots md.length ts).map (Value.int .i64)) rfl R29.out.own ⟨w26.heap.size,0,none⟩ 1 1 [.int .i64 (rootI (md.length+sizeL ts) bq)] rfl rfl (World.news_of_block (cs:=#[.int .i64 (rootI (md.length+sizeL ts) bq)]) (t:=3) (fr:=(0,0)) (heap_alloc_new _ _)) (by simp [Value.oneCell']) (by decide) (by unfold maxLen;omega) (by omega) S30.out.ps.lt _ rfl ?_;intro g5 cap5 w5 hown5 hgrow5 hat5 hlt5)
        have R5:Hid (Rw E v26 (kvs++n26) (w.heap.size) (.slice (some ⟨g5,0,none⟩) ((roots md.length ts).length+1) cap5) (roots md.length (ts++[bq])) w5):=lh (by rw [roots_snoc];exact R29.out.push hbb.out S30.out.ps.fresh hown5 rfl rfl hat5 rfl)
        have S5:=lh (S30.out.grown R29.out (Nat.le_refl _) hgrow5)
        have hl3:=lh S5.out.ps.left
        clear hown5 hgrow5 hat5 hlt5 R29 S30
        go_wp2
        go_roundw
        case rel=>exact ⟨_,_,_,_,S5,R5,HM2⟩
        case measure=>have h1:=hleft.out;have h2:=hl3.out;show E.toks.length-nextOf E _<E.toks.length-nextOf E wr;omega
      | false =>
       have X22:=lh hx
       obtain ⟨rfl,hs,hf2⟩:=hP
       obtain ⟨S,T⟩:=S0.out.same hs hf2
       clear hs hf2 hx
       have R23:=lh (R0.out.tr T)
       have S24:=lh (S)
       clear S T S0 R0
       have HX:Hid (many (putStep r) [a,b] l3=.ok ts l21):=lh (by rw [HM.out];exact many_done (by simp only [putStep,Par.bind,Par.pure,X22.out]))
       clear HM
       have C25:=lh (expect_at S24.out.ps ⟨#[41]⟩ (by decide))
       go_wp2_with fail
       (with_reducible refine C25.out.mono ?_)
       rintro e w26 hP
       clear C25
       cases hx:expectP ⟨#[41]⟩ l21 with
       | err pe ce =>
        obtain ⟨rfl,HB⟩:=pE hx hP
        replace hx:=lh hx
        go_wp2
        exact ⟨rfl,of_err (by simp only [putP,nodeA,Par.bind,X4.out,X10.out,X15.out,HX.out,hx.out]) HB.out⟩
       | ok p6 l6 =>
        rw [hx] at hP
        have X27:=lh hx
        obtain ⟨rfl,hs,hf⟩:=hP
        obtain ⟨S,T⟩:=S24.out.same hs hf
        clear hs hf hx
        have R28:=lh (R23.out.tr T)
        have S29:=lh (S)
        clear S T S24 R23
        have C30:=lh (end_at (k:=9) (p:=p) (t:=none0) (nn:=0) (kz:=.slice none 0 0) S29.out R28.out rfl)
        go_wp2_with fail
        (with_reducible refine C30.out.mono ?_)
        rintro e wf hP
        have HR:putP r p l=endP (.mk 9 p none0 0 ts) l6:=by simp only [putP,nodeA,Par.bind,X4.out,X10.out,X15.out,HX.out,X27.out]
        rw [← HR] at hP
        have hfin:=lh hP
        rcases post_form hP with ⟨z,rfl⟩|⟨ch,rfl⟩
        · clear hP HR C30
          go_wp2
          go_ret
          exact hfin.out
        · clear hP HR C30
          go_wp2
          exact ⟨rfl,hfin.out⟩
theorem table_at (h:PS E v kvs md r l w):Calls Tryz.prog 131 #[.pointer (some ⟨E.b,0,none⟩)] w (PostE E (tableP l) fun a l'=>OkA E v kvs md r w a l'):=by
 have hr64:=h.r64
 have RM:=lh h.room
 have S1:=lh (St.start h)
 have fl3:=tok_f3
 have hnot:=nt
 clear h
 go_enter Tryz.func131,Tryz.ntmps131
 have C2:=lh (expect_at S1.out.ps ⟨#[116,97,98,108,101]⟩ (by decide))
 go_wp2_with fail
 (with_reducible refine C2.out.mono ?_)
 rintro e w3 hP
 clear C2
 cases hx:expectP ⟨#[116,97,98,108,101]⟩ l with
 | err pe ce =>
  obtain ⟨rfl,HB⟩:=pE hx hP
  replace hx:=lh hx
  go_wp2
  exact ⟨rfl,of_err (by simp only [tableP,Par.bind,hx.out]) HB.out⟩
 | ok p l1 =>
  rw [hx] at hP
  have X4:=lh hx
  obtain ⟨rfl,hs,hf⟩:=hP
  obtain ⟨S,T⟩:=S1.out.same hs hf
  clear hs hf hx
  have S5:=lh (S)
  clear S T S1
  have S6:=lh (S5.out.alloc (.cells #[.int .u8 2,.int .i64 (p:Int),.string ⟨#[]⟩,.int .i64 0,.slice none 0 0] 54))
  have Q7:Hid (w.heap.size≤w3.heap.size):=lh S5.out.fr.size
  have L8:=lh (Lcl.new S5.out.ps (.cells #[.int .u8 2,.int .i64 (p:Int),.string ⟨#[]⟩,.int .i64 0,.slice none 0 0] 54))
  clear S5
  have C9:=lh (take_at S6.out.ps 1 (by decide))
  go_wp2_with fail
  (with_reducible refine C9.out.mono ?_)
  rintro e w10 hP
  clear C9
  cases hx:takeP 1 l1 with
  | err pe ce =>
   obtain ⟨rfl,HB⟩:=pE hx hP
   replace hx:=lh hx
   go_wp2
   exact ⟨rfl,of_err (by simp only [tableP,Par.bind,X4.out,hx.out]) HB.out⟩
  | ok t l2 =>
   rw [hx] at hP
   have X11:=lh hx
   obtain ⟨sp,rfl,hs,hf⟩:=hP
   obtain ⟨S,T⟩:=S6.out.same hs hf
   clear hs hf hx
   simp only [tokA]
   have L12:=lh (L8.out.tr T)
   have S13:=lh (S)
   clear S T S6 L8
   have c14:=L12.out.cell 0 rfl
   have c15:=L12.out.cell 1 rfl
   have c16:=L12.out.cell 2 rfl
   have c17:=L12.out.cell 3 rfl
   have c18:=L12.out.cell 4 rfl
   have z19:=L12.out.fz
   have S20:=lh (S13.out.set (a:=⟨w3.heap.size,2,none⟩) L12.out.loc Q7.out (.string t.txt))
   have L21:=lh (L12.out.set 2 (.string t.txt))
   clear S13 L12
   have C22:=lh (expect_at S20.out.ps ⟨#[40]⟩ (by decide))
   go_wp2_with fail
   clear c14 c15 c16 c17 c18 z19
   (with_reducible refine C22.out.mono ?_)
   rintro e w23 hP
   clear C22
   cases hx:expectP ⟨#[40]⟩ l2 with
   | err pe ce =>
    obtain ⟨rfl,HB⟩:=pE hx hP
    replace hx:=lh hx
    go_wp2
    exact ⟨rfl,of_err (by simp only [tableP,Par.bind,X4.out,X11.out,hx.out]) HB.out⟩
   | ok p3 l3 =>
    rw [hx] at hP
    have X24:=lh hx
    obtain ⟨rfl,hs,hf⟩:=hP
    obtain ⟨S,T⟩:=S20.out.same hs hf
    clear hs hf hx
    have L25:=lh (L21.out.tr T)
    have S26:=lh (S)
    clear S T S20 L21
    have c27:=L25.out.cell 0 rfl
    have c28:=L25.out.cell 1 rfl
    have c29:=L25.out.cell 2 rfl
    have c30:=L25.out.cell 3 rfl
    have c31:=L25.out.cell 4 rfl
    have z32:=L25.out.fz
    have C33:=lh (words_at S26.out.ps)
    go_wp2_with fail
    clear c27 c28 c29 c30 c31 z32
    (with_reducible refine C33.out.mono ?_)
    rintro e w34 hP
    clear C33
    cases hx:wordsP l3 with
    | err pe ce =>
     obtain ⟨rfl,HB⟩:=pE hx hP
     replace hx:=lh hx
     go_wp2
     exact ⟨rfl,of_err (by simp only [tableP,Par.bind,X4.out,X11.out,X24.out,hx.out]) HB.out⟩
    | ok ts l4 =>
     rw [hx] at hP
     have X35:=lh hx
     obtain ⟨v34,n34,kv34,rfl,S,T,RR⟩:=S26.out.list hP
     have RL:=lh (RR.mono (S26.out.fr.size))
     clear hP hx RR
     have L36:=lh (L25.out.tr T)
     have S37:=lh (S)
     clear S T S26 L25
     have c38:=L36.out.cell 0 rfl
     have c39:=L36.out.cell 1 rfl
     have c40:=L36.out.cell 2 rfl
     have c41:=L36.out.cell 3 rfl
     have c42:=L36.out.cell 4 rfl
     have z43:=L36.out.fz
     have C44:=lh (expect_at S37.out.ps ⟨#[41]⟩ (by decide))
     go_wp2_with fail
     clear c38 c39 c40 c41 c42 z43
     (with_reducible refine C44.out.mono ?_)
     rintro e w45 hP
     clear C44
     cases hx:expectP ⟨#[41]⟩ l4 with
     | err pe ce =>
      obtain ⟨rfl,HB⟩:=pE hx hP
      replace hx:=lh hx
      go_wp2
      exact ⟨rfl,of_err (by simp only [tableP,Par.bind,X4.out,X11.out,X24.out,X35.out,hx.out]) HB.out⟩
     | ok p5 l5 =>
      rw [hx] at hP
      have X46:=lh hx
      obtain ⟨rfl,hs,hf⟩:=hP
      obtain ⟨S,T⟩:=S37.out.same hs hf
      clear hs hf hx
      have L47:=lh (L36.out.tr T)
      have R48:=lh (RL.out.tr T)
      have S49:=lh (S)
      clear S T S37 L36 RL
      have c50:=L47.out.cell 0 rfl
      have c51:=L47.out.cell 1 rfl
      have c52:=L47.out.cell 2 rfl
      have c53:=L47.out.cell 3 rfl
      have c54:=L47.out.cell 4 rfl
      have z55:=L47.out.fz
      have C56:=lh (end_at (k:=2) (p:=p) (t:=t.txt) (nn:=0) (kz:=.slice none 0 0) S49.out R48.out rfl)
      go_wp2_with fail
      clear c50 c51 c52 c53 c54 z55
      (with_reducible refine C56.out.mono ?_)
      rintro e wf hP
      have HR:tableP l=endP (.mk 2 p t.txt 0 ts) l5:=by simp only [tableP,Par.bind,X4.out,X11.out,X24.out,X35.out,X46.out]
      rw [← HR] at hP
      have hfin:=lh hP
      rcases post_form hP with ⟨z,rfl⟩|⟨ch,rfl⟩
      · clear hP HR C56
        go_wp2
        go_ret
        exact hfin.out
      · clear hP HR C56
        go_wp2
        exact ⟨rfl,hfin.out⟩
theorem for_at (h:PS E v kvs md r l w)(p:Nat){B:Par Ast}(hB:∀v kvs md l w,PS E v kvs md r l w→Calls Tryz.prog 203 #[.pointer (some ⟨E.b,0,none⟩)] w (PostE E (B l) fun a l'=>OkA E v kvs md r w a l'))(hszB:∀c,Sz c B (fun a=>a.size+c))(hroom1:md.length+1+l.length≤70000):Calls Tryz.prog 124 #[.pointer (some ⟨E.b,0,none⟩),.int .i64 (p:Int)] w (PostE E (forP B p l) fun a l'=>OkA E v kvs md r w a l'):=by
 have HBB:=lh @hB
 clear hB
 have hr64:=h.r64
 have RM:=lh h.room
 have S1:=lh (St.start h)
 have hnot:=nt
 clear h
 go_enter Tryz.func124,Tryz.ntmps124
 have C2:=lh (named_at S1.out.ps 15 p)
 go_wp2_with fail
 (with_reducible refine C2.out.mono ?_)
 rintro e w3 hP
 clear C2
 cases hx:takeP 1 l with
 | err pe ce =>
  obtain ⟨rfl,HB⟩:=pE hx hP
  replace hx:=lh hx
  go_wp2
  exact ⟨rfl,of_err (by simp only [forP,Par.bind,hx.out]) HB.out⟩
 | ok t l1 =>
  rw [hx] at hP
  have X4:=lh hx
  obtain ⟨rfl,hs,hf⟩:=hP
  obtain ⟨S,T⟩:=S1.out.same hs hf
  clear hs hf hx
  have S5:=lh (S)
  clear S T S1
  have S6:=lh (S5.out.alloc (.cells #[.int .u8 15,.int .i64 (p:Int),.string t.txt,.int .i64 0,.slice none 0 0] 54))
  have Q7:Hid (w.heap.size≤w3.heap.size):=lh S5.out.fr.size
  have L8:=lh (Lcl.new S5.out.ps (.cells #[.int .u8 15,.int .i64 (p:Int),.string t.txt,.int .i64 0,.slice none 0 0] 54))
  clear S5
  have C9:=lh (expect_at S6.out.ps ⟨#[61]⟩ (by decide))
  go_wp2_with fail
  (with_reducible refine C9.out.mono ?_)
  rintro e w10 hP
  clear C9
  cases hx:expectP ⟨#[61]⟩ l1 with
  | err pe ce =>
   obtain ⟨rfl,HB⟩:=pE hx hP
   replace hx:=lh hx
   go_wp2
   exact ⟨rfl,of_err (by simp only [forP,Par.bind,X4.out,hx.out]) HB.out⟩
  | ok p2 l2 =>
   rw [hx] at hP
   have X11:=lh hx
   obtain ⟨rfl,hs,hf⟩:=hP
   obtain ⟨S,T⟩:=S6.out.same hs hf
   clear hs hf hx
   have L12:=lh (L8.out.tr T)
   have S13:=lh (S)
   clear S T S6 L8
   have c14:=L12.out.cell 0 rfl
   have c15:=L12.out.cell 1 rfl
   have c16:=L12.out.cell 2 rfl
   have c17:=L12.out.cell 3 rfl
   have c18:=L12.out.cell 4 rfl
   have z19:=L12.out.fz
   have C20:=lh (number_at S13.out.ps)
   go_wp2_with fail
   clear c14 c15 c16 c17 c18 z19
   (with_reducible refine C20.out.mono ?_)
   rintro e w21 hP
   clear C20
   cases hx:numberP l2 with
   | err pe ce =>
    obtain ⟨rfl,HB⟩:=pE hx hP
    replace hx:=lh hx
    go_wp2
    exact ⟨rfl,of_err (by simp only [forP,Par.bind,X4.out,X11.out,hx.out]) HB.out⟩
   | ok a l3 =>
    rw [hx] at hP
    have X22:=lh hx
    obtain ⟨v21,n21,rfl,S,T⟩:=S13.out.ast (ts':=[a]) hP rfl
    clear hP hx
    have L23:=lh (L12.out.tr T)
    have S24:=lh (S)
    clear S T S13 L12
    have c25:=L23.out.cell 0 rfl
    have c26:=L23.out.cell 1 rfl
    have c27:=L23.out.cell 2 rfl
    have c28:=L23.out.cell 3 rfl
    have c29:=L23.out.cell 4 rfl
    have z30:=L23.out.fz
    have C31:=lh (expect_at S24.out.ps ⟨#[116,111]⟩ (by decide))
    go_wp2_with fail
    clear c25 c26 c27 c28 c29 z30
    (with_reducible refine C31.out.mono ?_)
    rintro e w32 hP
    clear C31
    cases hx:expectP ⟨#[116,111]⟩ l3 with
    | err pe ce =>
     obtain ⟨rfl,HB⟩:=pE hx hP
     replace hx:=lh hx
     go_wp2
     exact ⟨rfl,of_err (by simp only [forP,Par.bind,X4.out,X11.out,X22.out,hx.out]) HB.out⟩
    | ok p4 l4 =>
     rw [hx] at hP
     have X33:=lh hx
     obtain ⟨rfl,hs,hf⟩:=hP
     obtain ⟨S,T⟩:=S24.out.same hs hf
     clear hs hf hx
     have L34:=lh (L23.out.tr T)
     have S35:=lh (S)
     clear S T S24 L23
     have c36:=L34.out.cell 0 rfl
     have c37:=L34.out.cell 1 rfl
     have c38:=L34.out.cell 2 rfl
     have c39:=L34.out.cell 3 rfl
     have c40:=L34.out.cell 4 rfl
     have z41:=L34.out.fz
     have C42:=lh (number_at S35.out.ps)
     go_wp2_with fail
     clear c36 c37 c38 c39 c40 z41
     (with_reducible refine C42.out.mono ?_)
     rintro e w43 hP
     clear C42
     cases hx:numberP l4 with
     | err pe ce =>
      obtain ⟨rfl,HB⟩:=pE hx hP
      replace hx:=lh hx
      go_wp2
      exact ⟨rfl,of_err (by simp only [forP,Par.bind,X4.out,X11.out,X22.out,X33.out,hx.out]) HB.out⟩
     | ok b l5 =>
      rw [hx] at hP
      have X44:=lh hx
      obtain ⟨v43,n43,rfl,S,T⟩:=S35.out.ast (ts':=[a,b]) hP rfl
      clear hP hx
      have L45:=lh (L34.out.tr T)
      have S46:=lh (S)
      clear S T S35 L34
      have c47:=L45.out.cell 0 rfl
      have c48:=L45.out.cell 1 rfl
      have c49:=L45.out.cell 2 rfl
      have c50:=L45.out.cell 3 rfl
      have c51:=L45.out.cell 4 rfl
      have z52:=L45.out.fz
      have C53:=lh (HBB.out _ _ _ _ _ S46.out.ps)
      go_wp2_with fail
      clear c47 c48 c49 c50 c51 z52
      (with_reducible refine C53.out.mono ?_)
      rintro e w54 hP
      clear C53
      cases hx:B l5 with
      | err pe ce =>
       obtain ⟨rfl,HB⟩:=pE hx hP
       replace hx:=lh hx
       go_wp2
       exact ⟨rfl,of_err (by simp only [forP,Par.bind,X4.out,X11.out,X22.out,X33.out,X44.out,hx.out]) HB.out⟩
      | ok c l6 =>
       rw [hx] at hP
       have X55:=lh hx
       obtain ⟨v54,n54,rfl,S,T⟩:=S46.out.ast (ts':=[a,b,c]) hP rfl
       clear hP hx
       have L56:=lh (L45.out.tr T)
       have S57:=lh (S)
       clear S T S46 L45
       have c58:=L56.out.cell 0 rfl
       have c59:=L56.out.cell 1 rfl
       have c60:=L56.out.cell 2 rfl
       have c61:=L56.out.cell 3 rfl
       have c62:=L56.out.cell 4 rfl
       have z63:=L56.out.fz
       have HR:Hid (forP B p l=.ok (.mk 15 p t.txt 0 [a,b,c]) l6):=lh (by simp only [forP,Par.bind,Par.pure,X4.out,X11.out,X22.out,X33.out,X44.out,X55.out])
       have R64:=lh (Rw.lit S57.out (q:=w54.heap.size) (by first|rfl|simp [World.setCell]) (ks:=roots md.length [a,b,c]) (cs:=#[.int .i64 (rootI (md.length+sizeL []) a),.int .i64 (rootI (md.length+sizeL [a]) b),.int .i64 (rootI (md.length+sizeL [a,b]) c)]) (m:=3) (by simp [roots,rootI,sizeL]<;>omega) (by simp [roots]) (by omega))
       have S65:=lh (S57.out.alloc (.cells #[.int .i64 (rootI (md.length+sizeL []) a),.int .i64 (rootI (md.length+sizeL [a]) b),.int .i64 (rootI (md.length+sizeL [a,b]) c)] 3))
       have L66:=lh (L56.out.alloc (.cells #[.int .i64 (rootI (md.length+sizeL []) a),.int .i64 (rootI (md.length+sizeL [a]) b),.int .i64 (rootI (md.length+sizeL [a,b]) c)] 3))
       clear S57 L56
       have C67:=lh (add_at S65.out.ps (15) ((p:Int)) (0) (t.txt) (.slice none 0 0) (.slice (some ⟨w54.heap.size,0,none⟩) 3 3) (roots md.length [a,b,c]) R64.out.own R64.out.loc (by have h2:=sz_for hszB p 1 (by omega) _ _ _ HR.out;simp only [Ast.size] at h2;rw [List.length_append,postL_length];omega))
       go_wp2_with fail
       clear c58 c59 c60 c61 c62 z63
       (with_reducible refine C67.out.mono ?_)
       rintro e wf hA
       have hO:=lh (S65.out.add (ts:=[a,b,c]) rfl hA R64.out.ge)
       obtain ⟨z,rfl⟩:=hA.int
       clear C67
       go_wp2
       go_ret
       exact of_ok HR.out hO.out
theorem if_at (h:PS E v kvs md r l w)(p:Nat){B:Par Ast}(hB:∀v kvs md l w,PS E v kvs md r l w→Calls Tryz.prog 203 #[.pointer (some ⟨E.b,0,none⟩)] w (PostE E (B l) fun a l'=>OkA E v kvs md r w a l'))(hszB:∀c,Sz c B (fun a=>a.size+c))(hroom1:md.length+1+l.length≤70000):Calls Tryz.prog 123 #[.pointer (some ⟨E.b,0,none⟩),.int .i64 (p:Int)] w (PostE E (ifP r B p l) fun a l'=>OkA E v kvs md r w a l'):=by
 have HBB:=lh @hB
 clear hB
 have hr64:=h.r64
 have RM:=lh h.room
 have S1:=lh (St.start h)
 have hnot:=nt
 clear h
 have S2:=lh (S1.out.alloc (.cells #[.int .u8 14,.int .i64 (p:Int),.string ⟨#[]⟩,.int .i64 0,.slice none 0 0] 54))
 have Q3:Hid (w.heap.size≤w.heap.size):=lh S1.out.fr.size
 have L4:=lh (Lcl.new S1.out.ps (.cells #[.int .u8 14,.int .i64 (p:Int),.string ⟨#[]⟩,.int .i64 0,.slice none 0 0] 54))
 clear S1
 go_enter Tryz.func123,Tryz.ntmps123
 have C5:=lh (exprR_at S2.out.ps)
 go_wp2_with fail
 (with_reducible refine C5.out.mono ?_)
 rintro e w6 hP
 clear C5
 cases hx:exprR r l with
 | err pe ce =>
  obtain ⟨rfl,HB⟩:=pE hx hP
  replace hx:=lh hx
  go_wp2
  exact ⟨rfl,of_err (by simp only [ifP,ifTail,Par.bind,hx.out]) HB.out⟩
 | ok a l1 =>
  rw [hx] at hP
  have X7:=lh hx
  obtain ⟨v6,n6,rfl,S,T⟩:=S2.out.ast (ts':=[a]) hP rfl
  clear hP hx
  have L8:=lh (L4.out.tr T)
  have S9:=lh (S)
  clear S T S2 L4
  have c10:=L8.out.cell 0 rfl
  have c11:=L8.out.cell 1 rfl
  have c12:=L8.out.cell 2 rfl
  have c13:=L8.out.cell 3 rfl
  have c14:=L8.out.cell 4 rfl
  have z15:=L8.out.fz
  have C16:=lh (skip_at S9.out.ps ⟨#[61,61]⟩ (by decide))
  go_wp2_with fail
  clear c10 c11 c12 c13 c14 z15
  (with_reducible refine C16.out.mono ?_)
  rintro e w17 hP
  clear C16
  cases hx:skipP ⟨#[61,61]⟩ l1 with
  | err pe ce =>
   obtain ⟨rfl,HB⟩:=pE hx hP
   replace hx:=lh hx
   go_wp2
   exact ⟨rfl,of_err (by simp only [ifP,ifTail,Par.bind,X7.out,hx.out]) HB.out⟩
  | ok u l2 =>
   rw [hx] at hP
   cases u with
   | false =>
    have X18:=lh hx
    obtain ⟨rfl,hs,hf⟩:=hP
    obtain ⟨S,T⟩:=S9.out.same hs hf
    clear hs hf hx
    have L19:=lh (L8.out.tr T)
    have S20:=lh (S)
    clear S T S9 L8
    have c21:=L19.out.cell 0 rfl
    have c22:=L19.out.cell 1 rfl
    have c23:=L19.out.cell 2 rfl
    have c24:=L19.out.cell 3 rfl
    have c25:=L19.out.cell 4 rfl
    have z26:=L19.out.fz
    have C27:=lh (expect_at S20.out.ps ⟨#[60]⟩ (by decide))
    go_wp2_with fail
    clear c21 c22 c23 c24 c25 z26
    (with_reducible refine C27.out.mono ?_)
    rintro e w28 hP
    clear C27
    cases hx:expectP ⟨#[60]⟩ l2 with
    | err pe ce =>
     obtain ⟨rfl,HB⟩:=pE hx hP
     replace hx:=lh hx
     go_wp2
     exact ⟨rfl,of_err (by simp only [ifP,ifTail,Par.bind,X7.out,X18.out,hx.out]) HB.out⟩
    | ok p3 l3 =>
     rw [hx] at hP
     have X29:=lh hx
     obtain ⟨rfl,hs,hf⟩:=hP
     obtain ⟨S,T⟩:=S20.out.same hs hf
     clear hs hf hx
     have L30:=lh (L19.out.tr T)
     have S31:=lh (S)
     clear S T S20 L19
     have c32:=L30.out.cell 0 rfl
     have c33:=L30.out.cell 1 rfl
     have c34:=L30.out.cell 2 rfl
     have c35:=L30.out.cell 3 rfl
     have c36:=L30.out.cell 4 rfl
     have z37:=L30.out.fz
     have C38:=lh (exprR_at S31.out.ps)
     go_wp2_with fail
     clear c32 c33 c34 c35 c36 z37
     (with_reducible refine C38.out.mono ?_)
     rintro e w39 hP
     clear C38
     cases hx:exprR r l3 with
     | err pe ce =>
      obtain ⟨rfl,HB⟩:=pE hx hP
      replace hx:=lh hx
      go_wp2
      exact ⟨rfl,of_err (by simp only [ifP,ifTail,Par.bind,X7.out,X18.out,X29.out,hx.out]) HB.out⟩
     | ok b l4 =>
      rw [hx] at hP
      have X40:=lh hx
      obtain ⟨v39,n39,rfl,S,T⟩:=S31.out.ast (ts':=[a,b]) hP rfl
      clear hP hx
      have L41:=lh (L30.out.tr T)
      have S42:=lh (S)
      clear S T S31 L30
      have c43:=L41.out.cell 0 rfl
      have c44:=L41.out.cell 1 rfl
      have c45:=L41.out.cell 2 rfl
      have c46:=L41.out.cell 3 rfl
      have c47:=L41.out.cell 4 rfl
      have z48:=L41.out.fz
      have C49:=lh (HBB.out _ _ _ _ _ S42.out.ps)
      go_wp2_with fail
      clear c43 c44 c45 c46 c47 z48
      (with_reducible refine C49.out.mono ?_)
      rintro e w50 hP
      clear C49
      cases hx:B l4 with
      | err pe ce =>
       obtain ⟨rfl,HB⟩:=pE hx hP
       replace hx:=lh hx
       go_wp2
       exact ⟨rfl,of_err (by simp only [ifP,ifTail,Par.bind,X7.out,X18.out,X29.out,X40.out,hx.out]) HB.out⟩
      | ok c l5 =>
       rw [hx] at hP
       have X51:=lh hx
       obtain ⟨v50,n50,rfl,S,T⟩:=S42.out.ast (ts':=[a,b,c]) hP rfl
       clear hP hx
       have L52:=lh (L41.out.tr T)
       have S53:=lh (S)
       clear S T S42 L41
       have c54:=L52.out.cell 0 rfl
       have c55:=L52.out.cell 1 rfl
       have c56:=L52.out.cell 2 rfl
       have c57:=L52.out.cell 3 rfl
       have c58:=L52.out.cell 4 rfl
       have z59:=L52.out.fz
       have R60:=lh (Rw.litB S53.out (q:=w50.heap.size) (by first|rfl|simp [World.setCell]) (B:=w.heap.size+1) (by have hlt9:=L52.out.lt;first|omega|(simp only [World.setCell,Array.size_modify] at *;omega)) (ks:=roots md.length [a,b,c]) (cs:=#[.int .i64 (rootI (md.length+sizeL []) a),.int .i64 (rootI (md.length+sizeL [a]) b),.int .i64 (rootI (md.length+sizeL [a,b]) c)]) (m:=3) (by simp [roots,rootI,sizeL]<;>omega) (by simp [roots]) (by omega))
       have S61:=lh (S53.out.alloc (.cells #[.int .i64 (rootI (md.length+sizeL []) a),.int .i64 (rootI (md.length+sizeL [a]) b),.int .i64 (rootI (md.length+sizeL [a,b]) c)] 3))
       have L62:=lh (L52.out.alloc (.cells #[.int .i64 (rootI (md.length+sizeL []) a),.int .i64 (rootI (md.length+sizeL [a]) b),.int .i64 (rootI (md.length+sizeL [a,b]) c)] 3))
       clear S53 L52
       have C63:=lh (skip_at S61.out.ps ⟨#[101,108,115,101]⟩ (by decide))
       go_wp2_with fail
       clear c54 c55 c56 c57 c58 z59
       (with_reducible refine C63.out.mono ?_)
       rintro e w64 hP
       clear C63
       cases hx:skipP ⟨#[101,108,115,101]⟩ l5 with
       | err pe ce =>
        obtain ⟨rfl,HB⟩:=pE hx hP
        replace hx:=lh hx
        go_wp2
        exact ⟨rfl,of_err (by simp only [ifP,ifTail,Par.bind,X7.out,X18.out,X29.out,X40.out,X51.out,hx.out]) HB.out⟩
       | ok u2 l6 =>
        rw [hx] at hP
        cases u2 with
        | false =>
         have X65:=lh hx
         obtain ⟨rfl,hs,hf⟩:=hP
         obtain ⟨S,T⟩:=S61.out.same hs hf
         clear hs hf hx
         have L66:=lh (L62.out.tr T)
         have R67:=lh (R60.out.tr T)
         have S68:=lh (S)
         clear S T S61 L62 R60
         have c69:=L66.out.cell 0 rfl
         have c70:=L66.out.cell 1 rfl
         have c71:=L66.out.cell 2 rfl
         have c72:=L66.out.cell 3 rfl
         have c73:=L66.out.cell 4 rfl
         have z74:=L66.out.fz
         have HR:Hid (ifP r B p l=.ok (.mk 14 p none0 0 [a,b,c]) l6):=lh (by simp only [ifP,ifTail,Par.bind,Par.pure,X7.out,X18.out,X29.out,X40.out,X51.out,X65.out])
         have RM2:=lh (R67.out.mono (B':=w.heap.size) (by have:=Q3.out;omega))
         have C75:=lh (add_at S68.out.ps (14) ((p:Int)) (0) (none0) (.slice none 0 0) (.slice (some ⟨w50.heap.size,0,none⟩) 3 3) (roots md.length [a,b,c]) RM2.out.own RM2.out.loc (by have h2:=sz_if r hszB p 1 (by omega) _ _ _ HR.out;simp only [Ast.size] at h2;rw [List.length_append,postL_length];omega))
         go_wp2_with fail
         clear c69 c70 c71 c72 c73 z74
         (with_reducible refine C75.out.mono ?_)
         rintro e wf hA
         have hO:=lh (S68.out.add (ts:=[a,b,c]) rfl hA RM2.out.ge)
         obtain ⟨z,rfl⟩:=hA.int
         clear C75
         go_wp2
         go_ret
         exact of_ok HR.out hO.out
        | true =>
         have X65:=lh hx
         obtain ⟨rfl,hs,hf⟩:=hP
         obtain ⟨S,T⟩:=S61.out.same hs hf
         clear hs hf hx
         have L66:=lh (L62.out.tr T)
         have R67:=lh (R60.out.tr T)
         have S68:=lh (S)
         clear S T S61 L62 R60
         have c69:=L66.out.cell 0 rfl
         have c70:=L66.out.cell 1 rfl
         have c71:=L66.out.cell 2 rfl
         have c72:=L66.out.cell 3 rfl
         have c73:=L66.out.cell 4 rfl
         have z74:=L66.out.fz
         have C75:=lh (HBB.out _ _ _ _ _ S68.out.ps)
         go_wp2_with fail
         clear c69 c70 c71 c72 c73 z74
         (with_reducible refine C75.out.mono ?_)
         rintro e w76 hP
         clear C75
         cases hx:B l6 with
         | err pe ce =>
          obtain ⟨rfl,HB⟩:=pE hx hP
          replace hx:=lh hx
          go_wp2
          exact ⟨rfl,of_err (by simp only [ifP,ifTail,Par.bind,X7.out,X18.out,X29.out,X40.out,X51.out,X65.out,hx.out]) HB.out⟩
         | ok d l7 =>
          rw [hx] at hP
          have X77:=lh hx
          obtain ⟨v76,n76,rfl,S,T⟩:=S68.out.ast (ts':=[a,b,c,d]) hP rfl
          clear hP hx
          have L78:=lh (L66.out.tr T)
          have R79:=lh (R67.out.tr T)
          have S80:=lh (S)
          clear S T S68 L66 R67
          have c81:=L78.out.cell 0 rfl
          have c82:=L78.out.cell 1 rfl
          have c83:=L78.out.cell 2 rfl
          have c84:=L78.out.cell 3 rfl
          have c85:=L78.out.cell 4 rfl
          have z86:=L78.out.fz
          obtain ⟨i0,hi,hz0,hz1,hz2⟩:=info_partsP infoInt
          have I0:=lh hi
          have I1:=lh hz0
          have I2:=lh hz1
          have I3:=lh hz2
          clear hi hz0 hz1 hz2
          have hk:(roots md.length [a,b,c]).length≤70000:=by rw [roots_length];simp
          have R87:=lh (R79.out.alloc (.cells #[.int .i64 (rootI (md.length+sizeL [a,b,c]) d)] 3))
          have S88:=lh (S80.out.alloc (.cells #[.int .i64 (rootI (md.length+sizeL [a,b,c]) d)] 3))
          have L89:=lh (L78.out.alloc (.cells #[.int .i64 (rootI (md.length+sizeL [a,b,c]) d)] 3))
          clear c81 c82 c83 c84 c85 z86
          have hbb:Hid (w.heap.size+1≤(w76.alloc (.cells #[.int .i64 (rootI (md.length+sizeL [a,b,c]) d)] 3)).heap.size):=lh (by have h7:=S88.out.fr.size;have h8:=L89.out.lt;simp only [World.size_alloc] at *;omega)
          clear R79 S80 L78
          go_wp2_with (at_builtin;refine wpList_append_lies _ rfl (.tmp 27) (.tmp 30) 32 rfl (E.b+1) 3 i0 _ 1 8 Tryz.underlying32 I0.out I1.out I2.out I3.out rfl (by decide) (.slice (some ⟨w50.heap.size,0,none⟩) 3 3) (roots md.length [a,b,c]).length ((roots md.length [a,b,c]).map (Value.int .i64)) rfl R87.out.own ⟨w76.heap.size,0,none⟩ 1 1 [.int .i64 (rootI (md.length+sizeL [a,b,c]) d)] rfl rfl (World.news_of_block (cs:=#[.int .i64 (rootI (md.length+sizeL [a,b,c]) d)]) (t:=3) (fr:=(0,0)) (heap_alloc_new _ _)) (by simp [Value.oneCell']) (by decide) (by unfold maxLen;omega) (by omega) S88.out.ps.lt _ rfl ?_;intro g5 cap5 w5 hown5 hgrow5 hat5 hlt5;have L5:=lh (L89.out.push R87.out (Nat.lt_succ_self _) hgrow5);have c90:=L5.out.cell 0 rfl;have c91:=L5.out.cell 1 rfl;have c92:=L5.out.cell 2 rfl;have c93:=L5.out.cell 3 rfl;have c94:=L5.out.cell 4 rfl;have z95:=L5.out.fz)
          have R5:Hid (Rw E v76 (kvs++n76) (w.heap.size+1) (.slice (some ⟨g5,0,none⟩) ((roots md.length [a,b,c]).length+1) cap5) (roots md.length [a,b,c,d]) w5):=lh (by rw [show [a,b,c,d]=[a,b,c]++[d] from rfl,roots_snoc];exact R87.out.push hbb.out S88.out.ps.fresh hown5 rfl rfl hat5 rfl)
          have S5:=lh (S88.out.grown R87.out (by have:=Q3.out;omega) hgrow5)
          clear hown5 hgrow5 hat5 hlt5 hbb R87 S88 L89
          have HR:Hid (ifP r B p l=.ok (.mk 14 p none0 0 [a,b,c,d]) l7):=lh (by simp only [ifP,ifTail,Par.bind,Par.pure,X7.out,X18.out,X29.out,X40.out,X51.out,X65.out,X77.out])
          have RM2:=lh (R5.out.mono (B':=w.heap.size) (by have:=Q3.out;omega))
          have C96:=lh (add_at S5.out.ps (14) ((p:Int)) (0) (none0) (.slice none 0 0) (.slice (some ⟨g5,0,none⟩) ((roots md.length [a,b,c]).length+1) cap5) (roots md.length [a,b,c,d]) RM2.out.own RM2.out.loc (by have h2:=sz_if r hszB p 1 (by omega) _ _ _ HR.out;simp only [Ast.size] at h2;rw [List.length_append,postL_length];omega))
          go_wp2_with fail
          clear c90 c91 c92 c93 c94 z95
          (with_reducible refine C96.out.mono ?_)
          rintro e wf hA
          have hO:=lh (S5.out.add (ts:=[a,b,c,d]) rfl hA RM2.out.ge)
          obtain ⟨z,rfl⟩:=hA.int
          clear C96
          go_wp2
          go_ret
          exact of_ok HR.out hO.out
   | true =>
    have X18:=lh hx
    obtain ⟨rfl,hs,hf⟩:=hP
    obtain ⟨S,T⟩:=S9.out.same hs hf
    clear hs hf hx
    have L19:=lh (L8.out.tr T)
    have S20:=lh (S)
    clear S T S9 L8
    have c21:=L19.out.cell 0 rfl
    have c22:=L19.out.cell 1 rfl
    have c23:=L19.out.cell 2 rfl
    have c24:=L19.out.cell 3 rfl
    have c25:=L19.out.cell 4 rfl
    have z26:=L19.out.fz
    have S27:=lh (S20.out.set (a:=⟨w.heap.size,3,none⟩) L19.out.loc Q3.out (.int .i64 1))
    have L28:=lh (L19.out.set 3 (.int .i64 1))
    clear S20 L19
    have C29:=lh (exprR_at S27.out.ps)
    go_wp2_with fail
    clear c21 c22 c23 c24 c25 z26
    (with_reducible refine C29.out.mono ?_)
    rintro e w30 hP
    clear C29
    cases hx:exprR r l2 with
    | err pe ce =>
     obtain ⟨rfl,HB⟩:=pE hx hP
     replace hx:=lh hx
     go_wp2
     exact ⟨rfl,of_err (by simp only [ifP,ifTail,Par.bind,X7.out,X18.out,hx.out]) HB.out⟩
    | ok b l4 =>
     rw [hx] at hP
     have X31:=lh hx
     obtain ⟨v30,n30,rfl,S,T⟩:=S27.out.ast (ts':=[a,b]) hP rfl
     clear hP hx
     have L32:=lh (L28.out.tr T)
     have S33:=lh (S)
     clear S T S27 L28
     have c34:=L32.out.cell 0 rfl
     have c35:=L32.out.cell 1 rfl
     have c36:=L32.out.cell 2 rfl
     have c37:=L32.out.cell 3 rfl
     have c38:=L32.out.cell 4 rfl
     have z39:=L32.out.fz
     have C40:=lh (HBB.out _ _ _ _ _ S33.out.ps)
     go_wp2_with fail
     clear c34 c35 c36 c37 c38 z39
     (with_reducible refine C40.out.mono ?_)
     rintro e w41 hP
     clear C40
     cases hx:B l4 with
     | err pe ce =>
      obtain ⟨rfl,HB⟩:=pE hx hP
      replace hx:=lh hx
      go_wp2
      exact ⟨rfl,of_err (by simp only [ifP,ifTail,Par.bind,X7.out,X18.out,X31.out,hx.out]) HB.out⟩
     | ok c l5 =>
      rw [hx] at hP
      have X42:=lh hx
      obtain ⟨v41,n41,rfl,S,T⟩:=S33.out.ast (ts':=[a,b,c]) hP rfl
      clear hP hx
      have L43:=lh (L32.out.tr T)
      have S44:=lh (S)
      clear S T S33 L32
      have c45:=L43.out.cell 0 rfl
      have c46:=L43.out.cell 1 rfl
      have c47:=L43.out.cell 2 rfl
      have c48:=L43.out.cell 3 rfl
      have c49:=L43.out.cell 4 rfl
      have z50:=L43.out.fz
      have R51:=lh (Rw.litB S44.out (q:=w41.heap.size) (by first|rfl|simp [World.setCell]) (B:=w.heap.size+1) (by have hlt9:=L43.out.lt;first|omega|(simp only [World.setCell,Array.size_modify] at *;omega)) (ks:=roots md.length [a,b,c]) (cs:=#[.int .i64 (rootI (md.length+sizeL []) a),.int .i64 (rootI (md.length+sizeL [a]) b),.int .i64 (rootI (md.length+sizeL [a,b]) c)]) (m:=3) (by simp [roots,rootI,sizeL]<;>omega) (by simp [roots]) (by omega))
      have S52:=lh (S44.out.alloc (.cells #[.int .i64 (rootI (md.length+sizeL []) a),.int .i64 (rootI (md.length+sizeL [a]) b),.int .i64 (rootI (md.length+sizeL [a,b]) c)] 3))
      have L53:=lh (L43.out.alloc (.cells #[.int .i64 (rootI (md.length+sizeL []) a),.int .i64 (rootI (md.length+sizeL [a]) b),.int .i64 (rootI (md.length+sizeL [a,b]) c)] 3))
      clear S44 L43
      have C54:=lh (skip_at S52.out.ps ⟨#[101,108,115,101]⟩ (by decide))
      go_wp2_with fail
      clear c45 c46 c47 c48 c49 z50
      (with_reducible refine C54.out.mono ?_)
      rintro e w55 hP
      clear C54
      cases hx:skipP ⟨#[101,108,115,101]⟩ l5 with
      | err pe ce =>
       obtain ⟨rfl,HB⟩:=pE hx hP
       replace hx:=lh hx
       go_wp2
       exact ⟨rfl,of_err (by simp only [ifP,ifTail,Par.bind,X7.out,X18.out,X31.out,X42.out,hx.out]) HB.out⟩
      | ok u2 l6 =>
       rw [hx] at hP
       cases u2 with
       | false =>
        have X56:=lh hx
        obtain ⟨rfl,hs,hf⟩:=hP
        obtain ⟨S,T⟩:=S52.out.same hs hf
        clear hs hf hx
        have L57:=lh (L53.out.tr T)
        have R58:=lh (R51.out.tr T)
        have S59:=lh (S)
        clear S T S52 L53 R51
        have c60:=L57.out.cell 0 rfl
        have c61:=L57.out.cell 1 rfl
        have c62:=L57.out.cell 2 rfl
        have c63:=L57.out.cell 3 rfl
        have c64:=L57.out.cell 4 rfl
        have z65:=L57.out.fz
        have HR:Hid (ifP r B p l=.ok (.mk 14 p none0 1 [a,b,c]) l6):=lh (by simp only [ifP,ifTail,Par.bind,Par.pure,X7.out,X18.out,X31.out,X42.out,X56.out])
        have RM2:=lh (R58.out.mono (B':=w.heap.size) (by have:=Q3.out;omega))
        have C66:=lh (add_at S59.out.ps (14) ((p:Int)) (1) (none0) (.slice none 0 0) (.slice (some ⟨w41.heap.size,0,none⟩) 3 3) (roots md.length [a,b,c]) RM2.out.own RM2.out.loc (by have h2:=sz_if r hszB p 1 (by omega) _ _ _ HR.out;simp only [Ast.size] at h2;rw [List.length_append,postL_length];omega))
        go_wp2_with fail
        clear c60 c61 c62 c63 c64 z65
        (with_reducible refine C66.out.mono ?_)
        rintro e wf hA
        have hO:=lh (S59.out.add (ts:=[a,b,c]) rfl hA RM2.out.ge)
        obtain ⟨z,rfl⟩:=hA.int
        clear C66
        go_wp2
        go_ret
        exact of_ok HR.out hO.out
       | true =>
        have X56:=lh hx
        obtain ⟨rfl,hs,hf⟩:=hP
        obtain ⟨S,T⟩:=S52.out.same hs hf
        clear hs hf hx
        have L57:=lh (L53.out.tr T)
        have R58:=lh (R51.out.tr T)
        have S59:=lh (S)
        clear S T S52 L53 R51
        have c60:=L57.out.cell 0 rfl
        have c61:=L57.out.cell 1 rfl
        have c62:=L57.out.cell 2 rfl
        have c63:=L57.out.cell 3 rfl
        have c64:=L57.out.cell 4 rfl
        have z65:=L57.out.fz
        have C66:=lh (HBB.out _ _ _ _ _ S59.out.ps)
        go_wp2_with fail
        clear c60 c61 c62 c63 c64 z65
        (with_reducible refine C66.out.mono ?_)
        rintro e w67 hP
        clear C66
        cases hx:B l6 with
        | err pe ce =>
         obtain ⟨rfl,HB⟩:=pE hx hP
         replace hx:=lh hx
         go_wp2
         exact ⟨rfl,of_err (by simp only [ifP,ifTail,Par.bind,X7.out,X18.out,X31.out,X42.out,X56.out,hx.out]) HB.out⟩
        | ok d l7 =>
         rw [hx] at hP
         have X68:=lh hx
         obtain ⟨v67,n67,rfl,S,T⟩:=S59.out.ast (ts':=[a,b,c,d]) hP rfl
         clear hP hx
         have L69:=lh (L57.out.tr T)
         have R70:=lh (R58.out.tr T)
         have S71:=lh (S)
         clear S T S59 L57 R58
         have c72:=L69.out.cell 0 rfl
         have c73:=L69.out.cell 1 rfl
         have c74:=L69.out.cell 2 rfl
         have c75:=L69.out.cell 3 rfl
         have c76:=L69.out.cell 4 rfl
         have z77:=L69.out.fz
         obtain ⟨i0,hi,hz0,hz1,hz2⟩:=info_partsP infoInt
         have I0:=lh hi
         have I1:=lh hz0
         have I2:=lh hz1
         have I3:=lh hz2
         clear hi hz0 hz1 hz2
         have hk:(roots md.length [a,b,c]).length≤70000:=by rw [roots_length];simp
         have R78:=lh (R70.out.alloc (.cells #[.int .i64 (rootI (md.length+sizeL [a,b,c]) d)] 3))
         have S79:=lh (S71.out.alloc (.cells #[.int .i64 (rootI (md.length+sizeL [a,b,c]) d)] 3))
         have L80:=lh (L69.out.alloc (.cells #[.int .i64 (rootI (md.length+sizeL [a,b,c]) d)] 3))
         clear c72 c73 c74 c75 c76 z77
         have hbb:Hid (w.heap.size+1≤(w67.alloc (.cells #[.int .i64 (rootI (md.length+sizeL [a,b,c]) d)] 3)).heap.size):=lh (by have h7:=S79.out.fr.size;have h8:=L80.out.lt;simp only [World.size_alloc] at *;omega)
         clear R70 S71 L69
         go_wp2_with (at_builtin;refine wpList_append_lies _ rfl (.tmp 27) (.tmp 30) 32 rfl (E.b+1) 3 i0 _ 1 8 Tryz.underlying32 I0.out I1.out I2.out I3.out rfl (by decide) (.slice (some ⟨w41.heap.size,0,none⟩) 3 3) (roots md.length [a,b,c]).length ((roots md.length [a,b,c]).map (Value.int .i64)) rfl R78.out.own ⟨w67.heap.size,0,none⟩ 1 1 [.int .i64 (rootI (md.length+sizeL [a,b,c]) d)] rfl rfl (World.news_of_block (cs:=#[.int .i64 (rootI (md.length+sizeL [a,b,c]) d)]) (t:=3) (fr:=(0,0)) (heap_alloc_new _ _)) (by simp [Value.oneCell']) (by decide) (by unfold maxLen;omega) (by omega) S79.out.ps.lt _ rfl ?_;intro g5 cap5 w5 hown5 hgrow5 hat5 hlt5;have L5:=lh (L80.out.push R78.out (Nat.lt_succ_self _) hgrow5);have c81:=L5.out.cell 0 rfl;have c82:=L5.out.cell 1 rfl;have c83:=L5.out.cell 2 rfl;have c84:=L5.out.cell 3 rfl;have c85:=L5.out.cell 4 rfl;have z86:=L5.out.fz)
         have R5:Hid (Rw E v67 (kvs++n67) (w.heap.size+1) (.slice (some ⟨g5,0,none⟩) ((roots md.length [a,b,c]).length+1) cap5) (roots md.length [a,b,c,d]) w5):=lh (by rw [show [a,b,c,d]=[a,b,c]++[d] from rfl,roots_snoc];exact R78.out.push hbb.out S79.out.ps.fresh hown5 rfl rfl hat5 rfl)
         have S5:=lh (S79.out.grown R78.out (by have:=Q3.out;omega) hgrow5)
         clear hown5 hgrow5 hat5 hlt5 hbb R78 S79 L80
         have HR:Hid (ifP r B p l=.ok (.mk 14 p none0 1 [a,b,c,d]) l7):=lh (by simp only [ifP,ifTail,Par.bind,Par.pure,X7.out,X18.out,X31.out,X42.out,X56.out,X68.out])
         have RM2:=lh (R5.out.mono (B':=w.heap.size) (by have:=Q3.out;omega))
         have C87:=lh (add_at S5.out.ps (14) ((p:Int)) (1) (none0) (.slice none 0 0) (.slice (some ⟨g5,0,none⟩) ((roots md.length [a,b,c]).length+1) cap5) (roots md.length [a,b,c,d]) RM2.out.own RM2.out.loc (by have h2:=sz_if r hszB p 1 (by omega) _ _ _ HR.out;simp only [Ast.size] at h2;rw [List.length_append,postL_length];omega))
         go_wp2_with fail
         clear c81 c82 c83 c84 c85 z86
         (with_reducible refine C87.out.mono ?_)
         rintro e wf hA
         have hO:=lh (S5.out.add (ts:=[a,b,c,d]) rfl hA RM2.out.ge)
         obtain ⟨z,rfl⟩:=hA.int
         clear C87
         go_wp2
         go_ret
         exact of_ok HR.out hO.out
end
end
section
open Go.RowKit
open Par (Less many many_err many_done many_more)
section
variable {E:Env}{v:Value}{kvs:List Value}{md:List Nd}{r:Nat}{l:List PT}{w:World}
theorem block_at (h:PS E v kvs md r l w){st:Par Ast}(hst:0<r→∀v kvs md l w,PS E v kvs md (r-1) l w→Calls Tryz.prog 243 #[.pointer (some ⟨E.b,0,none⟩)] w (PostE E (st l) fun a l'=>OkA E v kvs md (r-1) w a l'))(htk:Takes st)(hszst:∀c,Sz c st (fun a=>a.size+c)):Calls Tryz.prog 203 #[.pointer (some ⟨E.b,0,none⟩)] w (PostE E (blockOf r st l) fun a l'=>OkA E v kvs md r w a l'):=by
 have HST:=lh @hst
 clear hst
 have hr64:=h.r64
 have RM:=lh h.room
 have S1:=lh (St.start h)
 have hnot:=nt
 clear h
 go_enter Tryz.func203,Tryz.ntmps203
 have C2:=lh (enter_at S1.out.ps ⟨#[123]⟩ (by decide))
 go_wp2_with fail
 (with_reducible refine C2.out.mono ?_)
 rintro e w3 hP
 clear C2
 cases hx:enterP ⟨#[123]⟩ r l with
 | err pe ce =>
  obtain ⟨rfl,HB⟩:=pE hx hP
  replace hx:=lh hx
  go_wp2
  exact ⟨rfl,of_err (by simp only [blockOf,nodeA,Par.bind,hx.out]) HB.out⟩
 | ok p l1 =>
  rw [hx] at hP
  have X4:=lh hx
  have hr:=enter_pos hx
  obtain ⟨rfl,hs,hf⟩:=hP
  obtain ⟨S,T⟩:=S1.out.same hs hf
  clear hs hf hx
  have S5:=lh (S)
  clear S T S1
  have S6:=lh (S5.out.alloc (.cells #[.int .u8 6,.int .i64 (p:Int),.string ⟨#[]⟩,.int .i64 0,.slice none 0 0] 54))
  have Q7:Hid (w.heap.size≤w3.heap.size):=lh S5.out.fr.size
  have L8:=lh (Lcl.new S5.out.ps (.cells #[.int .u8 6,.int .i64 (p:Int),.string ⟨#[]⟩,.int .i64 0,.slice none 0 0] 54))
  clear S5
  have RN:Hid (Rw E v (kvs++[]) (w3.heap.size+1) (.slice none 0 0) (roots md.length []) (w3.alloc (.cells #[.int .u8 6,.int .i64 (p:Int),.string ⟨#[]⟩,.int .i64 0,.slice none 0 0] 54))):=lh Rw.nil
  obtain ⟨i0,hi,hz0,hz1,hz2⟩:=info_partsP infoInt
  have I0:=lh hi
  have I1:=lh hz0
  have I2:=lh hz1
  have I3:=lh hz2
  clear hi hz0 hz1 hz2
  go_wp2_with fail
  go_loopw [4] (fun kvL wr=>∃(ts:List Ast) (lk:List PT) (vk:Value) (nk:List Value),Hid (St E v kvs md w ts (r-1) lk vk nk wr)∧Hid (Rw E vk (kvs++nk) (w3.heap.size+1) kvL (roots md.length ts) wr)∧Hid (Lcl E vk (kvs++nk) (w3.heap.size) (.cells #[.int .u8 6,.int .i64 (p:Int),.string ⟨#[]⟩,.int .i64 0,.slice none 0 0] 54 (0,0)) wr)∧Hid (many (blockStep st) [] l1=many (blockStep st) ts lk)) (fun _ wr=>E.toks.length-nextOf E wr)
  case atStart=>exact ⟨[],l1,_,_,S6,RN,L8,lh rfl⟩
  case round =>
   obtain ⟨ts,lk,vk,nk,S0,R0,L0,HM⟩:=hrel
   have hleft:=lh S0.out.ps.left
   clear S6 RN L8
   have c9:=L0.out.cell 0 rfl
   have c10:=L0.out.cell 1 rfl
   have c11:=L0.out.cell 2 rfl
   have c12:=L0.out.cell 3 rfl
   have c13:=L0.out.cell 4 rfl
   have z14:=L0.out.fz
   have C15:=lh (isNext_at S0.out.ps ⟨#[125]⟩)
   go_wp2_with fail
   clear c9 c10 c11 c12 c13 z14
   (with_reducible refine C15.out.mono ?_)
   rintro e w16 ⟨t16,l16,hl,rfl,hs,hf⟩
   clear C15
   obtain ⟨S,T⟩:=S0.out.same hs hf
   cases hd:decide (t16.txt=⟨#[125]⟩) with
   | false =>
    have X17:Hid (isNextP ⟨#[125]⟩ lk=.ok false lk):=lh (by rw [hl,isNextP,hd])
    clear hs hf hl hd
    have L18:=lh (L0.out.tr T)
    have R19:=lh (R0.out.tr T)
    have S20:=lh (S)
    clear S T S0 L0 R0
    have c21:=L18.out.cell 0 rfl
    have c22:=L18.out.cell 1 rfl
    have c23:=L18.out.cell 2 rfl
    have c24:=L18.out.cell 3 rfl
    have c25:=L18.out.cell 4 rfl
    have z26:=L18.out.fz
    have C27:=lh (HST.out hr _ _ _ _ _ S20.out.ps)
    go_wp2_with fail
    clear c21 c22 c23 c24 c25 z26
    (with_reducible refine C27.out.mono ?_)
    rintro e w28 hP
    clear C27
    cases hx:st lk with
    | err pe ce =>
     rw [hx] at hP
     obtain ⟨rfl,hb⟩:=hP
     have HB:=lh hb
     have HX:many (blockStep st) [] l1=.err pe ce:=by rw [HM.out];exact many_err (by simp only [blockStep,Par.bind,X17.out,hx])
     have HR:Hid (blockOf r st l=.err pe ce):=lh (by simp only [blockOf,nodeA,Par.bind,X4.out,HX])
     clear hb hx HX
     go_wp2
     exact ⟨rfl,of_err HR.out HB.out⟩
    | ok bq l28 =>
     rw [hx] at hP
     obtain ⟨v28,n28,rfl,S,T⟩:=S20.out.ast (ts':=ts++[bq]) hP rfl
     have HM2:Hid (many (blockStep st) [] l1=many (blockStep st) (ts++[bq]) l28):=lh (by rw [HM.out];exact many_more (step_block htk) (by simp only [blockStep,Par.bind,Par.pure,X17.out,hx]))
     have hq:l28.length<lk.length:=by
      have h5:(blockStep st) ts lk=.ok (some (ts++[bq])) l28:=by simp only [blockStep,Par.bind,Par.pure,X17.out,hx]
      exact ((step_block htk) _ _ _ _ h5).1 rfl
     clear hP hx
     have L29:=lh (L18.out.tr T)
     have R30:=lh (R19.out.tr T)
     have S31:=lh (S)
     clear S T S20 L18 R19
     have c32:=L29.out.cell 0 rfl
     have c33:=L29.out.cell 1 rfl
     have c34:=L29.out.cell 2 rfl
     have c35:=L29.out.cell 3 rfl
     have c36:=L29.out.cell 4 rfl
     have z37:=L29.out.fz
     have hk:(roots md.length ts).length≤70000:=by have h6:=S31.out.ps.room;rw [List.length_append,postL_length,sizeL_append] at h6;rw [roots_length];have:=length_le_sizeL ts;omega
     have R38:=lh (R30.out.alloc (.cells #[.int .i64 (rootI (md.length+sizeL ts) bq)] 3))
     have S39:=lh (S31.out.alloc (.cells #[.int .i64 (rootI (md.length+sizeL ts) bq)] 3))
     have L40:=lh (L29.out.alloc (.cells #[.int .i64 (rootI (md.length+sizeL ts) bq)] 3))
     clear c32 c33 c34 c35 c36 z37
     have hbb:Hid (w3.heap.size+1≤(w28.alloc (.cells #[.int .i64 (rootI (md.length+sizeL ts) bq)] 3)).heap.size):=lh (by have h7:=S39.out.fr.size;have h8:=L40.out.lt;simp only [World.size_alloc] at *;omega)
     clear R30 S31 L29
     go_wp2_with (at_builtin;refine wpList_append_lies _ rfl (.tmp 11) (.tmp 14) 32 rfl (E.b+1) 3 i0 _ 1 8 Tryz.underlying32 I0.out I1.out I2.out I3.out rfl (by decide) u4 (roots md.length ts).length ((roots md.length ts).map (Value.int .i64)) rfl R38.out.own ⟨w28.heap.size,0,none⟩ 1 1 [.int .i64 (rootI (md.length+sizeL ts) bq)] rfl rfl (World.news_of_block (cs:=#[.int .i64 (rootI (md.length+sizeL ts) bq)]) (t:=3) (fr:=(0,0)) (heap_alloc_new _ _)) (by simp [Value.oneCell']) (by decide) (by unfold maxLen;omega) (by omega) S39.out.ps.lt _ rfl ?_;intro g5 cap5 w5 hown5 hgrow5 hat5 hlt5)
     have R5:Hid (Rw E v28 (kvs++n28) (w3.heap.size+1) (.slice (some ⟨g5,0,none⟩) ((roots md.length ts).length+1) cap5) (roots md.length (ts++[bq])) w5):=lh (by rw [roots_snoc];exact R38.out.push hbb.out S39.out.ps.fresh hown5 rfl rfl hat5 rfl)
     have S5:=lh (S39.out.grown R38.out (by have:=Q7.out;omega) hgrow5)
     have L5:=lh (L40.out.push R38.out (Nat.lt_succ_self _) hgrow5)
     have hl3:=lh S5.out.ps.left
     clear hown5 hgrow5 hat5 hlt5 R38 S39 L40
     go_wp2
     go_roundw
     case rel=>exact ⟨_,_,_,_,S5,R5,L5,HM2⟩
     case measure=>have h1:=hleft.out;have h2:=hl3.out;show E.toks.length-nextOf E _<E.toks.length-nextOf E wr;omega
   | true =>
    have X17:Hid (isNextP ⟨#[125]⟩ lk=.ok true lk):=lh (by rw [hl,isNextP,hd])
    clear hs hf hl hd
    have L18:=lh (L0.out.tr T)
    have R19:=lh (R0.out.tr T)
    have S20:=lh (S)
    clear S T S0 L0 R0
    have c21:=L18.out.cell 0 rfl
    have c22:=L18.out.cell 1 rfl
    have c23:=L18.out.cell 2 rfl
    have c24:=L18.out.cell 3 rfl
    have c25:=L18.out.cell 4 rfl
    have z26:=L18.out.fz
    have HX:Hid (many (blockStep st) [] l1=.ok ts lk):=lh (by rw [HM.out];exact many_done (by simp only [blockStep,Par.bind,Par.pure,X17.out]))
    clear HM
    have C27:=lh (leave_at S20.out.ps ⟨#[125]⟩ (by decide) (by omega))
    go_wp2_with fail
    clear c21 c22 c23 c24 c25 z26
    (with_reducible refine C27.out.mono ?_)
    rintro e w28 hP
    clear C27
    cases hx:expectP ⟨#[125]⟩ lk with
    | err pe ce =>
     obtain ⟨rfl,HB⟩:=pE hx hP
     replace hx:=lh hx
     go_wp2
     exact ⟨rfl,of_err (by simp only [blockOf,nodeA,Par.bind,X4.out,HX.out,hx.out]) HB.out⟩
    | ok p6 l6 =>
     rw [hx] at hP
     have X29:=lh hx
     obtain ⟨rfl,hs,hf⟩:=hP
     have er:r-1+1=r:=by omega
     rw [er] at hs
     obtain ⟨S,T⟩:=S20.out.same hs hf
     clear hs hf hx
     have L30:=lh (L18.out.tr T)
     have R31:=lh (R19.out.tr T)
     have S32:=lh (S)
     clear S T S20 L18 R19
     have c33:=L30.out.cell 0 rfl
     have c34:=L30.out.cell 1 rfl
     have c35:=L30.out.cell 2 rfl
     have c36:=L30.out.cell 3 rfl
     have c37:=L30.out.cell 4 rfl
     have z38:=L30.out.fz
     have HR:Hid (blockOf r st l=.ok (.mk 6 p none0 0 ts) l6):=lh (by simp only [blockOf,nodeA,Par.bind,Par.pure,X4.out,HX.out,X29.out])
     have RM2:=lh (R31.out.mono (B':=w.heap.size) (by have:=Q7.out;omega))
     have C39:=lh (add_at S32.out.ps (6) ((p:Int)) (0) (none0) (.slice none 0 0) (u4) (roots md.length ts) RM2.out.own RM2.out.loc (by have h1:=RM.out;have h2:=sz_blockOf r hszst 0 _ _ _ HR.out;simp only [Ast.size] at h2;rw [List.length_append,postL_length];omega))
     go_wp2_with fail
     clear c33 c34 c35 c36 c37 z38
     (with_reducible refine C39.out.mono ?_)
     rintro e wf hA
     have hO:=lh (S32.out.add (ts:=ts) rfl hA RM2.out.ge)
     obtain ⟨z,rfl⟩:=hA.int
     clear C39
     go_wp2
     go_ret
     exact of_ok HR.out hO.out
end
end
section
open Go.RowKit
open Par (Less many many_err many_done many_more)
section
variable {E:Env}{v:Value}{kvs:List Value}{md:List Nd}{r:Nat}{l:List PT}{w:World}
theorem region_out {P:Program}{A:Prop}(w:World)(h:A)(_:wpAny P .any #[] (fun _ _ _=>True) 0 #[] { tmps:=#[],defers:=[] } w):A:=h
theorem grownBy_drew (w:World):w.grownBy w.drew none:=⟨rfl,rfl,rfl,Nat.le_refl _,fun _ _ _=>rfl⟩
theorem St.drew {v0:Value}{kvs0 n:List Value}{md0:List Nd}{w0:World}{ts:List Ast}(h:St E v0 kvs0 md0 w0 ts r l v n w):St E v0 kvs0 md0 w0 ts r l v n w.drew:=⟨h.ps.grown (grownBy_drew w) (fun q e=>by cases e),h.nw,h.fr.grown (grownBy_drew w) h.fr.size (fun q e=>by cases e)⟩
theorem Lcl.drew {q:Nat}{o:Obj}(h:Lcl E v kvs q o w):Lcl E v kvs q o w.drew:=h.grown (grownBy_drew w) (by simp)
theorem St.addC {v0:Value}{kvs0 n:List Value}{md0:List Nd}{w0:World}{ts:List Ast}{kv:Value}(h:St E v0 kvs0 md0 w0 ts r l v n w)(k:Int)(p:Nat)(nn:Int)(t:ByteArray)(kz:Value)(hr:Rw E v (kvs0++n) w0.heap.size kv (roots md0.length ts) w)(hroom:md0.length+sizeL ts+1+l.length≤70000) :
 Calls Tryz.prog 133 #[.pointer (some ⟨E.b,0,none⟩),.agg #[.int .u8 k,.int .i64 (p:Int),.string t,.int .i64 nn,kz],kv] w fun e w'=>(∃z,e=.returned (.int .i64 z))∧OkA E v0 kvs0 md0 r w0 (.mk k p t nn ts) l e w'∧∃v',Fr E w.heap.size v v' w w' :=
 (add_at h.ps k p nn t kz kv (roots md0.length ts) hr.own hr.loc (by rw [List.length_append, postL_length]; omega)).mono fun e w' hA => ⟨hA.int, h.add rfl hA hr.ge, by
  obtain ⟨v',_,_,hf⟩:=hA
  exact ⟨v',hf⟩⟩
theorem AddP.fr {nd:Nd}{kv:Value}{e:Ending}{w':World}(h:AddP E v kvs md r l w nd kv e w'):∃v',Fr E w.heap.size v v' w w':=by
 obtain ⟨v',_,_,hf⟩:=h
 exact ⟨v',hf⟩
theorem names_at (h:PS E v kvs md r l w)(hroom:md.length+1+l.length≤70000):Calls Tryz.prog 206 #[.pointer (some ⟨E.b,0,none⟩)] w (PostE E (namesP l) fun a l'=>OkA E v kvs md r w a l'):=by
 have hr64:=h.r64
 have RM:=lh h.room
 have S1:=lh (St.start h)
 have fl1:=tok_f1
 have hnot:=nt
 clear h
 go_enter Tryz.func206,Tryz.ntmps206
 have C2:=lh (peek_at S1.out.ps)
 go_wp2_with fail
 (with_reducible refine C2.out.mono ?_)
 rintro e w3 ⟨t,l1,sp,hl,rfl,hs,hf⟩
 clear C2
 have X4:Hid (peekP l=.ok t l):=lh (by rw [hl,peekP])
 obtain ⟨S,T⟩:=S1.out.same hs hf
 have HL:=lh hl
 clear hs hf hl
 simp only [tokA]
 have S5:=lh (S)
 clear S T S1
 have S6:=lh (S5.out.alloc (.cells #[.int .u8 4,.int .i64 (t.at':Int),.string ⟨#[]⟩,.int .i64 0,.slice none 0 0] 54))
 have Q7:Hid (w.heap.size≤w3.heap.size):=lh S5.out.fr.size
 have L8:=lh (Lcl.new S5.out.ps (.cells #[.int .u8 4,.int .i64 (t.at':Int),.string ⟨#[]⟩,.int .i64 0,.slice none 0 0] 54))
 clear S5
 have hroom1:=lh hroom
 have C9:=lh (isNext_at S6.out.ps ⟨#[41]⟩)
 go_wp2_with fail
 (with_reducible refine C9.out.mono ?_)
 rintro e w10 ⟨t10,l10,hl,rfl,hs,hf⟩
 clear C9
 obtain ⟨S,T⟩:=S6.out.same hs hf
 cases hd:decide (t10.txt=⟨#[41]⟩) with
 | false =>
  have X11:Hid (isNextP ⟨#[41]⟩ l=.ok false l):=lh (by rw [hl,isNextP,hd])
  clear hs hf hl hd
  have L12:=lh (L8.out.tr T)
  have S13:=lh (S)
  clear S T S6 L8
  have c14:=L12.out.cell 0 rfl
  have c15:=L12.out.cell 1 rfl
  have c16:=L12.out.cell 2 rfl
  have c17:=L12.out.cell 3 rfl
  have c18:=L12.out.cell 4 rfl
  have z19:=L12.out.fz
  cases hx:wordsP l with
  | err pe ce =>
   have W1:=lh (post_err (words_at S13.out.drew.ps) hx)
   have HR:Hid (namesP l=.err pe ce):=lh (by simp only [namesP,nodeA,Par.bind,X4.out,X11.out,hx])
   clear hx
   go_wp2_with fail
   go_region_with (go_at_call 205;(with_reducible refine W1.out.mono ?_);rintro e w2 ⟨rfl,hb⟩;refine region_out (P:=Tryz.prog) w2 ⟨rfl,of_err HR.out hb⟩ ?_)
   all_goals trivial
  | ok ks l2 =>
   have W1:=lh (post_ok (words_at S13.out.drew.ps) hx)
   have HR:Hid (namesP l=.ok (.mk 4 t.at' none0 0 ks) l2):=lh (by simp only [namesP,nodeA,Par.bind,Par.pure,X4.out,X11.out,hx])
   have HRM:Hid (md.length+sizeL ks+1+l2.length≤70000):=lh (by have h1:=hroom1.out;have h2:sizeL ks+0+l2.length≤0+l.length:=sz_words 0 _ _ _ hx;omega)
   have SD:=lh S13.out.drew
   have LD:=lh L12.out.drew
   clear hx S13 L12
   go_wp2_with fail
   go_region_held3 (fun w'=>w'.cell? ⟨w3.heap.size,0,none⟩=some (.int .u8 4)∧w'.cell? ⟨w3.heap.size,1,none⟩=some (.int .i64 (t.at':Int))∧w'.cell? ⟨w3.heap.size,2,none⟩=some (.string ⟨#[]⟩)∧w'.cell? ⟨w3.heap.size,3,none⟩=some (.int .i64 0)∧w'.cell? ⟨w3.heap.size,4,none⟩=some (.slice none 0 0)) (go_keep)
    (first
     | (go_at_call 205;(with_reducible refine W1.out.mono ?_);rintro e wp hW;obtain ⟨v2,n2,kv2,rfl,S2,T2,R2⟩:=SD.out.list hW;have L2:=LD.out.tr T2;have d0:=L2.cell 0 rfl;have d1:=L2.cell 1 rfl;have d2:=L2.cell 2 rfl;have d3:=L2.cell 3 rfl;have d4:=L2.cell 4 rfl)
     | (go_at_call 133;(with_reducible refine (S2.addC 4 t.at' 0 none0 (.slice none 0 0) (R2.mono SD.out.fr.size) (HRM.out)).mono ?_);rintro e wq ⟨⟨z,rfl⟩,hO,v3,hf3⟩;have k0:=(hf3.cell (p:=⟨w3.heap.size,0,none⟩) L2.lt (by have:=L2.loc.lt;simp only;omega) L2.loc.v).trans (L2.cell 0 rfl);have k1:=(hf3.cell (p:=⟨w3.heap.size,1,none⟩) L2.lt (by have:=L2.loc.lt;simp only;omega) L2.loc.v).trans (L2.cell 1 rfl);have k2:=(hf3.cell (p:=⟨w3.heap.size,2,none⟩) L2.lt (by have:=L2.loc.lt;simp only;omega) L2.loc.v).trans (L2.cell 2 rfl);have k3:=(hf3.cell (p:=⟨w3.heap.size,3,none⟩) L2.lt (by have:=L2.loc.lt;simp only;omega) L2.loc.v).trans (L2.cell 3 rfl);have k4:=(hf3.cell (p:=⟨w3.heap.size,4,none⟩) L2.lt (by have:=L2.loc.lt;simp only;omega) L2.loc.v).trans (L2.cell 4 rfl)))
   go_wp2
   go_ret
   exact of_ok HR.out hO
 | true =>
  have X11:Hid (isNextP ⟨#[41]⟩ l=.ok true l):=lh (by rw [hl,isNextP,hd])
  clear hs hf hl hd
  have L12:=lh (L8.out.tr T)
  have S13:=lh (S)
  clear S T S6 L8
  have c14:=L12.out.cell 0 rfl
  have c15:=L12.out.cell 1 rfl
  have c16:=L12.out.cell 2 rfl
  have c17:=L12.out.cell 3 rfl
  have c18:=L12.out.cell 4 rfl
  have z19:=L12.out.fz
  have HR:Hid (namesP l=.ok (.mk 4 t.at' none0 0 []) l):=lh (by simp only [namesP,nodeA,Par.bind,Par.pure,X4.out,X11.out])
  have RN:Hid (Rw E v (kvs++[]) w.heap.size (.slice none 0 0) [] w10):=lh Rw.nil
  have C20:=lh (add_at S13.out.ps (4) ((t.at':Int)) (0) (none0) (.slice none 0 0) (.slice none 0 0) (roots md.length []) RN.out.own RN.out.loc (by have h2:=hroom1.out;simp only [postL,List.append_nil,List.length_append,List.length_nil];omega))
  go_wp2_with fail
  clear c14 c15 c16 c17 c18 z19
  (with_reducible refine C20.out.mono ?_)
  rintro e wf hA
  have hO:=lh (S13.out.add (ts:=[]) rfl hA RN.out.ge)
  obtain ⟨z,rfl⟩:=hA.int
  clear C20
  go_wp2
  go_ret
  exact of_ok HR.out hO.out
end
end
end Go.Proofs.YthdioipfdbbmmaaGreatDoor
