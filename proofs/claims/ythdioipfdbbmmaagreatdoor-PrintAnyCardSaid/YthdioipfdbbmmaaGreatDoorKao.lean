/- Contracts. -/
import Derived.Test.YthdioipfdbbmmaaGreatDoorKab
import Derived.Test.YthdioipfdbbmmaaGreatDoorKag
import Derived.Test.YthdioipfdbbmmaaGreatDoorKah
import Derived.Test.YthdioipfdbbmmaaGreatDoorKan
import Derived.Deep.RegionHeld3
import Derived.Deep.RegionWith
import Derived.WalkSmall
import Derived.MapKept
import Derived.BigQuiet
import Derived.Deep.QuietTactic
import Derived.Lib.OwnKind
import Derived.OwnWalkIn
import Derived.Maps.AppendAt
set_option linter.all false
set_option maxRecDepth 1000000
set_option maxHeartbeats 16000000
namespace Go.Proofs.YthdioipfdbbmmaaGreatDoor
section
open Go.RowKit
open Par (Less many many_err many_done many_more)
section
variable {E:Env}{v:Value}{kvs:List Value}{md:List Nd}{r:Nat}{l:List PT}{w:World}
theorem block_at (h:PS E v kvs md r l w){st:Par Ast}(hst:0<r→∀v kvs md l w,PS E v kvs md (r-1) l w→Calls Tryz.prog 243 #[.pointer (some ⟨E.b,0,none⟩)] w (PostE E (st l) fun a l'=>OkA E v kvs md (r-1) w a l'))(htk:Takes st)(hszst:∀c,Sz c st (fun a=>a.size+c)):Calls Tryz.prog 203 #[.pointer (some ⟨E.b,0,none⟩)] w (PostE E (blockOf r st l) fun a l'=>OkA E v kvs md r w a l'):=by
 have HST:=lh @hst
 clear hst
 have hr64:=h.r64
 have RM:=lh h.room
 have S1:=lh (St.start h)
 have hnot:=nt
 clear h
 go_enter Tryz.func203,Tryz.ntmps203
 have C2:=lh (enter_at S1.out.ps ⟨#[123]⟩ (by decide))
 go_wp2_with fail
 (with_reducible refine C2.out.mono ?_)
 rintro e w3 hP
 clear C2
 cases hx:enterP ⟨#[123]⟩ r l with
 | err pe ce =>
  obtain ⟨rfl,HB⟩:=pE hx hP
  replace hx:=lh hx
  go_wp2
  exact ⟨rfl,of_err (by simp only [blockOf,nodeA,Par.bind,hx.out]) HB.out⟩
 | ok p l1 =>
  rw [hx] at hP
  have X4:=lh hx
  have hr:=enter_pos hx
  obtain ⟨rfl,hs,hf⟩:=hP
  obtain ⟨S,T⟩:=S1.out.same hs hf
  clear hs hf hx
  have S5:=lh (S)
  clear S T S1
  have S6:=lh (S5.out.alloc (.cells #[.int .u8 6,.int .i64 (p:Int),.string ⟨#[]⟩,.int .i64 0,.slice none 0 0] 54))
  have Q7:Hid (w.heap.size≤w3.heap.size):=lh S5.out.fr.size
  have L8:=lh (Lcl.new S5.out.ps (.cells #[.int .u8 6,.int .i64 (p:Int),.string ⟨#[]⟩,.int .i64 0,.slice none 0 0] 54))
  clear S5
  have RN:Hid (Rw E v (kvs++[]) (w3.heap.size+1) (.slice none 0 0) (roots md.length []) (w3.alloc (.cells #[.int .u8 6,.int .i64 (p:Int),.string ⟨#[]⟩,.int .i64 0,.slice none 0 0] 54))):=lh Rw.nil
  obtain ⟨i0,hi,hz0,hz1,hz2⟩:=info_partsP infoInt
  have I0:=lh hi
  have I1:=lh hz0
  have I2:=lh hz1
  have I3:=lh hz2
  clear hi hz0 hz1 hz2
  go_wp2_with fail
  go_loopw [4] (fun kvL wr=>∃(ts:List Ast) (lk:List PT) (vk:Value) (nk:List Value),Hid (St E v kvs md w ts (r-1) lk vk nk wr)∧Hid (Rw E vk (kvs++nk) (w3.heap.size+1) kvL (roots md.length ts) wr)∧Hid (Lcl E vk (kvs++nk) (w3.heap.size) (.cells #[.int .u8 6,.int .i64 (p:Int),.string ⟨#[]⟩,.int .i64 0,.slice none 0 0] 54 (0,0)) wr)∧Hid (many (blockStep st) [] l1=many (blockStep st) ts lk)) (fun _ wr=>E.toks.length-nextOf E wr)
  case atStart=>exact ⟨[],l1,_,_,S6,RN,L8,lh rfl⟩
  case round =>
   obtain ⟨ts,lk,vk,nk,S0,R0,L0,HM⟩:=hrel
   have hleft:=lh S0.out.ps.left
   clear S6 RN L8
   have c9:=L0.out.cell 0 rfl
   have c10:=L0.out.cell 1 rfl
   have c11:=L0.out.cell 2 rfl
   have c12:=L0.out.cell 3 rfl
   have c13:=L0.out.cell 4 rfl
   have z14:=L0.out.fz
   have C15:=lh (isNext_at S0.out.ps ⟨#[125]⟩)
   go_wp2_with fail
   clear c9 c10 c11 c12 c13 z14
   (with_reducible refine C15.out.mono ?_)
   rintro e w16 ⟨t16,l16,hl,rfl,hs,hf⟩
   clear C15
   obtain ⟨S,T⟩:=S0.out.same hs hf
   cases hd:decide (t16.txt=⟨#[125]⟩) with
   | false =>
    have X17:Hid (isNextP ⟨#[125]⟩ lk=.ok false lk):=lh (by rw [hl,isNextP,hd])
    clear hs hf hl hd
    have L18:=lh (L0.out.tr T)
    have R19:=lh (R0.out.tr T)
    have S20:=lh (S)
    clear S T S0 L0 R0
    have c21:=L18.out.cell 0 rfl
    have c22:=L18.out.cell 1 rfl
    have c23:=L18.out.cell 2 rfl
    have c24:=L18.out.cell 3 rfl
    have c25:=L18.out.cell 4 rfl
    have z26:=L18.out.fz
    have C27:=lh (HST.out hr _ _ _ _ _ S20.out.ps)
    go_wp2_with fail
    clear c21 c22 c23 c24 c25 z26
    (with_reducible refine C27.out.mono ?_)
    rintro e w28 hP
    clear C27
    cases hx:st lk with
    | err pe ce =>
     rw [hx] at hP
     obtain ⟨rfl,hb⟩:=hP
     have HB:=lh hb
     have HX:many (blockStep st) [] l1=.err pe ce:=by rw [HM.out];exact many_err (by simp only [blockStep,Par.bind,X17.out,hx])
     have HR:Hid (blockOf r st l=.err pe ce):=lh (by simp only [blockOf,nodeA,Par.bind,X4.out,HX])
     clear hb hx HX
     go_wp2
     exact ⟨rfl,of_err HR.out HB.out⟩
    | ok bq l28 =>
     rw [hx] at hP
     obtain ⟨v28,n28,rfl,S,T⟩:=S20.out.ast (ts':=ts++[bq]) hP rfl
     have HM2:Hid (many (blockStep st) [] l1=many (blockStep st) (ts++[bq]) l28):=lh (by rw [HM.out];exact many_more (step_block htk) (by simp only [blockStep,Par.bind,Par.pure,X17.out,hx]))
     have hq:l28.length<lk.length:=by
      have h5:(blockStep st) ts lk=.ok (some (ts++[bq])) l28:=by simp only [blockStep,Par.bind,Par.pure,X17.out,hx]
      exact ((step_block htk) _ _ _ _ h5).1 rfl
     clear hP hx
     have L29:=lh (L18.out.tr T)
     have R30:=lh (R19.out.tr T)
     have S31:=lh (S)
     clear S T S20 L18 R19
     have c32:=L29.out.cell 0 rfl
     have c33:=L29.out.cell 1 rfl
     have c34:=L29.out.cell 2 rfl
     have c35:=L29.out.cell 3 rfl
     have c36:=L29.out.cell 4 rfl
     have z37:=L29.out.fz
     have hk:(roots md.length ts).length≤70000:=by have h6:=S31.out.ps.room;rw [List.length_append,postL_length,sizeL_append] at h6;rw [roots_length];have:=length_le_sizeL ts;omega
     have R38:=lh (R30.out.alloc (.cells #[.int .i64 (rootI (md.length+sizeL ts) bq)] 3))
     have S39:=lh (S31.out.alloc (.cells #[.int .i64 (rootI (md.length+sizeL ts) bq)] 3))
     have L40:=lh (L29.out.alloc (.cells #[.int .i64 (rootI (md.length+sizeL ts) bq)] 3))
     clear c32 c33 c34 c35 c36 z37
     have hbb:Hid (w3.heap.size+1≤(w28.alloc (.cells #[.int .i64 (rootI (md.length+sizeL ts) bq)] 3)).heap.size):=lh (by have h7:=S39.out.fr.size;have h8:=L40.out.lt;simp only [World.size_alloc] at *;omega)
     clear R30 S31 L29
     go_wp2_with (at_builtin;refine wpList_append_lies _ rfl (.tmp 11) (.tmp 14) 32 rfl (E.b+1) 3 i0 _ 1 8 Tryz.underlying32 I0.out I1.out I2.out I3.out rfl (by decide) u4 (roots md.length ts).length ((roots md.length ts).map (Value.int .i64)) rfl R38.out.own ⟨w28.heap.size,0,none⟩ 1 1 [.int .i64 (rootI (md.length+sizeL ts) bq)] rfl rfl (World.news_of_block (cs:=#[.int .i64 (rootI (md.length+sizeL ts) bq)]) (t:=3) (fr:=(0,0)) (heap_alloc_new _ _)) (by simp [Value.oneCell']) (by decide) (by unfold maxLen;omega) (by omega) S39.out.ps.lt _ rfl ?_;intro g5 cap5 w5 hown5 hgrow5 hat5 hlt5)
     have R5:Hid (Rw E v28 (kvs++n28) (w3.heap.size+1) (.slice (some ⟨g5,0,none⟩) ((roots md.length ts).length+1) cap5) (roots md.length (ts++[bq])) w5):=lh (by rw [roots_snoc];exact R38.out.push hbb.out S39.out.ps.fresh hown5 rfl rfl hat5 rfl)
     have S5:=lh (S39.out.grown R38.out (by have:=Q7.out;omega) hgrow5)
     have L5:=lh (L40.out.push R38.out (Nat.lt_succ_self _) hgrow5)
     have hl3:=lh S5.out.ps.left
     clear hown5 hgrow5 hat5 hlt5 R38 S39 L40
     go_wp2
     go_roundw
     case rel=>exact ⟨_,_,_,_,S5,R5,L5,HM2⟩
     case measure=>have h1:=hleft.out;have h2:=hl3.out;show E.toks.length-nextOf E _<E.toks.length-nextOf E wr;omega
   | true =>
    have X17:Hid (isNextP ⟨#[125]⟩ lk=.ok true lk):=lh (by rw [hl,isNextP,hd])
    clear hs hf hl hd
    have L18:=lh (L0.out.tr T)
    have R19:=lh (R0.out.tr T)
    have S20:=lh (S)
    clear S T S0 L0 R0
    have c21:=L18.out.cell 0 rfl
    have c22:=L18.out.cell 1 rfl
    have c23:=L18.out.cell 2 rfl
    have c24:=L18.out.cell 3 rfl
    have c25:=L18.out.cell 4 rfl
    have z26:=L18.out.fz
    have HX:Hid (many (blockStep st) [] l1=.ok ts lk):=lh (by rw [HM.out];exact many_done (by simp only [blockStep,Par.bind,Par.pure,X17.out]))
    clear HM
    have C27:=lh (leave_at S20.out.ps ⟨#[125]⟩ (by decide) (by omega))
    go_wp2_with fail
    clear c21 c22 c23 c24 c25 z26
    (with_reducible refine C27.out.mono ?_)
    rintro e w28 hP
    clear C27
    cases hx:expectP ⟨#[125]⟩ lk with
    | err pe ce =>
     obtain ⟨rfl,HB⟩:=pE hx hP
     replace hx:=lh hx
     go_wp2
     exact ⟨rfl,of_err (by simp only [blockOf,nodeA,Par.bind,X4.out,HX.out,hx.out]) HB.out⟩
    | ok p6 l6 =>
     rw [hx] at hP
     have X29:=lh hx
     obtain ⟨rfl,hs,hf⟩:=hP
     have er:r-1+1=r:=by omega
     rw [er] at hs
     obtain ⟨S,T⟩:=S20.out.same hs hf
     clear hs hf hx
     have L30:=lh (L18.out.tr T)
     have R31:=lh (R19.out.tr T)
     have S32:=lh (S)
     clear S T S20 L18 R19
     have c33:=L30.out.cell 0 rfl
     have c34:=L30.out.cell 1 rfl
     have c35:=L30.out.cell 2 rfl
     have c36:=L30.out.cell 3 rfl
     have c37:=L30.out.cell 4 rfl
     have z38:=L30.out.fz
     have HR:Hid (blockOf r st l=.ok (.mk 6 p none0 0 ts) l6):=lh (by simp only [blockOf,nodeA,Par.bind,Par.pure,X4.out,HX.out,X29.out])
     have RM2:=lh (R31.out.mono (B':=w.heap.size) (by have:=Q7.out;omega))
     have C39:=lh (add_at S32.out.ps (6) ((p:Int)) (0) (none0) (.slice none 0 0) (u4) (roots md.length ts) RM2.out.own RM2.out.loc (by have h1:=RM.out;have h2:=sz_blockOf r hszst 0 _ _ _ HR.out;simp only [Ast.size] at h2;rw [List.length_append,postL_length];omega))
     go_wp2_with fail
     clear c33 c34 c35 c36 c37 z38
     (with_reducible refine C39.out.mono ?_)
     rintro e wf hA
     have hO:=lh (S32.out.add (ts:=ts) rfl hA RM2.out.ge)
     obtain ⟨z,rfl⟩:=hA.int
     clear C39
     go_wp2
     go_ret
     exact of_ok HR.out hO.out
end
end
section
open Go.RowKit
open Par (Less many many_err many_done many_more)
section
variable {E:Env}{v:Value}{kvs:List Value}{md:List Nd}{r:Nat}{l:List PT}{w:World}
theorem region_out {P:Program}{A:Prop}(w:World)(h:A)(_:wpAny P .any #[] (fun _ _ _=>True) 0 #[] { tmps:=#[],defers:=[] } w):A:=h
theorem grownBy_drew (w:World):w.grownBy w.drew none:=⟨rfl,rfl,rfl,Nat.le_refl _,fun _ _ _=>rfl⟩
theorem St.drew {v0:Value}{kvs0 n:List Value}{md0:List Nd}{w0:World}{ts:List Ast}(h:St E v0 kvs0 md0 w0 ts r l v n w):St E v0 kvs0 md0 w0 ts r l v n w.drew:=⟨h.ps.grown (grownBy_drew w) (fun q e=>by cases e),h.nw,h.fr.grown (grownBy_drew w) h.fr.size (fun q e=>by cases e)⟩
theorem Lcl.drew {q:Nat}{o:Obj}(h:Lcl E v kvs q o w):Lcl E v kvs q o w.drew:=h.grown (grownBy_drew w) (by simp)
theorem St.addC {v0:Value}{kvs0 n:List Value}{md0:List Nd}{w0:World}{ts:List Ast}{kv:Value}(h:St E v0 kvs0 md0 w0 ts r l v n w)(k:Int)(p:Nat)(nn:Int)(t:ByteArray)(kz:Value)(hr:Rw E v (kvs0++n) w0.heap.size kv (roots md0.length ts) w)(hroom:md0.length+sizeL ts+1+l.length≤70000) :
 Calls Tryz.prog 133 #[.pointer (some ⟨E.b,0,none⟩),.agg #[.int .u8 k,.int .i64 (p:Int),.string t,.int .i64 nn,kz],kv] w fun e w'=>(∃z,e=.returned (.int .i64 z))∧OkA E v0 kvs0 md0 r w0 (.mk k p t nn ts) l e w'∧∃v',Fr E w.heap.size v v' w w' :=
 (add_at h.ps k p nn t kz kv (roots md0.length ts) hr.own hr.loc (by rw [List.length_append, postL_length]; omega)).mono fun e w' hA => ⟨hA.int, h.add rfl hA hr.ge, by
  obtain ⟨v',_,_,hf⟩:=hA
  exact ⟨v',hf⟩⟩
theorem AddP.fr {nd:Nd}{kv:Value}{e:Ending}{w':World}(h:AddP E v kvs md r l w nd kv e w'):∃v',Fr E w.heap.size v v' w w':=by
 obtain ⟨v',_,_,hf⟩:=h
 exact ⟨v',hf⟩
theorem names_at (h:PS E v kvs md r l w)(hroom:md.length+1+l.length≤70000):Calls Tryz.prog 206 #[.pointer (some ⟨E.b,0,none⟩)] w (PostE E (namesP l) fun a l'=>OkA E v kvs md r w a l'):=by
 have hr64:=h.r64
 have RM:=lh h.room
 have S1:=lh (St.start h)
 have fl1:=tok_f1
 have hnot:=nt
 clear h
 go_enter Tryz.func206,Tryz.ntmps206
 have C2:=lh (peek_at S1.out.ps)
 go_wp2_with fail
 (with_reducible refine C2.out.mono ?_)
 rintro e w3 ⟨t,l1,sp,hl,rfl,hs,hf⟩
 clear C2
 have X4:Hid (peekP l=.ok t l):=lh (by rw [hl,peekP])
 obtain ⟨S,T⟩:=S1.out.same hs hf
 have HL:=lh hl
 clear hs hf hl
 simp only [tokA]
 have S5:=lh (S)
 clear S T S1
 have S6:=lh (S5.out.alloc (.cells #[.int .u8 4,.int .i64 (t.at':Int),.string ⟨#[]⟩,.int .i64 0,.slice none 0 0] 54))
 have Q7:Hid (w.heap.size≤w3.heap.size):=lh S5.out.fr.size
 have L8:=lh (Lcl.new S5.out.ps (.cells #[.int .u8 4,.int .i64 (t.at':Int),.string ⟨#[]⟩,.int .i64 0,.slice none 0 0] 54))
 clear S5
 have hroom1:=lh hroom
 have C9:=lh (isNext_at S6.out.ps ⟨#[41]⟩)
 go_wp2_with fail
 (with_reducible refine C9.out.mono ?_)
 rintro e w10 ⟨t10,l10,hl,rfl,hs,hf⟩
 clear C9
 obtain ⟨S,T⟩:=S6.out.same hs hf
 cases hd:decide (t10.txt=⟨#[41]⟩) with
 | false =>
  have X11:Hid (isNextP ⟨#[41]⟩ l=.ok false l):=lh (by rw [hl,isNextP,hd])
  clear hs hf hl hd
  have L12:=lh (L8.out.tr T)
  have S13:=lh (S)
  clear S T S6 L8
  have c14:=L12.out.cell 0 rfl
  have c15:=L12.out.cell 1 rfl
  have c16:=L12.out.cell 2 rfl
  have c17:=L12.out.cell 3 rfl
  have c18:=L12.out.cell 4 rfl
  have z19:=L12.out.fz
  cases hx:wordsP l with
  | err pe ce =>
   have W1:=lh (post_err (words_at S13.out.drew.ps) hx)
   have HR:Hid (namesP l=.err pe ce):=lh (by simp only [namesP,nodeA,Par.bind,X4.out,X11.out,hx])
   clear hx
   go_wp2_with fail
   go_region_with (go_at_call 205;(with_reducible refine W1.out.mono ?_);rintro e w2 ⟨rfl,hb⟩;refine region_out (P:=Tryz.prog) w2 ⟨rfl,of_err HR.out hb⟩ ?_)
   all_goals trivial
  | ok ks l2 =>
   have W1:=lh (post_ok (words_at S13.out.drew.ps) hx)
   have HR:Hid (namesP l=.ok (.mk 4 t.at' none0 0 ks) l2):=lh (by simp only [namesP,nodeA,Par.bind,Par.pure,X4.out,X11.out,hx])
   have HRM:Hid (md.length+sizeL ks+1+l2.length≤70000):=lh (by have h1:=hroom1.out;have h2:sizeL ks+0+l2.length≤0+l.length:=sz_words 0 _ _ _ hx;omega)
   have SD:=lh S13.out.drew
   have LD:=lh L12.out.drew
   clear hx S13 L12
   go_wp2_with fail
   go_region_held3 (fun w'=>w'.cell? ⟨w3.heap.size,0,none⟩=some (.int .u8 4)∧w'.cell? ⟨w3.heap.size,1,none⟩=some (.int .i64 (t.at':Int))∧w'.cell? ⟨w3.heap.size,2,none⟩=some (.string ⟨#[]⟩)∧w'.cell? ⟨w3.heap.size,3,none⟩=some (.int .i64 0)∧w'.cell? ⟨w3.heap.size,4,none⟩=some (.slice none 0 0)) (go_keep)
    (first
     | (go_at_call 205;(with_reducible refine W1.out.mono ?_);rintro e wp hW;obtain ⟨v2,n2,kv2,rfl,S2,T2,R2⟩:=SD.out.list hW;have L2:=LD.out.tr T2;have d0:=L2.cell 0 rfl;have d1:=L2.cell 1 rfl;have d2:=L2.cell 2 rfl;have d3:=L2.cell 3 rfl;have d4:=L2.cell 4 rfl)
     | (go_at_call 133;(with_reducible refine (S2.addC 4 t.at' 0 none0 (.slice none 0 0) (R2.mono SD.out.fr.size) (HRM.out)).mono ?_);rintro e wq ⟨⟨z,rfl⟩,hO,v3,hf3⟩;have k0:=(hf3.cell (p:=⟨w3.heap.size,0,none⟩) L2.lt (by have:=L2.loc.lt;simp only;omega) L2.loc.v).trans (L2.cell 0 rfl);have k1:=(hf3.cell (p:=⟨w3.heap.size,1,none⟩) L2.lt (by have:=L2.loc.lt;simp only;omega) L2.loc.v).trans (L2.cell 1 rfl);have k2:=(hf3.cell (p:=⟨w3.heap.size,2,none⟩) L2.lt (by have:=L2.loc.lt;simp only;omega) L2.loc.v).trans (L2.cell 2 rfl);have k3:=(hf3.cell (p:=⟨w3.heap.size,3,none⟩) L2.lt (by have:=L2.loc.lt;simp only;omega) L2.loc.v).trans (L2.cell 3 rfl);have k4:=(hf3.cell (p:=⟨w3.heap.size,4,none⟩) L2.lt (by have:=L2.loc.lt;simp only;omega) L2.loc.v).trans (L2.cell 4 rfl)))
   go_wp2
   go_ret
   exact of_ok HR.out hO
 | true =>
  have X11:Hid (isNextP ⟨#[41]⟩ l=.ok true l):=lh (by rw [hl,isNextP,hd])
  clear hs hf hl hd
  have L12:=lh (L8.out.tr T)
  have S13:=lh (S)
  clear S T S6 L8
  have c14:=L12.out.cell 0 rfl
  have c15:=L12.out.cell 1 rfl
  have c16:=L12.out.cell 2 rfl
  have c17:=L12.out.cell 3 rfl
  have c18:=L12.out.cell 4 rfl
  have z19:=L12.out.fz
  have HR:Hid (namesP l=.ok (.mk 4 t.at' none0 0 []) l):=lh (by simp only [namesP,nodeA,Par.bind,Par.pure,X4.out,X11.out])
  have RN:Hid (Rw E v (kvs++[]) w.heap.size (.slice none 0 0) [] w10):=lh Rw.nil
  have C20:=lh (add_at S13.out.ps (4) ((t.at':Int)) (0) (none0) (.slice none 0 0) (.slice none 0 0) (roots md.length []) RN.out.own RN.out.loc (by have h2:=hroom1.out;simp only [postL,List.append_nil,List.length_append,List.length_nil];omega))
  go_wp2_with fail
  clear c14 c15 c16 c17 c18 z19
  (with_reducible refine C20.out.mono ?_)
  rintro e wf hA
  have hO:=lh (S13.out.add (ts:=[]) rfl hA RN.out.ge)
  obtain ⟨z,rfl⟩:=hA.int
  clear C20
  go_wp2
  go_ret
  exact of_ok HR.out hO.out
end
end
section
open Go.RowKit
open Par (Less many many_err many_done many_more)
section
variable {E:Env}{v:Value}{kvs:List Value}{md:List Nd}{r:Nat}{l:List PT}{w:World}
theorem end_one {v0:Value}{kvs0 n:List Value}{md0:List Nd}{w0:World}{a:Ast}(h:St E v0 kvs0 md0 w0 [a] r l v n w)(k:Int)(p:Nat)(nn:Int)(t:ByteArray)(kz:Value) :
 Calls Tryz.prog 196 #[.pointer (some ⟨E.b,0,none⟩),.agg #[.int .u8 k,.int .i64 (p:Int),.string t,.int .i64 nn,kz],.slice (some ⟨w.heap.size,0,none⟩) 1 1] (w.alloc (.cells #[.int .i64 (rootI (md0.length+sizeL []) a)] 3)) (PostE E (endP (.mk k p t nn [a]) l) fun a l'=>OkA E v0 kvs0 md0 r w0 a l') :=
 end_at (h.alloc _) (Rw.lit h (q:=w.heap.size) rfl (ks:=roots md0.length [a]) (cs:=#[.int .i64 (rootI (md0.length+sizeL []) a)]) (m:=1) (by simp [roots,rootI,sizeL]<;>omega) (by simp [roots]) (by omega)) rfl
theorem release_at (h:PS E v kvs md r l w)(p:Nat):Calls Tryz.prog 122 #[.pointer (some ⟨E.b,0,none⟩),.int .i64 (p:Int)] w (PostE E (releaseP r p l) fun a l'=>OkA E v kvs md r w a l'):=by
 have hr64:=h.r64
 have RM:=lh h.room
 have S1:=lh (St.start h)
 have hnot:=nt
 clear h
 have S2:=lh (S1.out.alloc (.cells #[.int .u8 13,.int .i64 (p:Int),.string ⟨#[]⟩,.int .i64 0,.slice none 0 0] 54))
 have Q3:Hid (w.heap.size≤w.heap.size):=lh S1.out.fr.size
 have L4:=lh (Lcl.new S1.out.ps (.cells #[.int .u8 13,.int .i64 (p:Int),.string ⟨#[]⟩,.int .i64 0,.slice none 0 0] 54))
 clear S1
 go_enter Tryz.func122,Tryz.ntmps122
 have C5:=lh (take_at S2.out.ps 1 (by decide))
 go_wp2_with fail
 (with_reducible refine C5.out.mono ?_)
 rintro e w6 hP
 clear C5
 cases hx:takeP 1 l with
 | err pe ce =>
  obtain ⟨rfl,HB⟩:=pE hx hP
  replace hx:=lh hx
  go_wp2
  exact ⟨rfl,of_err (by simp only [releaseP,nodeA,Par.bind,hx.out]) HB.out⟩
 | ok t l1 =>
  rw [hx] at hP
  have X7:=lh hx
  obtain ⟨sp,rfl,hs,hf⟩:=hP
  obtain ⟨S,T⟩:=S2.out.same hs hf
  clear hs hf hx
  simp only [tokA]
  have L8:=lh (L4.out.tr T)
  have S9:=lh (S)
  clear S T S2 L4
  have c10:=L8.out.cell 0 rfl
  have c11:=L8.out.cell 1 rfl
  have c12:=L8.out.cell 2 rfl
  have c13:=L8.out.cell 3 rfl
  have c14:=L8.out.cell 4 rfl
  have z15:=L8.out.fz
  have hroom2:Hid (md.length+1+l1.length≤70000):=lh (by have h1:=RM.out;have h2:=takes_take _ _ _ _ X7.out;omega)
  have S16:=lh (S9.out.alloc (.cells #[.int .u8 t.kind,.int .i64 (t.at':Int),.int .i64 (sp:Int),.string t.txt,.int .i64 t.n] 29))
  have L17:=lh (L8.out.alloc (.cells #[.int .u8 t.kind,.int .i64 (t.at':Int),.int .i64 (sp:Int),.string t.txt,.int .i64 t.n] 29))
  have Q18:Hid (w.heap.size≤w6.heap.size):=lh S9.out.fr.size
  have L19:=lh (Lcl.new S9.out.ps (.cells #[.int .u8 t.kind,.int .i64 (t.at':Int),.int .i64 (sp:Int),.string t.txt,.int .i64 t.n] 29))
  clear S9 L8
  have C20:=lh (isNext_at S16.out.ps ⟨#[91]⟩)
  go_wp2_with fail
  clear c10 c11 c12 c13 c14 z15
  (with_reducible refine C20.out.mono ?_)
  rintro e w21 ⟨t21,l21,hl,rfl,hs,hf⟩
  clear C20
  obtain ⟨S,T⟩:=S16.out.same hs hf
  cases hd:decide (t21.txt=⟨#[91]⟩) with
  | false =>
   have X22:Hid (isNextP ⟨#[91]⟩ l1=.ok false l1):=lh (by rw [hl,isNextP,hd])
   clear hs hf hl hd
   have L23:=lh (L17.out.tr T)
   have L24:=lh (L19.out.tr T)
   have S25:=lh (S)
   clear S T S16 L17 L19
   have c26:=L23.out.cell 0 rfl
   have c27:=L23.out.cell 1 rfl
   have c28:=L23.out.cell 2 rfl
   have c29:=L23.out.cell 3 rfl
   have c30:=L23.out.cell 4 rfl
   have z31:=L23.out.fz
   have c32:=L24.out.cell 0 rfl
   have c33:=L24.out.cell 1 rfl
   have c34:=L24.out.cell 2 rfl
   have c35:=L24.out.cell 3 rfl
   have c36:=L24.out.cell 4 rfl
   have z37:=L24.out.fz
   have SD:=lh S25.out.drew
   have LD:=lh L23.out.drew
   cases hx:endP (.mk 13 p none0 0 [wordA t]) l1 with
   | err pe ce =>
    have HR:Hid (releaseP r p l=.err pe ce):=lh (by simp only [releaseP,nodeA,Par.bind,X7.out,X22.out,hx])
    have HE:=lh hx
    clear hx
    go_wp2_with fail
    go_region_with (first
     | (go_at_call 202;(with_reducible refine (addWord_at SD.out.ps t sp (by have h9:=hroom2.out;simp only [postL,List.append_nil];exact h9)).mono ?_);rintro e wp hA;obtain ⟨v2,n2,rfl,S2,T2⟩:=SD.out.ast (ts':=[wordA t]) hA rfl;have L2:=LD.out.tr T2;have d0:=L2.cell 0 rfl;have d1:=L2.cell 1 rfl;have d2:=L2.cell 2 rfl;have d3:=L2.cell 3 rfl;have d4:=L2.cell 4 rfl;have L3:=L2.alloc (.cells #[.int .i64 (rootI (md.length+sizeL []) (wordA t))] 3);have e0:=L3.cell 0 rfl;have e1:=L3.cell 1 rfl;have e2:=L3.cell 2 rfl;have e3:=L3.cell 3 rfl;have e4:=L3.cell 4 rfl)
     | (go_at_call 196;(with_reducible refine (post_err (end_one S2 13 p 0 none0 (.slice none 0 0)) HE.out).mono ?_);rintro e wq ⟨rfl,hb⟩;refine region_out (P:=Tryz.prog) wq ⟨rfl,of_err HR.out hb⟩ ?_))
    all_goals trivial
   | ok ka l5 =>
    have HR:Hid (releaseP r p l=.ok ka l5):=lh (by simp only [releaseP,nodeA,Par.bind,X7.out,X22.out,hx])
    have HE:=lh hx
    clear hx
    go_wp2_with fail
    go_region_with (first
     | (go_at_call 202;(with_reducible refine (addWord_at SD.out.ps t sp (by have h9:=hroom2.out;simp only [postL,List.append_nil];exact h9)).mono ?_);rintro e wp hA;obtain ⟨v2,n2,rfl,S2,T2⟩:=SD.out.ast (ts':=[wordA t]) hA rfl;have L2:=LD.out.tr T2;have d0:=L2.cell 0 rfl;have d1:=L2.cell 1 rfl;have d2:=L2.cell 2 rfl;have d3:=L2.cell 3 rfl;have d4:=L2.cell 4 rfl;have L3:=L2.alloc (.cells #[.int .i64 (rootI (md.length+sizeL []) (wordA t))] 3);have e0:=L3.cell 0 rfl;have e1:=L3.cell 1 rfl;have e2:=L3.cell 2 rfl;have e3:=L3.cell 3 rfl;have e4:=L3.cell 4 rfl)
     | (go_at_call 196;(with_reducible refine (post_ok (end_one S2 13 p 0 none0 (.slice none 0 0)) HE.out).mono ?_);rintro e wq hO;obtain ⟨z,rfl⟩:=OkA.int hO))
    all_goals go_wp2
    all_goals go_ret
    all_goals exact of_ok HR.out hO
  | true =>
   have X22:Hid (isNextP ⟨#[91]⟩ l1=.ok true l1):=lh (by rw [hl,isNextP,hd])
   clear hs hf hl hd
   have L23:=lh (L17.out.tr T)
   have L24:=lh (L19.out.tr T)
   have S25:=lh (S)
   clear S T S16 L17 L19
   have c26:=L23.out.cell 0 rfl
   have c27:=L23.out.cell 1 rfl
   have c28:=L23.out.cell 2 rfl
   have c29:=L23.out.cell 3 rfl
   have c30:=L23.out.cell 4 rfl
   have z31:=L23.out.fz
   have c32:=L24.out.cell 0 rfl
   have c33:=L24.out.cell 1 rfl
   have c34:=L24.out.cell 2 rfl
   have c35:=L24.out.cell 3 rfl
   have c36:=L24.out.cell 4 rfl
   have z37:=L24.out.fz
   have C38:=lh (rowOf_at S25.out.ps t sp)
   go_wp2_with fail
   clear c26 c27 c28 c29 c30 z31 c32 c33 c34 c35 c36 z37
   (with_reducible refine C38.out.mono ?_)
   rintro e w39 hP
   clear C38
   cases hx:rowOfP r t l1 with
   | err pe ce =>
    obtain ⟨rfl,HB⟩:=pE hx hP
    replace hx:=lh hx
    go_wp2
    exact ⟨rfl,of_err (by simp only [releaseP,nodeA,Par.bind,X7.out,X22.out,hx.out]) HB.out⟩
   | ok a l3 =>
    rw [hx] at hP
    have X40:=lh hx
    obtain ⟨v39,n39,rfl,S,T⟩:=S25.out.ast (ts':=[a]) hP rfl
    clear hP hx
    have L41:=lh (L23.out.tr T)
    have L42:=lh (L24.out.tr T)
    have S43:=lh (S)
    clear S T S25 L23 L24
    have c44:=L41.out.cell 0 rfl
    have c45:=L41.out.cell 1 rfl
    have c46:=L41.out.cell 2 rfl
    have c47:=L41.out.cell 3 rfl
    have c48:=L41.out.cell 4 rfl
    have z49:=L41.out.fz
    have c50:=L42.out.cell 0 rfl
    have c51:=L42.out.cell 1 rfl
    have c52:=L42.out.cell 2 rfl
    have c53:=L42.out.cell 3 rfl
    have c54:=L42.out.cell 4 rfl
    have z55:=L42.out.fz
    have R56:=lh (Rw.lit S43.out (q:=w39.heap.size) (by first|rfl|simp [World.setCell]) (ks:=roots md.length [a]) (cs:=#[.int .i64 (rootI (md.length+sizeL []) a)]) (m:=1) (by simp [roots,rootI,sizeL]<;>omega) (by simp [roots]) (by omega))
    have S57:=lh (S43.out.alloc (.cells #[.int .i64 (rootI (md.length+sizeL []) a)] 3))
    have L58:=lh (L41.out.alloc (.cells #[.int .i64 (rootI (md.length+sizeL []) a)] 3))
    have L59:=lh (L42.out.alloc (.cells #[.int .i64 (rootI (md.length+sizeL []) a)] 3))
    clear S43 L41 L42
    have C60:=lh (end_at (k:=13) (p:=p) (t:=none0) (nn:=0) (kz:=.slice none 0 0) S57.out R56.out rfl)
    go_wp2_with fail
    clear c44 c45 c46 c47 c48 z49 c50 c51 c52 c53 c54 z55
    (with_reducible refine C60.out.mono ?_)
    rintro e wf hP
    have HR:releaseP r p l=endP (.mk 13 p none0 0 [a]) l3:=by simp only [releaseP,nodeA,Par.bind,X7.out,X22.out,X40.out]
    rw [← HR] at hP
    have hfin:=lh hP
    rcases post_form hP with ⟨z,rfl⟩|⟨ch,rfl⟩
    · clear hP HR C60
      go_wp2
      go_ret
      exact hfin.out
    · clear hP HR C60
      go_wp2
      exact ⟨rfl,hfin.out⟩
theorem proc_at (h:PS E v kvs md 64 l w)(hB:∀v kvs md l w,PS E v kvs md 64 l w→Calls Tryz.prog 203 #[.pointer (some ⟨E.b,0,none⟩)] w (PostE E (blockP 64 l) fun a l'=>OkA E v kvs md 64 w a l')):Calls Tryz.prog 132 #[.pointer (some ⟨E.b,0,none⟩)] w (PostE E (procP l) fun a l'=>OkA E v kvs md 64 w a l'):=by
 have HBB:=lh hB
 clear hB
 have hr64:=h.r64
 have RM:=lh h.room
 have S1:=lh (St.start h)
 have fl3:=tok_f3
 have hnot:=nt
 clear h
 go_enter Tryz.func132,Tryz.ntmps132
 have C2:=lh (expect_at S1.out.ps ⟨#[112,114,111,99]⟩ (by decide))
 go_wp2_with fail
 (with_reducible refine C2.out.mono ?_)
 rintro e w3 hP
 clear C2
 cases hx:expectP ⟨#[112,114,111,99]⟩ l with
 | err pe ce =>
  obtain ⟨rfl,HB⟩:=pE hx hP
  replace hx:=lh hx
  go_wp2
  exact ⟨rfl,of_err (by simp only [procP,Par.bind,hx.out]) HB.out⟩
 | ok p l1 =>
  rw [hx] at hP
  have X4:=lh hx
  obtain ⟨rfl,hs,hf⟩:=hP
  obtain ⟨S,T⟩:=S1.out.same hs hf
  clear hs hf hx
  have S5:=lh (S)
  clear S T S1
  have S6:=lh (S5.out.alloc (.cells #[.int .u8 3,.int .i64 (p:Int),.string ⟨#[]⟩,.int .i64 0,.slice none 0 0] 54))
  have Q7:Hid (w.heap.size≤w3.heap.size):=lh S5.out.fr.size
  have L8:=lh (Lcl.new S5.out.ps (.cells #[.int .u8 3,.int .i64 (p:Int),.string ⟨#[]⟩,.int .i64 0,.slice none 0 0] 54))
  clear S5
  have C9:=lh (take_at S6.out.ps 1 (by decide))
  go_wp2_with fail
  (with_reducible refine C9.out.mono ?_)
  rintro e w10 hP
  clear C9
  cases hx:takeP 1 l1 with
  | err pe ce =>
   obtain ⟨rfl,HB⟩:=pE hx hP
   replace hx:=lh hx
   go_wp2
   exact ⟨rfl,of_err (by simp only [procP,Par.bind,X4.out,hx.out]) HB.out⟩
  | ok t l2 =>
   rw [hx] at hP
   have X11:=lh hx
   obtain ⟨sp,rfl,hs,hf⟩:=hP
   obtain ⟨S,T⟩:=S6.out.same hs hf
   clear hs hf hx
   simp only [tokA]
   have L12:=lh (L8.out.tr T)
   have S13:=lh (S)
   clear S T S6 L8
   have c14:=L12.out.cell 0 rfl
   have c15:=L12.out.cell 1 rfl
   have c16:=L12.out.cell 2 rfl
   have c17:=L12.out.cell 3 rfl
   have c18:=L12.out.cell 4 rfl
   have z19:=L12.out.fz
   have S20:=lh (S13.out.set (a:=⟨w3.heap.size,2,none⟩) L12.out.loc Q7.out (.string t.txt))
   have L21:=lh (L12.out.set 2 (.string t.txt))
   clear S13 L12
   have C22:=lh (expect_at S20.out.ps ⟨#[40]⟩ (by decide))
   go_wp2_with fail
   clear c14 c15 c16 c17 c18 z19
   (with_reducible refine C22.out.mono ?_)
   rintro e w23 hP
   clear C22
   cases hx:expectP ⟨#[40]⟩ l2 with
   | err pe ce =>
    obtain ⟨rfl,HB⟩:=pE hx hP
    replace hx:=lh hx
    go_wp2
    exact ⟨rfl,of_err (by simp only [procP,Par.bind,X4.out,X11.out,hx.out]) HB.out⟩
   | ok p3 l3 =>
    rw [hx] at hP
    have X24:=lh hx
    obtain ⟨rfl,hs,hf⟩:=hP
    obtain ⟨S,T⟩:=S20.out.same hs hf
    clear hs hf hx
    have L25:=lh (L21.out.tr T)
    have S26:=lh (S)
    clear S T S20 L21
    have c27:=L25.out.cell 0 rfl
    have c28:=L25.out.cell 1 rfl
    have c29:=L25.out.cell 2 rfl
    have c30:=L25.out.cell 3 rfl
    have c31:=L25.out.cell 4 rfl
    have z32:=L25.out.fz
    have hroom3:Hid (md.length+1+l3.length≤70000):=lh (by have h1:=RM.out;have h2:=takes_expect _ _ _ _ X4.out;have h3:=takes_take _ _ _ _ X11.out;have h4:=takes_expect _ _ _ _ X24.out;omega)
    have C33:=lh (names_at S26.out.ps (by have h9:=hroom3.out;simp only [postL,List.append_nil];exact h9))
    go_wp2_with fail
    clear c27 c28 c29 c30 c31 z32
    (with_reducible refine C33.out.mono ?_)
    rintro e w34 hP
    clear C33
    cases hx:namesP l3 with
    | err pe ce =>
     obtain ⟨rfl,HB⟩:=pE hx hP
     replace hx:=lh hx
     go_wp2
     exact ⟨rfl,of_err (by simp only [procP,Par.bind,X4.out,X11.out,X24.out,hx.out]) HB.out⟩
    | ok ns l4 =>
     rw [hx] at hP
     have X35:=lh hx
     obtain ⟨v34,n34,rfl,S,T⟩:=S26.out.ast (ts':=[ns]) hP rfl
     clear hP hx
     have L36:=lh (L25.out.tr T)
     have S37:=lh (S)
     clear S T S26 L25
     have c38:=L36.out.cell 0 rfl
     have c39:=L36.out.cell 1 rfl
     have c40:=L36.out.cell 2 rfl
     have c41:=L36.out.cell 3 rfl
     have c42:=L36.out.cell 4 rfl
     have z43:=L36.out.fz
     have C44:=lh (expect_at S37.out.ps ⟨#[41]⟩ (by decide))
     go_wp2_with fail
     clear c38 c39 c40 c41 c42 z43
     (with_reducible refine C44.out.mono ?_)
     rintro e w45 hP
     clear C44
     cases hx:expectP ⟨#[41]⟩ l4 with
     | err pe ce =>
      obtain ⟨rfl,HB⟩:=pE hx hP
      replace hx:=lh hx
      go_wp2
      exact ⟨rfl,of_err (by simp only [procP,Par.bind,X4.out,X11.out,X24.out,X35.out,hx.out]) HB.out⟩
     | ok p5 l5 =>
      rw [hx] at hP
      have X46:=lh hx
      obtain ⟨rfl,hs,hf⟩:=hP
      obtain ⟨S,T⟩:=S37.out.same hs hf
      clear hs hf hx
      have L47:=lh (L36.out.tr T)
      have S48:=lh (S)
      clear S T S37 L36
      have c49:=L47.out.cell 0 rfl
      have c50:=L47.out.cell 1 rfl
      have c51:=L47.out.cell 2 rfl
      have c52:=L47.out.cell 3 rfl
      have c53:=L47.out.cell 4 rfl
      have z54:=L47.out.fz
      have C55:=lh (skip_at S48.out.ps ⟨#[115,105,110,103,108,101]⟩ (by decide))
      go_wp2_with fail
      clear c49 c50 c51 c52 c53 z54
      (with_reducible refine C55.out.mono ?_)
      rintro e w56 hP
      clear C55
      cases hx:skipP ⟨#[115,105,110,103,108,101]⟩ l5 with
      | err pe ce =>
       obtain ⟨rfl,HB⟩:=pE hx hP
       replace hx:=lh hx
       go_wp2
       exact ⟨rfl,of_err (by simp only [procP,Par.bind,X4.out,X11.out,X24.out,X35.out,X46.out,hx.out]) HB.out⟩
      | ok u l6 =>
       rw [hx] at hP
       cases u with
       | false =>
        have X57:=lh hx
        obtain ⟨rfl,hs,hf⟩:=hP
        obtain ⟨S,T⟩:=S48.out.same hs hf
        clear hs hf hx
        have L58:=lh (L47.out.tr T)
        have S59:=lh (S)
        clear S T S48 L47
        have c60:=L58.out.cell 0 rfl
        have c61:=L58.out.cell 1 rfl
        have c62:=L58.out.cell 2 rfl
        have c63:=L58.out.cell 3 rfl
        have c64:=L58.out.cell 4 rfl
        have z65:=L58.out.fz
        have C66:=lh (HBB.out _ _ _ _ _ S59.out.ps)
        go_wp2_with fail
        clear c60 c61 c62 c63 c64 z65
        (with_reducible refine C66.out.mono ?_)
        rintro e w67 hP
        clear C66
        cases hx:blockP 64 l6 with
        | err pe ce =>
         obtain ⟨rfl,HB⟩:=pE hx hP
         replace hx:=lh hx
         go_wp2
         exact ⟨rfl,of_err (by simp only [procP,Par.bind,X4.out,X11.out,X24.out,X35.out,X46.out,X57.out,hx.out]) HB.out⟩
        | ok c l7 =>
         rw [hx] at hP
         have X68:=lh hx
         obtain ⟨v67,n67,rfl,S,T⟩:=S59.out.ast (ts':=[ns,c]) hP rfl
         clear hP hx
         have L69:=lh (L58.out.tr T)
         have S70:=lh (S)
         clear S T S59 L58
         have c71:=L69.out.cell 0 rfl
         have c72:=L69.out.cell 1 rfl
         have c73:=L69.out.cell 2 rfl
         have c74:=L69.out.cell 3 rfl
         have c75:=L69.out.cell 4 rfl
         have z76:=L69.out.fz
         have HR:Hid (procP l=.ok (.mk 3 p t.txt 0 [ns,c]) l7):=lh (by simp only [procP,Par.bind,Par.pure,X4.out,X11.out,X24.out,X35.out,X46.out,X57.out,X68.out])
         have R77:=lh (Rw.lit S70.out (q:=w67.heap.size) (by first|rfl|simp [World.setCell]) (ks:=roots md.length [ns,c]) (cs:=#[.int .i64 (rootI (md.length+sizeL []) ns),.int .i64 (rootI (md.length+sizeL [ns]) c)]) (m:=2) (by simp [roots,rootI,sizeL]<;>omega) (by simp [roots]) (by omega))
         have S78:=lh (S70.out.alloc (.cells #[.int .i64 (rootI (md.length+sizeL []) ns),.int .i64 (rootI (md.length+sizeL [ns]) c)] 3))
         have L79:=lh (L69.out.alloc (.cells #[.int .i64 (rootI (md.length+sizeL []) ns),.int .i64 (rootI (md.length+sizeL [ns]) c)] 3))
         clear S70 L69
         have C80:=lh (add_at S78.out.ps (3) ((p:Int)) (0) (t.txt) (.slice none 0 0) (.slice (some ⟨w67.heap.size,0,none⟩) 2 2) (roots md.length [ns,c]) R77.out.own R77.out.loc (by have h1:=RM.out;have h2:=sz_proc 0 _ _ _ HR.out;simp only [Ast.size] at h2;rw [List.length_append,postL_length];omega))
         go_wp2_with fail
         clear c71 c72 c73 c74 c75 z76
         (with_reducible refine C80.out.mono ?_)
         rintro e wf hA
         have hO:=lh (S78.out.add (ts:=[ns,c]) rfl hA R77.out.ge)
         obtain ⟨z,rfl⟩:=hA.int
         clear C80
         go_wp2
         go_ret
         exact of_ok HR.out hO.out
       | true =>
        have X57:=lh hx
        obtain ⟨rfl,hs,hf⟩:=hP
        obtain ⟨S,T⟩:=S48.out.same hs hf
        clear hs hf hx
        have L58:=lh (L47.out.tr T)
        have S59:=lh (S)
        clear S T S48 L47
        have c60:=L58.out.cell 0 rfl
        have c61:=L58.out.cell 1 rfl
        have c62:=L58.out.cell 2 rfl
        have c63:=L58.out.cell 3 rfl
        have c64:=L58.out.cell 4 rfl
        have z65:=L58.out.fz
        have S66:=lh (S59.out.set (a:=⟨w3.heap.size,3,none⟩) L58.out.loc Q7.out (.int .i64 1))
        have L67:=lh (L58.out.set 3 (.int .i64 1))
        clear S59 L58
        have C68:=lh (HBB.out _ _ _ _ _ S66.out.ps)
        go_wp2_with fail
        clear c60 c61 c62 c63 c64 z65
        (with_reducible refine C68.out.mono ?_)
        rintro e w69 hP
        clear C68
        cases hx:blockP 64 l6 with
        | err pe ce =>
         obtain ⟨rfl,HB⟩:=pE hx hP
         replace hx:=lh hx
         go_wp2
         exact ⟨rfl,of_err (by simp only [procP,Par.bind,X4.out,X11.out,X24.out,X35.out,X46.out,X57.out,hx.out]) HB.out⟩
        | ok c l7 =>
         rw [hx] at hP
         have X70:=lh hx
         obtain ⟨v69,n69,rfl,S,T⟩:=S66.out.ast (ts':=[ns,c]) hP rfl
         clear hP hx
         have L71:=lh (L67.out.tr T)
         have S72:=lh (S)
         clear S T S66 L67
         have c73:=L71.out.cell 0 rfl
         have c74:=L71.out.cell 1 rfl
         have c75:=L71.out.cell 2 rfl
         have c76:=L71.out.cell 3 rfl
         have c77:=L71.out.cell 4 rfl
         have z78:=L71.out.fz
         have HR:Hid (procP l=.ok (.mk 3 p t.txt 1 [ns,c]) l7):=lh (by simp only [procP,Par.bind,Par.pure,X4.out,X11.out,X24.out,X35.out,X46.out,X57.out,X70.out])
         have R79:=lh (Rw.lit S72.out (q:=w69.heap.size) (by first|rfl|simp [World.setCell]) (ks:=roots md.length [ns,c]) (cs:=#[.int .i64 (rootI (md.length+sizeL []) ns),.int .i64 (rootI (md.length+sizeL [ns]) c)]) (m:=2) (by simp [roots,rootI,sizeL]<;>omega) (by simp [roots]) (by omega))
         have S80:=lh (S72.out.alloc (.cells #[.int .i64 (rootI (md.length+sizeL []) ns),.int .i64 (rootI (md.length+sizeL [ns]) c)] 3))
         have L81:=lh (L71.out.alloc (.cells #[.int .i64 (rootI (md.length+sizeL []) ns),.int .i64 (rootI (md.length+sizeL [ns]) c)] 3))
         clear S72 L71
         have C82:=lh (add_at S80.out.ps (3) ((p:Int)) (1) (t.txt) (.slice none 0 0) (.slice (some ⟨w69.heap.size,0,none⟩) 2 2) (roots md.length [ns,c]) R79.out.own R79.out.loc (by have h1:=RM.out;have h2:=sz_proc 0 _ _ _ HR.out;simp only [Ast.size] at h2;rw [List.length_append,postL_length];omega))
         go_wp2_with fail
         clear c73 c74 c75 c76 c77 z78
         (with_reducible refine C82.out.mono ?_)
         rintro e wf hA
         have hO:=lh (S80.out.add (ts:=[ns,c]) rfl hA R79.out.ge)
         obtain ⟨z,rfl⟩:=hA.int
         clear C82
         go_wp2
         go_ret
         exact of_ok HR.out hO.out
end
end
section
open Go.RowKit Go.MapKept
instance:LawfulBEq ByteArray where
 eq_of_beq:=fun {a b} h=>(bytes_beq a b).1 h
 rfl:=fun {a}=>(bytes_beq a a).2 rfl
def fnOf:Nat→Nat
 | 0 => 116
 | 1 => 117
 | 2 => 118
 | 3 => 119
 | 4 => 120
 | 5 => 121
 | 6 => 122
 | 7 => 123
 | 8 => 124
 | 9 => 125
 | 10 => 126
 | 11 => 127
 | 12 => 128
 | _=>0
def entS (s:ByteArray)(j:Nat):MapEntry:={ key:=.string s,val:=.func (.func (fnOf j)) #[] #[],born:=j }
def ES13:Array MapEntry:=#[entS ⟨#[114,101,97,100]⟩ 0,entS ⟨#[115,101,116]⟩ 1,entS ⟨#[112,117,116]⟩ 2,entS ⟨#[100,101,108,101,116,101]⟩ 3,entS ⟨#[115,99,97,110]⟩ 4,entS ⟨#[108,111,99,107]⟩ 5,entS ⟨#[114,101,108,101,97,115,101]⟩ 6,entS ⟨#[105,102]⟩ 7,entS ⟨#[102,111,114]⟩ 8,entS ⟨#[108,101,116]⟩ 9,entS ⟨#[101,109,105,116]⟩ 10,entS ⟨#[114,111,108,108,98,97,99,107]⟩ 11,entS ⟨#[99,104,111,112]⟩ 12]
theorem es13_keys:∀x∈ES13.toList,IsKey .string x.key:=by
 intro x hx
 simp only [ES13,List.mem_cons,List.not_mem_nil,or_false] at hx
 rcases hx with rfl|rfl|rfl|rfl|rfl|rfl|rfl|rfl|rfl|rfl|rfl|rfl|rfl<;>trivial
theorem es13_find (s:ByteArray):(Instr.findNow .string (.string s) ES13.toList 0=some none∧¬ words13.idxOf s<13) ∨
 (words13.idxOf s<13∧∃i,Instr.findNow .string (.string s) ES13.toList 0=some (some (i,.func (.func (fnOf (words13.idxOf s))) #[] #[]))):=by
 rcases findNow_spec (d:=.string) (k:=.string s) (by simp [IsKey]) ES13.toList 0 es13_keys with ⟨h1,h2⟩|⟨j,e,h1,h2,h3⟩
 · refine Or.inl ⟨h1,fun hlt=>?_⟩
   have hmem:s∈words13:=List.idxOf_lt_length_iff.1 hlt
   simp only [words13,List.mem_cons,List.not_mem_nil,or_false] at hmem
   rcases hmem with rfl|rfl|rfl|rfl|rfl|rfl|rfl|rfl|rfl|rfl|rfl|rfl|rfl
   · exact h2 (entS ⟨#[114,101,97,100]⟩ 0) (by simp [ES13]) rfl
   · exact h2 (entS ⟨#[115,101,116]⟩ 1) (by simp [ES13]) rfl
   · exact h2 (entS ⟨#[112,117,116]⟩ 2) (by simp [ES13]) rfl
   · exact h2 (entS ⟨#[100,101,108,101,116,101]⟩ 3) (by simp [ES13]) rfl
   · exact h2 (entS ⟨#[115,99,97,110]⟩ 4) (by simp [ES13]) rfl
   · exact h2 (entS ⟨#[108,111,99,107]⟩ 5) (by simp [ES13]) rfl
   · exact h2 (entS ⟨#[114,101,108,101,97,115,101]⟩ 6) (by simp [ES13]) rfl
   · exact h2 (entS ⟨#[105,102]⟩ 7) (by simp [ES13]) rfl
   · exact h2 (entS ⟨#[102,111,114]⟩ 8) (by simp [ES13]) rfl
   · exact h2 (entS ⟨#[108,101,116]⟩ 9) (by simp [ES13]) rfl
   · exact h2 (entS ⟨#[101,109,105,116]⟩ 10) (by simp [ES13]) rfl
   · exact h2 (entS ⟨#[114,111,108,108,98,97,99,107]⟩ 11) (by simp [ES13]) rfl
   · exact h2 (entS ⟨#[99,104,111,112]⟩ 12) (by simp [ES13]) rfl
 · have hj:j<13:=by
    have:=(List.getElem?_eq_some_iff.1 h2).1
    simpa [ES13] using this
   have key:∀j,j<13→∀e,ES13.toList[j]?=some e→e.key=.string s→words13.idxOf s=j∧e.val=.func (.func (fnOf j)) #[] #[]:=by
    intro j hj e h2 h3
    obtain rfl|rfl|rfl|rfl|rfl|rfl|rfl|rfl|rfl|rfl|rfl|rfl|rfl:j=0∨j=1∨j=2∨j=3∨j=4∨j=5∨j=6∨j=7∨j=8∨j=9∨j=10∨j=11∨j=12:=by omega
    all_goals
     simp only [ES13,List.getElem?_cons_succ,List.getElem?_cons_zero,Option.some.injEq] at h2
     subst h2
     obtain rfl:=Value.string.inj h3
     exact ⟨by decide,rfl⟩
   obtain ⟨h4,h5⟩:=key j hj e h2 h3
   refine Or.inr ⟨by omega,0+j,?_⟩
   rw [h1,h5,h4]
theorem look_no (W:World)(rb n:Nat)(s:ByteArray)(hb:W.heap[rb]?=some (.map ES13 n))(hs:¬ words13.idxOf s<13):(Instr.lookup 122 (.map (some rb)) (.string s) true).run Tryz.prog W=.ok (.tuple #[.nilFunc,.bool false]) W:=by
 have hf:Instr.findNow .string (.string s) ES13.toList 0=some none:=by
  rcases es13_find s with ⟨h,_⟩|⟨h,_⟩
  · exact h
  · exact absurd h hs
 have hk:∀b,(Instr.checkKey b 10000 9 (.string s)).run Tryz.prog W=.ok () W:=fun b=>run_checkKey Tryz.underlying9 (by simp [IsKey]) b 9999
 have hz:(zeroValue 192).run Tryz.prog W=.ok .nilFunc W:=by kernel_rfl
 simp only [Instr.lookup,Sem.run_bind,run_underlying Tryz.underlying122,Result.andThen,Go.MapKept.run_getObj_map hb,hk,run_findKey (P:=Tryz.prog) Tryz.underlying9 hf,Sem.run_pure,hz]
 simp
theorem look_yes (W:World)(rb n:Nat)(s:ByteArray)(hb:W.heap[rb]?=some (.map ES13 n))(hs:words13.idxOf s<13):(Instr.lookup 122 (.map (some rb)) (.string s) true).run Tryz.prog W=.ok (.tuple #[.func (.func (fnOf (words13.idxOf s))) #[] #[],.bool true]) W:=by
 obtain ⟨i,hf⟩:∃i,Instr.findNow .string (.string s) ES13.toList 0=some (some (i,.func (.func (fnOf (words13.idxOf s))) #[] #[])):=by
  rcases es13_find s with ⟨_,h⟩|⟨_,h⟩
  · exact absurd hs h
  · exact h
 have hk:∀b,(Instr.checkKey b 10000 9 (.string s)).run Tryz.prog W=.ok () W:=fun b=>run_checkKey Tryz.underlying9 (by simp [IsKey]) b 9999
 simp only [Instr.lookup,Sem.run_bind,run_underlying Tryz.underlying122,Result.andThen,Go.MapKept.run_getObj_map hb,hk,run_findKey (P:=Tryz.prog) Tryz.underlying9 hf,Sem.run_pure]
 simp
theorem insert_str (w:World)(es:Array MapEntry)(n:Nat)(s:ByteArray)(v:Value)(h:Instr.findNow .string (.string s) es.toList 0=some none) :
 (Instr.mapUpdate 122 (.map (some w.heap.size)) (.string s) v).run Tryz.prog (w.alloc (.map es n))=.ok () (w.alloc (.map (es.push { key:=.string s,val:=v,born:=n }) (n+1))):=by
 have hb:(w.alloc (.map es n)).heap[w.heap.size]?=some (.map es n):=by
  show (w.heap.push (.map es n))[w.heap.size]?=_
  simp
 have hk:(Instr.checkKey false 10000 9 (.string s)).run Tryz.prog (w.alloc (.map es n))=.ok () (w.alloc (.map es n)):=run_checkKey Tryz.underlying9 (by simp [IsKey]) false 9999
 have hp:∀(a:Array Obj) (x y:Obj),(a.push x).setIfInBounds a.size y=a.push y:=fun a x y=>by
  apply Array.ext_getElem?
  intro i
  by_cases h:i=a.size
  · subst h;simp
  · have h':¬ a.size=i:=fun e=>h e.symm
    simp [Array.getElem?_push,h,h']
 have hw:∀o:Obj,({ w.alloc (.map es n) with heap:=(w.alloc (.map es n)).heap.setIfInBounds w.heap.size o }:World)=w.alloc o:=fun o=>by
  show ({ w with heap:=(w.heap.push (.map es n)).setIfInBounds w.heap.size o }:World)=_
  rw [hp]
  rfl
 simp only [Instr.mapUpdate,Sem.run_bind,run_underlying Tryz.underlying122,Result.andThen,Go.MapKept.run_getObj_map hb,hk,run_findKey (P:=Tryz.prog) Tryz.underlying9 h,run_setObj_map _ hb,hw]
def EE (k:Nat):Array MapEntry:=(ES13.toList.take k).toArray
theorem statements_at (w:World):Calls Tryz.prog 72 #[] w fun e w'=>e=.returned (.map (some w.heap.size))∧w'=w.alloc (.map ES13 13):=by
 have hmm:=@run_makeMap Tryz.prog
 have i0:(Instr.mapUpdate 122 (.map (some w.heap.size)) (.string ⟨#[114,101,97,100]⟩) (.func (.func 116) #[] #[])).run Tryz.prog (w.alloc (.map #[] 0))=.ok () (w.alloc (.map (EE 1) 1)):=insert_str w #[] 0 _ _ rfl
 have i1:(Instr.mapUpdate 122 (.map (some w.heap.size)) (.string ⟨#[115,101,116]⟩) (.func (.func 117) #[] #[])).run Tryz.prog (w.alloc (.map (EE 1) 1))=.ok () (w.alloc (.map (EE 2) 2)):=insert_str w (EE 1) 1 _ _ rfl
 have i2:(Instr.mapUpdate 122 (.map (some w.heap.size)) (.string ⟨#[112,117,116]⟩) (.func (.func 118) #[] #[])).run Tryz.prog (w.alloc (.map (EE 2) 2))=.ok () (w.alloc (.map (EE 3) 3)):=insert_str w (EE 2) 2 _ _ rfl
 have i3:(Instr.mapUpdate 122 (.map (some w.heap.size)) (.string ⟨#[100,101,108,101,116,101]⟩) (.func (.func 119) #[] #[])).run Tryz.prog (w.alloc (.map (EE 3) 3))=.ok () (w.alloc (.map (EE 4) 4)):=insert_str w (EE 3) 3 _ _ rfl
 have i4:(Instr.mapUpdate 122 (.map (some w.heap.size)) (.string ⟨#[115,99,97,110]⟩) (.func (.func 120) #[] #[])).run Tryz.prog (w.alloc (.map (EE 4) 4))=.ok () (w.alloc (.map (EE 5) 5)):=insert_str w (EE 4) 4 _ _ rfl
 have i5:(Instr.mapUpdate 122 (.map (some w.heap.size)) (.string ⟨#[108,111,99,107]⟩) (.func (.func 121) #[] #[])).run Tryz.prog (w.alloc (.map (EE 5) 5))=.ok () (w.alloc (.map (EE 6) 6)):=insert_str w (EE 5) 5 _ _ rfl
 have i6:(Instr.mapUpdate 122 (.map (some w.heap.size)) (.string ⟨#[114,101,108,101,97,115,101]⟩) (.func (.func 122) #[] #[])).run Tryz.prog (w.alloc (.map (EE 6) 6))=.ok () (w.alloc (.map (EE 7) 7)):=insert_str w (EE 6) 6 _ _ rfl
 have i7:(Instr.mapUpdate 122 (.map (some w.heap.size)) (.string ⟨#[105,102]⟩) (.func (.func 123) #[] #[])).run Tryz.prog (w.alloc (.map (EE 7) 7))=.ok () (w.alloc (.map (EE 8) 8)):=insert_str w (EE 7) 7 _ _ rfl
 have i8:(Instr.mapUpdate 122 (.map (some w.heap.size)) (.string ⟨#[102,111,114]⟩) (.func (.func 124) #[] #[])).run Tryz.prog (w.alloc (.map (EE 8) 8))=.ok () (w.alloc (.map (EE 9) 9)):=insert_str w (EE 8) 8 _ _ rfl
 have i9:(Instr.mapUpdate 122 (.map (some w.heap.size)) (.string ⟨#[108,101,116]⟩) (.func (.func 125) #[] #[])).run Tryz.prog (w.alloc (.map (EE 9) 9))=.ok () (w.alloc (.map (EE 10) 10)):=insert_str w (EE 9) 9 _ _ rfl
 have i10:(Instr.mapUpdate 122 (.map (some w.heap.size)) (.string ⟨#[101,109,105,116]⟩) (.func (.func 126) #[] #[])).run Tryz.prog (w.alloc (.map (EE 10) 10))=.ok () (w.alloc (.map (EE 11) 11)):=insert_str w (EE 10) 10 _ _ rfl
 have i11:(Instr.mapUpdate 122 (.map (some w.heap.size)) (.string ⟨#[114,111,108,108,98,97,99,107]⟩) (.func (.func 127) #[] #[])).run Tryz.prog (w.alloc (.map (EE 11) 11))=.ok () (w.alloc (.map (EE 12) 12)):=insert_str w (EE 11) 11 _ _ rfl
 have i12:(Instr.mapUpdate 122 (.map (some w.heap.size)) (.string ⟨#[99,104,111,112]⟩) (.func (.func 128) #[] #[])).run Tryz.prog (w.alloc (.map (EE 12) 12))=.ok () (w.alloc (.map (EE 13) 13)):=insert_str w (EE 12) 12 _ _ rfl
 go_enter Tryz.func72,Tryz.ntmps72
 go_wp2_with fail
 go_ret
 exact ⟨rfl,rfl⟩
end
section
open Go.RowKit Go.MapKept
def MapAt (E:Env):Prop:=∃rb,E.mp=.map (some rb)∧rb<E.b∧E.W.heap[rb]?=some (.map ES13 13)
section
variable {E:Env}{v:Value}{kvs:List Value}{md:List Nd}{r:Nat}{l:List PT}{w:World}
theorem St.drewN {v0:Value}{kvs0 n:List Value}{md0:List Nd}{w0:World}{ts:List Ast}(h:St E v0 kvs0 md0 w0 ts r l v n w)(m:Nat):St E v0 kvs0 md0 w0 ts r l v n (w.drewN m):=⟨h.ps.grown (grownBy_drewN w m) (fun q e=>by cases e),h.nw,h.fr.grown (grownBy_drewN w m) h.fr.size (fun q e=>by cases e)⟩
theorem Lcl.drewN {q:Nat}{o:Obj}(h:Lcl E v kvs q o w)(m:Nat):Lcl E v kvs q o (w.drewN m):=h.grown (grownBy_drewN w m) (by simp)
theorem mapIn (hm:MapAt E)(h:PS E v kvs md r l w):∃rb,E.mp=.map (some rb)∧w.heap[rb]?=some (.map ES13 13):=by
 obtain ⟨rb,h1,h2,h3⟩:=hm
 exact ⟨rb,h1,by rw [h.below.block rb h2];exact h3⟩
theorem rest_at {B:Par Ast}(j:Nat)(hj:j<13)(h:PS E v kvs md r l w)(p:Nat)(hB:∀v kvs md l w,PS E v kvs md r l w→Calls Tryz.prog 203 #[.pointer (some ⟨E.b,0,none⟩)] w (PostE E (B l) fun a l'=>OkA E v kvs md r w a l'))(hszB:∀c,Sz c B (fun a=>a.size+c))(hroom1:md.length+1+l.length≤70000) :
 Calls Tryz.prog (fnOf j) #[.pointer (some ⟨E.b,0,none⟩),.int .i64 (p:Int)] w (PostE E (restP r B j p l) fun a l'=>OkA E v kvs md r w a l'):=by
 obtain rfl|rfl|rfl|rfl|rfl|rfl|rfl|rfl|rfl|rfl|rfl|rfl|rfl:j=0∨j=1∨j=2∨j=3∨j=4∨j=5∨j=6∨j=7∨j=8∨j=9∨j=10∨j=11∨j=12:=by omega
 · exact read_at h p
 · exact set_at h p
 · exact put_at h p
 · exact delete_at h p
 · exact scan_at h p
 · exact lock_at h p
 · exact release_at h p
 · exact if_at h p hB hszB hroom1
 · exact for_at h p hB hszB hroom1
 · exact let_at h p
 · exact emit_at h p
 · exact rollback_at h p
 · exact chop_at h p
theorem statement_at {B:Par Ast}(hm:MapAt E)(h:PS E v kvs md r l w)(hB:∀v kvs md l w,PS E v kvs md r l w→Calls Tryz.prog 203 #[.pointer (some ⟨E.b,0,none⟩)] w (PostE E (B l) fun a l'=>OkA E v kvs md r w a l'))(hszB:∀c,Sz c B (fun a=>a.size+c)) :
 Calls Tryz.prog 243 #[.pointer (some ⟨E.b,0,none⟩)] w (PostE E (stmtP r B l) fun a l'=>OkA E v kvs md r w a l'):=by
 have RM:=lh h.room
 have S0:=lh (St.start h)
 have HBB:=lh hB
 have C:=lh (peek_at S0.out.ps)
 have hnot:=nt
 clear h hB
 go_enter Tryz.func243,Tryz.ntmps243
 go_wp2_with fail
 (with_reducible refine C.out.mono ?_)
 rintro e w1 ⟨t,l1,sp,hl,rfl,hs,hf⟩
 subst hl
 obtain ⟨S,T⟩:=S0.out.same hs hf
 have S1:=lh (S.alloc (.cells #[.int .u8 t.kind,.int .i64 (t.at':Int),.int .i64 (sp:Int),.string t.txt,.int .i64 t.n] 29))
 have L1:=lh (Lcl.new S.ps (.cells #[.int .u8 t.kind,.int .i64 (t.at':Int),.int .i64 (sp:Int),.string t.txt,.int .i64 t.n] 29))
 obtain ⟨rb,hrb,hmap⟩:=mapIn hm S1.out.ps
 obtain ⟨i,t0,l0,sp0,hl,hl0,hi,hb,_,_,_,_,_⟩:=S1.out.ps.head
 obtain ⟨rfl,rfl⟩:=List.cons.inj hl
 have hfew:=S1.out.ps.few
 have c1:=cell_of_row _ E.b 1 _ _ _ hb
 have c3:=cell_of_row _ E.b 3 _ _ _ hb
 simp only [List.getElem?_toArray,List.getElem?_cons_zero,List.getElem?_cons_succ] at c1 c3
 rw [hrb] at c3
 have z1:=S1.out.ps.fz
 have k0:=L1.out.cell 0 rfl
 have k1:=L1.out.cell 1 rfl
 have k2:=L1.out.cell 2 rfl
 have k3:=L1.out.cell 3 rfl
 have k4:=L1.out.cell 4 rfl
 have HB:=lh hb
 have HL0:=lh hl0
 have hne1:¬ w1.heap.size=E.b:=fun e=>by have:=L1.out.loc.lt;omega
 have hne2:¬ E.b=w1.heap.size:=fun e=>hne1 e.symm
 clear hs hf S T S0 C hl hb hl0
 simp only [tokA]
 by_cases hx:words13.idxOf t.txt<13
 · have HR:Hid (stmtP r B (t::l1)=restP r B (words13.idxOf t.txt) t.at' l1):=lh (by simp only [stmtP,Par.bind,peekP,nextP,if_pos hx])
   have hlk:∀n,(Instr.lookup 122 (.map (some rb)) (.string t.txt) true).run Tryz.prog ((w1.alloc (.cells #[.int .u8 t.kind,.int .i64 (t.at':Int),.int .i64 (sp:Int),.string t.txt,.int .i64 t.n] 29)).drewN n)=.ok (.tuple #[.func (.func (fnOf (words13.idxOf t.txt))) #[] #[],.bool true]) ((w1.alloc (.cells #[.int .u8 t.kind,.int .i64 (t.at':Int),.int .i64 (sp:Int),.string t.txt,.int .i64 t.n] 29)).drewN n):=fun n=>look_yes _ rb 13 t.txt hmap hx
   have hlk0:(Instr.lookup 122 (.map (some rb)) (.string t.txt) true).run Tryz.prog (w1.alloc (.cells #[.int .u8 t.kind,.int .i64 (t.at':Int),.int .i64 (sp:Int),.string t.txt,.int .i64 t.n] 29))=.ok (.tuple #[.func (.func (fnOf (words13.idxOf t.txt))) #[] #[],.bool true]) (w1.alloc (.cells #[.int .u8 t.kind,.int .i64 (t.at':Int),.int .i64 (sp:Int),.string t.txt,.int .i64 t.n] 29)):=look_yes _ rb 13 t.txt hmap hx
   have HJ:=lh hx
   have hne:t.txt≠none0:=fun e=>by rw [e] at hx;revert hx;decide
   have HN:=lh hne
   clear hx hne
   generalize hj:words13.idxOf t.txt=j at *
   have HG:=lh hj
   clear hj
   generalize hfj:fnOf j=fj at *
   have HF:=lh hfj
   clear hfj
   go_wp2_with fail
   go_quiet (fail)
   have S2:=lh (S1.out.drewN nq)
   have S3:=lh (S2.out.next (Or.inr HN.out) HL0.out HB.out)
   have C:=rest_at j HJ.out S3.out.ps t.at' HBB.out hszB (by have h9:=RM.out;simp only [postL,List.append_nil];rw [List.length_cons] at h9;omega)
   rw [HF.out] at C
   have C:=lh C
   clear hlk hlk0 HBB
   have hj13:j=0∨j=1∨j=2∨j=3∨j=4∨j=5∨j=6∨j=7∨j=8∨j=9∨j=10∨j=11∨j=12:=by have:=HJ.out;omega
   obtain rfl|rfl|rfl|rfl|rfl|rfl|rfl|rfl|rfl|rfl|rfl|rfl|rfl:=hj13
   all_goals
    have e9:=HF.out
    simp only [fnOf] at e9
    subst e9
    clear HF
    go_wp2_with fail
    (with_reducible refine C.out.mono ?_)
    rintro e wf hP
    have hP:=PostE.lift S3.out hP
    rw [← HR.out] at hP
    have hfin:=lh hP
    rcases post_form hP with ⟨z,rfl⟩|⟨ch,rfl⟩
    · clear hP HR C
      go_wp2
      go_ret
      exact hfin.out
    · clear hP HR C
      go_wp2
      exact ⟨rfl,hfin.out⟩
 · have HR:Hid (stmtP r B (t::l1)=.err t.at' 50):=lh (by simp only [stmtP,Par.bind,peekP,failP,if_neg hx])
   have hlk:∀n,(Instr.lookup 122 (.map (some rb)) (.string t.txt) true).run Tryz.prog ((w1.alloc (.cells #[.int .u8 t.kind,.int .i64 (t.at':Int),.int .i64 (sp:Int),.string t.txt,.int .i64 t.n] 29)).drewN n)=.ok (.tuple #[.nilFunc,.bool false]) ((w1.alloc (.cells #[.int .u8 t.kind,.int .i64 (t.at':Int),.int .i64 (sp:Int),.string t.txt,.int .i64 t.n] 29)).drewN n):=fun n=>look_no _ rb 13 t.txt hmap hx
   have hlk0:(Instr.lookup 122 (.map (some rb)) (.string t.txt) true).run Tryz.prog (w1.alloc (.cells #[.int .u8 t.kind,.int .i64 (t.at':Int),.int .i64 (sp:Int),.string t.txt,.int .i64 t.n] 29))=.ok (.tuple #[.nilFunc,.bool false]) (w1.alloc (.cells #[.int .u8 t.kind,.int .i64 (t.at':Int),.int .i64 (sp:Int),.string t.txt,.int .i64 t.n] 29)):=look_no _ rb 13 t.txt hmap hx
   clear hx
   go_wp2_with fail
   go_quiet (fail)
   have S2:=lh (S1.out.drewN nq)
   have RF:=lh (refused_at S2.out.ps 50)
   go_wp2_with fail
   (with_reducible refine RF.out.mono ?_)
   rintro e w3 ⟨t3,l3,hl,rfl,hb⟩
   obtain ⟨rfl,rfl⟩:=List.cons.inj hl
   have HB:=lh hb
   clear RF hb
   go_wp2
   exact ⟨rfl,of_err HR.out HB.out⟩
theorem blockR_at (hm:MapAt E)(r:Nat):∀(v:Value) (kvs:List Value) (md:List Nd) (l:List PT) (w:World),PS E v kvs md r l w→Calls Tryz.prog 203 #[.pointer (some ⟨E.b,0,none⟩)] w (PostE E (blockP r l) fun a l'=>OkA E v kvs md r w a l'):=by
 induction r with
 | zero=>exact fun v kvs md l w h=>block_at (st:=failP) h (fun h0=>absurd h0 (by omega)) takes_fail (fun _=>Sz.fail)
 | succ r ih=>exact fun v kvs md l w h=>block_at (st:=stmtP r (blockP r)) h (fun _ v kvs md l w hp=>statement_at hm hp ih (sz_block r)) (takes_stmt r (less_block r)) (sz_stmt r (sz_block r))
end
end
section
open Go.RowKit
open Par (Less many many_err many_done many_more)
section
variable {E:Env}{v:Value}{kvs:List Value}{md:List Nd}{r:Nat}{l:List PT}{w:World}
theorem program_at (h:PS E v kvs md 64 l w)(hm:MapAt E)(hroom:md.length+1+l.length≤70000):Calls Tryz.prog 73 #[.pointer (some ⟨E.b,0,none⟩)] w (PostE E (programP l) fun a l'=>OkA E v kvs md 64 w a l'):=by
 have hr64:=h.r64
 have RM:=lh h.room
 have S1:=lh (St.start h)
 have fl0:=tok_f0
 have fl1:=tok_f1
 have hnot:=nt
 clear h
 go_enter Tryz.func73,Tryz.ntmps73
 have hroom1:=lh hroom
 have HBB:=lh (blockR_at hm 64)
 have C2:=lh (peek_at S1.out.ps)
 go_wp2_with fail
 (with_reducible refine C2.out.mono ?_)
 rintro e w3 ⟨t,l1,sp,hl,rfl,hs,hf⟩
 clear C2
 have X4:Hid (peekP l=.ok t l):=lh (by rw [hl,peekP])
 obtain ⟨S,T⟩:=S1.out.same hs hf
 have HL:=lh hl
 clear hs hf hl
 simp only [tokA]
 have S5:=lh (S)
 clear S T S1
 have S6:=lh (S5.out.alloc (.cells #[.int .u8 1,.int .i64 (t.at':Int),.string ⟨#[]⟩,.int .i64 0,.slice none 0 0] 54))
 have Q7:Hid (w.heap.size≤w3.heap.size):=lh S5.out.fr.size
 have L8:=lh (Lcl.new S5.out.ps (.cells #[.int .u8 1,.int .i64 (t.at':Int),.string ⟨#[]⟩,.int .i64 0,.slice none 0 0] 54))
 clear S5
 have RN:Hid (Rw E v (kvs++[]) (w3.heap.size+1) (.slice none 0 0) (roots md.length []) (w3.alloc (.cells #[.int .u8 1,.int .i64 (t.at':Int),.string ⟨#[]⟩,.int .i64 0,.slice none 0 0] 54))):=lh Rw.nil
 obtain ⟨i0,hi,hz0,hz1,hz2⟩:=info_partsP infoInt
 have I0:=lh hi
 have I1:=lh hz0
 have I2:=lh hz1
 have I3:=lh hz2
 clear hi hz0 hz1 hz2
 go_wp2_with fail
 go_loopw [4] (fun kvL wr=>∃(ts:List Ast) (lk:List PT) (vk:Value) (nk:List Value),Hid (St E v kvs md w ts 64 lk vk nk wr)∧Hid (Rw E vk (kvs++nk) (w3.heap.size+1) kvL (roots md.length ts) wr)∧Hid (Lcl E vk (kvs++nk) (w3.heap.size) (.cells #[.int .u8 1,.int .i64 (t.at':Int),.string ⟨#[]⟩,.int .i64 0,.slice none 0 0] 54 (0,0)) wr)∧Hid (many progStep [] l=many progStep ts lk)) (fun _ wr=>E.toks.length-nextOf E wr)
 case atStart=>exact ⟨[],l,_,_,S6,RN,L8,lh rfl⟩
 case round =>
  obtain ⟨ts,lk,vk,nk,S0,R0,L0,HM⟩:=hrel
  have hleft:=lh S0.out.ps.left
  clear S6 RN L8
  have c9:=L0.out.cell 0 rfl
  have c10:=L0.out.cell 1 rfl
  have c11:=L0.out.cell 2 rfl
  have c12:=L0.out.cell 3 rfl
  have c13:=L0.out.cell 4 rfl
  have z14:=L0.out.fz
  have C15:=lh (peek_at S0.out.ps)
  go_wp2_with fail
  clear c9 c10 c11 c12 c13 z14
  (with_reducible refine C15.out.mono ?_)
  rintro e w16 ⟨t2,l9,sp2,hl,rfl,hs,hf⟩
  clear C15
  have X17:Hid (peekP lk=.ok t2 lk):=lh (by rw [hl,peekP])
  obtain ⟨S,T⟩:=S0.out.same hs hf
  have HL:=lh hl
  clear hs hf hl
  simp only [tokA]
  have L18:=lh (L0.out.tr T)
  have R19:=lh (R0.out.tr T)
  have S20:=lh (S)
  clear S T S0 L0 R0
  have c21:=L18.out.cell 0 rfl
  have c22:=L18.out.cell 1 rfl
  have c23:=L18.out.cell 2 rfl
  have c24:=L18.out.cell 3 rfl
  have c25:=L18.out.cell 4 rfl
  have z26:=L18.out.fz
  by_cases hk:t2.kind=4
  case neg =>
   have XK:=lh hk
   have hd:(t2.kind != 4)=true:=by simpa using hk
   clear hk
   have C27:=lh (isNext_at S20.out.ps ⟨#[116,97,98,108,101]⟩)
   go_wp2_with fail
   clear c21 c22 c23 c24 c25 z26
   (with_reducible refine C27.out.mono ?_)
   rintro e w28 ⟨t28,l28,hl,rfl,hs,hf⟩
   clear C27
   obtain ⟨S,T⟩:=S20.out.same hs hf
   cases hd:decide (t28.txt=⟨#[116,97,98,108,101]⟩) with
   | false =>
    have X29:Hid (isNextP ⟨#[116,97,98,108,101]⟩ lk=.ok false lk):=lh (by rw [hl,isNextP,hd])
    clear hs hf hl hd
    have L30:=lh (L18.out.tr T)
    have R31:=lh (R19.out.tr T)
    have S32:=lh (S)
    clear S T S20 L18 R19
    have c33:=L30.out.cell 0 rfl
    have c34:=L30.out.cell 1 rfl
    have c35:=L30.out.cell 2 rfl
    have c36:=L30.out.cell 3 rfl
    have c37:=L30.out.cell 4 rfl
    have z38:=L30.out.fz
    have C39:=lh (proc_at S32.out.ps HBB.out)
    go_wp2_with fail
    clear c33 c34 c35 c36 c37 z38
    (with_reducible refine C39.out.mono ?_)
    rintro e w40 hP
    clear C39
    cases hx:procP lk with
    | err pe ce =>
     rw [hx] at hP
     obtain ⟨rfl,hb⟩:=hP
     have HB:=lh hb
     have HX:many progStep [] l=.err pe ce:=by rw [HM.out];exact many_err (by simp only [progStep,reduceIte,Par.bind,X17.out,XK.out,X29.out,hx])
     have HR:Hid (programP l=.err pe ce):=lh (by simp only [programP,nodeA,Par.bind,X4.out,HX])
     clear hb hx HX
     go_wp2
     exact ⟨rfl,of_err HR.out HB.out⟩
    | ok bq l40 =>
     rw [hx] at hP
     obtain ⟨v40,n40,rfl,S,T⟩:=S32.out.ast (ts':=ts++[bq]) hP rfl
     have HM2:Hid (many progStep [] l=many progStep (ts++[bq]) l40):=lh (by rw [HM.out];exact many_more step_prog (by simp only [progStep,reduceIte,Par.bind,Par.pure,X17.out,XK.out,X29.out,hx]))
     have hq:l40.length<lk.length:=by
      have h5:progStep ts lk=.ok (some (ts++[bq])) l40:=by simp only [progStep,reduceIte,Par.bind,Par.pure,X17.out,XK.out,X29.out,hx]
      exact (step_prog _ _ _ _ h5).1 rfl
     clear hP hx
     have L41:=lh (L30.out.tr T)
     have R42:=lh (R31.out.tr T)
     have S43:=lh (S)
     clear S T S32 L30 R31
     have c44:=L41.out.cell 0 rfl
     have c45:=L41.out.cell 1 rfl
     have c46:=L41.out.cell 2 rfl
     have c47:=L41.out.cell 3 rfl
     have c48:=L41.out.cell 4 rfl
     have z49:=L41.out.fz
     have hk:(roots md.length ts).length≤70000:=by have h6:=S43.out.ps.room;rw [List.length_append,postL_length,sizeL_append] at h6;rw [roots_length];have:=length_le_sizeL ts;omega
     have R50:=lh (R42.out.alloc (.cells #[.int .i64 (rootI (md.length+sizeL ts) bq)] 3))
     have S51:=lh (S43.out.alloc (.cells #[.int .i64 (rootI (md.length+sizeL ts) bq)] 3))
     have L52:=lh (L41.out.alloc (.cells #[.int .i64 (rootI (md.length+sizeL ts) bq)] 3))
     clear c44 c45 c46 c47 c48 z49
     have hbb:Hid (w3.heap.size+1≤(w40.alloc (.cells #[.int .i64 (rootI (md.length+sizeL ts) bq)] 3)).heap.size):=lh (by have h7:=S51.out.fr.size;have h8:=L52.out.lt;simp only [World.size_alloc] at *;omega)
     clear R42 S43 L41
     go_wp2_with (at_builtin;refine wpList_append_lies _ rfl (.tmp 20) (.tmp 23) 32 rfl (E.b+1) 3 i0 _ 1 8 Tryz.underlying32 I0.out I1.out I2.out I3.out rfl (by decide) u4 (roots md.length ts).length ((roots md.length ts).map (Value.int .i64)) rfl R50.out.own ⟨w40.heap.size,0,none⟩ 1 1 [.int .i64 (rootI (md.length+sizeL ts) bq)] rfl rfl (World.news_of_block (cs:=#[.int .i64 (rootI (md.length+sizeL ts) bq)]) (t:=3) (fr:=(0,0)) (heap_alloc_new _ _)) (by simp [Value.oneCell']) (by decide) (by unfold maxLen;omega) (by omega) S51.out.ps.lt _ rfl ?_;intro g5 cap5 w5 hown5 hgrow5 hat5 hlt5)
     have R5:Hid (Rw E v40 (kvs++n40) (w3.heap.size+1) (.slice (some ⟨g5,0,none⟩) ((roots md.length ts).length+1) cap5) (roots md.length (ts++[bq])) w5):=lh (by rw [roots_snoc];exact R50.out.push hbb.out S51.out.ps.fresh hown5 rfl rfl hat5 rfl)
     have S5:=lh (S51.out.grown R50.out (by have:=Q7.out;omega) hgrow5)
     have L5:=lh (L52.out.push R50.out (Nat.lt_succ_self _) hgrow5)
     have hl3:=lh S5.out.ps.left
     clear hown5 hgrow5 hat5 hlt5 R50 S51 L52
     go_wp2
     go_roundw
     case rel=>exact ⟨_,_,_,_,S5,R5,L5,HM2⟩
     case measure=>have h1:=hleft.out;have h2:=hl3.out;show E.toks.length-nextOf E _<E.toks.length-nextOf E wr;omega
   | true =>
    have X29:Hid (isNextP ⟨#[116,97,98,108,101]⟩ lk=.ok true lk):=lh (by rw [hl,isNextP,hd])
    clear hs hf hl hd
    have L30:=lh (L18.out.tr T)
    have R31:=lh (R19.out.tr T)
    have S32:=lh (S)
    clear S T S20 L18 R19
    have c33:=L30.out.cell 0 rfl
    have c34:=L30.out.cell 1 rfl
    have c35:=L30.out.cell 2 rfl
    have c36:=L30.out.cell 3 rfl
    have c37:=L30.out.cell 4 rfl
    have z38:=L30.out.fz
    have C39:=lh (table_at S32.out.ps)
    go_wp2_with fail
    clear c33 c34 c35 c36 c37 z38
    (with_reducible refine C39.out.mono ?_)
    rintro e w40 hP
    clear C39
    cases hx:tableP lk with
    | err pe ce =>
     rw [hx] at hP
     obtain ⟨rfl,hb⟩:=hP
     have HB:=lh hb
     have HX:many progStep [] l=.err pe ce:=by rw [HM.out];exact many_err (by simp only [progStep,reduceIte,Par.bind,X17.out,XK.out,X29.out,hx])
     have HR:Hid (programP l=.err pe ce):=lh (by simp only [programP,nodeA,Par.bind,X4.out,HX])
     clear hb hx HX
     go_wp2
     exact ⟨rfl,of_err HR.out HB.out⟩
    | ok bq l40 =>
     rw [hx] at hP
     obtain ⟨v40,n40,rfl,S,T⟩:=S32.out.ast (ts':=ts++[bq]) hP rfl
     have HM2:Hid (many progStep [] l=many progStep (ts++[bq]) l40):=lh (by rw [HM.out];exact many_more step_prog (by simp only [progStep,reduceIte,Par.bind,Par.pure,X17.out,XK.out,X29.out,hx]))
     have hq:l40.length<lk.length:=by
      have h5:progStep ts lk=.ok (some (ts++[bq])) l40:=by simp only [progStep,reduceIte,Par.bind,Par.pure,X17.out,XK.out,X29.out,hx]
      exact (step_prog _ _ _ _ h5).1 rfl
     clear hP hx
     have L41:=lh (L30.out.tr T)
     have R42:=lh (R31.out.tr T)
     have S43:=lh (S)
     clear S T S32 L30 R31
     have c44:=L41.out.cell 0 rfl
     have c45:=L41.out.cell 1 rfl
     have c46:=L41.out.cell 2 rfl
     have c47:=L41.out.cell 3 rfl
     have c48:=L41.out.cell 4 rfl
     have z49:=L41.out.fz
     have hk:(roots md.length ts).length≤70000:=by have h6:=S43.out.ps.room;rw [List.length_append,postL_length,sizeL_append] at h6;rw [roots_length];have:=length_le_sizeL ts;omega
     have R50:=lh (R42.out.alloc (.cells #[.int .i64 (rootI (md.length+sizeL ts) bq)] 3))
     have S51:=lh (S43.out.alloc (.cells #[.int .i64 (rootI (md.length+sizeL ts) bq)] 3))
     have L52:=lh (L41.out.alloc (.cells #[.int .i64 (rootI (md.length+sizeL ts) bq)] 3))
     clear c44 c45 c46 c47 c48 z49
     have hbb:Hid (w3.heap.size+1≤(w40.alloc (.cells #[.int .i64 (rootI (md.length+sizeL ts) bq)] 3)).heap.size):=lh (by have h7:=S51.out.fr.size;have h8:=L52.out.lt;simp only [World.size_alloc] at *;omega)
     clear R42 S43 L41
     go_wp2_with (at_builtin;refine wpList_append_lies _ rfl (.tmp 15) (.tmp 18) 32 rfl (E.b+1) 3 i0 _ 1 8 Tryz.underlying32 I0.out I1.out I2.out I3.out rfl (by decide) u4 (roots md.length ts).length ((roots md.length ts).map (Value.int .i64)) rfl R50.out.own ⟨w40.heap.size,0,none⟩ 1 1 [.int .i64 (rootI (md.length+sizeL ts) bq)] rfl rfl (World.news_of_block (cs:=#[.int .i64 (rootI (md.length+sizeL ts) bq)]) (t:=3) (fr:=(0,0)) (heap_alloc_new _ _)) (by simp [Value.oneCell']) (by decide) (by unfold maxLen;omega) (by omega) S51.out.ps.lt _ rfl ?_;intro g5 cap5 w5 hown5 hgrow5 hat5 hlt5)
     have R5:Hid (Rw E v40 (kvs++n40) (w3.heap.size+1) (.slice (some ⟨g5,0,none⟩) ((roots md.length ts).length+1) cap5) (roots md.length (ts++[bq])) w5):=lh (by rw [roots_snoc];exact R50.out.push hbb.out S51.out.ps.fresh hown5 rfl rfl hat5 rfl)
     have S5:=lh (S51.out.grown R50.out (by have:=Q7.out;omega) hgrow5)
     have L5:=lh (L52.out.push R50.out (Nat.lt_succ_self _) hgrow5)
     have hl3:=lh S5.out.ps.left
     clear hown5 hgrow5 hat5 hlt5 R50 S51 L52
     go_wp2
     go_roundw
     case rel=>exact ⟨_,_,_,_,S5,R5,L5,HM2⟩
     case measure=>have h1:=hleft.out;have h2:=hl3.out;show E.toks.length-nextOf E _<E.toks.length-nextOf E wr;omega
  case pos =>
   have XK:=lh hk
   have hd:(t2.kind != 4)=false:=by simpa using hk
   clear hk
   have HX:Hid (many progStep [] l=.ok ts lk):=lh (by rw [HM.out];exact many_done (by simp only [progStep,reduceIte,Par.bind,Par.pure,X17.out,XK.out]))
   clear HM
   have HR:Hid (programP l=.ok (.mk 1 t.at' none0 0 ts) lk):=lh (by simp only [programP,nodeA,Par.bind,Par.pure,X4.out,HX.out])
   have RM2:=lh (R19.out.mono (B':=w.heap.size) (by have:=Q7.out;omega))
   have HSZ:Hid (sizeL ts+lk.length≤0+l.length):=lh (Sz.many (cr:=sizeL) sz_prog [] _ _ _ HX.out)
   have C27:=lh (add_at S20.out.ps (1) ((t.at':Int)) (0) (none0) (.slice none 0 0) (u4) (roots md.length ts) RM2.out.own RM2.out.loc (by have h1:=hroom1.out;have h2:=HSZ.out;rw [List.length_append,postL_length];omega))
   go_wp2_with fail
   clear c21 c22 c23 c24 c25 z26
   (with_reducible refine C27.out.mono ?_)
   rintro e wf hA
   have hO:=lh (S20.out.add (ts:=ts) rfl hA RM2.out.ge)
   obtain ⟨z,rfl⟩:=hA.int
   clear C27
   go_wp2
   go_ret
   exact of_ok HR.out hO.out
end
end
section
open Go.RowKit
theorem wpListIn_append_lies {F:Fence}{n:Nat}{P:Program}(w:World){ops:Array Oper}{rest:List Oper}{o:Oper}{a:Act}{Q:Exit→Act→World→Prop}
 (hg:o.guard=none) (s x:Operand) (t:TypeId) (hop:o.op=Op.call { callee:=Callee.builtin Builtin.append,args:=#[s,x],argTypes:=#[t,t] })
 (base:Nat) (e:TypeId) (i:TypeInfo) (z:Value) (size bytes:Nat) (h1:P.underlying t=some (.slice e)) (h2:P.info? e=some i) (h3:i.zero=some z) (h4:i.size=size) (h5:i.bytes=bytes) (h6:z.cells.size=size) (h7:0<size)
 (v:Value) (k:Nat) (xs:List Value) (hs:a.eval s=v) (hown:w.ownsRow base e size v k xs) (ad:Addr) (m c:Nat) (news:List Value) (hx:a.eval x=.slice (some ad) m c) (hn:news.length=m*size)
 (hc:∀j u,news[j]?=some u→w.cell? (ad.add j)=some u) (h1c:∀u∈news,u.oneCell'=true) (hm:0<m) (b1:k+m≤maxLen) (b2:(k+m)*bytes≤140737488355328) (b3:base≤w.heap.size) (H:Nat) (hH:w.heap.size=H)
 (hK:∀g cap w',w'.ownsRow base e size (.slice (some ⟨g,0,none⟩) (k+m) cap) (k+m) (xs++news)→w.grownBy w' v.ownBlock→(v.ownBlock=some g∨g=H)→g<w'.heap.size→wpListIn F n P ops Q rest (a.put o.dst (.slice (some ⟨g,0,none⟩) (k+m) cap)) w') :
 wpListIn F n P ops Q (o::rest) a w:=by
 refine wpListIn_plain hg fun K hK'=>?_
 obtain ⟨g,cap,w',hrun,r1,r2,r3,r4⟩:=run_append_lies (P:=P) w t o.type base e i z size bytes h1 h2 h3 h4 h5 h6 h7 v k xs hown ad m c news hn hc h1c hm b1 b2 b3 H hH
 unfold Oper.wpIn
 refine ⟨?_,?_⟩
 · simp [Oper.about,hop,resolve,Target.leads,Sem.run_pure]
 · rw [Oper.semAt_plain F _ _ (by rw [hop];intro c hc';cases hc')]
   simp [execOp,hop,resolve,invoke,builtin,hs,hx,hrun,Result.andThen]
   exact hK' _ _ (hK g cap w' r1 r2 r3 r4)
def rowD (kvs:List Value):List (Nat × Nd)→List Value
 | []=>[]
 | x::r=>nodeC x.2 (kvs.getD x.1 default)++rowD kvs r
theorem rowD_append (kvs:List Value)(x y:List (Nat × Nd)):rowD kvs (x++y)=rowD kvs x++rowD kvs y:=by
 induction x with
 | nil=>rfl
 | cons a r ih=>simp only [List.cons_append,rowD,ih,List.append_assoc]
theorem rowD_get (kvs:List Value)(x:List (Nat × Nd))(j:Nat)(y:Nat × Nd)(hj:x[j]?=some y)(i:Nat)(hi:i<5):(rowD kvs x)[j*5+i]?=(nodeC y.2 (kvs.getD y.1 default))[i]?:=by
 induction x generalizing j with
 | nil=>simp at hj
 | cons m r ih =>
  cases j with
  | zero =>
   simp only [List.getElem?_cons_zero,Option.some.injEq] at hj
   subst hj
   simp only [rowD,Nat.zero_mul,Nat.zero_add]
   rw [List.getElem?_append_left (by simp [nodeC];omega)]
  | succ j =>
   simp only [rowD]
   rw [List.getElem?_append_right (by simp [nodeC];omega)]
   rw [← ih j (by simpa using hj)]
   congr 1
   simp [nodeC];omega
structure Made (B:Nat)(w0:World)(v:Value)(kvs:List Value)(md:List Nd):Prop where
 base:B≤w0.heap.size
 own:w0.ownsRow B 54 5 v md.length (cellsM md kvs)
 klen:kvs.length=md.length
 kids:∀j,j<md.length→own1 B w0 (kvs.getD j default) (md.getD j default).kids
 apart:∀x∈kvs,∀k,x.ownBlock=some k→v.ownBlock≠some k
 pair:kvs.Pairwise fun x y=>∀k,x.ownBlock=some k→y.ownBlock≠some k
 few:md.length≤70000
structure F1 (n0:Nat)(w0:World)(kvs:List Value)(N bp bq:Nat)(F:Nat→Int)(D:List (Nat × Nd))(vn pv:Value)(ts:List Int)(rs:List Nat)(w:World):Prop where
 below:Below n0 w0 w
 size:n0≤w.heap.size
 bp0:n0≤bp
 bq0:n0≤bq
 places:∃cs:Array Value,w.heap[bp]?=some (.cells cs 3 (0,0))∧cs.size=N∧∀j,j<N→cs[j]?=some (.int .i64 (F j))
 nodes:w.ownsRow n0 54 5 vn D.length (rowD kvs D)
 box:Boxed w bq 32 pv
 pile:w.ownsRow n0 3 1 pv ts.length (ts.map (Value.int .i64))
 sep:pv.ownBlock≠some bp
 marks:∀r∈rs,n0≤r∧w.heap[r]?=some (.deferred (some []))
 dist:rs.Nodup
section
variable {n0:Nat}{w0:World}{kvs:List Value}{N bp bq:Nat}{F:Nat→Int}{D:List (Nat × Nd)}{vn pv:Value}{ts:List Int}{rs:List Nat}{w w':World}
theorem row_ne {base e size n g:Nat}{xs:List Value}{v:Value}{o:Obj}(h:w.ownsRow base e size v n xs)(hg:w.heap[g]?=some o)(ho:∀cs fr,o≠.cells cs e fr):v.ownBlock≠some g:=fun e1=>by
 obtain ⟨c,fz,h1⟩:=Lib.ownsRow_kind h g e1
 rw [h1] at hg
 exact ho c fz (Option.some.inj hg).symm
theorem F1.vn_bp (h:F1 n0 w0 kvs N bp bq F D vn pv ts rs w):vn.ownBlock≠some bp:=by
 obtain ⟨cs,h1,_,_⟩:=h.places
 exact row_ne h.nodes h1 (fun _ _ e=>by simp at e)
theorem F1.vn_bq (h:F1 n0 w0 kvs N bp bq F D vn pv ts rs w):vn.ownBlock≠some bq:=row_ne h.nodes h.box (fun _ _ e=>by simp at e)
theorem F1.pv_bq (h:F1 n0 w0 kvs N bp bq F D vn pv ts rs w):pv.ownBlock≠some bq:=row_ne h.pile h.box (fun _ _ e=>by simp at e)
theorem F1.bp_bq (h:F1 n0 w0 kvs N bp bq F D vn pv ts rs w):bp≠bq:=fun e=>by
 obtain ⟨cs,h1,_,_⟩:=h.places
 have h2:w.heap[bq]?=_:=h.box
 rw [e,h2] at h1
 simp at h1
theorem F1.mark_ne {cs:Array Value}{T g:Nat}{fr:Nat × Nat}(h:F1 n0 w0 kvs N bp bq F D vn pv ts rs w)(hg:w.heap[g]?=some (.cells cs T fr)):∀r∈rs,r≠g:=fun r hr e=>by
 have:=(h.marks r hr).2
 rw [e,hg] at this
 simp at this
theorem F1.vn_pv (h:F1 n0 w0 kvs N bp bq F D vn pv ts rs w):∀g,pv.ownBlock=some g→vn.ownBlock≠some g:=fun g hg=>by
 obtain ⟨c,fz,h1⟩:=Lib.ownsRow_kind h.pile g hg
 exact row_ne h.nodes h1 (fun _ _ e=>by simp at e)
theorem F1.grown {row:Option Nat}(h:F1 n0 w0 kvs N bp bq F D vn pv ts rs w)(hg:w.grownBy w' row)(h0:∀q,row=some q→n0≤q)(h1:row≠some bp)(h2:row≠some bq)(h3:∀q,row=some q→vn.ownBlock≠some q)(h4:∀q,row=some q→pv.ownBlock≠some q)(h5:∀r∈rs,row≠some r):F1 n0 w0 kvs N bp bq F D vn pv ts rs w' where
 below:=h.below.grown hg h.size h0
 size:=Nat.le_trans h.size hg.size
 bp0:=h.bp0
 bq0:=h.bq0
 places:=by
  obtain ⟨cs,k1,k2⟩:=h.places
  exact ⟨cs,by rw [hg.block bp (Array.getElem?_eq_some_iff.1 k1).1 (fun e=>h1 e.symm)];exact k1,k2⟩
 nodes:=h.nodes.kept hg (by
  cases hv:vn.ownBlock with
  | none=>exact Or.inl rfl
  | some k=>exact Or.inr (fun e=>h3 k e.symm hv))
 box:=h.box.kept hg (fun e=>h2 e.symm)
 pile:=h.pile.kept hg (by
  cases hv:pv.ownBlock with
  | none=>exact Or.inl rfl
  | some k=>exact Or.inr (fun e=>h4 k e.symm hv))
 sep:=h.sep
 marks:=fun r hr=>⟨(h.marks r hr).1,by rw [hg.block r (Array.getElem?_eq_some_iff.1 (h.marks r hr).2).1 (fun e=>h5 r hr e.symm)];exact (h.marks r hr).2⟩
 dist:=h.dist
theorem F1.alloc (h:F1 n0 w0 kvs N bp bq F D vn pv ts rs w)(o:Obj):F1 n0 w0 kvs N bp bq F D vn pv ts rs (w.alloc o) :=
 h.grown (World.grownBy_alloc w o none) (fun _ e=>by cases e) (by simp) (by simp) (fun _ e=>by cases e) (fun _ e=>by cases e) (fun _ _=>by simp)
theorem F1.place (h:F1 n0 w0 kvs N bp bq F D vn pv ts rs w)(j:Nat)(hj:j<N)(z:Int):F1 n0 w0 kvs N bp bq (fun k=>if k=j then z else F k) D vn pv ts rs (w.setCell ⟨bp,j,none⟩ (.int .i64 z)):=by
 obtain ⟨cs,k1,k2,k3⟩:=h.places
 have hg:=grownBy_set w ⟨bp,j,none⟩ (.int .i64 z)
 exact {
  below:=h.below.grown hg h.size (fun q e=>by cases e;exact h.bp0)
  size:=Nat.le_trans h.size hg.size
  bp0:=h.bp0
  bq0:=h.bq0
  places:=⟨_,heap_set _ _ _ _ _ _ k1,by simpa using k2,fun k hk=>by
   by_cases e:k=j
   · subst e;simp [k2,hj]
   · rw [if_neg e,Array.getElem?_setIfInBounds_ne (fun e1=>e e1.symm)];exact k3 k hk⟩
  nodes:=h.nodes.kept hg (Or.inr h.vn_bp)
  box:=h.box.kept hg (fun e=>h.bp_bq (Option.some.inj e).symm)
  pile:=h.pile.kept hg (Or.inr h.sep)
  sep:=h.sep
  marks:=fun r hr=>⟨(h.marks r hr).1,by rw [hg.block r (Array.getElem?_eq_some_iff.1 (h.marks r hr).2).1 (fun e=>h.mark_ne k1 r hr (Option.some.inj e))];exact (h.marks r hr).2⟩
  dist:=h.dist }
theorem F1.placeAt (h:F1 n0 w0 kvs N bp bq F D vn pv ts rs w)(j:Nat)(hj:j<N):w.cell? ⟨bp,j,none⟩=some (.int .i64 (F j))∧w.frozen? ⟨bp,j,none⟩=false:=by
 obtain ⟨cs,k1,k2,k3⟩:=h.places
 exact ⟨by rw [cell_of_row _ _ _ _ _ _ k1];exact k3 j hj,frozen_of_row _ _ _ _ _ k1⟩
theorem F1.top {t:Int}(h:F1 n0 w0 kvs N bp bq F D vn pv (ts++[t]) rs w):∃g cap,pv=.slice (some ⟨g,0,none⟩) (ts.length+1) cap∧w.cell? ⟨g,ts.length,none⟩=some (.int .i64 t)∧F1 n0 w0 kvs N bp bq F D vn (.slice (some ⟨g,0,none⟩) ts.length cap) ts rs (w.setCell ⟨bq,0,none⟩ (.slice (some ⟨g,0,none⟩) ts.length cap)):=by
 have hp:=h.pile
 rw [List.length_append,List.length_singleton] at hp
 obtain ⟨g,cap,rfl⟩:=ownsRow_succ hp
 refine ⟨g,cap,rfl,?_,?_⟩
 · rw [hp.cellAt ts.length (by omega)]
   simp
 · have hp2:w.ownsRow n0 3 1 (.slice (some ⟨g,0,none⟩) ts.length cap) ts.length (ts.map (Value.int .i64)):=ownsRow_pop (last:=[.int .i64 t]) (by simp) (by rw [List.map_append] at hp;exact hp)
   have hg:=grownBy_set w ⟨bq,0,none⟩ (.slice (some ⟨g,0,none⟩) ts.length cap)
   have hne:g≠bq:=fun e=>h.pv_bq (by rw [← e];rfl)
   exact {
    below:=h.below.grown hg h.size (fun q e=>by cases e;exact h.bq0)
    size:=Nat.le_trans h.size hg.size
    bp0:=h.bp0
    bq0:=h.bq0
    places:=by
     obtain ⟨cs,k1,k2⟩:=h.places
     exact ⟨cs,by rw [hg.block bp (Array.getElem?_eq_some_iff.1 k1).1 (fun e=>h.bp_bq (Option.some.inj e))];exact k1,k2⟩
    nodes:=h.nodes.kept hg (Or.inr h.vn_bq)
    box:=h.box.set _
    pile:=hp2.kept hg (Or.inr (fun e=>hne (by simpa [Value.ownBlock] using e)))
    sep:=h.sep
    marks:=fun r hr=>⟨(h.marks r hr).1,by rw [hg.block r (Array.getElem?_eq_some_iff.1 (h.marks r hr).2).1 (fun e=>h.mark_ne (show w.heap[bq]?=_ from h.box) r hr (Option.some.inj e))];exact (h.marks r hr).2⟩
    dist:=h.dist }
theorem F1.node {vn':Value}{x:Nat × Nd}{wa:World}(h:F1 n0 w0 kvs N bp bq F D vn pv ts rs wa)(hg:wa.grownBy w vn.ownBlock)(hown:w.ownsRow n0 54 5 vn' (D.length+1) (rowD kvs D++nodeC x.2 (kvs.getD x.1 default))):F1 n0 w0 kvs N bp bq F (D++[x]) vn' pv ts rs w where
 below:=h.below.grown hg h.size (fun q e=>(h.nodes.lt q e).1)
 size:=Nat.le_trans h.size hg.size
 bp0:=h.bp0
 bq0:=h.bq0
 places:=by
  obtain ⟨cs,k1,k2⟩:=h.places
  exact ⟨cs,by rw [hg.block bp (Array.getElem?_eq_some_iff.1 k1).1 (fun e=>h.vn_bp e.symm)];exact k1,k2⟩
 nodes:=by
  rw [List.length_append,rowD_append]
  simpa [rowD] using hown
 box:=h.box.kept hg (fun e=>h.vn_bq e.symm)
 pile:=h.pile.kept hg (by
  cases hv:pv.ownBlock with
  | none=>exact Or.inl rfl
  | some k=>exact Or.inr (fun e=>h.vn_pv k hv e.symm))
 sep:=h.sep
 marks:=fun r hr=>⟨(h.marks r hr).1,by
  rw [hg.block r (Array.getElem?_eq_some_iff.1 (h.marks r hr).2).1 (fun e=>?_)]
  · exact (h.marks r hr).2
  · obtain ⟨c,fz,h1⟩:=Lib.ownsRow_kind h.nodes r e.symm
    exact h.mark_ne h1 r hr rfl⟩
 dist:=h.dist
theorem F1.push {pv':Value}{t:Int}{w1:World}{tmp:Obj}(h:F1 n0 w0 kvs N bp bq F D vn pv ts rs w)(hg:(w.alloc tmp).grownBy w1 pv.ownBlock)(hown:w1.ownsRow n0 3 1 pv' (ts.length+1) (ts.map (Value.int .i64)++[.int .i64 t]))(hat:∀g,pv'.ownBlock=some g→pv.ownBlock=some g∨w.heap.size≤g) :
 F1 n0 w0 kvs N bp bq F D vn pv' (ts++[t]) rs (w1.setCell ⟨bq,0,none⟩ pv'):=by
 have hb1:Boxed w1 bq 32 pv:=(h.box.alloc tmp).kept hg (fun e=>h.pv_bq e.symm)
 have hg2:=grownBy_set w1 ⟨bq,0,none⟩ pv'
 have hgg:∀k,k<w.heap.size→pv.ownBlock≠some k→k≠bq→(w1.setCell ⟨bq,0,none⟩ pv').heap[k]?=w.heap[k]?:=fun k h1 h2 h3=>by
  rw [hg2.block k (by have:=hg.size;simp at this;omega) (fun e=>h3 (Option.some.inj e)),hg.block k (by simp;omega) (fun e=>h2 e.symm)]
  exact Below.heap_alloc w tmp k h1
 have hsz:w.heap.size≤(w1.setCell ⟨bq,0,none⟩ pv').heap.size:=by have h1:=hg.size;have h2:=hg2.size;simp only [World.size_alloc] at h1;omega
 exact {
  below:=(((h.below.alloc h.size tmp).grown hg (by have:=h.size;simp;omega) (fun q e=>(h.pile.lt q e).1))).setCell (p:=⟨bq,0,none⟩) h.bq0 _
  size:=Nat.le_trans h.size hsz
  bp0:=h.bp0
  bq0:=h.bq0
  places:=by
   obtain ⟨cs,k1,k2⟩:=h.places
   exact ⟨cs,by rw [hgg bp (Array.getElem?_eq_some_iff.1 k1).1 h.sep h.bp_bq];exact k1,k2⟩
  nodes:=by
   refine ((h.nodes.alloc tmp).kept hg ?_).kept hg2 (Or.inr h.vn_bq)
   cases hv:pv.ownBlock with
   | none =>
    cases hvn:vn.ownBlock with
    | none=>exact Or.inl rfl
    | some k=>exact Or.inr (by simp)
   | some k=>exact Or.inr (fun e=>h.vn_pv k hv e)
  box:=hb1.set pv'
  pile:=by
   rw [List.length_append,List.map_append]
   exact hown.kept hg2 (Or.inr (row_ne hown hb1 (fun _ _ e=>by simp at e)))
  sep:=fun e=>by
   rcases hat bp e with h1|h1
   · exact h.sep h1
   · obtain ⟨cs,k1,_⟩:=h.places
     have:=(Array.getElem?_eq_some_iff.1 k1).1
     omega
  marks:=fun r hr=>⟨(h.marks r hr).1,by
   rw [hgg r (Array.getElem?_eq_some_iff.1 (h.marks r hr).2).1 (fun e=>?_) (fun e=>h.mark_ne (show w.heap[bq]?=_ from h.box) r hr e)]
   · exact (h.marks r hr).2
   · obtain ⟨c,fz,h1⟩:=Lib.ownsRow_kind h.pile r e
     exact h.mark_ne h1 r hr rfl⟩
  dist:=h.dist }
theorem F1.own_from {B qx:Nat}(hm:∀r∈rs,r<B)(hB:n0≤B)(base:List Int):OwnFrom B (fun (pre:List (Int × Int)) W=>∃pv,F1 n0 w0 kvs N bp bq F D vn pv (base++pre.map (·.2)) rs W∧pv.ownBlock≠some qx∧qx<W.heap.size):=by
 rintro pre X Y row ⟨pv,h,hx1,hx2⟩ hg hrow
 have hne:∀ {g:Nat} {cs:Array Value} {T:Nat} {fr:Nat × Nat},X.heap[g]?=some (.cells cs T fr)→row≠some g:=fun {g cs T fr} h1 e=>by
  obtain ⟨_,o,ho,hc⟩:=hrow g e
  rw [h1] at ho
  cases ho
  simp [Obj.isCells] at hc
 obtain ⟨cs,k1,_⟩:=h.places
 refine ⟨pv,h.grown hg (fun q e=>Nat.le_trans hB (hrow q e).1) (hne k1) (hne (show X.heap[bq]?=_ from h.box)) (fun q e e1=>?_) (fun q e e1=>?_) (fun r hr e=>?_),hx1,Nat.lt_of_lt_of_le hx2 hg.size⟩
 · obtain ⟨c,fz,h1⟩:=Lib.ownsRow_kind h.nodes q e1
   exact hne h1 e
 · obtain ⟨c,fz,h1⟩:=Lib.ownsRow_kind h.pile q e1
   exact hne h1 e
 · have h1:=(hrow r e).1
   have h2:=hm r hr
   omega
theorem F1.mark (h:F1 n0 w0 kvs N bp bq F D vn pv ts rs w){r:Nat}(h0:n0≤r)(hr:w.heap[r]?=some (.deferred (some [])))(hn:r ∉ rs):F1 n0 w0 kvs N bp bq F D vn pv ts (r::rs) w :=
 { h with
   marks:=fun x hx=>by
    rcases List.mem_cons.1 hx with rfl|hx
    · exact ⟨h0,hr⟩
    · exact h.marks x hx
   dist:=List.nodup_cons.2 ⟨hn,h.dist⟩ }
theorem back_all (zs:List Int):(upto (backF zs) zs.length).map (·.2)=zs.reverse:=by
 apply List.ext_getElem
 · simp [upto]
 · intro i h1 h2
   have h3:i<zs.length:=by simpa using h2
   simp [upto,backF,show zs.length-1-i<zs.length by omega]
theorem F1.pushes {pv':Value}{w1:World}{tmp:Obj}{qx:Nat}(h:F1 n0 w0 kvs N bp bq F D vn pv ts rs w)(hg:(w.alloc tmp).grownBy w1 pv.ownBlock)(hq1:pv.ownBlock≠some qx)(hq2:qx≠bq):KeepsAt n0 qx w (w1.setCell ⟨bq,0,none⟩ pv'):=by
 have hg2:=grownBy_set w1 ⟨bq,0,none⟩ pv'
 refine ⟨by have h1:=hg.size;have h2:=hg2.size;simp only [World.size_alloc] at h1;omega,fun g hgq hl=>?_⟩
 have e1:g≠bq:=by
  have:=h.bq0
  rcases hgq with h1|h1
  · omega
  · rw [h1];exact hq2
 have e2:pv.ownBlock≠some g:=fun e=>by
  rcases hgq with h1|h1
  · have:=(h.pile.lt g e).1;omega
  · rw [h1] at e;exact hq1 e
 rw [hg2.block g (by have:=hg.size;simp at this;omega) (fun e=>e1 (Option.some.inj e)),hg.block g (by simp;omega) (fun e=>e2 e.symm)]
 exact Below.heap_alloc w tmp g hl
theorem ints_of_own1 {B n₀:Nat}{W:World}{kv:Value}{zs:List Int}(h:own1 B W kv zs)(hlt:∀g,kv.ownBlock=some g→g<n₀):IntsAt n₀ W kv zs:=by
 obtain ⟨h1,h2⟩:=h
 rcases h2 with ⟨h2,h3⟩|⟨g,cap,cur,h2,h3⟩
 · exact Or.inl ⟨h2,List.length_eq_zero_iff.1 h3⟩
 · subst h2
   refine Or.inr ⟨g,0,cap,rfl,hlt g rfl,fun j hj=>?_⟩
   have h4:=World.ownsRow.cellAt (⟨h1,.inr ⟨g,cap,cur,rfl,h3⟩⟩:W.ownsRow B 3 1 (.slice (some ⟨g,0,none⟩) zs.length cap) zs.length (zs.map (Value.int .i64))) j (by omega)
   rw [Nat.zero_add,h4]
   simp [hj]
end
end
end Go.Proofs.YthdioipfdbbmmaaGreatDoor
