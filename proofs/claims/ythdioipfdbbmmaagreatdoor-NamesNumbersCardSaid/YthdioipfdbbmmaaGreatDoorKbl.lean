/- Contracts. -/
import Derived.Test.YthdioipfdbbmmaaGreatDoorKae
import Derived.Test.YthdioipfdbbmmaaGreatDoorKah
import Derived.Test.YthdioipfdbbmmaaGreatDoorKap
import Derived.Test.YthdioipfdbbmmaaGreatDoorKaw
import Derived.Test.YthdioipfdbbmmaaGreatDoorKbk
import Derived.Lib.OwnKind
import Derived.WalkSmall
import Derived.OwnWalkIn
import Derived.Maps.AppendAt
set_option linter.all false
set_option maxRecDepth 1000000
set_option maxHeartbeats 16000000
namespace Go.Proofs.YthdioipfdbbmmaaGreatDoor
section
open Go.RowKit
open Par (Less many many_err many_done many_more)
section
variable {E:Env}{v:Value}{kvs:List Value}{md:List Nd}{r:Nat}{l:List PT}{w:World}
theorem program_at (h:PS E v kvs md 64 l w)(hm:MapAt E)(hroom:md.length+1+l.length≤70000):Calls Tryz.prog 73 #[.pointer (some ⟨E.b,0,none⟩)] w (PostE E (programP l) fun a l'=>OkA E v kvs md 64 w a l'):=by
 have hr64:=h.r64
 have RM:=lh h.room
 have S1:=lh (St.start h)
 have fl0:=tok_f0
 have fl1:=tok_f1
 have hnot:=nt
 clear h
 go_enter Tryz.func73,Tryz.ntmps73
 have hroom1:=lh hroom
 have HBB:=lh (blockR_at hm 64)
 have C2:=lh (peek_at S1.out.ps)
 go_wp2_with fail
 (with_reducible refine C2.out.mono ?_)
 rintro e w3 ⟨t,l1,sp,hl,rfl,hs,hf⟩
 clear C2
 have X4:Hid (peekP l=.ok t l):=lh (by rw [hl,peekP])
 obtain ⟨S,T⟩:=S1.out.same hs hf
 have HL:=lh hl
 clear hs hf hl
 simp only [tokA]
 have S5:=lh (S)
 clear S T S1
 have S6:=lh (S5.out.alloc (.cells #[.int .u8 1,.int .i64 (t.at':Int),.string ⟨#[]⟩,.int .i64 0,.slice none 0 0] 54))
 have Q7:Hid (w.heap.size≤w3.heap.size):=lh S5.out.fr.size
 have L8:=lh (Lcl.new S5.out.ps (.cells #[.int .u8 1,.int .i64 (t.at':Int),.string ⟨#[]⟩,.int .i64 0,.slice none 0 0] 54))
 clear S5
 have RN:Hid (Rw E v (kvs++[]) (w3.heap.size+1) (.slice none 0 0) (roots md.length []) (w3.alloc (.cells #[.int .u8 1,.int .i64 (t.at':Int),.string ⟨#[]⟩,.int .i64 0,.slice none 0 0] 54))):=lh Rw.nil
 obtain ⟨i0,hi,hz0,hz1,hz2⟩:=info_partsP infoInt
 have I0:=lh hi
 have I1:=lh hz0
 have I2:=lh hz1
 have I3:=lh hz2
 clear hi hz0 hz1 hz2
 go_wp2_with fail
 go_loopw [4] (fun kvL wr=>∃(ts:List Ast) (lk:List PT) (vk:Value) (nk:List Value),Hid (St E v kvs md w ts 64 lk vk nk wr)∧Hid (Rw E vk (kvs++nk) (w3.heap.size+1) kvL (roots md.length ts) wr)∧Hid (Lcl E vk (kvs++nk) (w3.heap.size) (.cells #[.int .u8 1,.int .i64 (t.at':Int),.string ⟨#[]⟩,.int .i64 0,.slice none 0 0] 54 (0,0)) wr)∧Hid (many progStep [] l=many progStep ts lk)) (fun _ wr=>E.toks.length-nextOf E wr)
 case atStart=>exact ⟨[],l,_,_,S6,RN,L8,lh rfl⟩
 case round =>
  obtain ⟨ts,lk,vk,nk,S0,R0,L0,HM⟩:=hrel
  have hleft:=lh S0.out.ps.left
  clear S6 RN L8
  have c9:=L0.out.cell 0 rfl
  have c10:=L0.out.cell 1 rfl
  have c11:=L0.out.cell 2 rfl
  have c12:=L0.out.cell 3 rfl
  have c13:=L0.out.cell 4 rfl
  have z14:=L0.out.fz
  have C15:=lh (peek_at S0.out.ps)
  go_wp2_with fail
  clear c9 c10 c11 c12 c13 z14
  (with_reducible refine C15.out.mono ?_)
  rintro e w16 ⟨t2,l9,sp2,hl,rfl,hs,hf⟩
  clear C15
  have X17:Hid (peekP lk=.ok t2 lk):=lh (by rw [hl,peekP])
  obtain ⟨S,T⟩:=S0.out.same hs hf
  have HL:=lh hl
  clear hs hf hl
  simp only [tokA]
  have L18:=lh (L0.out.tr T)
  have R19:=lh (R0.out.tr T)
  have S20:=lh (S)
  clear S T S0 L0 R0
  have c21:=L18.out.cell 0 rfl
  have c22:=L18.out.cell 1 rfl
  have c23:=L18.out.cell 2 rfl
  have c24:=L18.out.cell 3 rfl
  have c25:=L18.out.cell 4 rfl
  have z26:=L18.out.fz
  by_cases hk:t2.kind=4
  case neg =>
   have XK:=lh hk
   have hd:(t2.kind != 4)=true:=by simpa using hk
   clear hk
   have C27:=lh (isNext_at S20.out.ps ⟨#[116,97,98,108,101]⟩)
   go_wp2_with fail
   clear c21 c22 c23 c24 c25 z26
   (with_reducible refine C27.out.mono ?_)
   rintro e w28 ⟨t28,l28,hl,rfl,hs,hf⟩
   clear C27
   obtain ⟨S,T⟩:=S20.out.same hs hf
   cases hd:decide (t28.txt=⟨#[116,97,98,108,101]⟩) with
   | false =>
    have X29:Hid (isNextP ⟨#[116,97,98,108,101]⟩ lk=.ok false lk):=lh (by rw [hl,isNextP,hd])
    clear hs hf hl hd
    have L30:=lh (L18.out.tr T)
    have R31:=lh (R19.out.tr T)
    have S32:=lh (S)
    clear S T S20 L18 R19
    have c33:=L30.out.cell 0 rfl
    have c34:=L30.out.cell 1 rfl
    have c35:=L30.out.cell 2 rfl
    have c36:=L30.out.cell 3 rfl
    have c37:=L30.out.cell 4 rfl
    have z38:=L30.out.fz
    have C39:=lh (proc_at S32.out.ps HBB.out)
    go_wp2_with fail
    clear c33 c34 c35 c36 c37 z38
    (with_reducible refine C39.out.mono ?_)
    rintro e w40 hP
    clear C39
    cases hx:procP lk with
    | err pe ce =>
     rw [hx] at hP
     obtain ⟨rfl,hb⟩:=hP
     have HB:=lh hb
     have HX:many progStep [] l=.err pe ce:=by rw [HM.out];exact many_err (by simp only [progStep,reduceIte,Par.bind,X17.out,XK.out,X29.out,hx])
     have HR:Hid (programP l=.err pe ce):=lh (by simp only [programP,nodeA,Par.bind,X4.out,HX])
     clear hb hx HX
     go_wp2
     exact ⟨rfl,of_err HR.out HB.out⟩
    | ok bq l40 =>
     rw [hx] at hP
     obtain ⟨v40,n40,rfl,S,T⟩:=S32.out.ast (ts':=ts++[bq]) hP rfl
     have HM2:Hid (many progStep [] l=many progStep (ts++[bq]) l40):=lh (by rw [HM.out];exact many_more step_prog (by simp only [progStep,reduceIte,Par.bind,Par.pure,X17.out,XK.out,X29.out,hx]))
     have hq:l40.length<lk.length:=by
      have h5:progStep ts lk=.ok (some (ts++[bq])) l40:=by simp only [progStep,reduceIte,Par.bind,Par.pure,X17.out,XK.out,X29.out,hx]
      exact (step_prog _ _ _ _ h5).1 rfl
     clear hP hx
     have L41:=lh (L30.out.tr T)
     have R42:=lh (R31.out.tr T)
     have S43:=lh (S)
     clear S T S32 L30 R31
     have c44:=L41.out.cell 0 rfl
     have c45:=L41.out.cell 1 rfl
     have c46:=L41.out.cell 2 rfl
     have c47:=L41.out.cell 3 rfl
     have c48:=L41.out.cell 4 rfl
     have z49:=L41.out.fz
     have hk:(roots md.length ts).length≤70000:=by have h6:=S43.out.ps.room;rw [List.length_append,postL_length,sizeL_append] at h6;rw [roots_length];have:=length_le_sizeL ts;omega
     have R50:=lh (R42.out.alloc (.cells #[.int .i64 (rootI (md.length+sizeL ts) bq)] 3))
     have S51:=lh (S43.out.alloc (.cells #[.int .i64 (rootI (md.length+sizeL ts) bq)] 3))
     have L52:=lh (L41.out.alloc (.cells #[.int .i64 (rootI (md.length+sizeL ts) bq)] 3))
     clear c44 c45 c46 c47 c48 z49
     have hbb:Hid (w3.heap.size+1≤(w40.alloc (.cells #[.int .i64 (rootI (md.length+sizeL ts) bq)] 3)).heap.size):=lh (by have h7:=S51.out.fr.size;have h8:=L52.out.lt;simp only [World.size_alloc] at *;omega)
     clear R42 S43 L41
     go_wp2_with (at_builtin;refine wpList_append_lies _ rfl (.tmp 20) (.tmp 23) 32 rfl (E.b+1) 3 i0 _ 1 8 Tryz.underlying32 I0.out I1.out I2.out I3.out rfl (by decide) u4 (roots md.length ts).length ((roots md.length ts).map (Value.int .i64)) rfl R50.out.own ⟨w40.heap.size,0,none⟩ 1 1 [.int .i64 (rootI (md.length+sizeL ts) bq)] rfl rfl (World.news_of_block (cs:=#[.int .i64 (rootI (md.length+sizeL ts) bq)]) (t:=3) (fr:=(0,0)) (heap_alloc_new _ _)) (by simp [Value.oneCell']) (by decide) (by unfold maxLen;omega) (by omega) S51.out.ps.lt _ rfl ?_;intro g5 cap5 w5 hown5 hgrow5 hat5 hlt5)
     have R5:Hid (Rw E v40 (kvs++n40) (w3.heap.size+1) (.slice (some ⟨g5,0,none⟩) ((roots md.length ts).length+1) cap5) (roots md.length (ts++[bq])) w5):=lh (by rw [roots_snoc];exact R50.out.push hbb.out S51.out.ps.fresh hown5 rfl rfl hat5 rfl)
     have S5:=lh (S51.out.grown R50.out (by have:=Q7.out;omega) hgrow5)
     have L5:=lh (L52.out.push R50.out (Nat.lt_succ_self _) hgrow5)
     have hl3:=lh S5.out.ps.left
     clear hown5 hgrow5 hat5 hlt5 R50 S51 L52
     go_wp2
     go_roundw
     case rel=>exact ⟨_,_,_,_,S5,R5,L5,HM2⟩
     case measure=>have h1:=hleft.out;have h2:=hl3.out;show E.toks.length-nextOf E _<E.toks.length-nextOf E wr;omega
   | true =>
    have X29:Hid (isNextP ⟨#[116,97,98,108,101]⟩ lk=.ok true lk):=lh (by rw [hl,isNextP,hd])
    clear hs hf hl hd
    have L30:=lh (L18.out.tr T)
    have R31:=lh (R19.out.tr T)
    have S32:=lh (S)
    clear S T S20 L18 R19
    have c33:=L30.out.cell 0 rfl
    have c34:=L30.out.cell 1 rfl
    have c35:=L30.out.cell 2 rfl
    have c36:=L30.out.cell 3 rfl
    have c37:=L30.out.cell 4 rfl
    have z38:=L30.out.fz
    have C39:=lh (table_at S32.out.ps)
    go_wp2_with fail
    clear c33 c34 c35 c36 c37 z38
    (with_reducible refine C39.out.mono ?_)
    rintro e w40 hP
    clear C39
    cases hx:tableP lk with
    | err pe ce =>
     rw [hx] at hP
     obtain ⟨rfl,hb⟩:=hP
     have HB:=lh hb
     have HX:many progStep [] l=.err pe ce:=by rw [HM.out];exact many_err (by simp only [progStep,reduceIte,Par.bind,X17.out,XK.out,X29.out,hx])
     have HR:Hid (programP l=.err pe ce):=lh (by simp only [programP,nodeA,Par.bind,X4.out,HX])
     clear hb hx HX
     go_wp2
     exact ⟨rfl,of_err HR.out HB.out⟩
    | ok bq l40 =>
     rw [hx] at hP
     obtain ⟨v40,n40,rfl,S,T⟩:=S32.out.ast (ts':=ts++[bq]) hP rfl
     have HM2:Hid (many progStep [] l=many progStep (ts++[bq]) l40):=lh (by rw [HM.out];exact many_more step_prog (by simp only [progStep,reduceIte,Par.bind,Par.pure,X17.out,XK.out,X29.out,hx]))
     have hq:l40.length<lk.length:=by
      have h5:progStep ts lk=.ok (some (ts++[bq])) l40:=by simp only [progStep,reduceIte,Par.bind,Par.pure,X17.out,XK.out,X29.out,hx]
      exact (step_prog _ _ _ _ h5).1 rfl
     clear hP hx
     have L41:=lh (L30.out.tr T)
     have R42:=lh (R31.out.tr T)
     have S43:=lh (S)
     clear S T S32 L30 R31
     have c44:=L41.out.cell 0 rfl
     have c45:=L41.out.cell 1 rfl
     have c46:=L41.out.cell 2 rfl
     have c47:=L41.out.cell 3 rfl
     have c48:=L41.out.cell 4 rfl
     have z49:=L41.out.fz
     have hk:(roots md.length ts).length≤70000:=by have h6:=S43.out.ps.room;rw [List.length_append,postL_length,sizeL_append] at h6;rw [roots_length];have:=length_le_sizeL ts;omega
     have R50:=lh (R42.out.alloc (.cells #[.int .i64 (rootI (md.length+sizeL ts) bq)] 3))
     have S51:=lh (S43.out.alloc (.cells #[.int .i64 (rootI (md.length+sizeL ts) bq)] 3))
     have L52:=lh (L41.out.alloc (.cells #[.int .i64 (rootI (md.length+sizeL ts) bq)] 3))
     clear c44 c45 c46 c47 c48 z49
     have hbb:Hid (w3.heap.size+1≤(w40.alloc (.cells #[.int .i64 (rootI (md.length+sizeL ts) bq)] 3)).heap.size):=lh (by have h7:=S51.out.fr.size;have h8:=L52.out.lt;simp only [World.size_alloc] at *;omega)
     clear R42 S43 L41
     go_wp2_with (at_builtin;refine wpList_append_lies _ rfl (.tmp 15) (.tmp 18) 32 rfl (E.b+1) 3 i0 _ 1 8 Tryz.underlying32 I0.out I1.out I2.out I3.out rfl (by decide) u4 (roots md.length ts).length ((roots md.length ts).map (Value.int .i64)) rfl R50.out.own ⟨w40.heap.size,0,none⟩ 1 1 [.int .i64 (rootI (md.length+sizeL ts) bq)] rfl rfl (World.news_of_block (cs:=#[.int .i64 (rootI (md.length+sizeL ts) bq)]) (t:=3) (fr:=(0,0)) (heap_alloc_new _ _)) (by simp [Value.oneCell']) (by decide) (by unfold maxLen;omega) (by omega) S51.out.ps.lt _ rfl ?_;intro g5 cap5 w5 hown5 hgrow5 hat5 hlt5)
     have R5:Hid (Rw E v40 (kvs++n40) (w3.heap.size+1) (.slice (some ⟨g5,0,none⟩) ((roots md.length ts).length+1) cap5) (roots md.length (ts++[bq])) w5):=lh (by rw [roots_snoc];exact R50.out.push hbb.out S51.out.ps.fresh hown5 rfl rfl hat5 rfl)
     have S5:=lh (S51.out.grown R50.out (by have:=Q7.out;omega) hgrow5)
     have L5:=lh (L52.out.push R50.out (Nat.lt_succ_self _) hgrow5)
     have hl3:=lh S5.out.ps.left
     clear hown5 hgrow5 hat5 hlt5 R50 S51 L52
     go_wp2
     go_roundw
     case rel=>exact ⟨_,_,_,_,S5,R5,L5,HM2⟩
     case measure=>have h1:=hleft.out;have h2:=hl3.out;show E.toks.length-nextOf E _<E.toks.length-nextOf E wr;omega
  case pos =>
   have XK:=lh hk
   have hd:(t2.kind != 4)=false:=by simpa using hk
   clear hk
   have HX:Hid (many progStep [] l=.ok ts lk):=lh (by rw [HM.out];exact many_done (by simp only [progStep,reduceIte,Par.bind,Par.pure,X17.out,XK.out]))
   clear HM
   have HR:Hid (programP l=.ok (.mk 1 t.at' none0 0 ts) lk):=lh (by simp only [programP,nodeA,Par.bind,Par.pure,X4.out,HX.out])
   have RM2:=lh (R19.out.mono (B':=w.heap.size) (by have:=Q7.out;omega))
   have HSZ:Hid (sizeL ts+lk.length≤0+l.length):=lh (Sz.many (cr:=sizeL) sz_prog [] _ _ _ HX.out)
   have C27:=lh (add_at S20.out.ps (1) ((t.at':Int)) (0) (none0) (.slice none 0 0) (u4) (roots md.length ts) RM2.out.own RM2.out.loc (by have h1:=hroom1.out;have h2:=HSZ.out;rw [List.length_append,postL_length];omega))
   go_wp2_with fail
   clear c21 c22 c23 c24 c25 z26
   (with_reducible refine C27.out.mono ?_)
   rintro e wf hA
   have hO:=lh (S20.out.add (ts:=ts) rfl hA RM2.out.ge)
   obtain ⟨z,rfl⟩:=hA.int
   clear C27
   go_wp2
   go_ret
   exact of_ok HR.out hO.out
end
end
section
open Go.RowKit
theorem wpListIn_append_lies {F:Fence}{n:Nat}{P:Program}(w:World){ops:Array Oper}{rest:List Oper}{o:Oper}{a:Act}{Q:Exit→Act→World→Prop}
 (hg:o.guard=none) (s x:Operand) (t:TypeId) (hop:o.op=Op.call { callee:=Callee.builtin Builtin.append,args:=#[s,x],argTypes:=#[t,t] })
 (base:Nat) (e:TypeId) (i:TypeInfo) (z:Value) (size bytes:Nat) (h1:P.underlying t=some (.slice e)) (h2:P.info? e=some i) (h3:i.zero=some z) (h4:i.size=size) (h5:i.bytes=bytes) (h6:z.cells.size=size) (h7:0<size)
 (v:Value) (k:Nat) (xs:List Value) (hs:a.eval s=v) (hown:w.ownsRow base e size v k xs) (ad:Addr) (m c:Nat) (news:List Value) (hx:a.eval x=.slice (some ad) m c) (hn:news.length=m*size)
 (hc:∀j u,news[j]?=some u→w.cell? (ad.add j)=some u) (h1c:∀u∈news,u.oneCell'=true) (hm:0<m) (b1:k+m≤maxLen) (b2:(k+m)*bytes≤140737488355328) (b3:base≤w.heap.size) (H:Nat) (hH:w.heap.size=H)
 (hK:∀g cap w',w'.ownsRow base e size (.slice (some ⟨g,0,none⟩) (k+m) cap) (k+m) (xs++news)→w.grownBy w' v.ownBlock→(v.ownBlock=some g∨g=H)→g<w'.heap.size→wpListIn F n P ops Q rest (a.put o.dst (.slice (some ⟨g,0,none⟩) (k+m) cap)) w') :
 wpListIn F n P ops Q (o::rest) a w:=by
 refine wpListIn_plain hg fun K hK'=>?_
 obtain ⟨g,cap,w',hrun,r1,r2,r3,r4⟩:=run_append_lies (P:=P) w t o.type base e i z size bytes h1 h2 h3 h4 h5 h6 h7 v k xs hown ad m c news hn hc h1c hm b1 b2 b3 H hH
 unfold Oper.wpIn
 refine ⟨?_,?_⟩
 · simp [Oper.about,hop,resolve,Target.leads,Sem.run_pure]
 · rw [Oper.semAt_plain F _ _ (by rw [hop];intro c hc';cases hc')]
   simp [execOp,hop,resolve,invoke,builtin,hs,hx,hrun,Result.andThen]
   exact hK' _ _ (hK g cap w' r1 r2 r3 r4)
def rowD (kvs:List Value):List (Nat × Nd)→List Value
 | []=>[]
 | x::r=>nodeC x.2 (kvs.getD x.1 default)++rowD kvs r
theorem rowD_append (kvs:List Value)(x y:List (Nat × Nd)):rowD kvs (x++y)=rowD kvs x++rowD kvs y:=by
 induction x with
 | nil=>rfl
 | cons a r ih=>simp only [List.cons_append,rowD,ih,List.append_assoc]
theorem rowD_get (kvs:List Value)(x:List (Nat × Nd))(j:Nat)(y:Nat × Nd)(hj:x[j]?=some y)(i:Nat)(hi:i<5):(rowD kvs x)[j*5+i]?=(nodeC y.2 (kvs.getD y.1 default))[i]?:=by
 induction x generalizing j with
 | nil=>simp at hj
 | cons m r ih =>
  cases j with
  | zero =>
   simp only [List.getElem?_cons_zero,Option.some.injEq] at hj
   subst hj
   simp only [rowD,Nat.zero_mul,Nat.zero_add]
   rw [List.getElem?_append_left (by simp [nodeC];omega)]
  | succ j =>
   simp only [rowD]
   rw [List.getElem?_append_right (by simp [nodeC];omega)]
   rw [← ih j (by simpa using hj)]
   congr 1
   simp [nodeC];omega
structure Made (B:Nat)(w0:World)(v:Value)(kvs:List Value)(md:List Nd):Prop where
 base:B≤w0.heap.size
 own:w0.ownsRow B 54 5 v md.length (cellsM md kvs)
 klen:kvs.length=md.length
 kids:∀j,j<md.length→own1 B w0 (kvs.getD j default) (md.getD j default).kids
 apart:∀x∈kvs,∀k,x.ownBlock=some k→v.ownBlock≠some k
 pair:kvs.Pairwise fun x y=>∀k,x.ownBlock=some k→y.ownBlock≠some k
 few:md.length≤70000
structure F1 (n0:Nat)(w0:World)(kvs:List Value)(N bp bq:Nat)(F:Nat→Int)(D:List (Nat × Nd))(vn pv:Value)(ts:List Int)(rs:List Nat)(w:World):Prop where
 below:Below n0 w0 w
 size:n0≤w.heap.size
 bp0:n0≤bp
 bq0:n0≤bq
 places:∃cs:Array Value,w.heap[bp]?=some (.cells cs 3 (0,0))∧cs.size=N∧∀j,j<N→cs[j]?=some (.int .i64 (F j))
 nodes:w.ownsRow n0 54 5 vn D.length (rowD kvs D)
 box:Boxed w bq 32 pv
 pile:w.ownsRow n0 3 1 pv ts.length (ts.map (Value.int .i64))
 sep:pv.ownBlock≠some bp
 marks:∀r∈rs,n0≤r∧w.heap[r]?=some (.deferred (some []))
 dist:rs.Nodup
section
variable {n0:Nat}{w0:World}{kvs:List Value}{N bp bq:Nat}{F:Nat→Int}{D:List (Nat × Nd)}{vn pv:Value}{ts:List Int}{rs:List Nat}{w w':World}
theorem row_ne {base e size n g:Nat}{xs:List Value}{v:Value}{o:Obj}(h:w.ownsRow base e size v n xs)(hg:w.heap[g]?=some o)(ho:∀cs fr,o≠.cells cs e fr):v.ownBlock≠some g:=fun e1=>by
 obtain ⟨c,fz,h1⟩:=Lib.ownsRow_kind h g e1
 rw [h1] at hg
 exact ho c fz (Option.some.inj hg).symm
theorem F1.vn_bp (h:F1 n0 w0 kvs N bp bq F D vn pv ts rs w):vn.ownBlock≠some bp:=by
 obtain ⟨cs,h1,_,_⟩:=h.places
 exact row_ne h.nodes h1 (fun _ _ e=>by simp at e)
theorem F1.vn_bq (h:F1 n0 w0 kvs N bp bq F D vn pv ts rs w):vn.ownBlock≠some bq:=row_ne h.nodes h.box (fun _ _ e=>by simp at e)
theorem F1.pv_bq (h:F1 n0 w0 kvs N bp bq F D vn pv ts rs w):pv.ownBlock≠some bq:=row_ne h.pile h.box (fun _ _ e=>by simp at e)
theorem F1.bp_bq (h:F1 n0 w0 kvs N bp bq F D vn pv ts rs w):bp≠bq:=fun e=>by
 obtain ⟨cs,h1,_,_⟩:=h.places
 have h2:w.heap[bq]?=_:=h.box
 rw [e,h2] at h1
 simp at h1
theorem F1.mark_ne {cs:Array Value}{T g:Nat}{fr:Nat × Nat}(h:F1 n0 w0 kvs N bp bq F D vn pv ts rs w)(hg:w.heap[g]?=some (.cells cs T fr)):∀r∈rs,r≠g:=fun r hr e=>by
 have:=(h.marks r hr).2
 rw [e,hg] at this
 simp at this
theorem F1.vn_pv (h:F1 n0 w0 kvs N bp bq F D vn pv ts rs w):∀g,pv.ownBlock=some g→vn.ownBlock≠some g:=fun g hg=>by
 obtain ⟨c,fz,h1⟩:=Lib.ownsRow_kind h.pile g hg
 exact row_ne h.nodes h1 (fun _ _ e=>by simp at e)
theorem F1.grown {row:Option Nat}(h:F1 n0 w0 kvs N bp bq F D vn pv ts rs w)(hg:w.grownBy w' row)(h0:∀q,row=some q→n0≤q)(h1:row≠some bp)(h2:row≠some bq)(h3:∀q,row=some q→vn.ownBlock≠some q)(h4:∀q,row=some q→pv.ownBlock≠some q)(h5:∀r∈rs,row≠some r):F1 n0 w0 kvs N bp bq F D vn pv ts rs w' where
 below:=h.below.grown hg h.size h0
 size:=Nat.le_trans h.size hg.size
 bp0:=h.bp0
 bq0:=h.bq0
 places:=by
  obtain ⟨cs,k1,k2⟩:=h.places
  exact ⟨cs,by rw [hg.block bp (Array.getElem?_eq_some_iff.1 k1).1 (fun e=>h1 e.symm)];exact k1,k2⟩
 nodes:=h.nodes.kept hg (by
  cases hv:vn.ownBlock with
  | none=>exact Or.inl rfl
  | some k=>exact Or.inr (fun e=>h3 k e.symm hv))
 box:=h.box.kept hg (fun e=>h2 e.symm)
 pile:=h.pile.kept hg (by
  cases hv:pv.ownBlock with
  | none=>exact Or.inl rfl
  | some k=>exact Or.inr (fun e=>h4 k e.symm hv))
 sep:=h.sep
 marks:=fun r hr=>⟨(h.marks r hr).1,by rw [hg.block r (Array.getElem?_eq_some_iff.1 (h.marks r hr).2).1 (fun e=>h5 r hr e.symm)];exact (h.marks r hr).2⟩
 dist:=h.dist
theorem F1.alloc (h:F1 n0 w0 kvs N bp bq F D vn pv ts rs w)(o:Obj):F1 n0 w0 kvs N bp bq F D vn pv ts rs (w.alloc o) :=
 h.grown (World.grownBy_alloc w o none) (fun _ e=>by cases e) (by simp) (by simp) (fun _ e=>by cases e) (fun _ e=>by cases e) (fun _ _=>by simp)
theorem F1.place (h:F1 n0 w0 kvs N bp bq F D vn pv ts rs w)(j:Nat)(hj:j<N)(z:Int):F1 n0 w0 kvs N bp bq (fun k=>if k=j then z else F k) D vn pv ts rs (w.setCell ⟨bp,j,none⟩ (.int .i64 z)):=by
 obtain ⟨cs,k1,k2,k3⟩:=h.places
 have hg:=grownBy_set w ⟨bp,j,none⟩ (.int .i64 z)
 exact {
  below:=h.below.grown hg h.size (fun q e=>by cases e;exact h.bp0)
  size:=Nat.le_trans h.size hg.size
  bp0:=h.bp0
  bq0:=h.bq0
  places:=⟨_,heap_set _ _ _ _ _ _ k1,by simpa using k2,fun k hk=>by
   by_cases e:k=j
   · subst e;simp [k2,hj]
   · rw [if_neg e,Array.getElem?_setIfInBounds_ne (fun e1=>e e1.symm)];exact k3 k hk⟩
  nodes:=h.nodes.kept hg (Or.inr h.vn_bp)
  box:=h.box.kept hg (fun e=>h.bp_bq (Option.some.inj e).symm)
  pile:=h.pile.kept hg (Or.inr h.sep)
  sep:=h.sep
  marks:=fun r hr=>⟨(h.marks r hr).1,by rw [hg.block r (Array.getElem?_eq_some_iff.1 (h.marks r hr).2).1 (fun e=>h.mark_ne k1 r hr (Option.some.inj e))];exact (h.marks r hr).2⟩
  dist:=h.dist }
theorem F1.placeAt (h:F1 n0 w0 kvs N bp bq F D vn pv ts rs w)(j:Nat)(hj:j<N):w.cell? ⟨bp,j,none⟩=some (.int .i64 (F j))∧w.frozen? ⟨bp,j,none⟩=false:=by
 obtain ⟨cs,k1,k2,k3⟩:=h.places
 exact ⟨by rw [cell_of_row _ _ _ _ _ _ k1];exact k3 j hj,frozen_of_row _ _ _ _ _ k1⟩
theorem F1.top {t:Int}(h:F1 n0 w0 kvs N bp bq F D vn pv (ts++[t]) rs w):∃g cap,pv=.slice (some ⟨g,0,none⟩) (ts.length+1) cap∧w.cell? ⟨g,ts.length,none⟩=some (.int .i64 t)∧F1 n0 w0 kvs N bp bq F D vn (.slice (some ⟨g,0,none⟩) ts.length cap) ts rs (w.setCell ⟨bq,0,none⟩ (.slice (some ⟨g,0,none⟩) ts.length cap)):=by
 have hp:=h.pile
 rw [List.length_append,List.length_singleton] at hp
 obtain ⟨g,cap,rfl⟩:=ownsRow_succ hp
 refine ⟨g,cap,rfl,?_,?_⟩
 · rw [hp.cellAt ts.length (by omega)]
   simp
 · have hp2:w.ownsRow n0 3 1 (.slice (some ⟨g,0,none⟩) ts.length cap) ts.length (ts.map (Value.int .i64)):=ownsRow_pop (last:=[.int .i64 t]) (by simp) (by rw [List.map_append] at hp;exact hp)
   have hg:=grownBy_set w ⟨bq,0,none⟩ (.slice (some ⟨g,0,none⟩) ts.length cap)
   have hne:g≠bq:=fun e=>h.pv_bq (by rw [← e];rfl)
   exact {
    below:=h.below.grown hg h.size (fun q e=>by cases e;exact h.bq0)
    size:=Nat.le_trans h.size hg.size
    bp0:=h.bp0
    bq0:=h.bq0
    places:=by
     obtain ⟨cs,k1,k2⟩:=h.places
     exact ⟨cs,by rw [hg.block bp (Array.getElem?_eq_some_iff.1 k1).1 (fun e=>h.bp_bq (Option.some.inj e))];exact k1,k2⟩
    nodes:=h.nodes.kept hg (Or.inr h.vn_bq)
    box:=h.box.set _
    pile:=hp2.kept hg (Or.inr (fun e=>hne (by simpa [Value.ownBlock] using e)))
    sep:=h.sep
    marks:=fun r hr=>⟨(h.marks r hr).1,by rw [hg.block r (Array.getElem?_eq_some_iff.1 (h.marks r hr).2).1 (fun e=>h.mark_ne (show w.heap[bq]?=_ from h.box) r hr (Option.some.inj e))];exact (h.marks r hr).2⟩
    dist:=h.dist }
theorem F1.node {vn':Value}{x:Nat × Nd}{wa:World}(h:F1 n0 w0 kvs N bp bq F D vn pv ts rs wa)(hg:wa.grownBy w vn.ownBlock)(hown:w.ownsRow n0 54 5 vn' (D.length+1) (rowD kvs D++nodeC x.2 (kvs.getD x.1 default))):F1 n0 w0 kvs N bp bq F (D++[x]) vn' pv ts rs w where
 below:=h.below.grown hg h.size (fun q e=>(h.nodes.lt q e).1)
 size:=Nat.le_trans h.size hg.size
 bp0:=h.bp0
 bq0:=h.bq0
 places:=by
  obtain ⟨cs,k1,k2⟩:=h.places
  exact ⟨cs,by rw [hg.block bp (Array.getElem?_eq_some_iff.1 k1).1 (fun e=>h.vn_bp e.symm)];exact k1,k2⟩
 nodes:=by
  rw [List.length_append,rowD_append]
  simpa [rowD] using hown
 box:=h.box.kept hg (fun e=>h.vn_bq e.symm)
 pile:=h.pile.kept hg (by
  cases hv:pv.ownBlock with
  | none=>exact Or.inl rfl
  | some k=>exact Or.inr (fun e=>h.vn_pv k hv e.symm))
 sep:=h.sep
 marks:=fun r hr=>⟨(h.marks r hr).1,by
  rw [hg.block r (Array.getElem?_eq_some_iff.1 (h.marks r hr).2).1 (fun e=>?_)]
  · exact (h.marks r hr).2
  · obtain ⟨c,fz,h1⟩:=Lib.ownsRow_kind h.nodes r e.symm
    exact h.mark_ne h1 r hr rfl⟩
 dist:=h.dist
theorem F1.push {pv':Value}{t:Int}{w1:World}{tmp:Obj}(h:F1 n0 w0 kvs N bp bq F D vn pv ts rs w)(hg:(w.alloc tmp).grownBy w1 pv.ownBlock)(hown:w1.ownsRow n0 3 1 pv' (ts.length+1) (ts.map (Value.int .i64)++[.int .i64 t]))(hat:∀g,pv'.ownBlock=some g→pv.ownBlock=some g∨w.heap.size≤g) :
 F1 n0 w0 kvs N bp bq F D vn pv' (ts++[t]) rs (w1.setCell ⟨bq,0,none⟩ pv'):=by
 have hb1:Boxed w1 bq 32 pv:=(h.box.alloc tmp).kept hg (fun e=>h.pv_bq e.symm)
 have hg2:=grownBy_set w1 ⟨bq,0,none⟩ pv'
 have hgg:∀k,k<w.heap.size→pv.ownBlock≠some k→k≠bq→(w1.setCell ⟨bq,0,none⟩ pv').heap[k]?=w.heap[k]?:=fun k h1 h2 h3=>by
  rw [hg2.block k (by have:=hg.size;simp at this;omega) (fun e=>h3 (Option.some.inj e)),hg.block k (by simp;omega) (fun e=>h2 e.symm)]
  exact Below.heap_alloc w tmp k h1
 have hsz:w.heap.size≤(w1.setCell ⟨bq,0,none⟩ pv').heap.size:=by have h1:=hg.size;have h2:=hg2.size;simp only [World.size_alloc] at h1;omega
 exact {
  below:=(((h.below.alloc h.size tmp).grown hg (by have:=h.size;simp;omega) (fun q e=>(h.pile.lt q e).1))).setCell (p:=⟨bq,0,none⟩) h.bq0 _
  size:=Nat.le_trans h.size hsz
  bp0:=h.bp0
  bq0:=h.bq0
  places:=by
   obtain ⟨cs,k1,k2⟩:=h.places
   exact ⟨cs,by rw [hgg bp (Array.getElem?_eq_some_iff.1 k1).1 h.sep h.bp_bq];exact k1,k2⟩
  nodes:=by
   refine ((h.nodes.alloc tmp).kept hg ?_).kept hg2 (Or.inr h.vn_bq)
   cases hv:pv.ownBlock with
   | none =>
    cases hvn:vn.ownBlock with
    | none=>exact Or.inl rfl
    | some k=>exact Or.inr (by simp)
   | some k=>exact Or.inr (fun e=>h.vn_pv k hv e)
  box:=hb1.set pv'
  pile:=by
   rw [List.length_append,List.map_append]
   exact hown.kept hg2 (Or.inr (row_ne hown hb1 (fun _ _ e=>by simp at e)))
  sep:=fun e=>by
   rcases hat bp e with h1|h1
   · exact h.sep h1
   · obtain ⟨cs,k1,_⟩:=h.places
     have:=(Array.getElem?_eq_some_iff.1 k1).1
     omega
  marks:=fun r hr=>⟨(h.marks r hr).1,by
   rw [hgg r (Array.getElem?_eq_some_iff.1 (h.marks r hr).2).1 (fun e=>?_) (fun e=>h.mark_ne (show w.heap[bq]?=_ from h.box) r hr e)]
   · exact (h.marks r hr).2
   · obtain ⟨c,fz,h1⟩:=Lib.ownsRow_kind h.pile r e
     exact h.mark_ne h1 r hr rfl⟩
  dist:=h.dist }
theorem F1.own_from {B qx:Nat}(hm:∀r∈rs,r<B)(hB:n0≤B)(base:List Int):OwnFrom B (fun (pre:List (Int × Int)) W=>∃pv,F1 n0 w0 kvs N bp bq F D vn pv (base++pre.map (·.2)) rs W∧pv.ownBlock≠some qx∧qx<W.heap.size):=by
 rintro pre X Y row ⟨pv,h,hx1,hx2⟩ hg hrow
 have hne:∀ {g:Nat} {cs:Array Value} {T:Nat} {fr:Nat × Nat},X.heap[g]?=some (.cells cs T fr)→row≠some g:=fun {g cs T fr} h1 e=>by
  obtain ⟨_,o,ho,hc⟩:=hrow g e
  rw [h1] at ho
  cases ho
  simp [Obj.isCells] at hc
 obtain ⟨cs,k1,_⟩:=h.places
 refine ⟨pv,h.grown hg (fun q e=>Nat.le_trans hB (hrow q e).1) (hne k1) (hne (show X.heap[bq]?=_ from h.box)) (fun q e e1=>?_) (fun q e e1=>?_) (fun r hr e=>?_),hx1,Nat.lt_of_lt_of_le hx2 hg.size⟩
 · obtain ⟨c,fz,h1⟩:=Lib.ownsRow_kind h.nodes q e1
   exact hne h1 e
 · obtain ⟨c,fz,h1⟩:=Lib.ownsRow_kind h.pile q e1
   exact hne h1 e
 · have h1:=(hrow r e).1
   have h2:=hm r hr
   omega
theorem F1.mark (h:F1 n0 w0 kvs N bp bq F D vn pv ts rs w){r:Nat}(h0:n0≤r)(hr:w.heap[r]?=some (.deferred (some [])))(hn:r ∉ rs):F1 n0 w0 kvs N bp bq F D vn pv ts (r::rs) w :=
 { h with
   marks:=fun x hx=>by
    rcases List.mem_cons.1 hx with rfl|hx
    · exact ⟨h0,hr⟩
    · exact h.marks x hx
   dist:=List.nodup_cons.2 ⟨hn,h.dist⟩ }
theorem back_all (zs:List Int):(upto (backF zs) zs.length).map (·.2)=zs.reverse:=by
 apply List.ext_getElem
 · simp [upto]
 · intro i h1 h2
   have h3:i<zs.length:=by simpa using h2
   simp [upto,backF,show zs.length-1-i<zs.length by omega]
theorem F1.pushes {pv':Value}{w1:World}{tmp:Obj}{qx:Nat}(h:F1 n0 w0 kvs N bp bq F D vn pv ts rs w)(hg:(w.alloc tmp).grownBy w1 pv.ownBlock)(hq1:pv.ownBlock≠some qx)(hq2:qx≠bq):KeepsAt n0 qx w (w1.setCell ⟨bq,0,none⟩ pv'):=by
 have hg2:=grownBy_set w1 ⟨bq,0,none⟩ pv'
 refine ⟨by have h1:=hg.size;have h2:=hg2.size;simp only [World.size_alloc] at h1;omega,fun g hgq hl=>?_⟩
 have e1:g≠bq:=by
  have:=h.bq0
  rcases hgq with h1|h1
  · omega
  · rw [h1];exact hq2
 have e2:pv.ownBlock≠some g:=fun e=>by
  rcases hgq with h1|h1
  · have:=(h.pile.lt g e).1;omega
  · rw [h1] at e;exact hq1 e
 rw [hg2.block g (by have:=hg.size;simp at this;omega) (fun e=>e1 (Option.some.inj e)),hg.block g (by simp;omega) (fun e=>e2 e.symm)]
 exact Below.heap_alloc w tmp g hl
theorem ints_of_own1 {B n₀:Nat}{W:World}{kv:Value}{zs:List Int}(h:own1 B W kv zs)(hlt:∀g,kv.ownBlock=some g→g<n₀):IntsAt n₀ W kv zs:=by
 obtain ⟨h1,h2⟩:=h
 rcases h2 with ⟨h2,h3⟩|⟨g,cap,cur,h2,h3⟩
 · exact Or.inl ⟨h2,List.length_eq_zero_iff.1 h3⟩
 · subst h2
   refine Or.inr ⟨g,0,cap,rfl,hlt g rfl,fun j hj=>?_⟩
   have h4:=World.ownsRow.cellAt (⟨h1,.inr ⟨g,cap,cur,rfl,h3⟩⟩:W.ownsRow B 3 1 (.slice (some ⟨g,0,none⟩) zs.length cap) zs.length (zs.map (Value.int .i64))) j (by omega)
   rw [Nat.zero_add,h4]
   simp [hj]
end
end
section
open Go.RowKit
mutual
theorem raw_kids (b:Nat):∀(a:Ast) (x:Nat × Nd),x∈raw b a→∀z∈x.2.kids,∃y∈raw b a,z=(y.1:Int)
 | .mk k a t n ks,x,hx,z,hz=>by
  simp only [raw,List.mem_cons] at hx ⊢
  rcases hx with rfl|hx
  · obtain ⟨y,hy,e⟩:=roots_raw b ks z hz
    exact ⟨y,Or.inr hy,e⟩
  · obtain ⟨y,hy,e⟩:=rawL_kids b ks x hx z hz
    exact ⟨y,Or.inr hy,e⟩
theorem rawL_kids (b:Nat):∀(l:List Ast) (x:Nat × Nd),x∈rawL b l→∀z∈x.2.kids,∃y∈rawL b l,z=(y.1:Int)
 | [],x,hx,_,_=>by simp [rawL] at hx
 | y::r,x,hx,z,hz=>by
  simp only [rawL,List.mem_append] at hx ⊢
  rcases hx with hx|hx
  · obtain ⟨u,hu,e⟩:=raw_kids b y x hx z hz
    exact ⟨u,Or.inl hu,e⟩
  · obtain ⟨u,hu,e⟩:=rawL_kids (b+y.size) r x hx z hz
    exact ⟨u,Or.inr hu,e⟩
theorem roots_raw (b:Nat):∀(l:List Ast) (z:Int),z∈roots b l→∃y∈rawL b l,z=(y.1:Int)
 | [],z,hz=>by simp [roots] at hz
 | y::r,z,hz=>by
  simp only [roots,List.mem_cons] at hz
  simp only [rawL,List.mem_append]
  rcases hz with rfl|hz
  · obtain ⟨nd,rest,e⟩:=raw_head b y
    have:=size_pos y
    exact ⟨(b+y.size-1,nd),Or.inl (by rw [e];simp),by simp only;omega⟩
  · obtain ⟨u,hu,e⟩:=roots_raw (b+y.size) r z hz
    exact ⟨u,Or.inr hu,e⟩
end
mutual
theorem raw_few (b:Nat):∀(a:Ast) (x:Nat × Nd),x∈raw b a→x.2.kids.length≤a.size
 | .mk k a t n ks,x,hx=>by
  simp only [raw,List.mem_cons] at hx
  simp only [Ast.size]
  rcases hx with rfl|hx
  · simp only [roots_length]
    have:=length_le_sizeL ks
    omega
  · have:=rawL_few b ks x hx
    omega
theorem rawL_few (b:Nat):∀(l:List Ast) (x:Nat × Nd),x∈rawL b l→x.2.kids.length≤sizeL l
 | [],x,hx=>by simp [rawL] at hx
 | y::r,x,hx=>by
  simp only [rawL,List.mem_append] at hx
  simp only [sizeL]
  rcases hx with hx|hx
  · have:=raw_few b y x hx
    omega
  · have:=rawL_few (b+y.size) r x hx
    omega
end
def startK (D:List (Nat × Nd))(i:Nat):List Int:=(D.getD i default).2.kids
def gF (F:Nat→Int)(z:Int):Int:=F z.toNat
def kidsK (F:Nat→Int)(D:List (Nat × Nd))(i j x:Nat):List Int :=
 if x<i then (startK D x).map (gF F) else if x=i then ((startK D x).take j).map (gF F)++(startK D x).drop j else startK D x
theorem kidsK_zero (F:Nat→Int)(D:List (Nat × Nd))(x:Nat):kidsK F D 0 0 x=startK D x:=by
 simp only [kidsK,Nat.not_lt_zero,if_false]
 split<;>simp
theorem kidsK_done (F:Nat→Int)(D:List (Nat × Nd))(i x:Nat):kidsK F D i (startK D i).length x=kidsK F D (i+1) 0 x:=by
 simp only [kidsK]
 by_cases h1:x<i
 · rw [if_pos h1,if_pos (by omega)]
 · rw [if_neg h1]
   by_cases h2:x=i
   · subst h2
     rw [if_pos rfl,if_pos (by omega)]
     simp
   · rw [if_neg h2,if_neg (by omega)]
     split<;>simp
theorem kidsK_here (F:Nat→Int)(D:List (Nat × Nd))(i j:Nat):kidsK F D i j i=((startK D i).take j).map (gF F)++(startK D i).drop j:=by simp [kidsK]
theorem kidsK_length (F:Nat→Int)(D:List (Nat × Nd))(i j x:Nat):(kidsK F D i j x).length=(startK D x).length:=by
 simp only [kidsK]
 split
 · simp
 · split<;>simp<;>omega
theorem kidsK_at (F:Nat→Int)(D:List (Nat × Nd))(i j:Nat)(hj:j<(startK D i).length):(kidsK F D i j i)[j]?=(startK D i)[j]?:=by
 rw [kidsK_here,List.getElem?_append_right (by simp;omega)]
 simp [show min j (startK D i).length=j by omega]
theorem kidsK_set (F:Nat→Int)(D:List (Nat × Nd))(i j:Nat)(z:Int)(hz:(startK D i)[j]?=some z):kidsK F D i (j+1) i=(kidsK F D i j i).set j (gF F z):=by
 have hj:j<(startK D i).length:=(List.getElem?_eq_some_iff.1 hz).1
 rw [kidsK_here,kidsK_here]
 apply List.ext_getElem?
 intro x
 by_cases h1:x<j
 · rw [List.getElem?_append_left (by simp;omega),List.getElem?_set_ne (by omega),List.getElem?_append_left (by simp;omega)]
   simp [h1,show x<j+1 by omega]
 · by_cases h2:x=j
   · subst h2
     rw [List.getElem?_append_left (by simp;omega),List.getElem?_set_self (by simp;omega)]
     simp [hz]
   · rw [List.getElem?_append_right (by simp;omega),List.getElem?_set_ne (by omega),List.getElem?_append_right (by simp;omega)]
     simp only [List.length_map,List.length_take,List.getElem?_drop]
     congr 1
     omega
theorem kidsK_other (F:Nat→Int)(D:List (Nat × Nd))(i j x:Nat)(hx:x≠i):kidsK F D i (j+1) x=kidsK F D i j x:=by
 simp only [kidsK,if_neg hx]
structure F2 (B n0:Nat)(w0:World)(kvs:List Value)(N bp:Nat)(F:Nat→Int)(D:List (Nat × Nd))(vn:Value)(K:Nat→List Int)(rs:List Nat)(w:World):Prop where
 below:Below B w0 w
 size:n0≤w.heap.size
 bp0:n0≤bp
 places:∃cs:Array Value,w.heap[bp]?=some (.cells cs 3 (0,0))∧cs.size=N∧∀j,j<N→cs[j]?=some (.int .i64 (F j))
 nodes:w.ownsRow n0 54 5 vn D.length (rowD kvs D)
 kids:∀i,i<D.length→own1 B w (kvs.getD (D.getD i default).1 default) (K i)
 near:∀i,i<D.length→∀g,(kvs.getD (D.getD i default).1 default).ownBlock=some g→g<n0
 apart:∀i j,i<D.length→j<D.length→i≠j→∀g,(kvs.getD (D.getD i default).1 default).ownBlock=some g→(kvs.getD (D.getD j default).1 default).ownBlock≠some g
 marks:∀r∈rs,n0≤r∧w.heap[r]?=some (.deferred (some []))
 dist:rs.Nodup
section
variable {B n0:Nat}{w0:World}{kvs:List Value}{N bp:Nat}{F:Nat→Int}{D:List (Nat × Nd)}{vn:Value}{K K':Nat→List Int}{rs:List Nat}{w w':World}
theorem F2.congr (h:F2 B n0 w0 kvs N bp F D vn K rs w)(hk:∀i,i<D.length→K i=K' i):F2 B n0 w0 kvs N bp F D vn K' rs w :=
 { h with kids:=fun i hi=>by rw [← hk i hi];exact h.kids i hi }
theorem F2.grown (h:F2 B n0 w0 kvs N bp F D vn K rs w)(hB:B≤n0)(hg:w.grownBy w' none):F2 B n0 w0 kvs N bp F D vn K rs w' where
 below:=h.below.grown hg (Nat.le_trans hB h.size) (fun _ e=>by cases e)
 size:=Nat.le_trans h.size hg.size
 bp0:=h.bp0
 places:=by
  obtain ⟨cs,k1,k2⟩:=h.places
  exact ⟨cs,by rw [hg.block bp (Array.getElem?_eq_some_iff.1 k1).1 (by simp)];exact k1,k2⟩
 nodes:=h.nodes.kept hg (by cases vn.ownBlock<;>simp)
 kids:=fun i hi=>(h.kids i hi).grown hg (by cases (kvs.getD (D.getD i default).1 default).ownBlock<;>simp)
 near:=h.near
 apart:=h.apart
 marks:=fun r hr=>⟨(h.marks r hr).1,by rw [hg.block r (Array.getElem?_eq_some_iff.1 (h.marks r hr).2).1 (by simp)];exact (h.marks r hr).2⟩
 dist:=h.dist
theorem F2.put (h:F2 B n0 w0 kvs N bp F D vn K rs w)(i:Nat)(hi:i<D.length){g c:Nat}(hkv:kvs.getD (D.getD i default).1 default=.slice (some ⟨g,0,none⟩) (K i).length c)(j:Nat)(z:Int)(hj:j<(K i).length)(hB:B≤n0)
 (h1:K' i=(K i).set j z) (h2:∀x,x<D.length→x≠i→K' x=K x):F2 B n0 w0 kvs N bp F D vn K' rs (w.setCell ⟨g,j,none⟩ (.int .i64 z)):=by
 have hg:=grownBy_set w ⟨g,j,none⟩ (.int .i64 z)
 have hgb:(kvs.getD (D.getD i default).1 default).ownBlock=some g:=by rw [hkv];rfl
 have hgn:=h.near i hi g hgb
 have hk:=h.kids i hi
 have hlo:=(hk.lt g hgb).1
 exact {
  below:=h.below.grown hg (Nat.le_trans hB h.size) (fun q e=>by cases e;exact hlo)
  size:=Nat.le_trans h.size hg.size
  bp0:=h.bp0
  places:=by
   obtain ⟨cs,k1,k2⟩:=h.places
   have:=h.bp0
   exact ⟨cs,by rw [hg.block bp (Array.getElem?_eq_some_iff.1 k1).1 (fun e=>by have e:=Option.some.inj e;simp only at e;omega)];exact k1,k2⟩
  nodes:=h.nodes.kept hg (Or.inr (fun e=>by have:=(h.nodes.lt _ e).1;simp only at this;omega))
  kids:=fun x hx=>by
   by_cases e:x=i
   · subst e
     rw [h1]
     rw [hkv] at hk ⊢
     have h3:=World.ownsRow.stored hk j (.int .i64 z)
     unfold own1
     rw [List.length_set,List.map_set]
     exact h3.1
   · rw [h2 x hx e]
     exact (h.kids x hx).grown hg (Or.inr (h.apart i x hi hx (fun e1=>e e1.symm) g hgb))
  near:=h.near
  apart:=h.apart
  marks:=fun r hr=>⟨(h.marks r hr).1,by
   have h3:=(h.marks r hr).1
   rw [hg.block r (Array.getElem?_eq_some_iff.1 (h.marks r hr).2).1 (fun e=>by have e:=Option.some.inj e;simp only at e;omega)];exact (h.marks r hr).2⟩
  dist:=h.dist }
theorem F2.placeAt (h:F2 B n0 w0 kvs N bp F D vn K rs w)(j:Nat)(hj:j<N):w.cell? ⟨bp,j,none⟩=some (.int .i64 (F j)):=by
 obtain ⟨cs,k1,k2,k3⟩:=h.places
 rw [cell_of_row _ _ _ _ _ _ k1];exact k3 j hj
theorem F1.go {md:List Nd}{bq:Nat}{pv:Value}{ts:List Int}{vm:Value}(h:F1 n0 w0 kvs N bp bq F D vn pv ts rs w)(hM:Made B w0 vm kvs md)(hn:n0=w0.heap.size)(hD:∀(i:Nat) (x:Nat × Nd),D[i]?=some x→md[x.1]?=some x.2)(hnd:(D.map (·.1)).Nodup):F2 B n0 w0 kvs N bp F D vn (startK D) rs w:=by
 have hget:∀i,i<D.length→D[i]?=some (D.getD i default):=fun i hi=>by simp [List.getD,hi]
 have hk0:∀i,i<D.length→own1 B w0 (kvs.getD (D.getD i default).1 default) (startK D i):=fun i hi=>by
  have h1:=hD i _ (hget i hi)
  have h2:=hM.kids (D.getD i default).1 (List.getElem?_eq_some_iff.1 h1).1
  rwa [show md.getD (D.getD i default).1 default=(D.getD i default).2 by simp only [List.getD] at h1 ⊢;rw [h1];rfl] at h2
 subst hn
 exact {
  below:=h.below.mono hM.base
  size:=h.size
  bp0:=h.bp0
  places:=h.places
  nodes:=h.nodes
  kids:=fun i hi=>by
   obtain ⟨h1,h2⟩:=hk0 i hi
   refine ⟨h1,?_⟩
   rcases h2 with h2|⟨g,cap,cur,e,hb,hh,hr⟩
   · exact Or.inl h2
   · exact Or.inr ⟨g,cap,cur,e,hb,by rw [h.below.block g (Array.getElem?_eq_some_iff.1 hh).1];exact hh,hr⟩
  near:=fun i hi g hg=>((hk0 i hi).lt g hg).2
  apart:=fun i j hi hj hne g hg=>by
   have e1:=hget i hi
   have e2:=hget j hj
   have l1:(D.getD i default).1<kvs.length:=by rw [hM.klen];exact (List.getElem?_eq_some_iff.1 (hD i _ e1)).1
   have l2:(D.getD j default).1<kvs.length:=by rw [hM.klen];exact (List.getElem?_eq_some_iff.1 (hD j _ e2)).1
   have hpp:(D.getD i default).1≠(D.getD j default).1:=fun e=>by
    have m1:(D.map (·.1))[i]?=some (D.getD i default).1:=by rw [List.getElem?_map,e1];rfl
    have m2:(D.map (·.1))[j]?=some (D.getD j default).1:=by rw [List.getElem?_map,e2];rfl
    rw [e] at m1
    exact hne ((List.getElem?_inj (by simpa using hi) hnd).1 (by rw [m1,m2]))
   have hp:=List.pairwise_iff_getElem.1 hM.pair
   have g1:kvs.getD (D.getD i default).1 default=kvs[(D.getD i default).1]:=by rw [List.getD_eq_getElem?_getD,List.getElem?_eq_getElem l1];rfl
   have g2:kvs.getD (D.getD j default).1 default=kvs[(D.getD j default).1]:=by rw [List.getD_eq_getElem?_getD,List.getElem?_eq_getElem l2];rfl
   rw [g1] at hg
   rw [g2]
   rcases Nat.lt_or_gt_of_ne hpp with h3|h3
   · exact hp _ _ l1 l2 h3 g hg
   · exact fun e=>hp _ _ l2 l1 h3 g e hg
  marks:=h.marks
  dist:=h.dist }
theorem ownsRow_agree {base e size n:Nat}{v:Value}{xs:List Value}{wX:World}(h:w.ownsRow base e size v n xs)(hX:∀k,base≤k→wX.heap[k]?=w.heap[k]?):wX.ownsRow base e size v n xs:=by
 obtain ⟨h1,h2⟩:=h
 refine ⟨h1,?_⟩
 rcases h2 with h2|⟨g,cap,cur,h2,h3,h4,h5⟩
 · exact .inl h2
 · exact .inr ⟨g,cap,cur,h2,h3,by rw [hX g h3];exact h4,h5⟩
theorem tree_of {gv vc:Nat}(hnodes:w.ownsRow n0 54 5 (.slice (some ⟨gv,0,none⟩) D.length vc) D.length (rowD kvs D))(hkids:∀i,i<D.length→own1 B w (kvs.getD (D.getD i default).1 default) ((startK D i).map (gF F))):Tr.TV w (some ⟨gv,0,none⟩) D.length vc (D.map (placed (gF F))) where
 len_eq:=by simp
 cap:=by
  rcases hnodes.2 with ⟨h1,_⟩|⟨g,cap,cur,h1,_,_,h2,_⟩
  · simp at h1
  · simp only [Value.slice.injEq] at h1;omega
 node:=fun hl=>⟨gv,0,rfl,(hnodes.lt gv rfl).2,fun i hi=>by
  have hx:D[i]?=some (D.getD i default):=by simp [List.getD,hi]
  have hc:∀q u,(nodeC (D.getD i default).2 (kvs.getD (D.getD i default).1 default))[q]?=some u→w.cell? ⟨gv,0+i*5+q,none⟩=some u:=fun q u hq=>by
   have h5:q<5:=by have:=(List.getElem?_eq_some_iff.1 hq).1;simpa [nodeC] using this
   rw [Nat.zero_add,hnodes.cellAt (i*5+q) (by omega),rowD_get kvs D i _ hx q h5]
   exact hq
  have hnd:(D.map (placed (gF F))).getD i default=placed (gF F) (D.getD i default):=by simp [List.getD,hi]
  have hk:=hkids i hi
  rw [hnd]
  obtain ⟨k1,k2⟩:=hk
  rcases k2 with ⟨k2,k3⟩|⟨g,cap,cur,k2,k3⟩
  · have k3':(placed (gF F) (D.getD i default)).kids=[]:=List.length_eq_zero_iff.1 k3
    exact ⟨none,0,0,⟨hc 0 _ rfl,hc 1 _ rfl,hc 2 _ rfl,hc 3 _ rfl,by rw [← k2];exact hc 4 _ rfl,⟨by rw [k3'];rfl,Nat.le_refl _,fun h0=>absurd h0 (by omega)⟩⟩⟩
  · refine ⟨some ⟨g,0,none⟩,((startK D i).map (gF F)).length,cap,⟨hc 0 _ rfl,hc 1 _ rfl,hc 2 _ rfl,hc 3 _ rfl,by rw [← k2];exact hc 4 _ rfl,⟨rfl,k3.2.2.1,fun h0=>?_⟩⟩⟩
    have hown:w.ownsRow B 3 1 (.slice (some ⟨g,0,none⟩) ((startK D i).map (gF F)).length cap) ((startK D i).map (gF F)).length (((startK D i).map (gF F)).map (Value.int .i64)):=⟨k1,.inr ⟨g,cap,cur,rfl,k3⟩⟩
    refine ⟨g,0,rfl,(hown.lt g rfl).2,fun j hj=>?_⟩
    rw [Nat.zero_add,hown.cellAt j (by omega)]
    show _=some (Value.int .i64 (((startK D i).map (gF F)).getD j 0))
    simp only [List.getElem?_map,List.getD]
    simp only [List.length_map] at hj
    simp [hj]⟩
theorem F2.tree {gv vc:Nat}{wX:World}(h:F2 B n0 w0 kvs N bp F D (.slice (some ⟨gv,0,none⟩) D.length vc) (kidsK F D D.length 0) rs w)(hB:B≤n0)(hX:∀k,B≤k→wX.heap[k]?=w.heap[k]?):Tr.TV wX (some ⟨gv,0,none⟩) D.length vc (D.map (placed (gF F))) :=
 tree_of (ownsRow_agree h.nodes (fun k hk=>hX k (Nat.le_trans hB hk))) (fun i hi=>by
  have hk:=h.kids i hi
  have hki:kidsK F D D.length 0 i=(startK D i).map (gF F):=by simp [kidsK,hi]
  rw [hki] at hk
  exact ownsRow_agree hk hX)
theorem F2.unmark {r:Nat}(h:F2 B n0 w0 kvs N bp F D vn K (r::rs) w)(hB:B≤n0):w.heap[r]?=some (.deferred (some []))∧F2 B n0 w0 kvs N bp F D vn K rs (w.putObj r (.deferred none)):=by
 obtain ⟨h1,h2⟩:=h.marks r (by simp)
 have hg:=grownBy_putObj' w r (.deferred none)
 refine ⟨h2,?_⟩
 exact {
  below:=h.below.grown hg (Nat.le_trans hB h.size) (fun q e=>by cases e;omega)
  size:=Nat.le_trans h.size hg.size
  bp0:=h.bp0
  places:=by
   obtain ⟨cs,k1,k2⟩:=h.places
   exact ⟨cs,by rw [hg.block bp (Array.getElem?_eq_some_iff.1 k1).1 (fun e=>by
    have e:=Option.some.inj e
    rw [e,h2] at k1
    simp at k1)];exact k1,k2⟩
  nodes:=ownsRow_putObj h.nodes _ h2 rfl
  kids:=fun i hi=>ownsRow_putObj (h.kids i hi) _ h2 rfl
  near:=h.near
  apart:=h.apart
  marks:=fun x hx=>⟨(h.marks x (by simp [hx])).1,by
   have h3:=(h.marks x (by simp [hx])).2
   have hne:x≠r:=fun e=>(List.nodup_cons.1 h.dist).1 (by rw [← e];exact hx)
   rw [hg.block x (Array.getElem?_eq_some_iff.1 h3).1 (fun e=>hne (Option.some.inj e))];exact h3⟩
  dist:=(List.nodup_cons.1 h.dist).2 }
theorem F2.res {q0 T:Nat}{u u':Value}(h:F2 B n0 w0 kvs N bp F D vn K rs w)(hb:Boxed w q0 T u)(h1:q0<n0)(h2:B≤q0)(hT:T≠3):F2 B n0 w0 kvs N bp F D vn K rs (w.setCell ⟨q0,0,none⟩ u'):=by
 have hg:=grownBy_set w ⟨q0,0,none⟩ u'
 have hb':w.heap[q0]?=some (.cells #[u] T (0,0)):=hb
 have hbp:=h.bp0
 exact {
  below:=h.below.grown hg (by have:=hb.lt;omega) (fun q e=>by cases e;exact h2)
  size:=Nat.le_trans h.size hg.size
  bp0:=h.bp0
  places:=by
   obtain ⟨cs,k1,k2⟩:=h.places
   exact ⟨cs,by rw [hg.block bp (Array.getElem?_eq_some_iff.1 k1).1 (fun e=>by have e:=Option.some.inj e;simp only at e;omega)];exact k1,k2⟩
  nodes:=h.nodes.kept hg (Or.inr (fun e=>by have:=(h.nodes.lt _ e).1;simp only at this;omega))
  kids:=fun i hi=>(h.kids i hi).grown hg (Or.inr (row_ne (h.kids i hi) hb' (fun cs fr e=>by simp only [Obj.cells.injEq] at e;exact hT e.2.1)))
  near:=h.near
  apart:=h.apart
  marks:=fun r hr=>⟨(h.marks r hr).1,by
   have h3:=(h.marks r hr).1
   rw [hg.block r (Array.getElem?_eq_some_iff.1 (h.marks r hr).2).1 (fun e=>by have e:=Option.some.inj e;simp only at e;omega)];exact (h.marks r hr).2⟩
  dist:=h.dist }
theorem F2.kidV (h:F2 B n0 w0 kvs N bp F D vn K rs w)(i:Nat)(hi:i<D.length):∃kp kc,kvs.getD (D.getD i default).1 default=.slice kp (K i).length kc∧(0<(K i).length→∃g,kp=some ⟨g,0,none⟩∧(∀j u,(K i)[j]?=some u→w.cell? ⟨g,j,none⟩=some (.int .i64 u))∧(∀j,w.frozen? ⟨g,j,none⟩=false)∧g<n0):=by
 have hk:=h.kids i hi
 obtain ⟨h1,h2⟩:=id hk
 rcases h2 with ⟨h2,h3⟩|⟨g,cap,cur,h2,h3⟩
 · exact ⟨none,0,by rw [h3];exact h2,fun h0=>by omega⟩
 · refine ⟨_,_,h2,fun _=>⟨g,rfl,fun j u hu=>?_,fun j=>?_,h.near i hi g (by rw [h2];rfl)⟩⟩
   · rw [h2] at hk
     have hj:=(List.getElem?_eq_some_iff.1 hu).1
     rw [World.ownsRow.cellAt hk j (by omega),List.getElem?_map,hu]
     rfl
   · rw [h2] at hk
     exact World.ownsRow.frozenAt hk j
end
def markOf (r:Nat):Deferred:={ target:=.collected r,args:=#[] }
theorem leaves_marks {F:Fence}{n:Nat}{P:Program}{fn:Func}{tmps:Array Value}{R:Ending→World→Prop}(I:List Nat→World→Prop)(hI:∀r rs w,I (r::rs) w→w.heap[r]?=some (.deferred (some []))∧I rs (w.putObj r (.deferred none))) :
 ∀(rs:List Nat) (w:World),I rs w→(∀w',I [] w'→LeavesIn F n P fn tmps R [] .returning w')→LeavesInM F n P fn tmps R (rs.map markOf) .returning w
 | [],w,h,hR=>hR w h
 | r::rs,w,h,hR=>⟨by simp,.inl ⟨r,_,rfl,run_takeDeferred (hI r rs w h).1,leaves_marks I hI rs _ (hI r rs w h).2 hR⟩⟩
end
section
open Go.RowKit
attribute [local go_sem] Oper.semAt_some
def lenV:Value→Nat
 | .slice _ n _=>n
 | _=>0
theorem madeInts (N:Nat):(madeCells #[.int .i64 0] N).size=N∧∀j,j<N→(madeCells #[.int .i64 0] N)[j]?=some (.int .i64 0):=by
 refine ⟨size_madeCells _ _,fun j hj=>?_⟩
 simp [madeCells,hj,Nat.mod_one]
theorem F1.begin (W0:World)(kvs:List Value)(N:Nat)(z:Int)(hN:N≤70000):F1 W0.heap.size W0 kvs N W0.heap.size (W0.heap.size+1+1+1) (fun _=>0) [] (.slice (some ⟨W0.heap.size+1,0,none⟩) 0 N) (.slice (some ⟨W0.heap.size+1+1,0,none⟩) 1 1) [z] []
 ((((W0.alloc (.cells (madeCells #[.int .i64 0] N) 3)).alloc (.cells (madeCells #[.int .u8 0,.int .i64 0,.string ⟨#[]⟩,.int .i64 0,.slice none 0 0] (N*5)) 54)).alloc (.cells #[.int .i64 z] 3)).alloc (.cells #[.slice (some ⟨W0.heap.size+1+1,0,none⟩) 1 1] 32)) where
 below:=((((Below.refl _ _).alloc (Nat.le_refl _) _).alloc (by simp) _).alloc (by simp;omega) _).alloc (by simp;omega) _
 size:=by simp;omega
 bp0:=Nat.le_refl _
 bq0:=by omega
 places:=by
  obtain ⟨h1,h2⟩:=madeInts N
  refine ⟨_,?_,h1,h2⟩
  rw [Below.heap_alloc _ _ _ (by simp;omega),Below.heap_alloc _ _ _ (by simp;omega),Below.heap_alloc _ _ _ (by simp)]
  exact World.alloc_heap_new W0 _
 nodes:=by
  have h1:=World.ownsRow_made (base:=W0.heap.size) (e := 54) (size:=5) (W0.alloc (.cells (madeCells #[.int .i64 0] N) 3)) (madeCells #[.int .u8 0,.int .i64 0,.string ⟨#[]⟩,.int .i64 0,.slice none 0 0] (N*5)) N (by simp) (by simp [maxLen];omega) (size_madeCells _ _)
  rw [World.size_alloc] at h1
  exact (h1.alloc _).alloc _
 box:=by
  have h1:=Boxed.new (((W0.alloc (.cells (madeCells #[.int .i64 0] N) 3)).alloc (.cells (madeCells #[.int .u8 0,.int .i64 0,.string ⟨#[]⟩,.int .i64 0,.slice none 0 0] (N*5)) 54)).alloc (.cells #[.int .i64 z] 3)) 32 (.slice (some ⟨W0.heap.size+1+1,0,none⟩) 1 1)
  simp only [World.size_alloc] at h1
  exact h1
 pile:=by
  have h1:=World.ownsRow_lit (base:=W0.heap.size) (e:=3) (size:=1) ((W0.alloc (.cells (madeCells #[.int .i64 0] N) 3)).alloc (.cells (madeCells #[.int .u8 0,.int .i64 0,.string ⟨#[]⟩,.int .i64 0,.slice none 0 0] (N*5)) 54)) #[.int .i64 z] 1 (by simp;omega) (by simp [maxLen]) (by simp)
  simp only [World.size_alloc] at h1
  exact h1.alloc _
 sep:=by simp [Value.ownBlock];omega
 marks:=fun r hr=>by simp at hr
 dist:=List.nodup_nil
theorem Made.alloc {B:Nat}{w:World}{v:Value}{kvs:List Value}{md:List Nd}(h:Made B w v kvs md)(o:Obj):Made B (w.alloc o) v kvs md where
 base:=by have:=h.base;simp;omega
 own:=h.own.alloc o
 klen:=h.klen
 kids:=fun j hj=>(h.kids j hj).grown (World.grownBy_alloc w o none) (by cases (kvs.getD j default).ownBlock<;>simp)
 apart:=h.apart
 pair:=h.pair
 few:=h.few
section
theorem made_cell {B gm N cm:Nat}{w0 wr:World}{kvs:List Value}{md:List Nd}(hM:Made B w0 (.slice (some ⟨gm,0,none⟩) N cm) kvs md)(hN:N=md.length)(hb:Below w0.heap.size w0 wr){q:Nat}{nd:Nd}(hq:md[q]?=some nd){i:Nat}{u:Value}(hi:(nodeC nd (kvs.getD q default))[i]?=some u):wr.cell? ⟨gm,q*5+i,none⟩=some u:=by
 have hlt:=(List.getElem?_eq_some_iff.1 hq).1
 have h5:i<5:=by have:=(List.getElem?_eq_some_iff.1 hi).1;simpa [nodeC] using this
 have hg:=(hM.own.lt gm rfl).2
 rw [hb.cell (p:=⟨gm,q*5+i,none⟩) hg]
 have hown:=hM.own
 rw [← hN] at hown
 rw [hown.cellAt (q*5+i) (by omega),cellsM_get md kvs hM.klen q hlt i h5]
 rw [show md.getD q default=nd by simp [List.getD,hq]]
 exact hi
theorem rawS_long (st:List (Nat × Ast)):st.length≤(rawS st).length:=by
 induction st with
 | nil=>simp
 | cons y r ih =>
  obtain ⟨b,x⟩:=y
  have:=size_pos x
  simp only [rawS,List.length_append,List.length_cons,raw_length]
  omega
theorem raw_first {a:Ast}{b:Nat}{k:Int}{p:Nat}{t:ByteArray}{n:Int}{ks:List Ast}{D:List (Nat × Nd)}{st:List (Nat × Ast)}(h:raw 0 a=D++rawS ((b,.mk k p t n ks)::st)) :
 b+sizeL ks<a.size∧(post 0 a)[b+sizeL ks]?=some ⟨k,p,t,n,roots b ks⟩∧D.length<a.size∧raw 0 a=(D++[(b+sizeL ks,⟨k,p,t,n,roots b ks⟩)])++rawS (pairsOf b ks++st)∧∀(i:Nat) (x:Nat × Nd),D[i]?=some x→x.1≠b+sizeL ks:=by
 rw [rawS_cons] at h
 have hmem:(b+sizeL ks,(⟨k,p,t,n,roots b ks⟩:Nd))∈raw 0 a:=by rw [h];simp
 have h1:=raw_range 0 a _ hmem
 have h2:=raw_post 0 a _ hmem
 have hl:=congrArg List.length h
 rw [raw_length,List.length_append,List.length_cons] at hl
 simp only [Nat.zero_add,Nat.sub_zero] at h1 h2
 refine ⟨h1.2,h2,by omega,by rw [h];simp,fun i x hx e=>?_⟩
 have hnd:=raw_nodup 0 a
 rw [h,List.map_append,List.map_cons] at hnd
 have:=(List.nodup_append.1 hnd).2.2 x.1 (List.mem_map.2 ⟨x,List.mem_of_getElem? hx,rfl⟩) (b+sizeL ks) (by simp)
 exact this e
theorem flat_at (B:Nat)(v:Value)(kvs:List Value)(a:Ast)(w:World)(hM:Made B w v kvs (post 0 a)) :
 Calls Tryz.prog 74 #[v,.int .i64 ((a.size:Int)-1)] w fun e w'=>∃p len cap,e=.returned (.agg #[.slice p len cap])∧(∀wX:World,(∀k,B≤k→wX.heap[k]?=w'.heap[k]?)→Tr.TV wX p len cap (flat 0 a))∧Below B w w':=by
 obtain ⟨gm,cm,rfl⟩:∃gm cm,v=.slice (some ⟨gm,0,none⟩) a.size cm:=by
  have h1:=hM.own
  rw [post_length] at h1
  have h2:=size_pos a
  obtain ⟨g,cap,h3⟩:=World.ownsRow.form h1 (by omega)
  exact ⟨g,cap,h3.1⟩
 have HM:=lh hM
 have hsz:1≤a.size:=size_pos a
 have hfew:a.size≤70000:=by have:=hM.few;rwa [post_length] at this
 obtain ⟨i1,hi1,hz1,hs1,hb1⟩:=info_partsP infoInt
 obtain ⟨i5,hi5,hz5,hs5,hb5⟩:=info_partsP infoNode
 have hm1:∀W:World,(Instr.makeSlice 32 (.int .i64 (a.size:Int)) (.int .i64 (a.size:Int))).run Tryz.prog W=.ok (.slice (some ⟨W.heap.size,0,none⟩) a.size a.size) (W.alloc (.cells (madeCells (Value.int .i64 0).cells (a.size*1)) 3)):=fun W=>by
  have:=run_makeSlice (P:=Tryz.prog) (w:=W) 32 3 i1 _ Tryz.underlying32 hi1 hz1 .i64 .i64 a.size a.size (by omega) (Int.le_refl _) (by rw [hs1];omega) (by rw [hb1];omega) (by omega)
  rw [hs1] at this
  simpa using this
 have hm5:∀W:World,(Instr.makeSlice 37 (.int .i64 0) (.int .i64 (a.size:Int))).run Tryz.prog W=.ok (.slice (some ⟨W.heap.size,0,none⟩) 0 a.size) (W.alloc (.cells (madeCells (Value.agg #[.int .u8 0,.int .i64 0,.string ⟨#[]⟩,.int .i64 0,.slice none 0 0]).cells (a.size*5)) 54)):=fun W=>by
  have:=run_makeSlice (P:=Tryz.prog) (w:=W) 37 54 i5 _ Tryz.underlying37 hi5 hz5 .i64 .i64 0 a.size (by omega) (by omega) (by rw [hs5];omega) (by rw [hb5];omega) (by omega)
  rw [hs5] at this
  simpa using this
 have I1:=lh (And.intro hi1 (And.intro hz1 (And.intro hs1 hb1)))
 have I5:=lh (And.intro hi5 (And.intro hz5 (And.intro hs5 hb5)))
 clear hM hi1 hz1 hs1 hb1 hi5 hz5 hs5 hb5
 refine callsIn_wide.1 (callsIn_of_wp_marks (n:=5) Tryz.func74 rfl trivial (wpIn_wide.2 ?_) rfl)
 simp only [Tryz.ntmps74,List.size_toArray,List.length_cons,List.length_nil,Nat.reduceAdd,Nat.reduceSub,Array.replicate_succ,Array.replicate_zero,List.push_toArray,List.append_toArray,List.nil_append,List.cons_append]
 go_wp2_with fail
 clear hm1 hm5
 obtain ⟨W0,hW0⟩:∃W0,w.alloc (.cells #[.slice none 0 0] 39)=W0:=⟨_,rfl⟩
 have hN:W0.heap.size=w.heap.size+1:=by rw [← hW0];simp
 have HM0:Hid (Made B W0 (.slice (some ⟨gm,0,none⟩) a.size cm) kvs (post 0 a)):=lh (by rw [← hW0];exact HM.out.alloc _)
 have S0:F1 W0.heap.size W0 kvs a.size (w.heap.size+1) (w.heap.size+1+1+1+1) (fun _=>0) [] (.slice (some ⟨w.heap.size+1+1,0,none⟩) 0 a.size) (.slice (some ⟨w.heap.size+1+1+1,0,none⟩) 1 1) (tops [(0,a)]).reverse []
  (((((w.alloc (.cells #[.slice none 0 0] 39)).alloc (.cells (madeCells #[.int .i64 0] a.size) 3)).alloc (.cells (madeCells #[.int .u8 0,.int .i64 0,.string ⟨#[]⟩,.int .i64 0,.slice none 0 0] (a.size*5)) 54)).alloc (.cells #[.int .i64 ((a.size:Int)-1)] 3)).alloc (.cells #[.slice (some ⟨w.heap.size+1+1+1,0,none⟩) 1 1] 32)):=by
  have h1:=F1.begin W0 kvs a.size ((a.size:Int)-1) hfew
  rw [hW0,← hN]
  have h2:(tops [(0,a)]).reverse=[(a.size:Int)-1]:=by simp [tops]
  rw [h2]
  exact h1
 rw [hW0]
 rw [hW0] at S0
 generalize hW5:(((W0.alloc (.cells (madeCells #[.int .i64 0] a.size) 3)).alloc (.cells (madeCells #[.int .u8 0,.int .i64 0,.string ⟨#[]⟩,.int .i64 0,.slice none 0 0] (a.size*5)) 54)).alloc (.cells #[.int .i64 ((a.size:Int)-1)] 3)).alloc (.cells #[.slice (some ⟨w.heap.size+1+1+1,0,none⟩) 1 1] 32)=W5 at *
 clear hW5
 refine wp_loop (fun act wr=>∃(F:Nat→Int) (D:List (Nat × Nd)) (st:List (Nat × Ast)) (pv:Value) (rs:List Nat) (u6 u8 u10 u23 u24 u25 u26 u27 u28 u29 u30 u31 u32 u33 u34 u35 u36 u37 u38 u39 u40 u41 u42 u43 u44 u45 u46 u47 u48 u49 u50 u51 u52 u53 u54 u55 u56 u57 u58 u59 u60:Value),
  (F1 W0.heap.size W0 kvs a.size (w.heap.size+1) (w.heap.size+1+1+1+1) F D u6 pv (tops st).reverse rs wr∧raw 0 a=D++rawS st∧(∀(i:Nat) (x:Nat × Nd),D[i]?=some x→F x.1=(i:Int)))∧act={ tmps:=(.slice (some ⟨gm,0,none⟩) a.size cm::.int .i64 ((a.size:Int)-1)::undef::undef::.pointer (some ⟨w.heap.size,0,none⟩)::.slice (some ⟨w.heap.size+1,0,none⟩) a.size a.size::u6::.pointer (some ⟨w.heap.size+1+1+1+1,0,none⟩)::u8::undef::u10::undef::undef::undef::undef::.slice (some ⟨gm,0,none⟩) a.size cm::.int .i64 (a.size:Int)::.slice (some ⟨w.heap.size+1,0,none⟩) a.size a.size::.slice (some ⟨gm,0,none⟩) a.size cm::.int .i64 (a.size:Int)::.slice (some ⟨w.heap.size+1+1,0,none⟩) 0 a.size::.int .i64 ((a.size:Int)-1)::.slice (some ⟨w.heap.size+1+1+1,0,none⟩) 1 1::u23::u24::u25::u26::u27::u28::u29::u30::u31::u32::u33::u34::u35::u36::u37::u38::u39::u40::u41::u42::u43::u44::u45::u46::u47::u48::u49::u50::u51::u52::u53::u54::u55::u56::u57::u58::u59::u60::undef::undef::undef::undef::undef::undef::undef::undef::undef::undef::undef::undef::undef::undef::undef::undef::undef::undef::undef::undef::undef::undef::undef::undef::undef::undef::[]).toArray,defers:=rs.map markOf }) (fun act _=>a.size-lenV (act.tmps.getD 6 undef)) ?_ ?_
 · exact ⟨_,_,[(0,a)],_,[],_,_,_,_,_,_,_,_,_,_,_,_,_,_,_,_,_,_,_,_,_,_,_,_,_,_,_,_,_,_,_,_,_,_,_,_,_,_,_,_,_,⟨S0,by simp [rawS],fun i x h=>by simp at h⟩,rfl⟩
 · rintro act wr ⟨F,D,st,pv,rs,u6,u8,u10,u23,u24,u25,u26,u27,u28,u29,u30,u31,u32,u33,u34,u35,u36,u37,u38,u39,u40,u41,u42,u43,u44,u45,u46,u47,u48,u49,u50,u51,u52,u53,u54,u55,u56,u57,u58,u59,u60,⟨S,hraw,hF⟩,rfl⟩
   cases st with
   | nil =>
    have hDr:D=raw 0 a:=by rw [hraw];simp [rawS]
    have hDl:D.length=a.size:=by rw [hDr,raw_length]
    obtain ⟨pp,pc,rfl⟩:∃pp pc,pv=.slice pp 0 pc:=by
     rcases S.pile.2 with ⟨h1,h2⟩|⟨g,c,cur,h1,_⟩
     · exact ⟨_,_,h1⟩
     · exact ⟨some ⟨g,0,none⟩,c,by rw [h1];simp [tops]⟩
    obtain ⟨gv,vc,rfl,_,_⟩:=World.ownsRow.form S.nodes (by omega)
    have bx0:=S.box.cell
    have hres:Boxed wr w.heap.size 39 (.slice none 0 0):=by
     have h1:W0.heap[w.heap.size]?=some (.cells #[.slice none 0 0] 39 (0,0)):=by rw [← hW0];exact World.alloc_heap_new w _
     exact (S.below.block w.heap.size (by omega)).trans h1
    have T0:F2 B W0.heap.size W0 kvs a.size (w.heap.size+1) F D (.slice (some ⟨gv,0,none⟩) D.length vc) (kidsK F D 0 0) rs wr :=
     (S.go HM0.out rfl (fun i x hx => by
      have h1:=raw_post 0 a x (by rw [← hDr];exact List.mem_of_getElem? hx)
      rwa [Nat.sub_zero] at h1) (by rw [hDr];exact raw_nodup 0 a)).congr (fun i _=>(kidsK_zero F D i).symm)
    have HF:=lh hF
    have HBN:=HM0.out.base
    have hsk:∀i,(startK D i).length≤70000:=fun i=>by
     by_cases hi:i<D.length
     · have h1:D.getD i default∈raw 0 a:=by rw [← hDr];simp [List.getD,hi]
       have h2:=raw_few 0 a _ h1
       unfold startK
       omega
     · have h1:D.getD i default=default:=by simp only [List.getD];rw [List.getElem?_eq_none (by omega)];rfl
       unfold startK
       rw [h1]
       exact Nat.zero_le _
    have HSK:=lh hsk
    have HDr:=lh hDr
    have HDl:=lh hDl
    clear S hraw hF S0 hDr hDl hsk
    dsimp only
    go_wp2_with fail
    go_loopw [63] (fun iv w2=>∃i:Nat,i≤D.length∧iv=.int .i64 (i:Int)∧Hid (F2 B W0.heap.size W0 kvs a.size (w.heap.size+1) F D (.slice (some ⟨gv,0,none⟩) D.length vc) (kidsK F D i 0) rs w2)∧Hid (Boxed w2 w.heap.size 39 (.slice none 0 0))) (fun iv _=>D.length-(intOf iv).toNat)
    case atStart=>exact ⟨0,Nat.zero_le _,rfl,lh T0,lh hres⟩
    case round =>
     obtain ⟨i,hi,rfl,T,HR⟩:=hrel
     clear T0 hres bx0
     by_cases hlt:i<D.length
     · have hx:D[i]?=some (D.getD i default):=by simp [List.getD,hlt]
       obtain ⟨kp,kc,hkv,hkp⟩:=T.out.kidV i hlt
       rw [kidsK_length] at hkv hkp
       have hc:∀q u,(nodeC (D.getD i default).2 (kvs.getD (D.getD i default).1 default))[q]?=some u→wr.cell? ⟨gv,i*5+q,none⟩=some u:=fun q u hq=>by
        have h5:q<5:=by have:=(List.getElem?_eq_some_iff.1 hq).1;simpa [nodeC] using this
        rw [T.out.nodes.cellAt (i*5+q) (by omega),rowD_get kvs D i _ hx q h5]
        exact hq
       have c0:=hc 0 _ rfl
       have c1:=hc 1 _ rfl
       have c2:=hc 2 _ rfl
       have c3:=hc 3 _ rfl
       have c4:=hc 4 _ rfl
       rw [hkv] at c4
       rw [Nat.add_zero] at c0
       have hi0:(0:Int)≤(i:Int):=by omega
       have hi1:(i:Int)<(D.length:Int):=by omega
       generalize hnd:(D.getD i default).2=nd at *
       have HKV:=lh hkv
       have T1:=lh (T.out.grown HBN (World.grownBy_alloc wr (.cells #[.int .u8 nd.kind,.int .i64 nd.at',.string nd.text,.int .i64 nd.n,.slice kp (startK D i).length kc] 54) none))
       have R1:=lh (HR.out.alloc (.cells #[.int .u8 nd.kind,.int .i64 nd.at',.string nd.text,.int .i64 nd.n,.slice kp (startK D i).length kc] 54))
       have hN9:=T.out.size
       have hi7:i+1≤70000:=by have:=HDl.out;omega
       have hk7:=HSK.out i
       have hl4:(wr.alloc (.cells #[.int .u8 nd.kind,.int .i64 nd.at',.string nd.text,.int .i64 nd.n,.slice kp (startK D i).length kc] 54)).cell? ⟨wr.heap.size,4,none⟩=some (.slice kp (startK D i).length kc):=by simp
       clear hc hkv hkp HR T
       go_wp2_with fail
       generalize hqn:wr.heap.size=qn at *
       generalize hW:wr.alloc (.cells #[.int .u8 nd.kind,.int .i64 nd.at',.string nd.text,.int .i64 nd.n,.slice kp (startK D i).length kc] 54)=W7 at *
       clear c0 c1 c2 c3 c4 hW
       go_loopw [70] (fun jv w3=>∃j:Nat,j≤(startK D i).length∧jv=.int .i64 (j:Int)∧Hid (F2 B W0.heap.size W0 kvs a.size (w.heap.size+1) F D (.slice (some ⟨gv,0,none⟩) D.length vc) (kidsK F D i j) rs w3)∧Hid (Boxed w3 w.heap.size 39 (.slice none 0 0))∧w3.cell? ⟨qn,4,none⟩=some (.slice kp (startK D i).length kc)) (fun jv _=>(startK D i).length-(intOf jv).toNat)
       case atStart=>exact ⟨0,Nat.zero_le _,rfl,T1,R1,hl4⟩
       case round =>
        obtain ⟨j,hj,rfl,T2,R2,hl5⟩:=hrel
        clear T1 R1 hl4
        by_cases hjl:j<(startK D i).length
        · obtain ⟨kp2,kc2,hkv2,hkp2⟩:=T2.out.kidV i hlt
          have hlen:=kidsK_length F D i j i
          rw [HKV.out,hlen] at hkv2
          simp only [Value.slice.injEq,true_and] at hkv2
          obtain ⟨rfl,rfl⟩:=hkv2
          obtain ⟨g,rfl,hcell,hfz,hg0⟩:=hkp2 (by omega)
          obtain ⟨z,hz⟩:∃z,(startK D i)[j]?=some z:=⟨_,List.getElem?_eq_getElem hjl⟩
          obtain ⟨y,hy,rfl⟩:∃y∈raw 0 a,z=(y.1:Int):=raw_kids 0 a (D.getD i default) (by rw [← HDr.out];exact List.mem_of_getElem? hx) z (by unfold startK at hz;exact List.mem_of_getElem? hz)
          have hyr:=(raw_range 0 a y hy).2
          rw [Nat.zero_add] at hyr
          have d1:=hcell j _ (by rw [kidsK_at F D i j hjl];exact hz)
          have d2:=T2.out.placeAt y.1 hyr
          have d3:=hfz j
          have hj0:(0:Int)≤(j:Int):=by omega
          have hj1:(j:Int)<((startK D i).length:Int):=by omega
          have hy0:(0:Int)≤(y.1:Int):=by omega
          have hy1:(y.1:Int)<(a.size:Int):=by omega
          have T3:=T2.out.grown HBN (grownBy_drew wr)
          have T4:=lh (T3.put (K':=kidsK F D i (j+1)) i hlt (by rw [hlen];exact HKV.out) j (F y.1) (by omega) HBN (by rw [kidsK_set F D i j _ hz];simp [gF]) (fun x _ hne=>kidsK_other F D i j x hne))
          have hgr:g≠w.heap.size:=fun e=>by
           obtain ⟨c,fz,h1⟩:=Lib.ownsRow_kind (T2.out.kids i hlt) g (by rw [HKV.out];rfl)
           have h2:wr.heap[w.heap.size]?=_:=R2.out
           rw [e,h2] at h1
           simp at h1
          have R3:=lh ((R2.out.kept (grownBy_drew wr) (by simp)).kept (grownBy_set wr.drew ⟨g,j,none⟩ (.int .i64 (F y.1))) (fun e=>hgr (Option.some.inj e).symm))
          have hj7:j+1≤70001:=by omega
          have hgq:¬ g=qn:=by omega
          have hgq2:¬ qn=g:=by omega
          clear T2 R2 T3 hcell hfz hkp2
          go_wp2_with fail
          go_region
          all_goals go_wp2_with fail
          all_goals
           go_roundw
           case rel=>exact ⟨j+1,by omega,by simp,T4,R3,by show (wr.drew.setCell ⟨g,j,none⟩ (.int .i64 (F y.1))).cell? _=_;rw [World.cell?_setCell_other _ _ _ _ (by first|(simp;done)|(simp;omega))];exact hl5⟩
           case measure=>simp [intOf];omega
        · obtain rfl:j=(startK D i).length:=by omega
          have T3:=lh (T2.out.congr (K':=kidsK F D (i+1) 0) (fun x _=>kidsK_done F D i x))
          have hj1:¬ (((startK D i).length:Int)<((startK D i).length:Int)):=by omega
          clear T2
          go_wp2_with fail
          go_roundw
          case rel=>exact ⟨i+1,by omega,by simp,T3,R2⟩
          case measure=>simp [intOf];omega
     · obtain rfl:i=D.length:=by omega
       have hcell:=HR.out.cell
       have hfz:=HR.out.frozen
       have hi1:¬ ((D.length:Int)<(D.length:Int)):=by omega
       have T9:=lh (T.out.res (u':=.slice (some ⟨gv,0,none⟩) D.length vc) HR.out (by omega) HM.out.base (by decide))
       have R9:=lh (HR.out.set (.slice (some ⟨gv,0,none⟩) D.length vc))
       clear T HR
       go_wp2_with fail
       refine leaves_marks (fun rs' w'=>F2 B W0.heap.size W0 kvs a.size (w.heap.size+1) F D (.slice (some ⟨gv,0,none⟩) D.length vc) (kidsK F D D.length 0) rs' w'∧Boxed w' w.heap.size 39 (.slice (some ⟨gv,0,none⟩) D.length vc)) ?_ rs _ ⟨T9.out,R9.out⟩ ?_
       · rintro r rs' w' ⟨h1,h2⟩
         have h0:=(h1.marks r (by simp)).1
         obtain ⟨h3,h4⟩:=h1.unmark HBN
         exact ⟨h3,h4,h2.kept (grownBy_putObj' w' r (.deferred none)) (fun e=>by have e:=Option.some.inj e;omega)⟩
       · rintro w' ⟨h1,h2⟩
         have hc:=h2.cell
         refine ⟨.agg #[.slice (some ⟨gv,0,none⟩) D.length vc],by simp [results,Tryz.f74,go_sem,hc],_,_,_,rfl,?_,?_⟩
         · intro wX hX
           have h3:=h1.tree HBN hX
           rw [show D.map (placed (gF F))=flat 0 a by
            rw [HDr.out]
            exact raw_flat (gF F) 0 0 a fun i x hx=>by
             rw [← HDr.out] at hx
             have:=HF.out i x hx
             simp only [gF,Int.toNat_natCast,this]
             omega] at h3
           exact h3
         · have h3:Below B w W0:=by rw [← hW0];exact (Below.refl _ _).alloc HM.out.base _
           exact h3.trans h1.below
   | cons bx st =>
    obtain ⟨b,x⟩:=bx
    obtain ⟨k,p,t,n,ks⟩:=x
    obtain ⟨hq,hpq,hD,hraw2,hfresh⟩:=raw_first hraw
    have hts:(tops ((b,Ast.mk k p t n ks)::st)).reverse=(tops st).reverse++[((b+sizeL ks:Nat):Int)]:=by
     simp only [tops,Ast.size,List.reverse_cons]
     congr 2
     omega
    rw [hts] at S
    obtain ⟨gq,cap,rfl,hcell,S2⟩:=S.top
    have hlen:(tops st).reverse.length≤a.size:=by
     have h1:=congrArg List.length hraw2
     simp only [raw_length,List.length_append,rawS_append] at h1
     have h2:=rawS_long st
     rw [List.length_reverse,tops_length]
     omega
    generalize hm:(tops st).reverse.length=m at *
    generalize hqq:b+sizeL ks=q at *
    have hcap:(m:Int)≤(cap:Int):=by
     have h1:=S.pile
     rcases h1.2 with ⟨h2,_⟩|⟨g,c,cur,h2,_,_,h3,_⟩
     · simp at h2
     · simp only [Value.slice.injEq] at h2
       simp only [List.length_append,hm] at h3
       omega
    have bx0:=S.box.cell
    have bxz:=S.box.frozen
    have bp1:=S2.placeAt q hq
    have S3:=S2.place q hq (D.length:Int)
    have mc:∀(W:World),Below W0.heap.size W0 W→∀i u,(nodeC ⟨k,(p:Int),t,n,roots b ks⟩ (kvs.getD q default))[i]?=some u→W.cell? ⟨gm,q*5+i,none⟩=some u:=fun W hb i u hi=>made_cell HM0.out (by rw [post_length]) hb hpq hi
    obtain ⟨vg,vc,hvn⟩:∃vg vc,u6=.slice vg D.length vc:=by
     rcases S.nodes.2 with ⟨h1,h2⟩|⟨g,c,cur,h1,_⟩
     · exact ⟨_,_,by rw [h1,h2]⟩
     · exact ⟨_,_,h1⟩
    subst hvn
    have m0:wr.cell? ⟨gm,q*5,none⟩=some (.int .u8 k):=by simpa using mc _ S.below 0 _ rfl
    have m1:wr.cell? ⟨gm,q*5+1,none⟩=some (.int .i64 (p:Int)):=mc _ S.below 1 _ rfl
    have m2:wr.cell? ⟨gm,q*5+2,none⟩=some (.string t):=mc _ S.below 2 _ rfl
    have m3:wr.cell? ⟨gm,q*5+3,none⟩=some (.int .i64 n):=mc _ S.below 3 _ rfl
    have m4:wr.cell? ⟨gm,q*5+4,none⟩=some (kvs.getD q default):=mc _ S.below 4 _ rfl
    have hgm:=(HM.out.own.lt gm rfl).2
    have hg1:¬ gm=w.heap.size+1:=by omega
    have hg2:¬ gm=w.heap.size+1+1+1+1:=by omega
    have hg3:¬ w.heap.size+1=gm:=by omega
    have hg4:¬ w.heap.size+1+1+1+1=gm:=by omega
    have hk1:own1 B W0 (kvs.getD q default) (roots b ks):=by
     have h1:=HM0.out.kids q (by rw [post_length];exact hq)
     rwa [show (post 0 a).getD q default=⟨k,(p:Int),t,n,roots b ks⟩ by simp [List.getD,hpq]] at h1
    obtain ⟨kp,kl,kc,hkv⟩:=hk1.slice
    rw [hkv] at hk1 m4 mc
    have HK1:=lh hk1
    have HKV:=lh hkv
    have MC:=lh mc
    clear hk1 hkv
    have SA:=lh (S3.alloc (.cells #[.int .u8 k,.int .i64 (p:Int),.string t,.int .i64 n,.slice kp kl kc] 54))
    have hnew:Hid (((((wr.setCell ⟨w.heap.size+1+1+1+1,0,none⟩ (.slice (some ⟨gq,0,none⟩) m cap)).setCell ⟨w.heap.size+1,q,none⟩ (.int .i64 (D.length:Int))).alloc (.cells #[.int .u8 k,.int .i64 (p:Int),.string t,.int .i64 n,.slice kp kl kc] 54)).heap[wr.heap.size]?)=some (.cells #[.int .u8 k,.int .i64 (p:Int),.string t,.int .i64 n,.slice kp kl kc] 54 (0,0))):=lh (by
     have h1:=heap_alloc_new ((wr.setCell ⟨w.heap.size+1+1+1+1,0,none⟩ (.slice (some ⟨gq,0,none⟩) m cap)).setCell ⟨w.heap.size+1,q,none⟩ (.int .i64 (D.length:Int))) (.cells #[.int .u8 k,.int .i64 (p:Int),.string t,.int .i64 n,.slice kp kl kc] 54)
     simpa [World.setCell] using h1)
    have hi0:(0:Int)≤(q:Int):=by omega
    have hi1:(q:Int)<(a.size:Int):=by omega
    have hi2:(m:Int)<(m:Int)+1:=by omega
    have HRW:=lh hraw2
    have HF:=lh hF
    have HFR:=lh hfresh
    have HPQ:=lh hpq
    clear S S2 S3 hraw hraw2 hF hfresh mc hpq
    go_wp2_with (at_builtin;refine wpList_append_lies _ rfl (.tmp 42) (.tmp 47) 37 rfl W0.heap.size 54 i5 _ 5 64 Tryz.underlying37 I5.out.1 I5.out.2.1 I5.out.2.2.1 I5.out.2.2.2 rfl (by decide) (.slice vg D.length vc) D.length (rowD kvs D) rfl SA.out.nodes ⟨wr.heap.size,0,none⟩ 1 1 [.int .u8 k,.int .i64 (p:Int),.string t,.int .i64 n,.slice kp kl kc] rfl rfl (World.news_of_block (cs:=#[.int .u8 k,.int .i64 (p:Int),.string t,.int .i64 n,.slice kp kl kc]) (t := 54) (fr:=(0,0)) hnew.out) (by simp [Value.oneCell']) (by decide) (by unfold maxLen;omega) (by omega) SA.out.size _ rfl ?_;intro g5 cap5 w5 hown5 hgrow5 hat5 hlt5;have S5:=lh (SA.out.node (x:=(q,⟨k,(p:Int),t,n,roots b ks⟩)) hgrow5 (by rw [show kvs.getD (q,(⟨k,(p:Int),t,n,roots b ks⟩:Nd)).1 default=.slice kp kl kc from HKV.out];exact hown5));have m45:=MC.out _ S5.out.below 4 _ rfl)
    (with_reducible refine (back_at kp kl kc _).mono ?_)
    rintro e w6 ⟨rfl,rfl⟩
    have S6:=lh (S5.out.alloc (.cells #[.slice kp kl kc] 32))
    have hrs:∀r∈rs,r<(w5.alloc (.cells #[.slice kp kl kc] 32)).heap.size:=fun r hr=>(Array.getElem?_eq_some_iff.1 (S6.out.marks r hr).2).1
    have hkl:(roots b ks).length≤a.size:=by
     have h1:=congrArg List.length HRW.out
     simp only [raw_length,List.length_append,rawS_append,rawS_pairs,rawL_length] at h1
     have h2:=length_le_sizeL ks
     rw [roots_length]
     omega
    have hin:IntsAt W0.heap.size (w5.alloc (.cells #[.slice kp kl kc] 32)) (.slice kp kl kc) (roots b ks):=IntsAt.below S6.out.below (ints_of_own1 HK1.out (fun g hg=>(HK1.out.lt g hg).2))
    go_wp2_with fail
    refine wpIn_wide.1 (wpIn_rangeFunc_ownG (F:=Fence.wide) (n:=3) rfl (by omega) (gf := 207) (lb:=#[.pointer (some ⟨w5.heap.size,0,none⟩)]) rfl trivial (enters_of Tryz.func207 (by kernel_rfl) rfl)
     (back_stops Fence.wide 2 trivial rfl (by omega) w5.heap.size W0.heap.size (.slice kp kl kc) (roots b ks) (by omega) _ (by simp) S6.out.size (Boxed.new w5 32 (.slice kp kl kc)).cell hin) (fun h1 h2=>h1.trans h2) (KeepsAt.putObj S6.out.size (by simp)) (Below.refl _ _) (fun _=>rfl)
     (fun (pre:List (Int × Int)) W=>∃pv,F1 W0.heap.size W0 kvs a.size (w.heap.size+1) (w.heap.size+1+1+1+1) (fun j=>if j=q then (D.length:Int) else F j) (D++[(q,⟨k,(p:Int),t,n,roots b ks⟩)]) (.slice (some ⟨g5,0,none⟩) (D.length+1) cap5) pv ((tops st).reverse++pre.map (·.2)) rs W∧pv.ownBlock≠some w5.heap.size∧w5.heap.size<W.heap.size) (fun _ _ _=>False) (F1.own_from hrs S6.out.size _) (fun _ _ _ _ _ hs _ _=>hs) ⟨_,by simpa using S6.out,fun e=>by have:=(S5.out.pile.lt _ e).2;omega,by simp⟩
     (fun x=>{ tmps:=(.slice (some ⟨gm,0,none⟩) a.size cm::.int .i64 ((a.size:Int)-1)::undef::undef::.pointer (some ⟨w.heap.size,0,none⟩)::.slice (some ⟨w.heap.size+1,0,none⟩) a.size a.size::.slice (some ⟨g5,0,none⟩) (D.length+1) cap5::.pointer (some ⟨w.heap.size+1+1+1+1,0,none⟩)::.int .i64 (q:Int)::undef::.int .i64 x.2::undef::undef::undef::undef::.slice (some ⟨gm,0,none⟩) a.size cm::.int .i64 (a.size:Int)::.slice (some ⟨w.heap.size+1,0,none⟩) a.size a.size::.slice (some ⟨gm,0,none⟩) a.size cm::.int .i64 (a.size:Int)::.slice (some ⟨w.heap.size+1+1,0,none⟩) 0 a.size::.int .i64 ((a.size:Int)-1)::.slice (some ⟨w.heap.size+1+1+1,0,none⟩) 1 1::.slice (some ⟨gq,0,none⟩) (m+1) cap::.int .i64 ((m:Int)+1)::.bool true::.slice (some ⟨gq,0,none⟩) (m+1) cap::.slice (some ⟨gq,0,none⟩) (m+1) cap::.int .i64 ((m:Int)+1)::.int .i64 (m:Int)::.pointer (some ⟨gq,m,none⟩)::.int .i64 (q:Int)::.slice (some ⟨gq,0,none⟩) (m+1) cap::.slice (some ⟨gq,0,none⟩) (m+1) cap::.int .i64 ((m:Int)+1)::.int .i64 (m:Int)::.slice (some ⟨gq,0,none⟩) m cap::.slice (some ⟨w.heap.size+1,0,none⟩) a.size a.size::.int .i64 (q:Int)::.slice vg D.length vc::.int .i64 (D.length:Int)::.pointer (some ⟨w.heap.size+1,q,none⟩)::.slice vg D.length vc::.slice (some ⟨gm,0,none⟩) a.size cm::.int .i64 (q:Int)::.pointer (some ⟨gm,q*5,none⟩)::.agg #[.int .u8 k,.int .i64 (p:Int),.string t,.int .i64 n,.slice kp kl kc]::.slice (some ⟨wr.heap.size,0,none⟩) 1 1::.slice (some ⟨g5,0,none⟩) (D.length+1) cap5::.slice (some ⟨gm,0,none⟩) a.size cm::.int .i64 (q:Int)::.pointer (some ⟨gm,q*5,none⟩)::.pointer (some ⟨gm,q*5+4,none⟩)::.slice kp kl kc::.func (.func 207) #[] #[.pointer (some ⟨w5.heap.size,0,none⟩)]::.int .i64 x.1::.int .i64 x.2::u57::u58::u59::u60::undef::undef::undef::undef::undef::undef::undef::undef::undef::undef::undef::undef::undef::undef::undef::undef::undef::undef::undef::undef::undef::undef::undef::undef::undef::undef::[]).toArray,defers:=[] }) ?assign ?body ?done ?stop)
    case assign =>
     intro l x W K hK
     gi_wp2
     exact hK
    case body =>
     rintro l pre x W ⟨pv,hS,hx1,hx2⟩ hlt
     have hts2:((tops st).reverse++pre.map (·.2)).length≤200000:=by
      rw [List.length_append,List.length_map,hm]
      omega
     obtain ⟨pp,pl,pc,rfl⟩:∃pp pl pc,pv=.slice pp pl pc:=by
      rcases hS.pile.2 with ⟨h1,h2⟩|⟨g,c,cur,h1,_⟩
      · exact ⟨_,_,_,h1⟩
      · exact ⟨_,_,_,h1⟩
     have hc:=hS.box.cell
     have hz:=hS.box.frozen
     have hn1:(.slice pp pl pc:Value).ownBlock≠some (w.heap.size+1+1+1+1):=hS.pv_bq
     gi_wp2_with (gi_at_builtin;refine wpListIn_append_lies _ rfl _ _ 32 rfl W0.heap.size 3 i1 (.int .i64 0) 1 8 Tryz.underlying32 I1.out.1 I1.out.2.1 I1.out.2.2.1 I1.out.2.2.2 rfl (by decide) (.slice pp pl pc) _ _ rfl (hS.pile.alloc _) ⟨W.heap.size,0,none⟩ 1 1 [.int .i64 x.2] rfl rfl (cell_one_new _ _ _) (by simp [Value.oneCell']) (by decide) (by unfold maxLen;omega) (by omega) (by have:=hS.size;simp;omega) _ rfl ?_;intro g' cap' w1 hown' hgrow hat hlt';have hb1:Boxed w1 (w.heap.size+1+1+1+1) 32 (.slice pp pl pc):=(hS.box.alloc _).kept hgrow (fun e=>hn1 e.symm);have hc1:=hb1.cell;have hf1:=hb1.frozen)
     have hk1:=(hS.box.appended (by decide) hS.pile hS.size hS.bq0 hown' hgrow).2.2.2.1
     have hk2:=hS.pushes (pv':=.slice (some ⟨g',0,none⟩) (((tops st).reverse++pre.map (·.2)).length+1) cap') hgrow hx1 (by have:=S5.out.box.lt;omega)
     have hat2:∀g,(Value.slice (some ⟨g',0,none⟩) (((tops st).reverse++pre.map (·.2)).length+1) cap').ownBlock=some g→(Value.slice pp pl pc).ownBlock=some g∨W.heap.size≤g:=fun g hg=>by
      obtain rfl:g'=g:=by simpa [Value.ownBlock] using hg
      rcases hat with h1|h1
      · exact Or.inl h1
      · exact Or.inr (by rw [h1];simp)
     have hS9:=hS.push (t:=x.2) hgrow hown' hat2
     have hx9:(Value.slice (some ⟨g',0,none⟩) (((tops st).reverse++pre.map (·.2)).length+1) cap').ownBlock≠some w5.heap.size:=fun e=>by
      rcases hat2 _ e with h1|h1
      · exact hx1 h1
      · omega
     have elen:((tops st).reverse++pre.map (·.2)).length=m+pre.length:=by rw [List.length_append,List.length_map,hm]
     have hz9:=hk2.size
     rw [elen] at hk1 hk2 hS9 hx9 hz9
     refine ⟨hk1.from _,hk2,_,?_,hx9,by omega⟩
     rw [List.map_append,← List.append_assoc]
     exact hS9
    case done =>
     rintro Dm ys W hDm rfl ⟨pv,hS,_,_⟩ hK
     rw [back_all] at hS
     have hS2:=hS.mark (r:=Dm) (Nat.le_trans S6.out.size hDm) hK (fun hr=>by have:=hrs _ hr;omega)
     have hts3:(tops st).reverse++(roots b ks).reverse=(tops (pairsOf b ks++st)).reverse:=by rw [tops_append,tops_pairs,List.reverse_append]
     rw [hts3] at hS2
     have HS2:=lh hS2
     clear hS hS2 hK
     go_wp2_with fail
     refine ⟨⟨_,_,pairsOf b ks++st,pv,Dm::rs,_,_,_,_,_,_,_,_,_,_,_,_,_,_,_,_,_,_,_,_,_,_,_,_,_,_,_,_,_,_,_,_,_,_,_,_,_,_,_,_,_,⟨HS2.out,HRW.out,?_⟩,rfl⟩,?_⟩
     · intro i y hy
       by_cases hi:i<D.length
       · rw [List.getElem?_append_left hi] at hy
         simp only [if_neg (HFR.out i y hy)]
         exact HF.out i y hy
       · rw [List.getElem?_append_right (by omega)] at hy
         have hi0:i-D.length=0:=by
          have:=(List.getElem?_eq_some_iff.1 hy).1
          simp at this
          omega
         rw [hi0] at hy
         simp only [List.getElem?_cons_zero,Option.some.injEq] at hy
         subst hy
         simp only [if_pos]
         omega
     · simp [lenV]
       omega
    case stop =>
     rintro Dm c pre W _ _ h _
     exact h.elim
end
end
end Go.Proofs.YthdioipfdbbmmaaGreatDoor
