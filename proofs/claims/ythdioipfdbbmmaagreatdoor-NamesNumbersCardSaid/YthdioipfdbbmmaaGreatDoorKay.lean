/- Contracts. -/
import Derived.Test.YthdioipfdbbmmaaGreatDoorKag
import Derived.Test.YthdioipfdbbmmaaGreatDoorKah
import Derived.Test.YthdioipfdbbmmaaGreatDoorKal
import Derived.Test.YthdioipfdbbmmaaGreatDoorKax
import Derived.Laws.OwnMore
import Derived.Laws.AppendOwnNone
set_option linter.all false
set_option maxRecDepth 1000000
set_option maxHeartbeats 16000000
namespace Go.Proofs.YthdioipfdbbmmaaGreatDoor
namespace Nm
open Go.RowKit Go.Maps Tr
theorem infoU_of {t:Nat}{z:Value}{s b:Nat}(h:(Tryz.prog.info? t).map (fun i=>(i.zero,i.size,i.bytes))=some (some z,s,b)):∃i,Tryz.prog.info? t=some i∧i.zero=some z∧i.size=s∧i.bytes=b:=by
 cases hi:Tryz.prog.info? t with
 | none=>rw [hi] at h;simp at h
 | some i =>
  rw [hi] at h
  simp only [Option.map_some,Option.some.injEq,Prod.mk.injEq] at h
  exact ⟨i,rfl,h.1,h.2.1,h.2.2⟩
theorem infoUN:(Tryz.prog.info? 54).map (fun i=>(i.zero,i.size,i.bytes))=some (some (.agg #[.int .u8 0,.int .i64 0,.string ⟨#[]⟩,.int .i64 0,.slice none 0 0]),5,64):=by kernel_rfl
theorem infoUI:(Tryz.prog.info? 3).map (fun i=>(i.zero,i.size,i.bytes))=some (some (.int .i64 0),1,8):=by kernel_rfl
theorem addU_plain (b o i:Nat):(⟨b,o,none⟩:Addr).add i=⟨b,o+i,none⟩:=by
 unfold Addr.add
 split
 · rename_i h;subst h;rfl
 · rfl
def ndC (n:Nd)(v:Value):List Value:=[.int .u8 n.kind,.int .i64 n.at',.string n.text,.int .i64 n.n,v]
def flatU:List Nd→List Value→List Value
 | n::r,v::vs=>ndC n v++flatU r vs
 | _,_=>[]
theorem flatU_length (ns:List Nd)(vs:List Value)(h:vs.length=ns.length):(flatU ns vs).length=ns.length*5:=by
 induction ns generalizing vs with
 | nil=>cases vs<;>rfl
 | cons n r ih =>
  cases vs with
  | nil=>simp at h
  | cons v vs =>
   simp only [flatU,List.length_append,ih vs (by simpa using h),ndC,List.length_cons,List.length_nil]
   omega
theorem flatU_get (ns:List Nd)(vs:List Value)(h:vs.length=ns.length)(i j:Nat)(hi:i<ns.length)(hj:j<5):(flatU ns vs)[i*5+j]?=(ndC (nd ns i) (vs.getD i default))[j]?:=by
 induction ns generalizing i vs with
 | nil=>simp at hi
 | cons n r ih =>
  cases vs with
  | nil=>simp at h
  | cons v vs =>
   cases i with
   | zero =>
    simp only [flatU,Nat.zero_mul,Nat.zero_add]
    rw [List.getElem?_append_left (by simpa [ndC] using hj)]
    rfl
   | succ i =>
    simp only [flatU]
    rw [List.getElem?_append_right (by simp [ndC];omega)]
    have:=ih vs (by simpa using h) i (by simpa using hi)
    rw [show (i+1)*5+j-(ndC n v).length=i*5+j by simp [ndC];omega,this]
    simp [nd,List.getD]
theorem flatU_one (ns:List Nd)(vs:List Value)(hv:∀v∈vs,v.oneCell'=true):∀u∈flatU ns vs,u.oneCell'=true:=by
 induction ns generalizing vs with
 | nil=>intro u hu;cases vs<;>simp [flatU] at hu
 | cons n r ih =>
  cases vs with
  | nil=>intro u hu;simp [flatU] at hu
  | cons v vs =>
   intro u hu
   simp only [flatU,List.mem_append] at hu
   rcases hu with hu|hu
   · simp only [ndC,List.mem_cons,List.not_mem_nil,or_false] at hu
     rcases hu with rfl|rfl|rfl|rfl|rfl
     · rfl
     · rfl
     · rfl
     · rfl
     · exact hv _ (by simp)
   · exact ih vs (fun v hv'=>hv v (by simp [hv'])) u hu
theorem TV.kids {W:World}{p:Option Addr}{len c:Nat}{ns:List Nd}(h:TV W p len c ns)(h0:0<len):∃(vs:List Value) (b off:Nat),p=some ⟨b,off,none⟩∧b<W.heap.size∧vs.length=len∧∀i,i<len→∃kp kl kc,vs.getD i default=.slice kp kl kc∧NC W b (off+i*5) (nd ns i) kp kl kc:=by
 obtain ⟨b,off,hp,hb,hc⟩:=h.node h0
 have ex:∀i,∃v:Value,i<len→∃kp kl kc,v=.slice kp kl kc∧NC W b (off+i*5) (nd ns i) kp kl kc:=fun i=>by
  by_cases hi:i<len
  · obtain ⟨kp,kl,kc,h1⟩:=hc i hi
    exact ⟨.slice kp kl kc,fun _=>⟨kp,kl,kc,rfl,h1⟩⟩
  · exact ⟨.bool false,fun h=>absurd h hi⟩
 obtain ⟨f,hf⟩:=Classical.axiomOfChoice ex
 refine ⟨(List.range len).map f,b,off,hp,hb,by simp,fun i hi=>?_⟩
 obtain ⟨kp,kl,kc,h1,h2⟩:=hf i hi
 exact ⟨kp,kl,kc,by simp [List.getD,hi,h1],h2⟩
def KOk (nb:Nat)(kp:Option Addr)(kl:Nat):Prop:=0<kl→∀b off,kp=some ⟨b,off,none⟩→b≠nb
structure UN (W:World)(nb len:Nat)(ns:List Nd):Prop where
 blk:∃cs,W.heap[nb]?=some (.cells cs 54 (0,0))
 node:∀j,j<len→∃kp kl kc,NC W nb (j*5) (nd ns j) kp kl kc∧KOk nb kp kl
theorem eqN_some (g:Addr)(n c:Nat)(W:World):(binOp .eql 37 (.slice (some g) n c) (.slice none 0 0)).run Tryz.prog W=.ok (.bool false) W:=by kernel_rfl
theorem cloneN_at (w:World)(len c:Nat)(p:Option Addr)(ns:List Nd)(h:TV w p len c ns)(h0:0<len)(hf:len≤70000) :
 Calls Tryz.prog 136 #[.slice p len c] w fun e w'=>∃nb nc,e=.returned (.slice (some ⟨nb,0,none⟩) len nc)∧w.heap.size≤nb∧len≤nc∧UN w' nb len ns∧Below w.heap.size w w':=by
 obtain ⟨i0,hi,hz0,hz1,hz2⟩:=infoU_of infoUN
 obtain ⟨vs,b,off,rfl,hb,hvl,hk⟩:=TV.kids h h0
 have hnl:ns.length=len:=h.len_eq
 have hz:=World.ownsRow_lit (base:=w.heap.size) (e := 54) (size:=5) w #[] 0 (Nat.le_refl _) (by simp [maxLen]) rfl
 have hA:∀j u,(flatU ns vs)[j]?=some u→(w.alloc (.cells #[] 54)).cell? ((⟨b,off,none⟩:Addr).add j)=some u:=fun j u hj=>by
  have hjl:j<len*5:=by
   have:=(List.getElem?_eq_some_iff.1 hj).1
   rwa [flatU_length ns vs (by omega),hnl] at this
  have hd:j / 5<len:=by omega
  obtain ⟨kp,kl,kc,hv,hnc⟩:=hk (j / 5) hd
  have hnc:=hnc.on hb (one_below w (.cells #[] 54))
  have hg:=flatU_get ns vs (by omega) (j / 5) (j % 5) (by omega) (by omega)
  rw [show j / 5*5+j % 5=j by omega,hj,hv] at hg
  rw [addU_plain]
  rcases (by omega:j % 5=0∨j % 5=1∨j % 5=2∨j % 5=3∨j % 5=4) with e|e|e|e|e
  · rw [e] at hg
    rw [show off+j=off+j / 5*5 by omega,hnc.kind,hg];rfl
  · rw [e] at hg
    rw [show off+j=off+j / 5*5+1 by omega,hnc.at',hg];rfl
  · rw [e] at hg
    rw [show off+j=off+j / 5*5+2 by omega,hnc.text,hg];rfl
  · rw [e] at hg
    rw [show off+j=off+j / 5*5+3 by omega,hnc.n,hg];rfl
  · rw [e] at hg
    rw [show off+j=off+j / 5*5+4 by omega,hnc.kids,hg];rfl
 have h1:∀u∈flatU ns vs,u.oneCell'=true:=flatU_one ns vs fun v hv=>by
  obtain ⟨j,hj,rfl⟩:=List.getElem_of_mem hv
  obtain ⟨kp,kl,kc,e,_⟩:=hk j (by omega)
  simp only [List.getD,hj,List.getElem?_eq_getElem,Option.getD_some] at e
  rw [e];rfl
 have HK:=lh hk
 clear h hk
 have eqn:=eqN_some
 go_enter Tryz.func136,Tryz.ntmps136
 go_wp2_with (at_builtin;refine wpList_append_own _ rfl (.tmp 5) (.tmp 6) 37 rfl w.heap.size 54 i0 _ 5 64 Tryz.underlying37 hi hz0 hz1 hz2 rfl (by decide) (.slice (some ⟨w.heap.size,0,none⟩) 0 0) 0 [] rfl hz ⟨b,off,none⟩ len c (flatU ns vs) rfl (by rw [flatU_length _ _ (by omega),hnl]) hA h1 (by unfold maxLen;omega) (by omega) (by simp) ?_;intro v' w' hown hgrow _)
 have hb2:Below w.heap.size w w':=(one_below w _).grown hgrow (by simp) (fun k hk=>by simp [Value.ownBlock] at hk;omega)
 go_ret
 rw [Nat.zero_add,List.nil_append] at hown
 rcases hown.2 with ⟨_,hn0⟩|⟨g,gc,cur,rfl,hg0,hg,hgc,_,_,ht⟩
 · omega
 · refine ⟨g,gc,rfl,hg0,hgc,⟨⟨_,hg⟩,fun j hj=>?_⟩,hb2⟩
   obtain ⟨kp,kl,kc,hv,hnc⟩:=HK.out j hj
   have hnk:0<kl→∀b2 off2,kp=some ⟨b2,off2,none⟩→b2≠g:=fun h0 b2 off2 e=>by
    obtain ⟨b3,off3,e3,hlt,_⟩:=hnc.iv.cell h0
    rw [e3] at e
    cases e
    omega
   have hnc:=hnc.on hb hb2
   have cell:∀k u,k<5→(ndC (nd ns j) (.slice kp kl kc))[k]?=some u→w'.cell? ⟨g,j*5+k,none⟩=some u:=fun k u hk hu=>by
    rw [cell_of_row w' g _ _ _ _ hg]
    have h2:=flatU_get ns vs (by omega) j k (by omega) hk
    rw [hv] at h2
    rw [← ht,List.getElem?_take,if_pos (by omega)] at h2
    rw [← Array.getElem?_toList,h2,hu]
   exact ⟨kp,kl,kc,⟨cell 0 _ (by omega) rfl,cell 1 _ (by omega) rfl,cell 2 _ (by omega) rfl,cell 3 _ (by omega) rfl,cell 4 _ (by omega) rfl,hnc.iv⟩,hnk⟩
end Nm
section
open Go.RowKit
open Par (Less many many_err many_done many_more)
theorem St.deep {E:Env}{v0 v:Value}{kvs0 n:List Value}{md0:List Nd}{w0 w:World}{ts:List Ast}{r r':Nat}{l:List PT}{z:Int}(h:St E v0 kvs0 md0 w0 ts r l v n w)(hr:r'≤64)(hz:z=64-(r':Int)):St E v0 kvs0 md0 w0 ts r' l v n (w.setCell ⟨E.b,2,none⟩ (.int .i64 z)):=by
 obtain ⟨i,hl,hb⟩:=h.ps.nx
 exact ⟨h.ps.deep hr hz hb hl,h.nw,h.fr.setB 2 _⟩
theorem enter_pos {s:ByteArray}{r p:Nat}{l l':List PT}(h:enterP s r l=.ok p l'):0<r:=by
 cases l with
 | nil=>simp [enterP] at h
 | cons t l =>
  simp only [enterP] at h
  split at h
  · split at h
    · simp at h
    · omega
  · simp at h
section
variable {E:Env}{v:Value}{kvs:List Value}{md:List Nd}{r:Nat}{l:List PT}{w:World}
theorem bracket_at {ex:Par Ast}(h:PS E v kvs md r l w)(hex:0<r→∀v kvs md l w,PS E v kvs md (r-1) l w→Calls Tryz.prog 197 #[.pointer (some ⟨E.b,0,none⟩)] w (PostE E (ex l) fun a l'=>OkA E v kvs md (r-1) w a l')) :
 Calls Tryz.prog 288 #[.pointer (some ⟨E.b,0,none⟩)] w (PostE E (bracketP r ex l) fun a l'=>OkA E v kvs md r w a l'):=by
 have hr64:=h.r64
 have S0:=lh (St.start h)
 have HX:=lh hex
 have C:=lh (enter_at S0.out.ps ⟨#[40]⟩ (by decide))
 clear h hex
 go_enter Tryz.func288,Tryz.ntmps288
 go_wp2_with fail
 (with_reducible refine C.out.mono ?_)
 rintro e w1 hP
 clear C
 cases hx:enterP ⟨#[40]⟩ r l with
 | err p c =>
  rw [hx] at hP
  obtain ⟨rfl,hb⟩:=hP
  have HB:=lh hb
  have HR:Hid (bracketP r ex l=.err p c):=lh (by simp only [bracketP,Par.bind,hx])
  clear hb hx
  go_wp2
  exact ⟨rfl,of_err HR.out HB.out⟩
 | ok p l1 =>
  rw [hx] at hP
  have hr:=enter_pos hx
  have X1:=lh hx
  obtain ⟨rfl,hs,hf⟩:=hP
  obtain ⟨S,T⟩:=S0.out.same hs hf
  have S1:=lh S
  have C:=lh (HX.out hr _ _ _ _ _ S.ps)
  clear hs hf hx S T S0 HX
  go_wp2_with fail
  (with_reducible refine C.out.mono ?_)
  rintro e w2 hP
  clear C
  cases hx:ex l1 with
  | err p c =>
   rw [hx] at hP
   obtain ⟨rfl,hb⟩:=hP
   have HB:=lh hb
   have HR:Hid (bracketP r ex l=.err p c):=lh (by simp only [bracketP,Par.bind,X1.out,hx])
   clear hb hx
   go_wp2
   exact ⟨rfl,of_err HR.out HB.out⟩
  | ok a l2 =>
   rw [hx] at hP
   have X2:=lh hx
   obtain ⟨v2,n2,rfl,S,T⟩:=S1.out.ast (ts':=[a]) hP rfl
   have S2:=lh S
   have C:=lh (leave_at S.ps ⟨#[41]⟩ (by decide) (by omega))
   clear hP hx S T S1
   go_wp2_with fail
   (with_reducible refine C.out.mono ?_)
   rintro e w3 hP
   clear C
   cases hx:expectP ⟨#[41]⟩ l2 with
   | err p c =>
    rw [hx] at hP
    obtain ⟨rfl,hb⟩:=hP
    have HB:=lh hb
    have HR:Hid (bracketP r ex l=.err p c):=lh (by simp only [bracketP,Par.bind,X1.out,X2.out,hx])
    clear hb hx
    go_wp2
    exact ⟨rfl,of_err HR.out HB.out⟩
   | ok q l3 =>
    rw [hx] at hP
    obtain ⟨rfl,hs,hf⟩:=hP
    have er:r-1+1=r:=by omega
    rw [er] at hs
    obtain ⟨S,T⟩:=S2.out.same hs hf
    have HR:Hid (bracketP r ex l=.ok a l3):=lh (by simp only [bracketP,Par.bind,Par.pure,X1.out,X2.out,hx])
    have S3:=lh S
    clear hs hf hx S T S2 er
    go_wp2
    go_ret
    exact of_ok HR.out S3.out.one
theorem negative_at {fp:Par Ast}(h:PS E v kvs md r l w)(hf:0<r→∀v kvs md l w,PS E v kvs md (r-1) l w→Calls Tryz.prog 269 #[.pointer (some ⟨E.b,0,none⟩)] w (PostE E (fp l) fun a l'=>OkA E v kvs md (r-1) w a l'))(hsz:∀c,Sz c fp (fun a=>a.size+c)) :
 Calls Tryz.prog 289 #[.pointer (some ⟨E.b,0,none⟩)] w (PostE E (negP r fp l) fun a l'=>OkA E v kvs md r w a l'):=by
 have hr64:=h.r64
 have RM:=lh h.room
 have S0:=lh (St.start h)
 have HX:=lh hf
 have C:=lh (enter_at S0.out.ps ⟨#[45]⟩ (by decide))
 clear h hf
 go_enter Tryz.func289,Tryz.ntmps289
 go_wp2_with fail
 (with_reducible refine C.out.mono ?_)
 rintro e w1 hP
 clear C
 cases hx:enterP ⟨#[45]⟩ r l with
 | err p c =>
  rw [hx] at hP
  obtain ⟨rfl,hb⟩:=hP
  have HB:=lh hb
  have HR:Hid (negP r fp l=.err p c):=lh (by simp only [negP,Par.bind,hx])
  clear hb hx
  go_wp2
  exact ⟨rfl,of_err HR.out HB.out⟩
 | ok p l1 =>
  rw [hx] at hP
  have hr:=enter_pos hx
  have hlt:=lh (takes_enter _ _ _ _ _ hx)
  have X1:=lh hx
  obtain ⟨rfl,hs,hf⟩:=hP
  obtain ⟨S,T⟩:=S0.out.same hs hf
  have S1:=lh (S.alloc (.cells #[.int .u8 26,.int .i64 (p:Int),.string ⟨#[]⟩,.int .i64 0,.slice none 0 0] 54))
  have L1:=lh (Lcl.new S.ps (.cells #[.int .u8 26,.int .i64 (p:Int),.string ⟨#[]⟩,.int .i64 0,.slice none 0 0] 54))
  have C:=lh (HX.out hr _ _ _ _ _ S1.out.ps)
  clear hs hf hx S T S0 HX
  go_wp2_with fail
  (with_reducible refine C.out.mono ?_)
  rintro e w2 hP
  clear C
  cases hx:fp l1 with
  | err p c =>
   rw [hx] at hP
   obtain ⟨rfl,hb⟩:=hP
   have HB:=lh hb
   have HR:Hid (negP r fp l=.err p c):=lh (by simp only [negP,Par.bind,X1.out,hx])
   clear hb hx
   go_wp2
   exact ⟨rfl,of_err HR.out HB.out⟩
  | ok a l2 =>
   rw [hx] at hP
   have hqs:a.size+l2.length≤0+l1.length:=hsz 0 _ _ _ hx
   obtain ⟨v2,n2,rfl,S,T⟩:=S1.out.ast (ts':=[a]) hP rfl
   have HR:Hid (negP r fp l=.ok (.mk 26 p none0 0 [a]) l2):=lh (by simp only [negP,nodeA,Par.bind,Par.pure,X1.out,hx])
   have hroom:md.length+a.size+1+l2.length≤70000:=by
    have:=RM.out
    have:=hlt.out
    omega
   have L2:=(L1.out.tr T).setB 2 (.int .i64 (64-((r-1:Nat):Int)-1))
   obtain ⟨_,_,_,_,c2,_,_⟩:=S.ps.cells
   have z2:=S.ps.fz
   have S2:=S.deep (r':=r) (z:=64-((r-1:Nat):Int)-1) (by omega) (by omega)
   have S2':=lh S2
   have k0:=L2.cell 0 rfl
   have k1:=L2.cell 1 rfl
   have k2:=L2.cell 2 rfl
   have k3:=L2.cell 3 rfl
   have k4:=L2.cell 4 rfl
   have R3:=lh (Rw.lit S2 (q:=w2.heap.size) (by simp [World.setCell]) (ks:=roots md.length [a]) (cs:=#[.int .i64 (rootI (md.length+sizeL []) a)]) (m:=1) (by simp [roots,rootI,sizeL]) (by simp [roots]) (by omega))
   have S3:=lh (S2.alloc (.cells #[.int .i64 (rootI (md.length+sizeL []) a)] 3))
   have AD:=lh (add_at S3.out.ps 26 p 0 none0 (.slice none 0 0) _ (roots md.length [a]) R3.out.own R3.out.loc (by rw [List.length_append,postL_length,sizeL_one];omega))
   clear hP hx S T S1 hqs L2 S2 L1 hlt
   go_wp2_with fail
   (with_reducible refine AD.out.mono ?_)
   rintro e wf hA
   have hO:=lh (S3.out.add (ts:=[a]) rfl hA R3.out.ge)
   obtain ⟨z,rfl⟩:=hA.int
   clear AD
   go_wp2
   go_ret
   exact of_ok HR.out hO.out
end
end
section
open Go.RowKit
open Par (Less many many_err many_done many_more)
theorem St.next {E:Env}{v0 v:Value}{kvs0 n:List Value}{md0:List Nd}{w0 w:World}{ts:List Ast}{r i:Nat}{t:PT}{l:List PT}(h:St E v0 kvs0 md0 w0 ts r (t::l) v n w)(ht:t.kind≠4∨t.txt≠none0)(hl:l=E.pts.drop (i+1))(hc:w.heap[E.b]?=some (.cells #[.slice (some ⟨E.g,0,none⟩) E.toks.length E.cap,.int .i64 (i:Int),.int .i64 (64-(r:Int)),E.mp,v] 125 (0,0))) :
 St E v0 kvs0 md0 w0 ts r l v n (w.setCell ⟨E.b,1,none⟩ (.int .i64 ((i:Int)+1))):=⟨h.ps.next ht hl hc,h.nw,h.fr.setB 1 _⟩
theorem beq_lit (a:ByteArray)(l:List UInt8):(a.toList==l)=decide (a=⟨l.toArray⟩):=by
 have:=beq_str a ⟨l.toArray⟩
 rw [ByteArray.toList_eq ⟨l.toArray⟩] at this
 exact this
section
variable {E:Env}{v:Value}{kvs:List Value}{md:List Nd}{r:Nat}{l:List PT}{w:World}
theorem factorOf_at {fac:Par Ast}(h:PS E v kvs md r l w)(hf:0<r→∀v kvs md l w,PS E v kvs md (r-1) l w→Calls Tryz.prog 269 #[.pointer (some ⟨E.b,0,none⟩)] w (PostE E (fac l) fun a l'=>OkA E v kvs md (r-1) w a l'))(hless:Less fac)(hsz:∀c,Sz c fac (fun a=>a.size+c)) :
 Calls Tryz.prog 269 #[.pointer (some ⟨E.b,0,none⟩)] w (PostE E (factorOf r fac l) fun a l'=>OkA E v kvs md r w a l'):=by
 have RM:=lh h.room
 have S0:=lh (St.start h)
 have HX:=lh hf
 have C:=lh (peek_at S0.out.ps)
 have fl0:=tok_f0
 have fl1:=tok_f1
 have fl3:=tok_f3
 clear h hf
 go_enter Tryz.func269,Tryz.ntmps269
 go_wp2_with fail
 (with_reducible refine C.out.mono ?_)
 rintro e w1 ⟨t,l1,sp,hl,rfl,hs,hf⟩
 subst hl
 obtain ⟨S,T⟩:=S0.out.same hs hf
 have S1:=lh (S.alloc (.cells #[.int .u8 t.kind,.int .i64 (t.at':Int),.int .i64 (sp:Int),.string t.txt,.int .i64 t.n] 29))
 clear hs hf S T S0 C
 simp only [tokA]
 by_cases h2:t.kind=2
 · have HR:Hid (factorOf r fac (t::l1)=numberP (t::l1)):=lh (by simp only [factorOf,Par.bind,peekP,if_pos h2])
   have hd:(t.kind==2)=true:=by simpa using h2
   have C:=lh (number_at S1.out.ps)
   clear h2
   go_wp2_with fail
   (with_reducible refine C.out.mono ?_)
   rintro e wf hP
   have hP:=PostE.lift S1.out hP
   rw [← HR.out] at hP
   have hfin:=lh hP
   rcases post_form hP with ⟨z,rfl⟩|⟨ch,rfl⟩
   · clear hP HR C
     go_wp2
     go_ret
     exact hfin.out
   · clear hP HR C
     go_wp2
     exact ⟨rfl,hfin.out⟩
 · have hd2:(t.kind==2)=false:=by simpa using h2
   by_cases h1:t.kind=1
   · have HR:Hid (factorOf r fac (t::l1)=.ok (.mk 22 t.at' t.txt 0 []) l1):=lh (by simp only [factorOf,Par.bind,Par.pure,peekP,nextP,if_neg h2,if_pos h1])
     have hd:(t.kind==1)=true:=by simpa using h1
     have hk4:t.kind≠4:=by omega
     obtain ⟨i,t0,l0,sp0,hl,hl0,hi,hb,_,_,_,_,_⟩:=S1.out.ps.head
     obtain ⟨rfl,rfl⟩:=List.cons.inj hl
     have hfew:=S1.out.ps.few
     have c1:=cell_of_row _ E.b 1 _ _ _ hb
     simp only [List.getElem?_toArray,List.getElem?_cons_zero,List.getElem?_cons_succ] at c1
     have z1:=S1.out.ps.fz
     have hne:¬ w1.heap.size=E.b:=by
      have h3:=(lh S1.out.ps.below).out.size
      intro e
      obtain ⟨_,_,h4⟩:=S1.out.ps.nx
      have e2:(w1.alloc (.cells #[.int .u8 t.kind,.int .i64 (t.at':Int),.int .i64 (sp:Int),.string t.txt,.int .i64 t.n] 29)).heap[w1.heap.size]?=some (.cells #[.int .u8 t.kind,.int .i64 (t.at':Int),.int .i64 (sp:Int),.string t.txt,.int .i64 t.n] 29):=by show (w1.heap.push _)[w1.heap.size]?=_;simp
      rw [← e,e2] at h4
      simp at h4
     have S2:=lh (S1.out.next (Or.inl hk4) hl0 hb)
     have RN:Hid (Rw E v (kvs++[]) w.heap.size (.slice none 0 0) [] ((w1.alloc (.cells #[.int .u8 t.kind,.int .i64 (t.at':Int),.int .i64 (sp:Int),.string t.txt,.int .i64 t.n] 29)).setCell ⟨E.b,1,none⟩ (.int .i64 ((i:Int)+1)))):=lh Rw.nil
     have AD:=lh (add_at S2.out.ps 22 t.at' 0 t.txt (.slice none 0 0) (.slice none 0 0) (roots md.length []) RN.out.own RN.out.loc (by have:=RM.out;rw [List.length_append,postL_length];simp only [sizeL,List.length_cons] at *;omega))
     clear h1 h2 hk4 hl hl0 hb
     go_wp2_with fail
     (with_reducible refine AD.out.mono ?_)
     rintro e wf hA
     have hO:=lh (S2.out.add (ts:=[]) rfl hA RN.out.ge)
     obtain ⟨z,rfl⟩:=hA.int
     clear AD
     go_wp2
     go_ret
     exact of_ok HR.out hO.out
   · have hd1:(t.kind==1)=false:=by simpa using h1
     by_cases h3:t.txt=⟨#[40]⟩
     · have HR:Hid (factorOf r fac (t::l1)=bracketP r (exprP fac) (t::l1)):=lh (by simp only [factorOf,Par.bind,peekP,if_neg h2,if_neg h1,if_pos h3])
       have hd3:(t.txt.toList==[40])=true:=by rw [beq_lit];exact decide_eq_true h3
       have C:=lh (bracket_at (ex:=exprP fac) S1.out.ps (fun hr v kvs md l w hp=>expr_at hp (HX.out hr) hless hsz))
       clear h1 h2 h3
       go_wp2_with fail
       (with_reducible refine C.out.mono ?_)
       rintro e wf hP
       have hP:=PostE.lift S1.out hP
       rw [← HR.out] at hP
       have hfin:=lh hP
       rcases post_form hP with ⟨z,rfl⟩|⟨ch,rfl⟩
       · clear hP HR C
         go_wp2
         go_ret
         exact hfin.out
       · clear hP HR C
         go_wp2
         exact ⟨rfl,hfin.out⟩
     · have hd3:(t.txt.toList==[40])=false:=by rw [beq_lit];exact decide_eq_false h3
       by_cases h4:t.txt=⟨#[45]⟩
       · have HR:Hid (factorOf r fac (t::l1)=negP r fac (t::l1)):=lh (by simp only [factorOf,Par.bind,peekP,if_neg h2,if_neg h1,if_neg h3,if_pos h4])
         have hd4:(t.txt.toList==[45])=true:=by rw [beq_lit];exact decide_eq_true h4
         have C:=lh (negative_at (fp:=fac) S1.out.ps HX.out hsz)
         clear h1 h2 h3 h4
         go_wp2_with fail
         (with_reducible refine C.out.mono ?_)
         rintro e wf hP
         have hP:=PostE.lift S1.out hP
         rw [← HR.out] at hP
         have hfin:=lh hP
         rcases post_form hP with ⟨z,rfl⟩|⟨ch,rfl⟩
         · clear hP HR C
           go_wp2
           go_ret
           exact hfin.out
         · clear hP HR C
           go_wp2
           exact ⟨rfl,hfin.out⟩
       · have HR:Hid (factorOf r fac (t::l1)=.err t.at' 50):=lh (by simp only [factorOf,Par.bind,peekP,failP,if_neg h2,if_neg h1,if_neg h3,if_neg h4])
         have hd4:(t.txt.toList==[45])=false:=by rw [beq_lit];exact decide_eq_false h4
         have RF:=lh (refused_at S1.out.ps 50)
         clear h1 h2 h3 h4
         go_wp2_with fail
         (with_reducible refine RF.out.mono ?_)
         rintro e w3 ⟨t3,l3,hl,rfl,hb⟩
         obtain ⟨rfl,rfl⟩:=List.cons.inj hl
         have HB:=lh hb
         clear RF hb
         go_wp2
         exact ⟨rfl,of_err HR.out HB.out⟩
theorem factor_at (r:Nat):∀(v:Value) (kvs:List Value) (md:List Nd) (l:List PT) (w:World),PS E v kvs md r l w→Calls Tryz.prog 269 #[.pointer (some ⟨E.b,0,none⟩)] w (PostE E (factorP r l) fun a l'=>OkA E v kvs md r w a l'):=by
 induction r with
 | zero=>exact fun v kvs md l w h=>factorOf_at (fac:=failP) h (fun h0=>absurd h0 (by omega)) less_fail (fun _=>Sz.fail)
 | succ r ih=>exact fun v kvs md l w h=>factorOf_at (fac:=factorP r) h (fun _=>ih) (less_factor r) (sz_factor r)
theorem exprR_at (h:PS E v kvs md r l w):Calls Tryz.prog 197 #[.pointer (some ⟨E.b,0,none⟩)] w (PostE E (exprR r l) fun a l'=>OkA E v kvs md r w a l') :=
 expr_at h (factor_at r) (less_factor r) (sz_factor r)
end
end
section
open Go.RowKit
open Par (Less many many_err many_done many_more)
def OkC (E:Env)(v:Value)(kvs:List Value)(md:List Nd)(r:Nat)(w:World)(ab:Ast × Ast)(l':List PT)(e:Ending)(w':World):Prop :=
 ∃v' n',e=.returned (.tuple #[.int .i64 (rootI (md.length+sizeL []) ab.1),.int .i64 (rootI (md.length+sizeL [ab.1]) ab.2)])∧St E v kvs md w [ab.1,ab.2] r l' v' n' w'
theorem St.two {E:Env}{v0 v:Value}{kvs0 n:List Value}{md0:List Nd}{w0 w1 w2:World}{r r':Nat}{l l':List PT}{ab:Ast × Ast}{e:Ending}(h:St E v0 kvs0 md0 w0 [] r l v n w1)(ha:OkC E v (kvs0++n) (md0++postL md0.length []) r' w1 ab l' e w2) :
 ∃v' n',e=.returned (.tuple #[.int .i64 (rootI (md0.length+sizeL []) ab.1),.int .i64 (rootI (md0.length+sizeL [ab.1]) ab.2)])∧St E v0 kvs0 md0 w0 [ab.1,ab.2] r' l' v' n' w2∧Tr E v v' n n' w1 w2:=by
 obtain ⟨v',new,he,hs⟩:=ha
 have hl:(md0++postL md0.length []).length=md0.length:=by simp [postL]
 have hp:=hs.ps
 rw [hl] at he hp
 rw [show md0++postL md0.length []=md0 by simp [postL],List.append_assoc] at hp
 exact ⟨v',n++new,he,⟨hp,h.nw.append (hs.nw.mono h.fr.size),h.fr.trans (hs.fr.mono h.fr.size)⟩,⟨⟨new,rfl,hs.nw⟩,hs.fr⟩⟩
section
variable {E:Env}{v:Value}{kvs:List Value}{md:List Nd}{r:Nat}{l:List PT}{w:World}
theorem rowOf_at (h:PS E v kvs md r l w)(t:PT)(sp:Nat):Calls Tryz.prog 201 #[.pointer (some ⟨E.b,0,none⟩),tokA t sp] w (PostE E (rowOfP r t l) fun a l'=>OkA E v kvs md r w a l'):=by
 have hr64:=h.r64
 have RM:=lh h.room
 have S1:=lh (St.start h)
 have hnot:=nt
 clear h
 have S2:=lh (S1.out.alloc (.cells #[.int .u8 t.kind,.int .i64 (t.at':Int),.int .i64 (sp:Int),.string t.txt,.int .i64 t.n] 29))
 have Q3:Hid (w.heap.size≤w.heap.size):=lh S1.out.fr.size
 have L4:=lh (Lcl.new S1.out.ps (.cells #[.int .u8 t.kind,.int .i64 (t.at':Int),.int .i64 (sp:Int),.string t.txt,.int .i64 t.n] 29))
 clear S1
 simp only [tokA]
 go_enter Tryz.func201,Tryz.ntmps201
 have C5:=lh (enter_at S2.out.ps ⟨#[91]⟩ (by decide))
 go_wp2_with fail
 (with_reducible refine C5.out.mono ?_)
 rintro e w6 hP
 clear C5
 cases hx:enterP ⟨#[91]⟩ r l with
 | err pe ce =>
  obtain ⟨rfl,HB⟩:=pE hx hP
  replace hx:=lh hx
  go_wp2
  exact ⟨rfl,of_err (by simp only [rowOfP,Par.bind,hx.out]) HB.out⟩
 | ok p1 l1 =>
  rw [hx] at hP
  have X7:=lh hx
  have hr:=enter_pos hx
  obtain ⟨rfl,hs,hf⟩:=hP
  obtain ⟨S,T⟩:=S2.out.same hs hf
  clear hs hf hx
  have L8:=lh (L4.out.tr T)
  have S9:=lh (S)
  clear S T S2 L4
  have c10:=L8.out.cell 0 rfl
  have c11:=L8.out.cell 1 rfl
  have c12:=L8.out.cell 2 rfl
  have c13:=L8.out.cell 3 rfl
  have c14:=L8.out.cell 4 rfl
  have z15:=L8.out.fz
  have C16:=lh (exprR_at S9.out.ps)
  go_wp2_with fail
  clear c10 c11 c12 c13 c14 z15
  (with_reducible refine C16.out.mono ?_)
  rintro e w17 hP
  clear C16
  cases hx:exprR (r-1) l1 with
  | err pe ce =>
   obtain ⟨rfl,HB⟩:=pE hx hP
   replace hx:=lh hx
   go_wp2
   exact ⟨rfl,of_err (by simp only [rowOfP,Par.bind,X7.out,hx.out]) HB.out⟩
  | ok a l2 =>
   rw [hx] at hP
   have X18:=lh hx
   obtain ⟨v17,n17,rfl,S,T⟩:=S9.out.ast (ts':=[a]) hP rfl
   clear hP hx
   have L19:=lh (L8.out.tr T)
   have S20:=lh (S)
   clear S T S9 L8
   have c21:=L19.out.cell 0 rfl
   have c22:=L19.out.cell 1 rfl
   have c23:=L19.out.cell 2 rfl
   have c24:=L19.out.cell 3 rfl
   have c25:=L19.out.cell 4 rfl
   have z26:=L19.out.fz
   have C27:=lh (leave_at S20.out.ps ⟨#[93]⟩ (by decide) (by omega))
   go_wp2_with fail
   clear c21 c22 c23 c24 c25 z26
   (with_reducible refine C27.out.mono ?_)
   rintro e w28 hP
   clear C27
   cases hx:expectP ⟨#[93]⟩ l2 with
   | err pe ce =>
    obtain ⟨rfl,HB⟩:=pE hx hP
    replace hx:=lh hx
    go_wp2
    exact ⟨rfl,of_err (by simp only [rowOfP,Par.bind,X7.out,X18.out,hx.out]) HB.out⟩
   | ok p3 l3 =>
    rw [hx] at hP
    have X29:=lh hx
    obtain ⟨rfl,hs,hf⟩:=hP
    have er:r-1+1=r:=by omega
    rw [er] at hs
    obtain ⟨S,T⟩:=S20.out.same hs hf
    clear hs hf hx
    have L30:=lh (L19.out.tr T)
    have S31:=lh (S)
    clear S T S20 L19
    have c32:=L30.out.cell 0 rfl
    have c33:=L30.out.cell 1 rfl
    have c34:=L30.out.cell 2 rfl
    have c35:=L30.out.cell 3 rfl
    have c36:=L30.out.cell 4 rfl
    have z37:=L30.out.fz
    have HR:Hid (rowOfP r t l=.ok (.mk 20 t.at' t.txt 0 [a]) l3):=lh (by simp only [rowOfP,Par.bind,Par.pure,X7.out,X18.out,X29.out])
    have R38:=lh (Rw.lit S31.out (q:=w28.heap.size) (by first|rfl|simp [World.setCell]) (ks:=roots md.length [a]) (cs:=#[.int .i64 (rootI (md.length+sizeL []) a)]) (m:=1) (by simp [roots,rootI,sizeL]<;>omega) (by simp [roots]) (by omega))
    have S39:=lh (S31.out.alloc (.cells #[.int .i64 (rootI (md.length+sizeL []) a)] 3))
    have L40:=lh (L30.out.alloc (.cells #[.int .i64 (rootI (md.length+sizeL []) a)] 3))
    clear S31 L30
    have C41:=lh (add_at S39.out.ps (20) ((t.at':Int)) (0) (t.txt) (.slice none 0 0) (.slice (some ⟨w28.heap.size,0,none⟩) 1 1) (roots md.length [a]) R38.out.own R38.out.loc (by have h1:=RM.out;have h2:=sz_rowOf r 0 t _ _ _ HR.out;simp only [Ast.size] at h2;rw [List.length_append,postL_length];omega))
    go_wp2_with fail
    clear c32 c33 c34 c35 c36 z37
    (with_reducible refine C41.out.mono ?_)
    rintro e wf hA
    have hO:=lh (S39.out.add (ts:=[a]) rfl hA R38.out.ge)
    obtain ⟨z,rfl⟩:=hA.int
    clear C41
    go_wp2
    go_ret
    exact of_ok HR.out hO.out
theorem row_at (h:PS E v kvs md r l w):Calls Tryz.prog 198 #[.pointer (some ⟨E.b,0,none⟩)] w (PostE E (rowP r l) fun a l'=>OkA E v kvs md r w a l'):=by
 have hr64:=h.r64
 have RM:=lh h.room
 have S1:=lh (St.start h)
 have hnot:=nt
 clear h
 go_enter Tryz.func198,Tryz.ntmps198
 have C2:=lh (take_at S1.out.ps 1 (by decide))
 go_wp2_with fail
 (with_reducible refine C2.out.mono ?_)
 rintro e w3 hP
 clear C2
 cases hx:takeP 1 l with
 | err pe ce =>
  obtain ⟨rfl,HB⟩:=pE hx hP
  replace hx:=lh hx
  go_wp2
  exact ⟨rfl,of_err (by simp only [rowP,Par.bind,hx.out]) HB.out⟩
 | ok t l1 =>
  rw [hx] at hP
  have X4:=lh hx
  obtain ⟨sp,rfl,hs,hf⟩:=hP
  obtain ⟨S,T⟩:=S1.out.same hs hf
  clear hs hf hx
  simp only [tokA]
  have S5:=lh (S)
  clear S T S1
  have C6:=lh (rowOf_at S5.out.ps t sp)
  go_wp2_with fail
  (with_reducible refine C6.out.mono ?_)
  rintro e wf hP
  have hP:=PostE.lift S5.out hP
  have HR:rowP r l=rowOfP r t l1:=by simp only [rowP,Par.bind,X4.out]
  rw [← HR] at hP
  have hfin:=lh hP
  rcases post_form hP with ⟨z,rfl⟩|⟨ch,rfl⟩
  · clear hP HR C6
    go_wp2
    go_ret
    exact hfin.out
  · clear hP HR C6
    go_wp2
    exact ⟨rfl,hfin.out⟩
theorem cell_at (h:PS E v kvs md r l w):Calls Tryz.prog 194 #[.pointer (some ⟨E.b,0,none⟩)] w (PostE E (cellP r l) fun a l'=>OkC E v kvs md r w a l'):=by
 have hr64:=h.r64
 have RM:=lh h.room
 have S1:=lh (St.start h)
 have hnot:=nt
 clear h
 go_enter Tryz.func194,Tryz.ntmps194
 have C2:=lh (row_at S1.out.ps)
 go_wp2_with fail
 (with_reducible refine C2.out.mono ?_)
 rintro e w3 hP
 clear C2
 cases hx:rowP r l with
 | err pe ce =>
  obtain ⟨rfl,HB⟩:=pE hx hP
  replace hx:=lh hx
  go_wp2
  exact ⟨rfl,of_err (by simp only [cellP,Par.bind,hx.out]) HB.out⟩
 | ok a l1 =>
  rw [hx] at hP
  have X4:=lh hx
  obtain ⟨v3,n3,rfl,S,T⟩:=S1.out.ast (ts':=[a]) hP rfl
  clear hP hx
  have S5:=lh (S)
  clear S T S1
  have C6:=lh (expect_at S5.out.ps ⟨#[46]⟩ (by decide))
  go_wp2_with fail
  (with_reducible refine C6.out.mono ?_)
  rintro e w7 hP
  clear C6
  cases hx:expectP ⟨#[46]⟩ l1 with
  | err pe ce =>
   obtain ⟨rfl,HB⟩:=pE hx hP
   replace hx:=lh hx
   go_wp2
   exact ⟨rfl,of_err (by simp only [cellP,Par.bind,X4.out,hx.out]) HB.out⟩
  | ok p2 l2 =>
   rw [hx] at hP
   have X8:=lh hx
   obtain ⟨rfl,hs,hf⟩:=hP
   obtain ⟨S,T⟩:=S5.out.same hs hf
   clear hs hf hx
   have S9:=lh (S)
   clear S T S5
   have C10:=lh (word_at S9.out.ps)
   go_wp2_with fail
   (with_reducible refine C10.out.mono ?_)
   rintro e w11 hP
   clear C10
   cases hx:wordP l2 with
   | err pe ce =>
    obtain ⟨rfl,HB⟩:=pE hx hP
    replace hx:=lh hx
    go_wp2
    exact ⟨rfl,of_err (by simp only [cellP,Par.bind,X4.out,X8.out,hx.out]) HB.out⟩
   | ok b l3 =>
    rw [hx] at hP
    have X12:=lh hx
    obtain ⟨v11,n11,rfl,S,T⟩:=S9.out.ast (ts':=[a,b]) hP rfl
    clear hP hx
    have S13:=lh (S)
    clear S T S9
    have HR:Hid (cellP r l=.ok (a,b) l3):=lh (by simp only [cellP,Par.bind,Par.pure,X4.out,X8.out,X12.out])
    clear RM
    go_wp2
    simp [bodyPost,results,Tryz.results194,go_sem]
    exact of_ok HR.out ⟨_,_,rfl,S13.out⟩
theorem named_at (h:PS E v kvs md r l w)(k:Int)(p:Nat):Calls Tryz.prog 192 #[.pointer (some ⟨E.b,0,none⟩),.int .u8 k,.int .i64 (p:Int)] w (PostE E (takeP 1 l) fun t l'=>OkV E v kvs md r w (.agg #[.int .u8 k,.int .i64 (p:Int),.string t.txt,.int .i64 0,.slice none 0 0]) l'):=by
 have hr64:=h.r64
 have RM:=lh h.room
 have S1:=lh (St.start h)
 have fl3:=tok_f3
 have hnot:=nt
 clear h
 have S2:=lh (S1.out.alloc (.cells #[.int .u8 0,.int .i64 0,.string ⟨#[]⟩,.int .i64 0,.slice none 0 0] 54))
 have Q3:Hid (w.heap.size≤w.heap.size):=lh S1.out.fr.size
 have L4:=lh (Lcl.new S1.out.ps (.cells #[.int .u8 0,.int .i64 0,.string ⟨#[]⟩,.int .i64 0,.slice none 0 0] 54))
 clear S1
 go_enter Tryz.func192,Tryz.ntmps192
 have C5:=lh (take_at S2.out.ps 1 (by decide))
 go_wp2_with fail
 (with_reducible refine C5.out.mono ?_)
 rintro e w1 hP
 clear C5
 cases hx:takeP 1 l with
 | err q c =>
  rw [hx] at hP
  obtain ⟨rfl,hb⟩:=hP
  have HB:=lh hb
  have HX:=lh hx
  clear hb hx
  go_wp2
  exact ⟨rfl,of_err HX.out HB.out⟩
 | ok t l1 =>
  rw [hx] at hP
  obtain ⟨sp,rfl,hs,hf⟩:=hP
  obtain ⟨S,T⟩:=S2.out.same hs hf
  simp only [tokA]
  have L:=lh (L4.out.tr T)
  have SS:=lh S
  have k0:=L.out.cell 0 rfl
  have k1:=L.out.cell 1 rfl
  have k2:=L.out.cell 2 rfl
  have k3:=L.out.cell 3 rfl
  have k4:=L.out.cell 4 rfl
  have zz:=L.out.fz
  have L9:=L.out.set5 (.int .u8 k) (.int .i64 (p:Int)) (.string t.txt) (.int .i64 0) (.slice none 0 0)
  have r0:=L9.cell 0 rfl
  have r1:=L9.cell 1 rfl
  have r2:=L9.cell 2 rfl
  have r3:=L9.cell 3 rfl
  have r4:=L9.cell 4 rfl
  have HX:=lh hx
  clear L9 hs hf hx S T
  go_wp2
  simp [bodyPost,results,Tryz.results192,go_sem,r0,r1,r2,r3,r4]
  refine of_ok HX.out ?_
  have hp:=SS.out.ps
  have hq:=SS.out.fr
  exact ⟨rfl,by simpa [postL] using hp.set5 L.out.loc _ _ _ _ _,hq.set5 hq.size (Nat.le_refl _) _ _ _ _ _⟩
end
end
section
open Go.RowKit
theorem length_le_sizeL (ts:List Ast):ts.length≤sizeL ts:=by
 induction ts with
 | nil=>simp
 | cons a r ih=>have:=size_pos a;simp only [List.length_cons,sizeL];omega
section
variable {E:Env}{v0 v v':Value}{kvs0 n n' kvs:List Value}{md0:List Nd}{w0 w w' wa:World}{ts:List Ast}{r:Nat}{l:List PT}
theorem Rw.mono {B B':Nat}{kv:Value}{ks:List Int}(h:Rw E v kvs B kv ks w)(hb:B'≤B):Rw E v kvs B' kv ks w:=⟨h.own,h.loc,fun q hq=>Nat.le_trans hb (h.ge q hq)⟩
theorem Rw.litB {ks:List Int}{cs:Array Value}{m q B:Nat}(h:St E v0 kvs0 md0 w0 ts r l v n w)(hq:q=w.heap.size)(hB:B≤w.heap.size)(hc:cs.toList=ks.map (Value.int .i64))(hm:m=ks.length)(hm2:m≤100):Rw E v (kvs0++n) B (.slice (some ⟨q,0,none⟩) m m) ks (w.alloc (.cells cs 3)):=by
 have h1:=Rw.lit h hq hc hm hm2
 refine ⟨h1.own,h1.loc,fun k hk=>?_⟩
 obtain rfl:q=k:=by simpa [Value.ownBlock] using hk
 omega
theorem Rw.push {z:Int}{g cap m H B:Nat}{kv:Value}{ks:List Int}{cs:List Value}(hR:Rw E v kvs B kv ks wa)(hB:B≤wa.heap.size)(hfresh:Loc E v kvs wa.heap.size)(hown:w'.ownsRow (E.b+1) 3 1 (.slice (some ⟨g,0,none⟩) m cap) m cs)(hm:m=ks.length+1)(hcs:cs=ks.map (Value.int .i64)++[.int .i64 z])(hat:kv.ownBlock=some g∨g=H)(hH:H=wa.heap.size) :
 Rw E v kvs B (.slice (some ⟨g,0,none⟩) m cap) (ks++[z]) w':=by
 subst hm hcs hH
 refine ⟨?_,fun q hq=>?_,fun q hq=>?_⟩
 · unfold own1
   rw [List.length_append,List.map_append]
   exact hown
 · obtain rfl:g=q:=by simpa [Value.ownBlock] using hq
   rcases hat with h|h
   · exact hR.loc g h
   · rw [h];exact hfresh
 · obtain rfl:g=q:=by simpa [Value.ownBlock] using hq
   rcases hat with h|h
   · exact hR.ge g h
   · omega
theorem St.grown {B:Nat}{kv:Value}{ks:List Int}(h:St E v0 kvs0 md0 w0 ts r l v n wa)(hR:Rw E v (kvs0++n) B kv ks wa)(hB:w0.heap.size≤B)(hg:wa.grownBy w' kv.ownBlock):St E v0 kvs0 md0 w0 ts r l v n w' :=
 ⟨h.ps.grown hg (fun q hq=>hR.loc q hq),h.nw,h.fr.grown hg h.fr.size (fun q hq=>Nat.le_trans hB (hR.ge q hq))⟩
theorem Lcl.push {B q:Nat}{kv:Value}{ks:List Int}{o:Obj}(h:Lcl E v kvs q o wa)(hR:Rw E v kvs B kv ks wa)(hB:q<B)(hg:wa.grownBy w' kv.ownBlock):Lcl E v kvs q o w' :=
 h.grown hg (fun e=>by have:=hR.ge q e;omega)
def OkL (E:Env)(v:Value)(kvs:List Value)(md:List Nd)(r:Nat)(w:World)(ts:List Ast)(l':List PT)(e:Ending)(w':World):Prop :=
 ∃v' n' kv,e=.returned kv∧St E v kvs md w ts r l' v' n' w'∧Rw E v' (kvs++n') w.heap.size kv (roots md.length ts) w'
theorem St.list {r':Nat}{l':List PT}{w1 w2:World}{e:Ending}(h:St E v0 kvs0 md0 w0 [] r l v n w1)(ha:OkL E v (kvs0++n) (md0++postL md0.length []) r' w1 ts l' e w2) :
 ∃v' n' kv,e=.returned kv∧St E v0 kvs0 md0 w0 ts r' l' v' n' w2∧Tr E v v' n n' w1 w2∧Rw E v' (kvs0++n') w1.heap.size kv (roots md0.length ts) w2:=by
 obtain ⟨v',new,kv,he,hs,hr⟩:=ha
 have hl:(md0++postL md0.length []).length=md0.length:=by simp [postL]
 have hp:=hs.ps
 rw [hl] at hp hr
 rw [show md0++postL md0.length []=md0 by simp [postL],List.append_assoc] at hp
 rw [List.append_assoc] at hr
 exact ⟨v',n++new,kv,he,⟨hp,h.nw.append (hs.nw.mono h.fr.size),h.fr.trans (hs.fr.mono h.fr.size)⟩,⟨⟨new,rfl,hs.nw⟩,hs.fr⟩,hr⟩
end
end
end Go.Proofs.YthdioipfdbbmmaaGreatDoor
