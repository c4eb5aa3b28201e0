/- Contracts. -/
import Derived.Test.YthdioipfdbbmmaaGreatDoorHab
import Derived.Test.YthdioipfdbbmmaaGreatDoorHat
import Derived.Test.YthdioipfdbbmmaaGreatDoorHaw
import Derived.MapKept
import Derived.BigQuiet
import Derived.Deep.QuietTactic
import Derived.IntWalk
set_option linter.all false
set_option maxRecDepth 1000000
set_option maxHeartbeats 16000000
namespace Go.Proofs.YthdioipfdbbmmaaGreatDoor
section
open Go.RowKit Go.MapKept
instance:LawfulBEq ByteArray where
 eq_of_beq:=fun {a b} h=>(bytes_beq a b).1 h
 rfl:=fun {a}=>(bytes_beq a a).2 rfl
def fnOf:Nat→Nat
 | 0 => 116
 | 1 => 117
 | 2 => 118
 | 3 => 119
 | 4 => 120
 | 5 => 121
 | 6 => 122
 | 7 => 123
 | 8 => 124
 | 9 => 125
 | 10 => 126
 | 11 => 127
 | 12 => 128
 | _=>0
def entS (s:ByteArray)(j:Nat):MapEntry:={ key:=.string s,val:=.func (.func (fnOf j)) #[] #[],born:=j }
def ES13:Array MapEntry:=#[entS ⟨#[114,101,97,100]⟩ 0,entS ⟨#[115,101,116]⟩ 1,entS ⟨#[112,117,116]⟩ 2,entS ⟨#[100,101,108,101,116,101]⟩ 3,entS ⟨#[115,99,97,110]⟩ 4,entS ⟨#[108,111,99,107]⟩ 5,entS ⟨#[114,101,108,101,97,115,101]⟩ 6,entS ⟨#[105,102]⟩ 7,entS ⟨#[102,111,114]⟩ 8,entS ⟨#[108,101,116]⟩ 9,entS ⟨#[101,109,105,116]⟩ 10,entS ⟨#[114,111,108,108,98,97,99,107]⟩ 11,entS ⟨#[99,104,111,112]⟩ 12]
theorem es13_keys:∀x∈ES13.toList,IsKey .string x.key:=by
 intro x hx
 simp only [ES13,List.mem_cons,List.not_mem_nil,or_false] at hx
 rcases hx with rfl|rfl|rfl|rfl|rfl|rfl|rfl|rfl|rfl|rfl|rfl|rfl|rfl<;>trivial
theorem es13_find (s:ByteArray):(Instr.findNow .string (.string s) ES13.toList 0=some none∧¬ words13.idxOf s<13) ∨
 (words13.idxOf s<13∧∃i,Instr.findNow .string (.string s) ES13.toList 0=some (some (i,.func (.func (fnOf (words13.idxOf s))) #[] #[]))):=by
 rcases findNow_spec (d:=.string) (k:=.string s) (by simp [IsKey]) ES13.toList 0 es13_keys with ⟨h1,h2⟩|⟨j,e,h1,h2,h3⟩
 · refine Or.inl ⟨h1,fun hlt=>?_⟩
   have hmem:s∈words13:=List.idxOf_lt_length_iff.1 hlt
   simp only [words13,List.mem_cons,List.not_mem_nil,or_false] at hmem
   rcases hmem with rfl|rfl|rfl|rfl|rfl|rfl|rfl|rfl|rfl|rfl|rfl|rfl|rfl
   · exact h2 (entS ⟨#[114,101,97,100]⟩ 0) (by simp [ES13]) rfl
   · exact h2 (entS ⟨#[115,101,116]⟩ 1) (by simp [ES13]) rfl
   · exact h2 (entS ⟨#[112,117,116]⟩ 2) (by simp [ES13]) rfl
   · exact h2 (entS ⟨#[100,101,108,101,116,101]⟩ 3) (by simp [ES13]) rfl
   · exact h2 (entS ⟨#[115,99,97,110]⟩ 4) (by simp [ES13]) rfl
   · exact h2 (entS ⟨#[108,111,99,107]⟩ 5) (by simp [ES13]) rfl
   · exact h2 (entS ⟨#[114,101,108,101,97,115,101]⟩ 6) (by simp [ES13]) rfl
   · exact h2 (entS ⟨#[105,102]⟩ 7) (by simp [ES13]) rfl
   · exact h2 (entS ⟨#[102,111,114]⟩ 8) (by simp [ES13]) rfl
   · exact h2 (entS ⟨#[108,101,116]⟩ 9) (by simp [ES13]) rfl
   · exact h2 (entS ⟨#[101,109,105,116]⟩ 10) (by simp [ES13]) rfl
   · exact h2 (entS ⟨#[114,111,108,108,98,97,99,107]⟩ 11) (by simp [ES13]) rfl
   · exact h2 (entS ⟨#[99,104,111,112]⟩ 12) (by simp [ES13]) rfl
 · have hj:j<13:=by
    have:=(List.getElem?_eq_some_iff.1 h2).1
    simpa [ES13] using this
   have key:∀j,j<13→∀e,ES13.toList[j]?=some e→e.key=.string s→words13.idxOf s=j∧e.val=.func (.func (fnOf j)) #[] #[]:=by
    intro j hj e h2 h3
    obtain rfl|rfl|rfl|rfl|rfl|rfl|rfl|rfl|rfl|rfl|rfl|rfl|rfl:j=0∨j=1∨j=2∨j=3∨j=4∨j=5∨j=6∨j=7∨j=8∨j=9∨j=10∨j=11∨j=12:=by omega
    all_goals
     simp only [ES13,List.getElem?_cons_succ,List.getElem?_cons_zero,Option.some.injEq] at h2
     subst h2
     obtain rfl:=Value.string.inj h3
     exact ⟨by decide,rfl⟩
   obtain ⟨h4,h5⟩:=key j hj e h2 h3
   refine Or.inr ⟨by omega,0+j,?_⟩
   rw [h1,h5,h4]
theorem look_no (W:World)(rb n:Nat)(s:ByteArray)(hb:W.heap[rb]?=some (.map ES13 n))(hs:¬ words13.idxOf s<13):(Instr.lookup 122 (.map (some rb)) (.string s) true).run Tryz.prog W=.ok (.tuple #[.nilFunc,.bool false]) W:=by
 have hf:Instr.findNow .string (.string s) ES13.toList 0=some none:=by
  rcases es13_find s with ⟨h,_⟩|⟨h,_⟩
  · exact h
  · exact absurd h hs
 have hk:∀b,(Instr.checkKey b 10000 9 (.string s)).run Tryz.prog W=.ok () W:=fun b=>run_checkKey Tryz.underlying9 (by simp [IsKey]) b 9999
 have hz:(zeroValue 192).run Tryz.prog W=.ok .nilFunc W:=by kernel_rfl
 simp only [Instr.lookup,Sem.run_bind,run_underlying Tryz.underlying122,Result.andThen,Go.MapKept.run_getObj_map hb,hk,run_findKey (P:=Tryz.prog) Tryz.underlying9 hf,Sem.run_pure,hz]
 simp
theorem look_yes (W:World)(rb n:Nat)(s:ByteArray)(hb:W.heap[rb]?=some (.map ES13 n))(hs:words13.idxOf s<13):(Instr.lookup 122 (.map (some rb)) (.string s) true).run Tryz.prog W=.ok (.tuple #[.func (.func (fnOf (words13.idxOf s))) #[] #[],.bool true]) W:=by
 obtain ⟨i,hf⟩:∃i,Instr.findNow .string (.string s) ES13.toList 0=some (some (i,.func (.func (fnOf (words13.idxOf s))) #[] #[])):=by
  rcases es13_find s with ⟨_,h⟩|⟨_,h⟩
  · exact absurd hs h
  · exact h
 have hk:∀b,(Instr.checkKey b 10000 9 (.string s)).run Tryz.prog W=.ok () W:=fun b=>run_checkKey Tryz.underlying9 (by simp [IsKey]) b 9999
 simp only [Instr.lookup,Sem.run_bind,run_underlying Tryz.underlying122,Result.andThen,Go.MapKept.run_getObj_map hb,hk,run_findKey (P:=Tryz.prog) Tryz.underlying9 hf,Sem.run_pure]
 simp
theorem insert_str (w:World)(es:Array MapEntry)(n:Nat)(s:ByteArray)(v:Value)(h:Instr.findNow .string (.string s) es.toList 0=some none) :
 (Instr.mapUpdate 122 (.map (some w.heap.size)) (.string s) v).run Tryz.prog (w.alloc (.map es n))=.ok () (w.alloc (.map (es.push { key:=.string s,val:=v,born:=n }) (n+1))):=by
 have hb:(w.alloc (.map es n)).heap[w.heap.size]?=some (.map es n):=by
  show (w.heap.push (.map es n))[w.heap.size]?=_
  simp
 have hk:(Instr.checkKey false 10000 9 (.string s)).run Tryz.prog (w.alloc (.map es n))=.ok () (w.alloc (.map es n)):=run_checkKey Tryz.underlying9 (by simp [IsKey]) false 9999
 have hp:∀(a:Array Obj) (x y:Obj),(a.push x).setIfInBounds a.size y=a.push y:=fun a x y=>by
  apply Array.ext_getElem?
  intro i
  by_cases h:i=a.size
  · subst h;simp
  · have h':¬ a.size=i:=fun e=>h e.symm
    simp [Array.getElem?_push,h,h']
 have hw:∀o:Obj,({ w.alloc (.map es n) with heap:=(w.alloc (.map es n)).heap.setIfInBounds w.heap.size o }:World)=w.alloc o:=fun o=>by
  show ({ w with heap:=(w.heap.push (.map es n)).setIfInBounds w.heap.size o }:World)=_
  rw [hp]
  rfl
 simp only [Instr.mapUpdate,Sem.run_bind,run_underlying Tryz.underlying122,Result.andThen,Go.MapKept.run_getObj_map hb,hk,run_findKey (P:=Tryz.prog) Tryz.underlying9 h,run_setObj_map _ hb,hw]
def EE (k:Nat):Array MapEntry:=(ES13.toList.take k).toArray
theorem statements_at (w:World):Calls Tryz.prog 72 #[] w fun e w'=>e=.returned (.map (some w.heap.size))∧w'=w.alloc (.map ES13 13):=by
 have hmm:=@run_makeMap Tryz.prog
 have i0:(Instr.mapUpdate 122 (.map (some w.heap.size)) (.string ⟨#[114,101,97,100]⟩) (.func (.func 116) #[] #[])).run Tryz.prog (w.alloc (.map #[] 0))=.ok () (w.alloc (.map (EE 1) 1)):=insert_str w #[] 0 _ _ rfl
 have i1:(Instr.mapUpdate 122 (.map (some w.heap.size)) (.string ⟨#[115,101,116]⟩) (.func (.func 117) #[] #[])).run Tryz.prog (w.alloc (.map (EE 1) 1))=.ok () (w.alloc (.map (EE 2) 2)):=insert_str w (EE 1) 1 _ _ rfl
 have i2:(Instr.mapUpdate 122 (.map (some w.heap.size)) (.string ⟨#[112,117,116]⟩) (.func (.func 118) #[] #[])).run Tryz.prog (w.alloc (.map (EE 2) 2))=.ok () (w.alloc (.map (EE 3) 3)):=insert_str w (EE 2) 2 _ _ rfl
 have i3:(Instr.mapUpdate 122 (.map (some w.heap.size)) (.string ⟨#[100,101,108,101,116,101]⟩) (.func (.func 119) #[] #[])).run Tryz.prog (w.alloc (.map (EE 3) 3))=.ok () (w.alloc (.map (EE 4) 4)):=insert_str w (EE 3) 3 _ _ rfl
 have i4:(Instr.mapUpdate 122 (.map (some w.heap.size)) (.string ⟨#[115,99,97,110]⟩) (.func (.func 120) #[] #[])).run Tryz.prog (w.alloc (.map (EE 4) 4))=.ok () (w.alloc (.map (EE 5) 5)):=insert_str w (EE 4) 4 _ _ rfl
 have i5:(Instr.mapUpdate 122 (.map (some w.heap.size)) (.string ⟨#[108,111,99,107]⟩) (.func (.func 121) #[] #[])).run Tryz.prog (w.alloc (.map (EE 5) 5))=.ok () (w.alloc (.map (EE 6) 6)):=insert_str w (EE 5) 5 _ _ rfl
 have i6:(Instr.mapUpdate 122 (.map (some w.heap.size)) (.string ⟨#[114,101,108,101,97,115,101]⟩) (.func (.func 122) #[] #[])).run Tryz.prog (w.alloc (.map (EE 6) 6))=.ok () (w.alloc (.map (EE 7) 7)):=insert_str w (EE 6) 6 _ _ rfl
 have i7:(Instr.mapUpdate 122 (.map (some w.heap.size)) (.string ⟨#[105,102]⟩) (.func (.func 123) #[] #[])).run Tryz.prog (w.alloc (.map (EE 7) 7))=.ok () (w.alloc (.map (EE 8) 8)):=insert_str w (EE 7) 7 _ _ rfl
 have i8:(Instr.mapUpdate 122 (.map (some w.heap.size)) (.string ⟨#[102,111,114]⟩) (.func (.func 124) #[] #[])).run Tryz.prog (w.alloc (.map (EE 8) 8))=.ok () (w.alloc (.map (EE 9) 9)):=insert_str w (EE 8) 8 _ _ rfl
 have i9:(Instr.mapUpdate 122 (.map (some w.heap.size)) (.string ⟨#[108,101,116]⟩) (.func (.func 125) #[] #[])).run Tryz.prog (w.alloc (.map (EE 9) 9))=.ok () (w.alloc (.map (EE 10) 10)):=insert_str w (EE 9) 9 _ _ rfl
 have i10:(Instr.mapUpdate 122 (.map (some w.heap.size)) (.string ⟨#[101,109,105,116]⟩) (.func (.func 126) #[] #[])).run Tryz.prog (w.alloc (.map (EE 10) 10))=.ok () (w.alloc (.map (EE 11) 11)):=insert_str w (EE 10) 10 _ _ rfl
 have i11:(Instr.mapUpdate 122 (.map (some w.heap.size)) (.string ⟨#[114,111,108,108,98,97,99,107]⟩) (.func (.func 127) #[] #[])).run Tryz.prog (w.alloc (.map (EE 11) 11))=.ok () (w.alloc (.map (EE 12) 12)):=insert_str w (EE 11) 11 _ _ rfl
 have i12:(Instr.mapUpdate 122 (.map (some w.heap.size)) (.string ⟨#[99,104,111,112]⟩) (.func (.func 128) #[] #[])).run Tryz.prog (w.alloc (.map (EE 12) 12))=.ok () (w.alloc (.map (EE 13) 13)):=insert_str w (EE 12) 12 _ _ rfl
 go_enter Tryz.func72,Tryz.ntmps72
 go_wp2_with fail
 go_ret
 exact ⟨rfl,rfl⟩
end
section
open Go.RowKit Go.MapKept
def MapAt (E:Env):Prop:=∃rb,E.mp=.map (some rb)∧rb<E.b∧E.W.heap[rb]?=some (.map ES13 13)
section
variable {E:Env}{v:Value}{kvs:List Value}{md:List Nd}{r:Nat}{l:List PT}{w:World}
theorem St.drewN {v0:Value}{kvs0 n:List Value}{md0:List Nd}{w0:World}{ts:List Ast}(h:St E v0 kvs0 md0 w0 ts r l v n w)(m:Nat):St E v0 kvs0 md0 w0 ts r l v n (w.drewN m):=⟨h.ps.grown (grownBy_drewN w m) (fun q e=>by cases e),h.nw,h.fr.grown (grownBy_drewN w m) h.fr.size (fun q e=>by cases e)⟩
theorem Lcl.drewN {q:Nat}{o:Obj}(h:Lcl E v kvs q o w)(m:Nat):Lcl E v kvs q o (w.drewN m):=h.grown (grownBy_drewN w m) (by simp)
theorem mapIn (hm:MapAt E)(h:PS E v kvs md r l w):∃rb,E.mp=.map (some rb)∧w.heap[rb]?=some (.map ES13 13):=by
 obtain ⟨rb,h1,h2,h3⟩:=hm
 exact ⟨rb,h1,by rw [h.below.block rb h2];exact h3⟩
theorem rest_at {B:Par Ast}(j:Nat)(hj:j<13)(h:PS E v kvs md r l w)(p:Nat)(hB:∀v kvs md l w,PS E v kvs md r l w→Calls Tryz.prog 203 #[.pointer (some ⟨E.b,0,none⟩)] w (PostE E (B l) fun a l'=>OkA E v kvs md r w a l'))(hszB:∀c,Sz c B (fun a=>a.size+c))(hroom1:md.length+1+l.length≤70000) :
 Calls Tryz.prog (fnOf j) #[.pointer (some ⟨E.b,0,none⟩),.int .i64 (p:Int)] w (PostE E (restP r B j p l) fun a l'=>OkA E v kvs md r w a l'):=by
 obtain rfl|rfl|rfl|rfl|rfl|rfl|rfl|rfl|rfl|rfl|rfl|rfl|rfl:j=0∨j=1∨j=2∨j=3∨j=4∨j=5∨j=6∨j=7∨j=8∨j=9∨j=10∨j=11∨j=12:=by omega
 · exact read_at h p
 · exact set_at h p
 · exact put_at h p
 · exact delete_at h p
 · exact scan_at h p
 · exact lock_at h p
 · exact release_at h p
 · exact if_at h p hB hszB hroom1
 · exact for_at h p hB hszB hroom1
 · exact let_at h p
 · exact emit_at h p
 · exact rollback_at h p
 · exact chop_at h p
theorem statement_at {B:Par Ast}(hm:MapAt E)(h:PS E v kvs md r l w)(hB:∀v kvs md l w,PS E v kvs md r l w→Calls Tryz.prog 203 #[.pointer (some ⟨E.b,0,none⟩)] w (PostE E (B l) fun a l'=>OkA E v kvs md r w a l'))(hszB:∀c,Sz c B (fun a=>a.size+c)) :
 Calls Tryz.prog 243 #[.pointer (some ⟨E.b,0,none⟩)] w (PostE E (stmtP r B l) fun a l'=>OkA E v kvs md r w a l'):=by
 have RM:=lh h.room
 have S0:=lh (St.start h)
 have HBB:=lh hB
 have C:=lh (peek_at S0.out.ps)
 have hnot:=nt
 clear h hB
 go_enter Tryz.func243,Tryz.ntmps243
 go_wp2_with fail
 (with_reducible refine C.out.mono ?_)
 rintro e w1 ⟨t,l1,sp,hl,rfl,hs,hf⟩
 subst hl
 obtain ⟨S,T⟩:=S0.out.same hs hf
 have S1:=lh (S.alloc (.cells #[.int .u8 t.kind,.int .i64 (t.at':Int),.int .i64 (sp:Int),.string t.txt,.int .i64 t.n] 29))
 have L1:=lh (Lcl.new S.ps (.cells #[.int .u8 t.kind,.int .i64 (t.at':Int),.int .i64 (sp:Int),.string t.txt,.int .i64 t.n] 29))
 obtain ⟨rb,hrb,hmap⟩:=mapIn hm S1.out.ps
 obtain ⟨i,t0,l0,sp0,hl,hl0,hi,hb,_,_,_,_,_⟩:=S1.out.ps.head
 obtain ⟨rfl,rfl⟩:=List.cons.inj hl
 have hfew:=S1.out.ps.few
 have c1:=cell_of_row _ E.b 1 _ _ _ hb
 have c3:=cell_of_row _ E.b 3 _ _ _ hb
 simp only [List.getElem?_toArray,List.getElem?_cons_zero,List.getElem?_cons_succ] at c1 c3
 rw [hrb] at c3
 have z1:=S1.out.ps.fz
 have k0:=L1.out.cell 0 rfl
 have k1:=L1.out.cell 1 rfl
 have k2:=L1.out.cell 2 rfl
 have k3:=L1.out.cell 3 rfl
 have k4:=L1.out.cell 4 rfl
 have HB:=lh hb
 have HL0:=lh hl0
 have hne1:¬ w1.heap.size=E.b:=fun e=>by have:=L1.out.loc.lt;omega
 have hne2:¬ E.b=w1.heap.size:=fun e=>hne1 e.symm
 clear hs hf S T S0 C hl hb hl0
 simp only [tokA]
 by_cases hx:words13.idxOf t.txt<13
 · have HR:Hid (stmtP r B (t::l1)=restP r B (words13.idxOf t.txt) t.at' l1):=lh (by simp only [stmtP,Par.bind,peekP,nextP,if_pos hx])
   have hlk:∀n,(Instr.lookup 122 (.map (some rb)) (.string t.txt) true).run Tryz.prog ((w1.alloc (.cells #[.int .u8 t.kind,.int .i64 (t.at':Int),.int .i64 (sp:Int),.string t.txt,.int .i64 t.n] 29)).drewN n)=.ok (.tuple #[.func (.func (fnOf (words13.idxOf t.txt))) #[] #[],.bool true]) ((w1.alloc (.cells #[.int .u8 t.kind,.int .i64 (t.at':Int),.int .i64 (sp:Int),.string t.txt,.int .i64 t.n] 29)).drewN n):=fun n=>look_yes _ rb 13 t.txt hmap hx
   have hlk0:(Instr.lookup 122 (.map (some rb)) (.string t.txt) true).run Tryz.prog (w1.alloc (.cells #[.int .u8 t.kind,.int .i64 (t.at':Int),.int .i64 (sp:Int),.string t.txt,.int .i64 t.n] 29))=.ok (.tuple #[.func (.func (fnOf (words13.idxOf t.txt))) #[] #[],.bool true]) (w1.alloc (.cells #[.int .u8 t.kind,.int .i64 (t.at':Int),.int .i64 (sp:Int),.string t.txt,.int .i64 t.n] 29)):=look_yes _ rb 13 t.txt hmap hx
   have HJ:=lh hx
   have hne:t.txt≠none0:=fun e=>by rw [e] at hx;revert hx;decide
   have HN:=lh hne
   clear hx hne
   generalize hj:words13.idxOf t.txt=j at *
   have HG:=lh hj
   clear hj
   generalize hfj:fnOf j=fj at *
   have HF:=lh hfj
   clear hfj
   go_wp2_with fail
   go_quiet (fail)
   have S2:=lh (S1.out.drewN nq)
   have S3:=lh (S2.out.next (Or.inr HN.out) HL0.out HB.out)
   have C:=rest_at j HJ.out S3.out.ps t.at' HBB.out hszB (by have h9:=RM.out;simp only [postL,List.append_nil];rw [List.length_cons] at h9;omega)
   rw [HF.out] at C
   have C:=lh C
   clear hlk hlk0 HBB
   have hj13:j=0∨j=1∨j=2∨j=3∨j=4∨j=5∨j=6∨j=7∨j=8∨j=9∨j=10∨j=11∨j=12:=by have:=HJ.out;omega
   obtain rfl|rfl|rfl|rfl|rfl|rfl|rfl|rfl|rfl|rfl|rfl|rfl|rfl:=hj13
   all_goals
    have e9:=HF.out
    simp only [fnOf] at e9
    subst e9
    clear HF
    go_wp2_with fail
    (with_reducible refine C.out.mono ?_)
    rintro e wf hP
    have hP:=PostE.lift S3.out hP
    rw [← HR.out] at hP
    have hfin:=lh hP
    rcases post_form hP with ⟨z,rfl⟩|⟨ch,rfl⟩
    · clear hP HR C
      go_wp2
      go_ret
      exact hfin.out
    · clear hP HR C
      go_wp2
      exact ⟨rfl,hfin.out⟩
 · have HR:Hid (stmtP r B (t::l1)=.err t.at' 50):=lh (by simp only [stmtP,Par.bind,peekP,failP,if_neg hx])
   have hlk:∀n,(Instr.lookup 122 (.map (some rb)) (.string t.txt) true).run Tryz.prog ((w1.alloc (.cells #[.int .u8 t.kind,.int .i64 (t.at':Int),.int .i64 (sp:Int),.string t.txt,.int .i64 t.n] 29)).drewN n)=.ok (.tuple #[.nilFunc,.bool false]) ((w1.alloc (.cells #[.int .u8 t.kind,.int .i64 (t.at':Int),.int .i64 (sp:Int),.string t.txt,.int .i64 t.n] 29)).drewN n):=fun n=>look_no _ rb 13 t.txt hmap hx
   have hlk0:(Instr.lookup 122 (.map (some rb)) (.string t.txt) true).run Tryz.prog (w1.alloc (.cells #[.int .u8 t.kind,.int .i64 (t.at':Int),.int .i64 (sp:Int),.string t.txt,.int .i64 t.n] 29))=.ok (.tuple #[.nilFunc,.bool false]) (w1.alloc (.cells #[.int .u8 t.kind,.int .i64 (t.at':Int),.int .i64 (sp:Int),.string t.txt,.int .i64 t.n] 29)):=look_no _ rb 13 t.txt hmap hx
   clear hx
   go_wp2_with fail
   go_quiet (fail)
   have S2:=lh (S1.out.drewN nq)
   have RF:=lh (refused_at S2.out.ps 50)
   go_wp2_with fail
   (with_reducible refine RF.out.mono ?_)
   rintro e w3 ⟨t3,l3,hl,rfl,hb⟩
   obtain ⟨rfl,rfl⟩:=List.cons.inj hl
   have HB:=lh hb
   clear RF hb
   go_wp2
   exact ⟨rfl,of_err HR.out HB.out⟩
theorem blockR_at (hm:MapAt E)(r:Nat):∀(v:Value) (kvs:List Value) (md:List Nd) (l:List PT) (w:World),PS E v kvs md r l w→Calls Tryz.prog 203 #[.pointer (some ⟨E.b,0,none⟩)] w (PostE E (blockP r l) fun a l'=>OkA E v kvs md r w a l'):=by
 induction r with
 | zero=>exact fun v kvs md l w h=>block_at (st:=failP) h (fun h0=>absurd h0 (by omega)) takes_fail (fun _=>Sz.fail)
 | succ r ih=>exact fun v kvs md l w h=>block_at (st:=stmtP r (blockP r)) h (fun _ v kvs md l w hp=>statement_at hm hp ih (sz_block r)) (takes_stmt r (less_block r)) (sz_stmt r (sz_block r))
end
end
namespace Tr
open Go.RowKit
theorem infoI:(Tryz.prog.info? 3).map (fun i=>(i.zero,i.size,i.bytes))=some (some (.int .i64 0),1,8):=by kernel_rfl
theorem make_int (W:World)(n:Nat)(hn:n≤70000):∃W',(Instr.makeSlice 32 (.int .i64 (n:Int)) (.int .i64 (n:Int))).run Tryz.prog W=.ok (.slice (some ⟨W.heap.size,0,none⟩) n n) W'∧Below W.heap.size W W'∧W'.ownsRow W.heap.size 3 1 (.slice (some ⟨W.heap.size,0,none⟩) n n) n (List.replicate n (.int .i64 0)):=by
 obtain ⟨i0,hi,hz0,hz1,hz2⟩:=info_parts infoI
 obtain ⟨W',h1,h2,h3⟩:=run_makeSlice_full (P:=Tryz.prog) W W.heap.size 32 3 i0 (.int .i64 0) 1 Tryz.underlying32 hi hz0 hz1 .i64 .i64 n (by omega) (by rw [hz2];omega) (by unfold maxLen;omega) (Nat.le_refl _)
 refine ⟨W',h1,⟨h3.os,h3.tape,h3.output,h3.size,fun k hk=>h3.block k hk (by simp)⟩,?_⟩
 have e:(madeCells (Value.int .i64 0).cells (n*1)).toList=List.replicate n (.int .i64 0):=by
  rw [Nat.mul_one]
  exact toList_madeCells_one _ _
 rw [e] at h2
 exact h2
theorem stepS_le (s:List Nat)(b n:Nat)(_hn:b+s.length≤n)(hs:∀x,x<s.length→b+x+s.getD x 0≤n)(ks:List Int)(a e:Nat)(hba:b≤a)(ha:a≤n)(h:stepS s b ks a=some e):a≤e∧e≤n:=by
 induction ks generalizing a with
 | nil=>simp [stepS] at h;omega
 | cons k ks ih =>
  simp only [stepS] at h
  split at h
  · rename_i hk
    have h1:=hs (a-b) (by omega)
    have:=ih (a+s.getD (a-b) 0) (by omega) (by omega) h
    omega
  · simp at h
theorem sizesL_le:∀(rows:List (List Int)) (b:Nat) (s:List Nat),sizesL rows b=some s→∀x,x<s.length→b+x+s.getD x 0≤b+rows.length:=by
 intro rows
 induction rows with
 | nil=>intro b s h x hx;simp [sizesL] at h;subst h;simp at hx
 | cons r rs ih =>
  intro b s h x hx
  simp only [sizesL] at h
  split at h
  · simp at h
  · rename_i s1 h1
    have hl:=sizesL_len _ _ _ h1
    have h2:=ih _ _ h1
    split at h
    · simp at h
    · rename_i e h3
      simp at h;subst h
      cases x with
      | zero =>
       have:=stepS_le s1 (b+1) (b+1+rs.length) (by omega) h2 r (b+1) e (Nat.le_refl _) (by omega) h3
       simp;omega
      | succ x =>
       have:=h2 x (by simpa using hx)
       simp only [List.getD_cons_succ,List.length_cons]
       omega
theorem sizesL_none:∀(rows:List (List Int)) (b m:Nat),sizesL (rows.drop m) (b+m)=none→m≤rows.length→sizesL rows b=none:=by
 intro rows b m
 induction m generalizing rows b with
 | zero=>intro h _;simpa using h
 | succ m ih =>
  intro h hm
  cases rows with
  | nil=>simp at hm
  | cons r rs =>
   simp only [List.drop_succ_cons] at h
   have:=ih rs (b+1) (by rw [show b+1+m=b+(m+1) by omega];exact h) (by simpa using hm)
   simp only [sizesL,this]
def SizesOut (ns:List Nd)(W:World)(v:Value):Prop:=match sizesP ns with
 | none=>v=.slice none 0 0
 | some s=>∃g,v=.slice (some ⟨g,0,none⟩) ns.length ns.length∧∀i,i<ns.length→W.cell? ⟨g,i,none⟩=some (.int .i64 ((s.getD i 0:Nat):Int))
theorem SizesOut.none {ns:List Nd}{W:World}(h:sizesP ns=none):SizesOut ns W (.slice none 0 0):=by unfold SizesOut;rw [h]
theorem drop_row (ns:List Nd)(q:Nat)(h:q<ns.length):(rowsOf ns).drop q=(ns.getD q default).kids::(rowsOf ns).drop (q+1):=by
 have hl:q<(rowsOf ns).length:=by rw [rowsOf_length];exact h
 rw [List.drop_eq_getElem_cons hl]
 simp [rowsOf,List.getD,h]
theorem sizes_at (w:World)(p:Option Addr)(len c:Nat)(ns:List Nd)(h:TV w p len c ns)(hl:len≤70000)(hk:∀nd∈ns,nd.kids.length≤70000) :
 Calls Tryz.prog 68 #[.agg #[.slice p len c]] w fun e w'=>(∃v,e=.returned v∧SizesOut ns w' v)∧Below w.heap.size w w':=by
 have H:=lh h
 have HK:=lh hk
 have hlen:=lh h.len_eq
 clear h hk
 have B0:=lh (one_below w (.cells #[.slice p len c] 39))
 obtain ⟨w1,hmk,hb1,hown⟩:=make_int (w.alloc (.cells #[.slice p len c] 39)) len (by omega)
 have hG:(w.alloc (.cells #[.slice p len c] 39)).heap.size=w.heap.size+1:=by simp
 rw [hG] at hmk hb1 hown
 have B1:=lh hb1
 have c0:w1.cell? ⟨w.heap.size,0,none⟩=some (.slice p len c):=by rw [hb1.cell (by simp)];simp
 have HO0:=lh hown
 clear hb1 hown hG
 have hw1:IntKind.i64.wrap ((len:Int)-1)=(len:Int)-1:=IntWalk.i64_in _ (by omega)
 go_enter Tryz.func68,Tryz.ntmps68
 go_wp2_with fail
 clear hmk
 go_loopw [4] (fun iv wr=>∃(m:Nat) (s:List Nat) (L:List Value),m≤len∧iv=.int .i64 ((m:Int)-1)∧Hid (sizesL ((rowsOf ns).drop m) m=some s)∧Hid (wr.ownsRow (w.heap.size+1) 3 1 (.slice (some ⟨w.heap.size+1,0,none⟩) len len) len L)∧Hid (∀j,m≤j→j<len→L[j]?=some (.int .i64 ((s.getD (j-m) 0:Nat):Int)))∧Hid (Below (w.heap.size+1) (w.alloc (.cells #[.slice p len c] 39)) wr)) (fun iv _=>(intOf iv+1).toNat)
 case atStart=>exact ⟨len,[],_,by omega,rfl,lh (by rw [List.drop_eq_nil_of_le (by rw [rowsOf_length,hlen.out];omega)];rfl),HO0,lh (fun j h1 h2=>by omega),B1⟩
 case round =>
  obtain ⟨m,s,L,hml,rfl,HS,HO,HL,HB⟩:=hrel
  have c0:wr.cell? ⟨w.heap.size,0,none⟩=some (.slice p len c):=by rw [HB.out.cell (by simp)];simp
  have HBW:=lh (B0.out.trans (HB.out.mono (by omega)))
  by_cases hm:m=0
  · subst hm
    clear hw1
    have HS0:Hid (sizesL (rowsOf ns) 0=some s):=lh (by simpa using HS.out)
    have HSL:Hid (s.length=len):=lh (by have:=sizesL_len _ _ _ HS0.out;rw [rowsOf_length,hlen.out] at this;exact this)
    by_cases hl0:len=0
    · have HNO:Hid (sizesP ns=none):=lh (by
       unfold sizesP
       rw [HS0.out]
       simp only
       rw [if_neg (fun hc=>hc.1 (by rw [HSL.out,hl0]))])
      have d0:((len:Int)==0)=true:=by simp [hl0]
      clear hl0
      go_wp2
      go_ret
      exact ⟨⟨_,rfl,SizesOut.none HNO.out⟩,HBW.out⟩
    · have d0:((len:Int)==0)=false:=by simp;omega
      have p0:0<len:=by omega
      have p1:(0:Int)<(len:Int):=by omega
      have hc0:=HO.out.cellAt 0 (by omega)
      rw [HL.out 0 (by omega) (by omega)] at hc0
      simp only [Nat.sub_zero] at hc0
      obtain ⟨z0,hz0⟩:∃z,s.getD 0 0=z:=⟨_,rfl⟩
      rw [hz0] at hc0
      have HZ0:=lh hz0
      clear hz0
      by_cases hz:z0=len
      · have HYES:Hid (sizesP ns=some s):=lh (by
         unfold sizesP
         rw [HS0.out]
         simp only
         rw [if_pos ⟨by rw [HSL.out];exact hl0,by rw [HZ0.out,hz,HSL.out]⟩])
        have d1:((z0:Int) != (len:Int))=false:=by simp [hz]
        clear hl0 hz
        go_wp2
        go_ret
        refine ⟨⟨.slice (some ⟨w.heap.size+1,0,none⟩) len len,rfl,?_⟩,HBW.out⟩
        unfold SizesOut
        rw [HYES.out]
        refine ⟨w.heap.size+1,by rw [hlen.out],fun i hi=>?_⟩
        rw [hlen.out] at hi
        rw [HO.out.cellAt i (by omega),HL.out i (by omega) hi,Nat.sub_zero]
      · have HNO:Hid (sizesP ns=none):=lh (by
         unfold sizesP
         rw [HS0.out]
         simp only
         rw [if_neg (fun hc=>hz (by rw [← HZ0.out,hc.2,HSL.out]))])
        have d1:((z0:Int) != (len:Int))=true:=by simp;omega
        clear hl0 hz
        go_wp2
        go_ret
        exact ⟨⟨_,rfl,SizesOut.none HNO.out⟩,HBW.out⟩
  · obtain ⟨q,rfl⟩:∃q,m=q+1:=⟨m-1,by omega⟩
    have hq:((q+1:Nat):Int)-1=(q:Int):=by omega
    rw [hq]
    have hql:q<len:=by omega
    obtain ⟨b,off,rfl,hbl,hc⟩:=H.out.node (by omega)
    obtain ⟨kp,kl,kc,hnw⟩:=hc q hql
    have k4:=(hnw.on hbl HBW.out).kids
    have HIV:=lh (hnw.iv.on HBW.out)
    have hkl:=hnw.iv.len_eq
    have hix:q<ns.length:=by have:=hlen.out;omega
    have HD:=lh (drop_row ns q hix)
    have hkb:=HK.out (ns.getD q default) (by simp [List.getD,hix])
    generalize (ns.getD q default).kids=ks at *
    have hkl2:kl≤70000:=by omega
    have HKL:=lh hkl
    clear hnw hc hkl hkb hix hq hw1
    go_wp2_with fail
    obtain ⟨wo,rfl⟩:∃wo:World,wo=wr:=⟨_,rfl⟩
    have HSL:=lh (sizesL_len _ _ _ HS.out)
    have HLE:=lh (sizesL_le _ _ _ HS.out)
    have hsl:s.length=len-(q+1):=by have:=HSL.out;rw [List.length_drop,rowsOf_length,hlen.out] at this;exact this
    have hrl:((rowsOf ns).drop (q+1)).length=len-(q+1):=by rw [List.length_drop,rowsOf_length,hlen.out]
    have HSL2:=lh hsl
    have HRL:=lh hrl
    clear hsl hrl
    have hsize:=HB.out.size
    go_loopw [5,29] (fun av jv wq=>∃j a:Nat,j≤kl∧q<a∧a≤len∧av=.int .i64 a∧jv=.int .i64 j∧Hid (stepS s (q+1) (ks.drop j) a=stepS s (q+1) ks (q+1))∧wq=wo) (fun _ jv _=>kl-(intOf jv).toNat)
    case atStart=>exact ⟨0,q+1,by omega,by omega,by omega,by go_num,rfl,lh rfl,rfl⟩
    case round =>
     obtain ⟨j,a,hj,haq,hal,rfl,rfl,HST,rfl⟩:=hrel
     by_cases hjl:j<kl
     · obtain ⟨kb,koff,rfl,hkbl,hkc⟩:=HIV.out.cell (by omega)
       have hkj:=hkc j hjl
       have HDR:Hid (ks.drop j=ks.getD j 0::ks.drop (j+1)):=lh (by
        have hjx:j<ks.length:=by have:=HKL.out;omega
        rw [List.drop_eq_getElem_cons hjx]
        simp [List.getD,hjx])
       generalize ks.getD j 0=kid at *
       clear hkc hkbl
       have BAD:∀(hne:¬ (kid=(a:Int)∧a<len)),Hid (sizesP ns=none):=fun hne=>lh (by
        have h1:stepS s (q+1) (ks.drop j) a=none:=by
         rw [HDR.out]
         simp only [stepS]
         rw [if_neg (fun hc=>hne ⟨hc.1,by have:=HSL2.out;omega⟩)]
        rw [HST.out] at h1
        have h2:sizesL ((rowsOf ns).drop q) q=none:=by
         rw [HD.out]
         simp only [sizesL,HS.out,h1]
        have h3:=sizesL_none (rowsOf ns) 0 q (by rw [Nat.zero_add];exact h2) (by rw [rowsOf_length,hlen.out];omega)
        unfold sizesP
        rw [h3])
       by_cases hka:kid=(a:Int)
       · subst hka
         have d1:((a:Int) != (a:Int))=false:=by simp
         by_cases hal2:a<len
         · have d2:decide ((a:Int)≥(len:Int))=false:=by simp;omega
           have hla:=HL.out a (by omega) hal2
           have hcell:=HO.out.cellAt a (by omega)
           rw [hla] at hcell
           have HBD:=lh (HLE.out (a-(q+1)) (by have:=HSL2.out;omega))
           have HNX:Hid (stepS s (q+1) (ks.drop (j+1)) (a+s.getD (a-(q+1)) 0)=stepS s (q+1) ks (q+1)):=lh (by
            rw [← HST.out,HDR.out]
            simp only [stepS]
            rw [if_pos ⟨trivial,by have:=HSL2.out;omega⟩])
           have hb2:a+s.getD (a-(q+1)) 0≤len:=by have:=HBD.out;have:=HRL.out;omega
           generalize s.getD (a-(q+1)) 0=z at *
           have hw:IntKind.i64.wrap ((a:Int)+(z:Int))=(a:Int)+(z:Int):=IntWalk.i64_in _ (by omega)
           clear hla BAD HBD
           go_wp2_with fail
           go_roundw
           case rel=>exact ⟨j+1,a+z,by omega,by omega,hb2,by go_num,by go_num,HNX,trivial⟩
           case measure=>simp [intOf];omega
         · have d2:decide ((a:Int)≥(len:Int))=true:=by simp;omega
           have HNO:=BAD (fun hc=>hal2 hc.2)
           clear BAD
           go_wp2
           go_ret
           exact ⟨⟨_,rfl,SizesOut.none HNO.out⟩,HBW.out⟩
       · have d1:(kid != (a:Int))=true:=by simpa using hka
         have HNO:=BAD (fun hc=>hka hc.1)
         clear BAD hka
         go_wp2
         go_ret
         exact ⟨⟨_,rfl,SizesOut.none HNO.out⟩,HBW.out⟩
     · have HEND:Hid (stepS s (q+1) ks (q+1)=some a):=lh (by
        have:=HST.out
        rw [List.drop_eq_nil_of_le (by have:=HKL.out;omega)] at this
        simpa [stepS] using this.symm)
       have HS2:Hid (sizesL ((rowsOf ns).drop q) q=some ((a-q)::s)):=lh (by
        rw [HD.out]
        simp only [sizesL,HS.out,HEND.out])
       have hcell:=HO.out.cellAt q (by omega)
       obtain ⟨v0,hv0⟩:∃v,L[q]?=some v:=⟨L[q]'(by have:=HO.out.1;omega),List.getElem?_eq_getElem _⟩
       rw [hv0] at hcell
       have hfz:=HO.out.frozenAt q
       have hw:IntKind.i64.wrap ((a:Int)-(q:Int))=(a:Int)-(q:Int):=IntWalk.i64_in _ (by omega)
       have hw2:IntKind.i64.wrap ((q:Int)-1)=(q:Int)-1:=IntWalk.i64_in _ (by omega)
       have HO3:=lh (HO.out.stored q (.int .i64 ((a:Int)-(q:Int)))).1
       have HB3:=lh (HB.out.setCell (p:=⟨w.heap.size+1,q,none⟩) (Nat.le_refl _) (.int .i64 ((a:Int)-(q:Int))))
       have hll:L.length=len:=by have:=HO.out.1;omega
       have HL3:Hid (∀j,q≤j→j<len→(L.set q (.int .i64 ((a:Int)-(q:Int))))[j]?=some (.int .i64 ((((a-q)::s).getD (j-q) 0:Nat):Int))):=lh (by
        intro j h1 h2
        by_cases hjq:j=q
        · subst hjq
          rw [List.getElem?_set_self (by omega)]
          simp;try omega
        · rw [List.getElem?_set_ne (by omega),HL.out j (by omega) h2]
          have e:j-q=(j-(q+1))+1:=by omega
          rw [e,List.getD_cons_succ])
       clear hll hv0
       go_wp2_with fail
       go_roundw
       case rel=>exact ⟨q,(a-q)::s,_,by omega,by go_num,HS2,HO3,HL3,HB3⟩
       case measure=>(simp [intOf];try omega)
end Tr
namespace Tr
open Go.RowKit
structure SmallT (ns:List Nd):Prop where
 len:ns.length≤70000
 each:∀nd∈ns,nd.kids.length≤70000∧nd.text.size≤70000
theorem kids_in {ns:List Nd}{s:List Nat}(hs:sizesP ns=some s):∀nd∈ns,∀k∈nd.kids,0≤k∧k<ns.length:=by
 intro nd hm k hk
 obtain ⟨i,hi⟩:=List.mem_iff_getElem?.1 hm
 obtain ⟨hil,_⟩:=List.getElem?_eq_some_iff.1 hi
 have h:=(sizesP_some hs).right
 have hk2:k∈kidsAt ns i:=by unfold kidsAt;rw [List.getD,hi];exact hk
 obtain ⟨j,e1,e2,e3,e4⟩:=h.kid hil hk2
 omega
theorem neq_nil (W:World):(binOp .neq 32 (.slice none 0 0) (.slice none 0 0)).run Tryz.prog W=.ok (.bool false) W:=by kernel_rfl
theorem neq_some (g n c:Nat)(W:World):(binOp .neq 32 (.slice (some ⟨g,0,none⟩) n c) (.slice none 0 0)).run Tryz.prog W=.ok (.bool true) W:=by kernel_rfl
theorem right_at (w:World)(p:Option Addr)(len c:Nat)(ns:List Nd)(h:TV w p len c ns)(hS:SmallT ns) :
 Calls Tryz.prog 29 #[.agg #[.slice p len c]] w fun e w'=>e=.returned (.bool (rightP ns))∧Below w.heap.size w w':=by
 have hlen:=lh h.len_eq
 have H:=lh h
 have HS:=lh hS
 have B0:=lh (one_below w (.cells #[.slice p len c] 39))
 have HZ:=lh (sizes_at (w.alloc (.cells #[.slice p len c] 39)) p len c ns (h.on B0.out) (by rw [← h.len_eq];exact hS.len) (fun nd hm=>(hS.each nd hm).1))
 clear h hS
 go_enter Tryz.func29,Tryz.ntmps29
 go_wp2_with fail
 (with_reducible refine HZ.out.mono ?_)
 rintro e w1 ⟨⟨v,rfl,hv⟩,hb1⟩
 have B1:=lh (B0.out.trans (hb1.mono (by simp)))
 have c0:w1.cell? ⟨w.heap.size,0,none⟩=some (.slice p len c):=by rw [hb1.cell (by simp)];simp
 clear hb1 HZ
 unfold SizesOut at hv
 cases hs:sizesP ns with
 | none =>
  rw [hs] at hv
  simp only at hv
  subst hv
  have HP:Hid (rightP ns=false):=lh (by unfold rightP;rw [hs])
  have hne:=neq_nil
  clear hs
  go_wp2
  go_ret
  exact ⟨retB HP.out.symm,B1.out⟩
 | some s =>
  rw [hs] at hv
  simp only at hv
  obtain ⟨g,rfl,_⟩:=hv
  have hne:=neq_some g ns.length ns.length
  have hpos:0<len:=by have:=(sizesP_some hs).pos;have:=hlen.out;omega
  have hposI:(0:Int)<(len:Int):=by omega
  have HP:Hid (rightP ns=(kindAt ns 0==1&&ruledP ns)):=lh (by unfold rightP;rw [hs])
  have HRU:=lh (ruled_at w1 p len c ns (H.out.on B1.out) (by rw [← hlen.out];exact HS.out.len) (fun nd hm=>⟨(HS.out.each nd hm).1,(HS.out.each nd hm).2,by rw [← hlen.out];exact kids_in hs nd hm⟩))
  obtain ⟨b,off,rfl,hbl,hc⟩:=(H.out.on B1.out).node hpos
  obtain ⟨kp,kl,kc,hn⟩:=hc 0 hpos
  have k0:w1.cell? ⟨b,off,none⟩=some (.int .u8 (kindAt ns 0)):=by have:=hn.kind;simpa [kindAt] using this
  generalize kindAt ns 0=k at *
  clear hs hn hc
  by_cases h1:k=1
  · have d1:(k==1)=true:=by simpa using h1
    have D1:=lh d1
    subst h1
    go_wp2_with fail
    (with_reducible refine HRU.out.mono ?_)
    rintro e w2 ⟨rfl,hb2⟩
    have B2:=lh (B1.out.trans (hb2.mono B1.out.size))
    clear hb2 HRU
    go_wp2
    go_ret
    exact ⟨retB (by rw [HP.out];simp),B2.out⟩
  · have d1:(k==1)=false:=by simpa using h1
    go_wp2
    go_ret
    exact ⟨retB (by rw [HP.out,d1];rfl),B1.out⟩
end Tr
namespace Tr
open Go.RowKit
def isDeepB (p k:Int):Bool:=k==6||(k==20||(isExprK k&&isExprK p))
theorem own_deep (ns:List Nd)(i j:Nat):ownK ns i j=if isDeepB (kindAt ns i) (kindAt ns j)=true then 1 else 0:=by
 unfold ownK isDeepB
 simp only [Bool.or_eq_true,beq_iff_eq,Bool.and_eq_true]
structure DI (ns:List Nd)(i jj m:Nat)(F:Nat→Nat):Prop where
 zero:F 0=0
 old:∀x,x<i→∀j:Nat,(j:Int)∈kidsAt ns x→F j=F x+ownK ns x j
 now:∀j:Nat,(j:Int)∈(kidsAt ns i).take jj→F j=F i+ownK ns i j
 most:m=max (deepest F (kidsAt ns) 0 i) (maxL (fun k=>F k.toNat) ((kidsAt ns i).take jj))
 le:∀j,j<ns.length→F j≤j
theorem maxL_congr (f g:Int→Nat)(l:List Int)(h:∀k∈l,f k=g k):maxL f l=maxL g l:=by
 induction l with
 | nil=>rfl
 | cons k l ih=>rw [maxL_cons,maxL_cons,h k (by simp),ih (fun k hk=>h k (by simp [hk]))]
theorem maxL_snoc (f:Int→Nat)(l:List Int)(k:Int):maxL f (l++[k])=max (maxL f l) (f k):=by
 unfold maxL
 rw [List.foldl_append]
 rfl
theorem deepest_congr (F G:Nat→Nat)(K:Nat→List Int)(a d:Nat)(h:∀x,x<d→∀k∈K (a+x),F k.toNat=G k.toNat):deepest F K a d=deepest G K a d:=by
 induction d with
 | zero=>rfl
 | succ d ih =>
  simp only [deepest]
  rw [ih (fun x hx=>h x (by omega)),maxL_congr _ (fun k=>G k.toNat) _ (h d (by omega))]
theorem DI.start (ns:List Nd):DI ns 0 0 0 (fun _=>0) where
 zero:=rfl
 old:=fun x hx=>absurd hx (by omega)
 now:=fun j hj=>by simp at hj
 most:=by simp [deepest,maxL]
 le:=fun _ _=>Nat.zero_le _
theorem DI.turn {ns:List Nd}{i jj m:Nat}{F:Nat→Nat}(h:DI ns i jj m F)(hj:(kidsAt ns i).length≤jj):DI ns (i+1) 0 m F where
 zero:=h.zero
 old:=fun x hx j hk=>by
  by_cases e:x=i
  · subst e
    exact h.now j (by rw [List.take_of_length_le hj];exact hk)
  · exact h.old x (by omega) j hk
 now:=fun j hj=>by simp at hj
 most:=by
  rw [h.most,List.take_of_length_le hj]
  simp [deepest,maxL]
 le:=h.le
theorem DI.step {ns:List Nd}{s:List Nat}(hs:SizesOk ns s){i jj m:Nat}{F:Nat→Nat}(h:DI ns i jj m F)(hi:i<ns.length)(hjj:jj<(kidsAt ns i).length)(q:Nat)(hq:(kidsAt ns i).getD jj 0=(q:Int)) :
 i<q∧q<ns.length∧DI ns i (jj+1) (max m (F i+ownK ns i q)) (fun x=>if x=q then F i+ownK ns i q else F x):=by
 have hmem:(q:Int)∈kidsAt ns i:=by rw [← hq];simp [List.getD,hjj]
 obtain ⟨q',e1,e2,_,e4⟩:=hs.right.kid hi hmem
 have hqq:q=q':=by omega
 subst hqq
 have hne:∀x,x<i→∀k∈kidsAt ns x,k.toNat≠q:=by
  intro x hx k hk hkq
  obtain ⟨j,f1,_,_,f4⟩:=hs.right.kid (by omega) hk
  have:k=(q:Int):=by omega
  rw [this] at hk
  have:=hs.right.one hs.whole (by omega) hi hk hmem
  omega
 have htk:(kidsAt ns i).take (jj+1)=(kidsAt ns i).take jj++[(q:Int)]:=by
  rw [List.take_succ_eq_append_getElem hjj,← hq]
  simp [List.getD,hjj]
 have hkk:∀k∈(kidsAt ns i).take jj,(if k.toNat=q then F i+ownK ns i q else F k.toNat)=F k.toNat:=by
  intro k hk
  by_cases e:k.toNat=q
  · rw [if_pos e]
    obtain ⟨j,f1,_,_,_⟩:=hs.right.kid hi (List.mem_of_mem_take hk)
    have:k=(q:Int):=by omega
    rw [this] at hk
    rw [e,h.now q hk]
  · rw [if_neg e]
 refine ⟨e2,e4,?_,?_,?_,?_,?_⟩
 · show (if 0=q then _ else F 0)=0
   rw [if_neg (by omega)];exact h.zero
 · intro x hx j hk
   have h1:=hne x hx j hk
   rw [Int.toNat_natCast] at h1
   show (if j=q then _ else F j)=(if x=q then _ else F x)+_
   rw [if_neg h1,if_neg (by omega)]
   exact h.old x hx j hk
 · intro j hj
   show (if j=q then _ else F j)=(if i=q then _ else F i)+_
   rw [if_neg (show i≠q by omega)]
   by_cases e:j=q
   · rw [if_pos e,e]
   · rw [if_neg e]
     rw [htk,List.mem_append,List.mem_singleton] at hj
     rcases hj with hj|hj
     · exact h.now j hj
     · omega
 · rw [htk,maxL_snoc,Int.toNat_natCast,if_pos rfl]
   have h1:deepest (fun x=>if x=q then F i+ownK ns i q else F x) (kidsAt ns) 0 i=deepest F (kidsAt ns) 0 i:=deepest_congr _ _ _ _ _ (fun x hx k hk=>by
    rw [Nat.zero_add] at hk
    rw [if_neg (hne x hx k hk)])
   rw [h1,maxL_congr _ (fun k=>F k.toNat) _ hkk,h.most]
   omega
 · intro j hj
   show (if j=q then _ else F j)≤j
   by_cases e:j=q
   · rw [if_pos e]
     have:=h.le i hi
     have h2:ownK ns i q≤1:=by unfold ownK;split<;>omega
     omega
   · rw [if_neg e];exact h.le j hj
theorem DI.done {ns:List Nd}{s:List Nat}(hs:SizesOk ns s){m:Nat}{F:Nat→Nat}(h:DI ns ns.length 0 m F):m=deepK (ownK ns) (kidsAt ns) ns.length 0:=by
 have h1:=hs.right.deep (ownK ns) F (fun i hi j hj=>h.old i hi j hj) ns.length 0 hs.pos (by omega)
 simp only [hs.whole,h.zero] at h1
 have h2:=h.most
 simp [maxL] at h2
 omega
theorem isDeeper_at (p k:Int)(w:World):Calls Tryz.prog 70 #[.int .u8 p,.int .u8 k] w fun e w'=>e=.returned (.bool (isDeepB p k))∧w'=w:=by
 unfold isDeepB
 have HE:=lh (isExpr_at k w)
 have HP:=lh (isExpr_at p w)
 by_cases h1:k=6
 · have d1:(k==6)=true:=by simpa using h1
   rw [d1]
   subst h1
   clear HE HP
   go_enter Tryz.func70,Tryz.ntmps70
   go_wp2
   go_ret
   exact ⟨rfl,rfl⟩
 · have d1:(k==6)=false:=by simpa using h1
   rw [d1]
   by_cases h2:k=20
   · have d2:(k==20)=true:=by simpa using h2
     rw [d2]
     subst h2
     clear HE HP
     go_enter Tryz.func70,Tryz.ntmps70
     go_wp2
     go_ret
     exact ⟨rfl,rfl⟩
   · have d2:(k==20)=false:=by simpa using h2
     rw [d2]
     cases hx:isExprK k with
     | false =>
      rw [hx] at HE
      clear hx HP
      go_enter Tryz.func70,Tryz.ntmps70
      go_wp2_with fail
      (with_reducible refine HE.out.mono ?_)
      rintro e w' ⟨rfl,rfl⟩
      clear HE
      go_wp2
      go_ret
      exact ⟨rfl,rfl⟩
     | true =>
      rw [hx] at HE
      clear hx
      generalize isExprK p=t at *
      go_enter Tryz.func70,Tryz.ntmps70
      go_wp2_with fail
      (with_reducible refine HE.out.mono ?_)
      rintro e w' ⟨rfl,rfl⟩
      clear HE
      go_wp2_with fail
      (with_reducible refine HP.out.mono ?_)
      rintro e w'' ⟨rfl,rfl⟩
      clear HP
      go_wp2
      go_ret
      exact ⟨rfl,rfl⟩
end Tr
namespace Tr
open Go.RowKit
structure But (g:Nat)(W V:World):Prop where
 below:Below g W V
 block:∀b,b≠g→V.heap[b]?=W.heap[b]?
theorem But.refl (g:Nat)(W:World):But g W W:=⟨Below.refl _ _,fun _ _=>rfl⟩
theorem But.cell {g:Nat}{W V:World}(h:But g W V){p:Addr}(hp:p.block≠g):V.cell? p=W.cell? p:=World.cell?_of_block (w:=W) (h.block p.block hp)
theorem But.set {g:Nat}{W V:World}(h:But g W V)(i:Nat)(v:Value):But g W (V.setCell ⟨g,i,none⟩ v) :=
 ⟨h.below.setCell (Nat.le_refl _) v,fun b hb=>(Below.heap_setCell V ⟨g,i,none⟩ v b hb).trans (h.block b hb)⟩
theorem But.drewN {g:Nat}{W V:World}(h:But g W V)(n:Nat):But g W (V.drewN n):=⟨h.below.trans (drewN_below _ _ _),h.block⟩
theorem deepP_right {ns:List Nd}(h:rightP ns=true):deepP ns=deepK (ownK ns) (kidsAt ns) ns.length 0:=by unfold deepP;rw [if_pos h]
theorem deepP_not {ns:List Nd}(h:rightP ns=false):deepP ns=0:=by unfold deepP;rw [if_neg (by rw [h];simp)]
theorem deep_at (w:World)(p:Option Addr)(len c:Nat)(ns:List Nd)(h:TV w p len c ns)(hS:SmallT ns) :
 Calls Tryz.prog 30 #[.agg #[.slice p len c]] w fun e w'=>e=.returned (.int .i64 (deepP ns:Nat))∧Below w.heap.size w w':=by
 have hlen:=lh h.len_eq
 have hll:len≤70000:=by rw [← h.len_eq];exact hS.len
 have H:=lh h
 have HS:=lh hS
 have B0:=lh (one_below w (.cells #[.slice p len c] 39))
 have HR:=lh (right_at (w.alloc (.cells #[.slice p len c] 39)) p len c ns (h.on B0.out) hS)
 clear h hS
 go_enter Tryz.func30,Tryz.ntmps30
 go_wp2_with fail
 (with_reducible refine HR.out.mono ?_)
 rintro e w1 ⟨rfl,hb1⟩
 have B1:=lh (B0.out.trans (hb1.mono (by simp)))
 have c0:w1.cell? ⟨w.heap.size,0,none⟩=some (.slice p len c):=by rw [hb1.cell (by simp)];simp
 have C0:=lh c0
 have hsz:w.heap.size<w1.heap.size:=World.block_lt_of_cell? w1 _ c0
 clear hb1 HR
 cases hr:rightP ns with
 | false =>
  have HZ:=lh (deepP_not hr)
  clear hr
  go_wp2
  go_ret
  exact ⟨retI (by rw [HZ.out];rfl),B1.out⟩
 | true =>
  have HZ:=lh (deepP_right hr)
  obtain ⟨s,hs,_,_⟩:=right_sizes hr
  have HSO:=lh (sizesP_some hs)
  clear hr hs
  obtain ⟨w2,hmk,hb2,hown⟩:=make_int w1 len (by omega)
  have B2:=lh hb2
  have HO0:=lh hown
  have C2:w2.cell? ⟨w.heap.size,0,none⟩=some (.slice p len c):=by rw [hb2.cell hsz];exact c0
  clear hb2 hown
  go_wp2_with fail
  clear hmk C2
  go_loopw [4,19] (fun mv iv wr=>∃(i m:Nat) (F:Nat→Nat) (L:List Value),i≤len∧m≤70001∧mv=.int .i64 m∧iv=.int .i64 i∧Hid (DI ns i 0 m F)∧Hid (wr.ownsRow w1.heap.size 3 1 (.slice (some ⟨w1.heap.size,0,none⟩) len len) len L)∧Hid (∀j,j<len→L[j]?=some (.int .i64 ((F j:Nat):Int)))∧Hid (Below w1.heap.size w1 wr)) (fun _ iv _=>len-(intOf iv).toNat)
  case atStart=>exact ⟨0,0,fun _=>0,_,by omega,by omega,rfl,rfl,lh (DI.start ns),HO0,lh (fun j hj=>by rw [List.getElem?_replicate,if_pos hj];rfl),B2⟩
  case round =>
   obtain ⟨i,m,F,L,hil,hm,rfl,rfl,HD,HO,HL,HB⟩:=hrel
   have c0:wr.cell? ⟨w.heap.size,0,none⟩=some (.slice p len c):=by rw [HB.out.cell hsz];exact C0.out
   have HBW:=lh (B1.out.trans (HB.out.mono (by omega)))
   by_cases hlt:i<len
   · obtain ⟨b,off,rfl,hbl,hc⟩:=H.out.node (by omega)
     obtain ⟨kp,kl,kc,hnw⟩:=hc i hlt
     have hn:=hnw.on hbl HBW.out
     have k0:=hn.kind
     have k1:=hn.at'
     have k2:=hn.text
     have k3:=hn.n
     have k4:=hn.kids
     have HIV:=lh hnw.iv
     have hkl:=hn.iv.len_eq
     have HC:=lh hc
     have hix:i<ns.length:=by have:=hlen.out;omega
     have hkb:=(HS.out.each (ns.getD i default) (by simp [List.getD,hix])).1
     have HKA:Hid (kidsAt ns i=(ns.getD i default).kids):=lh rfl
     have HKD:Hid (kindAt ns i=(ns.getD i default).kind):=lh rfl
     generalize ns.getD i default=nd at *
     have hkl2:kl≤70000:=by omega
     have HKL:=lh hkl
     clear hn hnw hc hkl hkb
     have HN0:=lh (one_below wr (.cells #[.int .u8 nd.kind,.int .i64 nd.at',.string nd.text,.int .i64 nd.n,.slice kp kl kc] 54))
     have HOA:=lh (HO.out.alloc (.cells #[.int .u8 nd.kind,.int .i64 nd.at',.string nd.text,.int .i64 nd.n,.slice kp kl kc] 54))
     have HBA:=lh (HB.out.trans (HN0.out.mono HB.out.size))
     have hgs:Hid (w1.heap.size<wr.heap.size):=lh (HO.out.lt _ rfl).2
     go_wp2_with fail
     obtain ⟨wo,rfl⟩:∃wo:World,wo=wr:=⟨_,rfl⟩
     go_loopw [4,27] (fun mv jv wq=>∃(j m:Nat) (F:Nat→Nat) (L:List Value),j≤kl∧m≤70001∧mv=.int .i64 m∧jv=.int .i64 j∧Hid (DI ns i j m F)∧Hid (wq.ownsRow w1.heap.size 3 1 (.slice (some ⟨w1.heap.size,0,none⟩) len len) len L)∧Hid (∀j,j<len→L[j]?=some (.int .i64 ((F j:Nat):Int)))∧Hid (But w1.heap.size (wo.alloc (.cells #[.int .u8 nd.kind,.int .i64 nd.at',.string nd.text,.int .i64 nd.n,.slice kp kl kc] 54)) wq)) (fun _ jv _=>kl-(intOf jv).toNat)
     case atStart=>exact ⟨0,m,F,L,by omega,hm,rfl,rfl,HD,HOA,HL,lh (But.refl _ _)⟩
     case round =>
      obtain ⟨wq,rfl⟩:∃wq:World,wq=wr:=⟨_,rfl⟩
      clear c0 k0 k1 k2 k3 k4 HD HOA HL HO
      obtain ⟨j,m,F,L,hj,hm,rfl,rfl,HD,HO,HL,HQ⟩:=hrel
      have HBQ:=lh (HBA.out.trans HQ.out.below)
      have HWQ:=lh (B1.out.trans (HBQ.out.mono (by omega)))
      by_cases hjl:j<kl
      · have c0:wq.cell? ⟨w.heap.size,0,none⟩=some (.slice (some ⟨b,off,none⟩) len c):=by rw [HBQ.out.cell hsz];exact C0.out
        have x0:wq.cell? ⟨wo.heap.size,0,none⟩=some (.int .u8 nd.kind):=by
         rw [HQ.out.cell (by have:=hgs.out;simp;omega),World.cell?_alloc_at _ _ _ _ rfl];rfl
        obtain ⟨kb,koff,rfl,hkbl,hkc⟩:=HIV.out.cell (by omega)
        have hkj:=hkc j hjl
        rw [← HWQ.out.cell (p:=⟨kb,koff+j,none⟩) hkbl] at hkj
        have hjx:j<(kidsAt ns i).length:=by have:=HKL.out;have:=HKA.out;simp only [this];omega
        have hmem:(kidsAt ns i).getD j 0∈kidsAt ns i:=by simp [List.getD,hjx]
        obtain ⟨q,hq,_,_,_⟩:=HSO.out.right.kid (by have:=hlen.out;omega) hmem
        have hqk:nd.kids.getD j 0=(q:Int):=by rw [← HKA.out];exact hq
        rw [hqk] at hkj
        obtain ⟨hiq,hqn,hst⟩:=HD.out.step HSO.out (by have:=hlen.out;omega) hjx q hq
        have HST:=lh hst
        have hql:q<len:=by have:=hlen.out;omega
        obtain ⟨kp2,kl2,kc2,hn2⟩:=HC.out q hql
        have q0:wq.cell? ⟨b,off+q*5,none⟩=some (.int .u8 (kindAt ns q)):=(hn2.on hbl HWQ.out).kind
        have r0:=HO.out.cellAt i (by omega)
        rw [HL.out i hlt] at r0
        have r1:=HO.out.cellAt q (by omega)
        rw [HL.out q hql] at r1
        have f1:=HO.out.frozenAt q
        have HOW:=lh (own_deep ns i q)
        have HFI:=lh (HD.out.le i (by have:=hlen.out;omega))
        have hfi:F i≤70000:=by have:=HFI.out;omega
        have ISD:∀W,Calls Tryz.prog 70 #[.int .u8 nd.kind,.int .u8 (kindAt ns q)] W fun e w'=>e=.returned (.bool (isDeepB nd.kind (kindAt ns q)))∧w'=W:=fun W=>isDeeper_at _ _ W
        rw [HKD.out] at HOW
        have HLL:Hid (L.length=len):=lh (by have:=HO.out.1;omega)
        have ho1:=(HO.out.stored q (.int .i64 ((F i:Nat):Int))).1
        generalize hfx:F i=fi at *
        generalize kindAt ns q=kq at *
        generalize isDeepB nd.kind kq=dp at *
        have HISD:=lh ISD
        clear hkc hkbl hjx hmem hqk hst hn2 ISD hq
        have hiqI:(i:Int)<(len:Int):=by omega
        have hqlI:(q:Int)<(len:Int):=by omega
        have c0':(wq.setCell ⟨w1.heap.size,q,none⟩ (.int .i64 (fi:Int))).cell? ⟨w.heap.size,0,none⟩=some (.slice (some ⟨b,off,none⟩) len c):=by
         rw [((But.refl w1.heap.size wq).set q _).cell (by simp;omega)];exact c0
        have x0':(wq.setCell ⟨w1.heap.size,q,none⟩ (.int .i64 (fi:Int))).cell? ⟨wo.heap.size,0,none⟩=some (.int .u8 nd.kind):=by
         rw [((But.refl w1.heap.size wq).set q _).cell (by have:=hgs.out;simp;omega)];exact x0
        have q0':(wq.setCell ⟨w1.heap.size,q,none⟩ (.int .i64 (fi:Int))).cell? ⟨b,off+q*5,none⟩=some (.int .u8 kq):=by
         rw [((But.refl w1.heap.size wq).set q _).cell (by simp;omega)];exact q0
        have r1':=ho1.cellAt q (by omega)
        rw [List.getElem?_set_self (by have:=HLL.out;omega)] at r1'
        have f1':=ho1.frozenAt q
        have HO1:=lh ho1
        have HO2:=lh (ho1.stored q (.int .i64 ((fi:Int)+1))).1
        have HQ1:=lh (HQ.out.set q (.int .i64 (fi:Int)))
        clear ho1
        have hwf:IntKind.i64.wrap ((fi:Int)+1)=(fi:Int)+1:=IntWalk.i64_in _ (by omega)
        go_wp2_with fail
        clear c0 x0 q0 r0 r1 f1
        generalize wq.setCell ⟨w1.heap.size,q,none⟩ (.int .i64 (fi:Int))=W1 at *
        have HL1:Hid (∀j,j<len→(L.set q (.int .i64 (fi:Int)))[j]?=some (.int .i64 (((if j=q then fi else F j):Nat):Int))):=lh (fun j hj=>by
         by_cases e:j=q
         · rw [e,List.getElem?_set_self (by have:=HLL.out;omega),if_pos rfl]
         · rw [List.getElem?_set_ne (fun h=>e h.symm),if_neg e];exact HL.out j hj)
        go_quiet (first|(go_at_call 70;refine Calls.quiet_of_same (HISD.out _)))
        have HOD:Hid ((W1.drewN nq).ownsRow w1.heap.size 3 1 (.slice (some ⟨w1.heap.size,0,none⟩) len len) len (L.set q (.int .i64 (fi:Int)))):=lh HO1.out
        have HQD:=lh (HQ1.out.drewN nq)
        cases dp with
        | true =>
         have HST1:Hid (DI ns i (j+1) (max m (fi+1)) (fun x=>if x=q then fi+1 else F x)):=lh (by have:=HST.out;rw [HOW.out] at this;exact this)
         have HL2:Hid (∀j,j<len→((L.set q (.int .i64 (fi:Int))).set q (.int .i64 ((fi:Int)+1)))[j]?=some (.int .i64 (((if j=q then fi+1 else F j):Nat):Int))):=lh (fun j hj=>by
          by_cases e:j=q
          · rw [e,List.getElem?_set_self (by have:=HLL.out;simp;omega),if_pos rfl];rfl
          · rw [List.getElem?_set_ne (fun h=>e h.symm),if_neg e,HL1.out j hj,if_neg e])
         have HOE:Hid (((W1.drewN nq).setCell ⟨w1.heap.size,q,none⟩ (.int .i64 ((fi:Int)+1))).ownsRow w1.heap.size 3 1 (.slice (some ⟨w1.heap.size,0,none⟩) len len) len ((L.set q (.int .i64 (fi:Int))).set q (.int .i64 ((fi:Int)+1)))):=lh (HOD.out.stored q (.int .i64 ((fi:Int)+1))).1
         have HQE:=lh (HQD.out.set q (.int .i64 ((fi:Int)+1)))
         go_wp2_with fail
         go_roundw
         case rel=>exact ⟨j+1,max m (fi+1),_,_,by omega,by omega,by go_num,by go_num,HST1,HOE,HL2,HQE⟩
         case measure=>simp [intOf];omega
        | false =>
         have HST1:Hid (DI ns i (j+1) (max m fi) (fun x=>if x=q then fi else F x)):=lh (by have:=HST.out;rw [HOW.out] at this;exact this)
         go_wp2_with fail
         go_roundw
         case rel=>exact ⟨j+1,max m fi,_,_,by omega,by omega,by go_num,by go_num,HST1,HOD,HL1,HQD⟩
         case measure=>simp [intOf];omega
      · have HT:=lh (HD.out.turn (by have:=HKL.out;have:=HKA.out;simp only [this];omega))
        clear HD
        go_wp2_with fail
        go_roundw
        case rel=>exact ⟨i+1,m,F,L,by omega,hm,rfl,by go_num,HT,HO,HL,HBQ⟩
        case measure=>simp [intOf];omega
   · have e:i=len:=by omega
     have HE:Hid (m=deepP ns):=lh (by
      have:=HD.out
      rw [e,← hlen.out] at this
      rw [HZ.out]
      exact this.done HSO.out)
     clear e
     go_wp2
     go_ret
     exact ⟨retI (by rw [HE.out]),HBW.out⟩
end Tr
end Go.Proofs.YthdioipfdbbmmaaGreatDoor
