/- Contracts. -/
import Derived.Test.YthdioipfdbbmmaaGreatDoorKah
import Derived.Test.YthdioipfdbbmmaaGreatDoorKbd
set_option linter.all false
set_option maxRecDepth 1000000
set_option maxHeartbeats 16000000
namespace Go.Proofs.YthdioipfdbbmmaaGreatDoor
section
open Go.RowKit Go.MapKept
def MapAt (E:Env):Prop:=∃rb,E.mp=.map (some rb)∧rb<E.b∧E.W.heap[rb]?=some (.map ES13 13)
section
variable {E:Env}{v:Value}{kvs:List Value}{md:List Nd}{r:Nat}{l:List PT}{w:World}
theorem St.drewN {v0:Value}{kvs0 n:List Value}{md0:List Nd}{w0:World}{ts:List Ast}(h:St E v0 kvs0 md0 w0 ts r l v n w)(m:Nat):St E v0 kvs0 md0 w0 ts r l v n (w.drewN m):=⟨h.ps.grown (grownBy_drewN w m) (fun q e=>by cases e),h.nw,h.fr.grown (grownBy_drewN w m) h.fr.size (fun q e=>by cases e)⟩
theorem Lcl.drewN {q:Nat}{o:Obj}(h:Lcl E v kvs q o w)(m:Nat):Lcl E v kvs q o (w.drewN m):=h.grown (grownBy_drewN w m) (by simp)
theorem mapIn (hm:MapAt E)(h:PS E v kvs md r l w):∃rb,E.mp=.map (some rb)∧w.heap[rb]?=some (.map ES13 13):=by
 obtain ⟨rb,h1,h2,h3⟩:=hm
 exact ⟨rb,h1,by rw [h.below.block rb h2];exact h3⟩
theorem rest_at {B:Par Ast}(j:Nat)(hj:j<13)(h:PS E v kvs md r l w)(p:Nat)(hB:∀v kvs md l w,PS E v kvs md r l w→Calls Tryz.prog 203 #[.pointer (some ⟨E.b,0,none⟩)] w (PostE E (B l) fun a l'=>OkA E v kvs md r w a l'))(hszB:∀c,Sz c B (fun a=>a.size+c))(hroom1:md.length+1+l.length≤70000) :
 Calls Tryz.prog (fnOf j) #[.pointer (some ⟨E.b,0,none⟩),.int .i64 (p:Int)] w (PostE E (restP r B j p l) fun a l'=>OkA E v kvs md r w a l'):=by
 obtain rfl|rfl|rfl|rfl|rfl|rfl|rfl|rfl|rfl|rfl|rfl|rfl|rfl:j=0∨j=1∨j=2∨j=3∨j=4∨j=5∨j=6∨j=7∨j=8∨j=9∨j=10∨j=11∨j=12:=by omega
 · exact read_at h p
 · exact set_at h p
 · exact put_at h p
 · exact delete_at h p
 · exact scan_at h p
 · exact lock_at h p
 · exact release_at h p
 · exact if_at h p hB hszB hroom1
 · exact for_at h p hB hszB hroom1
 · exact let_at h p
 · exact emit_at h p
 · exact rollback_at h p
 · exact chop_at h p
theorem statement_at {B:Par Ast}(hm:MapAt E)(h:PS E v kvs md r l w)(hB:∀v kvs md l w,PS E v kvs md r l w→Calls Tryz.prog 203 #[.pointer (some ⟨E.b,0,none⟩)] w (PostE E (B l) fun a l'=>OkA E v kvs md r w a l'))(hszB:∀c,Sz c B (fun a=>a.size+c)) :
 Calls Tryz.prog 243 #[.pointer (some ⟨E.b,0,none⟩)] w (PostE E (stmtP r B l) fun a l'=>OkA E v kvs md r w a l'):=by
 have RM:=lh h.room
 have S0:=lh (St.start h)
 have HBB:=lh hB
 have C:=lh (peek_at S0.out.ps)
 have hnot:=nt
 clear h hB
 go_enter Tryz.func243,Tryz.ntmps243
 go_wp2_with fail
 (with_reducible refine C.out.mono ?_)
 rintro e w1 ⟨t,l1,sp,hl,rfl,hs,hf⟩
 subst hl
 obtain ⟨S,T⟩:=S0.out.same hs hf
 have S1:=lh (S.alloc (.cells #[.int .u8 t.kind,.int .i64 (t.at':Int),.int .i64 (sp:Int),.string t.txt,.int .i64 t.n] 29))
 have L1:=lh (Lcl.new S.ps (.cells #[.int .u8 t.kind,.int .i64 (t.at':Int),.int .i64 (sp:Int),.string t.txt,.int .i64 t.n] 29))
 obtain ⟨rb,hrb,hmap⟩:=mapIn hm S1.out.ps
 obtain ⟨i,t0,l0,sp0,hl,hl0,hi,hb,_,_,_,_,_⟩:=S1.out.ps.head
 obtain ⟨rfl,rfl⟩:=List.cons.inj hl
 have hfew:=S1.out.ps.few
 have c1:=cell_of_row _ E.b 1 _ _ _ hb
 have c3:=cell_of_row _ E.b 3 _ _ _ hb
 simp only [List.getElem?_toArray,List.getElem?_cons_zero,List.getElem?_cons_succ] at c1 c3
 rw [hrb] at c3
 have z1:=S1.out.ps.fz
 have k0:=L1.out.cell 0 rfl
 have k1:=L1.out.cell 1 rfl
 have k2:=L1.out.cell 2 rfl
 have k3:=L1.out.cell 3 rfl
 have k4:=L1.out.cell 4 rfl
 have HB:=lh hb
 have HL0:=lh hl0
 have hne1:¬ w1.heap.size=E.b:=fun e=>by have:=L1.out.loc.lt;omega
 have hne2:¬ E.b=w1.heap.size:=fun e=>hne1 e.symm
 clear hs hf S T S0 C hl hb hl0
 simp only [tokA]
 by_cases hx:words13.idxOf t.txt<13
 · have HR:Hid (stmtP r B (t::l1)=restP r B (words13.idxOf t.txt) t.at' l1):=lh (by simp only [stmtP,Par.bind,peekP,nextP,if_pos hx])
   have hlk:∀n,(Instr.lookup 122 (.map (some rb)) (.string t.txt) true).run Tryz.prog ((w1.alloc (.cells #[.int .u8 t.kind,.int .i64 (t.at':Int),.int .i64 (sp:Int),.string t.txt,.int .i64 t.n] 29)).drewN n)=.ok (.tuple #[.func (.func (fnOf (words13.idxOf t.txt))) #[] #[],.bool true]) ((w1.alloc (.cells #[.int .u8 t.kind,.int .i64 (t.at':Int),.int .i64 (sp:Int),.string t.txt,.int .i64 t.n] 29)).drewN n):=fun n=>look_yes _ rb 13 t.txt hmap hx
   have hlk0:(Instr.lookup 122 (.map (some rb)) (.string t.txt) true).run Tryz.prog (w1.alloc (.cells #[.int .u8 t.kind,.int .i64 (t.at':Int),.int .i64 (sp:Int),.string t.txt,.int .i64 t.n] 29))=.ok (.tuple #[.func (.func (fnOf (words13.idxOf t.txt))) #[] #[],.bool true]) (w1.alloc (.cells #[.int .u8 t.kind,.int .i64 (t.at':Int),.int .i64 (sp:Int),.string t.txt,.int .i64 t.n] 29)):=look_yes _ rb 13 t.txt hmap hx
   have HJ:=lh hx
   have hne:t.txt≠none0:=fun e=>by rw [e] at hx;revert hx;decide
   have HN:=lh hne
   clear hx hne
   generalize hj:words13.idxOf t.txt=j at *
   have HG:=lh hj
   clear hj
   generalize hfj:fnOf j=fj at *
   have HF:=lh hfj
   clear hfj
   go_wp2_with fail
   go_quiet (fail)
   have S2:=lh (S1.out.drewN nq)
   have S3:=lh (S2.out.next (Or.inr HN.out) HL0.out HB.out)
   have C:=rest_at j HJ.out S3.out.ps t.at' HBB.out hszB (by have h9:=RM.out;simp only [postL,List.append_nil];rw [List.length_cons] at h9;omega)
   rw [HF.out] at C
   have C:=lh C
   clear hlk hlk0 HBB
   have hj13:j=0∨j=1∨j=2∨j=3∨j=4∨j=5∨j=6∨j=7∨j=8∨j=9∨j=10∨j=11∨j=12:=by have:=HJ.out;omega
   obtain rfl|rfl|rfl|rfl|rfl|rfl|rfl|rfl|rfl|rfl|rfl|rfl|rfl:=hj13
   all_goals
    have e9:=HF.out
    simp only [fnOf] at e9
    subst e9
    clear HF
    go_wp2_with fail
    (with_reducible refine C.out.mono ?_)
    rintro e wf hP
    have hP:=PostE.lift S3.out hP
    rw [← HR.out] at hP
    have hfin:=lh hP
    rcases post_form hP with ⟨z,rfl⟩|⟨ch,rfl⟩
    · clear hP HR C
      go_wp2
      go_ret
      exact hfin.out
    · clear hP HR C
      go_wp2
      exact ⟨rfl,hfin.out⟩
 · have HR:Hid (stmtP r B (t::l1)=.err t.at' 50):=lh (by simp only [stmtP,Par.bind,peekP,failP,if_neg hx])
   have hlk:∀n,(Instr.lookup 122 (.map (some rb)) (.string t.txt) true).run Tryz.prog ((w1.alloc (.cells #[.int .u8 t.kind,.int .i64 (t.at':Int),.int .i64 (sp:Int),.string t.txt,.int .i64 t.n] 29)).drewN n)=.ok (.tuple #[.nilFunc,.bool false]) ((w1.alloc (.cells #[.int .u8 t.kind,.int .i64 (t.at':Int),.int .i64 (sp:Int),.string t.txt,.int .i64 t.n] 29)).drewN n):=fun n=>look_no _ rb 13 t.txt hmap hx
   have hlk0:(Instr.lookup 122 (.map (some rb)) (.string t.txt) true).run Tryz.prog (w1.alloc (.cells #[.int .u8 t.kind,.int .i64 (t.at':Int),.int .i64 (sp:Int),.string t.txt,.int .i64 t.n] 29))=.ok (.tuple #[.nilFunc,.bool false]) (w1.alloc (.cells #[.int .u8 t.kind,.int .i64 (t.at':Int),.int .i64 (sp:Int),.string t.txt,.int .i64 t.n] 29)):=look_no _ rb 13 t.txt hmap hx
   clear hx
   go_wp2_with fail
   go_quiet (fail)
   have S2:=lh (S1.out.drewN nq)
   have RF:=lh (refused_at S2.out.ps 50)
   go_wp2_with fail
   (with_reducible refine RF.out.mono ?_)
   rintro e w3 ⟨t3,l3,hl,rfl,hb⟩
   obtain ⟨rfl,rfl⟩:=List.cons.inj hl
   have HB:=lh hb
   clear RF hb
   go_wp2
   exact ⟨rfl,of_err HR.out HB.out⟩
theorem blockR_at (hm:MapAt E)(r:Nat):∀(v:Value) (kvs:List Value) (md:List Nd) (l:List PT) (w:World),PS E v kvs md r l w→Calls Tryz.prog 203 #[.pointer (some ⟨E.b,0,none⟩)] w (PostE E (blockP r l) fun a l'=>OkA E v kvs md r w a l'):=by
 induction r with
 | zero=>exact fun v kvs md l w h=>block_at (st:=failP) h (fun h0=>absurd h0 (by omega)) takes_fail (fun _=>Sz.fail)
 | succ r ih=>exact fun v kvs md l w h=>block_at (st:=stmtP r (blockP r)) h (fun _ v kvs md l w hp=>statement_at hm hp ih (sz_block r)) (takes_stmt r (less_block r)) (sz_stmt r (sz_block r))
end
end
end Go.Proofs.YthdioipfdbbmmaaGreatDoor
