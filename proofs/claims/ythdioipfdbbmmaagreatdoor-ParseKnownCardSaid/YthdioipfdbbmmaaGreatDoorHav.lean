/- Contracts. -/
import Derived.Test.YthdioipfdbbmmaaGreatDoorHab
import Derived.Test.YthdioipfdbbmmaaGreatDoorHaf
set_option linter.all false
set_option maxRecDepth 1000000
set_option maxHeartbeats 16000000
namespace Go.Proofs.YthdioipfdbbmmaaGreatDoor
section
open Go.RowKit
open Par (Less many many_err many_done many_more)
theorem St.deep {E:Env}{v0 v:Value}{kvs0 n:List Value}{md0:List Nd}{w0 w:World}{ts:List Ast}{r r':Nat}{l:List PT}{z:Int}(h:St E v0 kvs0 md0 w0 ts r l v n w)(hr:r'≤64)(hz:z=64-(r':Int)):St E v0 kvs0 md0 w0 ts r' l v n (w.setCell ⟨E.b,2,none⟩ (.int .i64 z)):=by
 obtain ⟨i,hl,hb⟩:=h.ps.nx
 exact ⟨h.ps.deep hr hz hb hl,h.nw,h.fr.setB 2 _⟩
theorem enter_pos {s:ByteArray}{r p:Nat}{l l':List PT}(h:enterP s r l=.ok p l'):0<r:=by
 cases l with
 | nil=>simp [enterP] at h
 | cons t l =>
  simp only [enterP] at h
  split at h
  · split at h
    · simp at h
    · omega
  · simp at h
section
variable {E:Env}{v:Value}{kvs:List Value}{md:List Nd}{r:Nat}{l:List PT}{w:World}
theorem bracket_at {ex:Par Ast}(h:PS E v kvs md r l w)(hex:0<r→∀v kvs md l w,PS E v kvs md (r-1) l w→Calls Tryz.prog 197 #[.pointer (some ⟨E.b,0,none⟩)] w (PostE E (ex l) fun a l'=>OkA E v kvs md (r-1) w a l')) :
 Calls Tryz.prog 288 #[.pointer (some ⟨E.b,0,none⟩)] w (PostE E (bracketP r ex l) fun a l'=>OkA E v kvs md r w a l'):=by
 have hr64:=h.r64
 have S0:=lh (St.start h)
 have HX:=lh hex
 have C:=lh (enter_at S0.out.ps ⟨#[40]⟩ (by decide))
 clear h hex
 go_enter Tryz.func288,Tryz.ntmps288
 go_wp2_with fail
 (with_reducible refine C.out.mono ?_)
 rintro e w1 hP
 clear C
 cases hx:enterP ⟨#[40]⟩ r l with
 | err p c =>
  rw [hx] at hP
  obtain ⟨rfl,hb⟩:=hP
  have HB:=lh hb
  have HR:Hid (bracketP r ex l=.err p c):=lh (by simp only [bracketP,Par.bind,hx])
  clear hb hx
  go_wp2
  exact ⟨rfl,of_err HR.out HB.out⟩
 | ok p l1 =>
  rw [hx] at hP
  have hr:=enter_pos hx
  have X1:=lh hx
  obtain ⟨rfl,hs,hf⟩:=hP
  obtain ⟨S,T⟩:=S0.out.same hs hf
  have S1:=lh S
  have C:=lh (HX.out hr _ _ _ _ _ S.ps)
  clear hs hf hx S T S0 HX
  go_wp2_with fail
  (with_reducible refine C.out.mono ?_)
  rintro e w2 hP
  clear C
  cases hx:ex l1 with
  | err p c =>
   rw [hx] at hP
   obtain ⟨rfl,hb⟩:=hP
   have HB:=lh hb
   have HR:Hid (bracketP r ex l=.err p c):=lh (by simp only [bracketP,Par.bind,X1.out,hx])
   clear hb hx
   go_wp2
   exact ⟨rfl,of_err HR.out HB.out⟩
  | ok a l2 =>
   rw [hx] at hP
   have X2:=lh hx
   obtain ⟨v2,n2,rfl,S,T⟩:=S1.out.ast (ts':=[a]) hP rfl
   have S2:=lh S
   have C:=lh (leave_at S.ps ⟨#[41]⟩ (by decide) (by omega))
   clear hP hx S T S1
   go_wp2_with fail
   (with_reducible refine C.out.mono ?_)
   rintro e w3 hP
   clear C
   cases hx:expectP ⟨#[41]⟩ l2 with
   | err p c =>
    rw [hx] at hP
    obtain ⟨rfl,hb⟩:=hP
    have HB:=lh hb
    have HR:Hid (bracketP r ex l=.err p c):=lh (by simp only [bracketP,Par.bind,X1.out,X2.out,hx])
    clear hb hx
    go_wp2
    exact ⟨rfl,of_err HR.out HB.out⟩
   | ok q l3 =>
    rw [hx] at hP
    obtain ⟨rfl,hs,hf⟩:=hP
    have er:r-1+1=r:=by omega
    rw [er] at hs
    obtain ⟨S,T⟩:=S2.out.same hs hf
    have HR:Hid (bracketP r ex l=.ok a l3):=lh (by simp only [bracketP,Par.bind,Par.pure,X1.out,X2.out,hx])
    have S3:=lh S
    clear hs hf hx S T S2 er
    go_wp2
    go_ret
    exact of_ok HR.out S3.out.one
theorem negative_at {fp:Par Ast}(h:PS E v kvs md r l w)(hf:0<r→∀v kvs md l w,PS E v kvs md (r-1) l w→Calls Tryz.prog 269 #[.pointer (some ⟨E.b,0,none⟩)] w (PostE E (fp l) fun a l'=>OkA E v kvs md (r-1) w a l'))(hsz:∀c,Sz c fp (fun a=>a.size+c)) :
 Calls Tryz.prog 289 #[.pointer (some ⟨E.b,0,none⟩)] w (PostE E (negP r fp l) fun a l'=>OkA E v kvs md r w a l'):=by
 have hr64:=h.r64
 have RM:=lh h.room
 have S0:=lh (St.start h)
 have HX:=lh hf
 have C:=lh (enter_at S0.out.ps ⟨#[45]⟩ (by decide))
 clear h hf
 go_enter Tryz.func289,Tryz.ntmps289
 go_wp2_with fail
 (with_reducible refine C.out.mono ?_)
 rintro e w1 hP
 clear C
 cases hx:enterP ⟨#[45]⟩ r l with
 | err p c =>
  rw [hx] at hP
  obtain ⟨rfl,hb⟩:=hP
  have HB:=lh hb
  have HR:Hid (negP r fp l=.err p c):=lh (by simp only [negP,Par.bind,hx])
  clear hb hx
  go_wp2
  exact ⟨rfl,of_err HR.out HB.out⟩
 | ok p l1 =>
  rw [hx] at hP
  have hr:=enter_pos hx
  have hlt:=lh (takes_enter _ _ _ _ _ hx)
  have X1:=lh hx
  obtain ⟨rfl,hs,hf⟩:=hP
  obtain ⟨S,T⟩:=S0.out.same hs hf
  have S1:=lh (S.alloc (.cells #[.int .u8 26,.int .i64 (p:Int),.string ⟨#[]⟩,.int .i64 0,.slice none 0 0] 54))
  have L1:=lh (Lcl.new S.ps (.cells #[.int .u8 26,.int .i64 (p:Int),.string ⟨#[]⟩,.int .i64 0,.slice none 0 0] 54))
  have C:=lh (HX.out hr _ _ _ _ _ S1.out.ps)
  clear hs hf hx S T S0 HX
  go_wp2_with fail
  (with_reducible refine C.out.mono ?_)
  rintro e w2 hP
  clear C
  cases hx:fp l1 with
  | err p c =>
   rw [hx] at hP
   obtain ⟨rfl,hb⟩:=hP
   have HB:=lh hb
   have HR:Hid (negP r fp l=.err p c):=lh (by simp only [negP,Par.bind,X1.out,hx])
   clear hb hx
   go_wp2
   exact ⟨rfl,of_err HR.out HB.out⟩
  | ok a l2 =>
   rw [hx] at hP
   have hqs:a.size+l2.length≤0+l1.length:=hsz 0 _ _ _ hx
   obtain ⟨v2,n2,rfl,S,T⟩:=S1.out.ast (ts':=[a]) hP rfl
   have HR:Hid (negP r fp l=.ok (.mk 26 p none0 0 [a]) l2):=lh (by simp only [negP,nodeA,Par.bind,Par.pure,X1.out,hx])
   have hroom:md.length+a.size+1+l2.length≤70000:=by
    have:=RM.out
    have:=hlt.out
    omega
   have L2:=(L1.out.tr T).setB 2 (.int .i64 (64-((r-1:Nat):Int)-1))
   obtain ⟨_,_,_,_,c2,_,_⟩:=S.ps.cells
   have z2:=S.ps.fz
   have S2:=S.deep (r':=r) (z:=64-((r-1:Nat):Int)-1) (by omega) (by omega)
   have S2':=lh S2
   have k0:=L2.cell 0 rfl
   have k1:=L2.cell 1 rfl
   have k2:=L2.cell 2 rfl
   have k3:=L2.cell 3 rfl
   have k4:=L2.cell 4 rfl
   have R3:=lh (Rw.lit S2 (q:=w2.heap.size) (by simp [World.setCell]) (ks:=roots md.length [a]) (cs:=#[.int .i64 (rootI (md.length+sizeL []) a)]) (m:=1) (by simp [roots,rootI,sizeL]) (by simp [roots]) (by omega))
   have S3:=lh (S2.alloc (.cells #[.int .i64 (rootI (md.length+sizeL []) a)] 3))
   have AD:=lh (add_at S3.out.ps 26 p 0 none0 (.slice none 0 0) _ (roots md.length [a]) R3.out.own R3.out.loc (by rw [List.length_append,postL_length,sizeL_one];omega))
   clear hP hx S T S1 hqs L2 S2 L1 hlt
   go_wp2_with fail
   (with_reducible refine AD.out.mono ?_)
   rintro e wf hA
   have hO:=lh (S3.out.add (ts:=[a]) rfl hA R3.out.ge)
   obtain ⟨z,rfl⟩:=hA.int
   clear AD
   go_wp2
   go_ret
   exact of_ok HR.out hO.out
end
end
section
open Go.RowKit
open Par (Less many many_err many_done many_more)
theorem St.next {E:Env}{v0 v:Value}{kvs0 n:List Value}{md0:List Nd}{w0 w:World}{ts:List Ast}{r i:Nat}{t:PT}{l:List PT}(h:St E v0 kvs0 md0 w0 ts r (t::l) v n w)(ht:t.kind≠4∨t.txt≠none0)(hl:l=E.pts.drop (i+1))(hc:w.heap[E.b]?=some (.cells #[.slice (some ⟨E.g,0,none⟩) E.toks.length E.cap,.int .i64 (i:Int),.int .i64 (64-(r:Int)),E.mp,v] 125 (0,0))) :
 St E v0 kvs0 md0 w0 ts r l v n (w.setCell ⟨E.b,1,none⟩ (.int .i64 ((i:Int)+1))):=⟨h.ps.next ht hl hc,h.nw,h.fr.setB 1 _⟩
theorem beq_lit (a:ByteArray)(l:List UInt8):(a.toList==l)=decide (a=⟨l.toArray⟩):=by
 have:=beq_str a ⟨l.toArray⟩
 rw [ByteArray.toList_eq ⟨l.toArray⟩] at this
 exact this
section
variable {E:Env}{v:Value}{kvs:List Value}{md:List Nd}{r:Nat}{l:List PT}{w:World}
theorem factorOf_at {fac:Par Ast}(h:PS E v kvs md r l w)(hf:0<r→∀v kvs md l w,PS E v kvs md (r-1) l w→Calls Tryz.prog 269 #[.pointer (some ⟨E.b,0,none⟩)] w (PostE E (fac l) fun a l'=>OkA E v kvs md (r-1) w a l'))(hless:Less fac)(hsz:∀c,Sz c fac (fun a=>a.size+c)) :
 Calls Tryz.prog 269 #[.pointer (some ⟨E.b,0,none⟩)] w (PostE E (factorOf r fac l) fun a l'=>OkA E v kvs md r w a l'):=by
 have RM:=lh h.room
 have S0:=lh (St.start h)
 have HX:=lh hf
 have C:=lh (peek_at S0.out.ps)
 have fl0:=tok_f0
 have fl1:=tok_f1
 have fl3:=tok_f3
 clear h hf
 go_enter Tryz.func269,Tryz.ntmps269
 go_wp2_with fail
 (with_reducible refine C.out.mono ?_)
 rintro e w1 ⟨t,l1,sp,hl,rfl,hs,hf⟩
 subst hl
 obtain ⟨S,T⟩:=S0.out.same hs hf
 have S1:=lh (S.alloc (.cells #[.int .u8 t.kind,.int .i64 (t.at':Int),.int .i64 (sp:Int),.string t.txt,.int .i64 t.n] 29))
 clear hs hf S T S0 C
 simp only [tokA]
 by_cases h2:t.kind=2
 · have HR:Hid (factorOf r fac (t::l1)=numberP (t::l1)):=lh (by simp only [factorOf,Par.bind,peekP,if_pos h2])
   have hd:(t.kind==2)=true:=by simpa using h2
   have C:=lh (number_at S1.out.ps)
   clear h2
   go_wp2_with fail
   (with_reducible refine C.out.mono ?_)
   rintro e wf hP
   have hP:=PostE.lift S1.out hP
   rw [← HR.out] at hP
   have hfin:=lh hP
   rcases post_form hP with ⟨z,rfl⟩|⟨ch,rfl⟩
   · clear hP HR C
     go_wp2
     go_ret
     exact hfin.out
   · clear hP HR C
     go_wp2
     exact ⟨rfl,hfin.out⟩
 · have hd2:(t.kind==2)=false:=by simpa using h2
   by_cases h1:t.kind=1
   · have HR:Hid (factorOf r fac (t::l1)=.ok (.mk 22 t.at' t.txt 0 []) l1):=lh (by simp only [factorOf,Par.bind,Par.pure,peekP,nextP,if_neg h2,if_pos h1])
     have hd:(t.kind==1)=true:=by simpa using h1
     have hk4:t.kind≠4:=by omega
     obtain ⟨i,t0,l0,sp0,hl,hl0,hi,hb,_,_,_,_,_⟩:=S1.out.ps.head
     obtain ⟨rfl,rfl⟩:=List.cons.inj hl
     have hfew:=S1.out.ps.few
     have c1:=cell_of_row _ E.b 1 _ _ _ hb
     simp only [List.getElem?_toArray,List.getElem?_cons_zero,List.getElem?_cons_succ] at c1
     have z1:=S1.out.ps.fz
     have hne:¬ w1.heap.size=E.b:=by
      have h3:=(lh S1.out.ps.below).out.size
      intro e
      obtain ⟨_,_,h4⟩:=S1.out.ps.nx
      have e2:(w1.alloc (.cells #[.int .u8 t.kind,.int .i64 (t.at':Int),.int .i64 (sp:Int),.string t.txt,.int .i64 t.n] 29)).heap[w1.heap.size]?=some (.cells #[.int .u8 t.kind,.int .i64 (t.at':Int),.int .i64 (sp:Int),.string t.txt,.int .i64 t.n] 29):=by show (w1.heap.push _)[w1.heap.size]?=_;simp
      rw [← e,e2] at h4
      simp at h4
     have S2:=lh (S1.out.next (Or.inl hk4) hl0 hb)
     have RN:Hid (Rw E v (kvs++[]) w.heap.size (.slice none 0 0) [] ((w1.alloc (.cells #[.int .u8 t.kind,.int .i64 (t.at':Int),.int .i64 (sp:Int),.string t.txt,.int .i64 t.n] 29)).setCell ⟨E.b,1,none⟩ (.int .i64 ((i:Int)+1)))):=lh Rw.nil
     have AD:=lh (add_at S2.out.ps 22 t.at' 0 t.txt (.slice none 0 0) (.slice none 0 0) (roots md.length []) RN.out.own RN.out.loc (by have:=RM.out;rw [List.length_append,postL_length];simp only [sizeL,List.length_cons] at *;omega))
     clear h1 h2 hk4 hl hl0 hb
     go_wp2_with fail
     (with_reducible refine AD.out.mono ?_)
     rintro e wf hA
     have hO:=lh (S2.out.add (ts:=[]) rfl hA RN.out.ge)
     obtain ⟨z,rfl⟩:=hA.int
     clear AD
     go_wp2
     go_ret
     exact of_ok HR.out hO.out
   · have hd1:(t.kind==1)=false:=by simpa using h1
     by_cases h3:t.txt=⟨#[40]⟩
     · have HR:Hid (factorOf r fac (t::l1)=bracketP r (exprP fac) (t::l1)):=lh (by simp only [factorOf,Par.bind,peekP,if_neg h2,if_neg h1,if_pos h3])
       have hd3:(t.txt.toList==[40])=true:=by rw [beq_lit];exact decide_eq_true h3
       have C:=lh (bracket_at (ex:=exprP fac) S1.out.ps (fun hr v kvs md l w hp=>expr_at hp (HX.out hr) hless hsz))
       clear h1 h2 h3
       go_wp2_with fail
       (with_reducible refine C.out.mono ?_)
       rintro e wf hP
       have hP:=PostE.lift S1.out hP
       rw [← HR.out] at hP
       have hfin:=lh hP
       rcases post_form hP with ⟨z,rfl⟩|⟨ch,rfl⟩
       · clear hP HR C
         go_wp2
         go_ret
         exact hfin.out
       · clear hP HR C
         go_wp2
         exact ⟨rfl,hfin.out⟩
     · have hd3:(t.txt.toList==[40])=false:=by rw [beq_lit];exact decide_eq_false h3
       by_cases h4:t.txt=⟨#[45]⟩
       · have HR:Hid (factorOf r fac (t::l1)=negP r fac (t::l1)):=lh (by simp only [factorOf,Par.bind,peekP,if_neg h2,if_neg h1,if_neg h3,if_pos h4])
         have hd4:(t.txt.toList==[45])=true:=by rw [beq_lit];exact decide_eq_true h4
         have C:=lh (negative_at (fp:=fac) S1.out.ps HX.out hsz)
         clear h1 h2 h3 h4
         go_wp2_with fail
         (with_reducible refine C.out.mono ?_)
         rintro e wf hP
         have hP:=PostE.lift S1.out hP
         rw [← HR.out] at hP
         have hfin:=lh hP
         rcases post_form hP with ⟨z,rfl⟩|⟨ch,rfl⟩
         · clear hP HR C
           go_wp2
           go_ret
           exact hfin.out
         · clear hP HR C
           go_wp2
           exact ⟨rfl,hfin.out⟩
       · have HR:Hid (factorOf r fac (t::l1)=.err t.at' 50):=lh (by simp only [factorOf,Par.bind,peekP,failP,if_neg h2,if_neg h1,if_neg h3,if_neg h4])
         have hd4:(t.txt.toList==[45])=false:=by rw [beq_lit];exact decide_eq_false h4
         have RF:=lh (refused_at S1.out.ps 50)
         clear h1 h2 h3 h4
         go_wp2_with fail
         (with_reducible refine RF.out.mono ?_)
         rintro e w3 ⟨t3,l3,hl,rfl,hb⟩
         obtain ⟨rfl,rfl⟩:=List.cons.inj hl
         have HB:=lh hb
         clear RF hb
         go_wp2
         exact ⟨rfl,of_err HR.out HB.out⟩
theorem factor_at (r:Nat):∀(v:Value) (kvs:List Value) (md:List Nd) (l:List PT) (w:World),PS E v kvs md r l w→Calls Tryz.prog 269 #[.pointer (some ⟨E.b,0,none⟩)] w (PostE E (factorP r l) fun a l'=>OkA E v kvs md r w a l'):=by
 induction r with
 | zero=>exact fun v kvs md l w h=>factorOf_at (fac:=failP) h (fun h0=>absurd h0 (by omega)) less_fail (fun _=>Sz.fail)
 | succ r ih=>exact fun v kvs md l w h=>factorOf_at (fac:=factorP r) h (fun _=>ih) (less_factor r) (sz_factor r)
theorem exprR_at (h:PS E v kvs md r l w):Calls Tryz.prog 197 #[.pointer (some ⟨E.b,0,none⟩)] w (PostE E (exprR r l) fun a l'=>OkA E v kvs md r w a l') :=
 expr_at h (factor_at r) (less_factor r) (sz_factor r)
end
end
section
open Go.RowKit
open Par (Less many many_err many_done many_more)
def OkC (E:Env)(v:Value)(kvs:List Value)(md:List Nd)(r:Nat)(w:World)(ab:Ast × Ast)(l':List PT)(e:Ending)(w':World):Prop :=
 ∃v' n',e=.returned (.tuple #[.int .i64 (rootI (md.length+sizeL []) ab.1),.int .i64 (rootI (md.length+sizeL [ab.1]) ab.2)])∧St E v kvs md w [ab.1,ab.2] r l' v' n' w'
theorem St.two {E:Env}{v0 v:Value}{kvs0 n:List Value}{md0:List Nd}{w0 w1 w2:World}{r r':Nat}{l l':List PT}{ab:Ast × Ast}{e:Ending}(h:St E v0 kvs0 md0 w0 [] r l v n w1)(ha:OkC E v (kvs0++n) (md0++postL md0.length []) r' w1 ab l' e w2) :
 ∃v' n',e=.returned (.tuple #[.int .i64 (rootI (md0.length+sizeL []) ab.1),.int .i64 (rootI (md0.length+sizeL [ab.1]) ab.2)])∧St E v0 kvs0 md0 w0 [ab.1,ab.2] r' l' v' n' w2∧Tr E v v' n n' w1 w2:=by
 obtain ⟨v',new,he,hs⟩:=ha
 have hl:(md0++postL md0.length []).length=md0.length:=by simp [postL]
 have hp:=hs.ps
 rw [hl] at he hp
 rw [show md0++postL md0.length []=md0 by simp [postL],List.append_assoc] at hp
 exact ⟨v',n++new,he,⟨hp,h.nw.append (hs.nw.mono h.fr.size),h.fr.trans (hs.fr.mono h.fr.size)⟩,⟨⟨new,rfl,hs.nw⟩,hs.fr⟩⟩
section
variable {E:Env}{v:Value}{kvs:List Value}{md:List Nd}{r:Nat}{l:List PT}{w:World}
theorem rowOf_at (h:PS E v kvs md r l w)(t:PT)(sp:Nat):Calls Tryz.prog 201 #[.pointer (some ⟨E.b,0,none⟩),tokA t sp] w (PostE E (rowOfP r t l) fun a l'=>OkA E v kvs md r w a l'):=by
 have hr64:=h.r64
 have RM:=lh h.room
 have S1:=lh (St.start h)
 have hnot:=nt
 clear h
 have S2:=lh (S1.out.alloc (.cells #[.int .u8 t.kind,.int .i64 (t.at':Int),.int .i64 (sp:Int),.string t.txt,.int .i64 t.n] 29))
 have Q3:Hid (w.heap.size≤w.heap.size):=lh S1.out.fr.size
 have L4:=lh (Lcl.new S1.out.ps (.cells #[.int .u8 t.kind,.int .i64 (t.at':Int),.int .i64 (sp:Int),.string t.txt,.int .i64 t.n] 29))
 clear S1
 simp only [tokA]
 go_enter Tryz.func201,Tryz.ntmps201
 have C5:=lh (enter_at S2.out.ps ⟨#[91]⟩ (by decide))
 go_wp2_with fail
 (with_reducible refine C5.out.mono ?_)
 rintro e w6 hP
 clear C5
 cases hx:enterP ⟨#[91]⟩ r l with
 | err pe ce =>
  obtain ⟨rfl,HB⟩:=pE hx hP
  replace hx:=lh hx
  go_wp2
  exact ⟨rfl,of_err (by simp only [rowOfP,Par.bind,hx.out]) HB.out⟩
 | ok p1 l1 =>
  rw [hx] at hP
  have X7:=lh hx
  have hr:=enter_pos hx
  obtain ⟨rfl,hs,hf⟩:=hP
  obtain ⟨S,T⟩:=S2.out.same hs hf
  clear hs hf hx
  have L8:=lh (L4.out.tr T)
  have S9:=lh (S)
  clear S T S2 L4
  have c10:=L8.out.cell 0 rfl
  have c11:=L8.out.cell 1 rfl
  have c12:=L8.out.cell 2 rfl
  have c13:=L8.out.cell 3 rfl
  have c14:=L8.out.cell 4 rfl
  have z15:=L8.out.fz
  have C16:=lh (exprR_at S9.out.ps)
  go_wp2_with fail
  clear c10 c11 c12 c13 c14 z15
  (with_reducible refine C16.out.mono ?_)
  rintro e w17 hP
  clear C16
  cases hx:exprR (r-1) l1 with
  | err pe ce =>
   obtain ⟨rfl,HB⟩:=pE hx hP
   replace hx:=lh hx
   go_wp2
   exact ⟨rfl,of_err (by simp only [rowOfP,Par.bind,X7.out,hx.out]) HB.out⟩
  | ok a l2 =>
   rw [hx] at hP
   have X18:=lh hx
   obtain ⟨v17,n17,rfl,S,T⟩:=S9.out.ast (ts':=[a]) hP rfl
   clear hP hx
   have L19:=lh (L8.out.tr T)
   have S20:=lh (S)
   clear S T S9 L8
   have c21:=L19.out.cell 0 rfl
   have c22:=L19.out.cell 1 rfl
   have c23:=L19.out.cell 2 rfl
   have c24:=L19.out.cell 3 rfl
   have c25:=L19.out.cell 4 rfl
   have z26:=L19.out.fz
   have C27:=lh (leave_at S20.out.ps ⟨#[93]⟩ (by decide) (by omega))
   go_wp2_with fail
   clear c21 c22 c23 c24 c25 z26
   (with_reducible refine C27.out.mono ?_)
   rintro e w28 hP
   clear C27
   cases hx:expectP ⟨#[93]⟩ l2 with
   | err pe ce =>
    obtain ⟨rfl,HB⟩:=pE hx hP
    replace hx:=lh hx
    go_wp2
    exact ⟨rfl,of_err (by simp only [rowOfP,Par.bind,X7.out,X18.out,hx.out]) HB.out⟩
   | ok p3 l3 =>
    rw [hx] at hP
    have X29:=lh hx
    obtain ⟨rfl,hs,hf⟩:=hP
    have er:r-1+1=r:=by omega
    rw [er] at hs
    obtain ⟨S,T⟩:=S20.out.same hs hf
    clear hs hf hx
    have L30:=lh (L19.out.tr T)
    have S31:=lh (S)
    clear S T S20 L19
    have c32:=L30.out.cell 0 rfl
    have c33:=L30.out.cell 1 rfl
    have c34:=L30.out.cell 2 rfl
    have c35:=L30.out.cell 3 rfl
    have c36:=L30.out.cell 4 rfl
    have z37:=L30.out.fz
    have HR:Hid (rowOfP r t l=.ok (.mk 20 t.at' t.txt 0 [a]) l3):=lh (by simp only [rowOfP,Par.bind,Par.pure,X7.out,X18.out,X29.out])
    have R38:=lh (Rw.lit S31.out (q:=w28.heap.size) (by first|rfl|simp [World.setCell]) (ks:=roots md.length [a]) (cs:=#[.int .i64 (rootI (md.length+sizeL []) a)]) (m:=1) (by simp [roots,rootI,sizeL]<;>omega) (by simp [roots]) (by omega))
    have S39:=lh (S31.out.alloc (.cells #[.int .i64 (rootI (md.length+sizeL []) a)] 3))
    have L40:=lh (L30.out.alloc (.cells #[.int .i64 (rootI (md.length+sizeL []) a)] 3))
    clear S31 L30
    have C41:=lh (add_at S39.out.ps (20) ((t.at':Int)) (0) (t.txt) (.slice none 0 0) (.slice (some ⟨w28.heap.size,0,none⟩) 1 1) (roots md.length [a]) R38.out.own R38.out.loc (by have h1:=RM.out;have h2:=sz_rowOf r 0 t _ _ _ HR.out;simp only [Ast.size] at h2;rw [List.length_append,postL_length];omega))
    go_wp2_with fail
    clear c32 c33 c34 c35 c36 z37
    (with_reducible refine C41.out.mono ?_)
    rintro e wf hA
    have hO:=lh (S39.out.add (ts:=[a]) rfl hA R38.out.ge)
    obtain ⟨z,rfl⟩:=hA.int
    clear C41
    go_wp2
    go_ret
    exact of_ok HR.out hO.out
theorem row_at (h:PS E v kvs md r l w):Calls Tryz.prog 198 #[.pointer (some ⟨E.b,0,none⟩)] w (PostE E (rowP r l) fun a l'=>OkA E v kvs md r w a l'):=by
 have hr64:=h.r64
 have RM:=lh h.room
 have S1:=lh (St.start h)
 have hnot:=nt
 clear h
 go_enter Tryz.func198,Tryz.ntmps198
 have C2:=lh (take_at S1.out.ps 1 (by decide))
 go_wp2_with fail
 (with_reducible refine C2.out.mono ?_)
 rintro e w3 hP
 clear C2
 cases hx:takeP 1 l with
 | err pe ce =>
  obtain ⟨rfl,HB⟩:=pE hx hP
  replace hx:=lh hx
  go_wp2
  exact ⟨rfl,of_err (by simp only [rowP,Par.bind,hx.out]) HB.out⟩
 | ok t l1 =>
  rw [hx] at hP
  have X4:=lh hx
  obtain ⟨sp,rfl,hs,hf⟩:=hP
  obtain ⟨S,T⟩:=S1.out.same hs hf
  clear hs hf hx
  simp only [tokA]
  have S5:=lh (S)
  clear S T S1
  have C6:=lh (rowOf_at S5.out.ps t sp)
  go_wp2_with fail
  (with_reducible refine C6.out.mono ?_)
  rintro e wf hP
  have hP:=PostE.lift S5.out hP
  have HR:rowP r l=rowOfP r t l1:=by simp only [rowP,Par.bind,X4.out]
  rw [← HR] at hP
  have hfin:=lh hP
  rcases post_form hP with ⟨z,rfl⟩|⟨ch,rfl⟩
  · clear hP HR C6
    go_wp2
    go_ret
    exact hfin.out
  · clear hP HR C6
    go_wp2
    exact ⟨rfl,hfin.out⟩
theorem cell_at (h:PS E v kvs md r l w):Calls Tryz.prog 194 #[.pointer (some ⟨E.b,0,none⟩)] w (PostE E (cellP r l) fun a l'=>OkC E v kvs md r w a l'):=by
 have hr64:=h.r64
 have RM:=lh h.room
 have S1:=lh (St.start h)
 have hnot:=nt
 clear h
 go_enter Tryz.func194,Tryz.ntmps194
 have C2:=lh (row_at S1.out.ps)
 go_wp2_with fail
 (with_reducible refine C2.out.mono ?_)
 rintro e w3 hP
 clear C2
 cases hx:rowP r l with
 | err pe ce =>
  obtain ⟨rfl,HB⟩:=pE hx hP
  replace hx:=lh hx
  go_wp2
  exact ⟨rfl,of_err (by simp only [cellP,Par.bind,hx.out]) HB.out⟩
 | ok a l1 =>
  rw [hx] at hP
  have X4:=lh hx
  obtain ⟨v3,n3,rfl,S,T⟩:=S1.out.ast (ts':=[a]) hP rfl
  clear hP hx
  have S5:=lh (S)
  clear S T S1
  have C6:=lh (expect_at S5.out.ps ⟨#[46]⟩ (by decide))
  go_wp2_with fail
  (with_reducible refine C6.out.mono ?_)
  rintro e w7 hP
  clear C6
  cases hx:expectP ⟨#[46]⟩ l1 with
  | err pe ce =>
   obtain ⟨rfl,HB⟩:=pE hx hP
   replace hx:=lh hx
   go_wp2
   exact ⟨rfl,of_err (by simp only [cellP,Par.bind,X4.out,hx.out]) HB.out⟩
  | ok p2 l2 =>
   rw [hx] at hP
   have X8:=lh hx
   obtain ⟨rfl,hs,hf⟩:=hP
   obtain ⟨S,T⟩:=S5.out.same hs hf
   clear hs hf hx
   have S9:=lh (S)
   clear S T S5
   have C10:=lh (word_at S9.out.ps)
   go_wp2_with fail
   (with_reducible refine C10.out.mono ?_)
   rintro e w11 hP
   clear C10
   cases hx:wordP l2 with
   | err pe ce =>
    obtain ⟨rfl,HB⟩:=pE hx hP
    replace hx:=lh hx
    go_wp2
    exact ⟨rfl,of_err (by simp only [cellP,Par.bind,X4.out,X8.out,hx.out]) HB.out⟩
   | ok b l3 =>
    rw [hx] at hP
    have X12:=lh hx
    obtain ⟨v11,n11,rfl,S,T⟩:=S9.out.ast (ts':=[a,b]) hP rfl
    clear hP hx
    have S13:=lh (S)
    clear S T S9
    have HR:Hid (cellP r l=.ok (a,b) l3):=lh (by simp only [cellP,Par.bind,Par.pure,X4.out,X8.out,X12.out])
    clear RM
    go_wp2
    simp [bodyPost,results,Tryz.results194,go_sem]
    exact of_ok HR.out ⟨_,_,rfl,S13.out⟩
theorem named_at (h:PS E v kvs md r l w)(k:Int)(p:Nat):Calls Tryz.prog 192 #[.pointer (some ⟨E.b,0,none⟩),.int .u8 k,.int .i64 (p:Int)] w (PostE E (takeP 1 l) fun t l'=>OkV E v kvs md r w (.agg #[.int .u8 k,.int .i64 (p:Int),.string t.txt,.int .i64 0,.slice none 0 0]) l'):=by
 have hr64:=h.r64
 have RM:=lh h.room
 have S1:=lh (St.start h)
 have fl3:=tok_f3
 have hnot:=nt
 clear h
 have S2:=lh (S1.out.alloc (.cells #[.int .u8 0,.int .i64 0,.string ⟨#[]⟩,.int .i64 0,.slice none 0 0] 54))
 have Q3:Hid (w.heap.size≤w.heap.size):=lh S1.out.fr.size
 have L4:=lh (Lcl.new S1.out.ps (.cells #[.int .u8 0,.int .i64 0,.string ⟨#[]⟩,.int .i64 0,.slice none 0 0] 54))
 clear S1
 go_enter Tryz.func192,Tryz.ntmps192
 have C5:=lh (take_at S2.out.ps 1 (by decide))
 go_wp2_with fail
 (with_reducible refine C5.out.mono ?_)
 rintro e w1 hP
 clear C5
 cases hx:takeP 1 l with
 | err q c =>
  rw [hx] at hP
  obtain ⟨rfl,hb⟩:=hP
  have HB:=lh hb
  have HX:=lh hx
  clear hb hx
  go_wp2
  exact ⟨rfl,of_err HX.out HB.out⟩
 | ok t l1 =>
  rw [hx] at hP
  obtain ⟨sp,rfl,hs,hf⟩:=hP
  obtain ⟨S,T⟩:=S2.out.same hs hf
  simp only [tokA]
  have L:=lh (L4.out.tr T)
  have SS:=lh S
  have k0:=L.out.cell 0 rfl
  have k1:=L.out.cell 1 rfl
  have k2:=L.out.cell 2 rfl
  have k3:=L.out.cell 3 rfl
  have k4:=L.out.cell 4 rfl
  have zz:=L.out.fz
  have L9:=L.out.set5 (.int .u8 k) (.int .i64 (p:Int)) (.string t.txt) (.int .i64 0) (.slice none 0 0)
  have r0:=L9.cell 0 rfl
  have r1:=L9.cell 1 rfl
  have r2:=L9.cell 2 rfl
  have r3:=L9.cell 3 rfl
  have r4:=L9.cell 4 rfl
  have HX:=lh hx
  clear L9 hs hf hx S T
  go_wp2
  simp [bodyPost,results,Tryz.results192,go_sem,r0,r1,r2,r3,r4]
  refine of_ok HX.out ?_
  have hp:=SS.out.ps
  have hq:=SS.out.fr
  exact ⟨rfl,by simpa [postL] using hp.set5 L.out.loc _ _ _ _ _,hq.set5 hq.size (Nat.le_refl _) _ _ _ _ _⟩
end
end
section
open Go.RowKit
theorem length_le_sizeL (ts:List Ast):ts.length≤sizeL ts:=by
 induction ts with
 | nil=>simp
 | cons a r ih=>have:=size_pos a;simp only [List.length_cons,sizeL];omega
section
variable {E:Env}{v0 v v':Value}{kvs0 n n' kvs:List Value}{md0:List Nd}{w0 w w' wa:World}{ts:List Ast}{r:Nat}{l:List PT}
theorem Rw.mono {B B':Nat}{kv:Value}{ks:List Int}(h:Rw E v kvs B kv ks w)(hb:B'≤B):Rw E v kvs B' kv ks w:=⟨h.own,h.loc,fun q hq=>Nat.le_trans hb (h.ge q hq)⟩
theorem Rw.litB {ks:List Int}{cs:Array Value}{m q B:Nat}(h:St E v0 kvs0 md0 w0 ts r l v n w)(hq:q=w.heap.size)(hB:B≤w.heap.size)(hc:cs.toList=ks.map (Value.int .i64))(hm:m=ks.length)(hm2:m≤100):Rw E v (kvs0++n) B (.slice (some ⟨q,0,none⟩) m m) ks (w.alloc (.cells cs 3)):=by
 have h1:=Rw.lit h hq hc hm hm2
 refine ⟨h1.own,h1.loc,fun k hk=>?_⟩
 obtain rfl:q=k:=by simpa [Value.ownBlock] using hk
 omega
theorem Rw.push {z:Int}{g cap m H B:Nat}{kv:Value}{ks:List Int}{cs:List Value}(hR:Rw E v kvs B kv ks wa)(hB:B≤wa.heap.size)(hfresh:Loc E v kvs wa.heap.size)(hown:w'.ownsRow (E.b+1) 3 1 (.slice (some ⟨g,0,none⟩) m cap) m cs)(hm:m=ks.length+1)(hcs:cs=ks.map (Value.int .i64)++[.int .i64 z])(hat:kv.ownBlock=some g∨g=H)(hH:H=wa.heap.size) :
 Rw E v kvs B (.slice (some ⟨g,0,none⟩) m cap) (ks++[z]) w':=by
 subst hm hcs hH
 refine ⟨?_,fun q hq=>?_,fun q hq=>?_⟩
 · unfold own1
   rw [List.length_append,List.map_append]
   exact hown
 · obtain rfl:g=q:=by simpa [Value.ownBlock] using hq
   rcases hat with h|h
   · exact hR.loc g h
   · rw [h];exact hfresh
 · obtain rfl:g=q:=by simpa [Value.ownBlock] using hq
   rcases hat with h|h
   · exact hR.ge g h
   · omega
theorem St.grown {B:Nat}{kv:Value}{ks:List Int}(h:St E v0 kvs0 md0 w0 ts r l v n wa)(hR:Rw E v (kvs0++n) B kv ks wa)(hB:w0.heap.size≤B)(hg:wa.grownBy w' kv.ownBlock):St E v0 kvs0 md0 w0 ts r l v n w' :=
 ⟨h.ps.grown hg (fun q hq=>hR.loc q hq),h.nw,h.fr.grown hg h.fr.size (fun q hq=>Nat.le_trans hB (hR.ge q hq))⟩
theorem Lcl.push {B q:Nat}{kv:Value}{ks:List Int}{o:Obj}(h:Lcl E v kvs q o wa)(hR:Rw E v kvs B kv ks wa)(hB:q<B)(hg:wa.grownBy w' kv.ownBlock):Lcl E v kvs q o w' :=
 h.grown hg (fun e=>by have:=hR.ge q e;omega)
def OkL (E:Env)(v:Value)(kvs:List Value)(md:List Nd)(r:Nat)(w:World)(ts:List Ast)(l':List PT)(e:Ending)(w':World):Prop :=
 ∃v' n' kv,e=.returned kv∧St E v kvs md w ts r l' v' n' w'∧Rw E v' (kvs++n') w.heap.size kv (roots md.length ts) w'
theorem St.list {r':Nat}{l':List PT}{w1 w2:World}{e:Ending}(h:St E v0 kvs0 md0 w0 [] r l v n w1)(ha:OkL E v (kvs0++n) (md0++postL md0.length []) r' w1 ts l' e w2) :
 ∃v' n' kv,e=.returned kv∧St E v0 kvs0 md0 w0 ts r' l' v' n' w2∧Tr E v v' n n' w1 w2∧Rw E v' (kvs0++n') w1.heap.size kv (roots md0.length ts) w2:=by
 obtain ⟨v',new,kv,he,hs,hr⟩:=ha
 have hl:(md0++postL md0.length []).length=md0.length:=by simp [postL]
 have hp:=hs.ps
 rw [hl] at hp hr
 rw [show md0++postL md0.length []=md0 by simp [postL],List.append_assoc] at hp
 rw [List.append_assoc] at hr
 exact ⟨v',n++new,kv,he,⟨hp,h.nw.append (hs.nw.mono h.fr.size),h.fr.trans (hs.fr.mono h.fr.size)⟩,⟨⟨new,rfl,hs.nw⟩,hs.fr⟩,hr⟩
end
end
section
open Go.RowKit
open Par (Less many many_err many_done many_more)
section
variable {E:Env}{v:Value}{kvs:List Value}{md:List Nd}{r:Nat}{l:List PT}{w:World}
theorem set_at (h:PS E v kvs md r l w)(p:Nat):Calls Tryz.prog 117 #[.pointer (some ⟨E.b,0,none⟩),.int .i64 (p:Int)] w (PostE E (setP r p l) fun a l'=>OkA E v kvs md r w a l'):=by
 have hr64:=h.r64
 have RM:=lh h.room
 have S1:=lh (St.start h)
 have hnot:=nt
 clear h
 go_enter Tryz.func117,Tryz.ntmps117
 have C2:=lh (cell_at S1.out.ps)
 go_wp2_with fail
 (with_reducible refine C2.out.mono ?_)
 rintro e w3 hP
 clear C2
 cases hx:cellP r l with
 | err pe ce =>
  obtain ⟨rfl,HB⟩:=pE hx hP
  replace hx:=lh hx
  go_wp2
  exact ⟨rfl,of_err (by simp only [setP,nodeA,Par.bind,hx.out]) HB.out⟩
 | ok ab l1 =>
  rw [hx] at hP
  have X4:=lh hx
  obtain ⟨v3,n3,rfl,S,T⟩:=S1.out.two hP
  clear hP hx
  have S5:=lh (S)
  clear S T S1
  have C6:=lh (expect_at S5.out.ps ⟨#[61]⟩ (by decide))
  go_wp2_with fail
  (with_reducible refine C6.out.mono ?_)
  rintro e w7 hP
  clear C6
  cases hx:expectP ⟨#[61]⟩ l1 with
  | err pe ce =>
   obtain ⟨rfl,HB⟩:=pE hx hP
   replace hx:=lh hx
   go_wp2
   exact ⟨rfl,of_err (by simp only [setP,nodeA,Par.bind,X4.out,hx.out]) HB.out⟩
  | ok p2 l2 =>
   rw [hx] at hP
   have X8:=lh hx
   obtain ⟨rfl,hs,hf⟩:=hP
   obtain ⟨S,T⟩:=S5.out.same hs hf
   clear hs hf hx
   have S9:=lh (S)
   clear S T S5
   have C10:=lh (exprR_at S9.out.ps)
   go_wp2_with fail
   (with_reducible refine C10.out.mono ?_)
   rintro e w11 hP
   clear C10
   cases hx:exprR r l2 with
   | err pe ce =>
    obtain ⟨rfl,HB⟩:=pE hx hP
    replace hx:=lh hx
    go_wp2
    exact ⟨rfl,of_err (by simp only [setP,nodeA,Par.bind,X4.out,X8.out,hx.out]) HB.out⟩
   | ok c l3 =>
    rw [hx] at hP
    have X12:=lh hx
    obtain ⟨v11,n11,rfl,S,T⟩:=S9.out.ast (ts':=[ab.1,ab.2,c]) hP rfl
    clear hP hx
    have S13:=lh (S)
    clear S T S9
    have R14:=lh (Rw.lit S13.out (q:=w11.heap.size) (by first|rfl|simp [World.setCell]) (ks:=roots md.length [ab.1,ab.2,c]) (cs:=#[.int .i64 (rootI (md.length+sizeL []) ab.1),.int .i64 (rootI (md.length+sizeL [ab.1]) ab.2),.int .i64 (rootI (md.length+sizeL [ab.1,ab.2]) c)]) (m:=3) (by simp [roots,rootI,sizeL]<;>omega) (by simp [roots]) (by omega))
    have S15:=lh (S13.out.alloc (.cells #[.int .i64 (rootI (md.length+sizeL []) ab.1),.int .i64 (rootI (md.length+sizeL [ab.1]) ab.2),.int .i64 (rootI (md.length+sizeL [ab.1,ab.2]) c)] 3))
    clear S13
    have C16:=lh (end_at (k:=8) (p:=p) (t:=none0) (nn:=0) (kz:=.slice none 0 0) S15.out R14.out rfl)
    go_wp2_with fail
    (with_reducible refine C16.out.mono ?_)
    rintro e wf hP
    have HR:setP r p l=endP (.mk 8 p none0 0 [ab.1,ab.2,c]) l3:=by simp only [setP,nodeA,Par.bind,X4.out,X8.out,X12.out]
    rw [← HR] at hP
    have hfin:=lh hP
    rcases post_form hP with ⟨z,rfl⟩|⟨ch,rfl⟩
    · clear hP HR C16
      go_wp2
      go_ret
      exact hfin.out
    · clear hP HR C16
      go_wp2
      exact ⟨rfl,hfin.out⟩
theorem delete_at (h:PS E v kvs md r l w)(p:Nat):Calls Tryz.prog 119 #[.pointer (some ⟨E.b,0,none⟩),.int .i64 (p:Int)] w (PostE E (deleteP r p l) fun a l'=>OkA E v kvs md r w a l'):=by
 have hr64:=h.r64
 have RM:=lh h.room
 have S1:=lh (St.start h)
 have hnot:=nt
 clear h
 go_enter Tryz.func119,Tryz.ntmps119
 have C2:=lh (row_at S1.out.ps)
 go_wp2_with fail
 (with_reducible refine C2.out.mono ?_)
 rintro e w3 hP
 clear C2
 cases hx:rowP r l with
 | err pe ce =>
  obtain ⟨rfl,HB⟩:=pE hx hP
  replace hx:=lh hx
  go_wp2
  exact ⟨rfl,of_err (by simp only [deleteP,nodeA,Par.bind,hx.out]) HB.out⟩
 | ok a l1 =>
  rw [hx] at hP
  have X4:=lh hx
  obtain ⟨v3,n3,rfl,S,T⟩:=S1.out.ast (ts':=[a]) hP rfl
  clear hP hx
  have S5:=lh (S)
  clear S T S1
  have R6:=lh (Rw.lit S5.out (q:=w3.heap.size) (by first|rfl|simp [World.setCell]) (ks:=roots md.length [a]) (cs:=#[.int .i64 (rootI (md.length+sizeL []) a)]) (m:=1) (by simp [roots,rootI,sizeL]<;>omega) (by simp [roots]) (by omega))
  have S7:=lh (S5.out.alloc (.cells #[.int .i64 (rootI (md.length+sizeL []) a)] 3))
  clear S5
  have C8:=lh (end_at (k:=10) (p:=p) (t:=none0) (nn:=0) (kz:=.slice none 0 0) S7.out R6.out rfl)
  go_wp2_with fail
  (with_reducible refine C8.out.mono ?_)
  rintro e wf hP
  have HR:deleteP r p l=endP (.mk 10 p none0 0 [a]) l1:=by simp only [deleteP,nodeA,Par.bind,X4.out]
  rw [← HR] at hP
  have hfin:=lh hP
  rcases post_form hP with ⟨z,rfl⟩|⟨ch,rfl⟩
  · clear hP HR C8
    go_wp2
    go_ret
    exact hfin.out
  · clear hP HR C8
    go_wp2
    exact ⟨rfl,hfin.out⟩
theorem emit_at (h:PS E v kvs md r l w)(p:Nat):Calls Tryz.prog 126 #[.pointer (some ⟨E.b,0,none⟩),.int .i64 (p:Int)] w (PostE E (emitP r p l) fun a l'=>OkA E v kvs md r w a l'):=by
 have hr64:=h.r64
 have RM:=lh h.room
 have S1:=lh (St.start h)
 have hnot:=nt
 clear h
 go_enter Tryz.func126,Tryz.ntmps126
 have C2:=lh (exprR_at S1.out.ps)
 go_wp2_with fail
 (with_reducible refine C2.out.mono ?_)
 rintro e w3 hP
 clear C2
 cases hx:exprR r l with
 | err pe ce =>
  obtain ⟨rfl,HB⟩:=pE hx hP
  replace hx:=lh hx
  go_wp2
  exact ⟨rfl,of_err (by simp only [emitP,nodeA,Par.bind,hx.out]) HB.out⟩
 | ok a l1 =>
  rw [hx] at hP
  have X4:=lh hx
  obtain ⟨v3,n3,rfl,S,T⟩:=S1.out.ast (ts':=[a]) hP rfl
  clear hP hx
  have S5:=lh (S)
  clear S T S1
  have R6:=lh (Rw.lit S5.out (q:=w3.heap.size) (by first|rfl|simp [World.setCell]) (ks:=roots md.length [a]) (cs:=#[.int .i64 (rootI (md.length+sizeL []) a)]) (m:=1) (by simp [roots,rootI,sizeL]<;>omega) (by simp [roots]) (by omega))
  have S7:=lh (S5.out.alloc (.cells #[.int .i64 (rootI (md.length+sizeL []) a)] 3))
  clear S5
  have C8:=lh (end_at (k:=17) (p:=p) (t:=none0) (nn:=0) (kz:=.slice none 0 0) S7.out R6.out rfl)
  go_wp2_with fail
  (with_reducible refine C8.out.mono ?_)
  rintro e wf hP
  have HR:emitP r p l=endP (.mk 17 p none0 0 [a]) l1:=by simp only [emitP,nodeA,Par.bind,X4.out]
  rw [← HR] at hP
  have hfin:=lh hP
  rcases post_form hP with ⟨z,rfl⟩|⟨ch,rfl⟩
  · clear hP HR C8
    go_wp2
    go_ret
    exact hfin.out
  · clear hP HR C8
    go_wp2
    exact ⟨rfl,hfin.out⟩
theorem rollback_at (h:PS E v kvs md r l w)(p:Nat):Calls Tryz.prog 127 #[.pointer (some ⟨E.b,0,none⟩),.int .i64 (p:Int)] w (PostE E (rollbackP p l) fun a l'=>OkA E v kvs md r w a l'):=by
 have hr64:=h.r64
 have RM:=lh h.room
 have S1:=lh (St.start h)
 have hnot:=nt
 clear h
 go_enter Tryz.func127,Tryz.ntmps127
 have RN:Hid (Rw E v (kvs++[]) w.heap.size (.slice none 0 0) [] w):=lh Rw.nil
 have C2:=lh (end_at (k:=18) (p:=p) (t:=none0) (nn:=0) (kz:=.slice none 0 0) S1.out RN.out rfl)
 go_wp2_with fail
 (with_reducible refine C2.out.mono ?_)
 rintro e wf hP
 have HR:rollbackP p l=endP (.mk 18 p none0 0 []) l:=by simp only [rollbackP,nodeA,Par.bind]
 rw [← HR] at hP
 have hfin:=lh hP
 rcases post_form hP with ⟨z,rfl⟩|⟨ch,rfl⟩
 · clear hP HR C2
   go_wp2
   go_ret
   exact hfin.out
 · clear hP HR C2
   go_wp2
   exact ⟨rfl,hfin.out⟩
theorem chop_at (h:PS E v kvs md r l w)(p:Nat):Calls Tryz.prog 128 #[.pointer (some ⟨E.b,0,none⟩),.int .i64 (p:Int)] w (PostE E (chopP p l) fun a l'=>OkA E v kvs md r w a l'):=by
 have hr64:=h.r64
 have RM:=lh h.room
 have S1:=lh (St.start h)
 have hnot:=nt
 clear h
 go_enter Tryz.func128,Tryz.ntmps128
 have RN:Hid (Rw E v (kvs++[]) w.heap.size (.slice none 0 0) [] w):=lh Rw.nil
 have C2:=lh (end_at (k:=19) (p:=p) (t:=none0) (nn:=0) (kz:=.slice none 0 0) S1.out RN.out rfl)
 go_wp2_with fail
 (with_reducible refine C2.out.mono ?_)
 rintro e wf hP
 have HR:chopP p l=endP (.mk 19 p none0 0 []) l:=by simp only [chopP,nodeA,Par.bind]
 rw [← HR] at hP
 have hfin:=lh hP
 rcases post_form hP with ⟨z,rfl⟩|⟨ch,rfl⟩
 · clear hP HR C2
   go_wp2
   go_ret
   exact hfin.out
 · clear hP HR C2
   go_wp2
   exact ⟨rfl,hfin.out⟩
theorem let_at (h:PS E v kvs md r l w)(p:Nat):Calls Tryz.prog 125 #[.pointer (some ⟨E.b,0,none⟩),.int .i64 (p:Int)] w (PostE E (letP r p l) fun a l'=>OkA E v kvs md r w a l'):=by
 have hr64:=h.r64
 have RM:=lh h.room
 have S1:=lh (St.start h)
 have hnot:=nt
 clear h
 go_enter Tryz.func125,Tryz.ntmps125
 have C2:=lh (named_at S1.out.ps 16 p)
 go_wp2_with fail
 (with_reducible refine C2.out.mono ?_)
 rintro e w3 hP
 clear C2
 cases hx:takeP 1 l with
 | err pe ce =>
  obtain ⟨rfl,HB⟩:=pE hx hP
  replace hx:=lh hx
  go_wp2
  exact ⟨rfl,of_err (by simp only [letP,Par.bind,hx.out]) HB.out⟩
 | ok t l1 =>
  rw [hx] at hP
  have X4:=lh hx
  obtain ⟨rfl,hs,hf⟩:=hP
  obtain ⟨S,T⟩:=S1.out.same hs hf
  clear hs hf hx
  have S5:=lh (S)
  clear S T S1
  have S6:=lh (S5.out.alloc (.cells #[.int .u8 16,.int .i64 (p:Int),.string t.txt,.int .i64 0,.slice none 0 0] 54))
  have Q7:Hid (w.heap.size≤w3.heap.size):=lh S5.out.fr.size
  have L8:=lh (Lcl.new S5.out.ps (.cells #[.int .u8 16,.int .i64 (p:Int),.string t.txt,.int .i64 0,.slice none 0 0] 54))
  clear S5
  have C9:=lh (expect_at S6.out.ps ⟨#[61]⟩ (by decide))
  go_wp2_with fail
  (with_reducible refine C9.out.mono ?_)
  rintro e w10 hP
  clear C9
  cases hx:expectP ⟨#[61]⟩ l1 with
  | err pe ce =>
   obtain ⟨rfl,HB⟩:=pE hx hP
   replace hx:=lh hx
   go_wp2
   exact ⟨rfl,of_err (by simp only [letP,Par.bind,X4.out,hx.out]) HB.out⟩
  | ok p2 l2 =>
   rw [hx] at hP
   have X11:=lh hx
   obtain ⟨rfl,hs,hf⟩:=hP
   obtain ⟨S,T⟩:=S6.out.same hs hf
   clear hs hf hx
   have L12:=lh (L8.out.tr T)
   have S13:=lh (S)
   clear S T S6 L8
   have c14:=L12.out.cell 0 rfl
   have c15:=L12.out.cell 1 rfl
   have c16:=L12.out.cell 2 rfl
   have c17:=L12.out.cell 3 rfl
   have c18:=L12.out.cell 4 rfl
   have z19:=L12.out.fz
   have C20:=lh (exprR_at S13.out.ps)
   go_wp2_with fail
   clear c14 c15 c16 c17 c18 z19
   (with_reducible refine C20.out.mono ?_)
   rintro e w21 hP
   clear C20
   cases hx:exprR r l2 with
   | err pe ce =>
    obtain ⟨rfl,HB⟩:=pE hx hP
    replace hx:=lh hx
    go_wp2
    exact ⟨rfl,of_err (by simp only [letP,Par.bind,X4.out,X11.out,hx.out]) HB.out⟩
   | ok a l3 =>
    rw [hx] at hP
    have X22:=lh hx
    obtain ⟨v21,n21,rfl,S,T⟩:=S13.out.ast (ts':=[a]) hP rfl
    clear hP hx
    have L23:=lh (L12.out.tr T)
    have S24:=lh (S)
    clear S T S13 L12
    have c25:=L23.out.cell 0 rfl
    have c26:=L23.out.cell 1 rfl
    have c27:=L23.out.cell 2 rfl
    have c28:=L23.out.cell 3 rfl
    have c29:=L23.out.cell 4 rfl
    have z30:=L23.out.fz
    have R31:=lh (Rw.lit S24.out (q:=w21.heap.size) (by first|rfl|simp [World.setCell]) (ks:=roots md.length [a]) (cs:=#[.int .i64 (rootI (md.length+sizeL []) a)]) (m:=1) (by simp [roots,rootI,sizeL]<;>omega) (by simp [roots]) (by omega))
    have S32:=lh (S24.out.alloc (.cells #[.int .i64 (rootI (md.length+sizeL []) a)] 3))
    have L33:=lh (L23.out.alloc (.cells #[.int .i64 (rootI (md.length+sizeL []) a)] 3))
    clear S24 L23
    have C34:=lh (end_at (k:=16) (p:=p) (t:=t.txt) (nn:=0) (kz:=.slice none 0 0) S32.out R31.out rfl)
    go_wp2_with fail
    clear c25 c26 c27 c28 c29 z30
    (with_reducible refine C34.out.mono ?_)
    rintro e wf hP
    have HR:letP r p l=endP (.mk 16 p t.txt 0 [a]) l3:=by simp only [letP,Par.bind,X4.out,X11.out,X22.out]
    rw [← HR] at hP
    have hfin:=lh hP
    rcases post_form hP with ⟨z,rfl⟩|⟨ch,rfl⟩
    · clear hP HR C34
      go_wp2
      go_ret
      exact hfin.out
    · clear hP HR C34
      go_wp2
      exact ⟨rfl,hfin.out⟩
theorem scan_at (h:PS E v kvs md r l w)(p:Nat):Calls Tryz.prog 120 #[.pointer (some ⟨E.b,0,none⟩),.int .i64 (p:Int)] w (PostE E (scanP p l) fun a l'=>OkA E v kvs md r w a l'):=by
 have hr64:=h.r64
 have RM:=lh h.room
 have S1:=lh (St.start h)
 have hnot:=nt
 clear h
 go_enter Tryz.func120,Tryz.ntmps120
 have C2:=lh (named_at S1.out.ps 11 p)
 go_wp2_with fail
 (with_reducible refine C2.out.mono ?_)
 rintro e w3 hP
 clear C2
 cases hx:takeP 1 l with
 | err pe ce =>
  obtain ⟨rfl,HB⟩:=pE hx hP
  replace hx:=lh hx
  go_wp2
  exact ⟨rfl,of_err (by simp only [scanP,Par.bind,hx.out]) HB.out⟩
 | ok t l1 =>
  rw [hx] at hP
  have X4:=lh hx
  obtain ⟨rfl,hs,hf⟩:=hP
  obtain ⟨S,T⟩:=S1.out.same hs hf
  clear hs hf hx
  have S5:=lh (S)
  clear S T S1
  have S6:=lh (S5.out.alloc (.cells #[.int .u8 11,.int .i64 (p:Int),.string t.txt,.int .i64 0,.slice none 0 0] 54))
  have Q7:Hid (w.heap.size≤w3.heap.size):=lh S5.out.fr.size
  have L8:=lh (Lcl.new S5.out.ps (.cells #[.int .u8 11,.int .i64 (p:Int),.string t.txt,.int .i64 0,.slice none 0 0] 54))
  clear S5
  have C9:=lh (expect_at S6.out.ps ⟨#[61]⟩ (by decide))
  go_wp2_with fail
  (with_reducible refine C9.out.mono ?_)
  rintro e w10 hP
  clear C9
  cases hx:expectP ⟨#[61]⟩ l1 with
  | err pe ce =>
   obtain ⟨rfl,HB⟩:=pE hx hP
   replace hx:=lh hx
   go_wp2
   exact ⟨rfl,of_err (by simp only [scanP,Par.bind,X4.out,hx.out]) HB.out⟩
  | ok p2 l2 =>
   rw [hx] at hP
   have X11:=lh hx
   obtain ⟨rfl,hs,hf⟩:=hP
   obtain ⟨S,T⟩:=S6.out.same hs hf
   clear hs hf hx
   have L12:=lh (L8.out.tr T)
   have S13:=lh (S)
   clear S T S6 L8
   have c14:=L12.out.cell 0 rfl
   have c15:=L12.out.cell 1 rfl
   have c16:=L12.out.cell 2 rfl
   have c17:=L12.out.cell 3 rfl
   have c18:=L12.out.cell 4 rfl
   have z19:=L12.out.fz
   have C20:=lh (word_at S13.out.ps)
   go_wp2_with fail
   clear c14 c15 c16 c17 c18 z19
   (with_reducible refine C20.out.mono ?_)
   rintro e w21 hP
   clear C20
   cases hx:wordP l2 with
   | err pe ce =>
    obtain ⟨rfl,HB⟩:=pE hx hP
    replace hx:=lh hx
    go_wp2
    exact ⟨rfl,of_err (by simp only [scanP,Par.bind,X4.out,X11.out,hx.out]) HB.out⟩
   | ok a l3 =>
    rw [hx] at hP
    have X22:=lh hx
    obtain ⟨v21,n21,rfl,S,T⟩:=S13.out.ast (ts':=[a]) hP rfl
    clear hP hx
    have L23:=lh (L12.out.tr T)
    have S24:=lh (S)
    clear S T S13 L12
    have c25:=L23.out.cell 0 rfl
    have c26:=L23.out.cell 1 rfl
    have c27:=L23.out.cell 2 rfl
    have c28:=L23.out.cell 3 rfl
    have c29:=L23.out.cell 4 rfl
    have z30:=L23.out.fz
    have C31:=lh (expect_at S24.out.ps ⟨#[46]⟩ (by decide))
    go_wp2_with fail
    clear c25 c26 c27 c28 c29 z30
    (with_reducible refine C31.out.mono ?_)
    rintro e w32 hP
    clear C31
    cases hx:expectP ⟨#[46]⟩ l3 with
    | err pe ce =>
     obtain ⟨rfl,HB⟩:=pE hx hP
     replace hx:=lh hx
     go_wp2
     exact ⟨rfl,of_err (by simp only [scanP,Par.bind,X4.out,X11.out,X22.out,hx.out]) HB.out⟩
    | ok p4 l4 =>
     rw [hx] at hP
     have X33:=lh hx
     obtain ⟨rfl,hs,hf⟩:=hP
     obtain ⟨S,T⟩:=S24.out.same hs hf
     clear hs hf hx
     have L34:=lh (L23.out.tr T)
     have S35:=lh (S)
     clear S T S24 L23
     have c36:=L34.out.cell 0 rfl
     have c37:=L34.out.cell 1 rfl
     have c38:=L34.out.cell 2 rfl
     have c39:=L34.out.cell 3 rfl
     have c40:=L34.out.cell 4 rfl
     have z41:=L34.out.fz
     have C42:=lh (word_at S35.out.ps)
     go_wp2_with fail
     clear c36 c37 c38 c39 c40 z41
     (with_reducible refine C42.out.mono ?_)
     rintro e w43 hP
     clear C42
     cases hx:wordP l4 with
     | err pe ce =>
      obtain ⟨rfl,HB⟩:=pE hx hP
      replace hx:=lh hx
      go_wp2
      exact ⟨rfl,of_err (by simp only [scanP,Par.bind,X4.out,X11.out,X22.out,X33.out,hx.out]) HB.out⟩
     | ok b l5 =>
      rw [hx] at hP
      have X44:=lh hx
      obtain ⟨v43,n43,rfl,S,T⟩:=S35.out.ast (ts':=[a,b]) hP rfl
      clear hP hx
      have L45:=lh (L34.out.tr T)
      have S46:=lh (S)
      clear S T S35 L34
      have c47:=L45.out.cell 0 rfl
      have c48:=L45.out.cell 1 rfl
      have c49:=L45.out.cell 2 rfl
      have c50:=L45.out.cell 3 rfl
      have c51:=L45.out.cell 4 rfl
      have z52:=L45.out.fz
      have R53:=lh (Rw.lit S46.out (q:=w43.heap.size) (by first|rfl|simp [World.setCell]) (ks:=roots md.length [a,b]) (cs:=#[.int .i64 (rootI (md.length+sizeL []) a),.int .i64 (rootI (md.length+sizeL [a]) b)]) (m:=2) (by simp [roots,rootI,sizeL]<;>omega) (by simp [roots]) (by omega))
      have S54:=lh (S46.out.alloc (.cells #[.int .i64 (rootI (md.length+sizeL []) a),.int .i64 (rootI (md.length+sizeL [a]) b)] 3))
      have L55:=lh (L45.out.alloc (.cells #[.int .i64 (rootI (md.length+sizeL []) a),.int .i64 (rootI (md.length+sizeL [a]) b)] 3))
      clear S46 L45
      have C56:=lh (end_at (k:=11) (p:=p) (t:=t.txt) (nn:=0) (kz:=.slice none 0 0) S54.out R53.out rfl)
      go_wp2_with fail
      clear c47 c48 c49 c50 c51 z52
      (with_reducible refine C56.out.mono ?_)
      rintro e wf hP
      have HR:scanP p l=endP (.mk 11 p t.txt 0 [a,b]) l5:=by simp only [scanP,Par.bind,X4.out,X11.out,X22.out,X33.out,X44.out]
      rw [← HR] at hP
      have hfin:=lh hP
      rcases post_form hP with ⟨z,rfl⟩|⟨ch,rfl⟩
      · clear hP HR C56
        go_wp2
        go_ret
        exact hfin.out
      · clear hP HR C56
        go_wp2
        exact ⟨rfl,hfin.out⟩
theorem read_at (h:PS E v kvs md r l w)(p:Nat):Calls Tryz.prog 116 #[.pointer (some ⟨E.b,0,none⟩),.int .i64 (p:Int)] w (PostE E (readP r p l) fun a l'=>OkA E v kvs md r w a l'):=by
 have hr64:=h.r64
 have RM:=lh h.room
 have S1:=lh (St.start h)
 have hnot:=nt
 clear h
 go_enter Tryz.func116,Tryz.ntmps116
 have C2:=lh (named_at S1.out.ps 7 p)
 go_wp2_with fail
 (with_reducible refine C2.out.mono ?_)
 rintro e w3 hP
 clear C2
 cases hx:takeP 1 l with
 | err pe ce =>
  obtain ⟨rfl,HB⟩:=pE hx hP
  replace hx:=lh hx
  go_wp2
  exact ⟨rfl,of_err (by simp only [readP,Par.bind,hx.out]) HB.out⟩
 | ok t l1 =>
  rw [hx] at hP
  have X4:=lh hx
  obtain ⟨rfl,hs,hf⟩:=hP
  obtain ⟨S,T⟩:=S1.out.same hs hf
  clear hs hf hx
  have S5:=lh (S)
  clear S T S1
  have S6:=lh (S5.out.alloc (.cells #[.int .u8 7,.int .i64 (p:Int),.string t.txt,.int .i64 0,.slice none 0 0] 54))
  have Q7:Hid (w.heap.size≤w3.heap.size):=lh S5.out.fr.size
  have L8:=lh (Lcl.new S5.out.ps (.cells #[.int .u8 7,.int .i64 (p:Int),.string t.txt,.int .i64 0,.slice none 0 0] 54))
  clear S5
  have C9:=lh (expect_at S6.out.ps ⟨#[61]⟩ (by decide))
  go_wp2_with fail
  (with_reducible refine C9.out.mono ?_)
  rintro e w10 hP
  clear C9
  cases hx:expectP ⟨#[61]⟩ l1 with
  | err pe ce =>
   obtain ⟨rfl,HB⟩:=pE hx hP
   replace hx:=lh hx
   go_wp2
   exact ⟨rfl,of_err (by simp only [readP,Par.bind,X4.out,hx.out]) HB.out⟩
  | ok p2 l2 =>
   rw [hx] at hP
   have X11:=lh hx
   obtain ⟨rfl,hs,hf⟩:=hP
   obtain ⟨S,T⟩:=S6.out.same hs hf
   clear hs hf hx
   have L12:=lh (L8.out.tr T)
   have S13:=lh (S)
   clear S T S6 L8
   have c14:=L12.out.cell 0 rfl
   have c15:=L12.out.cell 1 rfl
   have c16:=L12.out.cell 2 rfl
   have c17:=L12.out.cell 3 rfl
   have c18:=L12.out.cell 4 rfl
   have z19:=L12.out.fz
   have C20:=lh (cell_at S13.out.ps)
   go_wp2_with fail
   clear c14 c15 c16 c17 c18 z19
   (with_reducible refine C20.out.mono ?_)
   rintro e w21 hP
   clear C20
   cases hx:cellP r l2 with
   | err pe ce =>
    obtain ⟨rfl,HB⟩:=pE hx hP
    replace hx:=lh hx
    go_wp2
    exact ⟨rfl,of_err (by simp only [readP,Par.bind,X4.out,X11.out,hx.out]) HB.out⟩
   | ok ab l3 =>
    rw [hx] at hP
    have X22:=lh hx
    obtain ⟨v21,n21,rfl,S,T⟩:=S13.out.two hP
    clear hP hx
    have L23:=lh (L12.out.tr T)
    have S24:=lh (S)
    clear S T S13 L12
    have c25:=L23.out.cell 0 rfl
    have c26:=L23.out.cell 1 rfl
    have c27:=L23.out.cell 2 rfl
    have c28:=L23.out.cell 3 rfl
    have c29:=L23.out.cell 4 rfl
    have z30:=L23.out.fz
    have C31:=lh (skip_at S24.out.ps ⟨#[102,111,114]⟩ (by decide))
    go_wp2_with fail
    clear c25 c26 c27 c28 c29 z30
    (with_reducible refine C31.out.mono ?_)
    rintro e w32 hP
    clear C31
    cases hx:skipP ⟨#[102,111,114]⟩ l3 with
    | err pe ce =>
     obtain ⟨rfl,HB⟩:=pE hx hP
     replace hx:=lh hx
     go_wp2
     exact ⟨rfl,of_err (by simp only [readP,Par.bind,X4.out,X11.out,X22.out,hx.out]) HB.out⟩
    | ok u l4 =>
     rw [hx] at hP
     cases u with
     | false =>
      have X33:=lh hx
      obtain ⟨rfl,hs,hf⟩:=hP
      obtain ⟨S,T⟩:=S24.out.same hs hf
      clear hs hf hx
      have L34:=lh (L23.out.tr T)
      have S35:=lh (S)
      clear S T S24 L23
      have c36:=L34.out.cell 0 rfl
      have c37:=L34.out.cell 1 rfl
      have c38:=L34.out.cell 2 rfl
      have c39:=L34.out.cell 3 rfl
      have c40:=L34.out.cell 4 rfl
      have z41:=L34.out.fz
      have R42:=lh (Rw.lit S35.out (q:=w32.heap.size) (by first|rfl|simp [World.setCell]) (ks:=roots md.length [ab.1,ab.2]) (cs:=#[.int .i64 (rootI (md.length+sizeL []) ab.1),.int .i64 (rootI (md.length+sizeL [ab.1]) ab.2)]) (m:=2) (by simp [roots,rootI,sizeL]<;>omega) (by simp [roots]) (by omega))
      have S43:=lh (S35.out.alloc (.cells #[.int .i64 (rootI (md.length+sizeL []) ab.1),.int .i64 (rootI (md.length+sizeL [ab.1]) ab.2)] 3))
      have L44:=lh (L34.out.alloc (.cells #[.int .i64 (rootI (md.length+sizeL []) ab.1),.int .i64 (rootI (md.length+sizeL [ab.1]) ab.2)] 3))
      clear S35 L34
      have C45:=lh (end_at (k:=7) (p:=p) (t:=t.txt) (nn:=0) (kz:=.slice none 0 0) S43.out R42.out rfl)
      go_wp2_with fail
      clear c36 c37 c38 c39 c40 z41
      (with_reducible refine C45.out.mono ?_)
      rintro e wf hP
      have HR:readP r p l=endP (.mk 7 p t.txt 0 [ab.1,ab.2]) l4:=by simp only [readP,Par.bind,X4.out,X11.out,X22.out,X33.out]
      rw [← HR] at hP
      have hfin:=lh hP
      rcases post_form hP with ⟨z,rfl⟩|⟨ch,rfl⟩
      · clear hP HR C45
        go_wp2
        go_ret
        exact hfin.out
      · clear hP HR C45
        go_wp2
        exact ⟨rfl,hfin.out⟩
     | true =>
      have X33:=lh hx
      obtain ⟨rfl,hs,hf⟩:=hP
      obtain ⟨S,T⟩:=S24.out.same hs hf
      clear hs hf hx
      have L34:=lh (L23.out.tr T)
      have S35:=lh (S)
      clear S T S24 L23
      have c36:=L34.out.cell 0 rfl
      have c37:=L34.out.cell 1 rfl
      have c38:=L34.out.cell 2 rfl
      have c39:=L34.out.cell 3 rfl
      have c40:=L34.out.cell 4 rfl
      have z41:=L34.out.fz
      have C42:=lh (expect_at S35.out.ps ⟨#[117,112,100,97,116,101]⟩ (by decide))
      go_wp2_with fail
      clear c36 c37 c38 c39 c40 z41
      (with_reducible refine C42.out.mono ?_)
      rintro e w43 hP
      clear C42
      cases hx:expectP ⟨#[117,112,100,97,116,101]⟩ l4 with
      | err pe ce =>
       obtain ⟨rfl,HB⟩:=pE hx hP
       replace hx:=lh hx
       go_wp2
       exact ⟨rfl,of_err (by simp only [readP,Par.bind,X4.out,X11.out,X22.out,X33.out,hx.out]) HB.out⟩
      | ok p5 l5 =>
       rw [hx] at hP
       have X44:=lh hx
       obtain ⟨rfl,hs,hf⟩:=hP
       obtain ⟨S,T⟩:=S35.out.same hs hf
       clear hs hf hx
       have L45:=lh (L34.out.tr T)
       have S46:=lh (S)
       clear S T S35 L34
       have c47:=L45.out.cell 0 rfl
       have c48:=L45.out.cell 1 rfl
       have c49:=L45.out.cell 2 rfl
       have c50:=L45.out.cell 3 rfl
       have c51:=L45.out.cell 4 rfl
       have z52:=L45.out.fz
       have S53:=lh (S46.out.set (a:=⟨w3.heap.size,3,none⟩) L45.out.loc Q7.out (.int .i64 1))
       have L54:=lh (L45.out.set 3 (.int .i64 1))
       clear S46 L45
       have R55:=lh (Rw.lit S53.out (q:=w43.heap.size) (by first|rfl|simp [World.setCell]) (ks:=roots md.length [ab.1,ab.2]) (cs:=#[.int .i64 (rootI (md.length+sizeL []) ab.1),.int .i64 (rootI (md.length+sizeL [ab.1]) ab.2)]) (m:=2) (by simp [roots,rootI,sizeL]<;>omega) (by simp [roots]) (by omega))
       have S56:=lh (S53.out.alloc (.cells #[.int .i64 (rootI (md.length+sizeL []) ab.1),.int .i64 (rootI (md.length+sizeL [ab.1]) ab.2)] 3))
       have L57:=lh (L54.out.alloc (.cells #[.int .i64 (rootI (md.length+sizeL []) ab.1),.int .i64 (rootI (md.length+sizeL [ab.1]) ab.2)] 3))
       clear S53 L54
       have C58:=lh (end_at (k:=7) (p:=p) (t:=t.txt) (nn:=1) (kz:=.slice none 0 0) S56.out R55.out rfl)
       go_wp2_with fail
       clear c47 c48 c49 c50 c51 z52
       (with_reducible refine C58.out.mono ?_)
       rintro e wf hP
       have HR:readP r p l=endP (.mk 7 p t.txt 1 [ab.1,ab.2]) l5:=by simp only [readP,Par.bind,X4.out,X11.out,X22.out,X33.out,X44.out]
       rw [← HR] at hP
       have hfin:=lh hP
       rcases post_form hP with ⟨z,rfl⟩|⟨ch,rfl⟩
       · clear hP HR C58
         go_wp2
         go_ret
         exact hfin.out
       · clear hP HR C58
         go_wp2
         exact ⟨rfl,hfin.out⟩
theorem lock_at (h:PS E v kvs md r l w)(p:Nat):Calls Tryz.prog 121 #[.pointer (some ⟨E.b,0,none⟩),.int .i64 (p:Int)] w (PostE E (lockP p l) fun a l'=>OkA E v kvs md r w a l'):=by
 have hr64:=h.r64
 have RM:=lh h.room
 have S1:=lh (St.start h)
 have hnot:=nt
 clear h
 have S2:=lh (S1.out.alloc (.cells #[.int .u8 12,.int .i64 (p:Int),.string ⟨#[]⟩,.int .i64 0,.slice none 0 0] 54))
 have Q3:Hid (w.heap.size≤w.heap.size):=lh S1.out.fr.size
 have L4:=lh (Lcl.new S1.out.ps (.cells #[.int .u8 12,.int .i64 (p:Int),.string ⟨#[]⟩,.int .i64 0,.slice none 0 0] 54))
 clear S1
 go_enter Tryz.func121,Tryz.ntmps121
 have C5:=lh (word_at S2.out.ps)
 go_wp2_with fail
 (with_reducible refine C5.out.mono ?_)
 rintro e w6 hP
 clear C5
 cases hx:wordP l with
 | err pe ce =>
  obtain ⟨rfl,HB⟩:=pE hx hP
  replace hx:=lh hx
  go_wp2
  exact ⟨rfl,of_err (by simp only [lockP,Par.bind,hx.out]) HB.out⟩
 | ok a l1 =>
  rw [hx] at hP
  have X7:=lh hx
  obtain ⟨v6,n6,rfl,S,T⟩:=S2.out.ast (ts':=[a]) hP rfl
  clear hP hx
  have L8:=lh (L4.out.tr T)
  have S9:=lh (S)
  clear S T S2 L4
  have c10:=L8.out.cell 0 rfl
  have c11:=L8.out.cell 1 rfl
  have c12:=L8.out.cell 2 rfl
  have c13:=L8.out.cell 3 rfl
  have c14:=L8.out.cell 4 rfl
  have z15:=L8.out.fz
  have C16:=lh (skip_at S9.out.ps ⟨#[97,108,108]⟩ (by decide))
  go_wp2_with fail
  clear c10 c11 c12 c13 c14 z15
  (with_reducible refine C16.out.mono ?_)
  rintro e w17 hP
  clear C16
  cases hx:skipP ⟨#[97,108,108]⟩ l1 with
  | err pe ce =>
   obtain ⟨rfl,HB⟩:=pE hx hP
   replace hx:=lh hx
   go_wp2
   exact ⟨rfl,of_err (by simp only [lockP,Par.bind,X7.out,hx.out]) HB.out⟩
  | ok u l2 =>
   rw [hx] at hP
   cases u with
   | false =>
    have X18:=lh hx
    obtain ⟨rfl,hs,hf⟩:=hP
    obtain ⟨S,T⟩:=S9.out.same hs hf
    clear hs hf hx
    have L19:=lh (L8.out.tr T)
    have S20:=lh (S)
    clear S T S9 L8
    have c21:=L19.out.cell 0 rfl
    have c22:=L19.out.cell 1 rfl
    have c23:=L19.out.cell 2 rfl
    have c24:=L19.out.cell 3 rfl
    have c25:=L19.out.cell 4 rfl
    have z26:=L19.out.fz
    have C27:=lh (expect_at S20.out.ps ⟨#[115,104,97,114,101,100]⟩ (by decide))
    go_wp2_with fail
    clear c21 c22 c23 c24 c25 z26
    (with_reducible refine C27.out.mono ?_)
    rintro e w28 hP
    clear C27
    cases hx:expectP ⟨#[115,104,97,114,101,100]⟩ l2 with
    | err pe ce =>
     obtain ⟨rfl,HB⟩:=pE hx hP
     replace hx:=lh hx
     go_wp2
     exact ⟨rfl,of_err (by simp only [lockP,Par.bind,X7.out,X18.out,hx.out]) HB.out⟩
    | ok p3 l3 =>
     rw [hx] at hP
     have X29:=lh hx
     obtain ⟨rfl,hs,hf⟩:=hP
     obtain ⟨S,T⟩:=S20.out.same hs hf
     clear hs hf hx
     have L30:=lh (L19.out.tr T)
     have S31:=lh (S)
     clear S T S20 L19
     have c32:=L30.out.cell 0 rfl
     have c33:=L30.out.cell 1 rfl
     have c34:=L30.out.cell 2 rfl
     have c35:=L30.out.cell 3 rfl
     have c36:=L30.out.cell 4 rfl
     have z37:=L30.out.fz
     have R38:=lh (Rw.lit S31.out (q:=w28.heap.size) (by first|rfl|simp [World.setCell]) (ks:=roots md.length [a]) (cs:=#[.int .i64 (rootI (md.length+sizeL []) a)]) (m:=1) (by simp [roots,rootI,sizeL]<;>omega) (by simp [roots]) (by omega))
     have S39:=lh (S31.out.alloc (.cells #[.int .i64 (rootI (md.length+sizeL []) a)] 3))
     have L40:=lh (L30.out.alloc (.cells #[.int .i64 (rootI (md.length+sizeL []) a)] 3))
     clear S31 L30
     have C41:=lh (end_at (k:=12) (p:=p) (t:=none0) (nn:=0) (kz:=.slice none 0 0) S39.out R38.out rfl)
     go_wp2_with fail
     clear c32 c33 c34 c35 c36 z37
     (with_reducible refine C41.out.mono ?_)
     rintro e wf hP
     have HR:lockP p l=endP (.mk 12 p none0 0 [a]) l3:=by simp only [lockP,Par.bind,X7.out,X18.out,X29.out]
     rw [← HR] at hP
     have hfin:=lh hP
     rcases post_form hP with ⟨z,rfl⟩|⟨ch,rfl⟩
     · clear hP HR C41
       go_wp2
       go_ret
       exact hfin.out
     · clear hP HR C41
       go_wp2
       exact ⟨rfl,hfin.out⟩
   | true =>
    have X18:=lh hx
    obtain ⟨rfl,hs,hf⟩:=hP
    obtain ⟨S,T⟩:=S9.out.same hs hf
    clear hs hf hx
    have L19:=lh (L8.out.tr T)
    have S20:=lh (S)
    clear S T S9 L8
    have c21:=L19.out.cell 0 rfl
    have c22:=L19.out.cell 1 rfl
    have c23:=L19.out.cell 2 rfl
    have c24:=L19.out.cell 3 rfl
    have c25:=L19.out.cell 4 rfl
    have z26:=L19.out.fz
    have S27:=lh (S20.out.set (a:=⟨w.heap.size,3,none⟩) L19.out.loc Q3.out (.int .i64 1))
    have L28:=lh (L19.out.set 3 (.int .i64 1))
    clear S20 L19
    have R29:=lh (Rw.lit S27.out (q:=w17.heap.size) (by first|rfl|simp [World.setCell]) (ks:=roots md.length [a]) (cs:=#[.int .i64 (rootI (md.length+sizeL []) a)]) (m:=1) (by simp [roots,rootI,sizeL]<;>omega) (by simp [roots]) (by omega))
    have S30:=lh (S27.out.alloc (.cells #[.int .i64 (rootI (md.length+sizeL []) a)] 3))
    have L31:=lh (L28.out.alloc (.cells #[.int .i64 (rootI (md.length+sizeL []) a)] 3))
    clear S27 L28
    have C32:=lh (end_at (k:=12) (p:=p) (t:=none0) (nn:=1) (kz:=.slice none 0 0) S30.out R29.out rfl)
    go_wp2_with fail
    clear c21 c22 c23 c24 c25 z26
    (with_reducible refine C32.out.mono ?_)
    rintro e wf hP
    have HR:lockP p l=endP (.mk 12 p none0 1 [a]) l2:=by simp only [lockP,Par.bind,X7.out,X18.out]
    rw [← HR] at hP
    have hfin:=lh hP
    rcases post_form hP with ⟨z,rfl⟩|⟨ch,rfl⟩
    · clear hP HR C32
      go_wp2
      go_ret
      exact hfin.out
    · clear hP HR C32
      go_wp2
      exact ⟨rfl,hfin.out⟩
end
end
section
open Go.RowKit
open Par (Less many many_err many_done many_more)
section
variable {E:Env}{v:Value}{kvs:List Value}{md:List Nd}{r:Nat}{l:List PT}{w:World}
theorem words_at (h:PS E v kvs md r l w):Calls Tryz.prog 205 #[.pointer (some ⟨E.b,0,none⟩)] w (PostE E (wordsP l) fun a l'=>OkL E v kvs md r w a l'):=by
 have hr64:=h.r64
 have RM:=lh h.room
 have S1:=lh (St.start h)
 have hnot:=nt
 clear h
 go_enter Tryz.func205,Tryz.ntmps205
 have C2:=lh (word_at S1.out.ps)
 go_wp2_with fail
 (with_reducible refine C2.out.mono ?_)
 rintro e w3 hP
 clear C2
 cases hx:wordP l with
 | err pe ce =>
  obtain ⟨rfl,HB⟩:=pE hx hP
  replace hx:=lh hx
  go_wp2
  exact ⟨rfl,of_err (by simp only [wordsP,Par.bind,hx.out]) HB.out⟩
 | ok a l1 =>
  rw [hx] at hP
  have X4:=lh hx
  obtain ⟨v3,n3,rfl,S,T⟩:=S1.out.ast (ts':=[a]) hP rfl
  clear hP hx
  have S5:=lh (S)
  clear S T S1
  have R6:=lh (Rw.lit S5.out (q:=w3.heap.size) (by first|rfl|simp [World.setCell]) (ks:=roots md.length [a]) (cs:=#[.int .i64 (rootI (md.length+sizeL []) a)]) (m:=1) (by simp [roots,rootI,sizeL]<;>omega) (by simp [roots]) (by omega))
  have S7:=lh (S5.out.alloc (.cells #[.int .i64 (rootI (md.length+sizeL []) a)] 3))
  clear S5
  obtain ⟨i0,hi,hz0,hz1,hz2⟩:=info_partsP infoInt
  have I0:=lh hi
  have I1:=lh hz0
  have I2:=lh hz1
  have I3:=lh hz2
  clear hi hz0 hz1 hz2
  go_wp2_with fail
  go_loopw [3] (fun kvL wr=>∃(ts:List Ast) (lk:List PT) (vk:Value) (nk:List Value),Hid (St E v kvs md w ts r lk vk nk wr)∧Hid (Rw E vk (kvs++nk) (w.heap.size) kvL (roots md.length ts) wr)∧Hid (many wordsStep [a] l1=many wordsStep ts lk)) (fun _ wr=>E.toks.length-nextOf E wr)
  case atStart=>exact ⟨[a],l1,_,_,S7,R6,lh rfl⟩
  case round =>
   obtain ⟨ts,lk,vk,nk,S0,R0,HM⟩:=hrel
   have hleft:=lh S0.out.ps.left
   clear S7 R6
   have C8:=lh (skip_at S0.out.ps ⟨#[44]⟩ (by decide))
   go_wp2_with fail
   (with_reducible refine C8.out.mono ?_)
   rintro e w9 hP
   clear C8
   cases hx:skipP ⟨#[44]⟩ lk with
   | err pe ce =>
    rw [hx] at hP
    obtain ⟨rfl,hb⟩:=hP
    have HB:=lh hb
    have HX:many wordsStep [a] l1=.err pe ce:=by rw [HM.out];exact many_err (by simp only [wordsStep,Par.bind,hx])
    have HR:Hid (wordsP l=.err pe ce):=lh (by simp only [wordsP,Par.bind,X4.out,HX])
    clear hb hx HX
    go_wp2
    exact ⟨rfl,of_err HR.out HB.out⟩
   | ok u l9 =>
    rw [hx] at hP
    cases u with
    | true =>
     have X10:=lh hx
     obtain ⟨rfl,hs,hf2⟩:=hP
     obtain ⟨S,T⟩:=S0.out.same hs hf2
     clear hs hf2 hx
     have R11:=lh (R0.out.tr T)
     have S12:=lh (S)
     clear S T S0 R0
     have C13:=lh (word_at S12.out.ps)
     go_wp2_with fail
     (with_reducible refine C13.out.mono ?_)
     rintro e w14 hP
     clear C13
     cases hx:wordP l9 with
     | err pe ce =>
      rw [hx] at hP
      obtain ⟨rfl,hb⟩:=hP
      have HB:=lh hb
      have HX:many wordsStep [a] l1=.err pe ce:=by rw [HM.out];exact many_err (by simp only [wordsStep,Par.bind,X10.out,hx])
      have HR:Hid (wordsP l=.err pe ce):=lh (by simp only [wordsP,Par.bind,X4.out,HX])
      clear hb hx HX
      go_wp2
      exact ⟨rfl,of_err HR.out HB.out⟩
     | ok bq l14 =>
      rw [hx] at hP
      obtain ⟨v14,n14,rfl,S,T⟩:=S12.out.ast (ts':=ts++[bq]) hP rfl
      have HM2:Hid (many wordsStep [a] l1=many wordsStep (ts++[bq]) l14):=lh (by rw [HM.out];exact many_more step_words (by simp only [wordsStep,Par.bind,Par.pure,X10.out,hx]))
      have hq:l14.length<lk.length:=by
       have h5:wordsStep ts lk=.ok (some (ts++[bq])) l14:=by simp only [wordsStep,Par.bind,Par.pure,X10.out,hx]
       exact (step_words _ _ _ _ h5).1 rfl
      clear hP hx
      have R15:=lh (R11.out.tr T)
      have S16:=lh (S)
      clear S T S12 R11
      have hk:(roots md.length ts).length≤70000:=by have h6:=S16.out.ps.room;rw [List.length_append,postL_length,sizeL_append] at h6;rw [roots_length];have:=length_le_sizeL ts;omega
      have R17:=lh (R15.out.alloc (.cells #[.int .i64 (rootI (md.length+sizeL ts) bq)] 3))
      have S18:=lh (S16.out.alloc (.cells #[.int .i64 (rootI (md.length+sizeL ts) bq)] 3))
      have hbb:Hid (w.heap.size≤(w14.alloc (.cells #[.int .i64 (rootI (md.length+sizeL ts) bq)] 3)).heap.size):=lh (by have h7:=S18.out.fr.size;simp only [World.size_alloc] at *;omega)
      clear R15 S16
      go_wp2_with (at_builtin;refine wpList_append_lies _ rfl (.tmp 9) (.tmp 12) 32 rfl (E.b+1) 3 i0 _ 1 8 Tryz.underlying32 I0.out I1.out I2.out I3.out rfl (by decide) u3 (roots md.length ts).length ((roots md.length ts).map (Value.int .i64)) rfl R17.out.own ⟨w14.heap.size,0,none⟩ 1 1 [.int .i64 (rootI (md.length+sizeL ts) bq)] rfl rfl (World.news_of_block (cs:=#[.int .i64 (rootI (md.length+sizeL ts) bq)]) (t:=3) (fr:=(0,0)) (heap_alloc_new _ _)) (by simp [Value.oneCell']) (by decide) (by unfold maxLen;omega) (by omega) S18.out.ps.lt _ rfl ?_;intro g5 cap5 w5 hown5 hgrow5 hat5 hlt5)
      have R5:Hid (Rw E v14 (kvs++n14) (w.heap.size) (.slice (some ⟨g5,0,none⟩) ((roots md.length ts).length+1) cap5) (roots md.length (ts++[bq])) w5):=lh (by rw [roots_snoc];exact R17.out.push hbb.out S18.out.ps.fresh hown5 rfl rfl hat5 rfl)
      have S5:=lh (S18.out.grown R17.out (Nat.le_refl _) hgrow5)
      have hl3:=lh S5.out.ps.left
      clear hown5 hgrow5 hat5 hlt5 R17 S18
      go_wp2
      go_roundw
      case rel=>exact ⟨_,_,_,_,S5,R5,HM2⟩
      case measure=>have h1:=hleft.out;have h2:=hl3.out;show E.toks.length-nextOf E _<E.toks.length-nextOf E wr;omega
    | false =>
     have X10:=lh hx
     obtain ⟨rfl,hs,hf2⟩:=hP
     obtain ⟨S,T⟩:=S0.out.same hs hf2
     clear hs hf2 hx
     have R11:=lh (R0.out.tr T)
     have S12:=lh (S)
     clear S T S0 R0
     have HX:Hid (many wordsStep [a] l1=.ok ts l9):=lh (by rw [HM.out];exact many_done (by simp only [wordsStep,Par.bind,Par.pure,X10.out]))
     clear HM
     have HR:Hid (wordsP l=.ok ts l9):=lh (by simp only [wordsP,Par.bind,X4.out,HX.out])
     go_wp2
     go_ret
     exact of_ok HR.out ⟨_,_,_,rfl,S12.out,R11.out⟩
end
end
end Go.Proofs.YthdioipfdbbmmaaGreatDoor
