/- Contracts. -/
import Derived.Test.YthdioipfdbbmmaaGreatDoorHab
import Derived.Test.YthdioipfdbbmmaaGreatDoorHan
import Derived.Laws.Tables
import Derived.Deep.RegionHeld3
import Derived.Deep.Cut
set_option linter.all false
set_option maxRecDepth 1000000
set_option maxHeartbeats 16000000
namespace Go.Proofs.YthdioipfdbbmmaaGreatDoor
namespace Rf
open Go.RowKit Par
theorem bs_one (w:World)(c0 c1 c2 c3 c4:Value):(Instr.buildSlice 315 1 #[(0,.agg #[c0,c1,c2,c3,c4])]).run Tryz.prog w=.ok (.slice (some ⟨w.heap.size,0,none⟩) 1 1) (w.alloc (.cells #[c0,c1,c2,c3,c4] 317)):=by kernel_rfl
theorem bs_two (w:World)(c0 c1 c2 c3 c4 e0 e1 e2 e3 e4:Value):(Instr.buildSlice 315 2 #[(0,.agg #[c0,c1,c2,c3,c4]),(1,.agg #[e0,e1,e2,e3,e4])]).run Tryz.prog w=.ok (.slice (some ⟨w.heap.size,0,none⟩) 2 2) (w.alloc (.cells #[c0,c1,c2,c3,c4,e0,e1,e2,e3,e4] 317)):=by kernel_rfl
theorem heap_set5 {w:World}{q k:Nat}{a b c e f:Value}(h:q≠k):(((((w.setCell ⟨q,0,none⟩ a).setCell ⟨q,1,none⟩ b).setCell ⟨q,2,none⟩ c).setCell ⟨q,3,none⟩ e).setCell ⟨q,4,none⟩ f).heap[k]?=w.heap[k]?:=by
 rw [Below.heap_setCell _ ⟨q,4,none⟩ _ k h.symm,Below.heap_setCell _ ⟨q,3,none⟩ _ k h.symm,Below.heap_setCell _ ⟨q,2,none⟩ _ k h.symm,Below.heap_setCell _ ⟨q,1,none⟩ _ k h.symm,Below.heap_setCell _ ⟨q,0,none⟩ _ k h.symm]
theorem wpList_bs {P:Program}{ops:Array Oper}{rest:List Oper}{o:Oper}{a:Act}{w:World}{Q:Exit→Act→World→Prop}(hg:o.guard=none)(t:TypeId)(n:Nat)(parts:Array (Nat × Operand))(ho:o.op=.buildSlice t n parts)(ps:Array (Nat × Value))(hp:parts.map (fun (i,x)=>(i,a.eval x))=ps)(v:Value)(w':World)
 (hr:(Instr.buildSlice t n ps).run P w=.ok v w') (h:wpList P ops Q rest (a.put o.dst v) w'):wpList P ops Q (o::rest) a w :=
 wpList_plain hg fun _ hK=>by
  subst hp
  unfold Oper.wp execOp
  simp only [ho,Sem.run_bind,Sem.run_pure,Result.andThen_ok,hr]
  exact hK _ _ h
theorem wp_bs {P:Program}{o:Oper}{a:Act}{w:World}{K:Act→World→Prop}{Q:Exit→Act→World→Prop}(t:TypeId)(n:Nat)(parts:Array (Nat × Operand))(ho:o.op=.buildSlice t n parts)(ps:Array (Nat × Value))(hp:parts.map (fun (i,x)=>(i,a.eval x))=ps)(v:Value)(w':World)
 (hr:(Instr.buildSlice t n ps).run P w=.ok v w') (h:K (a.put o.dst v) w'):o.wp P a w K Q:=by
 subst hp
 unfold Oper.wp execOp
 simp only [ho,Sem.run_bind,Sem.run_pure,Result.andThen_ok,hr]
 exact h
end Rf
namespace Rf
open Go.RowKit Par
section
variable {E:Env}{v:Value}{kvs:List Value}{md:List Nd}{i:Nat}{d e:Int}{w:World}
theorem factor_knum (h:RS E v kvs md i d 0 w)(ht:(RT E i).kind=2):Calls Tryz.prog 293 #[.pointer (some ⟨E.b,0,none⟩)] w (PostX E v kvs md d (.ok (.mk 21 (RT E i).at' none0 (RT E i).n []) (E.pts.drop (i+1))) w):=by
 have b0:(0:Int)≤(i:Int):=by omega
 have b1:(i:Int)<(E.toks.length:Int):=by have:=h.it;omega
 have hcap:=h.cap
 obtain ⟨HA,HF,c0,c1,c4,k0,k1,k3,k4,ST,k2⟩:=fh h (.cells #[.int .u8 0,.int .i64 0,.string ⟨#[]⟩,.int .i64 0,.slice none 0 0] 317)
 have HS0:=lh h
 have HL:=lh (h.last i h.it (show (RT E i).kind≠4 by rw [ht];decide))
 have HT:=lh ht
 have h63:(i:Int)+1≤9223372036854775807:=by have:=h.it;have:=h.few;omega
 clear h ht
 go_enter Tryz.func293,Tryz.ntmps293
 go_wp2_with fail
 go_region_held3 (fun w'=>w'.cell? ⟨E.b,0,none⟩=some (.slice (some ⟨E.g,0,none⟩) E.toks.length E.cap)∧w'.cell? ⟨E.b,1,none⟩=some (.int .i64 (i:Int))∧w'.cell? ⟨E.g,i*5,none⟩=some (.int .u8 (RT E i).kind)∧w'.cell? ⟨E.g,i*5+1,none⟩=some (.int .i64 ((RT E i).at':Int))∧w'.cell? ⟨E.g,i*5+2,none⟩=some (.int .i64 (ST:Int))∧w'.cell? ⟨E.g,i*5+3,none⟩=some (.string (RT E i).txt)∧w'.cell? ⟨E.g,i*5+4,none⟩=some (.int .i64 (RT E i).n)) (go_keep) (first|fail)
 generalize (RT E i).kind=kd at *
 generalize (RT E i).at'=aa at *
 generalize (RT E i).txt=tx at *
 generalize (RT E i).n=nn at *
 obtain ⟨W1,hW1,L0,L1,HS1,HF1⟩:=fg HA HF HS0 (.cells #[.int .u8 kd,.int .i64 (aa:Int),.int .i64 (ST:Int),.string tx,.int .i64 nn] 160)
 rw [hW1]
 have hs1:w.heap.size+1<W1.heap.size:=L1.out.lt
 clear hW1 k0 k1 k2 k3 k4 c0 c1 c4 HA HF HS0
 have g1:=L1.out.cell 1 rfl
 have g3:=L1.out.cell 3 rfl
 go_upto_region 4 with fail
 have M0:=lh (L0.out.alloc (.cells #[.int .u8 0,.int .i64 (aa:Int),.string tx,.int .i64 0,.slice none 0 0] 317))
 have M1:=lh (L1.out.alloc (.cells #[.int .u8 0,.int .i64 (aa:Int),.string tx,.int .i64 0,.slice none 0 0] 317))
 have M2:=lh (HS1.out.lcl (.cells #[.int .u8 0,.int .i64 (aa:Int),.string tx,.int .i64 0,.slice none 0 0] 317))
 have HS2:=lh (HS1.out.alloc (.cells #[.int .u8 0,.int .i64 (aa:Int),.string tx,.int .i64 0,.slice none 0 0] 317))
 have HF2:=lh (HF1.out.alloc (by omega) (.cells #[.int .u8 0,.int .i64 (aa:Int),.string tx,.int .i64 0,.slice none 0 0] 317))
 obtain ⟨q2,hq2⟩:∃q2,W1.heap.size=q2:=⟨_,rfl⟩
 obtain ⟨W2,hW2⟩:∃W2,W1.alloc (.cells #[.int .u8 0,.int .i64 (aa:Int),.string tx,.int .i64 0,.slice none 0 0] 317)=W2:=⟨_,rfl⟩
 rw [hW2] at M0 M1 M2 HS2 HF2 ⊢
 rw [hq2] at M2 hs1 ⊢
 clear hW2 hq2 L0 L1 HS1 HF1 g1 g3 W1
 have hs2:q2<W2.heap.size:=M2.out.lt
 have hb0:E.b<w.heap.size:=M0.out.loc.lt
 have n02:w.heap.size≠q2:=by omega
 have n20:q2≠w.heap.size:=by omega
 have n12:w.heap.size+1≠q2:=by omega
 have n0b:w.heap.size≠E.b:=by have:=M0.out.loc.lt;omega
 have n2b:q2≠E.b:=by have:=M2.out.loc.lt;omega
 have nb0:E.b≠w.heap.size:=by omega
 have nb2:E.b≠q2:=by omega
 have g0:=M1.out.cell 0 rfl
 have g4:=M1.out.cell 4 rfl
 have m0:=M2.out.cell 0 rfl
 have m1:=M2.out.cell 1 rfl
 have m2:=M2.out.cell 2 rfl
 have m3:=M2.out.cell 3 rfl
 have m4:=M2.out.cell 4 rfl
 have mz:=M2.out.fz
 have r0:=M0.out.cell 0 rfl
 have r1:=M0.out.cell 1 rfl
 have r2:=M0.out.cell 2 rfl
 have r3:=M0.out.cell 3 rfl
 have r4:=M0.out.cell 4 rfl
 have rz:=M0.out.fz
 obtain ⟨_,c1,_,_,c4⟩:=HS2.out.rowCells
 have cz:=HS2.out.fz
 have hk1:(kd==1)=false:=by rw [HT.out];rfl
 have hk2:(kd==2)=true:=by rw [HT.out];rfl
 have HK:=lh ((((HS2.out.set (a:=⟨q2,0,none⟩) M2.out.loc (.int .u8 21)).set (a:=⟨q2,2,none⟩) M2.out.loc (.string ⟨#[]⟩)).set (a:=⟨q2,3,none⟩) M2.out.loc (.int .i64 nn)).inc HL.out)
 have HG:=lh ((((HF2.out.set (by first|omega|(simp [size_set];omega)) (a:=⟨q2,0,none⟩) (show w.heap.size≤q2 by omega) (.int .u8 21)).set (by first|omega|(simp [size_set];omega)) (a:=⟨q2,2,none⟩) (show w.heap.size≤q2 by omega) (.string ⟨#[]⟩)).set (by first|omega|(simp [size_set];omega)) (a:=⟨q2,3,none⟩) (show w.heap.size≤q2 by omega) (.int .i64 nn)).trans (HK.out.fr.mono (by first|omega|(simp [size_set];omega))))
 have LB:=lh ((((M0.out.grown (grownBy_set _ ⟨q2,0,none⟩ (.int .u8 21)) (fun e=>n20 (Option.some.inj e))).grown (grownBy_set _ ⟨q2,2,none⟩ (.string ⟨#[]⟩)) (fun e=>n20 (Option.some.inj e))).grown (grownBy_set _ ⟨q2,3,none⟩ (.int .i64 nn)) (fun e=>n20 (Option.some.inj e))).setB 1 (.int .i64 ((i:Int)+1)))
 have R:=lh ((LB.out).set5 (.int .u8 21) (.int .i64 (aa:Int)) (.string ⟨#[]⟩) (.int .i64 nn) (.slice none 0 0))
 have RR:=lh ((At.of_ok (d:=d) (Ast.mk 21 aa none0 nn []) HK.out.rs).set5 M0.out.loc (.int .u8 21) (.int .i64 (aa:Int)) (.string ⟨#[]⟩) (.int .i64 nn) (.slice none 0 0))
 have RF:=lh ((HG.out).set5 (by first|omega|(simp [size_set];omega)) (q:=w.heap.size) (Nat.le_refl _) (.int .u8 21) (.int .i64 (aa:Int)) (.string ⟨#[]⟩) (.int .i64 nn) (.slice none 0 0))
 go_wp2_with fail
 generalize (((((((((W2.setCell ⟨q2,0,none⟩ (.int .u8 21)).setCell ⟨q2,2,none⟩ (.string ⟨#[]⟩)).setCell ⟨q2,3,none⟩ (.int .i64 nn)).setCell ⟨E.b,1,none⟩ (.int .i64 ((i:Int)+1))).setCell ⟨w.heap.size,0,none⟩ (.int .u8 21)).setCell ⟨w.heap.size,1,none⟩ (.int .i64 (aa:Int))).setCell ⟨w.heap.size,2,none⟩ (.string ⟨#[]⟩)).setCell ⟨w.heap.size,3,none⟩ (.int .i64 nn)).setCell ⟨w.heap.size,4,none⟩ (.slice none 0 0))=Wz at *
 clear m0 m1 m2 m3 m4 mz r0 r1 r2 r3 r4 rz c1 c4 cz
 have y0:=R.out.cell 0 rfl
 have y1:=R.out.cell 1 rfl
 have y2:=R.out.cell 2 rfl
 have y3:=R.out.cell 3 rfl
 have y4:=R.out.cell 4 rfl
 simp [bodyPost,results,Tryz.results293,go_sem,y0,y1,y2,y3,y4]
 exact ⟨_,rfl,⟨_,_,_,_,_,_,_,rfl⟩,RR.out,RF.out,fun y l' e=>by
  simp only [Res.ok.injEq] at e
  obtain ⟨rfl,_⟩:=e
  exact ExprV.leaf _ _ _ _ _ _⟩
end
end Rf
namespace Rf
open Go.RowKit Par
section
variable {E:Env}{v:Value}{kvs:List Value}{md:List Nd}{i:Nat}{d e:Int}{w:World}
theorem factor_kopen0 (h:RS E v kvs md i 64 0 w)(h1:(RT E i).kind≠1)(h2:(RT E i).kind≠2)(h3:(RT E i).txt=⟨#[40]⟩):Calls Tryz.prog 293 #[.pointer (some ⟨E.b,0,none⟩)] w (PostX E v kvs md 64 (.err (RT E i).at' 51) w):=by
 have b0:(0:Int)≤(i:Int):=by omega
 have b1:(i:Int)<(E.toks.length:Int):=by have:=h.it;omega
 have hcap:=h.cap
 obtain ⟨HA,HF,c0,c1,c4,k0,k1,k3,k4,ST,k2⟩:=fh h (.cells #[.int .u8 0,.int .i64 0,.string ⟨#[]⟩,.int .i64 0,.slice none 0 0] 317)
 have HS0:=lh h
 have H1:=lh h1
 have H2:=lh h2
 have IS1:Hid (∀W,RS E v kvs md i 64 0 W→Calls Tryz.prog 95 #[.pointer (some ⟨E.b,0,none⟩),.string ⟨#[40]⟩] W fun x w'=>x=.returned (.bool true)∧∃m,w'=W.drewN m):=lh fun W hW=>by
  have:=is_at hW ⟨#[40]⟩ (by decide) (by decide)
  rwa [decide_eq_true h3] at this
 have HE:Hid (∀W,RS E v kvs md i 65 51 W→At E v kvs md (64+1) (.err (RT E i).at' 51:Res Ast) W):=lh fun W hW=>At.of_err _ (Int.le_refl _) (by decide) rfl hW
 clear h h1 h2 h3
 go_enter Tryz.func293,Tryz.ntmps293
 go_wp2_with fail
 go_region_held3 (fun w'=>w'.cell? ⟨E.b,0,none⟩=some (.slice (some ⟨E.g,0,none⟩) E.toks.length E.cap)∧w'.cell? ⟨E.b,1,none⟩=some (.int .i64 (i:Int))∧w'.cell? ⟨E.g,i*5,none⟩=some (.int .u8 (RT E i).kind)∧w'.cell? ⟨E.g,i*5+1,none⟩=some (.int .i64 ((RT E i).at':Int))∧w'.cell? ⟨E.g,i*5+2,none⟩=some (.int .i64 (ST:Int))∧w'.cell? ⟨E.g,i*5+3,none⟩=some (.string (RT E i).txt)∧w'.cell? ⟨E.g,i*5+4,none⟩=some (.int .i64 (RT E i).n)) (go_keep) (first|fail)
 generalize (RT E i).kind=kd at *
 generalize (RT E i).at'=aa at *
 generalize (RT E i).txt=tx at *
 generalize (RT E i).n=nn at *
 obtain ⟨W1,hW1,L0,L1,HS1,HF1⟩:=fg HA HF HS0 (.cells #[.int .u8 kd,.int .i64 (aa:Int),.int .i64 (ST:Int),.string tx,.int .i64 nn] 160)
 rw [hW1]
 have hs1:w.heap.size+1<W1.heap.size:=L1.out.lt
 clear hW1 k0 k1 k2 k3 k4 c0 c1 c4 HA HF HS0
 have g1:=L1.out.cell 1 rfl
 have g3:=L1.out.cell 3 rfl
 go_upto_region 4 with fail
 have M0:=lh (L0.out.alloc (.cells #[.int .u8 0,.int .i64 (aa:Int),.string tx,.int .i64 0,.slice none 0 0] 317))
 have M1:=lh (L1.out.alloc (.cells #[.int .u8 0,.int .i64 (aa:Int),.string tx,.int .i64 0,.slice none 0 0] 317))
 have M2:=lh (HS1.out.lcl (.cells #[.int .u8 0,.int .i64 (aa:Int),.string tx,.int .i64 0,.slice none 0 0] 317))
 have HS2:=lh (HS1.out.alloc (.cells #[.int .u8 0,.int .i64 (aa:Int),.string tx,.int .i64 0,.slice none 0 0] 317))
 have HF2:=lh (HF1.out.alloc (by omega) (.cells #[.int .u8 0,.int .i64 (aa:Int),.string tx,.int .i64 0,.slice none 0 0] 317))
 obtain ⟨q2,hq2⟩:∃q2,W1.heap.size=q2:=⟨_,rfl⟩
 obtain ⟨W2,hW2⟩:∃W2,W1.alloc (.cells #[.int .u8 0,.int .i64 (aa:Int),.string tx,.int .i64 0,.slice none 0 0] 317)=W2:=⟨_,rfl⟩
 rw [hW2] at M0 M1 M2 HS2 HF2 ⊢
 rw [hq2] at M2 hs1 ⊢
 clear hW2 hq2 L0 L1 HS1 HF1 g1 g3 W1
 have hs2:q2<W2.heap.size:=M2.out.lt
 have hb0:E.b<w.heap.size:=M0.out.loc.lt
 have n02:w.heap.size≠q2:=by omega
 have n20:q2≠w.heap.size:=by omega
 have n12:w.heap.size+1≠q2:=by omega
 have n0b:w.heap.size≠E.b:=by have:=M0.out.loc.lt;omega
 have n2b:q2≠E.b:=by have:=M2.out.loc.lt;omega
 have nb0:E.b≠w.heap.size:=by omega
 have nb2:E.b≠q2:=by omega
 have hk1:(kd==1)=false:=by simpa using H1.out
 have hk2:(kd==2)=false:=by simpa using H2.out
 have g0:=M1.out.cell 0 rfl
 obtain ⟨_,c1,_,_,c4⟩:=HS2.out.rowCells
 have C1:=lh (IS1.out _ HS2.out)
 go_wp2_with fail
 (with_reducible refine C1.out.mono ?_)
 rintro x w3 ⟨rfl,n3,rfl⟩
 clear C1 c1 c4 g0
 obtain ⟨W3,hW3⟩:∃W3,(W2.drewN n3)=W3:=⟨_,rfl⟩
 have HS3:Hid (RS E v kvs md i 64 0 W3):=lh (by rw [← hW3];exact HS2.out.drewN n3)
 have HF3:Hid (Fr E w.heap.size v v w W3):=lh (by rw [← hW3];exact HF2.out.drewN n3)
 have A2:Hid (Lcl E v kvs q2 (.cells #[.int .u8 0,.int .i64 (aa:Int),.string tx,.int .i64 0,.slice none 0 0] 317) W3):=lh (by rw [← hW3];exact ⟨M2.out.loc,M2.out.lt,M2.out.obj⟩)
 have A0:Hid (Lcl E v kvs w.heap.size (.cells #[.int .u8 0,.int .i64 0,.string ⟨#[]⟩,.int .i64 0,.slice none 0 0] 317) W3):=lh (by rw [← hW3];exact ⟨M0.out.loc,M0.out.lt,M0.out.obj⟩)
 have hs3:W2.heap.size=W3.heap.size:=by rw [← hW3];rfl
 rw [hW3]
 clear hW3
 have C3:=lh (in_deep HS3.out)
 go_wp2_with fail
 (with_reducible refine C3.out.mono ?_)
 rintro x w5 ⟨rfl,hk⟩
 have D2:=lh (A2.out.on0 hk.fr)
 have D0:=lh (A0.out.on0 hk.fr)
 have DF:=lh (HF3.out.trans (hk.fr.mono (show w.heap.size≤W3.heap.size by first|omega|(simp [size_set];omega))))
 have hs5:W3.heap.size≤w5.heap.size:=by have:=hk.fr.size;simpa [size_set] using this
 obtain ⟨d5,_,hd5,c2,cz,ha,hf⟩:=(HE.out _ hk.rs).deep (by decide)
 have hw:IntKind.i64.wrap (d5-1)=d5-1:=IntWalk.i64_in _ (by omega)
 have l63:-9223372036854775808≤d5-1:=by omega
 have u63:d5-1≤9223372036854775807:=by omega
 have HA:=lh ha
 have F0:=lh (D0.out.setB 2 (.int .i64 (d5-1)))
 have FF:=lh (DF.out.trans (hf.mono (show w.heap.size≤w5.heap.size by omega)))
 clear C3 hk ha hf
 have m0:=D2.out.cell 0 rfl
 have m1:=D2.out.cell 1 rfl
 have m2:=D2.out.cell 2 rfl
 have m3:=D2.out.cell 3 rfl
 have m4:=D2.out.cell 4 rfl
 have mz:=D2.out.fz
 have r0:=D0.out.cell 0 rfl
 have r1:=D0.out.cell 1 rfl
 have r2:=D0.out.cell 2 rfl
 have r3:=D0.out.cell 3 rfl
 have r4:=D0.out.cell 4 rfl
 have rz:=D0.out.fz
 have R:=lh ((F0.out).set5 (.int .u8 0) (.int .i64 (aa:Int)) (.string tx) (.int .i64 0) (.slice none 0 0))
 have RR:=lh ((HA.out).set5 M0.out.loc (.int .u8 0) (.int .i64 (aa:Int)) (.string tx) (.int .i64 0) (.slice none 0 0))
 have RF:=lh ((FF.out).set5 (by first|omega|(simp [size_set];omega)) (q:=w.heap.size) (Nat.le_refl _) (.int .u8 0) (.int .i64 (aa:Int)) (.string tx) (.int .i64 0) (.slice none 0 0))
 go_wp2_with fail
 generalize ((((((w5.setCell ⟨E.b,2,none⟩ (.int .i64 (d5-1))).setCell ⟨w.heap.size,0,none⟩ (.int .u8 0)).setCell ⟨w.heap.size,1,none⟩ (.int .i64 (aa:Int))).setCell ⟨w.heap.size,2,none⟩ (.string tx)).setCell ⟨w.heap.size,3,none⟩ (.int .i64 0)).setCell ⟨w.heap.size,4,none⟩ (.slice none 0 0))=Wz at *
 clear m0 m1 m2 m3 m4 mz r0 r1 r2 r3 r4 rz c2 cz
 have y0:=R.out.cell 0 rfl
 have y1:=R.out.cell 1 rfl
 have y2:=R.out.cell 2 rfl
 have y3:=R.out.cell 3 rfl
 have y4:=R.out.cell 4 rfl
 simp [bodyPost,results,Tryz.results293,go_sem,y0,y1,y2,y3,y4]
 exact ⟨_,rfl,⟨_,_,_,_,_,_,_,rfl⟩,RR.out,RF.out,fun y l' e=>by simp at e⟩
end
end Rf
end Go.Proofs.YthdioipfdbbmmaaGreatDoor
