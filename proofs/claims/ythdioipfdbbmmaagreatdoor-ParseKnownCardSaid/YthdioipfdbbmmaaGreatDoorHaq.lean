/- Contracts. -/
import Derived.Test.YthdioipfdbbmmaaGreatDoorHab
import Derived.Test.YthdioipfdbbmmaaGreatDoorHak
import Derived.Test.YthdioipfdbbmmaaGreatDoorHan
import Derived.Test.YthdioipfdbbmmaaGreatDoorHap
import Derived.Deep.RegionHeld3
import Derived.Deep.Cut
import Derived.Lib.ConvBytes
set_option linter.all false
set_option maxRecDepth 1000000
set_option maxHeartbeats 16000000
namespace Go.Proofs.YthdioipfdbbmmaaGreatDoor
namespace Rf
open Go.RowKit Par
section
variable {E:Env}{v:Value}{kvs:List Value}{md:List Nd}{i:Nat}{d e:Int}{w:World}
theorem factor_kname (h:RS E v kvs md i d 0 w)(ht:(RT E i).kind=1):Calls Tryz.prog 293 #[.pointer (some ⟨E.b,0,none⟩)] w (PostX E v kvs md d (.ok (.mk 22 (RT E i).at' (RT E i).txt 0 []) (E.pts.drop (i+1))) w):=by
 have b0:(0:Int)≤(i:Int):=by omega
 have b1:(i:Int)<(E.toks.length:Int):=by have:=h.it;omega
 have hcap:=h.cap
 obtain ⟨HA,HF,c0,c1,c4,k0,k1,k3,k4,ST,k2⟩:=fh h (.cells #[.int .u8 0,.int .i64 0,.string ⟨#[]⟩,.int .i64 0,.slice none 0 0] 317)
 have HS0:=lh h
 have HL:=lh (h.last i h.it (show (RT E i).kind≠4 by rw [ht];decide))
 have HT:=lh ht
 have h63:(i:Int)+1≤9223372036854775807:=by have:=h.it;have:=h.few;omega
 clear h ht
 go_enter Tryz.func293,Tryz.ntmps293
 go_wp2_with fail
 go_region_held3 (fun w'=>w'.cell? ⟨E.b,0,none⟩=some (.slice (some ⟨E.g,0,none⟩) E.toks.length E.cap)∧w'.cell? ⟨E.b,1,none⟩=some (.int .i64 (i:Int))∧w'.cell? ⟨E.g,i*5,none⟩=some (.int .u8 (RT E i).kind)∧w'.cell? ⟨E.g,i*5+1,none⟩=some (.int .i64 ((RT E i).at':Int))∧w'.cell? ⟨E.g,i*5+2,none⟩=some (.int .i64 (ST:Int))∧w'.cell? ⟨E.g,i*5+3,none⟩=some (.string (RT E i).txt)∧w'.cell? ⟨E.g,i*5+4,none⟩=some (.int .i64 (RT E i).n)) (go_keep) (first|fail)
 generalize (RT E i).kind=kd at *
 generalize (RT E i).at'=aa at *
 generalize (RT E i).txt=tx at *
 generalize (RT E i).n=nn at *
 obtain ⟨W1,hW1,L0,L1,HS1,HF1⟩:=fg HA HF HS0 (.cells #[.int .u8 kd,.int .i64 (aa:Int),.int .i64 (ST:Int),.string tx,.int .i64 nn] 160)
 rw [hW1]
 have hs1:w.heap.size+1<W1.heap.size:=L1.out.lt
 clear hW1 k0 k1 k2 k3 k4 c0 c1 c4 HA HF HS0
 have g1:=L1.out.cell 1 rfl
 have g3:=L1.out.cell 3 rfl
 go_upto_region 4 with fail
 have M0:=lh (L0.out.alloc (.cells #[.int .u8 0,.int .i64 (aa:Int),.string tx,.int .i64 0,.slice none 0 0] 317))
 have M1:=lh (L1.out.alloc (.cells #[.int .u8 0,.int .i64 (aa:Int),.string tx,.int .i64 0,.slice none 0 0] 317))
 have M2:=lh (HS1.out.lcl (.cells #[.int .u8 0,.int .i64 (aa:Int),.string tx,.int .i64 0,.slice none 0 0] 317))
 have HS2:=lh (HS1.out.alloc (.cells #[.int .u8 0,.int .i64 (aa:Int),.string tx,.int .i64 0,.slice none 0 0] 317))
 have HF2:=lh (HF1.out.alloc (by omega) (.cells #[.int .u8 0,.int .i64 (aa:Int),.string tx,.int .i64 0,.slice none 0 0] 317))
 obtain ⟨q2,hq2⟩:∃q2,W1.heap.size=q2:=⟨_,rfl⟩
 obtain ⟨W2,hW2⟩:∃W2,W1.alloc (.cells #[.int .u8 0,.int .i64 (aa:Int),.string tx,.int .i64 0,.slice none 0 0] 317)=W2:=⟨_,rfl⟩
 rw [hW2] at M0 M1 M2 HS2 HF2 ⊢
 rw [hq2] at M2 hs1 ⊢
 clear hW2 hq2 L0 L1 HS1 HF1 g1 g3 W1
 have hs2:q2<W2.heap.size:=M2.out.lt
 have hb0:E.b<w.heap.size:=M0.out.loc.lt
 have n02:w.heap.size≠q2:=by omega
 have n20:q2≠w.heap.size:=by omega
 have n12:w.heap.size+1≠q2:=by omega
 have n0b:w.heap.size≠E.b:=by have:=M0.out.loc.lt;omega
 have n2b:q2≠E.b:=by have:=M2.out.loc.lt;omega
 have nb0:E.b≠w.heap.size:=by omega
 have nb2:E.b≠q2:=by omega
 have g0:=M1.out.cell 0 rfl
 have m0:=M2.out.cell 0 rfl
 have m1:=M2.out.cell 1 rfl
 have m2:=M2.out.cell 2 rfl
 have m3:=M2.out.cell 3 rfl
 have m4:=M2.out.cell 4 rfl
 have mz:=M2.out.fz
 have r0:=M0.out.cell 0 rfl
 have r1:=M0.out.cell 1 rfl
 have r2:=M0.out.cell 2 rfl
 have r3:=M0.out.cell 3 rfl
 have r4:=M0.out.cell 4 rfl
 have rz:=M0.out.fz
 obtain ⟨_,c1,_,_,c4⟩:=HS2.out.rowCells
 have cz:=HS2.out.fz
 have hk1:(kd==1)=true:=by rw [HT.out];rfl
 have HK:=lh ((HS2.out.set (a:=⟨q2,0,none⟩) M2.out.loc (.int .u8 22)).inc HL.out)
 have HG:=lh ((HF2.out.set (by first|omega|(simp [size_set];omega)) (a:=⟨q2,0,none⟩) (show w.heap.size≤q2 by omega) (.int .u8 22)).trans (HK.out.fr.mono (by first|omega|(simp [size_set];omega))))
 have LB:=lh ((M0.out.grown (grownBy_set _ ⟨q2,0,none⟩ (.int .u8 22)) (fun e=>n20 (Option.some.inj e))).setB 1 (.int .i64 ((i:Int)+1)))
 have R:=lh ((LB.out).set5 (.int .u8 22) (.int .i64 (aa:Int)) (.string tx) (.int .i64 0) (.slice none 0 0))
 have RR:=lh ((At.of_ok (d:=d) (Ast.mk 22 aa tx 0 []) HK.out.rs).set5 M0.out.loc (.int .u8 22) (.int .i64 (aa:Int)) (.string tx) (.int .i64 0) (.slice none 0 0))
 have RF:=lh ((HG.out).set5 (by first|omega|(simp [size_set];omega)) (q:=w.heap.size) (Nat.le_refl _) (.int .u8 22) (.int .i64 (aa:Int)) (.string tx) (.int .i64 0) (.slice none 0 0))
 go_wp2_with fail
 generalize (((((((W2.setCell ⟨q2,0,none⟩ (.int .u8 22)).setCell ⟨E.b,1,none⟩ (.int .i64 ((i:Int)+1))).setCell ⟨w.heap.size,0,none⟩ (.int .u8 22)).setCell ⟨w.heap.size,1,none⟩ (.int .i64 (aa:Int))).setCell ⟨w.heap.size,2,none⟩ (.string tx)).setCell ⟨w.heap.size,3,none⟩ (.int .i64 0)).setCell ⟨w.heap.size,4,none⟩ (.slice none 0 0))=Wz at *
 clear m0 m1 m2 m3 m4 mz r0 r1 r2 r3 r4 rz c1 c4 cz
 have y0:=R.out.cell 0 rfl
 have y1:=R.out.cell 1 rfl
 have y2:=R.out.cell 2 rfl
 have y3:=R.out.cell 3 rfl
 have y4:=R.out.cell 4 rfl
 simp [bodyPost,results,Tryz.results293,go_sem,y0,y1,y2,y3,y4]
 exact ⟨_,rfl,⟨_,_,_,_,_,_,_,rfl⟩,RR.out,RF.out,fun y l' e=>by
  simp only [Res.ok.injEq] at e
  obtain ⟨rfl,_⟩:=e
  exact ExprV.leaf _ _ _ _ _ _⟩
end
end Rf
namespace Rf
open Go.RowKit Par
section
variable {E:Env}{v:Value}{kvs:List Value}{md:List Nd}{i:Nat}{d e:Int}{w:World}
theorem factor_kno (h:RS E v kvs md i d 0 w)(h1:(RT E i).kind≠1)(h2:(RT E i).kind≠2)(h3:¬ (RT E i).txt=⟨#[40]⟩)(h4:¬ (RT E i).txt=⟨#[45]⟩):Calls Tryz.prog 293 #[.pointer (some ⟨E.b,0,none⟩)] w (PostX E v kvs md d (.err (RT E i).at' 50) w):=by
 have b0:(0:Int)≤(i:Int):=by omega
 have b1:(i:Int)<(E.toks.length:Int):=by have:=h.it;omega
 have hcap:=h.cap
 obtain ⟨HA,HF,c0,c1,c4,k0,k1,k3,k4,ST,k2⟩:=fh h (.cells #[.int .u8 0,.int .i64 0,.string ⟨#[]⟩,.int .i64 0,.slice none 0 0] 317)
 have HS0:=lh h
 have H1:=lh h1
 have H2:=lh h2
 have IS1:Hid (∀W,RS E v kvs md i d 0 W→Calls Tryz.prog 95 #[.pointer (some ⟨E.b,0,none⟩),.string ⟨#[40]⟩] W fun x w'=>x=.returned (.bool false)∧∃m,w'=W.drewN m):=lh fun W hW=>by
  have:=is_at hW ⟨#[40]⟩ (by decide) (by decide)
  rwa [decide_eq_false h3] at this
 have IS2:Hid (∀W,RS E v kvs md i d 0 W→Calls Tryz.prog 95 #[.pointer (some ⟨E.b,0,none⟩),.string ⟨#[45]⟩] W fun x w'=>x=.returned (.bool false)∧∃m,w'=W.drewN m):=lh fun W hW=>by
  have:=is_at hW ⟨#[45]⟩ (by decide) (by decide)
  rwa [decide_eq_false h4] at this
 have HE:Hid (∀W,RS E v kvs md i d 50 W→At E v kvs md d (.err (RT E i).at' 50:Res Ast) W):=lh fun W hW=>At.of_err _ (Int.le_refl _) (by decide) rfl hW
 clear h h1 h2 h3 h4
 go_enter Tryz.func293,Tryz.ntmps293
 go_wp2_with fail
 go_region_held3 (fun w'=>w'.cell? ⟨E.b,0,none⟩=some (.slice (some ⟨E.g,0,none⟩) E.toks.length E.cap)∧w'.cell? ⟨E.b,1,none⟩=some (.int .i64 (i:Int))∧w'.cell? ⟨E.g,i*5,none⟩=some (.int .u8 (RT E i).kind)∧w'.cell? ⟨E.g,i*5+1,none⟩=some (.int .i64 ((RT E i).at':Int))∧w'.cell? ⟨E.g,i*5+2,none⟩=some (.int .i64 (ST:Int))∧w'.cell? ⟨E.g,i*5+3,none⟩=some (.string (RT E i).txt)∧w'.cell? ⟨E.g,i*5+4,none⟩=some (.int .i64 (RT E i).n)) (go_keep) (first|fail)
 generalize (RT E i).kind=kd at *
 generalize (RT E i).at'=aa at *
 generalize (RT E i).txt=tx at *
 generalize (RT E i).n=nn at *
 obtain ⟨W1,hW1,L0,L1,HS1,HF1⟩:=fg HA HF HS0 (.cells #[.int .u8 kd,.int .i64 (aa:Int),.int .i64 (ST:Int),.string tx,.int .i64 nn] 160)
 rw [hW1]
 have hs1:w.heap.size+1<W1.heap.size:=L1.out.lt
 clear hW1 k0 k1 k2 k3 k4 c0 c1 c4 HA HF HS0
 have g1:=L1.out.cell 1 rfl
 have g3:=L1.out.cell 3 rfl
 go_upto_region 4 with fail
 have M0:=lh (L0.out.alloc (.cells #[.int .u8 0,.int .i64 (aa:Int),.string tx,.int .i64 0,.slice none 0 0] 317))
 have M1:=lh (L1.out.alloc (.cells #[.int .u8 0,.int .i64 (aa:Int),.string tx,.int .i64 0,.slice none 0 0] 317))
 have M2:=lh (HS1.out.lcl (.cells #[.int .u8 0,.int .i64 (aa:Int),.string tx,.int .i64 0,.slice none 0 0] 317))
 have HS2:=lh (HS1.out.alloc (.cells #[.int .u8 0,.int .i64 (aa:Int),.string tx,.int .i64 0,.slice none 0 0] 317))
 have HF2:=lh (HF1.out.alloc (by omega) (.cells #[.int .u8 0,.int .i64 (aa:Int),.string tx,.int .i64 0,.slice none 0 0] 317))
 obtain ⟨q2,hq2⟩:∃q2,W1.heap.size=q2:=⟨_,rfl⟩
 obtain ⟨W2,hW2⟩:∃W2,W1.alloc (.cells #[.int .u8 0,.int .i64 (aa:Int),.string tx,.int .i64 0,.slice none 0 0] 317)=W2:=⟨_,rfl⟩
 rw [hW2] at M0 M1 M2 HS2 HF2 ⊢
 rw [hq2] at M2 hs1 ⊢
 clear hW2 hq2 L0 L1 HS1 HF1 g1 g3 W1
 have hs2:q2<W2.heap.size:=M2.out.lt
 have hb0:E.b<w.heap.size:=M0.out.loc.lt
 have n02:w.heap.size≠q2:=by omega
 have n20:q2≠w.heap.size:=by omega
 have n12:w.heap.size+1≠q2:=by omega
 have n0b:w.heap.size≠E.b:=by have:=M0.out.loc.lt;omega
 have n2b:q2≠E.b:=by have:=M2.out.loc.lt;omega
 have nb0:E.b≠w.heap.size:=by omega
 have nb2:E.b≠q2:=by omega
 have hk1:(kd==1)=false:=by simpa using H1.out
 have hk2:(kd==2)=false:=by simpa using H2.out
 have g0:=M1.out.cell 0 rfl
 obtain ⟨_,c1,_,_,c4⟩:=HS2.out.rowCells
 have C1:=lh (IS1.out _ HS2.out)
 go_wp2_with fail
 (with_reducible refine C1.out.mono ?_)
 rintro x w3 ⟨rfl,n3,rfl⟩
 have C2:=lh (IS2.out _ (HS2.out.drewN n3))
 clear C1
 go_wp2_with fail
 (with_reducible refine C2.out.mono ?_)
 rintro x w4 ⟨rfl,n4,rfl⟩
 have C3:=lh (fail_at (HS2.out.drewN (n3+n4)) 50)
 clear C2 c1 c4 g0
 go_wp2_with fail
 (with_reducible refine C3.out.mono ?_)
 rintro x w5 ⟨rfl,hk⟩
 have HK:=lh hk
 have A2:=lh (Lcl.on0 (show Lcl E v kvs q2 _ (W2.drewN (n3+n4)) from ⟨M2.out.loc,M2.out.lt,M2.out.obj⟩) hk.fr)
 have A0:=lh (Lcl.on0 (show Lcl E v kvs w.heap.size _ (W2.drewN (n3+n4)) from ⟨M0.out.loc,M0.out.lt,M0.out.obj⟩) hk.fr)
 have HG:=lh (HF2.out.drewN (n3+n4) |>.trans (hk.fr.mono (show w.heap.size≤W2.heap.size by omega)))
 have hs5:W2.heap.size≤w5.heap.size:=hk.fr.size
 clear C3 hk
 have m0:=A2.out.cell 0 rfl
 have m1:=A2.out.cell 1 rfl
 have m2:=A2.out.cell 2 rfl
 have m3:=A2.out.cell 3 rfl
 have m4:=A2.out.cell 4 rfl
 have mz:=A2.out.fz
 have r0:=A0.out.cell 0 rfl
 have r1:=A0.out.cell 1 rfl
 have r2:=A0.out.cell 2 rfl
 have r3:=A0.out.cell 3 rfl
 have r4:=A0.out.cell 4 rfl
 have rz:=A0.out.fz
 have R:=lh ((A0.out).set5 (.int .u8 0) (.int .i64 (aa:Int)) (.string tx) (.int .i64 0) (.slice none 0 0))
 have RR:=lh ((HE.out _ HK.out.rs).set5 M0.out.loc (.int .u8 0) (.int .i64 (aa:Int)) (.string tx) (.int .i64 0) (.slice none 0 0))
 have RF:=lh ((HG.out).set5 (by first|omega|(simp [size_set];omega)) (q:=w.heap.size) (Nat.le_refl _) (.int .u8 0) (.int .i64 (aa:Int)) (.string tx) (.int .i64 0) (.slice none 0 0))
 go_wp2_with fail
 generalize (((((w5.setCell ⟨w.heap.size,0,none⟩ (.int .u8 0)).setCell ⟨w.heap.size,1,none⟩ (.int .i64 (aa:Int))).setCell ⟨w.heap.size,2,none⟩ (.string tx)).setCell ⟨w.heap.size,3,none⟩ (.int .i64 0)).setCell ⟨w.heap.size,4,none⟩ (.slice none 0 0))=Wz at *
 clear m0 m1 m2 m3 m4 mz r0 r1 r2 r3 r4 rz
 have y0:=R.out.cell 0 rfl
 have y1:=R.out.cell 1 rfl
 have y2:=R.out.cell 2 rfl
 have y3:=R.out.cell 3 rfl
 have y4:=R.out.cell 4 rfl
 simp [bodyPost,results,Tryz.results293,go_sem,y0,y1,y2,y3,y4]
 exact ⟨_,rfl,⟨_,_,_,_,_,_,_,rfl⟩,RR.out,RF.out,fun y l' e=>by simp at e⟩
end
end Rf
namespace Rf
open Go.RowKit Par
section
variable {E:Env}{v:Value}{kvs:List Value}{md:List Nd}{i:Nat}{d e:Int}{w:World}
theorem factor_kneg0 (h:RS E v kvs md i 64 0 w)(h1:(RT E i).kind≠1)(h2:(RT E i).kind≠2)(h3:(RT E i).txt=⟨#[45]⟩):Calls Tryz.prog 293 #[.pointer (some ⟨E.b,0,none⟩)] w (PostX E v kvs md 64 (.err (RT E i).at' 51) w):=by
 have b0:(0:Int)≤(i:Int):=by omega
 have b1:(i:Int)<(E.toks.length:Int):=by have:=h.it;omega
 have hcap:=h.cap
 obtain ⟨HA,HF,c0,c1,c4,k0,k1,k3,k4,ST,k2⟩:=fh h (.cells #[.int .u8 0,.int .i64 0,.string ⟨#[]⟩,.int .i64 0,.slice none 0 0] 317)
 have HS0:=lh h
 have H1:=lh h1
 have H2:=lh h2
 have IS0:Hid (∀W,RS E v kvs md i 64 0 W→Calls Tryz.prog 95 #[.pointer (some ⟨E.b,0,none⟩),.string ⟨#[40]⟩] W fun x w'=>x=.returned (.bool false)∧∃m,w'=W.drewN m):=lh fun W hW=>by
  have:=is_at hW ⟨#[40]⟩ (by decide) (by decide)
  rwa [decide_eq_false (show ¬ (RT E i).txt=⟨#[40]⟩ by rw [h3];decide)] at this
 have IS1:Hid (∀W,RS E v kvs md i 64 0 W→Calls Tryz.prog 95 #[.pointer (some ⟨E.b,0,none⟩),.string ⟨#[45]⟩] W fun x w'=>x=.returned (.bool true)∧∃m,w'=W.drewN m):=lh fun W hW=>by
  have:=is_at hW ⟨#[45]⟩ (by decide) (by decide)
  rwa [decide_eq_true h3] at this
 have HE:Hid (∀W,RS E v kvs md i 65 51 W→At E v kvs md (64+1) (.err (RT E i).at' 51:Res Ast) W):=lh fun W hW=>At.of_err _ (Int.le_refl _) (by decide) rfl hW
 clear h h1 h2 h3
 go_enter Tryz.func293,Tryz.ntmps293
 go_wp2_with fail
 go_region_held3 (fun w'=>w'.cell? ⟨E.b,0,none⟩=some (.slice (some ⟨E.g,0,none⟩) E.toks.length E.cap)∧w'.cell? ⟨E.b,1,none⟩=some (.int .i64 (i:Int))∧w'.cell? ⟨E.g,i*5,none⟩=some (.int .u8 (RT E i).kind)∧w'.cell? ⟨E.g,i*5+1,none⟩=some (.int .i64 ((RT E i).at':Int))∧w'.cell? ⟨E.g,i*5+2,none⟩=some (.int .i64 (ST:Int))∧w'.cell? ⟨E.g,i*5+3,none⟩=some (.string (RT E i).txt)∧w'.cell? ⟨E.g,i*5+4,none⟩=some (.int .i64 (RT E i).n)) (go_keep) (first|fail)
 generalize (RT E i).kind=kd at *
 generalize (RT E i).at'=aa at *
 generalize (RT E i).txt=tx at *
 generalize (RT E i).n=nn at *
 obtain ⟨W1,hW1,L0,L1,HS1,HF1⟩:=fg HA HF HS0 (.cells #[.int .u8 kd,.int .i64 (aa:Int),.int .i64 (ST:Int),.string tx,.int .i64 nn] 160)
 rw [hW1]
 have hs1:w.heap.size+1<W1.heap.size:=L1.out.lt
 clear hW1 k0 k1 k2 k3 k4 c0 c1 c4 HA HF HS0
 have g1:=L1.out.cell 1 rfl
 have g3:=L1.out.cell 3 rfl
 go_upto_region 4 with fail
 have M0:=lh (L0.out.alloc (.cells #[.int .u8 0,.int .i64 (aa:Int),.string tx,.int .i64 0,.slice none 0 0] 317))
 have M1:=lh (L1.out.alloc (.cells #[.int .u8 0,.int .i64 (aa:Int),.string tx,.int .i64 0,.slice none 0 0] 317))
 have M2:=lh (HS1.out.lcl (.cells #[.int .u8 0,.int .i64 (aa:Int),.string tx,.int .i64 0,.slice none 0 0] 317))
 have HS2:=lh (HS1.out.alloc (.cells #[.int .u8 0,.int .i64 (aa:Int),.string tx,.int .i64 0,.slice none 0 0] 317))
 have HF2:=lh (HF1.out.alloc (by omega) (.cells #[.int .u8 0,.int .i64 (aa:Int),.string tx,.int .i64 0,.slice none 0 0] 317))
 obtain ⟨q2,hq2⟩:∃q2,W1.heap.size=q2:=⟨_,rfl⟩
 obtain ⟨W2,hW2⟩:∃W2,W1.alloc (.cells #[.int .u8 0,.int .i64 (aa:Int),.string tx,.int .i64 0,.slice none 0 0] 317)=W2:=⟨_,rfl⟩
 rw [hW2] at M0 M1 M2 HS2 HF2 ⊢
 rw [hq2] at M2 hs1 ⊢
 clear hW2 hq2 L0 L1 HS1 HF1 g1 g3 W1
 have hs2:q2<W2.heap.size:=M2.out.lt
 have hb0:E.b<w.heap.size:=M0.out.loc.lt
 have n02:w.heap.size≠q2:=by omega
 have n20:q2≠w.heap.size:=by omega
 have n12:w.heap.size+1≠q2:=by omega
 have n0b:w.heap.size≠E.b:=by have:=M0.out.loc.lt;omega
 have n2b:q2≠E.b:=by have:=M2.out.loc.lt;omega
 have nb0:E.b≠w.heap.size:=by omega
 have nb2:E.b≠q2:=by omega
 have hk1:(kd==1)=false:=by simpa using H1.out
 have hk2:(kd==2)=false:=by simpa using H2.out
 have g0:=M1.out.cell 0 rfl
 obtain ⟨_,c1,_,_,c4⟩:=HS2.out.rowCells
 have C0:=lh (IS0.out _ HS2.out)
 go_wp2_with fail
 (with_reducible refine C0.out.mono ?_)
 rintro x w0 ⟨rfl,n0,rfl⟩
 clear C0
 have C1:=lh (IS1.out _ (HS2.out.drewN n0))
 go_wp2_with fail
 (with_reducible refine C1.out.mono ?_)
 rintro x w3 ⟨rfl,n3,rfl⟩
 clear C1 c1 c4 g0
 obtain ⟨W3,hW3⟩:∃W3,((W2.drewN n0).drewN n3)=W3:=⟨_,rfl⟩
 have HS3:Hid (RS E v kvs md i 64 0 W3):=lh (by rw [← hW3];exact (HS2.out.drewN n0).drewN n3)
 have HF3:Hid (Fr E w.heap.size v v w W3):=lh (by rw [← hW3];exact (HF2.out.drewN n0).drewN n3)
 have A2:Hid (Lcl E v kvs q2 (.cells #[.int .u8 0,.int .i64 (aa:Int),.string tx,.int .i64 0,.slice none 0 0] 317) W3):=lh (by rw [← hW3];exact ⟨M2.out.loc,M2.out.lt,M2.out.obj⟩)
 have A0:Hid (Lcl E v kvs w.heap.size (.cells #[.int .u8 0,.int .i64 0,.string ⟨#[]⟩,.int .i64 0,.slice none 0 0] 317) W3):=lh (by rw [← hW3];exact ⟨M0.out.loc,M0.out.lt,M0.out.obj⟩)
 have hs3:W2.heap.size=W3.heap.size:=by rw [← hW3];rfl
 rw [hW3]
 clear hW3
 have m0:=A2.out.cell 0 rfl
 have m1:=A2.out.cell 1 rfl
 have m2:=A2.out.cell 2 rfl
 have m3:=A2.out.cell 3 rfl
 have m4:=A2.out.cell 4 rfl
 have mz:=A2.out.fz
 have B2:=lh ((A2.out.set 0 (.int .u8 26)).set 2 (.string ⟨#[]⟩))
 have B0:=lh ((A0.out.grown (grownBy_set _ ⟨q2,0,none⟩ (.int .u8 26)) (fun e=>n20 (Option.some.inj e))).grown (grownBy_set _ ⟨q2,2,none⟩ (.string ⟨#[]⟩)) (fun e=>n20 (Option.some.inj e)))
 have BS:=lh ((HS3.out.set (a:=⟨q2,0,none⟩) A2.out.loc (.int .u8 26)).set (a:=⟨q2,2,none⟩) A2.out.loc (.string ⟨#[]⟩))
 have BF:=lh ((HF3.out.set (by first|omega|(simp [size_set];omega)) (a:=⟨q2,0,none⟩) (show w.heap.size≤q2 by omega) (.int .u8 26)).set (by first|omega|(simp [size_set];omega)) (a:=⟨q2,2,none⟩) (show w.heap.size≤q2 by omega) (.string ⟨#[]⟩))
 have C3:=lh (in_deep BS.out)
 go_wp2_with fail
 (with_reducible refine C3.out.mono ?_)
 rintro x w5 ⟨rfl,hk⟩
 have D2:=lh (B2.out.on0 hk.fr)
 have D0:=lh (B0.out.on0 hk.fr)
 have DF:=lh (BF.out.trans (hk.fr.mono (show w.heap.size≤((W3.setCell ⟨q2,0,none⟩ (.int .u8 26)).setCell ⟨q2,2,none⟩ (.string ⟨#[]⟩)).heap.size by first|omega|(simp [size_set];omega))))
 have hs5:W3.heap.size≤w5.heap.size:=by have:=hk.fr.size;simpa [size_set] using this
 obtain ⟨d5,_,hd5,c2,cz,ha,hf⟩:=(HE.out _ hk.rs).deep (by decide)
 have hw:IntKind.i64.wrap (d5-1)=d5-1:=IntWalk.i64_in _ (by omega)
 have l63:-9223372036854775808≤d5-1:=by omega
 have u63:d5-1≤9223372036854775807:=by omega
 have HA:=lh ha
 have F0:=lh (D0.out.setB 2 (.int .i64 (d5-1)))
 have FF:=lh (DF.out.trans (hf.mono (show w.heap.size≤w5.heap.size by omega)))
 clear C3 hk ha hf m0 m1 m2 m3 m4 mz
 have m0:=D2.out.cell 0 rfl
 have m1:=D2.out.cell 1 rfl
 have m2:=D2.out.cell 2 rfl
 have m3:=D2.out.cell 3 rfl
 have m4:=D2.out.cell 4 rfl
 have mz:=D2.out.fz
 have r0:=D0.out.cell 0 rfl
 have r1:=D0.out.cell 1 rfl
 have r2:=D0.out.cell 2 rfl
 have r3:=D0.out.cell 3 rfl
 have r4:=D0.out.cell 4 rfl
 have rz:=D0.out.fz
 have R:=lh ((F0.out).set5 (.int .u8 26) (.int .i64 (aa:Int)) (.string ⟨#[]⟩) (.int .i64 0) (.slice none 0 0))
 have RR:=lh ((HA.out).set5 M0.out.loc (.int .u8 26) (.int .i64 (aa:Int)) (.string ⟨#[]⟩) (.int .i64 0) (.slice none 0 0))
 have RF:=lh ((FF.out).set5 (by first|omega|(simp [size_set];omega)) (q:=w.heap.size) (Nat.le_refl _) (.int .u8 26) (.int .i64 (aa:Int)) (.string ⟨#[]⟩) (.int .i64 0) (.slice none 0 0))
 go_wp2_with fail
 generalize ((((((w5.setCell ⟨E.b,2,none⟩ (.int .i64 (d5-1))).setCell ⟨w.heap.size,0,none⟩ (.int .u8 26)).setCell ⟨w.heap.size,1,none⟩ (.int .i64 (aa:Int))).setCell ⟨w.heap.size,2,none⟩ (.string ⟨#[]⟩)).setCell ⟨w.heap.size,3,none⟩ (.int .i64 0)).setCell ⟨w.heap.size,4,none⟩ (.slice none 0 0))=Wz at *
 clear m0 m1 m2 m3 m4 mz r0 r1 r2 r3 r4 rz c2 cz
 have y0:=R.out.cell 0 rfl
 have y1:=R.out.cell 1 rfl
 have y2:=R.out.cell 2 rfl
 have y3:=R.out.cell 3 rfl
 have y4:=R.out.cell 4 rfl
 simp [bodyPost,results,Tryz.results293,go_sem,y0,y1,y2,y3,y4]
 exact ⟨_,rfl,⟨_,_,_,_,_,_,_,rfl⟩,RR.out,RF.out,fun y l' e=>by simp at e⟩
end
end Rf
namespace Rf
open Go.RowKit Par
section
variable {E:Env}{v:Value}{kvs:List Value}{md:List Nd}{i:Nat}{d e:Int}{w:World}
theorem factor_kopen {fac:Par Ast}(HX:HasX 282 (d+1) (exprP fac))(hd:0≤d∧d<64)(h:RS E v kvs md i d 0 w)(h1:(RT E i).kind≠1)(h2:(RT E i).kind≠2)(h3:(RT E i).txt=⟨#[40]⟩):Calls Tryz.prog 293 #[.pointer (some ⟨E.b,0,none⟩)] w (PostX E v kvs md d (skp (exprP fac (E.pts.drop (i+1))) (expectP ⟨#[41]⟩)) w):=by
 have b0:(0:Int)≤(i:Int):=by omega
 have b1:(i:Int)<(E.toks.length:Int):=by have:=h.it;omega
 have hcap:=h.cap
 obtain ⟨HA,HF,c0,c1,c4,k0,k1,k3,k4,ST,k2⟩:=fh h (.cells #[.int .u8 0,.int .i64 0,.string ⟨#[]⟩,.int .i64 0,.slice none 0 0] 317)
 have HS0:=lh h
 have H1:=lh h1
 have H2:=lh h2
 have IS1:Hid (∀W,RS E v kvs md i d 0 W→Calls Tryz.prog 95 #[.pointer (some ⟨E.b,0,none⟩),.string ⟨#[40]⟩] W fun x w'=>x=.returned (.bool true)∧∃m,w'=W.drewN m):=lh fun W hW=>by
  have:=is_at hW ⟨#[40]⟩ (by decide) (by decide)
  rwa [decide_eq_true h3] at this
 have HXX:=lh HX
 have HD:=lh hd
 have HL:=lh (h.last i h.it (pt_no4 h.ptOk ⟨#[40]⟩ (by decide) h3))
 have h63:(i:Int)+1≤9223372036854775807:=by have:=h.it;have:=h.few;omega
 clear h h1 h2 h3 HX hd
 go_enter Tryz.func293,Tryz.ntmps293
 go_wp2_with fail
 go_region_held3 (fun w'=>w'.cell? ⟨E.b,0,none⟩=some (.slice (some ⟨E.g,0,none⟩) E.toks.length E.cap)∧w'.cell? ⟨E.b,1,none⟩=some (.int .i64 (i:Int))∧w'.cell? ⟨E.g,i*5,none⟩=some (.int .u8 (RT E i).kind)∧w'.cell? ⟨E.g,i*5+1,none⟩=some (.int .i64 ((RT E i).at':Int))∧w'.cell? ⟨E.g,i*5+2,none⟩=some (.int .i64 (ST:Int))∧w'.cell? ⟨E.g,i*5+3,none⟩=some (.string (RT E i).txt)∧w'.cell? ⟨E.g,i*5+4,none⟩=some (.int .i64 (RT E i).n)) (go_keep) (first|fail)
 generalize (RT E i).kind=kd at *
 generalize (RT E i).at'=aa at *
 generalize (RT E i).txt=tx at *
 generalize (RT E i).n=nn at *
 obtain ⟨W1,hW1,L0,L1,HS1,HF1⟩:=fg HA HF HS0 (.cells #[.int .u8 kd,.int .i64 (aa:Int),.int .i64 (ST:Int),.string tx,.int .i64 nn] 160)
 rw [hW1]
 have hs1:w.heap.size+1<W1.heap.size:=L1.out.lt
 clear hW1 k0 k1 k2 k3 k4 c0 c1 c4 HA HF HS0
 have g1:=L1.out.cell 1 rfl
 have g3:=L1.out.cell 3 rfl
 go_upto_region 4 with fail
 have M0:=lh (L0.out.alloc (.cells #[.int .u8 0,.int .i64 (aa:Int),.string tx,.int .i64 0,.slice none 0 0] 317))
 have M1:=lh (L1.out.alloc (.cells #[.int .u8 0,.int .i64 (aa:Int),.string tx,.int .i64 0,.slice none 0 0] 317))
 have M2:=lh (HS1.out.lcl (.cells #[.int .u8 0,.int .i64 (aa:Int),.string tx,.int .i64 0,.slice none 0 0] 317))
 have HS2:=lh (HS1.out.alloc (.cells #[.int .u8 0,.int .i64 (aa:Int),.string tx,.int .i64 0,.slice none 0 0] 317))
 have HF2:=lh (HF1.out.alloc (by omega) (.cells #[.int .u8 0,.int .i64 (aa:Int),.string tx,.int .i64 0,.slice none 0 0] 317))
 obtain ⟨q2,hq2⟩:∃q2,W1.heap.size=q2:=⟨_,rfl⟩
 obtain ⟨W2,hW2⟩:∃W2,W1.alloc (.cells #[.int .u8 0,.int .i64 (aa:Int),.string tx,.int .i64 0,.slice none 0 0] 317)=W2:=⟨_,rfl⟩
 rw [hW2] at M0 M1 M2 HS2 HF2 ⊢
 rw [hq2] at M2 hs1 ⊢
 clear hW2 hq2 L0 L1 HS1 HF1 g1 g3 W1
 have hs2:q2<W2.heap.size:=M2.out.lt
 have hb0:E.b<w.heap.size:=M0.out.loc.lt
 have n02:w.heap.size≠q2:=by omega
 have n20:q2≠w.heap.size:=by omega
 have n12:w.heap.size+1≠q2:=by omega
 have n0b:w.heap.size≠E.b:=by have:=M0.out.loc.lt;omega
 have n2b:q2≠E.b:=by have:=M2.out.loc.lt;omega
 have nb0:E.b≠w.heap.size:=by omega
 have nb2:E.b≠q2:=by omega
 have hk1:(kd==1)=false:=by simpa using H1.out
 have hk2:(kd==2)=false:=by simpa using H2.out
 have g0:=M1.out.cell 0 rfl
 obtain ⟨_,c1,_,_,c4⟩:=HS2.out.rowCells
 have C1:=lh (IS1.out _ HS2.out)
 go_wp2_with fail
 (with_reducible refine C1.out.mono ?_)
 rintro x w3 ⟨rfl,n3,rfl⟩
 clear C1 c1 c4 g0
 obtain ⟨W3,hW3⟩:∃W3,(W2.drewN n3)=W3:=⟨_,rfl⟩
 have HS3:Hid (RS E v kvs md i d 0 W3):=lh (by rw [← hW3];exact HS2.out.drewN n3)
 have HF3:Hid (Fr E w.heap.size v v w W3):=lh (by rw [← hW3];exact HF2.out.drewN n3)
 have A2:Hid (Lcl E v kvs q2 (.cells #[.int .u8 0,.int .i64 (aa:Int),.string tx,.int .i64 0,.slice none 0 0] 317) W3):=lh (by rw [← hW3];exact ⟨M2.out.loc,M2.out.lt,M2.out.obj⟩)
 have A0:Hid (Lcl E v kvs w.heap.size (.cells #[.int .u8 0,.int .i64 0,.string ⟨#[]⟩,.int .i64 0,.slice none 0 0] 317) W3):=lh (by rw [← hW3];exact ⟨M0.out.loc,M0.out.lt,M0.out.obj⟩)
 have hs3:W2.heap.size=W3.heap.size:=by rw [← hW3];rfl
 rw [hW3]
 clear hW3
 have C3:=lh (in_ok HS3.out HD.out.2)
 go_wp2_with fail
 (with_reducible refine C3.out.mono ?_)
 rintro x w4 ⟨rfl,hk⟩
 have D2:=lh (A2.out.on0 hk.fr)
 have D0:=lh (A0.out.on0 hk.fr)
 have DF:=lh (HF3.out.trans (hk.fr.mono (show w.heap.size≤W3.heap.size by first|omega|(simp [size_set];omega))))
 have hs4:W3.heap.size≤w4.heap.size:=by have:=hk.fr.size;simpa [size_set] using this
 obtain ⟨_,c1,_,_,_⟩:=hk.rs.rowCells
 have cz:=hk.rs.fz
 have hki:=hk.rs.inc HL.out
 have HA:=lh (At.of_ok (d:=d+1) () hki.rs)
 have E2:=lh (D2.out.setB 1 (.int .i64 ((i:Int)+1)))
 have E0:=lh (D0.out.setB 1 (.int .i64 ((i:Int)+1)))
 have EF:=lh (DF.out.trans (hki.fr.mono (show w.heap.size≤w4.heap.size by omega)))
 have C5:=lh (HXX.out E v kvs md _ Unit _ HA.out)
 have hs5:(w4.setCell ⟨E.b,1,none⟩ (.int .i64 ((i:Int)+1))).heap.size=w4.heap.size:=size_set _ _ _
 clear C3 hk hki
 go_wp2_with fail
 (with_reducible refine C5.out.mono ?_)
 rintro x w6 ⟨ev,rfl,⟨k6,a6,t6,m6,p6,l6,c6,rfl⟩,ha6,hf6,hx6⟩
 have G2:=lh (E2.out.on0 hf6)
 have G0:=lh (E0.out.on0 hf6)
 have hs6:w4.heap.size≤w6.heap.size:=by have:=hf6.size;rwa [hs5] at this
 have GF:=lh (EF.out.trans (hf6.mono (show w.heap.size≤_ by rw [hs5];omega)))
 have GA:=lh ha6
 have GX:=lh hx6
 clear C5 ha6 hf6 hx6 c1 cz
 have m0:=G2.out.cell 0 rfl
 have m1:=G2.out.cell 1 rfl
 have m2:=G2.out.cell 2 rfl
 have m3:=G2.out.cell 3 rfl
 have m4:=G2.out.cell 4 rfl
 have mz:=G2.out.fz
 have K2:=lh (G2.out.set5 (.int .u8 k6) (.int .i64 a6) (.string t6) (.int .i64 m6) (.slice p6 l6 c6))
 have K0:=lh (((((G0.out.grown (grownBy_set _ ⟨q2,0,none⟩ (.int .u8 k6)) (fun e=>n20 (Option.some.inj e))).grown (grownBy_set _ ⟨q2,1,none⟩ (.int .i64 a6)) (fun e=>n20 (Option.some.inj e))).grown (grownBy_set _ ⟨q2,2,none⟩ (.string t6)) (fun e=>n20 (Option.some.inj e))).grown (grownBy_set _ ⟨q2,3,none⟩ (.int .i64 m6)) (fun e=>n20 (Option.some.inj e))).grown (grownBy_set _ ⟨q2,4,none⟩ (.slice p6 l6 c6)) (fun e=>n20 (Option.some.inj e)))
 have KA:=lh (GA.out.set5 G2.out.loc (.int .u8 k6) (.int .i64 a6) (.string t6) (.int .i64 m6) (.slice p6 l6 c6))
 have KF:=lh (GF.out.set5 (by first|omega|(simp [size_set];omega)) (q:=q2) (show w.heap.size≤q2 by omega) (.int .u8 k6) (.int .i64 a6) (.string t6) (.int .i64 m6) (.slice p6 l6 c6))
 have KX:=lh (fun y l' e=>(GX.out y l' e).set5 (q:=q2) (show q2<_ by rw [hs5];omega) (.int .u8 k6) (.int .i64 a6) (.string t6) (.int .i64 m6) (.slice p6 l6 c6))
 have hs7:(((((w6.setCell ⟨q2,0,none⟩ (.int .u8 k6)).setCell ⟨q2,1,none⟩ (.int .i64 a6)).setCell ⟨q2,2,none⟩ (.string t6)).setCell ⟨q2,3,none⟩ (.int .i64 m6)).setCell ⟨q2,4,none⟩ (.slice p6 l6 c6)).heap.size=w6.heap.size:=by simp [size_set]
 have C7:=lh (take_R KA.out ⟨#[41]⟩ (by decide) (by decide))
 clear G2 G0 GA GF GX
 go_wp2_with fail
 generalize (((((w6.setCell ⟨q2,0,none⟩ (.int .u8 k6)).setCell ⟨q2,1,none⟩ (.int .i64 a6)).setCell ⟨q2,2,none⟩ (.string t6)).setCell ⟨q2,3,none⟩ (.int .i64 m6)).setCell ⟨q2,4,none⟩ (.slice p6 l6 c6))=W6 at *
 (with_reducible refine C7.out.mono ?_)
 rintro x w7 ⟨rfl,ha7,hf7⟩
 have L2:=lh (K2.out.on0 hf7)
 have L0:=lh (K0.out.on0 hf7)
 have hs8:w6.heap.size≤w7.heap.size:=by have:=hf7.size;omega
 have LF:=lh (KF.out.trans (hf7.mono (show w.heap.size≤W6.heap.size by omega)))
 have LX:=lh (fun y l' e=>(KX.out y l' e).fr hf7 (Nat.le_refl _))
 clear C7
 obtain ⟨d5,_,hd5,c2,cz,ha,hf⟩:=ha7.deep HD.out.1
 clear m0 m1 m2 m3 m4 mz
 have hw:IntKind.i64.wrap (d5-1)=d5-1:=IntWalk.i64_in _ (by have:=HD.out.1;omega)
 have l63:-9223372036854775808≤d5-1:=by have:=HD.out.1;omega
 have u63:d5-1≤9223372036854775807:=by omega
 have HA9:=lh ha
 have F0:=lh (L0.out.setB 2 (.int .i64 (d5-1)))
 have FF:=lh (LF.out.trans (hf.mono (show w.heap.size≤w7.heap.size by omega)))
 have FX:=lh (fun y l' e=>(LX.out y l' e).set (q:=⟨E.b,2,none⟩) (show E.b<_ by rw [hs5];omega) (.int .i64 (d5-1)))
 clear ha hf
 have m0:=L2.out.cell 0 rfl
 have m1:=L2.out.cell 1 rfl
 have m2:=L2.out.cell 2 rfl
 have m3:=L2.out.cell 3 rfl
 have m4:=L2.out.cell 4 rfl
 have mz:=L2.out.fz
 have r0:=L0.out.cell 0 rfl
 have r1:=L0.out.cell 1 rfl
 have r2:=L0.out.cell 2 rfl
 have r3:=L0.out.cell 3 rfl
 have r4:=L0.out.cell 4 rfl
 have rz:=L0.out.fz
 have R:=lh ((F0.out).set5 (.int .u8 k6) (.int .i64 a6) (.string t6) (.int .i64 m6) (.slice p6 l6 c6))
 have RR:=lh ((HA9.out).set5 M0.out.loc (.int .u8 k6) (.int .i64 a6) (.string t6) (.int .i64 m6) (.slice p6 l6 c6))
 have RF:=lh ((FF.out).set5 (by first|omega|(simp [size_set];omega)) (q:=w.heap.size) (Nat.le_refl _) (.int .u8 k6) (.int .i64 a6) (.string t6) (.int .i64 m6) (.slice p6 l6 c6))
 have RX:=lh (fun y l' e=>(FX.out y l' e).set5 (q:=w.heap.size) (show w.heap.size<_ by rw [hs5];omega) (.int .u8 k6) (.int .i64 a6) (.string t6) (.int .i64 m6) (.slice p6 l6 c6))
 go_wp2_with fail
 generalize ((((((w7.setCell ⟨E.b,2,none⟩ (.int .i64 (d5-1))).setCell ⟨w.heap.size,0,none⟩ (.int .u8 k6)).setCell ⟨w.heap.size,1,none⟩ (.int .i64 a6)).setCell ⟨w.heap.size,2,none⟩ (.string t6)).setCell ⟨w.heap.size,3,none⟩ (.int .i64 m6)).setCell ⟨w.heap.size,4,none⟩ (.slice p6 l6 c6))=Wz at *
 clear m0 m1 m2 m3 m4 mz r0 r1 r2 r3 r4 rz c2 cz
 have y0:=R.out.cell 0 rfl
 have y1:=R.out.cell 1 rfl
 have y2:=R.out.cell 2 rfl
 have y3:=R.out.cell 3 rfl
 have y4:=R.out.cell 4 rfl
 simp [bodyPost,results,Tryz.results293,go_sem,y0,y1,y2,y3,y4]
 exact ⟨_,rfl,⟨_,_,_,_,_,_,_,rfl⟩,RR.out,RF.out,fun y l' e=>by
  obtain ⟨l1,e1⟩:=skp_inv e
  have hx:=RX.out y l1 e1
  exact hx.less (by rw [hs5];omega)⟩
end
end Rf
namespace Rf
open Go.RowKit Par
section
variable {E:Env}{v:Value}{kvs:List Value}{md:List Nd}{i:Nat}{d e:Int}{w:World}
theorem factor_kneg {fac:Par Ast}(HX:HasX 293 (d+1) fac)(hd:0≤d∧d<64)(h:RS E v kvs md i d 0 w)(h1:(RT E i).kind≠1)(h2:(RT E i).kind≠2)(h3:(RT E i).txt=⟨#[45]⟩)(a':Nat)(ha':(RT E i).at'=a'):Calls Tryz.prog 293 #[.pointer (some ⟨E.b,0,none⟩)] w (PostX E v kvs md d (then' (fac (E.pts.drop (i+1))) fun a=>Par.pure (nodeA 26 a' [a])) w):=by
 have b0:(0:Int)≤(i:Int):=by omega
 have b1:(i:Int)<(E.toks.length:Int):=by have:=h.it;omega
 have hcap:=h.cap
 obtain ⟨HA,HF,c0,c1,c4,k0,k1,k3,k4,ST,k2⟩:=fh h (.cells #[.int .u8 0,.int .i64 0,.string ⟨#[]⟩,.int .i64 0,.slice none 0 0] 317)
 have HS0:=lh h
 have H1:=lh h1
 have H2:=lh h2
 have IS0:Hid (∀W,RS E v kvs md i d 0 W→Calls Tryz.prog 95 #[.pointer (some ⟨E.b,0,none⟩),.string ⟨#[40]⟩] W fun x w'=>x=.returned (.bool false)∧∃m,w'=W.drewN m):=lh fun W hW=>by
  have:=is_at hW ⟨#[40]⟩ (by decide) (by decide)
  rwa [decide_eq_false (show ¬ (RT E i).txt=⟨#[40]⟩ by rw [h3];decide)] at this
 have IS1:Hid (∀W,RS E v kvs md i d 0 W→Calls Tryz.prog 95 #[.pointer (some ⟨E.b,0,none⟩),.string ⟨#[45]⟩] W fun x w'=>x=.returned (.bool true)∧∃m,w'=W.drewN m):=lh fun W hW=>by
  have:=is_at hW ⟨#[45]⟩ (by decide) (by decide)
  rwa [decide_eq_true h3] at this
 have HXX:=lh HX
 have HAT:=lh ha'
 have HD:=lh hd
 have HL:=lh (h.last i h.it (pt_no4 h.ptOk ⟨#[45]⟩ (by decide) h3))
 have h63:(i:Int)+1≤9223372036854775807:=by have:=h.it;have:=h.few;omega
 clear h h1 h2 h3 HX hd ha'
 go_enter Tryz.func293,Tryz.ntmps293
 go_wp2_with fail
 go_region_held3 (fun w'=>w'.cell? ⟨E.b,0,none⟩=some (.slice (some ⟨E.g,0,none⟩) E.toks.length E.cap)∧w'.cell? ⟨E.b,1,none⟩=some (.int .i64 (i:Int))∧w'.cell? ⟨E.g,i*5,none⟩=some (.int .u8 (RT E i).kind)∧w'.cell? ⟨E.g,i*5+1,none⟩=some (.int .i64 ((RT E i).at':Int))∧w'.cell? ⟨E.g,i*5+2,none⟩=some (.int .i64 (ST:Int))∧w'.cell? ⟨E.g,i*5+3,none⟩=some (.string (RT E i).txt)∧w'.cell? ⟨E.g,i*5+4,none⟩=some (.int .i64 (RT E i).n)) (go_keep) (first|fail)
 generalize (RT E i).kind=kd at *
 generalize (RT E i).at'=aa at *
 generalize (RT E i).txt=tx at *
 generalize (RT E i).n=nn at *
 obtain ⟨W1,hW1,L0,L1,HS1,HF1⟩:=fg HA HF HS0 (.cells #[.int .u8 kd,.int .i64 (aa:Int),.int .i64 (ST:Int),.string tx,.int .i64 nn] 160)
 rw [hW1]
 have hs1:w.heap.size+1<W1.heap.size:=L1.out.lt
 clear hW1 k0 k1 k2 k3 k4 c0 c1 c4 HA HF HS0
 have g1:=L1.out.cell 1 rfl
 have g3:=L1.out.cell 3 rfl
 go_upto_region 4 with fail
 have M0:=lh (L0.out.alloc (.cells #[.int .u8 0,.int .i64 (aa:Int),.string tx,.int .i64 0,.slice none 0 0] 317))
 have M1:=lh (L1.out.alloc (.cells #[.int .u8 0,.int .i64 (aa:Int),.string tx,.int .i64 0,.slice none 0 0] 317))
 have M2:=lh (HS1.out.lcl (.cells #[.int .u8 0,.int .i64 (aa:Int),.string tx,.int .i64 0,.slice none 0 0] 317))
 have HS2:=lh (HS1.out.alloc (.cells #[.int .u8 0,.int .i64 (aa:Int),.string tx,.int .i64 0,.slice none 0 0] 317))
 have HF2:=lh (HF1.out.alloc (by omega) (.cells #[.int .u8 0,.int .i64 (aa:Int),.string tx,.int .i64 0,.slice none 0 0] 317))
 obtain ⟨q2,hq2⟩:∃q2,W1.heap.size=q2:=⟨_,rfl⟩
 obtain ⟨W2,hW2⟩:∃W2,W1.alloc (.cells #[.int .u8 0,.int .i64 (aa:Int),.string tx,.int .i64 0,.slice none 0 0] 317)=W2:=⟨_,rfl⟩
 rw [hW2] at M0 M1 M2 HS2 HF2 ⊢
 rw [hq2] at M2 hs1 ⊢
 clear hW2 hq2 L0 L1 HS1 HF1 g1 g3 W1
 have hs2:q2<W2.heap.size:=M2.out.lt
 have hb0:E.b<w.heap.size:=M0.out.loc.lt
 have n02:w.heap.size≠q2:=by omega
 have n20:q2≠w.heap.size:=by omega
 have n12:w.heap.size+1≠q2:=by omega
 have n0b:w.heap.size≠E.b:=by have:=M0.out.loc.lt;omega
 have n2b:q2≠E.b:=by have:=M2.out.loc.lt;omega
 have nb0:E.b≠w.heap.size:=by omega
 have nb2:E.b≠q2:=by omega
 have hk1:(kd==1)=false:=by simpa using H1.out
 have hk2:(kd==2)=false:=by simpa using H2.out
 have g0:=M1.out.cell 0 rfl
 obtain ⟨_,c1,_,_,c4⟩:=HS2.out.rowCells
 have C0:=lh (IS0.out _ HS2.out)
 go_wp2_with fail
 (with_reducible refine C0.out.mono ?_)
 rintro x w0 ⟨rfl,n0,rfl⟩
 clear C0
 have C1:=lh (IS1.out _ (HS2.out.drewN n0))
 go_wp2_with fail
 (with_reducible refine C1.out.mono ?_)
 rintro x w3 ⟨rfl,n3,rfl⟩
 clear C1 c1 c4 g0
 obtain ⟨W3,hW3⟩:∃W3,((W2.drewN n0).drewN n3)=W3:=⟨_,rfl⟩
 have HS3:Hid (RS E v kvs md i d 0 W3):=lh (by rw [← hW3];exact (HS2.out.drewN n0).drewN n3)
 have HF3:Hid (Fr E w.heap.size v v w W3):=lh (by rw [← hW3];exact (HF2.out.drewN n0).drewN n3)
 have A2:Hid (Lcl E v kvs q2 (.cells #[.int .u8 0,.int .i64 (aa:Int),.string tx,.int .i64 0,.slice none 0 0] 317) W3):=lh (by rw [← hW3];exact ⟨M2.out.loc,M2.out.lt,M2.out.obj⟩)
 have A0:Hid (Lcl E v kvs w.heap.size (.cells #[.int .u8 0,.int .i64 0,.string ⟨#[]⟩,.int .i64 0,.slice none 0 0] 317) W3):=lh (by rw [← hW3];exact ⟨M0.out.loc,M0.out.lt,M0.out.obj⟩)
 have hs3:W2.heap.size=W3.heap.size:=by rw [← hW3];rfl
 rw [hW3]
 clear hW3
 have m0:=A2.out.cell 0 rfl
 have m1:=A2.out.cell 1 rfl
 have m2:=A2.out.cell 2 rfl
 have m3:=A2.out.cell 3 rfl
 have m4:=A2.out.cell 4 rfl
 have mz:=A2.out.fz
 have B2:=lh ((A2.out.set 0 (.int .u8 26)).set 2 (.string ⟨#[]⟩))
 have B0:=lh ((A0.out.grown (grownBy_set _ ⟨q2,0,none⟩ (.int .u8 26)) (fun e=>n20 (Option.some.inj e))).grown (grownBy_set _ ⟨q2,2,none⟩ (.string ⟨#[]⟩)) (fun e=>n20 (Option.some.inj e)))
 have BS:=lh ((HS3.out.set (a:=⟨q2,0,none⟩) A2.out.loc (.int .u8 26)).set (a:=⟨q2,2,none⟩) A2.out.loc (.string ⟨#[]⟩))
 have BF:=lh ((HF3.out.set (by first|omega|(simp [size_set];omega)) (a:=⟨q2,0,none⟩) (show w.heap.size≤q2 by omega) (.int .u8 26)).set (by first|omega|(simp [size_set];omega)) (a:=⟨q2,2,none⟩) (show w.heap.size≤q2 by omega) (.string ⟨#[]⟩))
 have C3:=lh (in_ok BS.out HD.out.2)
 go_wp2_with fail
 (with_reducible refine C3.out.mono ?_)
 rintro x w4 ⟨rfl,hk⟩
 have D2:=lh (B2.out.on0 hk.fr)
 have D0:=lh (B0.out.on0 hk.fr)
 have DF:=lh (BF.out.trans (hk.fr.mono (show w.heap.size≤((W3.setCell ⟨q2,0,none⟩ (.int .u8 26)).setCell ⟨q2,2,none⟩ (.string ⟨#[]⟩)).heap.size by first|omega|(simp [size_set];omega))))
 have hs4:W3.heap.size≤w4.heap.size:=by have:=hk.fr.size;simpa [size_set] using this
 obtain ⟨_,c1,_,_,_⟩:=hk.rs.rowCells
 have cz:=hk.rs.fz
 have hki:=hk.rs.inc HL.out
 have HA:=lh (At.of_ok (d:=d+1) () hki.rs)
 have E2:=lh (D2.out.setB 1 (.int .i64 ((i:Int)+1)))
 have E0:=lh (D0.out.setB 1 (.int .i64 ((i:Int)+1)))
 have EF:=lh (DF.out.trans (hki.fr.mono (show w.heap.size≤w4.heap.size by omega)))
 have C5:=lh (HXX.out E v kvs md _ Unit _ HA.out)
 have hs5:(w4.setCell ⟨E.b,1,none⟩ (.int .i64 ((i:Int)+1))).heap.size=w4.heap.size:=size_set _ _ _
 clear C3 hk hki m0 m1 m2 m3 m4 mz
 go_wp2_with fail
 (with_reducible refine C5.out.mono ?_)
 rintro x w6 ⟨ev,rfl,⟨k6,a6,t6,m6,p6,l6,c6,rfl⟩,ha6,hf6,hx6⟩
 have G2:=lh (E2.out.on0 hf6)
 have G0:=lh (E0.out.on0 hf6)
 have hs6:w4.heap.size≤w6.heap.size:=by have:=hf6.size;rwa [hs5] at this
 have GF:=lh (EF.out.trans (hf6.mono (show w.heap.size≤_ by rw [hs5];omega)))
 have GA:=lh ha6
 have GX:=lh hx6
 clear C5 ha6 hf6 hx6 c1 cz
 have hbs:=bs_one w6 (.int .u8 k6) (.int .i64 a6) (.string t6) (.int .i64 m6) (.slice p6 l6 c6)
 rename_i Kx ax
 refine ax _ _ ?_
 refine wpList_bs rfl 315 1 #[(0,.tmp 94)] rfl #[(0,.agg #[.int .u8 k6,.int .i64 a6,.string t6,.int .i64 m6,.slice p6 l6 c6])] (by simp [Act.eval,Act.put]) _ _ hbs ?_
 clear hbs ax
 have P2:=lh (G2.out.alloc (.cells #[.int .u8 k6,.int .i64 a6,.string t6,.int .i64 m6,.slice p6 l6 c6] 317))
 have P0:=lh (G0.out.alloc (.cells #[.int .u8 k6,.int .i64 a6,.string t6,.int .i64 m6,.slice p6 l6 c6] 317))
 have PA:=lh (GA.out.alloc (.cells #[.int .u8 k6,.int .i64 a6,.string t6,.int .i64 m6,.slice p6 l6 c6] 317))
 have PF:=lh (GF.out.alloc (by omega) (.cells #[.int .u8 k6,.int .i64 a6,.string t6,.int .i64 m6,.slice p6 l6 c6] 317))
 have PX:=lh (fun y l' e=>(GX.out y l' e).alloc (.cells #[.int .u8 k6,.int .i64 a6,.string t6,.int .i64 m6,.slice p6 l6 c6] 317))
 have KL:=lh GA.out.fresh
 have PQ:Hid ((w6.alloc (.cells #[.int .u8 k6,.int .i64 a6,.string t6,.int .i64 m6,.slice p6 l6 c6] 317)).heap[w6.heap.size]?=some (.cells #[.int .u8 k6,.int .i64 a6,.string t6,.int .i64 m6,.slice p6 l6 c6] 317 (0,0))):=lh (heap_alloc_new w6 (.cells #[.int .u8 k6,.int .i64 a6,.string t6,.int .i64 m6,.slice p6 l6 c6] 317))
 have hs7:(w6.alloc (.cells #[.int .u8 k6,.int .i64 a6,.string t6,.int .i64 m6,.slice p6 l6 c6] 317)).heap.size=w6.heap.size+1:=by simp
 obtain ⟨q6,hq6⟩:∃q6,w6.heap.size=q6:=⟨_,rfl⟩
 rw [hq6] at hs7 hs6 KL PQ ⊢
 clear hq6
 generalize (w6.alloc (.cells #[.int .u8 k6,.int .i64 a6,.string t6,.int .i64 m6,.slice p6 l6 c6] 317))=w7 at *
 clear G2 G0 GA GF GX
 have m0:=P2.out.cell 0 rfl
 have m1:=P2.out.cell 1 rfl
 have m2:=P2.out.cell 2 rfl
 have m3:=P2.out.cell 3 rfl
 have m4:=P2.out.cell 4 rfl
 have mz:=P2.out.fz
 have r0:=P0.out.cell 0 rfl
 have r1:=P0.out.cell 1 rfl
 have r2:=P0.out.cell 2 rfl
 have r3:=P0.out.cell 3 rfl
 have r4:=P0.out.cell 4 rfl
 have rz:=P0.out.fz
 have n2x:q2≠q6:=by omega
 have n0x:w.heap.size≠q6:=by omega
 have KA:=lh (PA.out.set (a:=⟨q2,4,none⟩) P2.out.loc (.slice (some ⟨q6,0,none⟩) 1 1))
 have K0:=lh (P0.out.grown (grownBy_set _ ⟨q2,4,none⟩ (.slice (some ⟨q6,0,none⟩) 1 1)) (fun e=>n20 (Option.some.inj e)))
 have KF:=lh (PF.out.set (by first|omega|(simp [size_set];omega)) (a:=⟨q2,4,none⟩) (show w.heap.size≤q2 by omega) (.slice (some ⟨q6,0,none⟩) 1 1))
 have KX:=lh (fun y l' e=>(PX.out y l' e).set (q:=⟨q2,4,none⟩) (show q2<_ by rw [hs5];omega) (.slice (some ⟨q6,0,none⟩) 1 1))
 have KQ:Hid (((w7.setCell ⟨q2,4,none⟩ (.slice (some ⟨q6,0,none⟩) 1 1))).heap[q6]?=some (.cells #[.int .u8 k6,.int .i64 a6,.string t6,.int .i64 m6,.slice p6 l6 c6] 317 (0,0))):=lh ((Below.heap_setCell w7 ⟨q2,4,none⟩ (.slice (some ⟨q6,0,none⟩) 1 1) q6 (fun e=>n2x e.symm)).trans PQ.out)
 obtain ⟨d5,_,hd5,c2p,czp,ha,hf⟩:=KA.out.deep HD.out.1
 have c2:=(World.cell?_of_block (w:=w7) (a:=⟨E.b,2,none⟩) (Below.heap_setCell w7 ⟨q2,4,none⟩ (.slice (some ⟨q6,0,none⟩) 1 1) E.b nb2)).symm.trans c2p
 have cz:=(World.frozen?_of_block (w:=w7) (a:=⟨E.b,2,none⟩) (Below.heap_setCell w7 ⟨q2,4,none⟩ (.slice (some ⟨q6,0,none⟩) 1 1) E.b nb2)).symm.trans czp
 clear c2p czp
 have hs8:(w7.setCell ⟨q2,4,none⟩ (.slice (some ⟨q6,0,none⟩) 1 1)).heap.size=w7.heap.size:=size_set _ _ _
 have hw:IntKind.i64.wrap (d5-1)=d5-1:=IntWalk.i64_in _ (by have:=HD.out.1;omega)
 have l63:-9223372036854775808≤d5-1:=by have:=HD.out.1;omega
 have u63:d5-1≤9223372036854775807:=by omega
 have HA9:=lh ha
 have F0:=lh (K0.out.setB 2 (.int .i64 (d5-1)))
 have FF:=lh (KF.out.trans (hf.mono (show w.heap.size≤(w7.setCell ⟨q2,4,none⟩ (.slice (some ⟨q6,0,none⟩) 1 1)).heap.size by omega)))
 have FX:=lh (fun y l' e=>(KX.out y l' e).set (q:=⟨E.b,2,none⟩) (show E.b<_ by rw [hs5];omega) (.int .i64 (d5-1)))
 clear ha hf
 have R:=lh ((F0.out).set5 (.int .u8 26) (.int .i64 (aa:Int)) (.string ⟨#[]⟩) (.int .i64 0) (.slice (some ⟨q6,0,none⟩) 1 1))
 have RR:=lh (((HA9.out.mapv fun a=>nodeA 26 aa [a])).set5 M0.out.loc (.int .u8 26) (.int .i64 (aa:Int)) (.string ⟨#[]⟩) (.int .i64 0) (.slice (some ⟨q6,0,none⟩) 1 1))
 have RF:=lh ((FF.out).set5 (by first|omega|(simp [size_set];omega)) (q:=w.heap.size) (Nat.le_refl _) (.int .u8 26) (.int .i64 (aa:Int)) (.string ⟨#[]⟩) (.int .i64 0) (.slice (some ⟨q6,0,none⟩) 1 1))
 have RX:=lh (fun y l' e=>(FX.out y l' e).set5 (q:=w.heap.size) (show w.heap.size<_ by rw [hs5];omega) (.int .u8 26) (.int .i64 (aa:Int)) (.string ⟨#[]⟩) (.int .i64 0) (.slice (some ⟨q6,0,none⟩) 1 1))
 have hqb:q6≠E.b:=by omega
 have RQ:Hid ((((((((w7.setCell ⟨q2,4,none⟩ (.slice (some ⟨q6,0,none⟩) 1 1)).setCell ⟨E.b,2,none⟩ (.int .i64 (d5-1))).setCell ⟨w.heap.size,0,none⟩ (.int .u8 26)).setCell ⟨w.heap.size,1,none⟩ (.int .i64 (aa:Int))).setCell ⟨w.heap.size,2,none⟩ (.string ⟨#[]⟩)).setCell ⟨w.heap.size,3,none⟩ (.int .i64 0)).setCell ⟨w.heap.size,4,none⟩ (.slice (some ⟨q6,0,none⟩) 1 1)).heap[q6]?=some (.cells #[.int .u8 k6,.int .i64 a6,.string t6,.int .i64 m6,.slice p6 l6 c6] 317 (0,0))):=lh (by
  rw [heap_set5 n0x,Below.heap_setCell _ ⟨E.b,2,none⟩ _ q6 hqb]
  exact KQ.out)
 have RS:Hid (q6<(((((((w7.setCell ⟨q2,4,none⟩ (.slice (some ⟨q6,0,none⟩) 1 1)).setCell ⟨E.b,2,none⟩ (.int .i64 (d5-1))).setCell ⟨w.heap.size,0,none⟩ (.int .u8 26)).setCell ⟨w.heap.size,1,none⟩ (.int .i64 (aa:Int))).setCell ⟨w.heap.size,2,none⟩ (.string ⟨#[]⟩)).setCell ⟨w.heap.size,3,none⟩ (.int .i64 0)).setCell ⟨w.heap.size,4,none⟩ (.slice (some ⟨q6,0,none⟩) 1 1)).heap.size):=lh (by simp only [size_set];omega)
 go_wp2_with fail
 generalize (((((((w7.setCell ⟨q2,4,none⟩ (.slice (some ⟨q6,0,none⟩) 1 1)).setCell ⟨E.b,2,none⟩ (.int .i64 (d5-1))).setCell ⟨w.heap.size,0,none⟩ (.int .u8 26)).setCell ⟨w.heap.size,1,none⟩ (.int .i64 (aa:Int))).setCell ⟨w.heap.size,2,none⟩ (.string ⟨#[]⟩)).setCell ⟨w.heap.size,3,none⟩ (.int .i64 0)).setCell ⟨w.heap.size,4,none⟩ (.slice (some ⟨q6,0,none⟩) 1 1))=Wz at *
 clear m0 m1 m2 m3 m4 mz r0 r1 r2 r3 r4 rz c2 cz
 have y0:=R.out.cell 0 rfl
 have y1:=R.out.cell 1 rfl
 have y2:=R.out.cell 2 rfl
 have y3:=R.out.cell 3 rfl
 have y4:=R.out.cell 4 rfl
 simp [bodyPost,results,Tryz.results293,go_sem,y0,y1,y2,y3,y4]
 have hat:=HAT.out
 subst hat
 exact ⟨_,rfl,⟨_,_,_,_,_,_,_,rfl⟩,RR.out,RF.out,fun y l' e=>by
  obtain ⟨y1,e1,rfl⟩:=thenv_inv e
  have hx:=RX.out y1 _ e1
  rw [hs5] at hx
  exact ExprV.node1 KL.out (show w.heap.size≤q6 by omega) RS.out RQ.out 26 aa none0 0 (hx.less (by omega))⟩
end
end Rf
namespace Rf
open Go.RowKit Par
theorem factor_x {r:Nat}{fac:Par Ast}{d:Int}(hd:d=64-(r:Int))(hr:r≤64)(hS:∀r',r=r'+1→HasX 282 (d+1) (exprP fac)∧HasX 293 (d+1) fac):HasX 293 d (factorOf r fac):=by
 intro E v kvs md w α R h
 cases R with
 | err p c =>
  obtain ⟨i,d',g1,g2,g3,h⟩:=h
  refine (factor_err h g2).mono ?_
  rintro x w' ⟨ev,rfl,hs,hk⟩
  exact ⟨ev,rfl,hs,⟨i,d',g1,g2,g3,hk.rs⟩,hk.fr,fun y l' e=>by simp [then'] at e⟩
 | ok a l =>
  obtain ⟨i,rfl,h1⟩:=h.ok_of
  simp only [then']
  by_cases k1:(RT E i).kind=1
  · rw [factor_name k1];exact factor_kname h1 k1
  by_cases k2:(RT E i).kind=2
  · rw [factor_num k2];exact factor_knum h1 k2
  by_cases t1:(RT E i).txt=⟨#[40]⟩
  · cases r with
    | zero =>
     obtain rfl:d=64:=by simpa using hd
     rw [factor_open0 k1 k2 t1];exact factor_kopen0 h1 k1 k2 t1
    | succ r=>rw [factor_open k1 k2 t1];exact factor_kopen (hS r rfl).1 (by omega) h1 k1 k2 t1
  by_cases t2:(RT E i).txt=⟨#[45]⟩
  · cases r with
    | zero =>
     obtain rfl:d=64:=by simpa using hd
     rw [factor_neg0 k1 k2 t2];exact factor_kneg0 h1 k1 k2 t2
    | succ r=>rw [factor_neg k1 k2 t2];exact factor_kneg (hS r rfl).2 (by omega) h1 k1 k2 t2 _ rfl
  · rw [factor_no k1 k2 t1 t2];exact factor_kno h1 k1 k2 t1 t2
end Rf
namespace Rf
open Go.RowKit Par
section
variable {p:List Nd}{k:Int}{a:Nat}{t:ByteArray}{n:Int}{Q B:Nat}{R:Res (List Ast)}{md:List Nd}{E:Env}{v:Value}{kvs:List Value}{d:Int}{w w':World}
structure Nod (E:Env)(j:Nat)(g len cap:Nat)(w:World):Prop where
 lt:j<len
 gb:E.b≠g
 c3:w.cell? ⟨E.b,3,none⟩=some (.slice (some ⟨g,0,none⟩) len cap)
 fz:∀c,w.frozen? ⟨g,j*5+c,none⟩=false
 k0:∃x:Int,w.cell? ⟨g,j*5,none⟩=some (.int .u8 x)
 t0:∃x:ByteArray,w.cell? ⟨g,j*5+2,none⟩=some (.string x)
 n0:∃x:Int,w.cell? ⟨g,j*5+3,none⟩=some (.int .i64 x)
theorem RS.nod {g cap i:Nat}{e:Int}(h:RS E (.slice (some ⟨g,0,none⟩) md.length cap) kvs md i d e w)(j:Nat)(hj:j<md.length):Nod E j g md.length cap w where
 lt:=hj
 gb:=by have:=(h.vlt g rfl).1;omega
 c3:=h.rowCells.2.2.2.1
 fz:=fun c=>h.own.frozenAt (j*5+c)
 k0:=⟨_,by have:=h.own.cellAt (j*5+0) (by omega);rw [cellsM_get md kvs h.klen j hj 0 (by decide)] at this;exact this⟩
 t0:=⟨_,by have:=h.own.cellAt (j*5+2) (by omega);rw [cellsM_get md kvs h.klen j hj 2 (by decide)] at this;exact this⟩
 n0:=⟨_,by have:=h.own.cellAt (j*5+3) (by omega);rw [cellsM_get md kvs h.klen j hj 3 (by decide)] at this;exact this⟩
theorem Sh.nod (hs:Sh p k a t n Q B R md)(h:At E v kvs md d R w):∃g cap,v=.slice (some ⟨g,0,none⟩) md.length cap∧Nod E p.length g md.length cap w:=by
 obtain ⟨i,d',e',_,h⟩:=h.rs
 obtain ⟨g,cap,rfl,_,_⟩:=h.own.form (by have:=hs.lt;omega)
 exact ⟨g,cap,rfl,h.nod p.length hs.lt⟩
theorem At.nod {g cap:Nat}{α:Type}{R:Res α}(hj:p.length<md.length)(h:At E (.slice (some ⟨g,0,none⟩) md.length cap) kvs md d R w):Nod E p.length g md.length cap w:=by
 obtain ⟨i,d',e',_,h⟩:=h.rs
 exact h.nod p.length hj
theorem At.putf {g cap:Nat}{α:Type}{R:Res α}(h:At E (.slice (some ⟨g,0,none⟩) md.length cap) kvs md d R w)(j:Nat)(hj:j<md.length)(c:Nat)(hc:c<5)(u:Value)(nd':Nd)
 (hnd:nodeC nd' (kvs.getD j default)=(nodeC (md.getD j default) (kvs.getD j default)).set c u) (hk:nd'.kids=(md.getD j default).kids):At E (.slice (some ⟨g,0,none⟩) md.length cap) kvs (md.set j nd') d R (w.setCell ⟨g,j*5+c,none⟩ u):=by
 cases R with
 | ok a l =>
  obtain ⟨i,h1,h⟩:=h
  exact ⟨i,h1,(h.putf rfl j hj c hc u nd' hnd hk).1⟩
 | err q c' =>
  obtain ⟨i,d',h1,h2,h3,h⟩:=h
  exact ⟨i,d',h1,h2,h3,(h.putf rfl j hj c hc u nd' hnd hk).1⟩
theorem In.text {g cap:Nat}(hs:Sh p k a t n Q B R md)(h:At E (.slice (some ⟨g,0,none⟩) md.length cap) kvs md d R w)(t':ByteArray):In E p k a t' n d Q B R (w.setCell ⟨g,p.length*5+2,none⟩ (.string t')) :=
 ⟨_,kvs,_,hs.setT t',h.putf p.length hs.lt 2 (by decide) _ _ rfl rfl⟩
theorem In.num {g cap:Nat}(hs:Sh p k a t n Q B R md)(h:At E (.slice (some ⟨g,0,none⟩) md.length cap) kvs md d R w)(n':Int):In E p k a t n' d Q B R (w.setCell ⟨g,p.length*5+3,none⟩ (.int .i64 n')) :=
 ⟨_,kvs,_,hs.setN n',h.putf p.length hs.lt 3 (by decide) _ _ rfl rfl⟩
theorem In.kind {g cap:Nat}(hs:Sh p k a t n Q B R md)(h:At E (.slice (some ⟨g,0,none⟩) md.length cap) kvs md d R w)(k':Int):In E p k' a t n d Q B R (w.setCell ⟨g,p.length*5,none⟩ (.int .u8 k')) :=
 ⟨_,kvs,_,hs.setK k',by have:=h.putf p.length hs.lt 0 (by decide) (.int .u8 k') { md.getD p.length default with kind:=k' } rfl rfl;simpa using this⟩
theorem In.nod (h:In E p k a t n d Q B R w):∃g len cap,Nod E p.length g len cap w∧(∀t',In E p k a t' n d Q B R (w.setCell ⟨g,p.length*5+2,none⟩ (.string t')))∧(∀n',In E p k a t n' d Q B R (w.setCell ⟨g,p.length*5+3,none⟩ (.int .i64 n')))∧(∀k',In E p k' a t n d Q B R (w.setCell ⟨g,p.length*5,none⟩ (.int .u8 k'))):=by
 obtain ⟨v,kvs,md,hs,h⟩:=h
 obtain ⟨g,cap,rfl,hn⟩:=hs.nod h
 exact ⟨g,md.length,cap,hn,fun t'=>In.text hs h t',fun n'=>In.num hs h n',fun k'=>In.kind hs h k'⟩
theorem name_I (h:In E p k a t n d Q B R w)(hQ:Q≤B):∃g len cap,Nod E p.length g len cap w∧Calls Tryz.prog 163 #[.pointer (some ⟨E.b,0,none⟩)] w fun x w'=>∃s,x=.returned (.string s)∧(hdk R=1→s=hdt R)∧Nod E p.length g len cap w'∧In E p k a s n d Q B (skp R (takeP 1)) (w'.setCell ⟨g,p.length*5+2,none⟩ (.string s)):=by
 obtain ⟨v,kvs,md,hs,h⟩:=h
 obtain ⟨g,cap,rfl,hn⟩:=hs.nod h
 refine ⟨g,md.length,cap,hn,(name_R h).mono ?_⟩
 rintro x w' ⟨s,rfl,hd,h2,_⟩
 exact ⟨s,rfl,hd,h2.nod hs.lt,In.text (hs.skp (less_take 1) hQ) h2 s⟩
theorem name_IT (h:In E p k a t n d (Q+1) B R w)(hQ:Q+1≤B):∃g len cap,Nod E p.length g len cap w∧Calls Tryz.prog 163 #[.pointer (some ⟨E.b,0,none⟩)] w fun x w'=>∃s,x=.returned (.string s)∧(hdk R=1→s=hdt R)∧Nod E p.length g len cap w'∧In E p k a s n d Q B (skp R (takeP 1)) (w'.setCell ⟨g,p.length*5+2,none⟩ (.string s)):=by
 obtain ⟨v,kvs,md,hs,h⟩:=h
 obtain ⟨g,cap,rfl,hn⟩:=hs.nod h
 refine ⟨g,md.length,cap,hn,(name_R h).mono ?_⟩
 rintro x w' ⟨s,rfl,hd,h2,_⟩
 exact ⟨s,rfl,hd,h2.nod hs.lt,In.text (hs.skpT (takes_take 1) hQ) h2 s⟩
theorem In.inc (h:In E p k a t n d (Q+1) B R w)(hQ:Q+1≤B){s:ByteArray}(hn:s≠none0)(hy:nxt R s=true):∃(i:Nat),(i:Int)+1≤9223372036854775807∧w.cell? ⟨E.b,1,none⟩=some (.int .i64 (i:Int))∧w.frozen? ⟨E.b,1,none⟩=false∧In E p k a t n d Q B (skp R (skipP s)) (w.setCell ⟨E.b,1,none⟩ (.int .i64 ((i:Int)+1))):=by
 obtain ⟨v,kvs,md,hs,h⟩:=h
 obtain ⟨ks,i,rfl,h1,ht,hl⟩:=h.yes hn hy
 refine ⟨i,by have:=h1.few;omega,h1.rowCells.2.1,h1.fz 1,v,kvs,md,?_,?_⟩
 · simp only [skp,then',Par.bind,skipP,if_pos ht,Par.pure]
   exact ⟨by have:=hs.1;simp only [List.length_cons] at this;omega,hs.2⟩
 · simp only [skp,then',Par.bind,skipP,if_pos ht,Par.pure]
   exact ⟨i+1,rfl,(h1.inc hl).rs⟩
theorem In.not (h:In E p k a t n d Q B R w){s:ByteArray}(hy:nxt R s=false):skp R (skipP s)=R:=by
 cases R with
 | err q c=>rfl
 | ok ks l =>
  obtain ⟨v,kvs,md,hs,h⟩:=h
  obtain ⟨i,rfl,h1⟩:=h.ok_of
  simp only [nxt,decide_eq_false_iff_not] at hy
  simp only [skp,then',Par.bind,skipP,if_neg hy,Par.pure]
end
end Rf
section
open Go.RowKit
def bytesI (s:ByteArray):List Int:=s.data.toList.map fun b=>(b.toNat:Int)
theorem bytesI_length (s:ByteArray):(bytesI s).length=s.size:=by simp [bytesI]
theorem bytesI_get (s:ByteArray)(k:Nat)(h:k<s.size):(bytesI s).getD k 0=(s[k].toNat:Int):=by
 have:k<s.data.toList.length:=by simpa using h
 have e:s.data.toList[k]?=some s[k]:=List.getElem?_eq_getElem this
 simp only [bytesI,List.getD,List.getElem?_map,e,Option.map_some,Option.getD_some]
theorem bytesI_byte (s:ByteArray)(i:Nat):0≤(bytesI s).getD i 0∧(bytesI s).getD i 0<256:=by
 by_cases h:i<s.size
 · rw [bytesI_get s i h]
   have:=UInt8.toNat_lt s[i]
   omega
 · simp [List.getD,List.getElem?_eq_none (show (bytesI s).length≤i by rw [bytesI_length];omega)]
theorem bytesI_str (s:ByteArray):strOfNums (bytesI s)=s:=by
 obtain ⟨⟨l⟩⟩:=s
 simp [strOfNums,bytesI,Function.comp_def]
def namesF (l:List Int):Bool:=(match l with|[]=>false|c::_=>isLetter c)&&l.all isNameB
theorem all_take_succ (l:List Int)(k:Nat)(h:k<l.length):(l.take (k+1)).all isNameB=((l.take k).all isNameB&&isNameB (l.getD k 0)):=by
 rw [List.take_succ_eq_append_getElem h,List.all_append]
 simp [List.getD,h]
theorem namesF_no (l:List Int)(k:Nat)(h:k<l.length)(hk:isNameB (l.getD k 0)=false):namesF l=false:=by
 unfold namesF
 have:l.all isNameB=false:=by
  rw [List.all_eq_false]
  exact ⟨l.getD k 0,by simp [List.getD,h],by rw [hk];simp⟩
 rw [this,Bool.and_false]
theorem namesF_head (l:List Int)(h:0<l.length)(hk:isLetter (l.getD 0 0)=false):namesF l=false:=by
 cases l with
 | nil=>simp at h
 | cons c r=>simp only [List.getD_cons_zero] at hk;simp [namesF,hk]
theorem namesF_yes (l:List Int)(h:0<l.length)(hk:isLetter (l.getD 0 0)=true)(ha:(l.take l.length).all isNameB=true):namesF l=true:=by
 cases l with
 | nil=>simp at h
 | cons c r=>simp only [List.getD_cons_zero] at hk;rw [List.take_length] at ha;simp only [namesF,hk,ha,Bool.and_true]
theorem retB {a b:Bool}(h:a=b):Ending.returned (.bool a)=.returned (.bool b):=by rw [h]
theorem isName_at (w:World)(s:ByteArray)(hb:s.size≤70000) :
 Calls Tryz.prog 189 #[.string s] w fun e w'=>e=.returned (.bool (namesF (bytesI s)))∧Below w.heap.size w w':=by
 have HK:=lh (byteKinds_run w)
 by_cases h0:s.size=0
 · obtain rfl:s=ByteArray.empty:=ByteArray.size_eq_zero_iff.1 h0
   show Calls Tryz.prog 189 #[.string ⟨#[]⟩] w fun e w'=>e=.returned (.bool false)∧Below w.heap.size w w'
   go_enter Tryz.func189,Tryz.ntmps189
   go_wp2_with fail
   (with_reducible refine HK.out.mono ?_)
   rintro e W1 ⟨rfl,hk⟩
   have HB:=lh hk.below
   clear hk HK
   go_wp2
   go_ret
   exact ⟨rfl,HB.out⟩
 · have hne:s.toList.isEmpty=false:=by
    rw [← bytesI_str s,Lib.strOfNums_toList,List.isEmpty_eq_false_iff]
    intro e
    have:=congrArg List.length e
    rw [Lib.bytesOf,List.length_map,bytesI_length,List.length_nil] at this
    exact h0 this
   have hpos:0<s.size:=by omega
   have hlen:=lh (bytesI_length s)
   have h00:=lh (bytesI_get s 0 hpos)
   have hm0:=UInt8.toNat_lt s[0]
   have KL:=lh (kind_letter (s[0].toNat:Int))
   obtain ⟨m0,hm⟩:∃m0,s[0].toNat=m0:=⟨_,rfl⟩
   go_enter Tryz.func189,Tryz.ntmps189
   go_wp2_with fail
   (with_reducible refine HK.out.mono ?_)
   rintro e W1 ⟨rfl,hk⟩
   have HKW:=lh hk
   have HB:=lh hk.below
   clear hk HK
   go_wp2_with fail
   have hm256:m0<256:=by omega
   have KA:=kind_at W1 (w.heap.size+1) m0 hm256 (by rw [HKW.out.arr m0 hm256,FK_kind m0 hm256])
   have KL2:=KL.out
   rw [hm] at KL2
   have KL3:=lh KL2
   have H00:Hid ((bytesI s).getD 0 0=(m0:Int)):=by rw [← hm];exact h00
   clear KL2 KL h00
   generalize kindF m0=k at *
   (with_reducible refine KA.mono ?_)
   rintro e w' ⟨rfl,rfl⟩
   clear KA
   by_cases hk3:k=3
   · subst hk3
     have HL:Hid (isLetter ((bytesI s).getD 0 0)=true):=lh (by rw [H00.out];simpa using KL3.out.symm)
     clear hm hm0 hm256 KL3 H00
     go_wp2_with fail
     go_loop [17] (fun iv=>∃k:Nat,k≤s.size∧iv=.int .i64 k∧Hid (((bytesI s).take k).all isNameB=true)) (fun iv=>s.size-(intOf iv).toNat)
     case atStart=>exact ⟨0,Nat.zero_le _,rfl,lh rfl⟩
     case round =>
      obtain ⟨k,hk,rfl,HA⟩:=hrel
      by_cases hlt:k<s.size
      · have hgk:=bytesI_get s k hlt
        have hmk:=UInt8.toNat_lt s[k]
        obtain ⟨m,hm⟩:∃m,s[k].toNat=m:=⟨_,rfl⟩
        rw [hm] at hgk hmk
        have hm256:m<256:=by omega
        have KA:=kind_at w' (w.heap.size+1) m hm256 (by rw [HKW.out.arr m hm256,FK_kind m hm256])
        have KN:=kind_name m
        have HG:=lh hgk
        clear hgk
        generalize kindF m=kk at *
        have IN:=inName_at w' kk
        rw [KN] at IN
        have HKA:=lh KA
        have HIN:=lh IN
        clear KN KA IN
        cases hq:isNameB m with
        | true =>
         have HIN2:Hid (Calls Tryz.prog 154 #[.int .u8 kk] w' fun e w1=>e=.returned (.bool true)∧w1=w'):=by rw [← hq];exact HIN.out
         have HQ:=lh hq
         clear hq HIN
         go_wp2_with fail
         (with_reducible refine HKA.out.mono ?_)
         rintro e w2 ⟨rfl,rfl⟩
         go_wp2_with fail
         (with_reducible refine HIN2.out.mono ?_)
         rintro e w3 ⟨rfl,rfl⟩
         clear HKA HIN2
         go_wp2
         go_round
         case rel=>exact ⟨k+1,by omega,by go_num,lh (by rw [all_take_succ _ _ (by have:=hlen.out;omega),HA.out,HG.out,HQ.out];rfl)⟩
         case measure=>simp [intOf];omega
        | false =>
         have HIN2:Hid (Calls Tryz.prog 154 #[.int .u8 kk] w' fun e w1=>e=.returned (.bool false)∧w1=w'):=by rw [← hq];exact HIN.out
         have HQ:=lh hq
         clear hq HIN
         go_wp2_with fail
         (with_reducible refine HKA.out.mono ?_)
         rintro e w2 ⟨rfl,rfl⟩
         go_wp2_with fail
         (with_reducible refine HIN2.out.mono ?_)
         rintro e w3 ⟨rfl,rfl⟩
         clear HKA HIN2
         go_wp2
         go_ret
         exact ⟨retB (namesF_no _ k (by have:=hlen.out;omega) (by rw [HG.out];exact HQ.out)).symm,HB.out⟩
      · have hks:k=s.size:=by omega
        have HKS:=lh hks
        clear hks
        go_wp2
        go_ret
        exact ⟨retB (namesF_yes _ (by have:=hlen.out;omega) HL.out (by rw [hlen.out,← HKS.out];exact HA.out)).symm,HB.out⟩
   · have hk3':(k != 3)=true:=by simpa using hk3
     have HL:Hid (isLetter ((bytesI s).getD 0 0)=false):=lh (by rw [H00.out,← KL3.out];simpa using hk3)
     clear KL3 H00
     go_wp2
     go_ret
     exact ⟨retB (namesF_head _ (by have:=hlen.out;omega) HL.out).symm,HB.out⟩
end
section
open Go.RowKit
theorem letter_at (c:Int)(w:World):Calls Tryz.prog 157 #[.int .u8 c] w fun e w'=>e=.returned (.bool (isLetter c))∧w'=w:=by
 unfold isLetter
 by_cases h:97≤c
 · by_cases h2:c≤122
   · have e:(decide (97≤c)&&decide (c≤122))=true:=by simp [h,h2]
     rw [e]
     clear e
     go_enter Tryz.func157,Tryz.ntmps157
     go_wp2
     go_ret
     exact ⟨rfl,rfl⟩
   · have e:(decide (97≤c)&&decide (c≤122))=false:=by simp [h2]
     rw [e]
     clear e
     go_enter Tryz.func157,Tryz.ntmps157
     go_wp2
     go_ret
     exact ⟨rfl,rfl⟩
 · have e:(decide (97≤c)&&decide (c≤122))=false:=by simp [h]
   rw [e]
   clear e
   have hd:decide (97≤c)=false:=by simpa using h
   go_enter Tryz.func157,Tryz.ntmps157
   go_wp2
   go_ret
   exact ⟨rfl,rfl⟩
theorem digit_at (c:Int)(w:World):Calls Tryz.prog 158 #[.int .u8 c] w fun e w'=>e=.returned (.bool (isDigit c))∧w'=w:=by
 unfold isDigit
 by_cases h:48≤c
 · by_cases h2:c≤57
   · have e:(decide (48≤c)&&decide (c≤57))=true:=by simp [h,h2]
     rw [e]
     clear e
     go_enter Tryz.func158,Tryz.ntmps158
     go_wp2
     go_ret
     exact ⟨rfl,rfl⟩
   · have e:(decide (48≤c)&&decide (c≤57))=false:=by simp [h2]
     rw [e]
     clear e
     go_enter Tryz.func158,Tryz.ntmps158
     go_wp2
     go_ret
     exact ⟨rfl,rfl⟩
 · have e:(decide (48≤c)&&decide (c≤57))=false:=by simp [h]
   rw [e]
   clear e
   have hd:decide (48≤c)=false:=by simpa using h
   go_enter Tryz.func158,Tryz.ntmps158
   go_wp2
   go_ret
   exact ⟨rfl,rfl⟩
theorem bytes_conv (W:World)(s:ByteArray):∃W' cap,(convert 9 22 (.string s)).run Tryz.prog W=.ok (.slice (some ⟨W.heap.size,0,none⟩) s.size cap) W'∧Below W.heap.size W W'∧Src W' (some ⟨W.heap.size,0,none⟩) s.size cap (bytesI s):=by
 refine ⟨Lib.bytesWorld W 5 s,grownCap W s.size 0 5,Lib.run_convert_string_bytes W 9 22 5 s Tryz.underlying9 Tryz.underlying22 Tryz.underlying5,?_,bytesI_length s,bytesI_byte s,Or.inr ⟨W.heap.size,0,rfl,grownCap_ge _ _ _ _,by rw [Lib.bytesWorld_size];omega,fun i hi=>?_⟩⟩
 · exact ⟨by simp [Lib.bytesWorld,World.freeze,World.alloc,World.drew,-World.alloc_eq,-World.drew_eq],by simp [Lib.bytesWorld,World.freeze,World.alloc,World.drew,-World.alloc_eq,-World.drew_eq],by simp [Lib.bytesWorld,World.freeze,World.alloc,World.drew,-World.alloc_eq,-World.drew_eq],by rw [Lib.bytesWorld_size];omega,fun k hk=>Lib.bytesWorld_at_old W 5 s k hk⟩
 · rw [Nat.zero_add,Lib.bytesWorld_cell W 5 s i hi,bytesI_get s i hi]
   have e:s.data.toList[i]?=some s[i]:=List.getElem?_eq_getElem (by simpa using hi)
   rw [List.getD,e,Option.getD_some]
end
section
open Go.RowKit
theorem blank_at (c:Int)(w:World):Calls Tryz.prog 156 #[.int .u8 c] w fun e w'=>e=.returned (.bool (isBlank c))∧w'=w:=by
 by_cases h1:c=32
 · subst h1
   show Calls Tryz.prog 156 #[.int .u8 32] w fun e w'=>e=.returned (.bool true)∧w'=w
   go_enter Tryz.func156,Tryz.ntmps156
   go_wp2
   go_ret
   exact ⟨rfl,rfl⟩
 · have d1:(c==32)=false:=by simpa using h1
   by_cases h2:c=9
   · subst h2
     show Calls Tryz.prog 156 #[.int .u8 9] w fun e w'=>e=.returned (.bool true)∧w'=w
     go_enter Tryz.func156,Tryz.ntmps156
     go_wp2
     go_ret
     exact ⟨rfl,rfl⟩
   · have d2:(c==9)=false:=by simpa using h2
     by_cases h3:c=10
     · subst h3
       show Calls Tryz.prog 156 #[.int .u8 10] w fun e w'=>e=.returned (.bool true)∧w'=w
       go_enter Tryz.func156,Tryz.ntmps156
       go_wp2
       go_ret
       exact ⟨rfl,rfl⟩
     · have d3:(c==10)=false:=by simpa using h3
       have e:isBlank c=(c==13):=by simp [isBlank,d1,d2,d3]
       rw [e]
       generalize hq:(c==13)=q
       go_enter Tryz.func156,Tryz.ntmps156
       go_wp2
       go_ret
       exact ⟨rfl,rfl⟩
def marks:List Int:=[123,125,40,41,91,93,59,44,46,43,45,42,60,61]
theorem isMark_yes (c:Int)(k:Nat)(hk:k<14)(h:marks.getD k 0=c):isMark c=true:=by
 have hk':k<marks.length:=hk
 have:c∈marks:=by
  rw [← h,List.getD,List.getElem?_eq_getElem hk',Option.getD_some]
  exact List.getElem_mem hk'
 simpa [isMark,marks] using this
theorem isMark_no (c:Int)(h:∀k,k<14→marks.getD k 0≠c):isMark c=false:=by
 cases hm:isMark c with
 | false=>rfl
 | true =>
  have hin:c∈marks:=by simpa [isMark,marks] using hm
  obtain ⟨k,hk,e⟩:=List.mem_iff_getElem.1 hin
  exact absurd (by rw [List.getD,List.getElem?_eq_getElem hk,Option.getD_some];exact e) (h k hk)
theorem one_at (c:Int)(w:World):Calls Tryz.prog 160 #[.int .u8 c] w fun e w'=>e=.returned (.bool (isMark c))∧Below w.heap.size w w':=by
 have kc:=fun (w:World) (C:Array Value) (n c:Nat)=>Lib.run_convert_bytes_const (P:=Tryz.prog) w 22 5 C n c Tryz.underlying22 Tryz.underlying5
 have HC:Hid (∀k,k<14→(w.alloc (.cells #[.int .u8 123,.int .u8 125,.int .u8 40,.int .u8 41,.int .u8 91,.int .u8 93,.int .u8 59,.int .u8 44,.int .u8 46,.int .u8 43,.int .u8 45,.int .u8 42,.int .u8 60,.int .u8 61] 5 (14,15))).cell? ⟨w.heap.size,k,none⟩=some (.int .u8 (marks.getD k 0))):=lh (fun k hk=>by
  have hs:=src_const w #[.int .u8 123,.int .u8 125,.int .u8 40,.int .u8 41,.int .u8 91,.int .u8 93,.int .u8 59,.int .u8 44,.int .u8 46,.int .u8 43,.int .u8 45,.int .u8 42,.int .u8 60,.int .u8 61] marks 14 rfl rfl (by decide) 14 15
  rcases hs.2.2 with ⟨h,_⟩|⟨b,off,e,_,_,hx⟩
  · omega
  · simp only [Option.some.injEq,Addr.mk.injEq,and_true] at e
    obtain ⟨rfl,rfl⟩:=e
    have:=hx k hk
    rw [Nat.zero_add] at this
    exact this)
 go_enter Tryz.func160,Tryz.ntmps160
 go_wp2_with fail
 go_loop [8] (fun iv=>∃k:Nat,k≤14∧iv=.int .i64 k∧Hid (∀j,j<k→marks.getD j 0≠c)) (fun iv=>14-(intOf iv).toNat)
 case atStart=>exact ⟨0,by omega,rfl,lh (fun j hj=>by omega)⟩
 case round =>
  obtain ⟨k,hk,rfl,HN⟩:=hrel
  by_cases hlt:k<14
  · have hc:=HC.out k hlt
    obtain ⟨m,hm⟩:∃m,marks.getD k 0=m:=⟨_,rfl⟩
    rw [hm] at hc
    have HM:=lh hm
    clear hm kc
    by_cases he:m=c
    · have hd:(m==c)=true:=by simpa using he
      have HE:=lh he
      clear he
      go_wp2
      go_ret
      exact ⟨retB (isMark_yes c k hlt (HM.out.trans HE.out)).symm,one_below _ _⟩
    · have hd:(m==c)=false:=by simpa using he
      have HE:=lh he
      clear he
      go_wp2
      go_round
      case rel=>exact ⟨k+1,by omega,by go_num,lh (fun j hj=>by
       by_cases hjk:j<k
       · exact HN.out j hjk
       · obtain rfl:j=k:=by omega
         rw [HM.out]
         exact HE.out)⟩
      case measure=>simp [intOf];omega
  · clear kc
    go_wp2
    go_ret
    exact ⟨retB (isMark_no c (fun j hj=>HN.out j (by omega))).symm,one_below _ _⟩
def RefNum (s:ByteArray)(e:Ending):Prop :=
 e=match numV 0 (bytesI s) with
  | some n=>.returned (.tuple #[.int .i64 n,.bool true])
  | none=>.returned (.tuple #[.int .i64 0,.bool false])
theorem refNumber_at (w:World)(s:ByteArray)(hb:s.size≤70000)(hd:∀k,k<s.size→isDigit ((bytesI s).getD k 0)=true) :
 Calls Tryz.prog 159 #[.string s] w fun e w'=>RefNum s e∧w'=w:=by
 have hlen:=lh (bytesI_length s)
 have HD:=lh hd
 clear hd
 go_enter Tryz.func159,Tryz.ntmps159
 go_wp2_with fail
 go_loop [4,5] (fun nv iv=>∃(k:Nat) (n:Int),k≤s.size∧0≤n∧n≤2147483647∧nv=.int .i64 n∧iv=.int .i64 k∧Hid (numV n ((bytesI s).drop k)=numV 0 (bytesI s))) (fun _ iv=>s.size-(intOf iv).toNat)
 case atStart=>exact ⟨0,0,by omega,by omega,by omega,rfl,rfl,lh rfl⟩
 case round =>
  obtain ⟨k,n,hk,hn0,hn1,rfl,rfl,HN⟩:=hrel
  by_cases hlt:k<s.size
  · have hgk:=bytesI_get s k hlt
    have hdk:=HD.out k hlt
    have HY:=numV_yes n (bytesI s) k (by have:=hlen.out;omega) hdk
    have hmk:=UInt8.toNat_lt s[k]
    obtain ⟨m,hm⟩:∃m,s[k].toNat=m:=⟨_,rfl⟩
    rw [hm] at hgk hmk
    rw [hgk] at HY hdk
    have hdd:48≤m∧m≤57:=by simp [isDigit] at hdk;omega
    obtain ⟨hd1,hd2⟩:=hdd
    have HYY:=lh HY
    clear HY hgk hdk
    by_cases hbig:2147483647<10*n+((m:Int)-48)
    · have HF:Hid (numV 0 (bytesI s)=none):=lh (by rw [← HN.out,HYY.out,if_pos hbig])
      have hbig2:2147483647<n*10+((m:Int)-48):=by omega
      go_wp2
      go_ret2
      exact ⟨by rw [RefNum,HF.out];rfl,rfl⟩
    · have HF:Hid (numV (10*n+((m:Int)-48)) ((bytesI s).drop (k+1))=numV 0 (bytesI s)):=lh (by rw [← HN.out,HYY.out,if_neg hbig])
      have hbig2:¬ 2147483647<n*10+((m:Int)-48):=by omega
      go_wp2
      go_round
      case rel=>exact ⟨k+1,10*n+((m:Int)-48),by omega,by omega,by omega,by rw [Int.mul_comm],by go_num,HF⟩
      case measure=>simp [intOf];omega
  · have HF:Hid (numV 0 (bytesI s)=some n):=lh (by rw [← HN.out,List.drop_eq_nil_of_le (by have:=hlen.out;omega)];rfl)
    go_wp2
    go_ret2
    exact ⟨by rw [RefNum,HF.out];rfl,rfl⟩
end
end Go.Proofs.YthdioipfdbbmmaaGreatDoor
