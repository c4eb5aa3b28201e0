/- Contracts. -/
import Derived.Test.YthdioipfdbbmmaaGreatDoorKab
import Derived.Test.YthdioipfdbbmmaaGreatDoorKai
import Derived.Test.YthdioipfdbbmmaaGreatDoorKam
import Derived.Test.YthdioipfdbbmmaaGreatDoorKap
import Derived.Test.YthdioipfdbbmmaaGreatDoorKar
import Derived.IntWalk
import Derived.OwnWalk
import Derived.Deep.RegionHeld3
set_option linter.all false
set_option maxRecDepth 1000000
set_option maxHeartbeats 16000000
namespace Go.Proofs.YthdioipfdbbmmaaGreatDoor
section
open Go.RowKit Tr
theorem refStmt7 (ns:List Nd)(a:Nat)(s:ByteArray)(n:Int)(ks:List Ast)(hsh:isR (ks.map Ast.kind) [20,5]=true)(ih:∀y∈ks,y.kind=6→HasBl ns y):HasS ns (.mk 7 a s n ks):=by
 intro d o w p len c hT hO hw ht hlen hd
 obtain ⟨a',hnd⟩:=hO.node
 have hol:=hO.lt
 have hle:=hT.len_eq
 have hsz:=hO.size
 have b0:(0:Int)≤(o:Int):=by omega
 have b1:(o:Int)<(len:Int):=by omega
 obtain ⟨b,off,rfl,hbl,hc⟩:=hT.node (by omega)
 obtain ⟨kp,kl,kc,hn⟩:=hc o (by omega)
 rw [hnd] at hn
 have k0:w.cell? ⟨b,off+o*5,none⟩=some (.int .u8 7):=hn.kind
 have k1:w.cell? ⟨b,off+o*5+1,none⟩=some (.int .i64 a'):=hn.at'
 have k2:w.cell? ⟨b,off+o*5+2,none⟩=some (.string s):=hn.text
 have k3:w.cell? ⟨b,off+o*5+3,none⟩=some (.int .i64 n):=hn.n
 have k4:w.cell? ⟨b,off+o*5+4,none⟩=some (.slice kp kl kc):=hn.kids
 have hiv:IV w kp kl kc (heads (o+1) ks):=hn.iv
 have hkl:ks.length=kl:=by rw [← hiv.len_eq,heads_length]
 obtain ⟨x0,x1,rfl,hx0,hx1⟩:=sh20_5 hsh
 obtain rfl:kl=2:=hkl.symm
 obtain ⟨kb,koff,rfl,hkb,hkc⟩:=hiv.cell (by omega)
 have hb1:Below w.heap.size w (w.alloc (.cells #[.int .u8 7,.int .i64 a',.string s,.int .i64 n,.slice (some ⟨kb,koff,none⟩) 2 kc] 99)):=one_below w _
 have hs1:w.heap.size<(w.alloc (.cells #[.int .u8 7,.int .i64 a',.string s,.int .i64 n,.slice (some ⟨kb,koff,none⟩) 2 kc] 99)).heap.size:=by simp
 obtain ⟨q0,hq0,hql0,hO0⟩:=hO.kid 0 (by simp)
 have c0:(w.alloc (.cells #[.int .u8 7,.int .i64 a',.string s,.int .i64 n,.slice (some ⟨kb,koff,none⟩) 2 kc] 99)).cell? ⟨kb,koff,none⟩=some (.int .i64 (q0:Int)):=by rw [hb1.cell (p:=⟨kb,koff,none⟩) hkb];have h:=hkc 0 (by omega);rw [hq0] at h;exact h
 have hw0:=hw.kids (j:=0) (by simp)
 obtain ⟨q1,hq1,hql1,hO1⟩:=hO.kid 1 (by simp)
 have c1:(w.alloc (.cells #[.int .u8 7,.int .i64 a',.string s,.int .i64 n,.slice (some ⟨kb,koff,none⟩) 2 kc] 99)).cell? ⟨kb,koff+1,none⟩=some (.int .i64 (q1:Int)):=by rw [hb1.cell (p:=⟨kb,koff+1,none⟩) hkb];have h:=hkc 1 (by omega);rw [hq1] at h;exact h
 have hw1:=hw.kids (j:=1) (by simp)
 have ct:(w.alloc (.cells #[.int .u8 7,.int .i64 a',.string s,.int .i64 n,.slice (some ⟨kb,koff,none⟩) 2 kc] 99)).cell? ⟨w.heap.size,2,none⟩=some (.string s):=by simp
 have ce:(w.alloc (.cells #[.int .u8 7,.int .i64 a',.string s,.int .i64 n,.slice (some ⟨kb,koff,none⟩) 2 kc] 99)).cell? ⟨w.heap.size,3,none⟩=some (.int .i64 n):=by simp
 have T1:=lh (hT.on hb1)
 have P1:=lh (ht.below hb1)
 have HB1:=lh hb1
 simp only [Ast.size,sizeL] at hsz hd
 have hp0:=ast_pos x0
 have hp1:=ast_pos x1
 have hss:=hw.parts.2.2.1
 have HEQ:Hid (stT d (.mk 7 a s n [x0,x1])=_):=lh (show stF d 7 s n [exT x0,exT x1] [blT (d+1) x0,blT (d+1) x1]=_ from stF_eq7 d s n (exT x0) (exT x1) (blT (d+1) x0) (blT (d+1) x1))
 have hz0:=exT_size x0 hw0
 have hz1:=exT_size x1 hw1
 have hzt:=tabsT_size d
 clear hT hO hw ht hiv hn hc hle hnd hkc hq0 hq1 hkl hsh
 obtain ⟨W1,hW1⟩:∃W1,(w.alloc (.cells #[.int .u8 7,.int .i64 a',.string s,.int .i64 n,.slice (some ⟨kb,koff,none⟩) 2 kc] 99))=W1:=⟨_,rfl⟩
 rw [hW1] at hb1 hs1 c0 c1 ct ce T1 P1 HB1
 have HW1:=lh hW1
 clear hW1
 have HT0:Hid (∀w',w'.cell? ⟨kb,koff,none⟩=some (.int .i64 (q0:Int))→w'.cell? ⟨kb,koff+1,none⟩=some (.int .i64 (q1:Int))→w'.cell? ⟨w.heap.size,2,none⟩=some (.string s)→w'.cell? ⟨w.heap.size,3,none⟩=some (.int .i64 n)→Below W1.heap.size W1 w'→Calls Tryz.prog 104 #[.slice (some ⟨b,off,none⟩) len c,.int .i64 (q0:Int)] w' fun e w''=>e=.returned (.string (exT x0))∧w''.cell? ⟨kb,koff,none⟩=some (.int .i64 (q0:Int))∧w''.cell? ⟨kb,koff+1,none⟩=some (.int .i64 (q1:Int))∧w''.cell? ⟨w.heap.size,2,none⟩=some (.string s)∧w''.cell? ⟨w.heap.size,3,none⟩=some (.int .i64 n)∧Below W1.heap.size W1 w''):=lh (fun w' h0 h1 h2 h3 hb=>(refText_at ns x0 (Or.inr (by rw [hx0];decide)) q0 w' (some ⟨b,off,none⟩) len c (T1.out.on hb) hO0 hw0 (P1.out.below hb) hlen).mono fun e w'' ⟨he,hb2⟩=>⟨he,by rw [hb2.cell (p:=⟨kb,koff,none⟩) (Nat.lt_of_lt_of_le (Nat.lt_of_lt_of_le hkb HB1.out.size) hb.size)];exact h0,by rw [hb2.cell (p:=⟨kb,koff+1,none⟩) (Nat.lt_of_lt_of_le (Nat.lt_of_lt_of_le hkb HB1.out.size) hb.size)];exact h1,by rw [hb2.cell (p:=⟨w.heap.size,2,none⟩) (Nat.lt_of_lt_of_le hs1 hb.size)];exact h2,by rw [hb2.cell (p:=⟨w.heap.size,3,none⟩) (Nat.lt_of_lt_of_le hs1 hb.size)];exact h3,hb.trans (hb2.mono hb.size)⟩)
 have HT1:Hid (∀w',w'.cell? ⟨kb,koff,none⟩=some (.int .i64 (q0:Int))→w'.cell? ⟨kb,koff+1,none⟩=some (.int .i64 (q1:Int))→w'.cell? ⟨w.heap.size,2,none⟩=some (.string s)→w'.cell? ⟨w.heap.size,3,none⟩=some (.int .i64 n)→Below W1.heap.size W1 w'→Calls Tryz.prog 104 #[.slice (some ⟨b,off,none⟩) len c,.int .i64 (q1:Int)] w' fun e w''=>e=.returned (.string (exT x1))∧w''.cell? ⟨kb,koff,none⟩=some (.int .i64 (q0:Int))∧w''.cell? ⟨kb,koff+1,none⟩=some (.int .i64 (q1:Int))∧w''.cell? ⟨w.heap.size,2,none⟩=some (.string s)∧w''.cell? ⟨w.heap.size,3,none⟩=some (.int .i64 n)∧Below W1.heap.size W1 w''):=lh (fun w' h0 h1 h2 h3 hb=>(refText_at ns x1 (Or.inl hx1) q1 w' (some ⟨b,off,none⟩) len c (T1.out.on hb) hO1 hw1 (P1.out.below hb) hlen).mono fun e w'' ⟨he,hb2⟩=>⟨he,by rw [hb2.cell (p:=⟨kb,koff,none⟩) (Nat.lt_of_lt_of_le (Nat.lt_of_lt_of_le hkb HB1.out.size) hb.size)];exact h0,by rw [hb2.cell (p:=⟨kb,koff+1,none⟩) (Nat.lt_of_lt_of_le (Nat.lt_of_lt_of_le hkb HB1.out.size) hb.size)];exact h1,by rw [hb2.cell (p:=⟨w.heap.size,2,none⟩) (Nat.lt_of_lt_of_le hs1 hb.size)];exact h2,by rw [hb2.cell (p:=⟨w.heap.size,3,none⟩) (Nat.lt_of_lt_of_le hs1 hb.size)];exact h3,hb.trans (hb2.mono hb.size)⟩)
 have HE:Hid (∀w',w'.cell? ⟨kb,koff,none⟩=some (.int .i64 (q0:Int))→w'.cell? ⟨kb,koff+1,none⟩=some (.int .i64 (q1:Int))→w'.cell? ⟨w.heap.size,2,none⟩=some (.string s)→w'.cell? ⟨w.heap.size,3,none⟩=some (.int .i64 n)→Below W1.heap.size W1 w'→Calls Tryz.prog 58 #[.int .i64 n,.string ⟨#[]⟩,.string ⟨#[32,102,111,114,32,117,112,100,97,116,101]⟩] w' fun e w''=>e=.returned (.string (if n=1 then ⟨#[32,102,111,114,32,117,112,100,97,116,101]⟩ else ⟨#[]⟩))∧w''.cell? ⟨kb,koff,none⟩=some (.int .i64 (q0:Int))∧w''.cell? ⟨kb,koff+1,none⟩=some (.int .i64 (q1:Int))∧w''.cell? ⟨w.heap.size,2,none⟩=some (.string s)∧w''.cell? ⟨w.heap.size,3,none⟩=some (.int .i64 n)∧Below W1.heap.size W1 w''):=lh (fun w' h0 h1 h2 h3 hb=>(refEither_at w' n ⟨#[]⟩ ⟨#[32,102,111,114,32,117,112,100,97,116,101]⟩).mono fun e w'' ⟨he,hw⟩=>by subst hw;exact ⟨he,h0,h1,h2,h3,hb⟩)
 have hze:(if n=1 then (⟨#[32,102,111,114,32,117,112,100,97,116,101]⟩:ByteArray) else ⟨#[]⟩).size≤11:=by split<;>decide
 have HAH:=lh (fun w'=>refAhead_at w' d (by omega))
 generalize exT x0=T0 at *
 generalize exT x1=T1 at *
 generalize (if n=1 then (⟨#[32,102,111,114,32,117,112,100,97,116,101]⟩:ByteArray) else ⟨#[]⟩)=EI at *
 generalize tabsT d=TD at *
 have hd63:(d:Int)+1≤9223372036854775807:=by omega
 have z0:¬ 9223372036854775807<5+s.size:=by omega
 have z1:¬ 9223372036854775807<5+s.size+3:=by omega
 have z2:¬ 9223372036854775807<5+s.size+3+T0.size:=by omega
 have z3:¬ 9223372036854775807<5+s.size+3+T0.size+1:=by omega
 have z4:¬ 9223372036854775807<5+s.size+3+T0.size+1+T1.size:=by omega
 have z5:¬ 9223372036854775807<5+s.size+3+T0.size+1+T1.size+EI.size:=by omega
 have z6:¬ 9223372036854775807<5+s.size+3+T0.size+1+T1.size+EI.size+1:=by omega
 have zf:¬ 9223372036854775807<TD.size+(5+s.size+3+T0.size+1+T1.size+EI.size+1):=by omega
 have zg:¬ 9223372036854775807<TD.size+(5+s.size+3+T0.size+1+T1.size+EI.size+1)+1:=by omega
 have hbd:Below W1.heap.size W1 W1.drew:=(Below.refl _ _).drew
 have hbd0:Below W1.heap.size W1 W1:=Below.refl _ _
 clear hb1 hsz hd hss hw0 hO0 hx0 hp0 hql0 hw1 hO1 hx1 hp1 hql1 hz0 hz1  hze hzt ih
 go_enter Tryz.func105,Tryz.ntmps105
 go_wp2_with fail
 rw [HW1.out]
 clear HW1
 go_region_held3 (fun w'=>w'.cell? ⟨kb,koff,none⟩=some (.int .i64 (q0:Int))∧w'.cell? ⟨kb,koff+1,none⟩=some (.int .i64 (q1:Int))∧w'.cell? ⟨w.heap.size,2,none⟩=some (.string s)∧w'.cell? ⟨w.heap.size,3,none⟩=some (.int .i64 n)∧Below W1.heap.size W1 w') (go_keep) (first|(go_at_call 104;(with_reducible refine (HT0.out _ ?_ ?_ ?_ ?_ ?_).mono ?_);(first|assumption|exact c0);(first|assumption|exact c1);(first|assumption|exact ct);(first|assumption|exact ce);(first|assumption|exact hbd);rintro e w' ⟨rfl,r0,r1,r2,r3,rb⟩)|(go_at_call 104;(with_reducible refine (HT1.out _ ?_ ?_ ?_ ?_ ?_).mono ?_);(first|assumption|exact c0);(first|assumption|exact c1);(first|assumption|exact ct);(first|assumption|exact ce);(first|assumption|exact hbd);rintro e w' ⟨rfl,r0,r1,r2,r3,rb⟩)|(go_at_call 58;(with_reducible refine (HE.out _ ?_ ?_ ?_ ?_ ?_).mono ?_);(first|assumption|exact c0);(first|assumption|exact c1);(first|assumption|exact ct);(first|assumption|exact ce);(first|assumption|exact hbd);rintro e w' ⟨rfl,r0,r1,r2,r3,rb⟩))
 have RB:=lh rb
 clear rb
 go_wp2_with fail
 (with_reducible refine (HAH.out _).mono ?_)
 rintro e w4 ⟨rfl,rfl⟩
 go_wp2
 go_ret
 exact ⟨by rw [HEQ.out];first|done|rfl,HB1.out.trans (RB.out.mono HB1.out.size)⟩
theorem refStmt8 (ns:List Nd)(a:Nat)(s:ByteArray)(n:Int)(ks:List Ast)(hsh:isR (ks.map Ast.kind) [20,5,0]=true)(ih:∀y∈ks,y.kind=6→HasBl ns y):HasS ns (.mk 8 a s n ks):=by
 intro d o w p len c hT hO hw ht hlen hd
 obtain ⟨a',hnd⟩:=hO.node
 have hol:=hO.lt
 have hle:=hT.len_eq
 have hsz:=hO.size
 have b0:(0:Int)≤(o:Int):=by omega
 have b1:(o:Int)<(len:Int):=by omega
 obtain ⟨b,off,rfl,hbl,hc⟩:=hT.node (by omega)
 obtain ⟨kp,kl,kc,hn⟩:=hc o (by omega)
 rw [hnd] at hn
 have k0:w.cell? ⟨b,off+o*5,none⟩=some (.int .u8 8):=hn.kind
 have k1:w.cell? ⟨b,off+o*5+1,none⟩=some (.int .i64 a'):=hn.at'
 have k2:w.cell? ⟨b,off+o*5+2,none⟩=some (.string s):=hn.text
 have k3:w.cell? ⟨b,off+o*5+3,none⟩=some (.int .i64 n):=hn.n
 have k4:w.cell? ⟨b,off+o*5+4,none⟩=some (.slice kp kl kc):=hn.kids
 have hiv:IV w kp kl kc (heads (o+1) ks):=hn.iv
 have hkl:ks.length=kl:=by rw [← hiv.len_eq,heads_length]
 obtain ⟨x0,x1,x2,rfl,hx0,hx1,hx2⟩:=sh20_5_0 hsh
 obtain rfl:kl=3:=hkl.symm
 obtain ⟨kb,koff,rfl,hkb,hkc⟩:=hiv.cell (by omega)
 have hb1:Below w.heap.size w (w.alloc (.cells #[.int .u8 8,.int .i64 a',.string s,.int .i64 n,.slice (some ⟨kb,koff,none⟩) 3 kc] 99)):=one_below w _
 have hs1:w.heap.size<(w.alloc (.cells #[.int .u8 8,.int .i64 a',.string s,.int .i64 n,.slice (some ⟨kb,koff,none⟩) 3 kc] 99)).heap.size:=by simp
 obtain ⟨q0,hq0,hql0,hO0⟩:=hO.kid 0 (by simp)
 have c0:(w.alloc (.cells #[.int .u8 8,.int .i64 a',.string s,.int .i64 n,.slice (some ⟨kb,koff,none⟩) 3 kc] 99)).cell? ⟨kb,koff,none⟩=some (.int .i64 (q0:Int)):=by rw [hb1.cell (p:=⟨kb,koff,none⟩) hkb];have h:=hkc 0 (by omega);rw [hq0] at h;exact h
 have hw0:=hw.kids (j:=0) (by simp)
 obtain ⟨q1,hq1,hql1,hO1⟩:=hO.kid 1 (by simp)
 have c1:(w.alloc (.cells #[.int .u8 8,.int .i64 a',.string s,.int .i64 n,.slice (some ⟨kb,koff,none⟩) 3 kc] 99)).cell? ⟨kb,koff+1,none⟩=some (.int .i64 (q1:Int)):=by rw [hb1.cell (p:=⟨kb,koff+1,none⟩) hkb];have h:=hkc 1 (by omega);rw [hq1] at h;exact h
 have hw1:=hw.kids (j:=1) (by simp)
 obtain ⟨q2,hq2,hql2,hO2⟩:=hO.kid 2 (by simp)
 have c2:(w.alloc (.cells #[.int .u8 8,.int .i64 a',.string s,.int .i64 n,.slice (some ⟨kb,koff,none⟩) 3 kc] 99)).cell? ⟨kb,koff+2,none⟩=some (.int .i64 (q2:Int)):=by rw [hb1.cell (p:=⟨kb,koff+2,none⟩) hkb];have h:=hkc 2 (by omega);rw [hq2] at h;exact h
 have hw2:=hw.kids (j:=2) (by simp)
 have T1:=lh (hT.on hb1)
 have P1:=lh (ht.below hb1)
 have HB1:=lh hb1
 simp only [Ast.size,sizeL] at hsz hd
 have hp0:=ast_pos x0
 have hp1:=ast_pos x1
 have hp2:=ast_pos x2
 have hss:=hw.parts.2.2.1
 have HEQ:Hid (stT d (.mk 8 a s n [x0,x1,x2])=_):=lh (show stF d 8 s n [exT x0,exT x1,exT x2] [blT (d+1) x0,blT (d+1) x1,blT (d+1) x2]=_ from stF_eq8 d s n (exT x0) (exT x1) (exT x2) (blT (d+1) x0) (blT (d+1) x1) (blT (d+1) x2))
 have hz0:=exT_size x0 hw0
 have hz1:=exT_size x1 hw1
 have hz2:=exT_size x2 hw2
 have hzt:=tabsT_size d
 clear hT hO hw ht hiv hn hc hle hnd hkc hq0 hq1 hq2 hkl hsh
 obtain ⟨W1,hW1⟩:∃W1,(w.alloc (.cells #[.int .u8 8,.int .i64 a',.string s,.int .i64 n,.slice (some ⟨kb,koff,none⟩) 3 kc] 99))=W1:=⟨_,rfl⟩
 rw [hW1] at hb1 hs1 c0 c1 c2 T1 P1 HB1
 have HW1:=lh hW1
 clear hW1
 have HT0:Hid (∀w',w'.cell? ⟨kb,koff,none⟩=some (.int .i64 (q0:Int))→w'.cell? ⟨kb,koff+1,none⟩=some (.int .i64 (q1:Int))→w'.cell? ⟨kb,koff+2,none⟩=some (.int .i64 (q2:Int))→Below W1.heap.size W1 w'→Calls Tryz.prog 104 #[.slice (some ⟨b,off,none⟩) len c,.int .i64 (q0:Int)] w' fun e w''=>e=.returned (.string (exT x0))∧w''.cell? ⟨kb,koff,none⟩=some (.int .i64 (q0:Int))∧w''.cell? ⟨kb,koff+1,none⟩=some (.int .i64 (q1:Int))∧w''.cell? ⟨kb,koff+2,none⟩=some (.int .i64 (q2:Int))∧Below W1.heap.size W1 w''):=lh (fun w' h0 h1 h2 hb=>(refText_at ns x0 (Or.inr (by rw [hx0];decide)) q0 w' (some ⟨b,off,none⟩) len c (T1.out.on hb) hO0 hw0 (P1.out.below hb) hlen).mono fun e w'' ⟨he,hb2⟩=>⟨he,by rw [hb2.cell (p:=⟨kb,koff,none⟩) (Nat.lt_of_lt_of_le (Nat.lt_of_lt_of_le hkb HB1.out.size) hb.size)];exact h0,by rw [hb2.cell (p:=⟨kb,koff+1,none⟩) (Nat.lt_of_lt_of_le (Nat.lt_of_lt_of_le hkb HB1.out.size) hb.size)];exact h1,by rw [hb2.cell (p:=⟨kb,koff+2,none⟩) (Nat.lt_of_lt_of_le (Nat.lt_of_lt_of_le hkb HB1.out.size) hb.size)];exact h2,hb.trans (hb2.mono hb.size)⟩)
 have HT1:Hid (∀w',w'.cell? ⟨kb,koff,none⟩=some (.int .i64 (q0:Int))→w'.cell? ⟨kb,koff+1,none⟩=some (.int .i64 (q1:Int))→w'.cell? ⟨kb,koff+2,none⟩=some (.int .i64 (q2:Int))→Below W1.heap.size W1 w'→Calls Tryz.prog 104 #[.slice (some ⟨b,off,none⟩) len c,.int .i64 (q1:Int)] w' fun e w''=>e=.returned (.string (exT x1))∧w''.cell? ⟨kb,koff,none⟩=some (.int .i64 (q0:Int))∧w''.cell? ⟨kb,koff+1,none⟩=some (.int .i64 (q1:Int))∧w''.cell? ⟨kb,koff+2,none⟩=some (.int .i64 (q2:Int))∧Below W1.heap.size W1 w''):=lh (fun w' h0 h1 h2 hb=>(refText_at ns x1 (Or.inl hx1) q1 w' (some ⟨b,off,none⟩) len c (T1.out.on hb) hO1 hw1 (P1.out.below hb) hlen).mono fun e w'' ⟨he,hb2⟩=>⟨he,by rw [hb2.cell (p:=⟨kb,koff,none⟩) (Nat.lt_of_lt_of_le (Nat.lt_of_lt_of_le hkb HB1.out.size) hb.size)];exact h0,by rw [hb2.cell (p:=⟨kb,koff+1,none⟩) (Nat.lt_of_lt_of_le (Nat.lt_of_lt_of_le hkb HB1.out.size) hb.size)];exact h1,by rw [hb2.cell (p:=⟨kb,koff+2,none⟩) (Nat.lt_of_lt_of_le (Nat.lt_of_lt_of_le hkb HB1.out.size) hb.size)];exact h2,hb.trans (hb2.mono hb.size)⟩)
 have HT2:Hid (∀w',w'.cell? ⟨kb,koff,none⟩=some (.int .i64 (q0:Int))→w'.cell? ⟨kb,koff+1,none⟩=some (.int .i64 (q1:Int))→w'.cell? ⟨kb,koff+2,none⟩=some (.int .i64 (q2:Int))→Below W1.heap.size W1 w'→Calls Tryz.prog 104 #[.slice (some ⟨b,off,none⟩) len c,.int .i64 (q2:Int)] w' fun e w''=>e=.returned (.string (exT x2))∧w''.cell? ⟨kb,koff,none⟩=some (.int .i64 (q0:Int))∧w''.cell? ⟨kb,koff+1,none⟩=some (.int .i64 (q1:Int))∧w''.cell? ⟨kb,koff+2,none⟩=some (.int .i64 (q2:Int))∧Below W1.heap.size W1 w''):=lh (fun w' h0 h1 h2 hb=>(refText_at ns x2 (Or.inr (by have:=(isExprK_iff _).1 hx2;omega)) q2 w' (some ⟨b,off,none⟩) len c (T1.out.on hb) hO2 hw2 (P1.out.below hb) hlen).mono fun e w'' ⟨he,hb2⟩=>⟨he,by rw [hb2.cell (p:=⟨kb,koff,none⟩) (Nat.lt_of_lt_of_le (Nat.lt_of_lt_of_le hkb HB1.out.size) hb.size)];exact h0,by rw [hb2.cell (p:=⟨kb,koff+1,none⟩) (Nat.lt_of_lt_of_le (Nat.lt_of_lt_of_le hkb HB1.out.size) hb.size)];exact h1,by rw [hb2.cell (p:=⟨kb,koff+2,none⟩) (Nat.lt_of_lt_of_le (Nat.lt_of_lt_of_le hkb HB1.out.size) hb.size)];exact h2,hb.trans (hb2.mono hb.size)⟩)
 have HAH:=lh (fun w'=>refAhead_at w' d (by omega))
 generalize exT x0=T0 at *
 generalize exT x1=T1 at *
 generalize exT x2=T2 at *
 generalize tabsT d=TD at *
 have hd63:(d:Int)+1≤9223372036854775807:=by omega
 have z0:¬ 9223372036854775807<4+T0.size:=by omega
 have z1:¬ 9223372036854775807<4+T0.size+1:=by omega
 have z2:¬ 9223372036854775807<4+T0.size+1+T1.size:=by omega
 have z3:¬ 9223372036854775807<4+T0.size+1+T1.size+3:=by omega
 have z4:¬ 9223372036854775807<4+T0.size+1+T1.size+3+T2.size:=by omega
 have z5:¬ 9223372036854775807<4+T0.size+1+T1.size+3+T2.size+1:=by omega
 have zf:¬ 9223372036854775807<TD.size+(4+T0.size+1+T1.size+3+T2.size+1):=by omega
 have zg:¬ 9223372036854775807<TD.size+(4+T0.size+1+T1.size+3+T2.size+1)+1:=by omega
 have hbd:Below W1.heap.size W1 W1.drew:=(Below.refl _ _).drew
 have hbd0:Below W1.heap.size W1 W1:=Below.refl _ _
 clear hb1 hsz hd hss hw0 hO0 hx0 hp0 hql0 hw1 hO1 hx1 hp1 hql1 hw2 hO2 hx2 hp2 hql2 hz0 hz1 hz2  hzt ih
 go_enter Tryz.func105,Tryz.ntmps105
 go_wp2_with fail
 rw [HW1.out]
 clear HW1
 go_region_held3 (fun w'=>w'.cell? ⟨kb,koff,none⟩=some (.int .i64 (q0:Int))∧w'.cell? ⟨kb,koff+1,none⟩=some (.int .i64 (q1:Int))∧w'.cell? ⟨kb,koff+2,none⟩=some (.int .i64 (q2:Int))∧Below W1.heap.size W1 w') (go_keep) (first|(go_at_call 104;(with_reducible refine (HT0.out _ ?_ ?_ ?_ ?_).mono ?_);(first|assumption|exact c0);(first|assumption|exact c1);(first|assumption|exact c2);(first|assumption|exact hbd);rintro e w' ⟨rfl,r0,r1,r2,rb⟩)|(go_at_call 104;(with_reducible refine (HT1.out _ ?_ ?_ ?_ ?_).mono ?_);(first|assumption|exact c0);(first|assumption|exact c1);(first|assumption|exact c2);(first|assumption|exact hbd);rintro e w' ⟨rfl,r0,r1,r2,rb⟩)|(go_at_call 104;(with_reducible refine (HT2.out _ ?_ ?_ ?_ ?_).mono ?_);(first|assumption|exact c0);(first|assumption|exact c1);(first|assumption|exact c2);(first|assumption|exact hbd);rintro e w' ⟨rfl,r0,r1,r2,rb⟩))
 have RB:=lh rb
 clear rb
 go_wp2_with fail
 (with_reducible refine (HAH.out _).mono ?_)
 rintro e w4 ⟨rfl,rfl⟩
 go_wp2
 go_ret
 exact ⟨by rw [HEQ.out];first|done|rfl,HB1.out.trans (RB.out.mono HB1.out.size)⟩
theorem refStmt10 (ns:List Nd)(a:Nat)(s:ByteArray)(n:Int)(ks:List Ast)(hsh:isR (ks.map Ast.kind) [20]=true)(ih:∀y∈ks,y.kind=6→HasBl ns y):HasS ns (.mk 10 a s n ks):=by
 intro d o w p len c hT hO hw ht hlen hd
 obtain ⟨a',hnd⟩:=hO.node
 have hol:=hO.lt
 have hle:=hT.len_eq
 have hsz:=hO.size
 have b0:(0:Int)≤(o:Int):=by omega
 have b1:(o:Int)<(len:Int):=by omega
 obtain ⟨b,off,rfl,hbl,hc⟩:=hT.node (by omega)
 obtain ⟨kp,kl,kc,hn⟩:=hc o (by omega)
 rw [hnd] at hn
 have k0:w.cell? ⟨b,off+o*5,none⟩=some (.int .u8 10):=hn.kind
 have k1:w.cell? ⟨b,off+o*5+1,none⟩=some (.int .i64 a'):=hn.at'
 have k2:w.cell? ⟨b,off+o*5+2,none⟩=some (.string s):=hn.text
 have k3:w.cell? ⟨b,off+o*5+3,none⟩=some (.int .i64 n):=hn.n
 have k4:w.cell? ⟨b,off+o*5+4,none⟩=some (.slice kp kl kc):=hn.kids
 have hiv:IV w kp kl kc (heads (o+1) ks):=hn.iv
 have hkl:ks.length=kl:=by rw [← hiv.len_eq,heads_length]
 obtain ⟨x0,rfl,hx0⟩:=sh20 hsh
 obtain rfl:kl=1:=hkl.symm
 obtain ⟨kb,koff,rfl,hkb,hkc⟩:=hiv.cell (by omega)
 have hb1:Below w.heap.size w (w.alloc (.cells #[.int .u8 10,.int .i64 a',.string s,.int .i64 n,.slice (some ⟨kb,koff,none⟩) 1 kc] 99)):=one_below w _
 have hs1:w.heap.size<(w.alloc (.cells #[.int .u8 10,.int .i64 a',.string s,.int .i64 n,.slice (some ⟨kb,koff,none⟩) 1 kc] 99)).heap.size:=by simp
 obtain ⟨q0,hq0,hql0,hO0⟩:=hO.kid 0 (by simp)
 have c0:(w.alloc (.cells #[.int .u8 10,.int .i64 a',.string s,.int .i64 n,.slice (some ⟨kb,koff,none⟩) 1 kc] 99)).cell? ⟨kb,koff,none⟩=some (.int .i64 (q0:Int)):=by rw [hb1.cell (p:=⟨kb,koff,none⟩) hkb];have h:=hkc 0 (by omega);rw [hq0] at h;exact h
 have hw0:=hw.kids (j:=0) (by simp)
 have T1:=lh (hT.on hb1)
 have P1:=lh (ht.below hb1)
 have HB1:=lh hb1
 simp only [Ast.size,sizeL] at hsz hd
 have hp0:=ast_pos x0
 have hss:=hw.parts.2.2.1
 have HEQ:Hid (stT d (.mk 10 a s n [x0])=_):=lh (show stF d 10 s n [exT x0] [blT (d+1) x0]=_ from stF_eq10 d s n (exT x0) (blT (d+1) x0))
 have hz0:=exT_size x0 hw0
 have hzt:=tabsT_size d
 clear hT hO hw ht hiv hn hc hle hnd hkc hq0 hkl hsh
 obtain ⟨W1,hW1⟩:∃W1,(w.alloc (.cells #[.int .u8 10,.int .i64 a',.string s,.int .i64 n,.slice (some ⟨kb,koff,none⟩) 1 kc] 99))=W1:=⟨_,rfl⟩
 rw [hW1] at hb1 hs1 c0 T1 P1 HB1
 have HW1:=lh hW1
 clear hW1
 have HT0:Hid (∀w',w'.cell? ⟨kb,koff,none⟩=some (.int .i64 (q0:Int))→Below W1.heap.size W1 w'→Calls Tryz.prog 104 #[.slice (some ⟨b,off,none⟩) len c,.int .i64 (q0:Int)] w' fun e w''=>e=.returned (.string (exT x0))∧w''.cell? ⟨kb,koff,none⟩=some (.int .i64 (q0:Int))∧Below W1.heap.size W1 w''):=lh (fun w' h0 hb=>(refText_at ns x0 (Or.inr (by rw [hx0];decide)) q0 w' (some ⟨b,off,none⟩) len c (T1.out.on hb) hO0 hw0 (P1.out.below hb) hlen).mono fun e w'' ⟨he,hb2⟩=>⟨he,by rw [hb2.cell (p:=⟨kb,koff,none⟩) (Nat.lt_of_lt_of_le (Nat.lt_of_lt_of_le hkb HB1.out.size) hb.size)];exact h0,hb.trans (hb2.mono hb.size)⟩)
 have HAH:=lh (fun w'=>refAhead_at w' d (by omega))
 generalize exT x0=T0 at *
 generalize tabsT d=TD at *
 have hd63:(d:Int)+1≤9223372036854775807:=by omega
 have z0:¬ 9223372036854775807<7+T0.size:=by omega
 have z1:¬ 9223372036854775807<7+T0.size+1:=by omega
 have zf:¬ 9223372036854775807<TD.size+(7+T0.size+1):=by omega
 have zg:¬ 9223372036854775807<TD.size+(7+T0.size+1)+1:=by omega
 have hbd:Below W1.heap.size W1 W1.drew:=(Below.refl _ _).drew
 have hbd0:Below W1.heap.size W1 W1:=Below.refl _ _
 clear hb1 hsz hd hss hw0 hO0 hx0 hp0 hql0 hz0  hzt ih
 go_enter Tryz.func105,Tryz.ntmps105
 go_upto_region 12 with fail
 rw [HW1.out]
 clear HW1
 go_wp2_with fail
 (with_reducible refine (HT0.out _ c0 hbd0).mono ?_)
 rintro e w' ⟨rfl,r0,rb⟩
 have RB:=lh rb
 clear rb
 go_wp2_with fail
 (with_reducible refine (HAH.out _).mono ?_)
 rintro e w4 ⟨rfl,rfl⟩
 go_wp2
 go_ret
 exact ⟨by rw [HEQ.out];first|done|rfl,HB1.out.trans (RB.out.mono HB1.out.size)⟩
theorem refStmt11 (ns:List Nd)(a:Nat)(s:ByteArray)(n:Int)(ks:List Ast)(hsh:isR (ks.map Ast.kind) [5,5]=true)(ih:∀y∈ks,y.kind=6→HasBl ns y):HasS ns (.mk 11 a s n ks):=by
 intro d o w p len c hT hO hw ht hlen hd
 obtain ⟨a',hnd⟩:=hO.node
 have hol:=hO.lt
 have hle:=hT.len_eq
 have hsz:=hO.size
 have b0:(0:Int)≤(o:Int):=by omega
 have b1:(o:Int)<(len:Int):=by omega
 obtain ⟨b,off,rfl,hbl,hc⟩:=hT.node (by omega)
 obtain ⟨kp,kl,kc,hn⟩:=hc o (by omega)
 rw [hnd] at hn
 have k0:w.cell? ⟨b,off+o*5,none⟩=some (.int .u8 11):=hn.kind
 have k1:w.cell? ⟨b,off+o*5+1,none⟩=some (.int .i64 a'):=hn.at'
 have k2:w.cell? ⟨b,off+o*5+2,none⟩=some (.string s):=hn.text
 have k3:w.cell? ⟨b,off+o*5+3,none⟩=some (.int .i64 n):=hn.n
 have k4:w.cell? ⟨b,off+o*5+4,none⟩=some (.slice kp kl kc):=hn.kids
 have hiv:IV w kp kl kc (heads (o+1) ks):=hn.iv
 have hkl:ks.length=kl:=by rw [← hiv.len_eq,heads_length]
 obtain ⟨x0,x1,rfl,hx0,hx1⟩:=sh5_5 hsh
 obtain rfl:kl=2:=hkl.symm
 obtain ⟨kb,koff,rfl,hkb,hkc⟩:=hiv.cell (by omega)
 have hb1:Below w.heap.size w (w.alloc (.cells #[.int .u8 11,.int .i64 a',.string s,.int .i64 n,.slice (some ⟨kb,koff,none⟩) 2 kc] 99)):=one_below w _
 have hs1:w.heap.size<(w.alloc (.cells #[.int .u8 11,.int .i64 a',.string s,.int .i64 n,.slice (some ⟨kb,koff,none⟩) 2 kc] 99)).heap.size:=by simp
 obtain ⟨q0,hq0,hql0,hO0⟩:=hO.kid 0 (by simp)
 have c0:(w.alloc (.cells #[.int .u8 11,.int .i64 a',.string s,.int .i64 n,.slice (some ⟨kb,koff,none⟩) 2 kc] 99)).cell? ⟨kb,koff,none⟩=some (.int .i64 (q0:Int)):=by rw [hb1.cell (p:=⟨kb,koff,none⟩) hkb];have h:=hkc 0 (by omega);rw [hq0] at h;exact h
 have hw0:=hw.kids (j:=0) (by simp)
 obtain ⟨q1,hq1,hql1,hO1⟩:=hO.kid 1 (by simp)
 have c1:(w.alloc (.cells #[.int .u8 11,.int .i64 a',.string s,.int .i64 n,.slice (some ⟨kb,koff,none⟩) 2 kc] 99)).cell? ⟨kb,koff+1,none⟩=some (.int .i64 (q1:Int)):=by rw [hb1.cell (p:=⟨kb,koff+1,none⟩) hkb];have h:=hkc 1 (by omega);rw [hq1] at h;exact h
 have hw1:=hw.kids (j:=1) (by simp)
 have ct:(w.alloc (.cells #[.int .u8 11,.int .i64 a',.string s,.int .i64 n,.slice (some ⟨kb,koff,none⟩) 2 kc] 99)).cell? ⟨w.heap.size,2,none⟩=some (.string s):=by simp
 have T1:=lh (hT.on hb1)
 have P1:=lh (ht.below hb1)
 have HB1:=lh hb1
 simp only [Ast.size,sizeL] at hsz hd
 have hp0:=ast_pos x0
 have hp1:=ast_pos x1
 have hss:=hw.parts.2.2.1
 have HEQ:Hid (stT d (.mk 11 a s n [x0,x1])=_):=lh (show stF d 11 s n [exT x0,exT x1] [blT (d+1) x0,blT (d+1) x1]=_ from stF_eq11 d s n (exT x0) (exT x1) (blT (d+1) x0) (blT (d+1) x1))
 have hz0:=exT_size x0 hw0
 have hz1:=exT_size x1 hw1
 have hzt:=tabsT_size d
 clear hT hO hw ht hiv hn hc hle hnd hkc hq0 hq1 hkl hsh
 obtain ⟨W1,hW1⟩:∃W1,(w.alloc (.cells #[.int .u8 11,.int .i64 a',.string s,.int .i64 n,.slice (some ⟨kb,koff,none⟩) 2 kc] 99))=W1:=⟨_,rfl⟩
 rw [hW1] at hb1 hs1 c0 c1 ct T1 P1 HB1
 have HW1:=lh hW1
 clear hW1
 have HT0:Hid (∀w',w'.cell? ⟨kb,koff,none⟩=some (.int .i64 (q0:Int))→w'.cell? ⟨kb,koff+1,none⟩=some (.int .i64 (q1:Int))→w'.cell? ⟨w.heap.size,2,none⟩=some (.string s)→Below W1.heap.size W1 w'→Calls Tryz.prog 104 #[.slice (some ⟨b,off,none⟩) len c,.int .i64 (q0:Int)] w' fun e w''=>e=.returned (.string (exT x0))∧w''.cell? ⟨kb,koff,none⟩=some (.int .i64 (q0:Int))∧w''.cell? ⟨kb,koff+1,none⟩=some (.int .i64 (q1:Int))∧w''.cell? ⟨w.heap.size,2,none⟩=some (.string s)∧Below W1.heap.size W1 w''):=lh (fun w' h0 h1 h2 hb=>(refText_at ns x0 (Or.inl hx0) q0 w' (some ⟨b,off,none⟩) len c (T1.out.on hb) hO0 hw0 (P1.out.below hb) hlen).mono fun e w'' ⟨he,hb2⟩=>⟨he,by rw [hb2.cell (p:=⟨kb,koff,none⟩) (Nat.lt_of_lt_of_le (Nat.lt_of_lt_of_le hkb HB1.out.size) hb.size)];exact h0,by rw [hb2.cell (p:=⟨kb,koff+1,none⟩) (Nat.lt_of_lt_of_le (Nat.lt_of_lt_of_le hkb HB1.out.size) hb.size)];exact h1,by rw [hb2.cell (p:=⟨w.heap.size,2,none⟩) (Nat.lt_of_lt_of_le hs1 hb.size)];exact h2,hb.trans (hb2.mono hb.size)⟩)
 have HT1:Hid (∀w',w'.cell? ⟨kb,koff,none⟩=some (.int .i64 (q0:Int))→w'.cell? ⟨kb,koff+1,none⟩=some (.int .i64 (q1:Int))→w'.cell? ⟨w.heap.size,2,none⟩=some (.string s)→Below W1.heap.size W1 w'→Calls Tryz.prog 104 #[.slice (some ⟨b,off,none⟩) len c,.int .i64 (q1:Int)] w' fun e w''=>e=.returned (.string (exT x1))∧w''.cell? ⟨kb,koff,none⟩=some (.int .i64 (q0:Int))∧w''.cell? ⟨kb,koff+1,none⟩=some (.int .i64 (q1:Int))∧w''.cell? ⟨w.heap.size,2,none⟩=some (.string s)∧Below W1.heap.size W1 w''):=lh (fun w' h0 h1 h2 hb=>(refText_at ns x1 (Or.inl hx1) q1 w' (some ⟨b,off,none⟩) len c (T1.out.on hb) hO1 hw1 (P1.out.below hb) hlen).mono fun e w'' ⟨he,hb2⟩=>⟨he,by rw [hb2.cell (p:=⟨kb,koff,none⟩) (Nat.lt_of_lt_of_le (Nat.lt_of_lt_of_le hkb HB1.out.size) hb.size)];exact h0,by rw [hb2.cell (p:=⟨kb,koff+1,none⟩) (Nat.lt_of_lt_of_le (Nat.lt_of_lt_of_le hkb HB1.out.size) hb.size)];exact h1,by rw [hb2.cell (p:=⟨w.heap.size,2,none⟩) (Nat.lt_of_lt_of_le hs1 hb.size)];exact h2,hb.trans (hb2.mono hb.size)⟩)
 have HAH:=lh (fun w'=>refAhead_at w' d (by omega))
 generalize exT x0=T0 at *
 generalize exT x1=T1 at *
 generalize tabsT d=TD at *
 have hd63:(d:Int)+1≤9223372036854775807:=by omega
 have z0:¬ 9223372036854775807<5+s.size:=by omega
 have z1:¬ 9223372036854775807<5+s.size+3:=by omega
 have z2:¬ 9223372036854775807<5+s.size+3+T0.size:=by omega
 have z3:¬ 9223372036854775807<5+s.size+3+T0.size+1:=by omega
 have z4:¬ 9223372036854775807<5+s.size+3+T0.size+1+T1.size:=by omega
 have z5:¬ 9223372036854775807<5+s.size+3+T0.size+1+T1.size+1:=by omega
 have zf:¬ 9223372036854775807<TD.size+(5+s.size+3+T0.size+1+T1.size+1):=by omega
 have zg:¬ 9223372036854775807<TD.size+(5+s.size+3+T0.size+1+T1.size+1)+1:=by omega
 have hbd:Below W1.heap.size W1 W1.drew:=(Below.refl _ _).drew
 have hbd0:Below W1.heap.size W1 W1:=Below.refl _ _
 clear hb1 hsz hd hss hw0 hO0 hx0 hp0 hql0 hw1 hO1 hx1 hp1 hql1 hz0 hz1  hzt ih
 go_enter Tryz.func105,Tryz.ntmps105
 go_wp2_with fail
 rw [HW1.out]
 clear HW1
 go_region_held3 (fun w'=>w'.cell? ⟨kb,koff,none⟩=some (.int .i64 (q0:Int))∧w'.cell? ⟨kb,koff+1,none⟩=some (.int .i64 (q1:Int))∧w'.cell? ⟨w.heap.size,2,none⟩=some (.string s)∧Below W1.heap.size W1 w') (go_keep) (first|(go_at_call 104;(with_reducible refine (HT0.out _ ?_ ?_ ?_ ?_).mono ?_);(first|assumption|exact c0);(first|assumption|exact c1);(first|assumption|exact ct);(first|assumption|exact hbd);rintro e w' ⟨rfl,r0,r1,r2,rb⟩)|(go_at_call 104;(with_reducible refine (HT1.out _ ?_ ?_ ?_ ?_).mono ?_);(first|assumption|exact c0);(first|assumption|exact c1);(first|assumption|exact ct);(first|assumption|exact hbd);rintro e w' ⟨rfl,r0,r1,r2,rb⟩))
 have RB:=lh rb
 clear rb
 go_wp2_with fail
 (with_reducible refine (HAH.out _).mono ?_)
 rintro e w4 ⟨rfl,rfl⟩
 go_wp2
 go_ret
 exact ⟨by rw [HEQ.out];first|done|rfl,HB1.out.trans (RB.out.mono HB1.out.size)⟩
theorem refStmt12 (ns:List Nd)(a:Nat)(s:ByteArray)(n:Int)(ks:List Ast)(hsh:isR (ks.map Ast.kind) [5]=true)(ih:∀y∈ks,y.kind=6→HasBl ns y):HasS ns (.mk 12 a s n ks):=by
 intro d o w p len c hT hO hw ht hlen hd
 obtain ⟨a',hnd⟩:=hO.node
 have hol:=hO.lt
 have hle:=hT.len_eq
 have hsz:=hO.size
 have b0:(0:Int)≤(o:Int):=by omega
 have b1:(o:Int)<(len:Int):=by omega
 obtain ⟨b,off,rfl,hbl,hc⟩:=hT.node (by omega)
 obtain ⟨kp,kl,kc,hn⟩:=hc o (by omega)
 rw [hnd] at hn
 have k0:w.cell? ⟨b,off+o*5,none⟩=some (.int .u8 12):=hn.kind
 have k1:w.cell? ⟨b,off+o*5+1,none⟩=some (.int .i64 a'):=hn.at'
 have k2:w.cell? ⟨b,off+o*5+2,none⟩=some (.string s):=hn.text
 have k3:w.cell? ⟨b,off+o*5+3,none⟩=some (.int .i64 n):=hn.n
 have k4:w.cell? ⟨b,off+o*5+4,none⟩=some (.slice kp kl kc):=hn.kids
 have hiv:IV w kp kl kc (heads (o+1) ks):=hn.iv
 have hkl:ks.length=kl:=by rw [← hiv.len_eq,heads_length]
 obtain ⟨x0,rfl,hx0⟩:=sh5 hsh
 obtain rfl:kl=1:=hkl.symm
 obtain ⟨kb,koff,rfl,hkb,hkc⟩:=hiv.cell (by omega)
 have hb1:Below w.heap.size w (w.alloc (.cells #[.int .u8 12,.int .i64 a',.string s,.int .i64 n,.slice (some ⟨kb,koff,none⟩) 1 kc] 99)):=one_below w _
 have hs1:w.heap.size<(w.alloc (.cells #[.int .u8 12,.int .i64 a',.string s,.int .i64 n,.slice (some ⟨kb,koff,none⟩) 1 kc] 99)).heap.size:=by simp
 obtain ⟨q0,hq0,hql0,hO0⟩:=hO.kid 0 (by simp)
 have c0:(w.alloc (.cells #[.int .u8 12,.int .i64 a',.string s,.int .i64 n,.slice (some ⟨kb,koff,none⟩) 1 kc] 99)).cell? ⟨kb,koff,none⟩=some (.int .i64 (q0:Int)):=by rw [hb1.cell (p:=⟨kb,koff,none⟩) hkb];have h:=hkc 0 (by omega);rw [hq0] at h;exact h
 have hw0:=hw.kids (j:=0) (by simp)
 have ce:(w.alloc (.cells #[.int .u8 12,.int .i64 a',.string s,.int .i64 n,.slice (some ⟨kb,koff,none⟩) 1 kc] 99)).cell? ⟨w.heap.size,3,none⟩=some (.int .i64 n):=by simp
 have T1:=lh (hT.on hb1)
 have P1:=lh (ht.below hb1)
 have HB1:=lh hb1
 simp only [Ast.size,sizeL] at hsz hd
 have hp0:=ast_pos x0
 have hss:=hw.parts.2.2.1
 have HEQ:Hid (stT d (.mk 12 a s n [x0])=_):=lh (show stF d 12 s n [exT x0] [blT (d+1) x0]=_ from stF_eq12 d s n (exT x0) (blT (d+1) x0))
 have hz0:=exT_size x0 hw0
 have hzt:=tabsT_size d
 clear hT hO hw ht hiv hn hc hle hnd hkc hq0 hkl hsh
 obtain ⟨W1,hW1⟩:∃W1,(w.alloc (.cells #[.int .u8 12,.int .i64 a',.string s,.int .i64 n,.slice (some ⟨kb,koff,none⟩) 1 kc] 99))=W1:=⟨_,rfl⟩
 rw [hW1] at hb1 hs1 c0 ce T1 P1 HB1
 have HW1:=lh hW1
 clear hW1
 have HT0:Hid (∀w',w'.cell? ⟨kb,koff,none⟩=some (.int .i64 (q0:Int))→w'.cell? ⟨w.heap.size,3,none⟩=some (.int .i64 n)→Below W1.heap.size W1 w'→Calls Tryz.prog 104 #[.slice (some ⟨b,off,none⟩) len c,.int .i64 (q0:Int)] w' fun e w''=>e=.returned (.string (exT x0))∧w''.cell? ⟨kb,koff,none⟩=some (.int .i64 (q0:Int))∧w''.cell? ⟨w.heap.size,3,none⟩=some (.int .i64 n)∧Below W1.heap.size W1 w''):=lh (fun w' h0 h1 hb=>(refText_at ns x0 (Or.inl hx0) q0 w' (some ⟨b,off,none⟩) len c (T1.out.on hb) hO0 hw0 (P1.out.below hb) hlen).mono fun e w'' ⟨he,hb2⟩=>⟨he,by rw [hb2.cell (p:=⟨kb,koff,none⟩) (Nat.lt_of_lt_of_le (Nat.lt_of_lt_of_le hkb HB1.out.size) hb.size)];exact h0,by rw [hb2.cell (p:=⟨w.heap.size,3,none⟩) (Nat.lt_of_lt_of_le hs1 hb.size)];exact h1,hb.trans (hb2.mono hb.size)⟩)
 have HE:Hid (∀w',w'.cell? ⟨kb,koff,none⟩=some (.int .i64 (q0:Int))→w'.cell? ⟨w.heap.size,3,none⟩=some (.int .i64 n)→Below W1.heap.size W1 w'→Calls Tryz.prog 58 #[.int .i64 n,.string ⟨#[32,115,104,97,114,101,100,59]⟩,.string ⟨#[32,97,108,108,59]⟩] w' fun e w''=>e=.returned (.string (if n=1 then ⟨#[32,97,108,108,59]⟩ else ⟨#[32,115,104,97,114,101,100,59]⟩))∧w''.cell? ⟨kb,koff,none⟩=some (.int .i64 (q0:Int))∧w''.cell? ⟨w.heap.size,3,none⟩=some (.int .i64 n)∧Below W1.heap.size W1 w''):=lh (fun w' h0 h1 hb=>(refEither_at w' n ⟨#[32,115,104,97,114,101,100,59]⟩ ⟨#[32,97,108,108,59]⟩).mono fun e w'' ⟨he,hw⟩=>by subst hw;exact ⟨he,h0,h1,hb⟩)
 have hze:(if n=1 then (⟨#[32,97,108,108,59]⟩:ByteArray) else ⟨#[32,115,104,97,114,101,100,59]⟩).size≤11:=by split<;>decide
 have HAH:=lh (fun w'=>refAhead_at w' d (by omega))
 generalize exT x0=T0 at *
 generalize (if n=1 then (⟨#[32,97,108,108,59]⟩:ByteArray) else ⟨#[32,115,104,97,114,101,100,59]⟩)=EI at *
 generalize tabsT d=TD at *
 have hd63:(d:Int)+1≤9223372036854775807:=by omega
 have z0:¬ 9223372036854775807<5+T0.size:=by omega
 have z1:¬ 9223372036854775807<5+T0.size+EI.size:=by omega
 have zf:¬ 9223372036854775807<TD.size+(5+T0.size+EI.size):=by omega
 have zg:¬ 9223372036854775807<TD.size+(5+T0.size+EI.size)+1:=by omega
 have hbd:Below W1.heap.size W1 W1.drew:=(Below.refl _ _).drew
 have hbd0:Below W1.heap.size W1 W1:=Below.refl _ _
 clear hb1 hsz hd hss hw0 hO0 hx0 hp0 hql0 hz0  hze hzt ih
 go_enter Tryz.func105,Tryz.ntmps105
 go_wp2_with fail
 rw [HW1.out]
 clear HW1
 go_region_held3 (fun w'=>w'.cell? ⟨kb,koff,none⟩=some (.int .i64 (q0:Int))∧w'.cell? ⟨w.heap.size,3,none⟩=some (.int .i64 n)∧Below W1.heap.size W1 w') (go_keep) (first|(go_at_call 104;(with_reducible refine (HT0.out _ ?_ ?_ ?_).mono ?_);(first|assumption|exact c0);(first|assumption|exact ce);(first|assumption|exact hbd);rintro e w' ⟨rfl,r0,r1,rb⟩)|(go_at_call 58;(with_reducible refine (HE.out _ ?_ ?_ ?_).mono ?_);(first|assumption|exact c0);(first|assumption|exact ce);(first|assumption|exact hbd);rintro e w' ⟨rfl,r0,r1,rb⟩))
 have RB:=lh rb
 clear rb
 go_wp2_with fail
 (with_reducible refine (HAH.out _).mono ?_)
 rintro e w4 ⟨rfl,rfl⟩
 go_wp2
 go_ret
 exact ⟨by rw [HEQ.out];first|done|rfl,HB1.out.trans (RB.out.mono HB1.out.size)⟩
theorem refStmt13a (ns:List Nd)(a:Nat)(s:ByteArray)(n:Int)(ks:List Ast)(hsh:isR (ks.map Ast.kind) [5]=true)(ih:∀y∈ks,y.kind=6→HasBl ns y):HasS ns (.mk 13 a s n ks):=by
 intro d o w p len c hT hO hw ht hlen hd
 obtain ⟨a',hnd⟩:=hO.node
 have hol:=hO.lt
 have hle:=hT.len_eq
 have hsz:=hO.size
 have b0:(0:Int)≤(o:Int):=by omega
 have b1:(o:Int)<(len:Int):=by omega
 obtain ⟨b,off,rfl,hbl,hc⟩:=hT.node (by omega)
 obtain ⟨kp,kl,kc,hn⟩:=hc o (by omega)
 rw [hnd] at hn
 have k0:w.cell? ⟨b,off+o*5,none⟩=some (.int .u8 13):=hn.kind
 have k1:w.cell? ⟨b,off+o*5+1,none⟩=some (.int .i64 a'):=hn.at'
 have k2:w.cell? ⟨b,off+o*5+2,none⟩=some (.string s):=hn.text
 have k3:w.cell? ⟨b,off+o*5+3,none⟩=some (.int .i64 n):=hn.n
 have k4:w.cell? ⟨b,off+o*5+4,none⟩=some (.slice kp kl kc):=hn.kids
 have hiv:IV w kp kl kc (heads (o+1) ks):=hn.iv
 have hkl:ks.length=kl:=by rw [← hiv.len_eq,heads_length]
 obtain ⟨x0,rfl,hx0⟩:=sh5 hsh
 obtain rfl:kl=1:=hkl.symm
 obtain ⟨kb,koff,rfl,hkb,hkc⟩:=hiv.cell (by omega)
 have hb1:Below w.heap.size w (w.alloc (.cells #[.int .u8 13,.int .i64 a',.string s,.int .i64 n,.slice (some ⟨kb,koff,none⟩) 1 kc] 99)):=one_below w _
 have hs1:w.heap.size<(w.alloc (.cells #[.int .u8 13,.int .i64 a',.string s,.int .i64 n,.slice (some ⟨kb,koff,none⟩) 1 kc] 99)).heap.size:=by simp
 obtain ⟨q0,hq0,hql0,hO0⟩:=hO.kid 0 (by simp)
 have c0:(w.alloc (.cells #[.int .u8 13,.int .i64 a',.string s,.int .i64 n,.slice (some ⟨kb,koff,none⟩) 1 kc] 99)).cell? ⟨kb,koff,none⟩=some (.int .i64 (q0:Int)):=by rw [hb1.cell (p:=⟨kb,koff,none⟩) hkb];have h:=hkc 0 (by omega);rw [hq0] at h;exact h
 have hw0:=hw.kids (j:=0) (by simp)
 have T1:=lh (hT.on hb1)
 have P1:=lh (ht.below hb1)
 have HB1:=lh hb1
 simp only [Ast.size,sizeL] at hsz hd
 have hp0:=ast_pos x0
 have hss:=hw.parts.2.2.1
 have HEQ:Hid (stT d (.mk 13 a s n [x0])=_):=lh (show stF d 13 s n [exT x0] [blT (d+1) x0]=_ from stF_eq13a d s n (exT x0) (blT (d+1) x0))
 have hz0:=exT_size x0 hw0
 have hzt:=tabsT_size d
 clear hT hO hw ht hiv hn hc hle hnd hkc hq0 hkl hsh
 obtain ⟨W1,hW1⟩:∃W1,(w.alloc (.cells #[.int .u8 13,.int .i64 a',.string s,.int .i64 n,.slice (some ⟨kb,koff,none⟩) 1 kc] 99))=W1:=⟨_,rfl⟩
 rw [hW1] at hb1 hs1 c0 T1 P1 HB1
 have HW1:=lh hW1
 clear hW1
 have HT0:Hid (∀w',w'.cell? ⟨kb,koff,none⟩=some (.int .i64 (q0:Int))→Below W1.heap.size W1 w'→Calls Tryz.prog 104 #[.slice (some ⟨b,off,none⟩) len c,.int .i64 (q0:Int)] w' fun e w''=>e=.returned (.string (exT x0))∧w''.cell? ⟨kb,koff,none⟩=some (.int .i64 (q0:Int))∧Below W1.heap.size W1 w''):=lh (fun w' h0 hb=>(refText_at ns x0 (Or.inl hx0) q0 w' (some ⟨b,off,none⟩) len c (T1.out.on hb) hO0 hw0 (P1.out.below hb) hlen).mono fun e w'' ⟨he,hb2⟩=>⟨he,by rw [hb2.cell (p:=⟨kb,koff,none⟩) (Nat.lt_of_lt_of_le (Nat.lt_of_lt_of_le hkb HB1.out.size) hb.size)];exact h0,hb.trans (hb2.mono hb.size)⟩)
 have HAH:=lh (fun w'=>refAhead_at w' d (by omega))
 generalize exT x0=T0 at *
 generalize tabsT d=TD at *
 have hd63:(d:Int)+1≤9223372036854775807:=by omega
 have z0:¬ 9223372036854775807<8+T0.size:=by omega
 have z1:¬ 9223372036854775807<8+T0.size+1:=by omega
 have zf:¬ 9223372036854775807<TD.size+(8+T0.size+1):=by omega
 have zg:¬ 9223372036854775807<TD.size+(8+T0.size+1)+1:=by omega
 have hbd:Below W1.heap.size W1 W1.drew:=(Below.refl _ _).drew
 have hbd0:Below W1.heap.size W1 W1:=Below.refl _ _
 clear hb1 hsz hd hss hw0 hO0 hx0 hp0 hql0 hz0  hzt ih
 go_enter Tryz.func105,Tryz.ntmps105
 go_upto_region 18 with fail
 rw [HW1.out]
 clear HW1
 go_wp2_with fail
 (with_reducible refine (HT0.out _ c0 hbd0).mono ?_)
 rintro e w' ⟨rfl,r0,rb⟩
 have RB:=lh rb
 clear rb
 go_wp2_with fail
 (with_reducible refine (HAH.out _).mono ?_)
 rintro e w4 ⟨rfl,rfl⟩
 go_wp2
 go_ret
 exact ⟨by rw [HEQ.out];first|done|rfl,HB1.out.trans (RB.out.mono HB1.out.size)⟩
theorem refStmt13b (ns:List Nd)(a:Nat)(s:ByteArray)(n:Int)(ks:List Ast)(hsh:isR (ks.map Ast.kind) [20]=true)(ih:∀y∈ks,y.kind=6→HasBl ns y):HasS ns (.mk 13 a s n ks):=by
 intro d o w p len c hT hO hw ht hlen hd
 obtain ⟨a',hnd⟩:=hO.node
 have hol:=hO.lt
 have hle:=hT.len_eq
 have hsz:=hO.size
 have b0:(0:Int)≤(o:Int):=by omega
 have b1:(o:Int)<(len:Int):=by omega
 obtain ⟨b,off,rfl,hbl,hc⟩:=hT.node (by omega)
 obtain ⟨kp,kl,kc,hn⟩:=hc o (by omega)
 rw [hnd] at hn
 have k0:w.cell? ⟨b,off+o*5,none⟩=some (.int .u8 13):=hn.kind
 have k1:w.cell? ⟨b,off+o*5+1,none⟩=some (.int .i64 a'):=hn.at'
 have k2:w.cell? ⟨b,off+o*5+2,none⟩=some (.string s):=hn.text
 have k3:w.cell? ⟨b,off+o*5+3,none⟩=some (.int .i64 n):=hn.n
 have k4:w.cell? ⟨b,off+o*5+4,none⟩=some (.slice kp kl kc):=hn.kids
 have hiv:IV w kp kl kc (heads (o+1) ks):=hn.iv
 have hkl:ks.length=kl:=by rw [← hiv.len_eq,heads_length]
 obtain ⟨x0,rfl,hx0⟩:=sh20 hsh
 obtain rfl:kl=1:=hkl.symm
 obtain ⟨kb,koff,rfl,hkb,hkc⟩:=hiv.cell (by omega)
 have hb1:Below w.heap.size w (w.alloc (.cells #[.int .u8 13,.int .i64 a',.string s,.int .i64 n,.slice (some ⟨kb,koff,none⟩) 1 kc] 99)):=one_below w _
 have hs1:w.heap.size<(w.alloc (.cells #[.int .u8 13,.int .i64 a',.string s,.int .i64 n,.slice (some ⟨kb,koff,none⟩) 1 kc] 99)).heap.size:=by simp
 obtain ⟨q0,hq0,hql0,hO0⟩:=hO.kid 0 (by simp)
 have c0:(w.alloc (.cells #[.int .u8 13,.int .i64 a',.string s,.int .i64 n,.slice (some ⟨kb,koff,none⟩) 1 kc] 99)).cell? ⟨kb,koff,none⟩=some (.int .i64 (q0:Int)):=by rw [hb1.cell (p:=⟨kb,koff,none⟩) hkb];have h:=hkc 0 (by omega);rw [hq0] at h;exact h
 have hw0:=hw.kids (j:=0) (by simp)
 have T1:=lh (hT.on hb1)
 have P1:=lh (ht.below hb1)
 have HB1:=lh hb1
 simp only [Ast.size,sizeL] at hsz hd
 have hp0:=ast_pos x0
 have hss:=hw.parts.2.2.1
 have HEQ:Hid (stT d (.mk 13 a s n [x0])=_):=lh (show stF d 13 s n [exT x0] [blT (d+1) x0]=_ from stF_eq13b d s n (exT x0) (blT (d+1) x0))
 have hz0:=exT_size x0 hw0
 have hzt:=tabsT_size d
 clear hT hO hw ht hiv hn hc hle hnd hkc hq0 hkl hsh
 obtain ⟨W1,hW1⟩:∃W1,(w.alloc (.cells #[.int .u8 13,.int .i64 a',.string s,.int .i64 n,.slice (some ⟨kb,koff,none⟩) 1 kc] 99))=W1:=⟨_,rfl⟩
 rw [hW1] at hb1 hs1 c0 T1 P1 HB1
 have HW1:=lh hW1
 clear hW1
 have HT0:Hid (∀w',w'.cell? ⟨kb,koff,none⟩=some (.int .i64 (q0:Int))→Below W1.heap.size W1 w'→Calls Tryz.prog 104 #[.slice (some ⟨b,off,none⟩) len c,.int .i64 (q0:Int)] w' fun e w''=>e=.returned (.string (exT x0))∧w''.cell? ⟨kb,koff,none⟩=some (.int .i64 (q0:Int))∧Below W1.heap.size W1 w''):=lh (fun w' h0 hb=>(refText_at ns x0 (Or.inr (by rw [hx0];decide)) q0 w' (some ⟨b,off,none⟩) len c (T1.out.on hb) hO0 hw0 (P1.out.below hb) hlen).mono fun e w'' ⟨he,hb2⟩=>⟨he,by rw [hb2.cell (p:=⟨kb,koff,none⟩) (Nat.lt_of_lt_of_le (Nat.lt_of_lt_of_le hkb HB1.out.size) hb.size)];exact h0,hb.trans (hb2.mono hb.size)⟩)
 have HAH:=lh (fun w'=>refAhead_at w' d (by omega))
 generalize exT x0=T0 at *
 generalize tabsT d=TD at *
 have hd63:(d:Int)+1≤9223372036854775807:=by omega
 have z0:¬ 9223372036854775807<8+T0.size:=by omega
 have z1:¬ 9223372036854775807<8+T0.size+1:=by omega
 have zf:¬ 9223372036854775807<TD.size+(8+T0.size+1):=by omega
 have zg:¬ 9223372036854775807<TD.size+(8+T0.size+1)+1:=by omega
 have hbd:Below W1.heap.size W1 W1.drew:=(Below.refl _ _).drew
 have hbd0:Below W1.heap.size W1 W1:=Below.refl _ _
 clear hb1 hsz hd hss hw0 hO0 hx0 hp0 hql0 hz0  hzt ih
 go_enter Tryz.func105,Tryz.ntmps105
 go_upto_region 18 with fail
 rw [HW1.out]
 clear HW1
 go_wp2_with fail
 (with_reducible refine (HT0.out _ c0 hbd0).mono ?_)
 rintro e w' ⟨rfl,r0,rb⟩
 have RB:=lh rb
 clear rb
 go_wp2_with fail
 (with_reducible refine (HAH.out _).mono ?_)
 rintro e w4 ⟨rfl,rfl⟩
 go_wp2
 go_ret
 exact ⟨by rw [HEQ.out];first|done|rfl,HB1.out.trans (RB.out.mono HB1.out.size)⟩
theorem refStmt15 (ns:List Nd)(a:Nat)(s:ByteArray)(n:Int)(ks:List Ast)(hsh:isR (ks.map Ast.kind) [21,21,6]=true)(ih:∀y∈ks,y.kind=6→HasBl ns y):HasS ns (.mk 15 a s n ks):=by
 intro d o w p len c hT hO hw ht hlen hd
 obtain ⟨a',hnd⟩:=hO.node
 have hol:=hO.lt
 have hle:=hT.len_eq
 have hsz:=hO.size
 have b0:(0:Int)≤(o:Int):=by omega
 have b1:(o:Int)<(len:Int):=by omega
 obtain ⟨b,off,rfl,hbl,hc⟩:=hT.node (by omega)
 obtain ⟨kp,kl,kc,hn⟩:=hc o (by omega)
 rw [hnd] at hn
 have k0:w.cell? ⟨b,off+o*5,none⟩=some (.int .u8 15):=hn.kind
 have k1:w.cell? ⟨b,off+o*5+1,none⟩=some (.int .i64 a'):=hn.at'
 have k2:w.cell? ⟨b,off+o*5+2,none⟩=some (.string s):=hn.text
 have k3:w.cell? ⟨b,off+o*5+3,none⟩=some (.int .i64 n):=hn.n
 have k4:w.cell? ⟨b,off+o*5+4,none⟩=some (.slice kp kl kc):=hn.kids
 have hiv:IV w kp kl kc (heads (o+1) ks):=hn.iv
 have hkl:ks.length=kl:=by rw [← hiv.len_eq,heads_length]
 obtain ⟨x0,x1,x2,rfl,hx0,hx1,hx2⟩:=sh21_21_6 hsh
 obtain rfl:kl=3:=hkl.symm
 obtain ⟨kb,koff,rfl,hkb,hkc⟩:=hiv.cell (by omega)
 have hb1:Below w.heap.size w (w.alloc (.cells #[.int .u8 15,.int .i64 a',.string s,.int .i64 n,.slice (some ⟨kb,koff,none⟩) 3 kc] 99)):=one_below w _
 have hs1:w.heap.size<(w.alloc (.cells #[.int .u8 15,.int .i64 a',.string s,.int .i64 n,.slice (some ⟨kb,koff,none⟩) 3 kc] 99)).heap.size:=by simp
 obtain ⟨q0,hq0,hql0,hO0⟩:=hO.kid 0 (by simp)
 have c0:(w.alloc (.cells #[.int .u8 15,.int .i64 a',.string s,.int .i64 n,.slice (some ⟨kb,koff,none⟩) 3 kc] 99)).cell? ⟨kb,koff,none⟩=some (.int .i64 (q0:Int)):=by rw [hb1.cell (p:=⟨kb,koff,none⟩) hkb];have h:=hkc 0 (by omega);rw [hq0] at h;exact h
 have hw0:=hw.kids (j:=0) (by simp)
 obtain ⟨q1,hq1,hql1,hO1⟩:=hO.kid 1 (by simp)
 have c1:(w.alloc (.cells #[.int .u8 15,.int .i64 a',.string s,.int .i64 n,.slice (some ⟨kb,koff,none⟩) 3 kc] 99)).cell? ⟨kb,koff+1,none⟩=some (.int .i64 (q1:Int)):=by rw [hb1.cell (p:=⟨kb,koff+1,none⟩) hkb];have h:=hkc 1 (by omega);rw [hq1] at h;exact h
 have hw1:=hw.kids (j:=1) (by simp)
 obtain ⟨q2,hq2,hql2,hO2⟩:=hO.kid 2 (by simp)
 have c2:(w.alloc (.cells #[.int .u8 15,.int .i64 a',.string s,.int .i64 n,.slice (some ⟨kb,koff,none⟩) 3 kc] 99)).cell? ⟨kb,koff+2,none⟩=some (.int .i64 (q2:Int)):=by rw [hb1.cell (p:=⟨kb,koff+2,none⟩) hkb];have h:=hkc 2 (by omega);rw [hq2] at h;exact h
 have hw2:=hw.kids (j:=2) (by simp)
 have ct:(w.alloc (.cells #[.int .u8 15,.int .i64 a',.string s,.int .i64 n,.slice (some ⟨kb,koff,none⟩) 3 kc] 99)).cell? ⟨w.heap.size,2,none⟩=some (.string s):=by simp
 have T1:=lh (hT.on hb1)
 have P1:=lh (ht.below hb1)
 have HB1:=lh hb1
 simp only [Ast.size,sizeL] at hsz hd
 have hp0:=ast_pos x0
 have hp1:=ast_pos x1
 have hp2:=ast_pos x2
 have hss:=hw.parts.2.2.1
 have HEQ:Hid (stT d (.mk 15 a s n [x0,x1,x2])=_):=lh (show stF d 15 s n [exT x0,exT x1,exT x2] [blT (d+1) x0,blT (d+1) x1,blT (d+1) x2]=_ from stF_eq15 d s n (exT x0) (exT x1) (exT x2) (blT (d+1) x0) (blT (d+1) x1) (blT (d+1) x2))
 have hz0:=exT_size x0 hw0
 have hz1:=exT_size x1 hw1
 have hy2:=blT_size (d+1) x2 hw2 (by omega)
 have hy2':=Nat.mul_le_mul (show x2.size≤70000 by omega) (show x2.size≤70000 by omega)
 have hzt:=tabsT_size d
 clear hT hO hw ht hiv hn hc hle hnd hkc hq0 hq1 hq2 hkl hsh
 obtain ⟨W1,hW1⟩:∃W1,(w.alloc (.cells #[.int .u8 15,.int .i64 a',.string s,.int .i64 n,.slice (some ⟨kb,koff,none⟩) 3 kc] 99))=W1:=⟨_,rfl⟩
 rw [hW1] at hb1 hs1 c0 c1 c2 ct T1 P1 HB1
 have HW1:=lh hW1
 clear hW1
 have HT0:Hid (∀w',w'.cell? ⟨kb,koff,none⟩=some (.int .i64 (q0:Int))→w'.cell? ⟨kb,koff+1,none⟩=some (.int .i64 (q1:Int))→w'.cell? ⟨kb,koff+2,none⟩=some (.int .i64 (q2:Int))→w'.cell? ⟨w.heap.size,2,none⟩=some (.string s)→Below W1.heap.size W1 w'→Calls Tryz.prog 104 #[.slice (some ⟨b,off,none⟩) len c,.int .i64 (q0:Int)] w' fun e w''=>e=.returned (.string (exT x0))∧w''.cell? ⟨kb,koff,none⟩=some (.int .i64 (q0:Int))∧w''.cell? ⟨kb,koff+1,none⟩=some (.int .i64 (q1:Int))∧w''.cell? ⟨kb,koff+2,none⟩=some (.int .i64 (q2:Int))∧w''.cell? ⟨w.heap.size,2,none⟩=some (.string s)∧Below W1.heap.size W1 w''):=lh (fun w' h0 h1 h2 h3 hb=>(refText_at ns x0 (Or.inr (by rw [hx0];decide)) q0 w' (some ⟨b,off,none⟩) len c (T1.out.on hb) hO0 hw0 (P1.out.below hb) hlen).mono fun e w'' ⟨he,hb2⟩=>⟨he,by rw [hb2.cell (p:=⟨kb,koff,none⟩) (Nat.lt_of_lt_of_le (Nat.lt_of_lt_of_le hkb HB1.out.size) hb.size)];exact h0,by rw [hb2.cell (p:=⟨kb,koff+1,none⟩) (Nat.lt_of_lt_of_le (Nat.lt_of_lt_of_le hkb HB1.out.size) hb.size)];exact h1,by rw [hb2.cell (p:=⟨kb,koff+2,none⟩) (Nat.lt_of_lt_of_le (Nat.lt_of_lt_of_le hkb HB1.out.size) hb.size)];exact h2,by rw [hb2.cell (p:=⟨w.heap.size,2,none⟩) (Nat.lt_of_lt_of_le hs1 hb.size)];exact h3,hb.trans (hb2.mono hb.size)⟩)
 have HT1:Hid (∀w',w'.cell? ⟨kb,koff,none⟩=some (.int .i64 (q0:Int))→w'.cell? ⟨kb,koff+1,none⟩=some (.int .i64 (q1:Int))→w'.cell? ⟨kb,koff+2,none⟩=some (.int .i64 (q2:Int))→w'.cell? ⟨w.heap.size,2,none⟩=some (.string s)→Below W1.heap.size W1 w'→Calls Tryz.prog 104 #[.slice (some ⟨b,off,none⟩) len c,.int .i64 (q1:Int)] w' fun e w''=>e=.returned (.string (exT x1))∧w''.cell? ⟨kb,koff,none⟩=some (.int .i64 (q0:Int))∧w''.cell? ⟨kb,koff+1,none⟩=some (.int .i64 (q1:Int))∧w''.cell? ⟨kb,koff+2,none⟩=some (.int .i64 (q2:Int))∧w''.cell? ⟨w.heap.size,2,none⟩=some (.string s)∧Below W1.heap.size W1 w''):=lh (fun w' h0 h1 h2 h3 hb=>(refText_at ns x1 (Or.inr (by rw [hx1];decide)) q1 w' (some ⟨b,off,none⟩) len c (T1.out.on hb) hO1 hw1 (P1.out.below hb) hlen).mono fun e w'' ⟨he,hb2⟩=>⟨he,by rw [hb2.cell (p:=⟨kb,koff,none⟩) (Nat.lt_of_lt_of_le (Nat.lt_of_lt_of_le hkb HB1.out.size) hb.size)];exact h0,by rw [hb2.cell (p:=⟨kb,koff+1,none⟩) (Nat.lt_of_lt_of_le (Nat.lt_of_lt_of_le hkb HB1.out.size) hb.size)];exact h1,by rw [hb2.cell (p:=⟨kb,koff+2,none⟩) (Nat.lt_of_lt_of_le (Nat.lt_of_lt_of_le hkb HB1.out.size) hb.size)];exact h2,by rw [hb2.cell (p:=⟨w.heap.size,2,none⟩) (Nat.lt_of_lt_of_le hs1 hb.size)];exact h3,hb.trans (hb2.mono hb.size)⟩)
 have HIB2:=lh (ih x2 (by simp) hx2)
 have HB2:Hid (∀w',w'.cell? ⟨kb,koff,none⟩=some (.int .i64 (q0:Int))→w'.cell? ⟨kb,koff+1,none⟩=some (.int .i64 (q1:Int))→w'.cell? ⟨kb,koff+2,none⟩=some (.int .i64 (q2:Int))→w'.cell? ⟨w.heap.size,2,none⟩=some (.string s)→Below W1.heap.size W1 w'→Calls Tryz.prog 59 #[.slice (some ⟨b,off,none⟩) len c,.int .i64 (q2:Int),.int .i64 ((d:Int)+1)] w' fun e w''=>e=.returned (.string (blT (d+1) x2))∧w''.cell? ⟨kb,koff,none⟩=some (.int .i64 (q0:Int))∧w''.cell? ⟨kb,koff+1,none⟩=some (.int .i64 (q1:Int))∧w''.cell? ⟨kb,koff+2,none⟩=some (.int .i64 (q2:Int))∧w''.cell? ⟨w.heap.size,2,none⟩=some (.string s)∧Below W1.heap.size W1 w''):=lh (fun w' h0 h1 h2 h3 hb=>(HIB2.out (d+1) q2 w' (some ⟨b,off,none⟩) len c (T1.out.on hb) hO2 hw2 (P1.out.below hb) hlen (by omega)).mono fun e w'' ⟨he,hb2⟩=>⟨he,by rw [hb2.cell (p:=⟨kb,koff,none⟩) (Nat.lt_of_lt_of_le (Nat.lt_of_lt_of_le hkb HB1.out.size) hb.size)];exact h0,by rw [hb2.cell (p:=⟨kb,koff+1,none⟩) (Nat.lt_of_lt_of_le (Nat.lt_of_lt_of_le hkb HB1.out.size) hb.size)];exact h1,by rw [hb2.cell (p:=⟨kb,koff+2,none⟩) (Nat.lt_of_lt_of_le (Nat.lt_of_lt_of_le hkb HB1.out.size) hb.size)];exact h2,by rw [hb2.cell (p:=⟨w.heap.size,2,none⟩) (Nat.lt_of_lt_of_le hs1 hb.size)];exact h3,hb.trans (hb2.mono hb.size)⟩)
 have HA:Hid (∀w',w'.cell? ⟨kb,koff,none⟩=some (.int .i64 (q0:Int))→w'.cell? ⟨kb,koff+1,none⟩=some (.int .i64 (q1:Int))→w'.cell? ⟨kb,koff+2,none⟩=some (.int .i64 (q2:Int))→w'.cell? ⟨w.heap.size,2,none⟩=some (.string s)→Below W1.heap.size W1 w'→Calls Tryz.prog 173 #[.int .i64 (d:Int)] w' fun e w''=>e=.returned (.string (tabsT d))∧w''.cell? ⟨kb,koff,none⟩=some (.int .i64 (q0:Int))∧w''.cell? ⟨kb,koff+1,none⟩=some (.int .i64 (q1:Int))∧w''.cell? ⟨kb,koff+2,none⟩=some (.int .i64 (q2:Int))∧w''.cell? ⟨w.heap.size,2,none⟩=some (.string s)∧Below W1.heap.size W1 w''):=lh (fun w' h0 h1 h2 h3 hb=>(refAhead_at w' d (by omega)).mono fun e w'' ⟨he,hw⟩=>by subst hw;exact ⟨he,h0,h1,h2,h3,hb⟩)
 have HAH:=lh (fun w'=>refAhead_at w' d (by omega))
 generalize exT x0=T0 at *
 generalize exT x1=T1 at *
 generalize blT (d+1) x2=M2 at *
 generalize tabsT d=TD at *
 have hd63:(d:Int)+1≤9223372036854775807:=by omega
 have hwd:IntKind.i64.wrap ((d:Int)+1)=(d:Int)+1:=IntWalk.i64_in _ (by omega)
 have z0:¬ 9223372036854775807<4+s.size:=by omega
 have z1:¬ 9223372036854775807<4+s.size+3:=by omega
 have z2:¬ 9223372036854775807<4+s.size+3+T0.size:=by omega
 have z3:¬ 9223372036854775807<4+s.size+3+T0.size+4:=by omega
 have z4:¬ 9223372036854775807<4+s.size+3+T0.size+4+T1.size:=by omega
 have z5:¬ 9223372036854775807<4+s.size+3+T0.size+4+T1.size+3:=by omega
 have z6:¬ 9223372036854775807<4+s.size+3+T0.size+4+T1.size+3+M2.size:=by omega
 have z7:¬ 9223372036854775807<4+s.size+3+T0.size+4+T1.size+3+M2.size+TD.size:=by omega
 have z8:¬ 9223372036854775807<4+s.size+3+T0.size+4+T1.size+3+M2.size+TD.size+1:=by omega
 have zf:¬ 9223372036854775807<TD.size+(4+s.size+3+T0.size+4+T1.size+3+M2.size+TD.size+1):=by omega
 have zg:¬ 9223372036854775807<TD.size+(4+s.size+3+T0.size+4+T1.size+3+M2.size+TD.size+1)+1:=by omega
 have hbd:Below W1.heap.size W1 W1.drew:=(Below.refl _ _).drew
 have hbd0:Below W1.heap.size W1 W1:=Below.refl _ _
 clear hb1 hsz hd hss hw0 hO0 hx0 hp0 hql0 hw1 hO1 hx1 hp1 hql1 hw2 hO2 hx2 hp2 hql2 hz0 hz1 hy2 hy2' hzt ih
 go_enter Tryz.func105,Tryz.ntmps105
 go_wp2_with fail
 rw [HW1.out]
 clear HW1
 go_region_held3 (fun w'=>w'.cell? ⟨kb,koff,none⟩=some (.int .i64 (q0:Int))∧w'.cell? ⟨kb,koff+1,none⟩=some (.int .i64 (q1:Int))∧w'.cell? ⟨kb,koff+2,none⟩=some (.int .i64 (q2:Int))∧w'.cell? ⟨w.heap.size,2,none⟩=some (.string s)∧Below W1.heap.size W1 w') (go_keep) (first|(go_at_call 104;(with_reducible refine (HT0.out _ ?_ ?_ ?_ ?_ ?_).mono ?_);(first|assumption|exact c0);(first|assumption|exact c1);(first|assumption|exact c2);(first|assumption|exact ct);(first|assumption|exact hbd);rintro e w' ⟨rfl,r0,r1,r2,r3,rb⟩)|(go_at_call 104;(with_reducible refine (HT1.out _ ?_ ?_ ?_ ?_ ?_).mono ?_);(first|assumption|exact c0);(first|assumption|exact c1);(first|assumption|exact c2);(first|assumption|exact ct);(first|assumption|exact hbd);rintro e w' ⟨rfl,r0,r1,r2,r3,rb⟩)|(go_at_call 59;(try rw [hwd]);(with_reducible refine (HB2.out _ ?_ ?_ ?_ ?_ ?_).mono ?_);(first|assumption|exact c0);(first|assumption|exact c1);(first|assumption|exact c2);(first|assumption|exact ct);(first|assumption|exact hbd);rintro e w' ⟨rfl,r0,r1,r2,r3,rb⟩)|(go_at_call 173;(with_reducible refine (HA.out _ ?_ ?_ ?_ ?_ ?_).mono ?_);(first|assumption|exact c0);(first|assumption|exact c1);(first|assumption|exact c2);(first|assumption|exact ct);(first|assumption|exact hbd);rintro e w' ⟨rfl,r0,r1,r2,r3,rb⟩))
 have RB:=lh rb
 clear rb
 go_wp2_with fail
 (with_reducible refine (HAH.out _).mono ?_)
 rintro e w4 ⟨rfl,rfl⟩
 go_wp2
 go_ret
 exact ⟨by rw [HEQ.out];first|done|rfl,HB1.out.trans (RB.out.mono HB1.out.size)⟩
theorem refStmt16 (ns:List Nd)(a:Nat)(s:ByteArray)(n:Int)(ks:List Ast)(hsh:isR (ks.map Ast.kind) [0]=true)(ih:∀y∈ks,y.kind=6→HasBl ns y):HasS ns (.mk 16 a s n ks):=by
 intro d o w p len c hT hO hw ht hlen hd
 obtain ⟨a',hnd⟩:=hO.node
 have hol:=hO.lt
 have hle:=hT.len_eq
 have hsz:=hO.size
 have b0:(0:Int)≤(o:Int):=by omega
 have b1:(o:Int)<(len:Int):=by omega
 obtain ⟨b,off,rfl,hbl,hc⟩:=hT.node (by omega)
 obtain ⟨kp,kl,kc,hn⟩:=hc o (by omega)
 rw [hnd] at hn
 have k0:w.cell? ⟨b,off+o*5,none⟩=some (.int .u8 16):=hn.kind
 have k1:w.cell? ⟨b,off+o*5+1,none⟩=some (.int .i64 a'):=hn.at'
 have k2:w.cell? ⟨b,off+o*5+2,none⟩=some (.string s):=hn.text
 have k3:w.cell? ⟨b,off+o*5+3,none⟩=some (.int .i64 n):=hn.n
 have k4:w.cell? ⟨b,off+o*5+4,none⟩=some (.slice kp kl kc):=hn.kids
 have hiv:IV w kp kl kc (heads (o+1) ks):=hn.iv
 have hkl:ks.length=kl:=by rw [← hiv.len_eq,heads_length]
 obtain ⟨x0,rfl,hx0⟩:=sh0 hsh
 obtain rfl:kl=1:=hkl.symm
 obtain ⟨kb,koff,rfl,hkb,hkc⟩:=hiv.cell (by omega)
 have hb1:Below w.heap.size w (w.alloc (.cells #[.int .u8 16,.int .i64 a',.string s,.int .i64 n,.slice (some ⟨kb,koff,none⟩) 1 kc] 99)):=one_below w _
 have hs1:w.heap.size<(w.alloc (.cells #[.int .u8 16,.int .i64 a',.string s,.int .i64 n,.slice (some ⟨kb,koff,none⟩) 1 kc] 99)).heap.size:=by simp
 obtain ⟨q0,hq0,hql0,hO0⟩:=hO.kid 0 (by simp)
 have c0:(w.alloc (.cells #[.int .u8 16,.int .i64 a',.string s,.int .i64 n,.slice (some ⟨kb,koff,none⟩) 1 kc] 99)).cell? ⟨kb,koff,none⟩=some (.int .i64 (q0:Int)):=by rw [hb1.cell (p:=⟨kb,koff,none⟩) hkb];have h:=hkc 0 (by omega);rw [hq0] at h;exact h
 have hw0:=hw.kids (j:=0) (by simp)
 have ct:(w.alloc (.cells #[.int .u8 16,.int .i64 a',.string s,.int .i64 n,.slice (some ⟨kb,koff,none⟩) 1 kc] 99)).cell? ⟨w.heap.size,2,none⟩=some (.string s):=by simp
 have T1:=lh (hT.on hb1)
 have P1:=lh (ht.below hb1)
 have HB1:=lh hb1
 simp only [Ast.size,sizeL] at hsz hd
 have hp0:=ast_pos x0
 have hss:=hw.parts.2.2.1
 have HEQ:Hid (stT d (.mk 16 a s n [x0])=_):=lh (show stF d 16 s n [exT x0] [blT (d+1) x0]=_ from stF_eq16 d s n (exT x0) (blT (d+1) x0))
 have hz0:=exT_size x0 hw0
 have hzt:=tabsT_size d
 clear hT hO hw ht hiv hn hc hle hnd hkc hq0 hkl hsh
 obtain ⟨W1,hW1⟩:∃W1,(w.alloc (.cells #[.int .u8 16,.int .i64 a',.string s,.int .i64 n,.slice (some ⟨kb,koff,none⟩) 1 kc] 99))=W1:=⟨_,rfl⟩
 rw [hW1] at hb1 hs1 c0 ct T1 P1 HB1
 have HW1:=lh hW1
 clear hW1
 have HT0:Hid (∀w',w'.cell? ⟨kb,koff,none⟩=some (.int .i64 (q0:Int))→w'.cell? ⟨w.heap.size,2,none⟩=some (.string s)→Below W1.heap.size W1 w'→Calls Tryz.prog 104 #[.slice (some ⟨b,off,none⟩) len c,.int .i64 (q0:Int)] w' fun e w''=>e=.returned (.string (exT x0))∧w''.cell? ⟨kb,koff,none⟩=some (.int .i64 (q0:Int))∧w''.cell? ⟨w.heap.size,2,none⟩=some (.string s)∧Below W1.heap.size W1 w''):=lh (fun w' h0 h1 hb=>(refText_at ns x0 (Or.inr (by have:=(isExprK_iff _).1 hx0;omega)) q0 w' (some ⟨b,off,none⟩) len c (T1.out.on hb) hO0 hw0 (P1.out.below hb) hlen).mono fun e w'' ⟨he,hb2⟩=>⟨he,by rw [hb2.cell (p:=⟨kb,koff,none⟩) (Nat.lt_of_lt_of_le (Nat.lt_of_lt_of_le hkb HB1.out.size) hb.size)];exact h0,by rw [hb2.cell (p:=⟨w.heap.size,2,none⟩) (Nat.lt_of_lt_of_le hs1 hb.size)];exact h1,hb.trans (hb2.mono hb.size)⟩)
 have HAH:=lh (fun w'=>refAhead_at w' d (by omega))
 generalize exT x0=T0 at *
 generalize tabsT d=TD at *
 have hd63:(d:Int)+1≤9223372036854775807:=by omega
 have z0:¬ 9223372036854775807<4+s.size:=by omega
 have z1:¬ 9223372036854775807<4+s.size+3:=by omega
 have z2:¬ 9223372036854775807<4+s.size+3+T0.size:=by omega
 have z3:¬ 9223372036854775807<4+s.size+3+T0.size+1:=by omega
 have zf:¬ 9223372036854775807<TD.size+(4+s.size+3+T0.size+1):=by omega
 have zg:¬ 9223372036854775807<TD.size+(4+s.size+3+T0.size+1)+1:=by omega
 have hbd:Below W1.heap.size W1 W1.drew:=(Below.refl _ _).drew
 have hbd0:Below W1.heap.size W1 W1:=Below.refl _ _
 clear hb1 hsz hd hss hw0 hO0 hx0 hp0 hql0 hz0  hzt ih
 go_enter Tryz.func105,Tryz.ntmps105
 go_wp2_with fail
 rw [HW1.out]
 clear HW1
 go_region_held3 (fun w'=>w'.cell? ⟨kb,koff,none⟩=some (.int .i64 (q0:Int))∧w'.cell? ⟨w.heap.size,2,none⟩=some (.string s)∧Below W1.heap.size W1 w') (go_keep) (first|(go_at_call 104;(with_reducible refine (HT0.out _ ?_ ?_ ?_).mono ?_);(first|assumption|exact c0);(first|assumption|exact ct);(first|assumption|exact hbd);rintro e w' ⟨rfl,r0,r1,rb⟩))
 have RB:=lh rb
 clear rb
 go_wp2_with fail
 (with_reducible refine (HAH.out _).mono ?_)
 rintro e w4 ⟨rfl,rfl⟩
 go_wp2
 go_ret
 exact ⟨by rw [HEQ.out];first|done|rfl,HB1.out.trans (RB.out.mono HB1.out.size)⟩
theorem refStmt17 (ns:List Nd)(a:Nat)(s:ByteArray)(n:Int)(ks:List Ast)(hsh:isR (ks.map Ast.kind) [0]=true)(ih:∀y∈ks,y.kind=6→HasBl ns y):HasS ns (.mk 17 a s n ks):=by
 intro d o w p len c hT hO hw ht hlen hd
 obtain ⟨a',hnd⟩:=hO.node
 have hol:=hO.lt
 have hle:=hT.len_eq
 have hsz:=hO.size
 have b0:(0:Int)≤(o:Int):=by omega
 have b1:(o:Int)<(len:Int):=by omega
 obtain ⟨b,off,rfl,hbl,hc⟩:=hT.node (by omega)
 obtain ⟨kp,kl,kc,hn⟩:=hc o (by omega)
 rw [hnd] at hn
 have k0:w.cell? ⟨b,off+o*5,none⟩=some (.int .u8 17):=hn.kind
 have k1:w.cell? ⟨b,off+o*5+1,none⟩=some (.int .i64 a'):=hn.at'
 have k2:w.cell? ⟨b,off+o*5+2,none⟩=some (.string s):=hn.text
 have k3:w.cell? ⟨b,off+o*5+3,none⟩=some (.int .i64 n):=hn.n
 have k4:w.cell? ⟨b,off+o*5+4,none⟩=some (.slice kp kl kc):=hn.kids
 have hiv:IV w kp kl kc (heads (o+1) ks):=hn.iv
 have hkl:ks.length=kl:=by rw [← hiv.len_eq,heads_length]
 obtain ⟨x0,rfl,hx0⟩:=sh0 hsh
 obtain rfl:kl=1:=hkl.symm
 obtain ⟨kb,koff,rfl,hkb,hkc⟩:=hiv.cell (by omega)
 have hb1:Below w.heap.size w (w.alloc (.cells #[.int .u8 17,.int .i64 a',.string s,.int .i64 n,.slice (some ⟨kb,koff,none⟩) 1 kc] 99)):=one_below w _
 have hs1:w.heap.size<(w.alloc (.cells #[.int .u8 17,.int .i64 a',.string s,.int .i64 n,.slice (some ⟨kb,koff,none⟩) 1 kc] 99)).heap.size:=by simp
 obtain ⟨q0,hq0,hql0,hO0⟩:=hO.kid 0 (by simp)
 have c0:(w.alloc (.cells #[.int .u8 17,.int .i64 a',.string s,.int .i64 n,.slice (some ⟨kb,koff,none⟩) 1 kc] 99)).cell? ⟨kb,koff,none⟩=some (.int .i64 (q0:Int)):=by rw [hb1.cell (p:=⟨kb,koff,none⟩) hkb];have h:=hkc 0 (by omega);rw [hq0] at h;exact h
 have hw0:=hw.kids (j:=0) (by simp)
 have T1:=lh (hT.on hb1)
 have P1:=lh (ht.below hb1)
 have HB1:=lh hb1
 simp only [Ast.size,sizeL] at hsz hd
 have hp0:=ast_pos x0
 have hss:=hw.parts.2.2.1
 have HEQ:Hid (stT d (.mk 17 a s n [x0])=_):=lh (show stF d 17 s n [exT x0] [blT (d+1) x0]=_ from stF_eq17 d s n (exT x0) (blT (d+1) x0))
 have hz0:=exT_size x0 hw0
 have hzt:=tabsT_size d
 clear hT hO hw ht hiv hn hc hle hnd hkc hq0 hkl hsh
 obtain ⟨W1,hW1⟩:∃W1,(w.alloc (.cells #[.int .u8 17,.int .i64 a',.string s,.int .i64 n,.slice (some ⟨kb,koff,none⟩) 1 kc] 99))=W1:=⟨_,rfl⟩
 rw [hW1] at hb1 hs1 c0 T1 P1 HB1
 have HW1:=lh hW1
 clear hW1
 have HT0:Hid (∀w',w'.cell? ⟨kb,koff,none⟩=some (.int .i64 (q0:Int))→Below W1.heap.size W1 w'→Calls Tryz.prog 104 #[.slice (some ⟨b,off,none⟩) len c,.int .i64 (q0:Int)] w' fun e w''=>e=.returned (.string (exT x0))∧w''.cell? ⟨kb,koff,none⟩=some (.int .i64 (q0:Int))∧Below W1.heap.size W1 w''):=lh (fun w' h0 hb=>(refText_at ns x0 (Or.inr (by have:=(isExprK_iff _).1 hx0;omega)) q0 w' (some ⟨b,off,none⟩) len c (T1.out.on hb) hO0 hw0 (P1.out.below hb) hlen).mono fun e w'' ⟨he,hb2⟩=>⟨he,by rw [hb2.cell (p:=⟨kb,koff,none⟩) (Nat.lt_of_lt_of_le (Nat.lt_of_lt_of_le hkb HB1.out.size) hb.size)];exact h0,hb.trans (hb2.mono hb.size)⟩)
 have HAH:=lh (fun w'=>refAhead_at w' d (by omega))
 generalize exT x0=T0 at *
 generalize tabsT d=TD at *
 have hd63:(d:Int)+1≤9223372036854775807:=by omega
 have z0:¬ 9223372036854775807<5+T0.size:=by omega
 have z1:¬ 9223372036854775807<5+T0.size+1:=by omega
 have zf:¬ 9223372036854775807<TD.size+(5+T0.size+1):=by omega
 have zg:¬ 9223372036854775807<TD.size+(5+T0.size+1)+1:=by omega
 have hbd:Below W1.heap.size W1 W1.drew:=(Below.refl _ _).drew
 have hbd0:Below W1.heap.size W1 W1:=Below.refl _ _
 clear hb1 hsz hd hss hw0 hO0 hx0 hp0 hql0 hz0  hzt ih
 go_enter Tryz.func105,Tryz.ntmps105
 go_upto_region 28 with fail
 rw [HW1.out]
 clear HW1
 go_wp2_with fail
 (with_reducible refine (HT0.out _ c0 hbd0).mono ?_)
 rintro e w' ⟨rfl,r0,rb⟩
 have RB:=lh rb
 clear rb
 go_wp2_with fail
 (with_reducible refine (HAH.out _).mono ?_)
 rintro e w4 ⟨rfl,rfl⟩
 go_wp2
 go_ret
 exact ⟨by rw [HEQ.out];first|done|rfl,HB1.out.trans (RB.out.mono HB1.out.size)⟩
theorem refStmt14a (ns:List Nd)(a:Nat)(s:ByteArray)(n:Int)(ks:List Ast)(hsh:isR (ks.map Ast.kind) [0,0,6]=true)(ih:∀y∈ks,y.kind=6→HasBl ns y):HasS ns (.mk 14 a s n ks):=by
 intro d o w p len c hT hO hw ht hlen hd
 obtain ⟨a',hnd⟩:=hO.node
 have hol:=hO.lt
 have hle:=hT.len_eq
 have hsz:=hO.size
 have b0:(0:Int)≤(o:Int):=by omega
 have b1:(o:Int)<(len:Int):=by omega
 obtain ⟨b,off,rfl,hbl,hc⟩:=hT.node (by omega)
 obtain ⟨kp,kl,kc,hn⟩:=hc o (by omega)
 rw [hnd] at hn
 have k0:w.cell? ⟨b,off+o*5,none⟩=some (.int .u8 14):=hn.kind
 have k1:w.cell? ⟨b,off+o*5+1,none⟩=some (.int .i64 a'):=hn.at'
 have k2:w.cell? ⟨b,off+o*5+2,none⟩=some (.string s):=hn.text
 have k3:w.cell? ⟨b,off+o*5+3,none⟩=some (.int .i64 n):=hn.n
 have k4:w.cell? ⟨b,off+o*5+4,none⟩=some (.slice kp kl kc):=hn.kids
 have hiv:IV w kp kl kc (heads (o+1) ks):=hn.iv
 have hkl:ks.length=kl:=by rw [← hiv.len_eq,heads_length]
 obtain ⟨x0,x1,x2,rfl,hx0,hx1,hx2⟩:=sh0_0_6 hsh
 obtain rfl:kl=3:=hkl.symm
 obtain ⟨kb,koff,rfl,hkb,hkc⟩:=hiv.cell (by omega)
 have hb1:Below w.heap.size w (w.alloc (.cells #[.int .u8 14,.int .i64 a',.string s,.int .i64 n,.slice (some ⟨kb,koff,none⟩) 3 kc] 99)):=one_below w _
 have hs1:w.heap.size<(w.alloc (.cells #[.int .u8 14,.int .i64 a',.string s,.int .i64 n,.slice (some ⟨kb,koff,none⟩) 3 kc] 99)).heap.size:=by simp
 obtain ⟨q0,hq0,hql0,hO0⟩:=hO.kid 0 (by simp)
 have c0:(w.alloc (.cells #[.int .u8 14,.int .i64 a',.string s,.int .i64 n,.slice (some ⟨kb,koff,none⟩) 3 kc] 99)).cell? ⟨kb,koff,none⟩=some (.int .i64 (q0:Int)):=by rw [hb1.cell (p:=⟨kb,koff,none⟩) hkb];have h:=hkc 0 (by omega);rw [hq0] at h;exact h
 have hw0:=hw.kids (j:=0) (by simp)
 obtain ⟨q1,hq1,hql1,hO1⟩:=hO.kid 1 (by simp)
 have c1:(w.alloc (.cells #[.int .u8 14,.int .i64 a',.string s,.int .i64 n,.slice (some ⟨kb,koff,none⟩) 3 kc] 99)).cell? ⟨kb,koff+1,none⟩=some (.int .i64 (q1:Int)):=by rw [hb1.cell (p:=⟨kb,koff+1,none⟩) hkb];have h:=hkc 1 (by omega);rw [hq1] at h;exact h
 have hw1:=hw.kids (j:=1) (by simp)
 obtain ⟨q2,hq2,hql2,hO2⟩:=hO.kid 2 (by simp)
 have c2:(w.alloc (.cells #[.int .u8 14,.int .i64 a',.string s,.int .i64 n,.slice (some ⟨kb,koff,none⟩) 3 kc] 99)).cell? ⟨kb,koff+2,none⟩=some (.int .i64 (q2:Int)):=by rw [hb1.cell (p:=⟨kb,koff+2,none⟩) hkb];have h:=hkc 2 (by omega);rw [hq2] at h;exact h
 have hw2:=hw.kids (j:=2) (by simp)
 have ce:(w.alloc (.cells #[.int .u8 14,.int .i64 a',.string s,.int .i64 n,.slice (some ⟨kb,koff,none⟩) 3 kc] 99)).cell? ⟨w.heap.size,3,none⟩=some (.int .i64 n):=by simp
 have T1:=lh (hT.on hb1)
 have P1:=lh (ht.below hb1)
 have HB1:=lh hb1
 simp only [Ast.size,sizeL] at hsz hd
 have hp0:=ast_pos x0
 have hp1:=ast_pos x1
 have hp2:=ast_pos x2
 have hss:=hw.parts.2.2.1
 have HEQ:Hid (stT d (.mk 14 a s n [x0,x1,x2])=_):=lh (show stF d 14 s n [exT x0,exT x1,exT x2] [blT (d+1) x0,blT (d+1) x1,blT (d+1) x2]=_ from stF_eq14a d s n (exT x0) (exT x1) (exT x2) (blT (d+1) x0) (blT (d+1) x1) (blT (d+1) x2))
 have hz0:=exT_size x0 hw0
 have hz1:=exT_size x1 hw1
 have hy2:=blT_size (d+1) x2 hw2 (by omega)
 have hy2':=Nat.mul_le_mul (show x2.size≤70000 by omega) (show x2.size≤70000 by omega)
 have hzt:=tabsT_size d
 clear hT hO hw ht hiv hn hc hle hnd hkc hq0 hq1 hq2 hkl hsh
 obtain ⟨W1,hW1⟩:∃W1,(w.alloc (.cells #[.int .u8 14,.int .i64 a',.string s,.int .i64 n,.slice (some ⟨kb,koff,none⟩) 3 kc] 99))=W1:=⟨_,rfl⟩
 rw [hW1] at hb1 hs1 c0 c1 c2 ce T1 P1 HB1
 have HW1:=lh hW1
 clear hW1
 have HT0:Hid (∀w',w'.cell? ⟨kb,koff,none⟩=some (.int .i64 (q0:Int))→w'.cell? ⟨kb,koff+1,none⟩=some (.int .i64 (q1:Int))→w'.cell? ⟨kb,koff+2,none⟩=some (.int .i64 (q2:Int))→w'.cell? ⟨w.heap.size,3,none⟩=some (.int .i64 n)→Below W1.heap.size W1 w'→Calls Tryz.prog 104 #[.slice (some ⟨b,off,none⟩) len c,.int .i64 (q0:Int)] w' fun e w''=>e=.returned (.string (exT x0))∧w''.cell? ⟨kb,koff,none⟩=some (.int .i64 (q0:Int))∧w''.cell? ⟨kb,koff+1,none⟩=some (.int .i64 (q1:Int))∧w''.cell? ⟨kb,koff+2,none⟩=some (.int .i64 (q2:Int))∧w''.cell? ⟨w.heap.size,3,none⟩=some (.int .i64 n)∧Below W1.heap.size W1 w''):=lh (fun w' h0 h1 h2 h3 hb=>(refText_at ns x0 (Or.inr (by have:=(isExprK_iff _).1 hx0;omega)) q0 w' (some ⟨b,off,none⟩) len c (T1.out.on hb) hO0 hw0 (P1.out.below hb) hlen).mono fun e w'' ⟨he,hb2⟩=>⟨he,by rw [hb2.cell (p:=⟨kb,koff,none⟩) (Nat.lt_of_lt_of_le (Nat.lt_of_lt_of_le hkb HB1.out.size) hb.size)];exact h0,by rw [hb2.cell (p:=⟨kb,koff+1,none⟩) (Nat.lt_of_lt_of_le (Nat.lt_of_lt_of_le hkb HB1.out.size) hb.size)];exact h1,by rw [hb2.cell (p:=⟨kb,koff+2,none⟩) (Nat.lt_of_lt_of_le (Nat.lt_of_lt_of_le hkb HB1.out.size) hb.size)];exact h2,by rw [hb2.cell (p:=⟨w.heap.size,3,none⟩) (Nat.lt_of_lt_of_le hs1 hb.size)];exact h3,hb.trans (hb2.mono hb.size)⟩)
 have HT1:Hid (∀w',w'.cell? ⟨kb,koff,none⟩=some (.int .i64 (q0:Int))→w'.cell? ⟨kb,koff+1,none⟩=some (.int .i64 (q1:Int))→w'.cell? ⟨kb,koff+2,none⟩=some (.int .i64 (q2:Int))→w'.cell? ⟨w.heap.size,3,none⟩=some (.int .i64 n)→Below W1.heap.size W1 w'→Calls Tryz.prog 104 #[.slice (some ⟨b,off,none⟩) len c,.int .i64 (q1:Int)] w' fun e w''=>e=.returned (.string (exT x1))∧w''.cell? ⟨kb,koff,none⟩=some (.int .i64 (q0:Int))∧w''.cell? ⟨kb,koff+1,none⟩=some (.int .i64 (q1:Int))∧w''.cell? ⟨kb,koff+2,none⟩=some (.int .i64 (q2:Int))∧w''.cell? ⟨w.heap.size,3,none⟩=some (.int .i64 n)∧Below W1.heap.size W1 w''):=lh (fun w' h0 h1 h2 h3 hb=>(refText_at ns x1 (Or.inr (by have:=(isExprK_iff _).1 hx1;omega)) q1 w' (some ⟨b,off,none⟩) len c (T1.out.on hb) hO1 hw1 (P1.out.below hb) hlen).mono fun e w'' ⟨he,hb2⟩=>⟨he,by rw [hb2.cell (p:=⟨kb,koff,none⟩) (Nat.lt_of_lt_of_le (Nat.lt_of_lt_of_le hkb HB1.out.size) hb.size)];exact h0,by rw [hb2.cell (p:=⟨kb,koff+1,none⟩) (Nat.lt_of_lt_of_le (Nat.lt_of_lt_of_le hkb HB1.out.size) hb.size)];exact h1,by rw [hb2.cell (p:=⟨kb,koff+2,none⟩) (Nat.lt_of_lt_of_le (Nat.lt_of_lt_of_le hkb HB1.out.size) hb.size)];exact h2,by rw [hb2.cell (p:=⟨w.heap.size,3,none⟩) (Nat.lt_of_lt_of_le hs1 hb.size)];exact h3,hb.trans (hb2.mono hb.size)⟩)
 have HIB2:=lh (ih x2 (by simp) hx2)
 have HB2:Hid (∀w',w'.cell? ⟨kb,koff,none⟩=some (.int .i64 (q0:Int))→w'.cell? ⟨kb,koff+1,none⟩=some (.int .i64 (q1:Int))→w'.cell? ⟨kb,koff+2,none⟩=some (.int .i64 (q2:Int))→w'.cell? ⟨w.heap.size,3,none⟩=some (.int .i64 n)→Below W1.heap.size W1 w'→Calls Tryz.prog 59 #[.slice (some ⟨b,off,none⟩) len c,.int .i64 (q2:Int),.int .i64 ((d:Int)+1)] w' fun e w''=>e=.returned (.string (blT (d+1) x2))∧w''.cell? ⟨kb,koff,none⟩=some (.int .i64 (q0:Int))∧w''.cell? ⟨kb,koff+1,none⟩=some (.int .i64 (q1:Int))∧w''.cell? ⟨kb,koff+2,none⟩=some (.int .i64 (q2:Int))∧w''.cell? ⟨w.heap.size,3,none⟩=some (.int .i64 n)∧Below W1.heap.size W1 w''):=lh (fun w' h0 h1 h2 h3 hb=>(HIB2.out (d+1) q2 w' (some ⟨b,off,none⟩) len c (T1.out.on hb) hO2 hw2 (P1.out.below hb) hlen (by omega)).mono fun e w'' ⟨he,hb2⟩=>⟨he,by rw [hb2.cell (p:=⟨kb,koff,none⟩) (Nat.lt_of_lt_of_le (Nat.lt_of_lt_of_le hkb HB1.out.size) hb.size)];exact h0,by rw [hb2.cell (p:=⟨kb,koff+1,none⟩) (Nat.lt_of_lt_of_le (Nat.lt_of_lt_of_le hkb HB1.out.size) hb.size)];exact h1,by rw [hb2.cell (p:=⟨kb,koff+2,none⟩) (Nat.lt_of_lt_of_le (Nat.lt_of_lt_of_le hkb HB1.out.size) hb.size)];exact h2,by rw [hb2.cell (p:=⟨w.heap.size,3,none⟩) (Nat.lt_of_lt_of_le hs1 hb.size)];exact h3,hb.trans (hb2.mono hb.size)⟩)
 have HE:Hid (∀w',w'.cell? ⟨kb,koff,none⟩=some (.int .i64 (q0:Int))→w'.cell? ⟨kb,koff+1,none⟩=some (.int .i64 (q1:Int))→w'.cell? ⟨kb,koff+2,none⟩=some (.int .i64 (q2:Int))→w'.cell? ⟨w.heap.size,3,none⟩=some (.int .i64 n)→Below W1.heap.size W1 w'→Calls Tryz.prog 58 #[.int .i64 n,.string ⟨#[32,60,32]⟩,.string ⟨#[32,61,61,32]⟩] w' fun e w''=>e=.returned (.string (if n=1 then ⟨#[32,61,61,32]⟩ else ⟨#[32,60,32]⟩))∧w''.cell? ⟨kb,koff,none⟩=some (.int .i64 (q0:Int))∧w''.cell? ⟨kb,koff+1,none⟩=some (.int .i64 (q1:Int))∧w''.cell? ⟨kb,koff+2,none⟩=some (.int .i64 (q2:Int))∧w''.cell? ⟨w.heap.size,3,none⟩=some (.int .i64 n)∧Below W1.heap.size W1 w''):=lh (fun w' h0 h1 h2 h3 hb=>(refEither_at w' n ⟨#[32,60,32]⟩ ⟨#[32,61,61,32]⟩).mono fun e w'' ⟨he,hw⟩=>by subst hw;exact ⟨he,h0,h1,h2,h3,hb⟩)
 have hze:(if n=1 then (⟨#[32,61,61,32]⟩:ByteArray) else ⟨#[32,60,32]⟩).size≤11:=by split<;>decide
 have HA:Hid (∀w',w'.cell? ⟨kb,koff,none⟩=some (.int .i64 (q0:Int))→w'.cell? ⟨kb,koff+1,none⟩=some (.int .i64 (q1:Int))→w'.cell? ⟨kb,koff+2,none⟩=some (.int .i64 (q2:Int))→w'.cell? ⟨w.heap.size,3,none⟩=some (.int .i64 n)→Below W1.heap.size W1 w'→Calls Tryz.prog 173 #[.int .i64 (d:Int)] w' fun e w''=>e=.returned (.string (tabsT d))∧w''.cell? ⟨kb,koff,none⟩=some (.int .i64 (q0:Int))∧w''.cell? ⟨kb,koff+1,none⟩=some (.int .i64 (q1:Int))∧w''.cell? ⟨kb,koff+2,none⟩=some (.int .i64 (q2:Int))∧w''.cell? ⟨w.heap.size,3,none⟩=some (.int .i64 n)∧Below W1.heap.size W1 w''):=lh (fun w' h0 h1 h2 h3 hb=>(refAhead_at w' d (by omega)).mono fun e w'' ⟨he,hw⟩=>by subst hw;exact ⟨he,h0,h1,h2,h3,hb⟩)
 have HAH:=lh (fun w'=>refAhead_at w' d (by omega))
 generalize exT x0=T0 at *
 generalize exT x1=T1 at *
 generalize blT (d+1) x2=M2 at *
 generalize (if n=1 then (⟨#[32,61,61,32]⟩:ByteArray) else ⟨#[32,60,32]⟩)=EI at *
 generalize tabsT d=TD at *
 have hd63:(d:Int)+1≤9223372036854775807:=by omega
 have hwd:IntKind.i64.wrap ((d:Int)+1)=(d:Int)+1:=IntWalk.i64_in _ (by omega)
 have z0:¬ 9223372036854775807<3+T0.size:=by omega
 have z1:¬ 9223372036854775807<3+T0.size+EI.size:=by omega
 have z2:¬ 9223372036854775807<3+T0.size+EI.size+T1.size:=by omega
 have z3:¬ 9223372036854775807<3+T0.size+EI.size+T1.size+3:=by omega
 have z4:¬ 9223372036854775807<3+T0.size+EI.size+T1.size+3+M2.size:=by omega
 have z5:¬ 9223372036854775807<3+T0.size+EI.size+T1.size+3+M2.size+TD.size:=by omega
 have z6:¬ 9223372036854775807<3+T0.size+EI.size+T1.size+3+M2.size+TD.size+1:=by omega
 have zf:¬ 9223372036854775807<TD.size+(3+T0.size+EI.size+T1.size+3+M2.size+TD.size+1):=by omega
 have zg:¬ 9223372036854775807<TD.size+(3+T0.size+EI.size+T1.size+3+M2.size+TD.size+1)+1:=by omega
 have hbd:Below W1.heap.size W1 W1.drew:=(Below.refl _ _).drew
 have hbd0:Below W1.heap.size W1 W1:=Below.refl _ _
 clear hb1 hsz hd hss hw0 hO0 hx0 hp0 hql0 hw1 hO1 hx1 hp1 hql1 hw2 hO2 hx2 hp2 hql2 hz0 hz1 hy2 hy2' hze hzt ih
 go_enter Tryz.func105,Tryz.ntmps105
 go_wp2_with fail
 rw [HW1.out]
 clear HW1
 go_region_held3 (fun w'=>w'.cell? ⟨kb,koff,none⟩=some (.int .i64 (q0:Int))∧w'.cell? ⟨kb,koff+1,none⟩=some (.int .i64 (q1:Int))∧w'.cell? ⟨kb,koff+2,none⟩=some (.int .i64 (q2:Int))∧w'.cell? ⟨w.heap.size,3,none⟩=some (.int .i64 n)∧Below W1.heap.size W1 w') (go_keep) (first|(go_at_call 104;(with_reducible refine (HT0.out _ ?_ ?_ ?_ ?_ ?_).mono ?_);(first|assumption|exact c0);(first|assumption|exact c1);(first|assumption|exact c2);(first|assumption|exact ce);(first|assumption|exact hbd);rintro e w' ⟨rfl,r0,r1,r2,r3,rb⟩)|(go_at_call 104;(with_reducible refine (HT1.out _ ?_ ?_ ?_ ?_ ?_).mono ?_);(first|assumption|exact c0);(first|assumption|exact c1);(first|assumption|exact c2);(first|assumption|exact ce);(first|assumption|exact hbd);rintro e w' ⟨rfl,r0,r1,r2,r3,rb⟩)|(go_at_call 59;(try rw [hwd]);(with_reducible refine (HB2.out _ ?_ ?_ ?_ ?_ ?_).mono ?_);(first|assumption|exact c0);(first|assumption|exact c1);(first|assumption|exact c2);(first|assumption|exact ce);(first|assumption|exact hbd);rintro e w' ⟨rfl,r0,r1,r2,r3,rb⟩)|(go_at_call 58;(with_reducible refine (HE.out _ ?_ ?_ ?_ ?_ ?_).mono ?_);(first|assumption|exact c0);(first|assumption|exact c1);(first|assumption|exact c2);(first|assumption|exact ce);(first|assumption|exact hbd);rintro e w' ⟨rfl,r0,r1,r2,r3,rb⟩)|(go_at_call 173;(with_reducible refine (HA.out _ ?_ ?_ ?_ ?_ ?_).mono ?_);(first|assumption|exact c0);(first|assumption|exact c1);(first|assumption|exact c2);(first|assumption|exact ce);(first|assumption|exact hbd);rintro e w' ⟨rfl,r0,r1,r2,r3,rb⟩))
 have RB:=lh rb
 clear rb
 go_wp2_with fail
 (with_reducible refine (HAH.out _).mono ?_)
 rintro e w4 ⟨rfl,rfl⟩
 go_wp2
 go_ret
 exact ⟨by rw [HEQ.out];first|done|rfl,HB1.out.trans (RB.out.mono HB1.out.size)⟩
theorem refStmt14b (ns:List Nd)(a:Nat)(s:ByteArray)(n:Int)(ks:List Ast)(hsh:isR (ks.map Ast.kind) [0,0,6,6]=true)(ih:∀y∈ks,y.kind=6→HasBl ns y):HasS ns (.mk 14 a s n ks):=by
 intro d o w p len c hT hO hw ht hlen hd
 obtain ⟨a',hnd⟩:=hO.node
 have hol:=hO.lt
 have hle:=hT.len_eq
 have hsz:=hO.size
 have b0:(0:Int)≤(o:Int):=by omega
 have b1:(o:Int)<(len:Int):=by omega
 obtain ⟨b,off,rfl,hbl,hc⟩:=hT.node (by omega)
 obtain ⟨kp,kl,kc,hn⟩:=hc o (by omega)
 rw [hnd] at hn
 have k0:w.cell? ⟨b,off+o*5,none⟩=some (.int .u8 14):=hn.kind
 have k1:w.cell? ⟨b,off+o*5+1,none⟩=some (.int .i64 a'):=hn.at'
 have k2:w.cell? ⟨b,off+o*5+2,none⟩=some (.string s):=hn.text
 have k3:w.cell? ⟨b,off+o*5+3,none⟩=some (.int .i64 n):=hn.n
 have k4:w.cell? ⟨b,off+o*5+4,none⟩=some (.slice kp kl kc):=hn.kids
 have hiv:IV w kp kl kc (heads (o+1) ks):=hn.iv
 have hkl:ks.length=kl:=by rw [← hiv.len_eq,heads_length]
 obtain ⟨x0,x1,x2,x3,rfl,hx0,hx1,hx2,hx3⟩:=sh0_0_6_6 hsh
 obtain rfl:kl=4:=hkl.symm
 obtain ⟨kb,koff,rfl,hkb,hkc⟩:=hiv.cell (by omega)
 have hb1:Below w.heap.size w (w.alloc (.cells #[.int .u8 14,.int .i64 a',.string s,.int .i64 n,.slice (some ⟨kb,koff,none⟩) 4 kc] 99)):=one_below w _
 have hs1:w.heap.size<(w.alloc (.cells #[.int .u8 14,.int .i64 a',.string s,.int .i64 n,.slice (some ⟨kb,koff,none⟩) 4 kc] 99)).heap.size:=by simp
 obtain ⟨q0,hq0,hql0,hO0⟩:=hO.kid 0 (by simp)
 have c0:(w.alloc (.cells #[.int .u8 14,.int .i64 a',.string s,.int .i64 n,.slice (some ⟨kb,koff,none⟩) 4 kc] 99)).cell? ⟨kb,koff,none⟩=some (.int .i64 (q0:Int)):=by rw [hb1.cell (p:=⟨kb,koff,none⟩) hkb];have h:=hkc 0 (by omega);rw [hq0] at h;exact h
 have hw0:=hw.kids (j:=0) (by simp)
 obtain ⟨q1,hq1,hql1,hO1⟩:=hO.kid 1 (by simp)
 have c1:(w.alloc (.cells #[.int .u8 14,.int .i64 a',.string s,.int .i64 n,.slice (some ⟨kb,koff,none⟩) 4 kc] 99)).cell? ⟨kb,koff+1,none⟩=some (.int .i64 (q1:Int)):=by rw [hb1.cell (p:=⟨kb,koff+1,none⟩) hkb];have h:=hkc 1 (by omega);rw [hq1] at h;exact h
 have hw1:=hw.kids (j:=1) (by simp)
 obtain ⟨q2,hq2,hql2,hO2⟩:=hO.kid 2 (by simp)
 have c2:(w.alloc (.cells #[.int .u8 14,.int .i64 a',.string s,.int .i64 n,.slice (some ⟨kb,koff,none⟩) 4 kc] 99)).cell? ⟨kb,koff+2,none⟩=some (.int .i64 (q2:Int)):=by rw [hb1.cell (p:=⟨kb,koff+2,none⟩) hkb];have h:=hkc 2 (by omega);rw [hq2] at h;exact h
 have hw2:=hw.kids (j:=2) (by simp)
 obtain ⟨q3,hq3,hql3,hO3⟩:=hO.kid 3 (by simp)
 have c3:(w.alloc (.cells #[.int .u8 14,.int .i64 a',.string s,.int .i64 n,.slice (some ⟨kb,koff,none⟩) 4 kc] 99)).cell? ⟨kb,koff+3,none⟩=some (.int .i64 (q3:Int)):=by rw [hb1.cell (p:=⟨kb,koff+3,none⟩) hkb];have h:=hkc 3 (by omega);rw [hq3] at h;exact h
 have hw3:=hw.kids (j:=3) (by simp)
 have ce:(w.alloc (.cells #[.int .u8 14,.int .i64 a',.string s,.int .i64 n,.slice (some ⟨kb,koff,none⟩) 4 kc] 99)).cell? ⟨w.heap.size,3,none⟩=some (.int .i64 n):=by simp
 have T1:=lh (hT.on hb1)
 have P1:=lh (ht.below hb1)
 have HB1:=lh hb1
 simp only [Ast.size,sizeL] at hsz hd
 have hp0:=ast_pos x0
 have hp1:=ast_pos x1
 have hp2:=ast_pos x2
 have hp3:=ast_pos x3
 have hss:=hw.parts.2.2.1
 have HEQ:Hid (stT d (.mk 14 a s n [x0,x1,x2,x3])=_):=lh (show stF d 14 s n [exT x0,exT x1,exT x2,exT x3] [blT (d+1) x0,blT (d+1) x1,blT (d+1) x2,blT (d+1) x3]=_ from stF_eq14b d s n (exT x0) (exT x1) (exT x2) (exT x3) (blT (d+1) x0) (blT (d+1) x1) (blT (d+1) x2) (blT (d+1) x3))
 have hz0:=exT_size x0 hw0
 have hz1:=exT_size x1 hw1
 have hy2:=blT_size (d+1) x2 hw2 (by omega)
 have hy2':=Nat.mul_le_mul (show x2.size≤70000 by omega) (show x2.size≤70000 by omega)
 have hy3:=blT_size (d+1) x3 hw3 (by omega)
 have hy3':=Nat.mul_le_mul (show x3.size≤70000 by omega) (show x3.size≤70000 by omega)
 have hzt:=tabsT_size d
 clear hT hO hw ht hiv hn hc hle hnd hkc hq0 hq1 hq2 hq3 hkl hsh
 obtain ⟨W1,hW1⟩:∃W1,(w.alloc (.cells #[.int .u8 14,.int .i64 a',.string s,.int .i64 n,.slice (some ⟨kb,koff,none⟩) 4 kc] 99))=W1:=⟨_,rfl⟩
 rw [hW1] at hb1 hs1 c0 c1 c2 c3 ce T1 P1 HB1
 have HW1:=lh hW1
 clear hW1
 have HT0:Hid (∀w',w'.cell? ⟨kb,koff,none⟩=some (.int .i64 (q0:Int))→w'.cell? ⟨kb,koff+1,none⟩=some (.int .i64 (q1:Int))→w'.cell? ⟨kb,koff+2,none⟩=some (.int .i64 (q2:Int))→w'.cell? ⟨kb,koff+3,none⟩=some (.int .i64 (q3:Int))→w'.cell? ⟨w.heap.size,3,none⟩=some (.int .i64 n)→Below W1.heap.size W1 w'→Calls Tryz.prog 104 #[.slice (some ⟨b,off,none⟩) len c,.int .i64 (q0:Int)] w' fun e w''=>e=.returned (.string (exT x0))∧w''.cell? ⟨kb,koff,none⟩=some (.int .i64 (q0:Int))∧w''.cell? ⟨kb,koff+1,none⟩=some (.int .i64 (q1:Int))∧w''.cell? ⟨kb,koff+2,none⟩=some (.int .i64 (q2:Int))∧w''.cell? ⟨kb,koff+3,none⟩=some (.int .i64 (q3:Int))∧w''.cell? ⟨w.heap.size,3,none⟩=some (.int .i64 n)∧Below W1.heap.size W1 w''):=lh (fun w' h0 h1 h2 h3 h4 hb=>(refText_at ns x0 (Or.inr (by have:=(isExprK_iff _).1 hx0;omega)) q0 w' (some ⟨b,off,none⟩) len c (T1.out.on hb) hO0 hw0 (P1.out.below hb) hlen).mono fun e w'' ⟨he,hb2⟩=>⟨he,by rw [hb2.cell (p:=⟨kb,koff,none⟩) (Nat.lt_of_lt_of_le (Nat.lt_of_lt_of_le hkb HB1.out.size) hb.size)];exact h0,by rw [hb2.cell (p:=⟨kb,koff+1,none⟩) (Nat.lt_of_lt_of_le (Nat.lt_of_lt_of_le hkb HB1.out.size) hb.size)];exact h1,by rw [hb2.cell (p:=⟨kb,koff+2,none⟩) (Nat.lt_of_lt_of_le (Nat.lt_of_lt_of_le hkb HB1.out.size) hb.size)];exact h2,by rw [hb2.cell (p:=⟨kb,koff+3,none⟩) (Nat.lt_of_lt_of_le (Nat.lt_of_lt_of_le hkb HB1.out.size) hb.size)];exact h3,by rw [hb2.cell (p:=⟨w.heap.size,3,none⟩) (Nat.lt_of_lt_of_le hs1 hb.size)];exact h4,hb.trans (hb2.mono hb.size)⟩)
 have HT1:Hid (∀w',w'.cell? ⟨kb,koff,none⟩=some (.int .i64 (q0:Int))→w'.cell? ⟨kb,koff+1,none⟩=some (.int .i64 (q1:Int))→w'.cell? ⟨kb,koff+2,none⟩=some (.int .i64 (q2:Int))→w'.cell? ⟨kb,koff+3,none⟩=some (.int .i64 (q3:Int))→w'.cell? ⟨w.heap.size,3,none⟩=some (.int .i64 n)→Below W1.heap.size W1 w'→Calls Tryz.prog 104 #[.slice (some ⟨b,off,none⟩) len c,.int .i64 (q1:Int)] w' fun e w''=>e=.returned (.string (exT x1))∧w''.cell? ⟨kb,koff,none⟩=some (.int .i64 (q0:Int))∧w''.cell? ⟨kb,koff+1,none⟩=some (.int .i64 (q1:Int))∧w''.cell? ⟨kb,koff+2,none⟩=some (.int .i64 (q2:Int))∧w''.cell? ⟨kb,koff+3,none⟩=some (.int .i64 (q3:Int))∧w''.cell? ⟨w.heap.size,3,none⟩=some (.int .i64 n)∧Below W1.heap.size W1 w''):=lh (fun w' h0 h1 h2 h3 h4 hb=>(refText_at ns x1 (Or.inr (by have:=(isExprK_iff _).1 hx1;omega)) q1 w' (some ⟨b,off,none⟩) len c (T1.out.on hb) hO1 hw1 (P1.out.below hb) hlen).mono fun e w'' ⟨he,hb2⟩=>⟨he,by rw [hb2.cell (p:=⟨kb,koff,none⟩) (Nat.lt_of_lt_of_le (Nat.lt_of_lt_of_le hkb HB1.out.size) hb.size)];exact h0,by rw [hb2.cell (p:=⟨kb,koff+1,none⟩) (Nat.lt_of_lt_of_le (Nat.lt_of_lt_of_le hkb HB1.out.size) hb.size)];exact h1,by rw [hb2.cell (p:=⟨kb,koff+2,none⟩) (Nat.lt_of_lt_of_le (Nat.lt_of_lt_of_le hkb HB1.out.size) hb.size)];exact h2,by rw [hb2.cell (p:=⟨kb,koff+3,none⟩) (Nat.lt_of_lt_of_le (Nat.lt_of_lt_of_le hkb HB1.out.size) hb.size)];exact h3,by rw [hb2.cell (p:=⟨w.heap.size,3,none⟩) (Nat.lt_of_lt_of_le hs1 hb.size)];exact h4,hb.trans (hb2.mono hb.size)⟩)
 have HIB2:=lh (ih x2 (by simp) hx2)
 have HB2:Hid (∀w',w'.cell? ⟨kb,koff,none⟩=some (.int .i64 (q0:Int))→w'.cell? ⟨kb,koff+1,none⟩=some (.int .i64 (q1:Int))→w'.cell? ⟨kb,koff+2,none⟩=some (.int .i64 (q2:Int))→w'.cell? ⟨kb,koff+3,none⟩=some (.int .i64 (q3:Int))→w'.cell? ⟨w.heap.size,3,none⟩=some (.int .i64 n)→Below W1.heap.size W1 w'→Calls Tryz.prog 59 #[.slice (some ⟨b,off,none⟩) len c,.int .i64 (q2:Int),.int .i64 ((d:Int)+1)] w' fun e w''=>e=.returned (.string (blT (d+1) x2))∧w''.cell? ⟨kb,koff,none⟩=some (.int .i64 (q0:Int))∧w''.cell? ⟨kb,koff+1,none⟩=some (.int .i64 (q1:Int))∧w''.cell? ⟨kb,koff+2,none⟩=some (.int .i64 (q2:Int))∧w''.cell? ⟨kb,koff+3,none⟩=some (.int .i64 (q3:Int))∧w''.cell? ⟨w.heap.size,3,none⟩=some (.int .i64 n)∧Below W1.heap.size W1 w''):=lh (fun w' h0 h1 h2 h3 h4 hb=>(HIB2.out (d+1) q2 w' (some ⟨b,off,none⟩) len c (T1.out.on hb) hO2 hw2 (P1.out.below hb) hlen (by omega)).mono fun e w'' ⟨he,hb2⟩=>⟨he,by rw [hb2.cell (p:=⟨kb,koff,none⟩) (Nat.lt_of_lt_of_le (Nat.lt_of_lt_of_le hkb HB1.out.size) hb.size)];exact h0,by rw [hb2.cell (p:=⟨kb,koff+1,none⟩) (Nat.lt_of_lt_of_le (Nat.lt_of_lt_of_le hkb HB1.out.size) hb.size)];exact h1,by rw [hb2.cell (p:=⟨kb,koff+2,none⟩) (Nat.lt_of_lt_of_le (Nat.lt_of_lt_of_le hkb HB1.out.size) hb.size)];exact h2,by rw [hb2.cell (p:=⟨kb,koff+3,none⟩) (Nat.lt_of_lt_of_le (Nat.lt_of_lt_of_le hkb HB1.out.size) hb.size)];exact h3,by rw [hb2.cell (p:=⟨w.heap.size,3,none⟩) (Nat.lt_of_lt_of_le hs1 hb.size)];exact h4,hb.trans (hb2.mono hb.size)⟩)
 have HIB3:=lh (ih x3 (by simp) hx3)
 have HB3:Hid (∀w',Below W1.heap.size W1 w'→Calls Tryz.prog 59 #[.slice (some ⟨b,off,none⟩) len c,.int .i64 (q3:Int),.int .i64 ((d:Int)+1)] w' fun e w''=>e=.returned (.string (blT (d+1) x3))∧Below w'.heap.size w' w''):=lh (fun w' hb=>HIB3.out (d+1) q3 w' (some ⟨b,off,none⟩) len c (T1.out.on hb) hO3 hw3 (P1.out.below hb) hlen (by omega))
 have HE:Hid (∀w',w'.cell? ⟨kb,koff,none⟩=some (.int .i64 (q0:Int))→w'.cell? ⟨kb,koff+1,none⟩=some (.int .i64 (q1:Int))→w'.cell? ⟨kb,koff+2,none⟩=some (.int .i64 (q2:Int))→w'.cell? ⟨kb,koff+3,none⟩=some (.int .i64 (q3:Int))→w'.cell? ⟨w.heap.size,3,none⟩=some (.int .i64 n)→Below W1.heap.size W1 w'→Calls Tryz.prog 58 #[.int .i64 n,.string ⟨#[32,60,32]⟩,.string ⟨#[32,61,61,32]⟩] w' fun e w''=>e=.returned (.string (if n=1 then ⟨#[32,61,61,32]⟩ else ⟨#[32,60,32]⟩))∧w''.cell? ⟨kb,koff,none⟩=some (.int .i64 (q0:Int))∧w''.cell? ⟨kb,koff+1,none⟩=some (.int .i64 (q1:Int))∧w''.cell? ⟨kb,koff+2,none⟩=some (.int .i64 (q2:Int))∧w''.cell? ⟨kb,koff+3,none⟩=some (.int .i64 (q3:Int))∧w''.cell? ⟨w.heap.size,3,none⟩=some (.int .i64 n)∧Below W1.heap.size W1 w''):=lh (fun w' h0 h1 h2 h3 h4 hb=>(refEither_at w' n ⟨#[32,60,32]⟩ ⟨#[32,61,61,32]⟩).mono fun e w'' ⟨he,hw⟩=>by subst hw;exact ⟨he,h0,h1,h2,h3,h4,hb⟩)
 have hze:(if n=1 then (⟨#[32,61,61,32]⟩:ByteArray) else ⟨#[32,60,32]⟩).size≤11:=by split<;>decide
 have HA:Hid (∀w',w'.cell? ⟨kb,koff,none⟩=some (.int .i64 (q0:Int))→w'.cell? ⟨kb,koff+1,none⟩=some (.int .i64 (q1:Int))→w'.cell? ⟨kb,koff+2,none⟩=some (.int .i64 (q2:Int))→w'.cell? ⟨kb,koff+3,none⟩=some (.int .i64 (q3:Int))→w'.cell? ⟨w.heap.size,3,none⟩=some (.int .i64 n)→Below W1.heap.size W1 w'→Calls Tryz.prog 173 #[.int .i64 (d:Int)] w' fun e w''=>e=.returned (.string (tabsT d))∧w''.cell? ⟨kb,koff,none⟩=some (.int .i64 (q0:Int))∧w''.cell? ⟨kb,koff+1,none⟩=some (.int .i64 (q1:Int))∧w''.cell? ⟨kb,koff+2,none⟩=some (.int .i64 (q2:Int))∧w''.cell? ⟨kb,koff+3,none⟩=some (.int .i64 (q3:Int))∧w''.cell? ⟨w.heap.size,3,none⟩=some (.int .i64 n)∧Below W1.heap.size W1 w''):=lh (fun w' h0 h1 h2 h3 h4 hb=>(refAhead_at w' d (by omega)).mono fun e w'' ⟨he,hw⟩=>by subst hw;exact ⟨he,h0,h1,h2,h3,h4,hb⟩)
 have HAH:=lh (fun w'=>refAhead_at w' d (by omega))
 generalize exT x0=T0 at *
 generalize exT x1=T1 at *
 generalize blT (d+1) x2=M2 at *
 generalize blT (d+1) x3=M3 at *
 generalize (if n=1 then (⟨#[32,61,61,32]⟩:ByteArray) else ⟨#[32,60,32]⟩)=EI at *
 generalize tabsT d=TD at *
 have hd63:(d:Int)+1≤9223372036854775807:=by omega
 have hwd:IntKind.i64.wrap ((d:Int)+1)=(d:Int)+1:=IntWalk.i64_in _ (by omega)
 have z0:¬ 9223372036854775807<3+T0.size:=by omega
 have z1:¬ 9223372036854775807<3+T0.size+EI.size:=by omega
 have z2:¬ 9223372036854775807<3+T0.size+EI.size+T1.size:=by omega
 have z3:¬ 9223372036854775807<3+T0.size+EI.size+T1.size+3:=by omega
 have z4:¬ 9223372036854775807<3+T0.size+EI.size+T1.size+3+M2.size:=by omega
 have z5:¬ 9223372036854775807<3+T0.size+EI.size+T1.size+3+M2.size+TD.size:=by omega
 have z6:¬ 9223372036854775807<3+T0.size+EI.size+T1.size+3+M2.size+TD.size+1:=by omega
 have z7:¬ 9223372036854775807<3+T0.size+EI.size+T1.size+3+M2.size+TD.size+1+8:=by omega
 have z8:¬ 9223372036854775807<3+T0.size+EI.size+T1.size+3+M2.size+TD.size+1+8+M3.size:=by omega
 have z9:¬ 9223372036854775807<3+T0.size+EI.size+T1.size+3+M2.size+TD.size+1+8+M3.size+TD.size:=by omega
 have z10:¬ 9223372036854775807<3+T0.size+EI.size+T1.size+3+M2.size+TD.size+1+8+M3.size+TD.size+1:=by omega
 have zf:¬ 9223372036854775807<TD.size+(3+T0.size+EI.size+T1.size+3+M2.size+TD.size+1+8+M3.size+TD.size+1):=by omega
 have zg:¬ 9223372036854775807<TD.size+(3+T0.size+EI.size+T1.size+3+M2.size+TD.size+1+8+M3.size+TD.size+1)+1:=by omega
 have hbd:Below W1.heap.size W1 W1.drew:=(Below.refl _ _).drew
 have hbd0:Below W1.heap.size W1 W1:=Below.refl _ _
 clear hb1 hsz hd hss hw0 hO0 hx0 hp0 hql0 hw1 hO1 hx1 hp1 hql1 hw2 hO2 hx2 hp2 hql2 hw3 hO3 hx3 hp3 hql3 hz0 hz1 hy2 hy2' hy3 hy3' hze hzt ih
 go_enter Tryz.func105,Tryz.ntmps105
 go_wp2_with fail
 rw [HW1.out]
 clear HW1
 go_region_held3 (fun w'=>w'.cell? ⟨kb,koff,none⟩=some (.int .i64 (q0:Int))∧w'.cell? ⟨kb,koff+1,none⟩=some (.int .i64 (q1:Int))∧w'.cell? ⟨kb,koff+2,none⟩=some (.int .i64 (q2:Int))∧w'.cell? ⟨kb,koff+3,none⟩=some (.int .i64 (q3:Int))∧w'.cell? ⟨w.heap.size,3,none⟩=some (.int .i64 n)∧Below W1.heap.size W1 w') (go_keep) (first|(go_at_call 104;(with_reducible refine (HT0.out _ ?_ ?_ ?_ ?_ ?_ ?_).mono ?_);(first|assumption|exact c0);(first|assumption|exact c1);(first|assumption|exact c2);(first|assumption|exact c3);(first|assumption|exact ce);(first|assumption|exact hbd);rintro e w' ⟨rfl,r0,r1,r2,r3,r4,rb⟩)|(go_at_call 104;(with_reducible refine (HT1.out _ ?_ ?_ ?_ ?_ ?_ ?_).mono ?_);(first|assumption|exact c0);(first|assumption|exact c1);(first|assumption|exact c2);(first|assumption|exact c3);(first|assumption|exact ce);(first|assumption|exact hbd);rintro e w' ⟨rfl,r0,r1,r2,r3,r4,rb⟩)|(go_at_call 59;(try rw [hwd]);(with_reducible refine (HB2.out _ ?_ ?_ ?_ ?_ ?_ ?_).mono ?_);(first|assumption|exact c0);(first|assumption|exact c1);(first|assumption|exact c2);(first|assumption|exact c3);(first|assumption|exact ce);(first|assumption|exact hbd);rintro e w' ⟨rfl,r0,r1,r2,r3,r4,rb⟩)|(go_at_call 58;(with_reducible refine (HE.out _ ?_ ?_ ?_ ?_ ?_ ?_).mono ?_);(first|assumption|exact c0);(first|assumption|exact c1);(first|assumption|exact c2);(first|assumption|exact c3);(first|assumption|exact ce);(first|assumption|exact hbd);rintro e w' ⟨rfl,r0,r1,r2,r3,r4,rb⟩)|(go_at_call 173;(with_reducible refine (HA.out _ ?_ ?_ ?_ ?_ ?_ ?_).mono ?_);(first|assumption|exact c0);(first|assumption|exact c1);(first|assumption|exact c2);(first|assumption|exact c3);(first|assumption|exact ce);(first|assumption|exact hbd);rintro e w' ⟨rfl,r0,r1,r2,r3,r4,rb⟩))
 have RB:=lh rb
 go_wp2_with fail
 (with_reducible refine (HB3.out _ RB.out).mono ?_)
 rintro e w2 ⟨rfl,hb2⟩
 have RB2:=lh (RB.out.trans (hb2.mono RB.out.size))
 clear hb2
 go_wp2_with fail
 (with_reducible refine (HAH.out _).mono ?_)
 rintro e w3 ⟨rfl,rfl⟩
 clear rb
 go_wp2_with fail
 (with_reducible refine (HAH.out _).mono ?_)
 rintro e w4 ⟨rfl,rfl⟩
 go_wp2
 go_ret
 exact ⟨by rw [HEQ.out];first|done|rfl,HB1.out.trans (RB2.out.mono HB1.out.size)⟩
end
section
open Go.RowKit Tr
theorem iv_tail {W:World}{kb koff kl kc:Nat}{l:List Int}(h:IV W (some ⟨kb,koff,none⟩) kl kc l)(h1:1≤kl):IV W (some ⟨kb,koff+1,none⟩) (kl-1) (kc-1) (l.drop 1):=by
 obtain ⟨b,off,e,hlt,hc⟩:=h.cell (by omega)
 simp only [Option.some.injEq,Addr.mk.injEq,and_true] at e
 obtain ⟨rfl,rfl⟩:=e
 refine ⟨by rw [List.length_drop,h.len_eq],by have:=h.cap;omega,fun _=>⟨kb,koff+1,rfl,hlt,fun i hi=>?_⟩⟩
 rw [show koff+1+i=koff+(1+i) by omega,hc (1+i) (by omega)]
 simp [List.getD,List.getElem?_drop,Nat.add_comm]
theorem stF_eq9 (d:Nat)(t:ByteArray)(n:Int)(l0:ByteArray)(ls m:List ByteArray):stF d 9 t n (l0::ls) m=tabsT d++(⟨#[112,117,116,32]⟩++l0++⟨#[40]⟩++joinT ls++⟨#[41,59]⟩)++⟨#[10]⟩:=by
 unfold stF
 rw [nn,nn,if_pos rfl]
 rfl
theorem stF_eq18 (d:Nat)(t:ByteArray)(n:Int)(l m:List ByteArray):stF d 18 t n l m=tabsT d++⟨#[114,111,108,108,98,97,99,107,59]⟩++⟨#[10]⟩:=by
 unfold stF
 rw [nn,nn,nn,nn,nn,nn,nn,nn,nn,nn,nn,if_pos rfl]
 rfl
theorem stF_eq19 (d:Nat)(t:ByteArray)(n:Int)(l m:List ByteArray):stF d 19 t n l m=tabsT d++⟨#[99,104,111,112,59]⟩++⟨#[10]⟩:=by
 unfold stF
 rw [nn,nn,nn,nn,nn,nn,nn,nn,nn,nn,nn,nn,if_pos rfl]
 rfl
theorem refStmt9 (ns:List Nd)(a:Nat)(s:ByteArray)(n:Int)(x0:Ast)(xs:List Ast)(hx0:x0.kind=20)(hxs:∀x∈xs,isExprK x.kind=true)(hne:0<xs.length):HasS ns (.mk 9 a s n (x0::xs)):=by
 intro d o w p len c hT hO hw ht hlen hd
 obtain ⟨a',hnd⟩:=hO.node
 have hol:=hO.lt
 have hle:=hT.len_eq
 have hsz:=hO.size
 have b0:(0:Int)≤(o:Int):=by omega
 have b1:(o:Int)<(len:Int):=by omega
 obtain ⟨b,off,rfl,hbl,hc⟩:=hT.node (by omega)
 obtain ⟨kp,kl,kc,hn⟩:=hc o (by omega)
 rw [hnd] at hn
 have k0:w.cell? ⟨b,off+o*5,none⟩=some (.int .u8 9):=hn.kind
 have k1:w.cell? ⟨b,off+o*5+1,none⟩=some (.int .i64 a'):=hn.at'
 have k2:w.cell? ⟨b,off+o*5+2,none⟩=some (.string s):=hn.text
 have k3:w.cell? ⟨b,off+o*5+3,none⟩=some (.int .i64 n):=hn.n
 have k4:w.cell? ⟨b,off+o*5+4,none⟩=some (.slice kp kl kc):=hn.kids
 have hiv:IV w kp kl kc (heads (o+1) (x0::xs)):=hn.iv
 have hkl:(x0::xs).length=kl:=by rw [← hiv.len_eq,heads_length]
 rw [List.length_cons] at hkl
 obtain ⟨kb,koff,rfl,hkb,hkc⟩:=hiv.cell (by omega)
 have hb1:Below w.heap.size w (w.alloc (.cells #[.int .u8 9,.int .i64 a',.string s,.int .i64 n,.slice (some ⟨kb,koff,none⟩) kl kc] 99)):=one_below w _
 have hs1:w.heap.size<(w.alloc (.cells #[.int .u8 9,.int .i64 a',.string s,.int .i64 n,.slice (some ⟨kb,koff,none⟩) kl kc] 99)).heap.size:=by simp
 obtain ⟨q0,hq0,hql0,hO0⟩:=hO.kid 0 (by simp)
 have c0:(w.alloc (.cells #[.int .u8 9,.int .i64 a',.string s,.int .i64 n,.slice (some ⟨kb,koff,none⟩) kl kc] 99)).cell? ⟨kb,koff,none⟩=some (.int .i64 (q0:Int)):=by rw [hb1.cell (p:=⟨kb,koff,none⟩) hkb];have h:=hkc 0 (by omega);rw [hq0] at h;exact h
 have hw0:=hw.kids (j:=0) (by simp)
 simp only [List.getElem_cons_zero] at hw0 hO0
 have T1:=lh (hT.on hb1)
 have P1:=lh (ht.below hb1)
 have HB1:=lh hb1
 simp only [Ast.size,sizeL] at hsz hd
 have hwr:wfRL xs:=hw.2.2
 have hOL:OnL ns ((heads (o+1) (x0::xs)).drop 1) xs:=⟨by simp [heads,heads_length],fun j hj=>by
  obtain ⟨q,h1,h2,h3⟩:=hO.kid (j+1) (by simpa using hj)
  refine ⟨q,?_,h2,by simpa using h3⟩
  rw [← h1]
  simp [List.getD,List.getElem?_drop,Nat.add_comm]⟩
 have hIT:=lh (iv_tail (hiv.on hb1) (by omega))
 have HEQ:Hid (stT d (.mk 9 a s n (x0::xs))=_):=lh (show stF d 9 s n (exT x0::xs.map exT) (blLs (d+1) (x0::xs))=_ from stF_eq9 d s n _ _ _)
 have hz0:=exT_size x0 hw0
 have hzj:=joinT_size (xs.map exT)
 have hze:=exs_size xs hwr
 have hlx:=len_sizeL xs
 rw [List.length_map] at hzj
 have hzt:=tabsT_size d
 obtain ⟨W1,hW1⟩:∃W1,(w.alloc (.cells #[.int .u8 9,.int .i64 a',.string s,.int .i64 n,.slice (some ⟨kb,koff,none⟩) kl kc] 99))=W1:=⟨_,rfl⟩
 rw [hW1] at hb1 hs1 c0 T1 P1 HB1 hIT
 have HW1:=lh hW1
 clear hW1
 have HT0:Hid (∀w',w'.cell? ⟨kb,koff,none⟩=some (.int .i64 (q0:Int))→Below W1.heap.size W1 w'→Calls Tryz.prog 104 #[.slice (some ⟨b,off,none⟩) len c,.int .i64 (q0:Int)] w' fun e w''=>e=.returned (.string (exT x0))∧w''.cell? ⟨kb,koff,none⟩=some (.int .i64 (q0:Int))∧Below W1.heap.size W1 w''):=lh (fun w' h0 hb=>(refText_at ns x0 (Or.inr (by rw [hx0];decide)) q0 w' (some ⟨b,off,none⟩) len c (T1.out.on hb) hO0 hw0 (P1.out.below hb) hlen).mono fun e w'' ⟨he,hb2⟩=>⟨he,by rw [hb2.cell (p:=⟨kb,koff,none⟩) (Nat.lt_of_lt_of_le (Nat.lt_of_lt_of_le hkb HB1.out.size) hb.size)];exact h0,hb.trans (hb2.mono hb.size)⟩)
 have HL:Hid (∀w',w'.cell? ⟨kb,koff,none⟩=some (.int .i64 (q0:Int))→Below W1.heap.size W1 w'→Calls Tryz.prog 57 #[.slice (some ⟨b,off,none⟩) len c,.slice (some ⟨kb,koff+1,none⟩) (kl-1) (kc-1)] w' fun e w''=>e=.returned (.string (joinT (xs.map exT)))∧w''.cell? ⟨kb,koff,none⟩=some (.int .i64 (q0:Int))∧Below W1.heap.size W1 w''):=lh (fun w' h0 hb=>(refList_at ns xs (fun x hx=>⟨Or.inr (by have:=(isExprK_iff _).1 (hxs x hx);omega),wfRL_mem hwr x hx⟩) (by omega) _ w' (some ⟨b,off,none⟩) _ len c _ _ (T1.out.on hb) (hIT.out.on hb) hOL (P1.out.below hb) hlen).mono fun e w'' ⟨he,hb2⟩=>⟨he,by rw [hb2.cell (p:=⟨kb,koff,none⟩) (Nat.lt_of_lt_of_le (Nat.lt_of_lt_of_le hkb HB1.out.size) hb.size)];exact h0,hb.trans (hb2.mono hb.size)⟩)
 have HAH:=lh (fun w'=>refAhead_at w' d (by omega))
 have hss:=hw.parts.2.2.1
 have hcap:=hiv.cap
 generalize exT x0=T0 at *
 generalize joinT (xs.map exT)=TL at *
 generalize tabsT d=TD at *
 have z0:¬ 9223372036854775807<4+T0.size:=by omega
 have z1:¬ 9223372036854775807<4+T0.size+1:=by omega
 have z2:¬ 9223372036854775807<4+T0.size+1+TL.size:=by omega
 have z3:¬ 9223372036854775807<4+T0.size+1+TL.size+2:=by omega
 have zf:¬ 9223372036854775807<TD.size+(4+T0.size+1+TL.size+2):=by omega
 have zg:¬ 9223372036854775807<TD.size+(4+T0.size+1+TL.size+2)+1:=by omega
 have g0:(0:Int)<(kl:Int):=by omega
 have g1:(1:Int)≤(kl:Int):=by omega
 have g2:(kl:Int)≤(kc:Int):=by omega
 have g3:¬ kc=1:=by omega
 have g4:0<kl:=by omega
 have hbd:Below W1.heap.size W1 W1.drew:=(Below.refl _ _).drew
 clear hT hO hw ht hiv hn hc hle hnd hkc hq0 hb1 hsz hd hss hw0 hO0 hx0 hql0 hz0 hzj hze hlx hzt hcap hwr hOL hIT hxs
 go_enter Tryz.func105,Tryz.ntmps105
 go_wp2_with fail
 rw [HW1.out]
 clear HW1
 go_region_held3 (fun w'=>w'.cell? ⟨kb,koff,none⟩=some (.int .i64 (q0:Int))∧Below W1.heap.size W1 w') (go_keep) (first|(go_at_call 104;(with_reducible refine (HT0.out _ ?_ ?_).mono ?_);(first|assumption|exact c0);(first|assumption|exact hbd);rintro e w' ⟨rfl,r0,rb⟩)|(go_at_call 57;(with_reducible refine (HL.out _ ?_ ?_).mono ?_);(first|assumption|exact c0);(first|assumption|exact hbd);rintro e w' ⟨rfl,r0,rb⟩))
 have RB:=lh rb
 clear rb
 go_wp2_with fail
 (with_reducible refine (HAH.out _).mono ?_)
 rintro e w4 ⟨rfl,rfl⟩
 go_wp2
 go_ret
 exact ⟨by rw [HEQ.out];first|done|rfl,HB1.out.trans (RB.out.mono HB1.out.size)⟩
theorem refStmt18 (ns:List Nd)(a:Nat)(s:ByteArray)(n:Int)(ks:List Ast):HasS ns (.mk 18 a s n ks):=by
 intro d o w p len c hT hO hw ht hlen hd
 obtain ⟨a',hnd⟩:=hO.node
 have hol:=hO.lt
 have hle:=hT.len_eq
 have b0:(0:Int)≤(o:Int):=by omega
 have b1:(o:Int)<(len:Int):=by omega
 obtain ⟨b,off,rfl,hbl,hc⟩:=hT.node (by omega)
 obtain ⟨kp,kl,kc,hn⟩:=hc o (by omega)
 rw [hnd] at hn
 have k0:w.cell? ⟨b,off+o*5,none⟩=some (.int .u8 18):=hn.kind
 have k1:w.cell? ⟨b,off+o*5+1,none⟩=some (.int .i64 a'):=hn.at'
 have k2:w.cell? ⟨b,off+o*5+2,none⟩=some (.string s):=hn.text
 have k3:w.cell? ⟨b,off+o*5+3,none⟩=some (.int .i64 n):=hn.n
 have k4:w.cell? ⟨b,off+o*5+4,none⟩=some (.slice kp kl kc):=hn.kids
 have HB:=lh (one_below w (.cells #[.int .u8 18,.int .i64 a',.string s,.int .i64 n,.slice kp kl kc] 99))
 have HEQ:Hid (stT d (.mk 18 a s n ks)=_):=lh (show stF d 18 s n (ks.map exT) (blLs (d+1) ks)=_ from stF_eq18 d s n _ _)
 have hzt:=tabsT_size d
 simp only [Ast.size] at hd
 have HAH:=lh (fun w'=>refAhead_at w' d (by omega))
 generalize tabsT d=TD at *
 have zf:¬ 9223372036854775807<TD.size+9:=by omega
 have zg:¬ 9223372036854775807<TD.size+9+1:=by omega
 clear hT hO hw ht hn hc hle hnd hd hzt
 go_enter Tryz.func105,Tryz.ntmps105
 go_wp2_with fail
 (with_reducible refine (HAH.out _).mono ?_)
 rintro e w4 ⟨rfl,rfl⟩
 go_wp2
 go_ret
 exact ⟨by rw [HEQ.out];first|done|rfl,HB.out⟩
theorem refStmt19 (ns:List Nd)(a:Nat)(s:ByteArray)(n:Int)(ks:List Ast):HasS ns (.mk 19 a s n ks):=by
 intro d o w p len c hT hO hw ht hlen hd
 obtain ⟨a',hnd⟩:=hO.node
 have hol:=hO.lt
 have hle:=hT.len_eq
 have b0:(0:Int)≤(o:Int):=by omega
 have b1:(o:Int)<(len:Int):=by omega
 obtain ⟨b,off,rfl,hbl,hc⟩:=hT.node (by omega)
 obtain ⟨kp,kl,kc,hn⟩:=hc o (by omega)
 rw [hnd] at hn
 have k0:w.cell? ⟨b,off+o*5,none⟩=some (.int .u8 19):=hn.kind
 have k1:w.cell? ⟨b,off+o*5+1,none⟩=some (.int .i64 a'):=hn.at'
 have k2:w.cell? ⟨b,off+o*5+2,none⟩=some (.string s):=hn.text
 have k3:w.cell? ⟨b,off+o*5+3,none⟩=some (.int .i64 n):=hn.n
 have k4:w.cell? ⟨b,off+o*5+4,none⟩=some (.slice kp kl kc):=hn.kids
 have HB:=lh (one_below w (.cells #[.int .u8 19,.int .i64 a',.string s,.int .i64 n,.slice kp kl kc] 99))
 have HEQ:Hid (stT d (.mk 19 a s n ks)=_):=lh (show stF d 19 s n (ks.map exT) (blLs (d+1) ks)=_ from stF_eq19 d s n _ _)
 have hzt:=tabsT_size d
 simp only [Ast.size] at hd
 have HAH:=lh (fun w'=>refAhead_at w' d (by omega))
 generalize tabsT d=TD at *
 have zf:¬ 9223372036854775807<TD.size+5:=by omega
 have zg:¬ 9223372036854775807<TD.size+5+1:=by omega
 clear hT hO hw ht hn hc hle hnd hd hzt
 go_enter Tryz.func105,Tryz.ntmps105
 go_wp2_with fail
 (with_reducible refine (HAH.out _).mono ?_)
 rintro e w4 ⟨rfl,rfl⟩
 go_wp2
 go_ret
 exact ⟨by rw [HEQ.out];first|done|rfl,HB.out⟩
mutual
theorem refStmt_at (ns:List Nd):∀(m:Nat) (x:Ast),x.size≤m→wfR x→isStmtK x.kind=true→HasS ns x
 | 0,x,h,_,_=>absurd h (by have:=ast_pos x;omega)
 | m+1,.mk k a s n ks,h,hw,hk=>by
  have h1:sizeL ks≤m:=by simp only [Ast.size] at h;omega
  have ih:∀y∈ks,y.kind=6→HasBl ns y:=fun y hy hy6=>refBlock_at ns m y (Nat.le_trans (sizeL_mem hy) h1) (wfRL_mem hw.2 y hy) hy6
  have hp:=hw.parts.2.2.2
  have hk1:7≤k∧k≤19:=by
   have h9:isStmtK k=true:=hk
   simpa [isStmtK] using h9
  have hkk:k=7∨k=8∨k=9∨k=10∨k=11∨k=12∨k=13∨k=14∨k=15∨k=16∨k=17∨k=18∨k=19:=by omega
  clear hk hk1
  rcases hkk with rfl|rfl|rfl|rfl|rfl|rfl|rfl|rfl|rfl|rfl|rfl|rfl|rfl
  · exact refStmt7 ns a s n ks hp ih
  · exact refStmt8 ns a s n ks hp ih
  · obtain ⟨x0,xs,rfl,h2,h3,h4⟩:=sh9 hp
    exact refStmt9 ns a s n x0 xs h2 h3 h4
  · exact refStmt10 ns a s n ks hp ih
  · exact refStmt11 ns a s n ks hp ih
  · exact refStmt12 ns a s n ks hp ih
  · rcases sh13 hp with hp|hp
    · exact refStmt13a ns a s n ks hp ih
    · exact refStmt13b ns a s n ks hp ih
  · rcases sh14 hp with hp|hp
    · exact refStmt14a ns a s n ks hp ih
    · exact refStmt14b ns a s n ks hp ih
  · exact refStmt15 ns a s n ks hp ih
  · exact refStmt16 ns a s n ks hp ih
  · exact refStmt17 ns a s n ks hp ih
  · exact refStmt18 ns a s n ks
  · exact refStmt19 ns a s n ks
theorem refBlock_at (ns:List Nd):∀(m:Nat) (x:Ast),x.size≤m→wfR x→x.kind=6→HasBl ns x
 | 0,x,h,_,_=>absurd h (by have:=ast_pos x;omega)
 | m+1,.mk k a s n ks,h,hw,hk=>by
  have h1:sizeL ks≤m:=by simp only [Ast.size] at h;omega
  refine refBlock_of ns k a s n ks fun y hy=>refStmt_at ns m y (Nat.le_trans (sizeL_mem hy) h1) (wfRL_mem hw.2 y hy) ?_
  have hk6:k=6:=hk
  subst hk6
  have h2:(ks.map Ast.kind).all isStmtK=true:=hw.parts.2.2.2
  exact List.all_eq_true.1 h2 _ (List.mem_map_of_mem hy)
end
end
namespace Tr
open Go.RowKit
theorem infoI:(Tryz.prog.info? 3).map (fun i=>(i.zero,i.size,i.bytes))=some (some (.int .i64 0),1,8):=by kernel_rfl
theorem make_int (W:World)(n:Nat)(hn:n≤70000):∃W',(Instr.makeSlice 32 (.int .i64 (n:Int)) (.int .i64 (n:Int))).run Tryz.prog W=.ok (.slice (some ⟨W.heap.size,0,none⟩) n n) W'∧Below W.heap.size W W'∧W'.ownsRow W.heap.size 3 1 (.slice (some ⟨W.heap.size,0,none⟩) n n) n (List.replicate n (.int .i64 0)):=by
 obtain ⟨i0,hi,hz0,hz1,hz2⟩:=info_parts infoI
 obtain ⟨W',h1,h2,h3⟩:=run_makeSlice_full (P:=Tryz.prog) W W.heap.size 32 3 i0 (.int .i64 0) 1 Tryz.underlying32 hi hz0 hz1 .i64 .i64 n (by omega) (by rw [hz2];omega) (by unfold maxLen;omega) (Nat.le_refl _)
 refine ⟨W',h1,⟨h3.os,h3.tape,h3.output,h3.size,fun k hk=>h3.block k hk (by simp)⟩,?_⟩
 have e:(madeCells (Value.int .i64 0).cells (n*1)).toList=List.replicate n (.int .i64 0):=by
  rw [Nat.mul_one]
  exact toList_madeCells_one _ _
 rw [e] at h2
 exact h2
theorem stepS_le (s:List Nat)(b n:Nat)(_hn:b+s.length≤n)(hs:∀x,x<s.length→b+x+s.getD x 0≤n)(ks:List Int)(a e:Nat)(hba:b≤a)(ha:a≤n)(h:stepS s b ks a=some e):a≤e∧e≤n:=by
 induction ks generalizing a with
 | nil=>simp [stepS] at h;omega
 | cons k ks ih =>
  simp only [stepS] at h
  split at h
  · rename_i hk
    have h1:=hs (a-b) (by omega)
    have:=ih (a+s.getD (a-b) 0) (by omega) (by omega) h
    omega
  · simp at h
theorem sizesL_le:∀(rows:List (List Int)) (b:Nat) (s:List Nat),sizesL rows b=some s→∀x,x<s.length→b+x+s.getD x 0≤b+rows.length:=by
 intro rows
 induction rows with
 | nil=>intro b s h x hx;simp [sizesL] at h;subst h;simp at hx
 | cons r rs ih =>
  intro b s h x hx
  simp only [sizesL] at h
  split at h
  · simp at h
  · rename_i s1 h1
    have hl:=sizesL_len _ _ _ h1
    have h2:=ih _ _ h1
    split at h
    · simp at h
    · rename_i e h3
      simp at h;subst h
      cases x with
      | zero =>
       have:=stepS_le s1 (b+1) (b+1+rs.length) (by omega) h2 r (b+1) e (Nat.le_refl _) (by omega) h3
       simp;omega
      | succ x =>
       have:=h2 x (by simpa using hx)
       simp only [List.getD_cons_succ,List.length_cons]
       omega
theorem sizesL_none:∀(rows:List (List Int)) (b m:Nat),sizesL (rows.drop m) (b+m)=none→m≤rows.length→sizesL rows b=none:=by
 intro rows b m
 induction m generalizing rows b with
 | zero=>intro h _;simpa using h
 | succ m ih =>
  intro h hm
  cases rows with
  | nil=>simp at hm
  | cons r rs =>
   simp only [List.drop_succ_cons] at h
   have:=ih rs (b+1) (by rw [show b+1+m=b+(m+1) by omega];exact h) (by simpa using hm)
   simp only [sizesL,this]
def SizesOut (ns:List Nd)(W:World)(v:Value):Prop:=match sizesP ns with
 | none=>v=.slice none 0 0
 | some s=>∃g,v=.slice (some ⟨g,0,none⟩) ns.length ns.length∧∀i,i<ns.length→W.cell? ⟨g,i,none⟩=some (.int .i64 ((s.getD i 0:Nat):Int))
theorem SizesOut.none {ns:List Nd}{W:World}(h:sizesP ns=none):SizesOut ns W (.slice none 0 0):=by unfold SizesOut;rw [h]
theorem drop_row (ns:List Nd)(q:Nat)(h:q<ns.length):(rowsOf ns).drop q=(ns.getD q default).kids::(rowsOf ns).drop (q+1):=by
 have hl:q<(rowsOf ns).length:=by rw [rowsOf_length];exact h
 rw [List.drop_eq_getElem_cons hl]
 simp [rowsOf,List.getD,h]
theorem sizes_at (w:World)(p:Option Addr)(len c:Nat)(ns:List Nd)(h:TV w p len c ns)(hl:len≤70000)(hk:∀nd∈ns,nd.kids.length≤70000) :
 Calls Tryz.prog 68 #[.agg #[.slice p len c]] w fun e w'=>(∃v,e=.returned v∧SizesOut ns w' v)∧Below w.heap.size w w':=by
 have H:=lh h
 have HK:=lh hk
 have hlen:=lh h.len_eq
 clear h hk
 have B0:=lh (one_below w (.cells #[.slice p len c] 39))
 obtain ⟨w1,hmk,hb1,hown⟩:=make_int (w.alloc (.cells #[.slice p len c] 39)) len (by omega)
 have hG:(w.alloc (.cells #[.slice p len c] 39)).heap.size=w.heap.size+1:=by simp
 rw [hG] at hmk hb1 hown
 have B1:=lh hb1
 have c0:w1.cell? ⟨w.heap.size,0,none⟩=some (.slice p len c):=by rw [hb1.cell (by simp)];simp
 have HO0:=lh hown
 clear hb1 hown hG
 have hw1:IntKind.i64.wrap ((len:Int)-1)=(len:Int)-1:=IntWalk.i64_in _ (by omega)
 go_enter Tryz.func68,Tryz.ntmps68
 go_wp2_with fail
 clear hmk
 go_loopw [4] (fun iv wr=>∃(m:Nat) (s:List Nat) (L:List Value),m≤len∧iv=.int .i64 ((m:Int)-1)∧Hid (sizesL ((rowsOf ns).drop m) m=some s)∧Hid (wr.ownsRow (w.heap.size+1) 3 1 (.slice (some ⟨w.heap.size+1,0,none⟩) len len) len L)∧Hid (∀j,m≤j→j<len→L[j]?=some (.int .i64 ((s.getD (j-m) 0:Nat):Int)))∧Hid (Below (w.heap.size+1) (w.alloc (.cells #[.slice p len c] 39)) wr)) (fun iv _=>(intOf iv+1).toNat)
 case atStart=>exact ⟨len,[],_,by omega,rfl,lh (by rw [List.drop_eq_nil_of_le (by rw [rowsOf_length,hlen.out];omega)];rfl),HO0,lh (fun j h1 h2=>by omega),B1⟩
 case round =>
  obtain ⟨m,s,L,hml,rfl,HS,HO,HL,HB⟩:=hrel
  have c0:wr.cell? ⟨w.heap.size,0,none⟩=some (.slice p len c):=by rw [HB.out.cell (by simp)];simp
  have HBW:=lh (B0.out.trans (HB.out.mono (by omega)))
  by_cases hm:m=0
  · subst hm
    clear hw1
    have HS0:Hid (sizesL (rowsOf ns) 0=some s):=lh (by simpa using HS.out)
    have HSL:Hid (s.length=len):=lh (by have:=sizesL_len _ _ _ HS0.out;rw [rowsOf_length,hlen.out] at this;exact this)
    by_cases hl0:len=0
    · have HNO:Hid (sizesP ns=none):=lh (by
       unfold sizesP
       rw [HS0.out]
       simp only
       rw [if_neg (fun hc=>hc.1 (by rw [HSL.out,hl0]))])
      have d0:((len:Int)==0)=true:=by simp [hl0]
      clear hl0
      go_wp2
      go_ret
      exact ⟨⟨_,rfl,SizesOut.none HNO.out⟩,HBW.out⟩
    · have d0:((len:Int)==0)=false:=by simp;omega
      have p0:0<len:=by omega
      have p1:(0:Int)<(len:Int):=by omega
      have hc0:=HO.out.cellAt 0 (by omega)
      rw [HL.out 0 (by omega) (by omega)] at hc0
      simp only [Nat.sub_zero] at hc0
      obtain ⟨z0,hz0⟩:∃z,s.getD 0 0=z:=⟨_,rfl⟩
      rw [hz0] at hc0
      have HZ0:=lh hz0
      clear hz0
      by_cases hz:z0=len
      · have HYES:Hid (sizesP ns=some s):=lh (by
         unfold sizesP
         rw [HS0.out]
         simp only
         rw [if_pos ⟨by rw [HSL.out];exact hl0,by rw [HZ0.out,hz,HSL.out]⟩])
        have d1:((z0:Int) != (len:Int))=false:=by simp [hz]
        clear hl0 hz
        go_wp2
        go_ret
        refine ⟨⟨.slice (some ⟨w.heap.size+1,0,none⟩) len len,rfl,?_⟩,HBW.out⟩
        unfold SizesOut
        rw [HYES.out]
        refine ⟨w.heap.size+1,by rw [hlen.out],fun i hi=>?_⟩
        rw [hlen.out] at hi
        rw [HO.out.cellAt i (by omega),HL.out i (by omega) hi,Nat.sub_zero]
      · have HNO:Hid (sizesP ns=none):=lh (by
         unfold sizesP
         rw [HS0.out]
         simp only
         rw [if_neg (fun hc=>hz (by rw [← HZ0.out,hc.2,HSL.out]))])
        have d1:((z0:Int) != (len:Int))=true:=by simp;omega
        clear hl0 hz
        go_wp2
        go_ret
        exact ⟨⟨_,rfl,SizesOut.none HNO.out⟩,HBW.out⟩
  · obtain ⟨q,rfl⟩:∃q,m=q+1:=⟨m-1,by omega⟩
    have hq:((q+1:Nat):Int)-1=(q:Int):=by omega
    rw [hq]
    have hql:q<len:=by omega
    obtain ⟨b,off,rfl,hbl,hc⟩:=H.out.node (by omega)
    obtain ⟨kp,kl,kc,hnw⟩:=hc q hql
    have k4:=(hnw.on hbl HBW.out).kids
    have HIV:=lh (hnw.iv.on HBW.out)
    have hkl:=hnw.iv.len_eq
    have hix:q<ns.length:=by have:=hlen.out;omega
    have HD:=lh (drop_row ns q hix)
    have hkb:=HK.out (ns.getD q default) (by simp [List.getD,hix])
    generalize (ns.getD q default).kids=ks at *
    have hkl2:kl≤70000:=by omega
    have HKL:=lh hkl
    clear hnw hc hkl hkb hix hq hw1
    go_wp2_with fail
    obtain ⟨wo,rfl⟩:∃wo:World,wo=wr:=⟨_,rfl⟩
    have HSL:=lh (sizesL_len _ _ _ HS.out)
    have HLE:=lh (sizesL_le _ _ _ HS.out)
    have hsl:s.length=len-(q+1):=by have:=HSL.out;rw [List.length_drop,rowsOf_length,hlen.out] at this;exact this
    have hrl:((rowsOf ns).drop (q+1)).length=len-(q+1):=by rw [List.length_drop,rowsOf_length,hlen.out]
    have HSL2:=lh hsl
    have HRL:=lh hrl
    clear hsl hrl
    have hsize:=HB.out.size
    go_loopw [5,29] (fun av jv wq=>∃j a:Nat,j≤kl∧q<a∧a≤len∧av=.int .i64 a∧jv=.int .i64 j∧Hid (stepS s (q+1) (ks.drop j) a=stepS s (q+1) ks (q+1))∧wq=wo) (fun _ jv _=>kl-(intOf jv).toNat)
    case atStart=>exact ⟨0,q+1,by omega,by omega,by omega,by go_num,rfl,lh rfl,rfl⟩
    case round =>
     obtain ⟨j,a,hj,haq,hal,rfl,rfl,HST,rfl⟩:=hrel
     by_cases hjl:j<kl
     · obtain ⟨kb,koff,rfl,hkbl,hkc⟩:=HIV.out.cell (by omega)
       have hkj:=hkc j hjl
       have HDR:Hid (ks.drop j=ks.getD j 0::ks.drop (j+1)):=lh (by
        have hjx:j<ks.length:=by have:=HKL.out;omega
        rw [List.drop_eq_getElem_cons hjx]
        simp [List.getD,hjx])
       generalize ks.getD j 0=kid at *
       clear hkc hkbl
       have BAD:∀(hne:¬ (kid=(a:Int)∧a<len)),Hid (sizesP ns=none):=fun hne=>lh (by
        have h1:stepS s (q+1) (ks.drop j) a=none:=by
         rw [HDR.out]
         simp only [stepS]
         rw [if_neg (fun hc=>hne ⟨hc.1,by have:=HSL2.out;omega⟩)]
        rw [HST.out] at h1
        have h2:sizesL ((rowsOf ns).drop q) q=none:=by
         rw [HD.out]
         simp only [sizesL,HS.out,h1]
        have h3:=sizesL_none (rowsOf ns) 0 q (by rw [Nat.zero_add];exact h2) (by rw [rowsOf_length,hlen.out];omega)
        unfold sizesP
        rw [h3])
       by_cases hka:kid=(a:Int)
       · subst hka
         have d1:((a:Int) != (a:Int))=false:=by simp
         by_cases hal2:a<len
         · have d2:decide ((a:Int)≥(len:Int))=false:=by simp;omega
           have hla:=HL.out a (by omega) hal2
           have hcell:=HO.out.cellAt a (by omega)
           rw [hla] at hcell
           have HBD:=lh (HLE.out (a-(q+1)) (by have:=HSL2.out;omega))
           have HNX:Hid (stepS s (q+1) (ks.drop (j+1)) (a+s.getD (a-(q+1)) 0)=stepS s (q+1) ks (q+1)):=lh (by
            rw [← HST.out,HDR.out]
            simp only [stepS]
            rw [if_pos ⟨trivial,by have:=HSL2.out;omega⟩])
           have hb2:a+s.getD (a-(q+1)) 0≤len:=by have:=HBD.out;have:=HRL.out;omega
           generalize s.getD (a-(q+1)) 0=z at *
           have hw:IntKind.i64.wrap ((a:Int)+(z:Int))=(a:Int)+(z:Int):=IntWalk.i64_in _ (by omega)
           clear hla BAD HBD
           go_wp2_with fail
           go_roundw
           case rel=>exact ⟨j+1,a+z,by omega,by omega,hb2,by go_num,by go_num,HNX,trivial⟩
           case measure=>simp [intOf];omega
         · have d2:decide ((a:Int)≥(len:Int))=true:=by simp;omega
           have HNO:=BAD (fun hc=>hal2 hc.2)
           clear BAD
           go_wp2
           go_ret
           exact ⟨⟨_,rfl,SizesOut.none HNO.out⟩,HBW.out⟩
       · have d1:(kid != (a:Int))=true:=by simpa using hka
         have HNO:=BAD (fun hc=>hka hc.1)
         clear BAD hka
         go_wp2
         go_ret
         exact ⟨⟨_,rfl,SizesOut.none HNO.out⟩,HBW.out⟩
     · have HEND:Hid (stepS s (q+1) ks (q+1)=some a):=lh (by
        have:=HST.out
        rw [List.drop_eq_nil_of_le (by have:=HKL.out;omega)] at this
        simpa [stepS] using this.symm)
       have HS2:Hid (sizesL ((rowsOf ns).drop q) q=some ((a-q)::s)):=lh (by
        rw [HD.out]
        simp only [sizesL,HS.out,HEND.out])
       have hcell:=HO.out.cellAt q (by omega)
       obtain ⟨v0,hv0⟩:∃v,L[q]?=some v:=⟨L[q]'(by have:=HO.out.1;omega),List.getElem?_eq_getElem _⟩
       rw [hv0] at hcell
       have hfz:=HO.out.frozenAt q
       have hw:IntKind.i64.wrap ((a:Int)-(q:Int))=(a:Int)-(q:Int):=IntWalk.i64_in _ (by omega)
       have hw2:IntKind.i64.wrap ((q:Int)-1)=(q:Int)-1:=IntWalk.i64_in _ (by omega)
       have HO3:=lh (HO.out.stored q (.int .i64 ((a:Int)-(q:Int)))).1
       have HB3:=lh (HB.out.setCell (p:=⟨w.heap.size+1,q,none⟩) (Nat.le_refl _) (.int .i64 ((a:Int)-(q:Int))))
       have hll:L.length=len:=by have:=HO.out.1;omega
       have HL3:Hid (∀j,q≤j→j<len→(L.set q (.int .i64 ((a:Int)-(q:Int))))[j]?=some (.int .i64 ((((a-q)::s).getD (j-q) 0:Nat):Int))):=lh (by
        intro j h1 h2
        by_cases hjq:j=q
        · subst hjq
          rw [List.getElem?_set_self (by omega)]
          simp;try omega
        · rw [List.getElem?_set_ne (by omega),HL.out j (by omega) h2]
          have e:j-q=(j-(q+1))+1:=by omega
          rw [e,List.getD_cons_succ])
       clear hll hv0
       go_wp2_with fail
       go_roundw
       case rel=>exact ⟨q,(a-q)::s,_,by omega,by go_num,HS2,HO3,HL3,HB3⟩
       case measure=>(simp [intOf];try omega)
end Tr
namespace Tr
open Go.RowKit
structure SmallT (ns:List Nd):Prop where
 len:ns.length≤70000
 each:∀nd∈ns,nd.kids.length≤70000∧nd.text.size≤70000
theorem kids_in {ns:List Nd}{s:List Nat}(hs:sizesP ns=some s):∀nd∈ns,∀k∈nd.kids,0≤k∧k<ns.length:=by
 intro nd hm k hk
 obtain ⟨i,hi⟩:=List.mem_iff_getElem?.1 hm
 obtain ⟨hil,_⟩:=List.getElem?_eq_some_iff.1 hi
 have h:=(sizesP_some hs).right
 have hk2:k∈kidsAt ns i:=by unfold kidsAt;rw [List.getD,hi];exact hk
 obtain ⟨j,e1,e2,e3,e4⟩:=h.kid hil hk2
 omega
theorem neq_nil (W:World):(binOp .neq 32 (.slice none 0 0) (.slice none 0 0)).run Tryz.prog W=.ok (.bool false) W:=by kernel_rfl
theorem neq_some (g n c:Nat)(W:World):(binOp .neq 32 (.slice (some ⟨g,0,none⟩) n c) (.slice none 0 0)).run Tryz.prog W=.ok (.bool true) W:=by kernel_rfl
theorem right_at (w:World)(p:Option Addr)(len c:Nat)(ns:List Nd)(h:TV w p len c ns)(hS:SmallT ns) :
 Calls Tryz.prog 29 #[.agg #[.slice p len c]] w fun e w'=>e=.returned (.bool (rightP ns))∧Below w.heap.size w w':=by
 have hlen:=lh h.len_eq
 have H:=lh h
 have HS:=lh hS
 have B0:=lh (one_below w (.cells #[.slice p len c] 39))
 have HZ:=lh (sizes_at (w.alloc (.cells #[.slice p len c] 39)) p len c ns (h.on B0.out) (by rw [← h.len_eq];exact hS.len) (fun nd hm=>(hS.each nd hm).1))
 clear h hS
 go_enter Tryz.func29,Tryz.ntmps29
 go_wp2_with fail
 (with_reducible refine HZ.out.mono ?_)
 rintro e w1 ⟨⟨v,rfl,hv⟩,hb1⟩
 have B1:=lh (B0.out.trans (hb1.mono (by simp)))
 have c0:w1.cell? ⟨w.heap.size,0,none⟩=some (.slice p len c):=by rw [hb1.cell (by simp)];simp
 clear hb1 HZ
 unfold SizesOut at hv
 cases hs:sizesP ns with
 | none =>
  rw [hs] at hv
  simp only at hv
  subst hv
  have HP:Hid (rightP ns=false):=lh (by unfold rightP;rw [hs])
  have hne:=neq_nil
  clear hs
  go_wp2
  go_ret
  exact ⟨retB HP.out.symm,B1.out⟩
 | some s =>
  rw [hs] at hv
  simp only at hv
  obtain ⟨g,rfl,_⟩:=hv
  have hne:=neq_some g ns.length ns.length
  have hpos:0<len:=by have:=(sizesP_some hs).pos;have:=hlen.out;omega
  have hposI:(0:Int)<(len:Int):=by omega
  have HP:Hid (rightP ns=(kindAt ns 0==1&&ruledP ns)):=lh (by unfold rightP;rw [hs])
  have HRU:=lh (ruled_at w1 p len c ns (H.out.on B1.out) (by rw [← hlen.out];exact HS.out.len) (fun nd hm=>⟨(HS.out.each nd hm).1,(HS.out.each nd hm).2,by rw [← hlen.out];exact kids_in hs nd hm⟩))
  obtain ⟨b,off,rfl,hbl,hc⟩:=(H.out.on B1.out).node hpos
  obtain ⟨kp,kl,kc,hn⟩:=hc 0 hpos
  have k0:w1.cell? ⟨b,off,none⟩=some (.int .u8 (kindAt ns 0)):=by have:=hn.kind;simpa [kindAt] using this
  generalize kindAt ns 0=k at *
  clear hs hn hc
  by_cases h1:k=1
  · have d1:(k==1)=true:=by simpa using h1
    have D1:=lh d1
    subst h1
    go_wp2_with fail
    (with_reducible refine HRU.out.mono ?_)
    rintro e w2 ⟨rfl,hb2⟩
    have B2:=lh (B1.out.trans (hb2.mono B1.out.size))
    clear hb2 HRU
    go_wp2
    go_ret
    exact ⟨retB (by rw [HP.out];simp),B2.out⟩
  · have d1:(k==1)=false:=by simpa using h1
    go_wp2
    go_ret
    exact ⟨retB (by rw [HP.out,d1];rfl),B1.out⟩
end Tr
namespace Tr
open Go.RowKit
theorem fold_bad (K:Nat→List Int)(n f:Nat)(k a:Int)(ks:List Int)(h:a<0∨(n:Int)≤a∨k≠a):(k::ks).foldl (fun a k=>if a<0∨(n:Int)≤a∨k≠a then -1 else endK K n f a.toNat) a=-1:=by
 rw [List.foldl_cons,if_pos h,endK_fold_neg]
theorem fold_ok (K:Nat→List Int)(n f m:Nat)(ks:List Int)(h:m<n):((m:Int)::ks).foldl (fun a k=>if a<0∨(n:Int)≤a∨k≠a then -1 else endK K n f a.toNat) (m:Int)=ks.foldl (fun a k=>if a<0∨(n:Int)≤a∨k≠a then -1 else endK K n f a.toNat) (endK K n f m):=by
 rw [List.foldl_cons,if_neg (by omega),Int.toNat_natCast]
theorem refEnd_at (w:World)(p:Option Addr)(len c:Nat)(ns:List Nd)(h:TV w p len c ns)(hl:len≤70000)(hk:∀nd∈ns,nd.kids.length≤70000):∀f i:Nat,i≤70000→len≤i+f →
 Calls Tryz.prog 100 #[.slice p len c,.int .i64 (i:Int)] w fun e w'=>e=.returned (.int .i64 (endK (kidsAt ns) len f i))∧w'=w:=by
 have hlen:=lh h.len_eq
 have H:=lh h
 have HK:=lh hk
 clear h hk
 have over:∀i f:Nat,len≤i→Calls Tryz.prog 100 #[.slice p len c,.int .i64 (i:Int)] w fun e w'=>e=.returned (.int .i64 (endK (kidsAt ns) len f i))∧w'=w:=by
  intro i f hi
  have e:endK (kidsAt ns) len f i=-1:=by
   cases f with
   | zero=>rfl
   | succ f=>simp only [endK];rw [if_pos hi]
  rw [e]
  have d:decide ((i:Int)≥(len:Int))=true:=by simp;omega
  clear e H HK
  go_enter Tryz.func100,Tryz.ntmps100
  go_wp2
  go_ret
  exact ⟨rfl,rfl⟩
 intro f
 induction f with
 | zero=>intro i _ hi;exact over i 0 (by omega)
 | succ f ih =>
  intro i hi1 hi
  by_cases hin:len≤i
  · exact over i (f+1) hin
  · have IH:=lh ih
    clear over ih
    have d:decide ((i:Int)≥(len:Int))=false:=by simp;omega
    have d5:decide (len≤i)=false:=by simp;omega
    obtain ⟨b,off,rfl,_,hc⟩:=H.out.node (by omega)
    obtain ⟨kp,kl,kc,hn⟩:=hc i (by omega)
    have k4:=hn.kids
    have HIV:Hid (IV w kp kl kc (kidsAt ns i)):=lh hn.iv
    have hkl:kl≤70000:=by
     have hix:i<ns.length:=by have:=hlen.out;omega
     have h1:=HK.out (ns.getD i default) (by simp [List.getD,hix])
     have:=hn.iv.len_eq
     omega
    have hil:i<len:=by omega
    have hilI:(i:Int)<(len:Int):=by omega
    have HE:Hid (endK (kidsAt ns) len (f+1) i=(kidsAt ns i).foldl (fun a k=>if a<0∨(len:Int)≤a∨k≠a then -1 else endK (kidsAt ns) len f a.toNat) ((i:Int)+1)):=lh (by simp only [endK];rw [if_neg hin])
    have hw:IntKind.i64.wrap ((i:Int)+1)=(i:Int)+1:=IntWalk.i64_in _ (by omega)
    obtain ⟨R,hR⟩:∃R,endK (kidsAt ns) len (f+1) i=R:=⟨_,rfl⟩
    rw [hR] at HE ⊢
    clear hR hn hc hin
    go_enter Tryz.func100,Tryz.ntmps100
    go_wp2_with fail
    clear d d5
    go_loopw [5,6] (fun av jv wq=>∃(j:Nat) (a:Int),wq=w∧j≤kl∧(a=-1∨(i:Int)<a)∧av=.int .i64 a∧jv=.int .i64 j∧Hid (R=((kidsAt ns i).drop j).foldl (fun a k=>if a<0∨(len:Int)≤a∨k≠a then -1 else endK (kidsAt ns) len f a.toNat) a)) (fun _ jv _=>kl-(intOf jv).toNat)
    case atStart=>exact ⟨0,(i:Int)+1,rfl,by omega,by omega,rfl,rfl,HE⟩
    case round =>
     obtain ⟨j,a,hwq,hj,ha,rfl,rfl,HF⟩:=hrel
     have hwq2:=hwq.symm
     subst hwq2
     clear hwq
     by_cases hjl:j<kl
     · obtain ⟨kb,koff,rfl,_,hkc⟩:=HIV.out.cell (by omega)
       have hkj:=hkc j hjl
       have HDR:Hid ((kidsAt ns i).drop j=(kidsAt ns i).getD j 0::(kidsAt ns i).drop (j+1)):=lh (by
        have hjx:j<(kidsAt ns i).length:=by have:=HIV.out.len_eq;omega
        rw [List.drop_eq_getElem_cons hjx]
        simp [List.getD,hjx])
       generalize (kidsAt ns i).getD j 0=kid at *
       have BAD:∀(hne:a<0∨(len:Int)≤a∨kid≠a),Hid (R=-1):=fun hne=>lh (by rw [HF.out,HDR.out,fold_bad _ _ _ _ _ _ hne])
       clear hkc
       by_cases h0:a<0
       · have d0:decide (a<0)=true:=by simpa using h0
         have HB:=BAD (Or.inl h0)
         clear BAD h0 ha
         go_wp2
         go_ret
         exact ⟨retI HB.out.symm,rfl⟩
       · have d0:decide (a<0)=false:=by simpa using h0
         by_cases h1:(len:Int)≤a
         · have d1:decide (a≥(len:Int))=true:=by simpa using h1
           have HB:=BAD (Or.inr (Or.inl h1))
           clear BAD h0 ha h1
           go_wp2
           go_ret
           exact ⟨retI HB.out.symm,rfl⟩
         · have d1:decide (a≥(len:Int))=false:=by simpa using h1
           by_cases h2:kid=a
           · subst h2
             obtain ⟨m,rfl⟩:∃m:Nat,kid=(m:Int):=⟨kid.toNat,(Int.toNat_of_nonneg (by omega)).symm⟩
             have hml:m<len:=by omega
             have him:i<m:=by omega
             have HN:Hid (R=((kidsAt ns i).drop (j+1)).foldl (fun a k=>if a<0∨(len:Int)≤a∨k≠a then -1 else endK (kidsAt ns) len f a.toNat) (endK (kidsAt ns) len f m)):=lh (by rw [HF.out,HDR.out,fold_ok _ _ _ _ _ hml])
             have HC:=lh (IH.out m (by omega) (by omega))
             have HRG:=lh (endK_range (kidsAt ns) len f m)
             have d2:((m:Int) != (m:Int))=false:=by simp
             generalize endK (kidsAt ns) len f m=a2 at *
             clear BAD h0 h1 ha
             go_wp2_with fail
             (with_reducible refine HC.out.mono ?_)
             rintro e w2 ⟨rfl,hw2⟩
             have hw3:=hw2.symm
             subst hw3
             clear HC hw2
             go_wp2_with fail
             go_roundw
             case rel=>exact ⟨j+1,a2,by trivial,by omega,by have:=HRG.out;omega,rfl,by go_num,HN⟩
             case measure=>simp [intOf];omega
           · have d2:(kid != a)=true:=by simpa using h2
             have HB:=BAD (Or.inr (Or.inr h2))
             clear BAD h0 ha h1 h2
             go_wp2
             go_ret
             exact ⟨retI HB.out.symm,rfl⟩
     · have HZ:Hid (R=a):=lh (by rw [HF.out,List.drop_eq_nil_of_le (by have:=HIV.out.len_eq;omega)];rfl)
       clear ha
       go_wp2
       go_ret
       exact ⟨retI HZ.out.symm,rfl⟩
end Tr
namespace Tr
open Go.RowKit
theorem rightR_parts (ns:List Nd)(h1:0<ns.length)(h2:kindAt ns 0=1)(h3:aheadR ns=true)(h4:endK (kidsAt ns) ns.length ns.length 0=ns.length):rightR ns=ns.all (nodeR ns):=by
 unfold rightR
 rw [decide_eq_true h1,h2,h3,decide_eq_true h4]
 simp
theorem rightR_ahead {ns:List Nd}{i:Nat}(hi:i<ns.length){k:Int}(hk:k∈kidsAt ns i)(h:¬ ((i:Int)<k∧k<ns.length)):rightR ns=false:=by
 have:aheadR ns=false:=by
  unfold aheadR
  rw [List.all_eq_false]
  refine ⟨i,List.mem_range.2 hi,?_⟩
  rw [Bool.not_eq_true,List.all_eq_false]
  refine ⟨k,hk,?_⟩
  simp only [Bool.and_eq_true,decide_eq_true_eq]
  exact h
 unfold rightR
 rw [this];simp
theorem ahead_of {ns:List Nd}(h:∀i,i<ns.length→∀k∈kidsAt ns i,(i:Int)<k∧k<ns.length):aheadR ns=true:=by
 unfold aheadR
 rw [List.all_eq_true]
 intro i hi
 rw [List.all_eq_true]
 intro k hk
 simp only [Bool.and_eq_true,decide_eq_true_eq]
 exact h i (List.mem_range.1 hi) k hk
theorem refRight_at (w:World)(p:Option Addr)(len c:Nat)(ns:List Nd)(h:TV w p len c ns)(hS:SmallT ns) :
 Calls Tryz.prog 56 #[.slice p len c] w fun e w'=>e=.returned (.bool (rightR ns))∧Below w.heap.size w w':=by
 have hlen:=lh h.len_eq
 have H:=lh h
 have HS:=lh hS
 have hl1:len≤70000:=by rw [← h.len_eq];exact hS.len
 clear h hS
 by_cases hz:len=0
 · have d0:((len:Int)==0)=true:=by simp [hz]
   have HF:Hid (rightR ns=false):=lh (by unfold rightR;rw [decide_eq_false (by rw [hlen.out];omega)];rfl)
   clear hz
   go_enter Tryz.func56,Tryz.ntmps56
   go_wp2
   go_ret
   exact ⟨retB HF.out.symm,Below.refl _ _⟩
 · have d0:((len:Int)==0)=false:=by simp;omega
   have hpos:0<len:=by omega
   have hposI:(0:Int)<(len:Int):=by omega
   obtain ⟨b,off,rfl,hbl,hc⟩:=H.out.node hpos
   obtain ⟨_,_,_,hn0⟩:=hc 0 hpos
   have r0:w.cell? ⟨b,off,none⟩=some (.int .u8 (kindAt ns 0)):=by have:=hn0.kind;simpa [kindAt] using this
   have HC:=lh hc
   clear hn0 hc hz
   by_cases h1:kindAt ns 0=1
   · have HK1:=lh h1
     rw [h1] at r0
     clear h1
     go_enter Tryz.func56,Tryz.ntmps56
     go_wp2_with fail
     clear r0 d0
     go_loop [3] (fun iv=>∃i:Nat,i≤len∧iv=.int .i64 i∧Hid (∀x,x<i→∀k∈kidsAt ns x,(x:Int)<k∧k<ns.length)) (fun iv=>len-(intOf iv).toNat)
     case atStart=>exact ⟨0,by omega,rfl,lh (fun x hx=>absurd hx (by omega))⟩
     case round =>
      obtain ⟨i,hi,rfl,HA⟩:=hrel
      by_cases hil:i<len
      · obtain ⟨kp,kl,kc,hn⟩:=HC.out i hil
        have k4:=hn.kids
        have HIV:Hid (IV w kp kl kc (kidsAt ns i)):=lh hn.iv
        have hix:i<ns.length:=by have:=hlen.out;omega
        have hkl:kl≤70000:=by
         have h1:=(HS.out.each (ns.getD i default) (by simp [List.getD,hix])).1
         have:=hn.iv.len_eq
         omega
        clear hn
        go_wp2_with fail
        go_loop [4] (fun jv=>∃j:Nat,j≤kl∧jv=.int .i64 j∧Hid (∀k∈(kidsAt ns i).take j,(i:Int)<k∧k<ns.length)) (fun jv=>kl-(intOf jv).toNat)
        case atStart=>exact ⟨0,by omega,rfl,lh (fun k hk=>by simp at hk)⟩
        case round =>
         obtain ⟨j,hj,rfl,HJ⟩:=hrel
         by_cases hjl:j<kl
         · obtain ⟨kb,koff,rfl,_,hkc⟩:=HIV.out.cell (by omega)
           have hkj:=hkc j hjl
           have hjx:j<(kidsAt ns i).length:=by have:=HIV.out.len_eq;omega
           have hmem:(kidsAt ns i).getD j 0∈kidsAt ns i:=by simp [List.getD,hjx]
           have HTK:Hid ((kidsAt ns i).take (j+1)=(kidsAt ns i).take j++[(kidsAt ns i).getD j 0]):=lh (by
            rw [List.take_succ_eq_append_getElem hjx]
            simp [List.getD,hjx])
           have BAD:¬ ((i:Int)<(kidsAt ns i).getD j 0∧(kidsAt ns i).getD j 0<ns.length)→Hid (rightR ns=false):=fun hb=>lh (rightR_ahead hix hmem hb)
           generalize (kidsAt ns i).getD j 0=x at *
           clear hkc hjx hmem
           by_cases hx1:x≤(i:Int)
           · have e1:decide (x≤(i:Int))=true:=by simpa using hx1
             have HB:=BAD (by omega)
             clear BAD hx1
             go_wp2
             go_ret
             exact ⟨retB HB.out.symm,Below.refl _ _⟩
           · have e1:decide (x≤(i:Int))=false:=by simpa using hx1
             by_cases hx2:x<(len:Int)
             · have e2:decide (x≥(len:Int))=false:=by simpa using hx2
               have HJ2:Hid (∀k∈(kidsAt ns i).take (j+1),(i:Int)<k∧k<ns.length):=lh (fun k hk=>by
                rw [HTK.out,List.mem_append,List.mem_singleton] at hk
                rcases hk with hk|rfl
                · exact HJ.out k hk
                · rw [hlen.out];omega)
               clear BAD hx1 hx2
               go_wp2_with fail
               go_round
               case rel=>exact ⟨j+1,by omega,by go_num,HJ2⟩
               case measure=>simp [intOf];omega
             · have e2:decide (x≥(len:Int))=true:=by simp;omega
               have HB:=BAD (by rw [hlen.out];omega)
               clear BAD hx1 hx2
               go_wp2
               go_ret
               exact ⟨retB HB.out.symm,Below.refl _ _⟩
         · have HA2:Hid (∀x,x<i+1→∀k∈kidsAt ns x,(x:Int)<k∧k<ns.length):=lh (fun x hx k hk=>by
            by_cases e:x=i
            · subst e
              exact HJ.out k (by rw [List.take_of_length_le (by have:=HIV.out.len_eq;omega)];exact hk)
            · exact HA.out x (by omega) k hk)
           go_wp2_with fail
           go_round
           case rel=>exact ⟨i+1,by omega,by go_num,HA2⟩
           case measure=>simp [intOf];omega
      · have HAH:Hid (aheadR ns=true):=lh (ahead_of (fun x hx=>HA.out x (by have:=hlen.out;omega)))
        have HKR:Hid (∀nd∈ns,∀k∈nd.kids,0≤k∧k<len):=lh (fun nd hm k hk=>by
         obtain ⟨x,hx⟩:=List.mem_iff_getElem?.1 hm
         obtain ⟨hxl,_⟩:=List.getElem?_eq_some_iff.1 hx
         have hk2:k∈kidsAt ns x:=by unfold kidsAt;rw [List.getD,hx];exact hk
         have:=HA.out x (by have:=hlen.out;omega) k hk2
         rw [hlen.out] at this
         omega)
        have HEC:=lh (refEnd_at w (some ⟨b,off,none⟩) len c ns H.out hl1 (fun nd hm=>(HS.out.each nd hm).1) len 0 (by omega) (by omega))
        have HEN:Hid (endK (kidsAt ns) ns.length ns.length 0=endK (kidsAt ns) len len 0):=lh (by rw [hlen.out])
        generalize endK (kidsAt ns) len len 0=en at *
        clear HA
        have HEC2:Hid (Calls Tryz.prog 100 #[.slice (some ⟨b,off,none⟩) len c,.int .i64 0] w fun e w'=>e=.returned (.int .i64 en)∧w'=w):=HEC
        clear HEC
        go_wp2_with fail
        (with_reducible refine HEC2.out.mono ?_)
        rintro e w1 ⟨rfl,rfl⟩
        clear HEC2
        by_cases hen:en=(len:Int)
        · have e1:(en != (len:Int))=false:=by simp [hen]
          have HALL:Hid (rightR ns=ns.all (nodeR ns)):=lh (rightR_parts ns (by rw [hlen.out];exact hpos) HK1.out HAH.out (by rw [HEN.out,hen,hlen.out]))
          clear hen
          go_wp2_with fail
          clear e1
          go_loopw [5] (fun iv wr=>∃i:Nat,i≤len∧iv=.int .i64 i∧Hid ((ns.take i).all (nodeR ns)=true)∧Hid (Below w1.heap.size w1 wr)) (fun iv _=>len-(intOf iv).toNat)
          case atStart=>exact ⟨0,by omega,rfl,lh rfl,lh (Below.refl _ _)⟩
          case round =>
           obtain ⟨i,hi,rfl,HT,HB⟩:=hrel
           by_cases hil:i<len
           · obtain ⟨kp,kl,kc,hn⟩:=HC.out i hil
             obtain ⟨nd,hnd⟩:∃nd,ns.getD i default=nd:=⟨_,rfl⟩
             rw [hnd] at hn
             have hix:i<ns.length:=by have:=hlen.out;omega
             have HMEM:Hid (nd∈ns):=lh (by rw [← hnd];simp [List.getD,hix])
             have HN:=lh hn
             have HIV:Hid (IV w1 kp kl kc nd.kids):=lh hn.iv
             have hkl:kl≤70000:=by
              have h1:=(HS.out.each nd HMEM.out).1
              have:=hn.iv.len_eq
              omega
             have CELLS:Hid (∀W',Below w1.heap.size w1 W'→NC W' b (off+i*5) nd kp kl kc):=lh (fun W' hb=>HN.out.on hbl hb)
             have HNF:Hid (nodeR ns nd=false→rightR ns=false):=lh (fun hf=>by
              rw [HALL.out,List.all_eq_false]
              exact ⟨nd,HMEM.out,by rw [hf];simp⟩)
             have HTT:Hid (nodeR ns nd=true→(ns.take (i+1)).all (nodeR ns)=true):=lh (fun ht=>by
              have e:ns.take (i+1)=ns.take i++[nd]:=by
               rw [List.take_succ_eq_append_getElem hix,← hnd]
               simp [List.getD,hix]
              rw [e,List.all_append,HT.out]
              simp [ht])
             obtain ⟨l,hl0⟩:∃l,kindsOf ns nd=l:=⟨_,rfl⟩
             have hll:l.length≤70000:=by rw [← hl0];unfold kindsOf;rw [List.length_map];exact (HS.out.each nd HMEM.out).1
             obtain ⟨wb,hwb⟩:∃x,wordsR nd=x:=⟨_,rfl⟩
             obtain ⟨kb,hkb⟩:∃x,kidsR nd.kind l=x:=⟨_,rfl⟩
             have HNR:Hid (nodeR ns nd=(decide (1≤nd.kind)&&(decide (nd.kind≤26)&&(wb&&kb)))):=lh (by unfold nodeR;rw [hl0,hwb,hkb])
             have WC:Hid (∀W',Below w1.heap.size w1 W'→Calls Tryz.prog 101 #[(.agg #[.int .u8 nd.kind,.int .i64 nd.at',.string nd.text,.int .i64 nd.n,.slice kp kl kc])] W' fun e w''=>e=.returned (.bool wb)∧w''.cell? ⟨b,off+i*5,none⟩=some (.int .u8 nd.kind)∧w''.cell? ⟨b,off+i*5+1,none⟩=some (.int .i64 nd.at')∧w''.cell? ⟨b,off+i*5+2,none⟩=some (.string nd.text)∧w''.cell? ⟨b,off+i*5+3,none⟩=some (.int .i64 nd.n)∧w''.cell? ⟨b,off+i*5+4,none⟩=some (.slice kp kl kc)∧Below w1.heap.size w1 w''):=lh (fun W' hb=>by
              rw [← hwb]
              refine (refWords_at W' nd kp kl kc (HS.out.each nd HMEM.out).2).mono fun e w'' ⟨he,h2⟩=>?_
              have hb2:=hb.trans (h2.mono hb.size)
              have hn2:=CELLS.out w'' hb2
              exact ⟨he,hn2.kind,hn2.at',hn2.text,hn2.n,hn2.kids,hb2⟩)
             have KC:Hid (∀W',Below w1.heap.size w1 W'→Calls Tryz.prog 103 #[.slice (some ⟨b,off,none⟩) len c,(.agg #[.int .u8 nd.kind,.int .i64 nd.at',.string nd.text,.int .i64 nd.n,.slice kp kl kc])] W' fun e w''=>∃pv cv,e=.returned (.slice pv l.length cv)∧BV w'' pv l.length cv l∧w''.cell? ⟨b,off+i*5,none⟩=some (.int .u8 nd.kind)∧w''.cell? ⟨b,off+i*5+1,none⟩=some (.int .i64 nd.at')∧w''.cell? ⟨b,off+i*5+2,none⟩=some (.string nd.text)∧w''.cell? ⟨b,off+i*5+3,none⟩=some (.int .i64 nd.n)∧w''.cell? ⟨b,off+i*5+4,none⟩=some (.slice kp kl kc)∧Below w1.heap.size w1 w''):=lh (fun W' hb=>by
              refine (refKinds_at W' (some ⟨b,off,none⟩) len c ns nd kp kl kc (H.out.on hb) (HIV.out.on hb) hkl (HKR.out nd HMEM.out)).mono fun e w'' ⟨⟨pv,cv,he,hbv⟩,h2⟩=>?_
              have hb2:=hb.trans (h2.mono hb.size)
              have hn2:=CELLS.out w'' hb2
              rw [hl0] at he hbv
              exact ⟨pv,cv,he,hbv,hn2.kind,hn2.at',hn2.text,hn2.n,hn2.kids,hb2⟩)
             have DC:Hid (∀W' pv cv,BV W' pv l.length cv l→Below w1.heap.size w1 W'→Calls Tryz.prog 102 #[.int .u8 nd.kind,.slice pv l.length cv] W' fun e w''=>e=.returned (.bool kb)∧w''.cell? ⟨b,off+i*5,none⟩=some (.int .u8 nd.kind)∧w''.cell? ⟨b,off+i*5+1,none⟩=some (.int .i64 nd.at')∧w''.cell? ⟨b,off+i*5+2,none⟩=some (.string nd.text)∧w''.cell? ⟨b,off+i*5+3,none⟩=some (.int .i64 nd.n)∧w''.cell? ⟨b,off+i*5+4,none⟩=some (.slice kp kl kc)∧Below w1.heap.size w1 w''):=lh (fun W' pv cv hbv hb=>by
              rw [← hkb]
              refine (refKids_at W' nd.kind pv l.length cv l hbv hll).mono fun e w'' ⟨he,h2⟩=>?_
              have hb2:=hb.trans (h2.mono hb.size)
              have hn2:=CELLS.out w'' hb2
              exact ⟨he,hn2.kind,hn2.at',hn2.text,hn2.n,hn2.kids,hb2⟩)
             have hC:=CELLS.out wr HB.out
             have k0:=hC.kind
             have k1:=hC.at'
             have k2:=hC.text
             have k3:=hC.n
             have k4:=hC.kids
             have hilI:(i:Int)<(len:Int):=by omega
             have hi0:(0:Int)≤(i:Int):=by omega
             clear hn hC hnd hl0 hwb hkb hix
             by_cases hk1:nd.kind<1
             · have e1:decide (nd.kind<1)=true:=by simpa using hk1
               have HF:Hid (rightR ns=false):=lh (HNF.out (by rw [HNR.out,decide_eq_false (by omega)];rfl))
               clear hk1
               go_wp2_with fail
               go_quiet (fail)
               go_wp2
               go_ret
               exact ⟨retB HF.out.symm,HB.out.trans (drewN_below _ _ _)⟩
             · have e1:decide (nd.kind<1)=false:=by simpa using hk1
               by_cases hk2:nd.kind > 26
               · have e2:decide (nd.kind > 26)=true:=by simpa using hk2
                 have HF:Hid (rightR ns=false):=lh (HNF.out (by rw [HNR.out,decide_eq_false (show ¬ nd.kind≤26 by omega)];simp))
                 clear hk1 hk2
                 go_wp2_with fail
                 go_quiet (fail)
                 go_wp2
                 go_ret
                 exact ⟨retB HF.out.symm,HB.out.trans (drewN_below _ _ _)⟩
               · have e2:decide (nd.kind > 26)=false:=by simpa using hk2
                 have HNR2:Hid (nodeR ns nd=(wb&&kb)):=lh (by rw [HNR.out,decide_eq_true (show 1≤nd.kind by omega),decide_eq_true (show nd.kind≤26 by omega)];simp)
                 have hbd:Below w1.heap.size w1 wr.drew:=HB.out.drew
                 have hbw:Below w1.heap.size w1 wr:=HB.out
                 clear hk1 hk2 HNR
                 cases wb with
                 | false =>
                  have HF:Hid (rightR ns=false):=lh (HNF.out (by rw [HNR2.out];rfl))
                  clear HNR2 HTT
                  go_wp2_with fail
                  refine wp_region_held_drew (S:=fun w'=>w'.cell? ⟨b,off+i*5,none⟩=some (.int .u8 nd.kind)∧w'.cell? ⟨b,off+i*5+1,none⟩=some (.int .i64 nd.at')∧w'.cell? ⟨b,off+i*5+2,none⟩=some (.string nd.text)∧w'.cell? ⟨b,off+i*5+3,none⟩=some (.int .i64 nd.n)∧w'.cell? ⟨b,off+i*5+4,none⟩=some (.slice kp kl kc)∧Below w1.heap.size w1 w') (by kernel_rfl) ⟨k0,k1,k2,k3,k4,hbd⟩ (fun hHeld=>?_)
                  refine tk (i:=0) (v:=?_) rfl hHeld ?_ ?_
                  rotate_left
                  · (intro w hSw;(try dsimp only at hSw);go_simp;try with_reducible rfl)
                  (try simp only [Act.put,List.getElem_toArray,List.getElem_cons_zero,List.setIfInBounds_toArray,List.set_cons_zero,List.set_cons_succ])
                  refine tk (i:=1) (v:=?_) rfl hHeld ?_ ?_
                  rotate_left
                  · (intro w hSw;(try dsimp only at hSw);go_simp;try with_reducible rfl)
                  (try simp only [pn])
                  refine tk (i:=2) (v:=?_) rfl hHeld ?_ ?_
                  rotate_left
                  · (intro w hSw;(try dsimp only at hSw);go_simp;try with_reducible rfl)
                  (try simp only [pn])
                  refine tk (i:=3) (v:=?_) rfl hHeld ?_ ?_
                  rotate_left
                  · (intro w hSw;(try dsimp only at hSw);go_simp;try with_reducible rfl)
                  (try simp only [pn])
                  refine tk (i:=4) (v:=?_) rfl hHeld ?_ ?_
                  rotate_left
                  · (intro w hSw;(try dsimp only at hSw);go_simp;try with_reducible rfl)
                  (try simp only [pn])
                  refine tk (i:=5) (v:=?_) rfl hHeld ?_ ?_
                  rotate_left
                  · (intro w hSw;(try dsimp only at hSw);go_simp;try with_reducible rfl)
                  (try simp only [pn])
                  refine tk (i:=6) (v:=?_) rfl hHeld ?_ ?_
                  rotate_left
                  · (intro w hSw;(try dsimp only at hSw);go_simp;try with_reducible rfl)
                  (try simp only [pn])
                  refine tk (i:=7) (v:=?_) rfl hHeld ?_ ?_
                  rotate_left
                  · (intro w hSw;(try dsimp only at hSw);go_simp;try with_reducible rfl)
                  (try simp only [pn])
                  refine tk (i:=8) (v:=?_) rfl hHeld ?_ ?_
                  rotate_left
                  · (intro w hSw;(try dsimp only at hSw);go_simp;try with_reducible rfl)
                  (try simp only [pn])
                  refine tk (i:=9) (v:=?_) rfl hHeld ?_ ?_
                  rotate_left
                  · (intro w hSw;(try dsimp only at hSw);go_simp;try with_reducible rfl)
                  (try simp only [pn])
                  refine tk (i:=10) (v:=?_) rfl hHeld ?_ ?_
                  rotate_left
                  · (intro w hSw;(try dsimp only at hSw);go_simp;try with_reducible rfl)
                  (try simp only [pn])
                  refine tk (i:=11) (v:=?_) rfl hHeld ?_ ?_
                  rotate_left
                  · (intro w hSw;(try dsimp only at hSw);go_simp;try with_reducible rfl)
                  (try simp only [pn])
                  refine tk (i:=12) (v:=?_) rfl hHeld ?_ ?_
                  rotate_left
                  · (intro w hSw;(try dsimp only at hSw);go_simp;try with_reducible rfl)
                  (try simp only [pn])
                  refine tk (i:=13) (v:=?_) rfl hHeld ?_ ?_
                  rotate_left
                  · (intro w hSw;(try dsimp only at hSw);go_simp;try with_reducible rfl)
                  (try simp only [pn])
                  refine tk (i:=14) (v:=?_) rfl hHeld ?_ ?_
                  rotate_left
                  · (intro w hSw;(try dsimp only at hSw);go_simp;try with_reducible rfl)
                  (try simp only [pn])
                  refine tk (i:=15) (v:=?_) rfl hHeld ?_ ?_
                  rotate_left
                  · (intro w hSw;(try dsimp only at hSw);go_simp;try with_reducible rfl)
                  (try simp only [pn])
                  refine tk (i:=16) (v:=?_) rfl hHeld ?_ ?_
                  rotate_left
                  · (intro w hSw;(try dsimp only at hSw);go_simp;try with_reducible rfl)
                  (try simp only [pn])
                  refine tk (i:=17) (v:=?_) rfl hHeld ?_ ?_
                  rotate_left
                  · (intro w hSw;(try dsimp only at hSw);go_simp;try with_reducible rfl)
                  (try simp only [pn])
                  refine tk (i:=18) (v:=?_) rfl hHeld ?_ ?_
                  rotate_left
                  · (intro w hSw;(try dsimp only at hSw);go_simp;try with_reducible rfl)
                  (try simp only [pn])
                  refine wpAnyH_ready (rs:=[19]) (by kernel_rfl) (by simp) ?_
                  refine AllReadyH.cons rfl (fun K hK=>?_) AllReadyH.nil
                  go_simp
                  go_at_call 101
                  (with_reducible refine (WC.out _ ?_).mono ?_)
                  · (first|assumption|exact hHeld.2.2.2.2.2)
                  rintro e w' ⟨rfl,q0,q1,q2,q3,q4,q5⟩
                  go_simp
                  refine hK.out _ _ ⟨q0,q1,q2,q3,q4,q5⟩ (fun hHeld=>?_)
                  clear hK K
                  (try simp only [pn])
                  refine tk (i:=20) (v:=?_) rfl hHeld ?_ ?_
                  rotate_left
                  · (intro w hSw;(try dsimp only at hSw);go_simp;try with_reducible rfl)
                  (try simp only [pn])
                  refine tk (i:=21) (v:=?_) rfl hHeld ?_ ?_
                  rotate_left
                  · (intro w hSw;(try dsimp only at hSw);go_simp;try with_reducible rfl)
                  (try simp only [pn])
                  refine tk (i:=22) (v:=?_) rfl hHeld ?_ ?_
                  rotate_left
                  · (intro w hSw;(try dsimp only at hSw);go_simp;try with_reducible rfl)
                  (try simp only [pn])
                  refine wpAnyH_take (i:=23) (v:=undef) rfl (by kernel_rfl) (by kernel_rfl) (by kernel_rfl) (fun _ _ _ h=>h) (Or.inr ⟨by rfl,rfl⟩) hHeld ?_
                  (try simp only [pn])
                  refine wpAnyH_take (i:=24) (v:=undef) rfl (by kernel_rfl) (by kernel_rfl) (by kernel_rfl) (fun _ _ _ h=>h) (Or.inr ⟨by rfl,rfl⟩) hHeld ?_
                  (try simp only [pn])
                  refine wpAnyH_take (i:=25) (v:=undef) rfl (by kernel_rfl) (by kernel_rfl) (by kernel_rfl) (fun _ _ _ h=>h) (Or.inr ⟨by rfl,rfl⟩) hHeld ?_
                  (try simp only [pn])
                  refine wpAnyH_take (i:=26) (v:=undef) rfl (by kernel_rfl) (by kernel_rfl) (by kernel_rfl) (fun _ _ _ h=>h) (Or.inr ⟨by rfl,rfl⟩) hHeld ?_
                  (try simp only [pn])
                  refine wpAnyH_take (i:=27) (v:=undef) rfl (by kernel_rfl) (by kernel_rfl) (by kernel_rfl) (fun _ _ _ h=>h) (Or.inr ⟨by rfl,rfl⟩) hHeld ?_
                  (try simp only [pn])
                  refine wpAnyH_take (i:=28) (v:=undef) rfl (by kernel_rfl) (by kernel_rfl) (by kernel_rfl) (fun _ _ _ h=>h) (Or.inr ⟨by rfl,rfl⟩) hHeld ?_
                  (try simp only [pn])
                  refine wpAnyH_take (i:=29) (v:=undef) rfl (by kernel_rfl) (by kernel_rfl) (by kernel_rfl) (fun _ _ _ h=>h) (Or.inr ⟨by rfl,rfl⟩) hHeld ?_
                  (try simp only [pn])
                  refine wpAnyH_take (i:=30) (v:=undef) rfl (by kernel_rfl) (by kernel_rfl) (by kernel_rfl) (fun _ _ _ h=>h) (Or.inr ⟨by rfl,rfl⟩) hHeld ?_
                  (try simp only [pn])
                  refine wpAnyH_take (i:=31) (v:=undef) rfl (by kernel_rfl) (by kernel_rfl) (by kernel_rfl) (fun _ _ _ h=>h) (Or.inr ⟨by rfl,rfl⟩) hHeld ?_
                  (try simp only [pn])
                  refine wpAnyH_take (i:=32) (v:=undef) rfl (by kernel_rfl) (by kernel_rfl) (by kernel_rfl) (fun _ _ _ h=>h) (Or.inr ⟨by rfl,rfl⟩) hHeld ?_
                  (try simp only [pn])
                  refine wpAnyH_take (i:=33) (v:=undef) rfl (by kernel_rfl) (by kernel_rfl) (by kernel_rfl) (fun _ _ _ h=>h) (Or.inr ⟨by rfl,rfl⟩) hHeld ?_
                  (try simp only [pn])
                  refine wpAnyH_take (i:=34) (v:=undef) rfl (by kernel_rfl) (by kernel_rfl) (by kernel_rfl) (fun _ _ _ h=>h) (Or.inr ⟨by rfl,rfl⟩) hHeld ?_
                  (try simp only [pn])
                  refine wpAnyH_take (i:=35) (v:=undef) rfl (by kernel_rfl) (by kernel_rfl) (by kernel_rfl) (fun _ _ _ h=>h) (Or.inr ⟨by rfl,rfl⟩) hHeld ?_
                  (try simp only [pn])
                  refine tk (i:=36) (v:=?_) rfl hHeld ?_ ?_
                  rotate_left
                  · (intro w hSw;(try dsimp only at hSw);go_simp;try with_reducible rfl)
                  (try simp only [pn])
                  refine wpAnyH_done (by kernel_rfl) ?_ _
                  all_goals go_wp2
                  all_goals go_ret
                  all_goals (refine ⟨retB HF.out.symm,?_⟩;assumption)
                 | true =>
                  cases kb with
                  | false =>
                   have HF:Hid (rightR ns=false):=lh (HNF.out (by rw [HNR2.out];rfl))
                   clear HNR2 HTT
                   go_wp2_with fail
                   go_region_held3 (fun w'=>w'.cell? ⟨b,off+i*5,none⟩=some (.int .u8 nd.kind)∧w'.cell? ⟨b,off+i*5+1,none⟩=some (.int .i64 nd.at')∧w'.cell? ⟨b,off+i*5+2,none⟩=some (.string nd.text)∧w'.cell? ⟨b,off+i*5+3,none⟩=some (.int .i64 nd.n)∧w'.cell? ⟨b,off+i*5+4,none⟩=some (.slice kp kl kc)∧Below w1.heap.size w1 w') (go_keep)
                    (first
                     | (go_at_call 101;(with_reducible refine (WC.out _ ?_).mono ?_);(first|assumption|exact hbd);rintro e w' ⟨rfl,q0,q1,q2,q3,q4,q5⟩)
                     | (go_at_call 103;(with_reducible refine (KC.out _ ?_).mono ?_);(first|assumption|exact hbd);rintro e w' ⟨pv,cv,rfl,qb,q0,q1,q2,q3,q4,q5⟩)
                     | (go_at_call 102;(with_reducible refine (DC.out _ _ _ ?_ ?_).mono ?_);(assumption);(first|assumption|exact hbd);rintro e w' ⟨rfl,q0,q1,q2,q3,q4,q5⟩))
                   all_goals go_wp2
                   all_goals go_ret
                   all_goals (refine ⟨retB HF.out.symm,?_⟩;assumption)
                  | true =>
                   have HT2:=lh (HTT.out (by rw [HNR2.out];rfl))
                   clear HNR2 HTT
                   go_wp2_with fail
                   go_region_held3 (fun w'=>w'.cell? ⟨b,off+i*5,none⟩=some (.int .u8 nd.kind)∧w'.cell? ⟨b,off+i*5+1,none⟩=some (.int .i64 nd.at')∧w'.cell? ⟨b,off+i*5+2,none⟩=some (.string nd.text)∧w'.cell? ⟨b,off+i*5+3,none⟩=some (.int .i64 nd.n)∧w'.cell? ⟨b,off+i*5+4,none⟩=some (.slice kp kl kc)∧Below w1.heap.size w1 w') (go_keep)
                    (first
                     | (go_at_call 101;(with_reducible refine (WC.out _ ?_).mono ?_);(first|assumption|exact hbd);rintro e w' ⟨rfl,q0,q1,q2,q3,q4,q5⟩)
                     | (go_at_call 103;(with_reducible refine (KC.out _ ?_).mono ?_);(first|assumption|exact hbd);rintro e w' ⟨pv,cv,rfl,qb,q0,q1,q2,q3,q4,q5⟩)
                     | (go_at_call 102;(with_reducible refine (DC.out _ _ _ ?_ ?_).mono ?_);(assumption);(first|assumption|exact hbd);rintro e w' ⟨rfl,q0,q1,q2,q3,q4,q5⟩))
                   go_wp2_with fail
                   go_roundw
                   case rel=>exact ⟨i+1,by omega,by first|rfl|go_num,HT2,lh q5⟩
                   case measure=>simp [intOf];omega
           · have e:i=ns.length:=by have:=hlen.out;omega
             have HE:Hid (rightR ns=true):=lh (by
              have:=HT.out
              rw [e,List.take_length] at this
              rw [HALL.out,this])
             clear e
             go_wp2
             go_ret
             exact ⟨retB HE.out.symm,HB.out⟩
        · have e1:(en != (len:Int))=true:=by simpa using hen
          have HF:Hid (rightR ns=false):=lh (by
           unfold rightR
           rw [decide_eq_false (show ¬ endK (kidsAt ns) ns.length ns.length 0=(ns.length:Int) by rw [HEN.out,hlen.out];exact hen)]
           simp)
          clear hen
          go_wp2
          go_ret
          exact ⟨retB HF.out.symm,Below.refl _ _⟩
   · have d1:(kindAt ns 0 != 1)=true:=by simpa using h1
     have HF:Hid (rightR ns=false):=lh (by
      have e:(kindAt ns 0==1)=false:=by simpa using h1
      unfold rightR;rw [e];simp)
     generalize kindAt ns 0=k at *
     clear h1
     go_enter Tryz.func56,Tryz.ntmps56
     go_wp2
     go_ret
     exact ⟨retB HF.out.symm,Below.refl _ _⟩
end Tr
section
open Go.RowKit Tr
theorem joins_size (ks:List Ast)(h:wfRL ks):(joinT (ks.map exT)).size≤70102*sizeL ks:=by
 have h1:=joinT_size (ks.map exT)
 have h2:=exs_size ks h
 have h3:=len_sizeL ks
 rw [List.length_map] at h1
 omega
theorem partT_size (x:Ast)(h:wfR x)(hx:x.size≤70000):(partT x).size≤1000000*(x.size*x.size):=by
 cases x with
 | mk k a t n ks =>
 have hp:=h.parts
 have hj:=joins_size ks h.2
 have lit:∀a:Array UInt8,(⟨a⟩:ByteArray).size=a.size:=fun a=>rfl
 simp only [Ast.size] at hx ⊢
 rw [sq_succ]
 unfold partT;dsimp only
 by_cases h2:k=2
 · rw [if_pos h2,lineT_size]
   unfold namesOf
   simp only [ByteArray.size_append,lit]
   simp
   omega
 · rw [if_neg h2]
   rcases ks with _|⟨a',_|⟨b',_|⟨c',r⟩⟩⟩
   · show 0≤_;omega
   · show 0≤_;omega
   · have c1:(if n=1 then (⟨#[32,115,105,110,103,108,101]⟩:ByteArray) else ⟨#[]⟩).size≤7:=by split<;>decide
     have hb:=blT_size 1 b' h.2.2.1 (by simp only [sizeL] at hx;omega)
     have hn:=joins_size a'.kids (by cases a' with|mk k1 a1 s1 n1 ks1=>exact h.2.1.2)
     have hs:sizeL a'.kids≤a'.size:=by cases a' with|mk k1 a1 s1 n1 ks1=>simp only [Ast.kids,Ast.size];omega
     have hq:=sq_add a'.size b'.size
     simp only [sizeL,Nat.add_zero] at hx ⊢
     simp only [ByteArray.size_append,lineT_size]
     unfold namesOf
     generalize (if n=1 then (⟨#[32,115,105,110,103,108,101]⟩:ByteArray) else ⟨#[]⟩)=E at *
     simp only [lit]
     simp
     omega
   · show 0≤_;omega
theorem progL_size:∀l:List Ast,wfRL l→sizeL l≤70000→(progL l).size≤1000000*(sizeL l*sizeL l)
 | [],_,_=>by simp only [progL];exact Nat.zero_le _
 | x::r,h,hd=>by
  simp only [sizeL] at hd ⊢
  have h1:=partT_size x h.1 (by omega)
  have h2:=progL_size r h.2 (by omega)
  have h3:=sq_add x.size (sizeL r)
  simp only [progL,ByteArray.size_append]
  omega
theorem progL_snoc (l:List Ast)(x:Ast):progL (l++[x])=progL l++partT x:=by
 induction l with
 | nil=>simp only [List.nil_append,progL,app_none,none_app]
 | cons y r ih=>simp only [List.cons_append,progL,ih,app_assoc]
theorem tabs0:tabsT 0=none0:=rfl
theorem part_table (s t:ByteArray)(a:Nat)(n:Int)(ks:List Ast):s++partT (.mk 2 a t n ks)=s++⟨#[116,97,98,108,101,32]⟩++t++⟨#[40]⟩++joinT (ks.map exT)++⟨#[41,59,10]⟩:=by
 unfold partT;dsimp only
 rw [if_pos rfl]
 unfold lineT namesOf
 rw [tabs0,none_app]
 apply ByteArray.ext
 simp [ByteArray.data_append,Array.append_assoc]
theorem part_proc (s t:ByteArray)(a:Nat)(n:Int)(x y:Ast):s++partT (.mk 3 a t n [x,y])=s++⟨#[112,114,111,99,32]⟩++t++⟨#[40]⟩++joinT (x.kids.map exT)++⟨#[41]⟩++(if n=1 then ⟨#[32,115,105,110,103,108,101]⟩ else ⟨#[]⟩)++⟨#[32,123,10]⟩++blT 1 y++⟨#[125,10]⟩:=by
 unfold partT;dsimp only
 rw [nn]
 show s++(lineT 0 _++blT 1 y++lineT 0 _)=_
 unfold lineT namesOf
 rw [tabs0]
 simp only [none_app]
 apply ByteArray.ext
 simp [ByteArray.data_append,Array.append_assoc]
end
section
open Go.RowKit Tr
theorem refPrint_no (w:World)(p:Option Addr)(len c:Nat)(ns:List Nd)(hT:TV w p len c ns)(hS:SmallT ns)(hr:rightR ns=false) :
 Calls Tryz.prog 24 #[.slice p len c] w fun e w'=>e=.returned (.tuple #[.string ⟨#[]⟩,.int .i64 2])∧Below w.heap.size w w':=by
 have RA:=lh (refRight_at w p len c ns hT hS)
 rw [hr] at RA
 clear hT hS hr
 go_enter Tryz.func24,Tryz.ntmps24
 go_wp2_with fail
 (with_reducible refine RA.out.mono ?_)
 rintro e w1 ⟨rfl,hb⟩
 go_wp2
 simp [bodyPost,results,Tryz.results24,go_sem]
 exact hb
theorem words_tx {ks:List Ast}(h:(ks.map Ast.kind).all (·==5)=true)(hw:wfRL ks):∀x∈ks,isTx x∧wfR x:=fun x hx=>by
 have:=List.all_eq_true.1 h _ (List.mem_map_of_mem hx)
 exact ⟨Or.inl (by simpa using this),wfRL_mem hw x hx⟩
theorem refPrint_yes (w:World)(p:Option Addr)(len c:Nat)(ns:List Nd)(hT:TV w p len c ns)(hS:SmallT ns)(ht:PT10 w)(hr:rightR ns=true)(s0:ByteArray)(n0:Int)(a0:Nat)(ks:List Ast)(hO:On ns 0 (.mk 1 a0 s0 n0 ks))(hw:wfR (.mk 1 a0 s0 n0 ks)) :
 Calls Tryz.prog 24 #[.slice p len c] w fun e w'=>e=.returned (if (progL ks).size≤65536 then .tuple #[.string (progL ks),.int .i64 0] else .tuple #[.string ⟨#[]⟩,.int .i64 3])∧Below w.heap.size w w':=by
 have RA:=lh (refRight_at w p len c ns hT hS)
 rw [hr] at RA
 obtain ⟨a',hnd⟩:=hO.node
 have hol:=hO.lt
 have hle:=hT.len_eq
 have hsz:=hO.size
 have hns:=hS.len
 have hlen:len≤70000:=by omega
 simp only [Ast.size,Nat.zero_add] at hsz
 obtain ⟨b,off,rfl,hbl,hc⟩:=hT.node (by omega)
 obtain ⟨kp,kl,kc,hn⟩:=hc 0 (by omega)
 rw [hnd,Nat.zero_mul,Nat.add_zero] at hn
 have k4:w.cell? ⟨b,off+4,none⟩=some (.slice kp kl kc):=hn.kids
 have hiv:IV w kp kl kc (heads (0+1) ks):=hn.iv
 have hkl:ks.length=kl:=by rw [← hiv.len_eq,heads_length]
 have hlx:=len_sizeL ks
 have hkl7:kl≤70000:=by omega
 have HSZ:Hid (∀j,(progL (ks.take j)).size≤1000000*(70000*70000)):=lh (fun j=>by
  have h1:wfRL (ks.take j):=wfRL_of fun x hx=>wfRL_mem hw.2 x (List.mem_of_mem_take hx)
  have h2:sizeL (ks.take j)≤sizeL ks:=by
   have:∀(l:List Ast) (j:Nat),sizeL (l.take j)≤sizeL l:=by
    intro l
    induction l with
    | nil=>intro j;simp
    | cons x r ih =>
     intro j
     cases j with
     | zero=>simp [sizeL]
     | succ j=>have:=ih j;simp only [List.take_succ_cons,sizeL];omega
   exact this ks j
  have h3:=progL_size (ks.take j) h1 (by omega)
  have h4:=Nat.mul_le_mul (show sizeL (ks.take j)≤70000 by omega) (show sizeL (ks.take j)≤70000 by omega)
  omega)
 have hk1:(ks.map Ast.kind).all (fun k=>k==2||k==3)=true:=hw.parts.2.2.2
 have HK:Hid (∀x∈ks,x.kind=2∨x.kind=3):=lh (fun x hx=>by have:=List.all_eq_true.1 hk1 _ (List.mem_map_of_mem hx);simpa using this)
 have HT:=lh hT
 have HO:=lh hO
 have HW:=lh hw
 have HP:=lh ht
 have HIV:=lh hiv
 have HKL:=lh hkl
 have HLE:=lh hle
 have HC:=lh hc
 have HZS:=lh hsz
 have b1:(0:Int)<(len:Int):=by omega
 have b2:0<len:=by omega
 clear hT hO hw ht hiv hn hc hle hnd hS hsz hlx hk1 hr
 go_enter Tryz.func24,Tryz.ntmps24
 go_wp2_with fail
 (with_reducible refine RA.out.mono ?_)
 rintro e w1 ⟨rfl,hb1⟩
 have HB1:=lh hb1
 clear RA hb1
 go_wp2_with fail
 go_loopw [4,5] (fun v iv wr=>∃j:Nat,j≤kl∧iv=.int .i64 j∧v=.string (progL (ks.take j))∧Hid (Below w.heap.size w wr)) (fun _ iv _=>kl-(intOf iv).toNat)
 case atStart=>exact ⟨0,by omega,rfl,rfl,HB1⟩
 case round =>
  obtain ⟨j,hjl,rfl,rfl,HB⟩:=hrel
  have k4r:wr.cell? ⟨b,off+4,none⟩=some (.slice kp kl kc):=by rw [HB.out.cell (p:=⟨b,off+4,none⟩) hbl];exact k4
  by_cases hlt:j<kl
  · have hjk:j<ks.length:=by have:=HKL.out;omega
    obtain ⟨q,hq,hql,hOq⟩:=HO.out.kid j hjk
    obtain ⟨kb,koff,rfl,hkb,hkc⟩:=HIV.out.cell (by omega)
    have m5:wr.cell? ⟨kb,koff+j,none⟩=some (.int .i64 (q:Int)):=by rw [HB.out.cell (p:=⟨kb,koff+j,none⟩) hkb,hkc j hlt,hq]
    have h0j:(0:Int)≤(j:Int):=by omega
    have hj2:(j:Int)<(kl:Int):=by omega
    have hq0:(0:Int)≤(q:Int):=by omega
    have hq1:(q:Int)<(len:Int):=by have:=HLE.out;omega
    have HSN:Hid (progL (ks.take (j+1))=progL (ks.take j)++partT ks[j]):=lh (by
     rw [← progL_snoc,← List.take_succ_eq_append_getElem hjk])
    have z0:=HSZ.out (j+1)
    rw [HSN.out] at z0
    have hwq:=HW.out.kids hjk
    have hkk:=HK.out _ (List.getElem_mem hjk)
    have hsq:=hOq.size
    clear hkc hq
    generalize progL (ks.take j)=S0 at *
    generalize hy:ks[j]=y at *
    clear hy
    cases y with
    | mk k2 a2' t2 n2 ks2 =>
    obtain ⟨a2,hnd2⟩:=hOq.node
    obtain ⟨kp2,kl2,kc2,hn2⟩:=HC.out q (by have:=HLE.out;omega)
    rw [hnd2] at hn2
    have hn3:=hn2.on hbl HB.out
    have m0:wr.cell? ⟨b,off+q*5,none⟩=some (.int .u8 k2):=hn3.kind
    have m1:wr.cell? ⟨b,off+q*5+1,none⟩=some (.int .i64 a2):=hn3.at'
    have m2:wr.cell? ⟨b,off+q*5+2,none⟩=some (.string t2):=hn3.text
    have m3:wr.cell? ⟨b,off+q*5+3,none⟩=some (.int .i64 n2):=hn3.n
    have m4:wr.cell? ⟨b,off+q*5+4,none⟩=some (.slice kp2 kl2 kc2):=hn3.kids
    have hiv2:IV wr kp2 kl2 kc2 (heads (q+1) ks2):=hn3.iv
    have hkl2:ks2.length=kl2:=by rw [← hiv2.len_eq,heads_length]
    have htx:=hwq.parts.2.2.1
    simp only [Ast.size] at hsq
    rcases hkk with hk2|hk2
    · obtain rfl:k2=2:=hk2
      have hall:(ks2.map Ast.kind).all (·==5)=true:=by
       have h9:(decide (0<(ks2.map Ast.kind).length)&&(ks2.map Ast.kind).all (·==5))=true:=hwq.parts.2.2.2
       simp only [Bool.and_eq_true] at h9
       exact h9.2
      have hb2:Below wr.heap.size wr (wr.alloc (.cells #[.int .u8 2,.int .i64 a2,.string t2,.int .i64 n2,.slice kp2 kl2 kc2] 99)):=one_below wr _
      have c2:(wr.alloc (.cells #[.int .u8 2,.int .i64 a2,.string t2,.int .i64 n2,.slice kp2 kl2 kc2] 99)).cell? ⟨wr.heap.size,2,none⟩=some (.string t2):=by simp
      have c4:(wr.alloc (.cells #[.int .u8 2,.int .i64 a2,.string t2,.int .i64 n2,.slice kp2 kl2 kc2] 99)).cell? ⟨wr.heap.size,4,none⟩=some (.slice kp2 kl2 kc2):=by simp
      have hsW:wr.heap.size<(wr.alloc (.cells #[.int .u8 2,.int .i64 a2,.string t2,.int .i64 n2,.slice kp2 kl2 kc2] 99)).heap.size:=by simp
      have HBW:=lh (HB.out.trans (hb2.mono HB.out.size))
      have T1:=lh (HT.out.on HBW.out)
      have P1:=lh (HP.out.below HBW.out)
      have I1:=lh (hiv2.on hb2)
      have hOL:=hOq.kids
      have hjz:=joins_size ks2 hwq.2
      rw [part_table] at z0 HSN
      obtain ⟨W1,hW1⟩:∃W1,(wr.alloc (.cells #[.int .u8 2,.int .i64 a2,.string t2,.int .i64 n2,.slice kp2 kl2 kc2] 99))=W1:=⟨_,rfl⟩
      rw [hW1] at hb2 c2 c4 hsW HBW T1 P1 I1
      have HW1:=lh hW1
      clear hW1
      have HL:Hid (∀w',w'.cell? ⟨wr.heap.size,2,none⟩=some (.string t2)→w'.cell? ⟨wr.heap.size,4,none⟩=some (.slice kp2 kl2 kc2)→Below W1.heap.size W1 w'→Calls Tryz.prog 57 #[.slice (some ⟨b,off,none⟩) len c,.slice kp2 kl2 kc2] w' fun e w''=>e=.returned (.string (joinT (ks2.map exT)))∧w''.cell? ⟨wr.heap.size,2,none⟩=some (.string t2)∧w''.cell? ⟨wr.heap.size,4,none⟩=some (.slice kp2 kl2 kc2)∧Below W1.heap.size W1 w''):=lh (fun w' h0 h1 hb=>(refList_at ns ks2 (words_tx hall hwq.2) (by omega) _ w' (some ⟨b,off,none⟩) _ len c _ _ (T1.out.on hb) (I1.out.on hb) hOL (P1.out.below hb) hlen).mono fun e w'' ⟨he,hb2⟩=>⟨he,by rw [hb2.cell (p:=⟨wr.heap.size,2,none⟩) (Nat.lt_of_lt_of_le hsW hb.size)];exact h0,by rw [hb2.cell (p:=⟨wr.heap.size,4,none⟩) (Nat.lt_of_lt_of_le hsW hb.size)];exact h1,hb.trans (hb2.mono hb.size)⟩)
      generalize joinT (ks2.map exT)=TL at *
      simp only [ByteArray.size_append] at z0
      have e6:(⟨#[116,97,98,108,101,32]⟩:ByteArray).size=6:=rfl
      have e1:(⟨#[40]⟩:ByteArray).size=1:=rfl
      have e3:(⟨#[41,59,10]⟩:ByteArray).size=3:=rfl
      have y0:¬ 9223372036854775807<S0.size+6:=by omega
      have y1:¬ 9223372036854775807<S0.size+6+t2.size:=by omega
      have y2:¬ 9223372036854775807<S0.size+6+t2.size+1:=by omega
      have y3:¬ 9223372036854775807<S0.size+6+t2.size+1+TL.size:=by omega
      have y4:¬ 9223372036854775807<S0.size+6+t2.size+1+TL.size+3:=by omega
      have hbd:Below W1.heap.size W1 W1.drew:=(Below.refl _ _).drew
      clear hb2 z0 e6 e1 e3 hOL hjz hall hwq hOq hnd2 hn2 hn3 hiv2 hsq htx
      go_upto_region 9 with fail
      rw [HW1.out]
      clear HW1
      go_region_held3 (fun w'=>w'.cell? ⟨wr.heap.size,2,none⟩=some (.string t2)∧w'.cell? ⟨wr.heap.size,4,none⟩=some (.slice kp2 kl2 kc2)∧Below W1.heap.size W1 w') (go_keep) (first|(go_at_call 57;(with_reducible refine (HL.out _ ?_ ?_ ?_).mono ?_);(first|assumption|exact c2);(first|assumption|exact c4);(first|assumption|exact hbd);rintro e w' ⟨rfl,r0,r1,rb⟩))
      have B9:=lh (HBW.out.trans (rb.mono HBW.out.size))
      clear rb
      go_wp2_with fail
      go_roundw
      case rel=>exact ⟨j+1,by omega,by go_num,by rw [HSN.out],B9⟩
      case measure=>simp [intOf];omega
    · obtain rfl:k2=3:=hk2
      obtain ⟨x,y,rfl,hx4,hy6⟩:=sh3 (show isR (ks2.map Ast.kind) [4,6]=true from hwq.parts.2.2.2)
      obtain rfl:kl2=2:=hkl2.symm
      obtain ⟨kb2,koff2,rfl,hkb2,hkc2⟩:=hiv2.cell (by omega)
      have hb2:Below wr.heap.size wr (wr.alloc (.cells #[.int .u8 3,.int .i64 a2,.string t2,.int .i64 n2,.slice (some ⟨kb2,koff2,none⟩) 2 kc2] 99)):=one_below wr _
      have c2:(wr.alloc (.cells #[.int .u8 3,.int .i64 a2,.string t2,.int .i64 n2,.slice (some ⟨kb2,koff2,none⟩) 2 kc2] 99)).cell? ⟨wr.heap.size,2,none⟩=some (.string t2):=by simp
      have c3:(wr.alloc (.cells #[.int .u8 3,.int .i64 a2,.string t2,.int .i64 n2,.slice (some ⟨kb2,koff2,none⟩) 2 kc2] 99)).cell? ⟨wr.heap.size,3,none⟩=some (.int .i64 n2):=by simp
      have c4:(wr.alloc (.cells #[.int .u8 3,.int .i64 a2,.string t2,.int .i64 n2,.slice (some ⟨kb2,koff2,none⟩) 2 kc2] 99)).cell? ⟨wr.heap.size,4,none⟩=some (.slice (some ⟨kb2,koff2,none⟩) 2 kc2):=by simp
      have hsW:wr.heap.size<(wr.alloc (.cells #[.int .u8 3,.int .i64 a2,.string t2,.int .i64 n2,.slice (some ⟨kb2,koff2,none⟩) 2 kc2] 99)).heap.size:=by simp
      obtain ⟨qx,hqx,hqxl,hOx⟩:=hOq.kid 0 (by simp)
      obtain ⟨qy,hqy,hqyl,hOy⟩:=hOq.kid 1 (by simp)
      have hwx:=hwq.kids (j:=0) (by simp)
      have hwy:=hwq.kids (j:=1) (by simp)
      simp only [List.getElem_cons_zero] at hOx hwx
      simp only [List.getElem_cons_succ,List.getElem_cons_zero] at hOy hwy
      have d0:(wr.alloc (.cells #[.int .u8 3,.int .i64 a2,.string t2,.int .i64 n2,.slice (some ⟨kb2,koff2,none⟩) 2 kc2] 99)).cell? ⟨kb2,koff2,none⟩=some (.int .i64 (qx:Int)):=by rw [hb2.cell (p:=⟨kb2,koff2,none⟩) hkb2];have h:=hkc2 0 (by omega);rw [hqx] at h;exact h
      have d1:(wr.alloc (.cells #[.int .u8 3,.int .i64 a2,.string t2,.int .i64 n2,.slice (some ⟨kb2,koff2,none⟩) 2 kc2] 99)).cell? ⟨kb2,koff2+1,none⟩=some (.int .i64 (qy:Int)):=by rw [hb2.cell (p:=⟨kb2,koff2+1,none⟩) hkb2];have h:=hkc2 1 (by omega);rw [hqy] at h;exact h
      have HBW:=lh (HB.out.trans (hb2.mono HB.out.size))
      have T1:=lh (HT.out.on HBW.out)
      have P1:=lh (HP.out.below HBW.out)
      cases x with
      | mk kx ax sx nx ksx =>
      obtain rfl:kx=4:=hx4
      obtain ⟨ax',hndx⟩:=hOx.node
      obtain ⟨kpx,klx,kcx,hnx⟩:=HC.out qx (by have:=HLE.out;omega)
      rw [hndx] at hnx
      have hnx2:=hnx.on hbl HBW.out
      have d2:(wr.alloc (.cells #[.int .u8 3,.int .i64 a2,.string t2,.int .i64 n2,.slice (some ⟨kb2,koff2,none⟩) 2 kc2] 99)).cell? ⟨b,off+qx*5+4,none⟩=some (.slice kpx klx kcx):=hnx2.kids
      have I1:=lh (show IV _ kpx klx kcx (heads (qx+1) ksx) from hnx2.iv)
      have hall:(ksx.map Ast.kind).all (·==5)=true:=hwx.parts.2.2.2
      have hOL:=hOx.kids
      have hjz:=joins_size ksx hwx.2
      simp only [sizeL,Ast.size] at hsq
      have hbz:=blT_size 1 y hwy (by omega)
      have hbz2:=Nat.mul_le_mul (show y.size≤70000 by omega) (show y.size≤70000 by omega)
      have hcz:(if n2=1 then (⟨#[32,115,105,110,103,108,101]⟩:ByteArray) else ⟨#[]⟩).size≤7:=by split<;>decide
      rw [part_proc] at z0 HSN
      have hqx0:(0:Int)≤(qx:Int):=by omega
      have hqx1:(qx:Int)<(len:Int):=by have:=HLE.out;omega
      obtain ⟨W1,hW1⟩:∃W1,(wr.alloc (.cells #[.int .u8 3,.int .i64 a2,.string t2,.int .i64 n2,.slice (some ⟨kb2,koff2,none⟩) 2 kc2] 99))=W1:=⟨_,rfl⟩
      rw [hW1] at hb2 c2 c3 c4 d0 d1 d2 hsW HBW T1 P1 I1
      have HW1:=lh hW1
      clear hW1
      have hlb:b<W1.heap.size:=Nat.lt_of_lt_of_le hbl HBW.out.size
      have hlk:kb2<W1.heap.size:=Nat.lt_of_lt_of_le hkb2 hb2.size
      have HL:Hid (∀w',w'.cell? ⟨wr.heap.size,2,none⟩=some (.string t2)→w'.cell? ⟨wr.heap.size,3,none⟩=some (.int .i64 n2)→w'.cell? ⟨wr.heap.size,4,none⟩=some (.slice (some ⟨kb2,koff2,none⟩) 2 kc2)→w'.cell? ⟨kb2,koff2,none⟩=some (.int .i64 (qx:Int))→w'.cell? ⟨kb2,koff2+1,none⟩=some (.int .i64 (qy:Int))→w'.cell? ⟨b,off+qx*5+4,none⟩=some (.slice kpx klx kcx)→Below W1.heap.size W1 w'→Calls Tryz.prog 57 #[.slice (some ⟨b,off,none⟩) len c,.slice kpx klx kcx] w' fun e w''=>e=.returned (.string (joinT (ksx.map exT)))∧w''.cell? ⟨wr.heap.size,2,none⟩=some (.string t2)∧w''.cell? ⟨wr.heap.size,3,none⟩=some (.int .i64 n2)∧w''.cell? ⟨wr.heap.size,4,none⟩=some (.slice (some ⟨kb2,koff2,none⟩) 2 kc2)∧w''.cell? ⟨kb2,koff2,none⟩=some (.int .i64 (qx:Int))∧w''.cell? ⟨kb2,koff2+1,none⟩=some (.int .i64 (qy:Int))∧w''.cell? ⟨b,off+qx*5+4,none⟩=some (.slice kpx klx kcx)∧Below W1.heap.size W1 w''):=lh (fun w' h0 h1 h2 h3 h4 h5 hb=>(refList_at ns ksx (words_tx hall hwx.2) (by omega) _ w' (some ⟨b,off,none⟩) _ len c _ _ (T1.out.on hb) (I1.out.on hb) hOL (P1.out.below hb) hlen).mono fun e w'' ⟨he,hb2⟩=>⟨he,by rw [hb2.cell (p:=⟨wr.heap.size,2,none⟩) (Nat.lt_of_lt_of_le hsW hb.size)];exact h0,by rw [hb2.cell (p:=⟨wr.heap.size,3,none⟩) (Nat.lt_of_lt_of_le hsW hb.size)];exact h1,by rw [hb2.cell (p:=⟨wr.heap.size,4,none⟩) (Nat.lt_of_lt_of_le hsW hb.size)];exact h2,by rw [hb2.cell (p:=⟨kb2,koff2,none⟩) (Nat.lt_of_lt_of_le hlk hb.size)];exact h3,by rw [hb2.cell (p:=⟨kb2,koff2+1,none⟩) (Nat.lt_of_lt_of_le hlk hb.size)];exact h4,by rw [hb2.cell (p:=⟨b,off+qx*5+4,none⟩) (Nat.lt_of_lt_of_le hlb hb.size)];exact h5,hb.trans (hb2.mono hb.size)⟩)
      have HBL:Hid (∀w',w'.cell? ⟨wr.heap.size,2,none⟩=some (.string t2)→w'.cell? ⟨wr.heap.size,3,none⟩=some (.int .i64 n2)→w'.cell? ⟨wr.heap.size,4,none⟩=some (.slice (some ⟨kb2,koff2,none⟩) 2 kc2)→w'.cell? ⟨kb2,koff2,none⟩=some (.int .i64 (qx:Int))→w'.cell? ⟨kb2,koff2+1,none⟩=some (.int .i64 (qy:Int))→w'.cell? ⟨b,off+qx*5+4,none⟩=some (.slice kpx klx kcx)→Below W1.heap.size W1 w'→Calls Tryz.prog 59 #[.slice (some ⟨b,off,none⟩) len c,.int .i64 (qy:Int),.int .i64 1] w' fun e w''=>e=.returned (.string (blT 1 y))∧w''.cell? ⟨wr.heap.size,2,none⟩=some (.string t2)∧w''.cell? ⟨wr.heap.size,3,none⟩=some (.int .i64 n2)∧w''.cell? ⟨wr.heap.size,4,none⟩=some (.slice (some ⟨kb2,koff2,none⟩) 2 kc2)∧w''.cell? ⟨kb2,koff2,none⟩=some (.int .i64 (qx:Int))∧w''.cell? ⟨kb2,koff2+1,none⟩=some (.int .i64 (qy:Int))∧w''.cell? ⟨b,off+qx*5+4,none⟩=some (.slice kpx klx kcx)∧Below W1.heap.size W1 w''):=lh (fun w' h0 h1 h2 h3 h4 h5 hb=>(refBlock_at ns _ y (Nat.le_refl _) hwy hy6 1 qy w' (some ⟨b,off,none⟩) len c (T1.out.on hb) hOy hwy (P1.out.below hb) hlen (by omega)).mono fun e w'' ⟨he,hb2⟩=>⟨he,by rw [hb2.cell (p:=⟨wr.heap.size,2,none⟩) (Nat.lt_of_lt_of_le hsW hb.size)];exact h0,by rw [hb2.cell (p:=⟨wr.heap.size,3,none⟩) (Nat.lt_of_lt_of_le hsW hb.size)];exact h1,by rw [hb2.cell (p:=⟨wr.heap.size,4,none⟩) (Nat.lt_of_lt_of_le hsW hb.size)];exact h2,by rw [hb2.cell (p:=⟨kb2,koff2,none⟩) (Nat.lt_of_lt_of_le hlk hb.size)];exact h3,by rw [hb2.cell (p:=⟨kb2,koff2+1,none⟩) (Nat.lt_of_lt_of_le hlk hb.size)];exact h4,by rw [hb2.cell (p:=⟨b,off+qx*5+4,none⟩) (Nat.lt_of_lt_of_le hlb hb.size)];exact h5,hb.trans (hb2.mono hb.size)⟩)
      have HE:Hid (∀w',w'.cell? ⟨wr.heap.size,2,none⟩=some (.string t2)→w'.cell? ⟨wr.heap.size,3,none⟩=some (.int .i64 n2)→w'.cell? ⟨wr.heap.size,4,none⟩=some (.slice (some ⟨kb2,koff2,none⟩) 2 kc2)→w'.cell? ⟨kb2,koff2,none⟩=some (.int .i64 (qx:Int))→w'.cell? ⟨kb2,koff2+1,none⟩=some (.int .i64 (qy:Int))→w'.cell? ⟨b,off+qx*5+4,none⟩=some (.slice kpx klx kcx)→Below W1.heap.size W1 w'→Calls Tryz.prog 58 #[.int .i64 n2,.string ⟨#[]⟩,.string ⟨#[32,115,105,110,103,108,101]⟩] w' fun e w''=>e=.returned (.string (if n2=1 then ⟨#[32,115,105,110,103,108,101]⟩ else ⟨#[]⟩))∧w''.cell? ⟨wr.heap.size,2,none⟩=some (.string t2)∧w''.cell? ⟨wr.heap.size,3,none⟩=some (.int .i64 n2)∧w''.cell? ⟨wr.heap.size,4,none⟩=some (.slice (some ⟨kb2,koff2,none⟩) 2 kc2)∧w''.cell? ⟨kb2,koff2,none⟩=some (.int .i64 (qx:Int))∧w''.cell? ⟨kb2,koff2+1,none⟩=some (.int .i64 (qy:Int))∧w''.cell? ⟨b,off+qx*5+4,none⟩=some (.slice kpx klx kcx)∧Below W1.heap.size W1 w''):=lh (fun w' h0 h1 h2 h3 h4 h5 hb=>(refEither_at w' n2 ⟨#[]⟩ ⟨#[32,115,105,110,103,108,101]⟩).mono fun e w'' ⟨he,hw⟩=>by subst hw;exact ⟨he,h0,h1,h2,h3,h4,h5,hb⟩)
      simp only [Ast.kids] at z0 HSN
      generalize joinT (ksx.map exT)=TL at *
      generalize (if n2=1 then (⟨#[32,115,105,110,103,108,101]⟩:ByteArray) else ⟨#[]⟩)=EI at *
      generalize blT 1 y=M1 at *
      simp only [ByteArray.size_append] at z0
      have e5:(⟨#[112,114,111,99,32]⟩:ByteArray).size=5:=rfl
      have e1:(⟨#[40]⟩:ByteArray).size=1:=rfl
      have e2:(⟨#[41]⟩:ByteArray).size=1:=rfl
      have e3:(⟨#[32,123,10]⟩:ByteArray).size=3:=rfl
      have e4:(⟨#[125,10]⟩:ByteArray).size=2:=rfl
      have y0:¬ 9223372036854775807<S0.size+5:=by omega
      have y1:¬ 9223372036854775807<S0.size+5+t2.size:=by omega
      have y2:¬ 9223372036854775807<S0.size+5+t2.size+1:=by omega
      have y3:¬ 9223372036854775807<S0.size+5+t2.size+1+TL.size:=by omega
      have y4:¬ 9223372036854775807<S0.size+5+t2.size+1+TL.size+1:=by omega
      have y5:¬ 9223372036854775807<S0.size+5+t2.size+1+TL.size+1+EI.size:=by omega
      have y6:¬ 9223372036854775807<S0.size+5+t2.size+1+TL.size+1+EI.size+3:=by omega
      have y7:¬ 9223372036854775807<S0.size+5+t2.size+1+TL.size+1+EI.size+3+M1.size:=by omega
      have y8:¬ 9223372036854775807<S0.size+5+t2.size+1+TL.size+1+EI.size+3+M1.size+2:=by omega
      have hbd:Below W1.heap.size W1 W1.drew:=(Below.refl _ _).drew
      clear hb2 z0 e5 e1 e2 e3 e4 hOL hjz hbz hbz2 hcz hall hwq hwx hwy hOq hOx hOy hnd2 hndx hn2 hn3 hnx hnx2 hiv2 hsq htx hqx hqy hkc2 hy6
      go_upto_region 10 with fail
      rw [HW1.out]
      clear HW1
      go_region_held3 (fun w'=>w'.cell? ⟨wr.heap.size,2,none⟩=some (.string t2)∧w'.cell? ⟨wr.heap.size,3,none⟩=some (.int .i64 n2)∧w'.cell? ⟨wr.heap.size,4,none⟩=some (.slice (some ⟨kb2,koff2,none⟩) 2 kc2)∧w'.cell? ⟨kb2,koff2,none⟩=some (.int .i64 (qx:Int))∧w'.cell? ⟨kb2,koff2+1,none⟩=some (.int .i64 (qy:Int))∧w'.cell? ⟨b,off+qx*5+4,none⟩=some (.slice kpx klx kcx)∧Below W1.heap.size W1 w') (go_keep) (first|(go_at_call 57;(with_reducible refine (HL.out _ ?_ ?_ ?_ ?_ ?_ ?_ ?_).mono ?_);(first|assumption|exact c2);(first|assumption|exact c3);(first|assumption|exact c4);(first|assumption|exact d0);(first|assumption|exact d1);(first|assumption|exact d2);(first|assumption|exact hbd);rintro e w' ⟨rfl,r0,r1,r2,r3,r4,r5,rb⟩)|(go_at_call 58;(with_reducible refine (HE.out _ ?_ ?_ ?_ ?_ ?_ ?_ ?_).mono ?_);(first|assumption|exact c2);(first|assumption|exact c3);(first|assumption|exact c4);(first|assumption|exact d0);(first|assumption|exact d1);(first|assumption|exact d2);(first|assumption|exact hbd);rintro e w' ⟨rfl,r0,r1,r2,r3,r4,r5,rb⟩)|(go_at_call 59;(with_reducible refine (HBL.out _ ?_ ?_ ?_ ?_ ?_ ?_ ?_).mono ?_);(first|assumption|exact c2);(first|assumption|exact c3);(first|assumption|exact c4);(first|assumption|exact d0);(first|assumption|exact d1);(first|assumption|exact d2);(first|assumption|exact hbd);rintro e w' ⟨rfl,r0,r1,r2,r3,r4,r5,rb⟩))
      have B9:=lh (HBW.out.trans (rb.mono HBW.out.size))
      clear rb
      go_wp2_with fail
      go_roundw
      case rel=>exact ⟨j+1,by omega,by go_num,by rw [HSN.out],B9⟩
      case measure=>simp [intOf];omega
  · have e:j=kl:=by omega
    subst e
    have e2:ks.take j=ks:=List.take_of_length_le (by have:=HKL.out;omega)
    rw [e2]
    by_cases h6:(progL ks).size≤65536
    · have f1:decide (65536<(progL ks).size)=false:=by simp;omega
      go_wp2
      simp [bodyPost,results,Tryz.results24,go_sem,h6]
      exact HB.out
    · have f1:decide (65536<(progL ks).size)=true:=by simp;omega
      go_wp2
      simp [bodyPost,results,Tryz.results24,go_sem,h6]
      exact HB.out
end
end Go.Proofs.YthdioipfdbbmmaaGreatDoor
