/- Contracts. -/
import Derived.Test.YthdioipfdbbmmaaGreatDoorHab
import Derived.Test.YthdioipfdbbmmaaGreatDoorHam
import Derived.Deep.RegionLaw
import Derived.Deep.RegionHeld3
set_option linter.all false
set_option maxRecDepth 1000000
set_option maxHeartbeats 16000000
namespace Go.Proofs.YthdioipfdbbmmaaGreatDoor
namespace Rf
open Go.RowKit
section
variable {E:Env}{v:Value}{kvs:List Value}{md:List Nd}{i:Nat}{d e:Int}{w:World}
theorem kidOf_len (md:List Nd)(j:Nat):(kidOf md j).length=md.length:=by simp [kidOf]
theorem RS.drew (h:RS E v kvs md i d e w):RS E v kvs md i d e w.drew:=h.drewN 1
theorem word_of (h:RS E v kvs md i d e w)(j:Nat)(hj:j<md.length)(hroom:md.length+1≤1000000)(hkids:(md.getD j default).kids.length≤1000000)(s:ByteArray)(i':Nat)(e':Int)
 (HN:∀v2 kvs2 md2 w2,RS E v2 kvs2 md2 i d e w2→Calls Tryz.prog 163 #[.pointer (some ⟨E.b,0,none⟩)] w2 fun x w'=>x=.returned (.string s)∧Kp E v2 kvs2 md2 i' d e' w2 w') :
 Calls Tryz.prog 165 #[.pointer (some ⟨E.b,0,none⟩),.int .i64 (j:Int)] w fun x w'=>x=.returned (.tuple #[])∧∃v' kvs',RS E v' kvs' (kidOf md j++[⟨5,(RT E i).at',s,0,[]⟩]) i' d e' w'∧Fq E w.heap.size v kvs v' kvs' w w':=by
 have KD:=lh (kid_at h j hj (by omega) hkids)
 have HNN:=lh HN
 have HRM:=lh hroom
 clear h HN hj hkids
 go_enter Tryz.func165,Tryz.ntmps165
 go_wp2_with fail
 (with_reducible refine KD.out.mono ?_)
 rintro x w1 ⟨rfl,kvs1,hs1,hf1⟩
 have F1:=lh hf1
 have ND:=lh (node_at hs1 5 (by rw [kidOf_len];exact HRM.out))
 clear hs1 hf1 KD
 go_wp2_with fail
 (with_reducible refine ND.out.mono ?_)
 rintro x w2 ⟨v2,rfl,hs2,hf2⟩
 rw [kidOf_len]
 obtain ⟨g,cap,rfl,_,_⟩:=hs2.own.form (by simp)
 have F2:=lh (F1.out.trans ((Fq.of_fr hf2 (nw_nil _)).mono F1.out.size))
 have S2:=lh hs2
 obtain ⟨_,_,_,c3,_⟩:=hs2.rowCells
 have hbg:E.b≠g:=by have:=(hs2.vlt g rfl).1;omega
 have hlen:(kidOf md j++[nodeR0 5 (RT E i).at']).length=md.length+1:=by simp [kidOf_len]
 rw [hlen] at c3 S2 F2
 have HLN:=lh hlen
 have b0:(0:Int)≤(md.length:Int):=by omega
 have b1:(md.length:Int)<(md.length:Int)+1:=by omega
 have TXT:Hid (∀kv2:List Value,kv2.length=(kidOf md j++[nodeR0 5 (RT E i).at']).length→(cellsM (kidOf md j++[nodeR0 5 (RT E i).at']) kv2)[md.length*5+2]?=some (.string ⟨#[]⟩)):=lh (fun kv2 hk=>by
  rw [cellsM_get _ _ hk md.length (by simp [kidOf_len]) 2 (by decide)]
  simp [nodeC,nodeR0,List.getD,kidOf_len])
 have NM:=lh (HNN.out _ _ _ _ S2.out.drew)
 clear hs2 hf2 ND F1 hlen
 go_wp2_with fail
 go_region_held3 (fun w'=>w'.cell? ⟨E.b,3,none⟩=some (.slice (some ⟨g,0,none⟩) (md.length+1) cap)) (first|exact c3|exact k3|exact (World.cell?_of_block (w:=w5) (a:=⟨E.b,3,none⟩) (Below.heap_setCell _ _ _ _ hbg)).trans k3)
  (first
   | (go_at_call 163;(with_reducible refine NM.out.mono ?_);rintro x w5 ⟨rfl,hk⟩;obtain ⟨_,_,_,k3,_⟩:=hk.rs.rowCells;have hro:=hk.rs.own;rw [HLN.out] at hro;have z5:=hro.frozenAt (md.length*5+2);have t5:=(hro.cellAt (md.length*5+2) (by omega)).trans (TXT.out _ hk.rs.klen);have HK:=lh hk;clear hk hro))
 have hln:(kidOf md j++[nodeR0 5 (RT E i).at']).length=md.length+1:=HLN.out
 have hgt:(kidOf md j++[nodeR0 5 (RT E i).at']).getD md.length default=nodeR0 5 (RT E i).at':=by simp [List.getD,kidOf_len]
 have HP:=lh (RS.putf HK.out.rs hln.symm md.length (by omega) 2 (by decide) (.string s) ⟨5,(RT E i).at',s,0,[]⟩ (by rw [hgt];rfl) (by rw [hgt];rfl))
 have hset:(kidOf md j++[nodeR0 5 (RT E i).at']).set md.length ⟨5,(RT E i).at',s,0,[]⟩=kidOf md j++[⟨5,(RT E i).at',s,0,[]⟩]:=by
  rw [List.set_append_right _ _ (by rw [kidOf_len];exact Nat.le_refl _),kidOf_len,Nat.sub_self]
  rfl
 have FK:=lh ((S2.out.keep.drewN 1).trans HK.out).fq
 have FF:=lh (F2.out.trans ((FK.out.trans ((Fq.of_fr0 HP.out.2).mono FK.out.size)).mono F2.out.size))
 have HR:=lh HP.out.1
 rw [hset] at HR
 clear z5 t5 k3 c3 hln hgt hset
 go_wp2
 simp [bodyPost,results,Tryz.results165,go_sem]
 exact ⟨_,_,HR.out,FF.out⟩
theorem word_yes (h:RS E v kvs md i d 0 w)(j:Nat)(hj:j<md.length)(hroom:md.length+1≤1000000)(hkids:(md.getD j default).kids.length≤1000000)(ht:(RT E i).kind=1) :
 Calls Tryz.prog 165 #[.pointer (some ⟨E.b,0,none⟩),.int .i64 (j:Int)] w fun x w'=>x=.returned (.tuple #[])∧∃v' kvs',RS E v' kvs' (kidOf md j++[⟨5,(RT E i).at',(RT E i).txt,0,[]⟩]) (i+1) d 0 w'∧Fq E w.heap.size v kvs v' kvs' w w' :=
 word_of h j hj hroom hkids _ _ _ fun _ _ _ _ h2=>name_yes h2 ht
theorem word_no (h:RS E v kvs md i d 0 w)(j:Nat)(hj:j<md.length)(hroom:md.length+1≤1000000)(hkids:(md.getD j default).kids.length≤1000000)(ht:(RT E i).kind≠1) :
 Calls Tryz.prog 165 #[.pointer (some ⟨E.b,0,none⟩),.int .i64 (j:Int)] w fun x w'=>x=.returned (.tuple #[])∧∃v' kvs',RS E v' kvs' (kidOf md j++[⟨5,(RT E i).at',⟨#[]⟩,0,[]⟩]) i d 50 w'∧Fq E w.heap.size v kvs v' kvs' w w' :=
 word_of h j hj hroom hkids _ _ _ fun _ _ _ _ h2=>name_no h2 ht
theorem word_err (h:RS E v kvs md i d e w)(he:e≠0)(j:Nat)(hj:j<md.length)(hroom:md.length+1≤1000000)(hkids:(md.getD j default).kids.length≤1000000) :
 Calls Tryz.prog 165 #[.pointer (some ⟨E.b,0,none⟩),.int .i64 (j:Int)] w fun x w'=>x=.returned (.tuple #[])∧∃v' kvs',RS E v' kvs' (kidOf md j++[⟨5,(RT E i).at',⟨#[]⟩,0,[]⟩]) i d e w'∧Fq E w.heap.size v kvs v' kvs' w w' :=
 word_of h j hj hroom hkids _ _ _ fun _ _ _ _ h2=>name_err h2 he
end
end Rf
namespace Rf
open Go.RowKit
section
variable {E:Env}{v:Value}{kvs:List Value}{md:List Nd}{i:Nat}{d e:Int}{w:World}
theorem number_err (h:RS E v kvs md i d e w)(he:e≠0)(j:Nat)(hj:j<md.length)(hroom:md.length+1≤1000000)(hkids:(md.getD j default).kids.length≤1000000) :
 Calls Tryz.prog 284 #[.pointer (some ⟨E.b,0,none⟩),.int .i64 (j:Int)] w fun x w'=>x=.returned (.tuple #[])∧∃v' kvs',RS E v' kvs' (kidOf md j++[nodeR0 21 (RT E i).at']) i d e w'∧Fq E w.heap.size v kvs v' kvs' w w':=by
 have KD:=lh (kid_at h j hj (by omega) hkids)
 have HRM:=lh hroom
 have hb:(e != 0)=true:=by simpa using he
 have HE:=lh he
 clear h hj hkids he
 go_enter Tryz.func284,Tryz.ntmps284
 go_wp2_with fail
 (with_reducible refine KD.out.mono ?_)
 rintro x w1 ⟨rfl,kvs1,hs1,hf1⟩
 have F1:=lh hf1
 have ND:=lh (node_at hs1 21 (by rw [kidOf_len];exact HRM.out))
 clear hs1 hf1 KD
 go_wp2_with fail
 (with_reducible refine ND.out.mono ?_)
 rintro x w2 ⟨v2,rfl,hs2,hf2⟩
 rw [kidOf_len]
 have F2:=lh (F1.out.trans ((Fq.of_fr hf2 (nw_nil _)).mono F1.out.size))
 have S2:=lh hs2
 obtain ⟨_,_,_,_,c4⟩:=hs2.rowCells
 clear hs2 hf2 ND F1
 go_wp2_with fail
 go_quiet (fail)
 have FL:=lh (fail_err (S2.out.drewN nq) HE.out 50)
 go_wp2_with fail
 (with_reducible refine FL.out.mono ?_)
 rintro x w5 ⟨rfl,hk⟩
 have HK:=lh ((S2.out.keep.drewN nq).trans hk)
 have FF:=lh (F2.out.trans (HK.out.fq.mono F2.out.size))
 clear hk FL
 go_wp2
 simp [bodyPost,results,Tryz.results284,go_sem]
 exact ⟨_,_,HK.out.rs,FF.out⟩
theorem number_no (h:RS E v kvs md i d 0 w)(j:Nat)(hj:j<md.length)(hroom:md.length+1≤1000000)(hkids:(md.getD j default).kids.length≤1000000)(ht:(RT E i).kind≠2) :
 Calls Tryz.prog 284 #[.pointer (some ⟨E.b,0,none⟩),.int .i64 (j:Int)] w fun x w'=>x=.returned (.tuple #[])∧∃v' kvs',RS E v' kvs' (kidOf md j++[nodeR0 21 (RT E i).at']) i d 50 w'∧Fq E w.heap.size v kvs v' kvs' w w':=by
 have KD:=lh (kid_at h j hj (by omega) hkids)
 have HRM:=lh hroom
 have b0:(0:Int)≤(i:Int):=by omega
 have b1:(i:Int)<(E.toks.length:Int):=by have:=h.it;omega
 have hcap:=h.cap
 have hb:((RT E i).kind != 2)=true:=by simpa using ht
 clear h hj hkids ht
 go_enter Tryz.func284,Tryz.ntmps284
 go_wp2_with fail
 (with_reducible refine KD.out.mono ?_)
 rintro x w1 ⟨rfl,kvs1,hs1,hf1⟩
 have F1:=lh hf1
 have ND:=lh (node_at hs1 21 (by rw [kidOf_len];exact HRM.out))
 clear hs1 hf1 KD
 go_wp2_with fail
 (with_reducible refine ND.out.mono ?_)
 rintro x w2 ⟨v2,rfl,hs2,hf2⟩
 rw [kidOf_len]
 have F2:=lh (F1.out.trans ((Fq.of_fr hf2 (nw_nil _)).mono F1.out.size))
 have S2:=lh hs2
 obtain ⟨c0,c1,_,_,c4⟩:=hs2.rowCells
 obtain ⟨k0,_,_,_⟩:=hs2.tokCells
 clear hs2 hf2 ND F1
 generalize (RT E i).kind=kd at *
 go_wp2_with fail
 go_quiet (fail)
 have FL:=lh (fail_at (S2.out.drewN nq) 50)
 go_wp2_with fail
 (with_reducible refine FL.out.mono ?_)
 rintro x w5 ⟨rfl,hk⟩
 have HK:=lh ((S2.out.keep.drewN nq).trans hk)
 have FF:=lh (F2.out.trans (HK.out.fq.mono F2.out.size))
 clear hk FL
 go_wp2
 simp [bodyPost,results,Tryz.results284,go_sem]
 exact ⟨_,_,HK.out.rs,FF.out⟩
theorem number_yes (h:RS E v kvs md i d 0 w)(j:Nat)(hj:j<md.length)(hroom:md.length+1≤1000000)(hkids:(md.getD j default).kids.length≤1000000)(ht:(RT E i).kind=2) :
 Calls Tryz.prog 284 #[.pointer (some ⟨E.b,0,none⟩),.int .i64 (j:Int)] w fun x w'=>x=.returned (.tuple #[])∧∃v' kvs',RS E v' kvs' (kidOf md j++[⟨21,(RT E i).at',⟨#[]⟩,(RT E i).n,[]⟩]) (i+1) d 0 w'∧Fq E w.heap.size v kvs v' kvs' w w':=by
 have KD:=lh (kid_at h j hj (by omega) hkids)
 have HRM:=lh hroom
 have b0:(0:Int)≤(i:Int):=by omega
 have b1:(i:Int)<(E.toks.length:Int):=by have:=h.it;omega
 have hcap:=h.cap
 have HL:=lh (h.last i h.it (show (RT E i).kind≠4 by rw [ht];decide))
 have hb:((RT E i).kind != 2)=false:=by simp [ht]
 have h63:(i:Int)+1≤9223372036854775807:=by have:=h.it;have:=h.few;omega
 clear h hj hkids ht
 go_enter Tryz.func284,Tryz.ntmps284
 go_wp2_with fail
 (with_reducible refine KD.out.mono ?_)
 rintro x w1 ⟨rfl,kvs1,hs1,hf1⟩
 have F1:=lh hf1
 have ND:=lh (node_at hs1 21 (by rw [kidOf_len];exact HRM.out))
 clear hs1 hf1 KD
 go_wp2_with fail
 (with_reducible refine ND.out.mono ?_)
 rintro x w2 ⟨v2,rfl,hs2,hf2⟩
 rw [kidOf_len]
 have F2:=lh (F1.out.trans ((Fq.of_fr hf2 (nw_nil _)).mono F1.out.size))
 have S2:=lh hs2
 obtain ⟨g,cap,rfl,_,_⟩:=hs2.own.form (by simp)
 have hlen:(kidOf md j++[nodeR0 21 (RT E i).at']).length=md.length+1:=by simp [kidOf_len]
 have HLN:=lh hlen
 have hs3:=hs2
 rw [hlen] at hs3
 rw [hlen] at F2 S2
 obtain ⟨c0,c1,_,c3,c4⟩:=hs3.rowCells
 obtain ⟨k0,_,_,k4⟩:=hs3.tokCells
 have hro:=hs3.own
 rw [hlen] at hro
 have z5:=hro.frozenAt (md.length*5+3)
 have t5:=hro.cellAt (md.length*5+3) (by omega)
 rw [cellsM_get _ _ hs3.klen md.length (by simp [kidOf_len]) 3 (by decide)] at t5
 have hgt:(kidOf md j++[nodeR0 21 (RT E i).at']).getD md.length default=nodeR0 21 (RT E i).at':=by simp [List.getD,kidOf_len]
 rw [hgt] at t5
 simp only [nodeC,nodeR0,List.getElem?_cons_succ,List.getElem?_cons_zero] at t5
 have m0:(0:Int)≤(md.length:Int):=by omega
 have m1:(md.length:Int)<(md.length:Int)+1:=by omega
 clear hs2 hs3 hf2 ND F1 hro hlen
 have HP:=lh (fun n=>RS.putf (S2.out.drewN n) HLN.out.symm md.length (by rw [HLN.out];omega) 3 (by decide) (.int .i64 (RT E i).n) ⟨21,(RT E i).at',⟨#[]⟩,(RT E i).n,[]⟩ (by rw [hgt];rfl) (by rw [hgt];rfl))
 have hset:(kidOf md j++[nodeR0 21 (RT E i).at']).set md.length ⟨21,(RT E i).at',⟨#[]⟩,(RT E i).n,[]⟩=kidOf md j++[⟨21,(RT E i).at',⟨#[]⟩,(RT E i).n,[]⟩]:=by
  rw [List.set_append_right _ _ (by rw [kidOf_len];exact Nat.le_refl _),kidOf_len,Nat.sub_self]
  rfl
 generalize (RT E i).kind=kd at *
 go_wp2_with fail
 go_quiet (fail)
 go_wp2_with fail
 go_region_law (fail)
 all_goals
  have HR:=lh (HP.out (nq+1)).1
  have HF:=lh (HP.out (nq+1)).2
  rw [hset] at HR
  have HK:=lh (HR.out.keep.field 1 (.int .i64 ((i:Int)+1)) (i':=i+1) (d':=d) (e':=0) HL.out HR.out.dd (by simp))
  obtain ⟨_,r1,_,_,_⟩:=HR.out.rowCells
  have zr:=HR.out.fz
  have FF:=lh (F2.out.trans (((S2.out.keep.drewN (nq+1)).fq.trans ((Fq.of_fr0 (kvs:=kvs1++[.slice none 0 0]) HF.out).mono (by exact Nat.le_refl _))).mono F2.out.size))
  have FG:=lh (FF.out.trans (HK.out.fq.mono FF.out.size))
  clear c0 c1 c3 c4 k0 k4 z5 t5 HP HF FF
  go_wp2
  simp [bodyPost,results,Tryz.results284,go_sem]
  exact ⟨_,_,HK.out.rs,FG.out⟩
end
end Rf
namespace Rf
open Go.RowKit
theorem bbeq (a s:ByteArray):(a==s)=decide (a=s):=by
 rcases a with ⟨x⟩
 rcases s with ⟨y⟩
 show (x==y)=_
 by_cases h:x=y
 · subst h;simp
 · rw [decide_eq_false (fun e=>h (by injection e))]
   simpa using h
theorem idx_step (l:List ByteArray)(s dflt:ByteArray)(k:Nat)(hk:k<l.length)(h:k≤l.idxOf s):(l.getD k dflt=s→l.idxOf s=k)∧(l.getD k dflt≠s→k+1≤l.idxOf s):=by
 induction l generalizing k with
 | nil=>simp at hk
 | cons a r ih =>
  rw [List.idxOf_cons] at h ⊢
  by_cases ha:a=s
  · subst ha
    rw [show (a==a)=true by rw [bbeq];simp] at h ⊢
    simp only [cond_true] at h ⊢
    obtain rfl:k=0:=by omega
    simp
  · have hb:(a==s)=false:=by rw [bbeq];exact decide_eq_false ha
    rw [hb] at h ⊢
    simp only [cond_false] at h ⊢
    cases k with
    | zero=>exact ⟨fun e=>absurd (by simpa using e) ha,fun _=>by omega⟩
    | succ k =>
     have:=ih k (by simpa using hk) (by omega)
     simp only [List.getD_cons_succ]
     exact ⟨fun e=>by rw [this.1 e],fun e=>by have:=this.2 e;omega⟩
def kindW (s:ByteArray):Nat:=if words13.idxOf s<13 then 7+words13.idxOf s else 0
abbrev C13:Array Value:=#[.string ⟨#[114,101,97,100]⟩,.string ⟨#[115,101,116]⟩,.string ⟨#[112,117,116]⟩,.string ⟨#[100,101,108,101,116,101]⟩,.string ⟨#[115,99,97,110]⟩,.string ⟨#[108,111,99,107]⟩,.string ⟨#[114,101,108,101,97,115,101]⟩,.string ⟨#[105,102]⟩,.string ⟨#[102,111,114]⟩,.string ⟨#[108,101,116]⟩,.string ⟨#[101,109,105,116]⟩,.string ⟨#[114,111,108,108,98,97,99,107]⟩,.string ⟨#[99,104,111,112]⟩]
theorem c13_get (w:World)(k:Nat)(hk:k<13):(w.alloc (.cells C13 9)).cell? ⟨w.heap.size,k,none⟩=some (.string (words13.getD k none0)):=by
 rw [cell_of_row (w.alloc (.cells C13 9)) w.heap.size k C13 9 (0,0) (heap_alloc_new w _)]
 rcases (by omega:k=0∨k=1∨k=2∨k=3∨k=4∨k=5∨k=6∨k=7∨k=8∨k=9∨k=10∨k=11∨k=12) with rfl|rfl|rfl|rfl|rfl|rfl|rfl|rfl|rfl|rfl|rfl|rfl|rfl<;>rfl
theorem kind_at (w:World)(s:ByteArray):Calls Tryz.prog 255 #[.string s] w fun x w'=>x=.returned (.int .u8 ((kindW s:Nat):Int))∧w'=w.alloc (.cells C13 9):=by
 go_enter Tryz.func255,Tryz.ntmps255
 go_wp2_with fail
 obtain ⟨W1,hW1⟩:∃W1,w.alloc (.cells C13 9)=W1:=⟨_,rfl⟩
 have HC:=lh (c13_get w)
 rw [hW1] at HC ⊢
 go_loopw [4] (fun iv wr=>∃k:Nat,k≤13∧iv=.int .i64 k∧Hid (k≤words13.idxOf s)∧wr=W1) (fun iv _=>13-(intOf iv).toNat)
 case atStart=>exact ⟨0,by omega,rfl,lh (Nat.zero_le _),rfl⟩
 case round =>
  obtain ⟨k,hk,rfl,HI,hwr⟩:=hrel
  subst hwr
  by_cases hlt:k<13
  · have c:=HC.out k hlt
    have HS:=lh (idx_step words13 s none0 k hlt HI.out)
    generalize words13.getD k none0=t at *
    have HB:=lh (beq_str t s)
    have b0:(0:Int)≤(k:Int):=by omega
    have b1:(k:Int)<13:=by omega
    by_cases ht:t=s
    · have HK:Hid (kindW s=7+k):=lh (by unfold kindW;rw [HS.out.1 ht,if_pos hlt])
      have hb:(t.toList==s.toList)=true:=by rw [HB.out];exact decide_eq_true ht
      have hw:IntKind.u8.wrap (7+(k:Int))=7+(k:Int):=IntWalk.u8_in _ (by omega)
      clear ht
      go_wp2
      go_ret
      exact ⟨by rw [HK.out];rfl,hW1.symm⟩
    · have HI2:=lh (HS.out.2 ht)
      have hb:(t.toList==s.toList)=false:=by rw [HB.out];exact decide_eq_false ht
      clear ht
      go_wp2_with fail
      go_roundw
      case rel=>exact ⟨k+1,by omega,by go_num,HI2,trivial⟩
      case measure=>simp [intOf];omega
  · have HK:Hid (kindW s=0):=lh (by unfold kindW;rw [if_neg (by have:=HI.out;omega)])
    have hk13:k=13:=by omega
    subst hk13
    go_wp2
    go_ret
    exact ⟨by rw [HK.out];rfl,hW1.symm⟩
end Rf
namespace Rf
open Go.RowKit
mutual
def ExprV (W:World)(P:Nat→Prop):Ast→Value→Prop
 | .mk k a t n ks,v=>∃kv,v=.agg #[.int .u8 k,.int .i64 (a:Int),.string t,.int .i64 n,kv]∧((ks=[]∧kv=.slice none 0 0)∨∃b,P b∧b<W.heap.size∧kv=.slice (some ⟨b,0,none⟩) ks.length ks.length∧ExprL W P b 0 ks)
def ExprL (W:World)(P:Nat→Prop)(b:Nat):Nat→List Ast→Prop
 | _,[]=>True
 | j,x::r=>(∃c0 c1 c2 c3 c4,ExprV W P x (.agg #[c0,c1,c2,c3,c4])∧W.cell? ⟨b,j*5,none⟩=some c0∧W.cell? ⟨b,j*5+1,none⟩=some c1∧W.cell? ⟨b,j*5+2,none⟩=some c2∧W.cell? ⟨b,j*5+3,none⟩=some c3∧W.cell? ⟨b,j*5+4,none⟩=some c4)∧ExprL W P b (j+1) r
end
mutual
theorem ExprV.on {W W':World}{P P':Nat→Prop}(hs:W.heap.size≤W'.heap.size)(hb:∀k,P k→k<W.heap.size→W'.heap[k]?=W.heap[k]?)(hp:∀k,P k→k<W.heap.size→P' k):∀(a:Ast) (v:Value),ExprV W P a v→ExprV W' P' a v
 | .mk k a t n ks,v,h=>by
  simp only [ExprV] at h ⊢
  obtain ⟨kv,hv,h⟩:=h
  refine ⟨kv,hv,?_⟩
  rcases h with h|⟨b,h1,h2,h3,h4⟩
  · exact Or.inl h
  · exact Or.inr ⟨b,hp b h1 h2,Nat.lt_of_lt_of_le h2 hs,h3,ExprL.on hs hb hp b h1 h2 0 ks h4⟩
theorem ExprL.on {W W':World}{P P':Nat→Prop}(hs:W.heap.size≤W'.heap.size)(hb:∀k,P k→k<W.heap.size→W'.heap[k]?=W.heap[k]?)(hp:∀k,P k→k<W.heap.size→P' k)(b:Nat)(h1:P b)(h2:b<W.heap.size):∀(j:Nat) (l:List Ast),ExprL W P b j l→ExprL W' P' b j l
 | _,[],_=>by simp only [ExprL]
 | j,x::r,h=>by
  simp only [ExprL] at h ⊢
  obtain ⟨⟨c0,c1,c2,c3,c4,hx,e0,e1,e2,e3,e4⟩,hr⟩:=h
  have hc:∀o,W'.cell? ⟨b,o,none⟩=W.cell? ⟨b,o,none⟩:=fun o=>World.cell?_of_block (w:=W) (a:=⟨b,o,none⟩) (hb b h1 h2)
  exact ⟨⟨c0,c1,c2,c3,c4,ExprV.on hs hb hp x _ hx,by rw [hc];exact e0,by rw [hc];exact e1,by rw [hc];exact e2,by rw [hc];exact e3,by rw [hc];exact e4⟩,ExprL.on hs hb hp b h1 h2 (j+1) r hr⟩
end
def ExprS (v:Value):Prop:=∃(k:Int) (a:Int) (t:ByteArray) (n:Int) (p:Option Addr) (l c:Nat),v=.agg #[.int .u8 k,.int .i64 a,.string t,.int .i64 n,.slice p l c]
theorem ExprV.shape {W:World}{P:Nat→Prop}{a:Ast}{v:Value}(h:ExprV W P a v):ExprS v:=by
 cases a with
 | mk k a t n ks =>
  simp only [ExprV] at h
  obtain ⟨kv,rfl,h⟩:=h
  rcases h with ⟨_,rfl⟩|⟨b,_,_,rfl,_⟩
  · exact ⟨k,a,t,n,_,_,_,rfl⟩
  · exact ⟨k,a,t,n,_,_,_,rfl⟩
section
variable {E:Env}{v:Value}{kvs:List Value}{md:List Nd}{i:Nat}{d e:Int}{w:World}
theorem ExprV.fq {v':Value}{kvs':List Value}{w':World}{a:Ast}{x:Value}(h:ExprV w (Loc E v kvs) a x)(hf:Fq E w.heap.size v kvs v' kvs' w w'):ExprV w' (Loc E v' kvs') a x :=
 ExprV.on hf.size (fun k hk hl=>hf.block k hl hk) (fun k hk hl=>hf.loc k hl hk) a x h
theorem ExprV.leaf (W:World)(P:Nat→Prop)(k:Int)(a:Nat)(t:ByteArray)(n:Int):ExprV W P (.mk k a t n []) (.agg #[.int .u8 k,.int .i64 (a:Int),.string t,.int .i64 n,.slice none 0 0]):=by
 unfold ExprV
 exact ⟨_,rfl,Or.inl ⟨rfl,rfl⟩⟩
theorem RS.fresh (h:RS E v kvs md i d e w):Loc E v kvs w.heap.size :=
 ⟨h.lt,fun e=>by have:=(h.vlt _ e).2;omega,fun x hx e=>by have:=(h.klt x hx _ e).2;omega⟩
theorem RS.lcl (h:RS E v kvs md i d e w)(o:Obj):Lcl E v kvs w.heap.size o (w.alloc o) :=
 ⟨h.fresh,by simp,by show (w.heap.push o)[w.heap.size]?=_;simp⟩
theorem Lcl.drew' {q:Nat}{o:Obj}(h:Lcl E v kvs q o w):Lcl E v kvs q o w.drew:=⟨h.loc,h.lt,h.obj⟩
end
end Rf
namespace Rf
open Go.RowKit
section
variable {E:Env}{v:Value}{kvs:List Value}{md:List Nd}{i:Nat}{d e:Int}{w:World}
theorem fh (h:RS E v kvs md i d e w)(o:Obj):Hid (RS E v kvs md i d e (w.alloc o))∧Hid (Fr E w.heap.size v v w (w.alloc o))∧(w.alloc o).cell? ⟨E.b,0,none⟩=some (.slice (some ⟨E.g,0,none⟩) E.toks.length E.cap)∧(w.alloc o).cell? ⟨E.b,1,none⟩=some (.int .i64 (i:Int))∧(w.alloc o).cell? ⟨E.b,4,none⟩=some (.int .i64 e)∧(w.alloc o).cell? ⟨E.g,i*5,none⟩=some (.int .u8 (RT E i).kind)∧(w.alloc o).cell? ⟨E.g,i*5+1,none⟩=some (.int .i64 ((RT E i).at':Int))∧(w.alloc o).cell? ⟨E.g,i*5+3,none⟩=some (.string (RT E i).txt)∧(w.alloc o).cell? ⟨E.g,i*5+4,none⟩=some (.int .i64 (RT E i).n)∧∃ST:Nat,(w.alloc o).cell? ⟨E.g,i*5+2,none⟩=some (.int .i64 (ST:Int)):=by
 have hA:=h.alloc o
 obtain ⟨c0,c1,_,_,c4⟩:=hA.rowCells
 obtain ⟨k0,k1,k3,k4⟩:=hA.tokCells
 exact ⟨hA,(Fr.refl E w.heap.size v w).alloc (Nat.le_refl _) o,c0,c1,c4,k0,k1,k3,k4,_,hA.tok i 2 _ hA.it rfl⟩
theorem fg {o:Obj}(HA:Hid (RS E v kvs md i d e (w.alloc o)))(HF:Hid (Fr E w.heap.size v v w (w.alloc o)))(HS0:Hid (RS E v kvs md i d e w))(o1:Obj):∃W1,((w.alloc o).alloc o1).drew=W1∧Hid (Lcl E v kvs w.heap.size o W1)∧Hid (Lcl E v kvs (w.heap.size+1) o1 W1)∧Hid (RS E v kvs md i d e W1)∧Hid (Fr E w.heap.size v v w W1):=by
 have L1:=Lcl.drew' (HA.out.lcl o1)
 rw [World.size_alloc] at L1
 exact ⟨_,rfl,Lcl.drew' ((HS0.out.lcl o).alloc o1),L1,(HA.out.alloc o1).drewN 1,(HF.out.alloc (by simp) o1).drewN 1⟩
end
section
variable {E:Env}{v:Value}{kvs:List Value}{md:List Nd}{i:Nat}{d e:Int}{w:World}
theorem factor_err (h:RS E v kvs md i d e w)(he:e≠0):Calls Tryz.prog 293 #[.pointer (some ⟨E.b,0,none⟩)] w fun x w'=>∃ev,x=.returned ev∧ExprS ev∧Kp E v kvs md i d e w w':=by
 have b0:(0:Int)≤(i:Int):=by omega
 have b1:(i:Int)<(E.toks.length:Int):=by have:=h.it;omega
 have hcap:=h.cap
 have hb:(e != 0)=true:=by simpa using he
 obtain ⟨HA,HF,c0,c1,c4,k0,k1,k3,k4,ST,k2⟩:=fh h (.cells #[.int .u8 0,.int .i64 0,.string ⟨#[]⟩,.int .i64 0,.slice none 0 0] 317)
 have HS0:=lh h
 clear h he
 go_enter Tryz.func293,Tryz.ntmps293
 go_wp2_with fail
 go_region_held3 (fun w'=>w'.cell? ⟨E.b,0,none⟩=some (.slice (some ⟨E.g,0,none⟩) E.toks.length E.cap)∧w'.cell? ⟨E.b,1,none⟩=some (.int .i64 (i:Int))∧w'.cell? ⟨E.g,i*5,none⟩=some (.int .u8 (RT E i).kind)∧w'.cell? ⟨E.g,i*5+1,none⟩=some (.int .i64 ((RT E i).at':Int))∧w'.cell? ⟨E.g,i*5+2,none⟩=some (.int .i64 (ST:Int))∧w'.cell? ⟨E.g,i*5+3,none⟩=some (.string (RT E i).txt)∧w'.cell? ⟨E.g,i*5+4,none⟩=some (.int .i64 (RT E i).n)) (go_keep) (first|fail)
 generalize (RT E i).kind=kd at *
 generalize (RT E i).at'=aa at *
 generalize (RT E i).txt=tx at *
 generalize (RT E i).n=nn at *
 obtain ⟨W1,hW1,L0,L1,HS1,HF1⟩:=fg HA HF HS0 (.cells #[.int .u8 kd,.int .i64 (aa:Int),.int .i64 (ST:Int),.string tx,.int .i64 nn] 160)
 rw [hW1]
 have hs1:w.heap.size<W1.heap.size:=L0.out.lt
 clear hW1 k0 k1 k2 k3 k4 c0 c1 c4 HA HF
 have g1:=L1.out.cell 1 rfl
 have g3:=L1.out.cell 3 rfl
 obtain ⟨_,_,_,_,c4⟩:=(HS1.out.alloc (.cells #[.int .u8 0,.int .i64 (aa:Int),.string tx,.int .i64 0,.slice none 0 0] 317)).rowCells
 have M0:=lh (L0.out.alloc (.cells #[.int .u8 0,.int .i64 (aa:Int),.string tx,.int .i64 0,.slice none 0 0] 317))
 have M2:=lh (HS1.out.lcl (.cells #[.int .u8 0,.int .i64 (aa:Int),.string tx,.int .i64 0,.slice none 0 0] 317))
 have HS2:=lh (HS1.out.alloc (.cells #[.int .u8 0,.int .i64 (aa:Int),.string tx,.int .i64 0,.slice none 0 0] 317))
 have HF2:=lh (HF1.out.alloc (by omega) (.cells #[.int .u8 0,.int .i64 (aa:Int),.string tx,.int .i64 0,.slice none 0 0] 317))
 have m0:=L0.out.cell 0 rfl
 have m1:=L0.out.cell 1 rfl
 have m2:=L0.out.cell 2 rfl
 have m3:=L0.out.cell 3 rfl
 have m4:=L0.out.cell 4 rfl
 have mz:=L0.out.fz
 have R:=lh ((L0.out.set5 (.int .u8 0) (.int .i64 (aa:Int)) (.string tx) (.int .i64 0) (.slice none 0 0)).alloc (.cells #[.int .u8 0,.int .i64 (aa:Int),.string tx,.int .i64 0,.slice none 0 0] 317))
 have RR:=lh ((((((HS1.out.set (a:=⟨w.heap.size,0,none⟩) L0.out.loc (.int .u8 0)).set (a:=⟨w.heap.size,1,none⟩) L0.out.loc (.int .i64 (aa:Int))).set (a:=⟨w.heap.size,2,none⟩) L0.out.loc (.string tx)).set (a:=⟨w.heap.size,3,none⟩) L0.out.loc (.int .i64 0)).set (a:=⟨w.heap.size,4,none⟩) L0.out.loc (.slice none 0 0)).alloc (.cells #[.int .u8 0,.int .i64 (aa:Int),.string tx,.int .i64 0,.slice none 0 0] 317))
 have RF:=lh ((HF1.out.set5 (by omega) (q:=w.heap.size) (Nat.le_refl _) (.int .u8 0) (.int .i64 (aa:Int)) (.string tx) (.int .i64 0) (.slice none 0 0)).alloc (by simp [size_set];omega) (.cells #[.int .u8 0,.int .i64 (aa:Int),.string tx,.int .i64 0,.slice none 0 0] 317))
 have hq:w.heap.size≠W1.heap.size:=by omega
 have hq2:¬ W1.heap.size=w.heap.size:=by omega
 go_wp2_with fail
 generalize ((((((W1.setCell ⟨w.heap.size,0,none⟩ (.int .u8 0)).setCell ⟨w.heap.size,1,none⟩ (.int .i64 (aa:Int))).setCell ⟨w.heap.size,2,none⟩ (.string tx)).setCell ⟨w.heap.size,3,none⟩ (.int .i64 0)).setCell ⟨w.heap.size,4,none⟩ (.slice none 0 0)).alloc (.cells #[.int .u8 0,.int .i64 (aa:Int),.string tx,.int .i64 0,.slice none 0 0] 317))=Wz at *
 clear m0 m1 m2 m3 m4 mz c4
 have r0:=R.out.cell 0 rfl
 have r1:=R.out.cell 1 rfl
 have r2:=R.out.cell 2 rfl
 have r3:=R.out.cell 3 rfl
 have r4:=R.out.cell 4 rfl
 simp [bodyPost,results,Tryz.results293,go_sem,r0,r1,r2,r3,r4]
 exact ⟨⟨_,_,_,_,_,_,_,rfl⟩,RR.out,RF.out⟩
end
end Rf
namespace Rf
open Go.RowKit Par
def then' {α β:Type}(R:Res α)(f:α→Par β):Res β:=match R with
 | .err p c=>.err p c
 | .ok a l=>f a l
def skp {α β:Type}(R:Res α)(f:Par β):Res α:=then' R fun a=>Par.bind f fun _=>Par.pure a
def knd (R:Res (List Ast))(f:Par Ast):Res (List Ast):=then' R fun ks=>Par.bind f fun x=>Par.pure (ks++[x])
def nxt {α:Type}(R:Res α)(s:ByteArray):Bool:=match R with
 | .ok _ (t::_)=>decide (t.txt=s)
 | _=>false
def hdk {α:Type}(R:Res α):Int:=match R with
 | .ok _ (t::_)=>t.kind
 | _=>0
def hdt {α:Type}(R:Res α):ByteArray:=match R with
 | .ok _ (t::_)=>t.txt
 | _=>none0
def hda {α:Type}(R:Res α):Nat:=match R with
 | .ok _ (t::_)=>t.at'
 | _=>0
def hdn {α:Type}(R:Res α):Int:=match R with
 | .ok _ (t::_)=>t.n
 | _=>0
theorem then_ok {α β:Type}(a:α)(l:List PT)(f:α→Par β):then' (.ok a l) f=f a l:=rfl
theorem bind_then {α β:Type}(f:Par α)(g:α→Par β)(l:List PT):Par.bind f g l=then' (f l) g:=by
 simp only [Par.bind,then']
 cases f l<;>rfl
theorem then_then {α β γ:Type}(R:Res α)(f:α→Par β)(g:β→Par γ):then' (then' R f) g=then' R fun a=>Par.bind (f a) g:=by
 cases R with
 | err p c=>rfl
 | ok a l=>simp only [then',bind_then]
section
variable {α β:Type}{E:Env}{v:Value}{kvs:List Value}{md:List Nd}{i:Nat}{d e:Int}{w w':World}{R:Res α}
def At (E:Env)(v:Value)(kvs:List Value)(md:List Nd)(d:Int)(R:Res α)(w:World):Prop:=match R with
 | .ok _ l=>∃i,l=E.pts.drop i∧RS E v kvs md i d 0 w
 | .err p c=>∃i d',d≤d'∧c≠0∧(RT E i).at'=p∧RS E v kvs md i d' c w
theorem At.rs (h:At E v kvs md d R w):∃i d' e',d≤d'∧RS E v kvs md i d' e' w:=by
 cases R with
 | ok a l=>obtain ⟨i,_,h⟩:=h;exact ⟨i,d,0,Int.le_refl _,h⟩
 | err p c=>obtain ⟨i,d',h1,_,_,h⟩:=h;exact ⟨i,d',c,h1,h⟩
theorem At.map (h:At E v kvs md d R w)(hs:∀i d' e',RS E v kvs md i d' e' w→RS E v kvs md i d' e' w'):At E v kvs md d R w':=by
 cases R with
 | ok a l=>obtain ⟨i,h1,h⟩:=h;exact ⟨i,h1,hs _ _ _ h⟩
 | err p c=>obtain ⟨i,d',h1,h2,h3,h⟩:=h;exact ⟨i,d',h1,h2,h3,hs _ _ _ h⟩
theorem At.drewN (h:At E v kvs md d R w)(n:Nat):At E v kvs md d R (w.drewN n):=h.map fun _ _ _ h=>h.drewN n
theorem At.drew (h:At E v kvs md d R w):At E v kvs md d R w.drew:=h.drewN 1
theorem At.alloc (h:At E v kvs md d R w)(o:Obj):At E v kvs md d R (w.alloc o):=h.map fun _ _ _ h=>h.alloc o
theorem At.set (h:At E v kvs md d R w){a:Addr}(ha:Loc E v kvs a.block)(u:Value):At E v kvs md d R (w.setCell a u):=h.map fun _ _ _ h=>h.set ha u
theorem At.fresh (h:At E v kvs md d R w):Loc E v kvs w.heap.size:=by obtain ⟨i,d',e',_,h⟩:=h.rs;exact h.fresh
theorem At.lcl (h:At E v kvs md d R w)(o:Obj):Lcl E v kvs w.heap.size o (w.alloc o):=by obtain ⟨i,d',e',_,h⟩:=h.rs;exact h.lcl o
theorem At.yes (h:At E v kvs md d R w){s:ByteArray}(hn:s≠none0)(hy:nxt R s=true):∃a i,R=.ok a (RT E i::E.pts.drop (i+1))∧RS E v kvs md i d 0 w∧(RT E i).txt=s∧i+1<E.toks.length:=by
 cases R with
 | err p c=>simp [nxt] at hy
 | ok a l =>
  obtain ⟨i,rfl,h⟩:=h
  rw [h.drop] at hy ⊢
  simp only [nxt,decide_eq_true_eq] at hy
  exact ⟨a,i,rfl,h,hy,h.last i h.it (pt_no4 h.ptOk s hn hy)⟩
theorem At.ok_of {a:α}{l:List PT}(h:At E v kvs md d (.ok a l) w):∃i,l=RT E i::E.pts.drop (i+1)∧RS E v kvs md i d 0 w:=by
 obtain ⟨i,rfl,h⟩:=h
 exact ⟨i,h.drop,h⟩
theorem At.of_ok (a:α)(h:RS E v kvs md i d 0 w):At E v kvs md d (.ok a (E.pts.drop i):Res α) w:=⟨i,rfl,h⟩
theorem At.of_err {c d':Int}(p:Nat)(hd:d≤d')(hc:c≠0)(hp:(RT E i).at'=p)(h:RS E v kvs md i d' c w):At E v kvs md d (.err p c:Res α) w:=⟨i,d',hd,hc,hp,h⟩
theorem take_R (h:At E v kvs md d R w)(s:ByteArray)(hs:¬ (48≤head0 s∧head0 s≤57))(hn:s≠none0):Calls Tryz.prog 164 #[.pointer (some ⟨E.b,0,none⟩),.string s] w fun x w'=>x=.returned (.tuple #[])∧At E v kvs md d (skp R (expectP s)) w'∧Fr E w.heap.size v v w w':=by
 cases R with
 | err p c =>
  obtain ⟨i,d',h1,h2,h3,h⟩:=h
  refine (take_err h h2 s).mono ?_
  rintro x w' ⟨rfl,hk⟩
  exact ⟨rfl,⟨i,d',h1,h2,h3,hk.rs⟩,hk.fr⟩
 | ok a l =>
  obtain ⟨i,rfl,h1⟩:=h.ok_of
  by_cases ht:(RT E i).txt=s
  · refine (take_yes h1 s hs hn ht).mono ?_
    rintro x w' ⟨rfl,hk⟩
    refine ⟨rfl,?_,hk.fr⟩
    simp only [skp,then',Par.bind,expectP,if_pos ht,Par.pure]
    exact ⟨_,rfl,hk.rs⟩
  · refine (take_no h1 s hs hn ht).mono ?_
    rintro x w' ⟨rfl,hk⟩
    refine ⟨rfl,?_,hk.fr⟩
    simp only [skp,then',Par.bind,expectP,if_neg ht]
    exact ⟨_,d,Int.le_refl _,by decide,rfl,hk.rs⟩
theorem is_R (h:At E v kvs md d R w)(s:ByteArray)(hs:¬ (48≤head0 s∧head0 s≤57))(hn:s≠none0):Calls Tryz.prog 95 #[.pointer (some ⟨E.b,0,none⟩),.string s] w fun x w'=>x=.returned (.bool (nxt R s))∧∃m,w'=w.drewN m:=by
 cases R with
 | err p c =>
  obtain ⟨i,d',h1,h2,h3,h⟩:=h
  exact is_err h h2 s
 | ok a l =>
  obtain ⟨i,rfl,h1⟩:=h.ok_of
  exact is_at h1 s hs hn
theorem fail_R (h:At E v kvs md d R w):Calls Tryz.prog 98 #[.pointer (some ⟨E.b,0,none⟩),.int .i64 50] w fun x w'=>x=.returned (.tuple #[])∧At E v kvs md d (then' R fun _=>(failP:Par β)) w'∧Fr E w.heap.size v v w w':=by
 cases R with
 | err p c =>
  obtain ⟨i,d',h1,h2,h3,h⟩:=h
  refine (fail_err h h2 50).mono ?_
  rintro x w' ⟨rfl,hk⟩
  exact ⟨rfl,⟨i,d',h1,h2,h3,hk.rs⟩,hk.fr⟩
 | ok a l =>
  obtain ⟨i,rfl,h1⟩:=h.ok_of
  refine (fail_at h1 50).mono ?_
  rintro x w' ⟨rfl,hk⟩
  exact ⟨rfl,⟨i,d,Int.le_refl _,by decide,rfl,hk.rs⟩,hk.fr⟩
theorem name_R (h:At E v kvs md d R w):Calls Tryz.prog 163 #[.pointer (some ⟨E.b,0,none⟩)] w fun x w'=>∃s,x=.returned (.string s)∧(hdk R=1→s=hdt R)∧At E v kvs md d (skp R (takeP 1)) w'∧Fr E w.heap.size v v w w':=by
 cases R with
 | err p c =>
  obtain ⟨i,d',h1,h2,h3,h⟩:=h
  refine (name_err h h2).mono ?_
  rintro x w' ⟨rfl,hk⟩
  exact ⟨_,rfl,fun e=>by simp [hdk] at e,⟨i,d',h1,h2,h3,hk.rs⟩,hk.fr⟩
 | ok a l =>
  obtain ⟨i,rfl,h1⟩:=h.ok_of
  by_cases ht:(RT E i).kind=1
  · refine (name_yes h1 ht).mono ?_
    rintro x w' ⟨rfl,hk⟩
    refine ⟨_,rfl,fun _=>rfl,?_,hk.fr⟩
    simp only [skp,then',Par.bind,takeP,if_pos ht,Par.pure]
    exact ⟨_,rfl,hk.rs⟩
  · refine (name_no h1 ht).mono ?_
    rintro x w' ⟨rfl,hk⟩
    refine ⟨_,rfl,fun e=>absurd e ht,?_,hk.fr⟩
    simp only [skp,then',Par.bind,takeP,if_neg ht]
    exact ⟨_,d,Int.le_refl _,by decide,rfl,hk.rs⟩
end
end Rf
namespace Rf
open Go.RowKit Par
theorem size_pos (a:Ast):1≤a.size:=by cases a with|mk k a t n ks=>simp only [Ast.size];omega
theorem len_size (ks:List Ast):ks.length≤sizeL ks:=by
 induction ks with
 | nil=>simp [sizeL]
 | cons a r ih=>have:=size_pos a;simp only [List.length_cons,sizeL];omega
def Sh (p:List Nd)(k:Int)(a:Nat)(t:ByteArray)(n:Int)(Q B:Nat)(R:Res (List Ast))(md:List Nd):Prop:=match R with
 | .ok ks l=>p.length+1+sizeL ks+l.length≤Q∧md=openN p k a t n ks
 | .err _ _=>∃nd rest,md=p++nd::rest∧nd.kids.length≤B∧md.length≤B
def Opn (p:List Nd)(k:Int)(a:Nat)(t:ByteArray)(n:Int)(Q B:Nat)(R:Res (List Ast))(md:List Nd):Prop:=match R with
 | .ok ks l=>p.length+1+sizeL ks+l.length≤Q∧md=kidN p k a t n ks
 | .err _ _=>∃nd rest,md=p++nd::rest∧nd.kids.length≤B+1∧md.length≤B
def In (E:Env)(p:List Nd)(k:Int)(a:Nat)(t:ByteArray)(n:Int)(d:Int)(Q B:Nat)(R:Res (List Ast))(w:World):Prop:=∃v kvs md,Sh p k a t n Q B R md∧At E v kvs md d R w
section
variable {p:List Nd}{k:Int}{a:Nat}{t:ByteArray}{n:Int}{Q B:Nat}{R:Res (List Ast)}{md:List Nd}
theorem Sh.any (h:Sh p k a t n Q B R md)(hQ:Q≤B):∃nd rest,md=p++nd::rest∧nd.kids.length≤B∧md.length≤B:=by
 cases R with
 | err q c=>exact h
 | ok ks l =>
  obtain ⟨h1,rfl⟩:=h
  have:=len_size ks
  exact ⟨_,_,rfl,by simp only [heads_length];omega,by rw [open_len];omega⟩
theorem Sh.lt (h:Sh p k a t n Q B R md):p.length<md.length:=by
 cases R with
 | err q c=>obtain ⟨nd,rest,rfl,_⟩:=h;simp
 | ok ks l=>obtain ⟨h1,rfl⟩:=h;rw [open_len];omega
theorem Sh.skp {β:Type}{f:Par β}(hf:Less f)(h:Sh p k a t n Q B R md)(hQ:Q≤B):Sh p k a t n Q B (skp R f) md:=by
 cases R with
 | err q c=>exact h
 | ok ks l =>
  simp only [Rf.skp,then',Par.bind]
  cases hl:f l with
  | err q c=>exact h.any hQ
  | ok b l' =>
   have:=hf l b l' hl
   exact ⟨by have:=h.1;omega,h.2⟩
theorem Sh.skpT {β:Type}{f:Par β}(hf:Takes f)(h:Sh p k a t n (Q+1) B R md)(hQ:Q+1≤B):Sh p k a t n Q B (Rf.skp R f) md:=by
 cases R with
 | err q c=>exact h
 | ok ks l =>
  simp only [Rf.skp,then',Par.bind]
  cases hl:f l with
  | err q c=>exact h.any hQ
  | ok b l' =>
   have:=hf l b l' hl
   exact ⟨by have:=h.1;omega,h.2⟩
theorem Sh.mono {Q' B':Nat}(h:Sh p k a t n Q B R md)(hQ:Q≤Q')(hB:B≤B'):Sh p k a t n Q' B' R md:=by
 cases R with
 | err q c=>obtain ⟨nd,rest,h1,h2,h3⟩:=h;exact ⟨nd,rest,h1,by omega,by omega⟩
 | ok ks l=>exact ⟨by have:=h.1;omega,h.2⟩
theorem Sh.fail (h:Sh p k a t n Q B R md)(hQ:Q≤B):Sh p k a t n Q B (then' R fun _=>(failP:Par (List Ast))) md:=by
 cases R with
 | err q c=>exact h
 | ok ks l =>
  cases l with
  | nil=>exact h.any hQ
  | cons t l=>exact h.any hQ
theorem Sh.setK (h:Sh p k a t n Q B R md)(k':Int):Sh p k' a t n Q B R (md.set p.length { md.getD p.length default with kind:=k' }):=by
 cases R with
 | err q c =>
  obtain ⟨nd,rest,rfl,h2,h3⟩:=h
  exact ⟨{ nd with kind:=k' },rest,by simp [List.getD],h2,by simpa using h3⟩
 | ok ks l =>
  obtain ⟨h1,rfl⟩:=h
  refine ⟨h1,?_⟩
  rw [open_get]
  exact open_set p k a t n ks k' t n
theorem Sh.setT (h:Sh p k a t n Q B R md)(t':ByteArray):Sh p k a t' n Q B R (md.set p.length { md.getD p.length default with text:=t' }):=by
 cases R with
 | err q c =>
  obtain ⟨nd,rest,rfl,h2,h3⟩:=h
  exact ⟨{ nd with text:=t' },rest,by simp [List.getD],h2,by simpa using h3⟩
 | ok ks l =>
  obtain ⟨h1,rfl⟩:=h
  refine ⟨h1,?_⟩
  rw [open_get]
  exact open_set p k a t n ks k t' n
theorem Sh.setN (h:Sh p k a t n Q B R md)(n':Int):Sh p k a t n' Q B R (md.set p.length { md.getD p.length default with n:=n' }):=by
 cases R with
 | err q c =>
  obtain ⟨nd,rest,rfl,h2,h3⟩:=h
  exact ⟨{ nd with n:=n' },rest,by simp [List.getD],h2,by simpa using h3⟩
 | ok ks l =>
  obtain ⟨h1,rfl⟩:=h
  refine ⟨h1,?_⟩
  rw [open_get]
  exact open_set p k a t n ks k t n'
theorem kidOf_open (ks:List Ast):kidOf (openN p k a t n ks) p.length=kidN p k a t n ks:=by
 unfold kidOf
 rw [open_get,open_len]
 exact open_kid_set p k a t n ks
theorem Sh.kid (h:Sh p k a t n Q B R md):Opn p k a t n Q B R (kidOf md p.length):=by
 cases R with
 | err q c =>
  obtain ⟨nd,rest,rfl,h2,h3⟩:=h
  refine ⟨{ nd with kids:=nd.kids++[((p++nd::rest).length:Int)] },rest,by simp [kidOf,List.getD],by simp;omega,by rw [kidOf_len];exact h3⟩
 | ok ks l =>
  obtain ⟨h1,rfl⟩:=h
  exact ⟨h1,kidOf_open ks⟩
theorem Opn.len {B':Nat}(h:Opn p k a t n Q B R md)(hQ:Q≤B)(hB:B≤B'):md.length≤B':=by
 cases R with
 | err q c=>obtain ⟨nd,rest,rfl,h2,h3⟩:=h;omega
 | ok ks l=>obtain ⟨h1,rfl⟩:=h;rw [kid_len];omega
theorem Opn.node (h:Opn p k a t n Q B R md)(hQ:Q≤B)(k2:Int)(a2:Nat)(ha:∀ks l,R=.ok ks l→a2=hda R):Sh md k2 (hda R) none0 0 (Q+1) (B+1) (then' R fun _=>Par.pure []) (md++[⟨k2,a2,none0,0,[]⟩]):=by
 cases R with
 | err q c=>exact ⟨⟨k2,a2,none0,0,[]⟩,[],rfl,by simp,by have:=h.len hQ (Nat.le_refl _);simp;omega⟩
 | ok ks l =>
  obtain ⟨h1,rfl⟩:=h
  rw [ha ks l rfl]
  exact ⟨by rw [kid_len];simp only [sizeL];omega,(open_nil _ _ _ _ _).symm⟩
variable {E:Env}{v:Value}{kvs:List Value}{d:Int}{w w':World}
theorem In.drewN (h:In E p k a t n d Q B R w)(m:Nat):In E p k a t n d Q B R (w.drewN m):=by
 obtain ⟨v,kvs,md,h1,h2⟩:=h
 exact ⟨v,kvs,md,h1,h2.drewN m⟩
theorem In.drew (h:In E p k a t n d Q B R w):In E p k a t n d Q B R w.drew:=h.drewN 1
theorem In.alloc (h:In E p k a t n d Q B R w)(o:Obj):In E p k a t n d Q B R (w.alloc o):=by
 obtain ⟨v,kvs,md,h1,h2⟩:=h
 exact ⟨v,kvs,md,h1,h2.alloc o⟩
theorem In.mono {Q' B':Nat}(h:In E p k a t n d Q B R w)(hQ:Q≤Q')(hB:B≤B'):In E p k a t n d Q' B' R w:=by
 obtain ⟨v,kvs,md,h1,h2⟩:=h
 exact ⟨v,kvs,md,h1.mono hQ hB,h2⟩
theorem In.loc (h:In E p k a t n d Q B R w):∃v kvs md,Sh p k a t n Q B R md∧At E v kvs md d R w∧Loc E v kvs w.heap.size:=by
 obtain ⟨v,kvs,md,h1,h2⟩:=h
 exact ⟨v,kvs,md,h1,h2,h2.fresh⟩
theorem In.close {p2:List Nd}{k2:Int}{a2:Nat}{t2:ByteArray}{n2:Int}{B':Nat}{R2:Res (List Ast)}(ho:Opn p k a t n Q B R p2)(h:In E p2 k2 a2 t2 n2 d Q B' R2 w)(hQ:Q≤B)(hB:B+1≤B')(hR:∀q c,R=.err q c→R2=.err q c) :
 In E p k a t n d Q B' (then' R fun ks _=>then' R2 fun ks2 l=>.ok (ks++[.mk k2 a2 t2 n2 ks2]) l) w:=by
 obtain ⟨v,kvs,md,hs,hm⟩:=h
 cases R with
 | err q c =>
  rw [hR q c rfl] at hs hm
  obtain ⟨nd,rest,rfl,h2,h3⟩:=ho
  obtain ⟨nd2,rest2,rfl,h4,h5⟩:=hs
  exact ⟨v,kvs,_,⟨nd,rest++nd2::rest2,by simp,by omega,h5⟩,hm⟩
 | ok ks l =>
  obtain ⟨h1,rfl⟩:=ho
  cases R2 with
  | err q c =>
   obtain ⟨nd2,rest2,rfl,h4,h5⟩:=hs
   have:=len_size ks
   exact ⟨v,kvs,_,⟨⟨k,a,t,n,heads (p.length+1) ks++[((p.length+1+sizeL ks:Nat):Int)]⟩,flatL (p.length+1) ks++nd2::rest2,by simp [kidN],by simp [heads_length];omega,h5⟩,hm⟩
  | ok ks2 l2 =>
   obtain ⟨h2,rfl⟩:=hs
   rw [open_done,open_kid] at hm
   refine ⟨v,kvs,_,⟨?_,rfl⟩,hm⟩
   rw [kid_len] at h2
   simp only [sizeL_append,sizeL_one,Ast.size]
   omega
theorem take_I (h:In E p k a t n d Q B R w)(hQ:Q≤B)(s:ByteArray)(hs:¬ (48≤head0 s∧head0 s≤57))(hn:s≠none0):Calls Tryz.prog 164 #[.pointer (some ⟨E.b,0,none⟩),.string s] w fun x w'=>x=.returned (.tuple #[])∧In E p k a t n d Q B (skp R (expectP s)) w':=by
 obtain ⟨v,kvs,md,h1,h2⟩:=h
 refine (take_R h2 s hs hn).mono ?_
 rintro x w' ⟨rfl,h3,_⟩
 exact ⟨rfl,v,kvs,md,h1.skp (less_expect s) hQ,h3⟩
theorem is_I (h:In E p k a t n d Q B R w)(s:ByteArray)(hs:¬ (48≤head0 s∧head0 s≤57))(hn:s≠none0):Calls Tryz.prog 95 #[.pointer (some ⟨E.b,0,none⟩),.string s] w fun x w'=>x=.returned (.bool (nxt R s))∧∃m,w'=w.drewN m:=by
 obtain ⟨v,kvs,md,h1,h2⟩:=h
 exact is_R h2 s hs hn
theorem fail_I (h:In E p k a t n d Q B R w)(hQ:Q≤B):Calls Tryz.prog 98 #[.pointer (some ⟨E.b,0,none⟩),.int .i64 50] w fun x w'=>x=.returned (.tuple #[])∧In E p k a t n d Q B (then' R fun _=>(failP:Par (List Ast))) w':=by
 obtain ⟨v,kvs,md,h1,h2⟩:=h
 refine (fail_R (β:=List Ast) h2).mono ?_
 rintro x w' ⟨rfl,h3,_⟩
 exact ⟨rfl,v,kvs,md,h1.fail hQ,h3⟩
theorem kid_I (h:In E p k a t n d Q B R w)(hQ:Q≤B)(hB:B≤900000):Calls Tryz.prog 162 #[.pointer (some ⟨E.b,0,none⟩),.int .i64 (p.length:Int)] w fun x w'=>x=.returned (.tuple #[])∧∃v kvs p2,Opn p k a t n Q B R p2∧At E v kvs p2 d R w':=by
 obtain ⟨v,kvs,md,h1,h2⟩:=h
 obtain ⟨nd,rest,hm,hk,hl⟩:=h1.any hQ
 have hlt:=h1.lt
 have hkd:(md.getD p.length default).kids.length≤1000000:=by
  rw [hm];simp [List.getD];omega
 cases R with
 | err q c =>
  obtain ⟨i,d',g1,g2,g3,h3⟩:=h2
  refine (kid_at h3 p.length hlt (by omega) hkd).mono ?_
  rintro x w' ⟨rfl,kvs',h4,_⟩
  exact ⟨rfl,v,kvs',_,h1.kid,⟨i,d',g1,g2,g3,h4⟩⟩
 | ok ks l =>
  obtain ⟨i,rfl,h3⟩:=h2
  refine (kid_at h3 p.length hlt (by omega) hkd).mono ?_
  rintro x w' ⟨rfl,kvs',h4,_⟩
  exact ⟨rfl,v,kvs',_,h1.kid,⟨i,rfl,h4⟩⟩
theorem node_I {p2:List Nd}(ho:Opn p k a t n Q B R p2)(h:At E v kvs p2 d R w)(hQ:Q≤B)(hB:B≤900000)(k2:Int):Calls Tryz.prog 94 #[.pointer (some ⟨E.b,0,none⟩),.int .u8 k2] w fun x w'=>x=.returned (.int .i64 (p2.length:Int))∧In E p2 k2 (hda R) none0 0 d (Q+1) (B+1) (then' R fun _=>Par.pure []) w':=by
 have hl:=ho.len hQ (Nat.le_refl _)
 cases R with
 | err q c =>
  obtain ⟨i,d',g1,g2,g3,h3⟩:=h
  refine (node_at h3 k2 (by omega)).mono ?_
  rintro x w' ⟨v',rfl,h4,_⟩
  exact ⟨rfl,v',_,_,ho.node hQ k2 (RT E i).at' (fun ks l e=>by simp at e),⟨i,d',g1,g2,g3,h4⟩⟩
 | ok ks l =>
  obtain ⟨i,rfl,h3⟩:=h
  refine (node_at h3 k2 (by omega)).mono ?_
  rintro x w' ⟨v',rfl,h4,_⟩
  exact ⟨rfl,v',_,_,ho.node hQ k2 (RT E i).at' (fun ks l e=>by rw [h3.drop];rfl),⟨i,rfl,h4⟩⟩
theorem word_I (h:In E p k a t n d Q B R w)(hQ:Q≤B)(hB:B≤900000):Calls Tryz.prog 165 #[.pointer (some ⟨E.b,0,none⟩),.int .i64 (p.length:Int)] w fun x w'=>x=.returned (.tuple #[])∧In E p k a t n d Q (B+1) (knd R wordP) w':=by
 obtain ⟨v,kvs,md,h1,h2⟩:=h
 obtain ⟨nd,rest,hm,hk,hl⟩:=h1.any hQ
 have hlt:=h1.lt
 have hkd:(md.getD p.length default).kids.length≤1000000:=by
  rw [hm];simp [List.getD];omega
 have hbad:∀(q:Nat) (c:Int) nd2,Sh p k a t n Q (B+1) (.err q c) (kidOf md p.length++[nd2]):=fun q c nd2=>by
  subst hm
  refine ⟨{ nd with kids:=nd.kids++[((p++nd::rest).length:Int)] },rest++[nd2],by simp [kidOf,List.getD],by simp;omega,by rw [List.length_append,kidOf_len];simp at hl ⊢;omega⟩
 cases R with
 | err q c =>
  obtain ⟨i,d',g1,g2,g3,h3⟩:=h2
  refine (word_err h3 g2 p.length hlt (by omega) hkd).mono ?_
  rintro x w' ⟨rfl,v',kvs',h4,_⟩
  exact ⟨rfl,v',kvs',_,hbad q c _,⟨i,d',g1,g2,g3,h4⟩⟩
 | ok ks l =>
  obtain ⟨i,rfl,h3⟩:=h2.ok_of
  by_cases ht:(RT E i).kind=1
  · refine (word_yes h3 p.length hlt (by omega) hkd ht).mono ?_
    rintro x w' ⟨rfl,v',kvs',h4,_⟩
    obtain ⟨hb,rfl⟩:=h1
    rw [kidOf_open] at h4
    refine ⟨rfl,v',kvs',openN p k a t n (ks++[wordA (RT E i)]),?_,?_⟩
    · simp only [knd,then',Par.bind,wordP,takeP,if_pos ht,Par.pure]
      refine ⟨?_,rfl⟩
      simp only [sizeL_append,sizeL_one,wordA,Ast.size,sizeL]
      simp only [List.length_cons] at hb
      omega
    · simp only [knd,then',Par.bind,wordP,takeP,if_pos ht,Par.pure]
      refine ⟨i+1,rfl,?_⟩
      rw [← open_kid]
      exact h4
  · refine (word_no h3 p.length hlt (by omega) hkd ht).mono ?_
    rintro x w' ⟨rfl,v',kvs',h4,_⟩
    have e:knd (.ok ks (RT E i::List.drop (i+1) E.pts)) wordP=.err (RT E i).at' 50:=by simp only [knd,then',Par.bind,wordP,takeP,if_neg ht]
    rw [e]
    exact ⟨rfl,v',kvs',_,hbad _ _ _,⟨i,d,Int.le_refl _,by decide,rfl,h4⟩⟩
theorem number_I (h:In E p k a t n d Q B R w)(hQ:Q≤B)(hB:B≤900000):Calls Tryz.prog 284 #[.pointer (some ⟨E.b,0,none⟩),.int .i64 (p.length:Int)] w fun x w'=>x=.returned (.tuple #[])∧In E p k a t n d Q (B+1) (knd R numberP) w':=by
 obtain ⟨v,kvs,md,h1,h2⟩:=h
 obtain ⟨nd,rest,hm,hk,hl⟩:=h1.any hQ
 have hlt:=h1.lt
 have hkd:(md.getD p.length default).kids.length≤1000000:=by
  rw [hm];simp [List.getD];omega
 have hbad:∀(q:Nat) (c:Int) nd2,Sh p k a t n Q (B+1) (.err q c) (kidOf md p.length++[nd2]):=fun q c nd2=>by
  subst hm
  refine ⟨{ nd with kids:=nd.kids++[((p++nd::rest).length:Int)] },rest++[nd2],by simp [kidOf,List.getD],by simp;omega,by rw [List.length_append,kidOf_len];simp at hl ⊢;omega⟩
 cases R with
 | err q c =>
  obtain ⟨i,d',g1,g2,g3,h3⟩:=h2
  refine (number_err h3 g2 p.length hlt (by omega) hkd).mono ?_
  rintro x w' ⟨rfl,v',kvs',h4,_⟩
  exact ⟨rfl,v',kvs',_,hbad q c _,⟨i,d',g1,g2,g3,h4⟩⟩
 | ok ks l =>
  obtain ⟨i,rfl,h3⟩:=h2.ok_of
  by_cases ht:(RT E i).kind=2
  · refine (number_yes h3 p.length hlt (by omega) hkd ht).mono ?_
    rintro x w' ⟨rfl,v',kvs',h4,_⟩
    obtain ⟨hb,rfl⟩:=h1
    rw [kidOf_open] at h4
    refine ⟨rfl,v',kvs',openN p k a t n (ks++[.mk 21 (RT E i).at' none0 (RT E i).n []]),?_,?_⟩
    · simp only [knd,then',Par.bind,numberP,takeP,if_pos ht,Par.pure]
      refine ⟨?_,rfl⟩
      simp only [sizeL_append,sizeL_one,Ast.size,sizeL]
      simp only [List.length_cons] at hb
      omega
    · simp only [knd,then',Par.bind,numberP,takeP,if_pos ht,Par.pure]
      refine ⟨i+1,rfl,?_⟩
      rw [← open_kid]
      exact h4
  · refine (number_no h3 p.length hlt (by omega) hkd ht).mono ?_
    rintro x w' ⟨rfl,v',kvs',h4,_⟩
    have e:knd (.ok ks (RT E i::List.drop (i+1) E.pts)) numberP=.err (RT E i).at' 50:=by simp only [knd,then',Par.bind,numberP,takeP,if_neg ht]
    rw [e]
    exact ⟨rfl,v',kvs',_,hbad _ _ _,⟨i,d,Int.le_refl _,by decide,rfl,h4⟩⟩
end
end Rf
namespace Rf
open Go.RowKit Par
section
variable {α β:Type}{E:Env}{v:Value}{kvs:List Value}{md:List Nd}{i:Nat}{d e:Int}{w w':World}{R:Res α}
theorem RS.inc (h:RS E v kvs md i d 0 w)(hi:i+1<E.toks.length):Kp E v kvs md (i+1) d 0 w (w.setCell ⟨E.b,1,none⟩ (.int .i64 ((i:Int)+1))):=h.keep.field 1 _ hi h.dd (by simp)
theorem At.deep (h:At E v kvs md (d+1) R w)(hd:0≤d):∃d',d+1≤d'∧d'≤65∧w.cell? ⟨E.b,2,none⟩=some (.int .i64 d')∧w.frozen? ⟨E.b,2,none⟩=false∧At E v kvs md d R (w.setCell ⟨E.b,2,none⟩ (.int .i64 (d'-1)))∧Fr E w.heap.size v v w (w.setCell ⟨E.b,2,none⟩ (.int .i64 (d'-1))):=by
 cases R with
 | ok a l =>
  obtain ⟨i,rfl,h⟩:=h
  have hk:=h.keep.field 2 (.int .i64 (d+1-1)) (i':=i) (d':=d) (e':=0) h.it (by have:=h.dd;omega) (by simp)
  exact ⟨d+1,Int.le_refl _,h.dd.2,h.rowCells.2.2.1,h.fz 2,⟨i,rfl,hk.rs⟩,hk.fr⟩
 | err p c =>
  obtain ⟨i,d',h1,h2,h3,h⟩:=h
  have hk:=h.keep.field 2 (.int .i64 (d'-1)) (i':=i) (d':=d'-1) (e':=c) h.it (by have:=h.dd;omega) (by simp)
  exact ⟨d',h1,h.dd.2,h.rowCells.2.2.1,h.fz 2,⟨i,d'-1,by omega,h2,h3,hk.rs⟩,hk.fr⟩
def Nx (E:Env)(v:Value)(kvs:List Value)(B:Nat)(b:Nat):Prop:=Loc E v kvs b∧B≤b
theorem ExprV.fr {B B':Nat}{a:Ast}{x:Value}(h:ExprV w (Nx E v kvs B) a x)(hf:Fr E B' v v w w')(hB:w.heap.size≤B'):ExprV w' (Nx E v kvs B) a x :=
 ExprV.on hf.size (fun k hk hl=>hf.block k (by omega) (by have:=hk.1.lt;omega) hk.1.v) (fun k hk _=>hk) a x h
theorem ExprV.less {B B':Nat}{a:Ast}{x:Value}(h:ExprV w (Nx E v kvs B) a x)(hB:B'≤B):ExprV w (Nx E v kvs B') a x :=
 ExprV.on (Nat.le_refl _) (fun _ _ _=>rfl) (fun k hk _=>⟨hk.1,Nat.le_trans hB hk.2⟩) a x h
theorem ExprV.set {B:Nat}{a:Ast}{x:Value}(h:ExprV w (Nx E v kvs B) a x){q:Addr}(hq:q.block<B)(u:Value):ExprV (w.setCell q u) (Nx E v kvs B) a x :=
 ExprV.on (by simp [World.setCell]) (fun k hk _=>Below.heap_setCell w q u k (by have:=hk.2;omega)) (fun k hk _=>hk) a x h
theorem ExprV.alloc {B:Nat}{a:Ast}{x:Value}(h:ExprV w (Nx E v kvs B) a x)(o:Obj):ExprV (w.alloc o) (Nx E v kvs B) a x :=
 ExprV.on (by simp) (fun k _ hl=>Below.heap_alloc _ _ _ hl) (fun k hk _=>hk) a x h
theorem ExprV.drewN {B:Nat}{a:Ast}{x:Value}(h:ExprV w (Nx E v kvs B) a x)(m:Nat):ExprV (w.drewN m) (Nx E v kvs B) a x :=
 ExprV.on (W:=w) (W':=w.drewN m) (Nat.le_refl _) (fun _ _ _=>rfl) (fun k hk _=>hk) a x h
def PostX (E:Env)(v:Value)(kvs:List Value)(md:List Nd)(d:Int)(S:Res Ast)(w:World)(x:Ending)(w':World):Prop :=
 ∃ev,x=.returned ev∧ExprS ev∧At E v kvs md d S w'∧Fr E w.heap.size v v w w'∧∀y l',S=.ok y l'→ExprV w' (Nx E v kvs w.heap.size) y ev
def HasX (f:Nat)(d:Int)(F:Par Ast):Prop:=∀(E:Env) (v:Value) (kvs:List Value) (md:List Nd) (w:World) (α:Type) (R:Res α),At E v kvs md d R w→Calls Tryz.prog f #[.pointer (some ⟨E.b,0,none⟩)] w (PostX E v kvs md d (then' R fun _=>F) w)
theorem At.set5 (h:At E v kvs md d R w){q:Nat}(hq:Loc E v kvs q)(a b c e f:Value):At E v kvs md d R (((((w.setCell ⟨q,0,none⟩ a).setCell ⟨q,1,none⟩ b).setCell ⟨q,2,none⟩ c).setCell ⟨q,3,none⟩ e).setCell ⟨q,4,none⟩ f) :=
 ((((h.set (a:=⟨q,0,none⟩) hq a).set (a:=⟨q,1,none⟩) hq b).set (a:=⟨q,2,none⟩) hq c).set (a:=⟨q,3,none⟩) hq e).set (a:=⟨q,4,none⟩) hq f
theorem ExprV.set5 {B:Nat}{a:Ast}{x:Value}(h:ExprV w (Nx E v kvs B) a x){q:Nat}(hq:q<B)(a1 b c e f:Value):ExprV (((((w.setCell ⟨q,0,none⟩ a1).setCell ⟨q,1,none⟩ b).setCell ⟨q,2,none⟩ c).setCell ⟨q,3,none⟩ e).setCell ⟨q,4,none⟩ f) (Nx E v kvs B) a x :=
 ((((h.set (q:=⟨q,0,none⟩) hq a1).set (q:=⟨q,1,none⟩) hq b).set (q:=⟨q,2,none⟩) hq c).set (q:=⟨q,3,none⟩) hq e).set (q:=⟨q,4,none⟩) hq f
theorem skp_inv {R:Res α}{f:Par β}{a:α}{l:List PT}(h:skp R f=.ok a l):∃l1,R=.ok a l1:=by
 cases R with
 | err q c=>simp [skp,then'] at h
 | ok b l1 =>
  simp only [skp,then',Par.bind] at h
  cases hf:f l1 with
  | err q c=>rw [hf] at h;simp at h
  | ok x l2 =>
   rw [hf] at h
   simp only [Par.pure,Res.ok.injEq] at h
   exact ⟨l1,by rw [h.1]⟩
theorem thenv_inv {R:Res α}{f:α→β}{b:β}{l:List PT}(h:then' R (fun a=>Par.pure (f a))=.ok b l):∃a,R=.ok a l∧b=f a:=by
 cases R with
 | err q c=>simp [then'] at h
 | ok a l1 =>
  simp only [then',Par.pure,Res.ok.injEq] at h
  exact ⟨a,by rw [h.2],h.1.symm⟩
theorem At.mapv (h:At E v kvs md d R w)(f:α→β):At E v kvs md d (then' R fun a=>Par.pure (f a)) w:=by
 cases R with
 | err p c=>exact h
 | ok a l=>exact h
theorem _root_.Go.Proofs.YthdioipfdbbmmaaGreatDoor.Lcl.set5o {q q':Nat} {o:Obj} (h:Lcl E v kvs q o w) (hne:q'≠q) (a b c e f:Value):Lcl E v kvs q o (((((w.setCell ⟨q',0,none⟩ a).setCell ⟨q',1,none⟩ b).setCell ⟨q',2,none⟩ c).setCell ⟨q',3,none⟩ e).setCell ⟨q',4,none⟩ f) :=
 ((((h.grown (grownBy_set _ ⟨q',0,none⟩ a) (fun e=>hne (Option.some.inj e))).grown (grownBy_set _ ⟨q',1,none⟩ b) (fun e=>hne (Option.some.inj e))).grown (grownBy_set _ ⟨q',2,none⟩ c) (fun e=>hne (Option.some.inj e))).grown (grownBy_set _ ⟨q',3,none⟩ e) (fun e=>hne (Option.some.inj e))).grown (grownBy_set _ ⟨q',4,none⟩ f) (fun e=>hne (Option.some.inj e))
theorem ExprV.node1 {B b:Nat}{y:Ast}{c0 c1 c2 c3 c4:Value}{T:TypeId}(hl:Loc E v kvs b)(hB:B≤b)(hs:b<w.heap.size)(ho:w.heap[b]?=some (.cells #[c0,c1,c2,c3,c4] T (0,0)))(k:Int)(a:Nat)(t:ByteArray)(n:Int)(h:ExprV w (Nx E v kvs B) y (.agg #[c0,c1,c2,c3,c4])) :
 ExprV w (Nx E v kvs B) (.mk k a t n [y]) (.agg #[.int .u8 k,.int .i64 (a:Int),.string t,.int .i64 n,.slice (some ⟨b,0,none⟩) 1 1]):=by
 unfold ExprV
 refine ⟨_,rfl,Or.inr ⟨b,⟨hl,hB⟩,hs,rfl,?_⟩⟩
 simp only [ExprL,and_true]
 exact ⟨c0,c1,c2,c3,c4,h,by rw [cell_of_row _ _ _ _ _ _ ho];rfl,by rw [cell_of_row _ _ _ _ _ _ ho];rfl,by rw [cell_of_row _ _ _ _ _ _ ho];rfl,by rw [cell_of_row _ _ _ _ _ _ ho];rfl,by rw [cell_of_row _ _ _ _ _ _ ho];rfl⟩
theorem factor_name {r:Nat}{fac:Par Ast}{t:PT}{l:List PT}(h:t.kind=1):factorOf r fac (t::l)=.ok (.mk 22 t.at' t.txt 0 []) l:=by
 simp only [factorOf,Par.bind,peekP]
 rw [if_neg (by omega),if_pos h]
 rfl
theorem factor_num {r:Nat}{fac:Par Ast}{t:PT}{l:List PT}(h:t.kind=2):factorOf r fac (t::l)=.ok (.mk 21 t.at' none0 t.n []) l:=by
 simp only [factorOf,Par.bind,peekP]
 rw [if_pos h]
 simp only [numberP,Par.bind,takeP,if_pos h]
 rfl
theorem factor_open {r:Nat}{fac:Par Ast}{t:PT}{l:List PT}(h1:t.kind≠1)(h2:t.kind≠2)(ht:t.txt=⟨#[40]⟩):factorOf (r+1) fac (t::l)=skp (exprP fac l) (expectP ⟨#[41]⟩):=by
 simp only [factorOf,Par.bind,peekP]
 rw [if_neg h2,if_neg h1,if_pos ht]
 simp only [bracketP,Par.bind,enterP,if_pos ht]
 rw [if_neg (by omega)]
 simp only [skp,then']
 cases exprP fac l<;>rfl
theorem factor_open0 {fac:Par Ast}{t:PT}{l:List PT}(h1:t.kind≠1)(h2:t.kind≠2)(ht:t.txt=⟨#[40]⟩):factorOf 0 fac (t::l)=.err t.at' 51:=by
 simp only [factorOf,Par.bind,peekP]
 rw [if_neg h2,if_neg h1,if_pos ht]
 simp only [bracketP,Par.bind,enterP,if_pos ht,if_true]
theorem factor_neg {r:Nat}{fac:Par Ast}{t:PT}{l:List PT}(h1:t.kind≠1)(h2:t.kind≠2)(ht:t.txt=⟨#[45]⟩):factorOf (r+1) fac (t::l)=then' (fac l) fun a=>Par.pure (nodeA 26 t.at' [a]):=by
 simp only [factorOf,Par.bind,peekP]
 rw [if_neg h2,if_neg h1,if_neg (by rw [ht];decide),if_pos ht]
 simp only [negP,Par.bind,enterP,if_pos ht]
 rw [if_neg (by omega)]
 simp only [then']
 cases fac l<;>rfl
theorem factor_neg0 {fac:Par Ast}{t:PT}{l:List PT}(h1:t.kind≠1)(h2:t.kind≠2)(ht:t.txt=⟨#[45]⟩):factorOf 0 fac (t::l)=.err t.at' 51:=by
 simp only [factorOf,Par.bind,peekP]
 rw [if_neg h2,if_neg h1,if_neg (by rw [ht];decide),if_pos ht]
 simp only [negP,Par.bind,enterP,if_pos ht,if_true]
theorem factor_no {r:Nat}{fac:Par Ast}{t:PT}{l:List PT}(h1:t.kind≠1)(h2:t.kind≠2)(h3:¬ t.txt=⟨#[40]⟩)(h4:¬ t.txt=⟨#[45]⟩):factorOf r fac (t::l)=.err t.at' 50:=by
 simp only [factorOf,Par.bind,peekP]
 rw [if_neg h2,if_neg h1,if_neg h3,if_neg h4]
 rfl
end
end Rf
end Go.Proofs.YthdioipfdbbmmaaGreatDoor
