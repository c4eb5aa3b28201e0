/- Contracts. -/
import Derived.Test.YthdioipfdbbmmaaGreatDoorKab
import Derived.Test.YthdioipfdbbmmaaGreatDoorKah
import Derived.Test.YthdioipfdbbmmaaGreatDoorKam
import Derived.Test.YthdioipfdbbmmaaGreatDoorKap
import Derived.Test.YthdioipfdbbmmaaGreatDoorKas
import Derived.Test.YthdioipfdbbmmaaGreatDoorKay
import Derived.Test.YthdioipfdbbmmaaGreatDoorKaz
import Derived.Test.YthdioipfdbbmmaaGreatDoorKbc
import Derived.Deep.AppendLies
import Derived.OwnWalk
set_option linter.all false
set_option maxRecDepth 1000000
set_option maxHeartbeats 16000000
namespace Go.Proofs.YthdioipfdbbmmaaGreatDoor
namespace Tr
open Go.RowKit
abbrev KP:=Nd × Option Addr × Nat × Nat
def kpC (x:KP):List Value:=[.int .u8 x.1.kind,.int .i64 x.1.at',.string x.1.text,.int .i64 x.1.n,.slice x.2.1 x.2.2.1 x.2.2.2]
theorem flat_get (l:List KP)(i j:Nat)(hi:i<l.length)(hj:j<5):(l.flatMap kpC)[i*5+j]?=(kpC l[i])[j]?:=by
 induction l generalizing i with
 | nil=>simp at hi
 | cons y l ih =>
  have hy:(kpC y).length=5:=rfl
  cases i with
  | zero =>
   simp only [List.flatMap_cons,Nat.zero_mul,Nat.zero_add,List.getElem_cons_zero]
   rw [List.getElem?_append_left (by omega)]
  | succ i =>
   simp only [List.flatMap_cons,List.getElem_cons_succ]
   rw [List.getElem?_append_right (by omega),hy,← ih i (by simpa using hi)]
   congr 1;omega
theorem infoN41:(Tryz.prog.info? 99).map (fun i=>(i.zero,i.size,i.bytes))=some (some (.agg #[.int .u8 0,.int .i64 0,.string ⟨#[]⟩,.int .i64 0,.slice none 0 0]),5,64):=by kernel_rfl
theorem flat_length (xs:List KP):(xs.flatMap kpC).length=xs.length*5:=by
 induction xs with
 | nil=>rfl
 | cons x xs ih=>rw [List.flatMap_cons,List.length_append,ih,List.length_cons];show 5+_=_;omega
theorem tv_own {W:World}{B:Nat}{e:Nat}{v:Value}{xs:List KP}(h:W.ownsRow B e 5 v xs.length (xs.flatMap kpC))(hx:∀x∈xs,IV W x.2.1 x.2.2.1 x.2.2.2 x.1.kids):∃p c,v=.slice p xs.length c∧TV W p xs.length c (xs.map (·.1)):=by
 have h0:=h
 obtain ⟨_,⟨rfl,h1⟩|⟨g,cap,cur,rfl,_,h2,h3,_⟩⟩:=h
 · exact ⟨none,0,by rw [h1],by simp,by omega,fun hl=>absurd hl (by omega)⟩
 · refine ⟨_,_,rfl,by simp,h3,fun _=>⟨g,0,rfl,?_,fun i hi=>?_⟩⟩
   · by_cases hg:g<W.heap.size
     · exact hg
     · rw [Array.getElem?_eq_none (by omega)] at h2;simp at h2
   · refine ⟨xs[i].2.1,xs[i].2.2.1,xs[i].2.2.2,?_⟩
     have e:(xs.map (·.1)).getD i default=xs[i].1:=by simp [List.getD,hi]
     rw [e]
     have hc:∀j v,j<5→(kpC xs[i])[j]?=some v→W.cell? ⟨g,0+i*5+j,none⟩=some v:=by
      intro j v hj hv
      rw [Nat.zero_add,h0.cellAt (i*5+j) (by omega),flat_get xs i j hi hj,hv]
     exact ⟨hc 0 _ (by omega) rfl,hc 1 _ (by omega) rfl,hc 2 _ (by omega) rfl,hc 3 _ (by omega) rfl,hc 4 _ (by omega) rfl,hx _ (List.getElem_mem hi)⟩
theorem nd_one (k a n:Int)(st:ByteArray)(kp:Option Addr)(kl kc:Nat):∀u∈([.int .u8 k,.int .i64 a,.string st,.int .i64 n,.slice kp kl kc]:List Value),u.oneCell'=true:=by
 intro u hu
 simp only [List.mem_cons,List.not_mem_nil,or_false] at hu
 rcases hu with rfl|rfl|rfl|rfl|rfl<;>rfl
structure PI (w:World)(B e:Nat)(v:Value)(xs:List KP)(W:World):Prop where
 below:Below B w W
 own:W.ownsRow B e 5 v xs.length (xs.flatMap kpC)
theorem plain_at (w:World)(p:Option Addr)(len c:Nat)(ns:List Nd)(h:TV w p len c ns)(hl:len≤70000) :
 Calls Tryz.prog 22 #[.agg #[.slice p len c]] w fun e w'=>(∃p' c',e=.returned (.slice p' len c')∧TV w' p' len c' ns)∧Below w.heap.size w w':=by
 have hlen:=lh h.len_eq
 have H:=lh h
 obtain ⟨i0,hi,hz0,hz1,hz2⟩:=info_parts infoN41
 have I0:=lh hi
 have I1:=lh hz0
 have I2:=lh hz1
 have I3:=lh hz2
 clear h hi hz0 hz1 hz2
 have B0:=lh (one_below w (.cells #[.slice p len c] 39))
 go_enter Tryz.func22,Tryz.ntmps22
 go_wp2_with fail
 go_loopw [3,4] (fun v iv wr=>∃(i:Nat) (xs:List KP),i≤len∧iv=.int .i64 i∧Hid (xs.map (·.1)=ns.take i)∧Hid (∀x∈xs,IV w x.2.1 x.2.2.1 x.2.2.2 x.1.kids)∧Hid (PI (w.alloc (.cells #[.slice p len c] 39)) (w.heap.size+1) 99 v xs wr)) (fun _ iv _=>len-(intOf iv).toNat)
 case atStart=>exact ⟨0,[],by omega,rfl,lh rfl,lh (fun x hx=>by simp at hx),lh ⟨Below.refl _ _,World.ownsRow_nil _ _ _ _⟩⟩
 case round =>
  obtain ⟨i,xs,hil,rfl,HM,HX,HP⟩:=hrel
  have c0:wr.cell? ⟨w.heap.size,0,none⟩=some (.slice p len c):=by rw [HP.out.below.cell (by simp)];simp
  have HBW:=lh (B0.out.trans (HP.out.below.mono (by omega)))
  have hxl:xs.length=i:=by
   have:=congrArg List.length HM.out
   rw [List.length_map,List.length_take] at this
   have:=hlen.out
   omega
  by_cases hlt:i<len
  · obtain ⟨b,off,rfl,hbl,hc⟩:=H.out.node (by omega)
    obtain ⟨kp,kl,kc,hnw⟩:=hc i hlt
    have hn:=hnw.on hbl HBW.out
    have k0:=hn.kind
    have k1:=hn.at'
    have k2:=hn.text
    have k3:=hn.n
    have k4:=hn.kids
    have HIV:=lh hnw.iv
    have hix:i<ns.length:=by have:=hlen.out;omega
    have HTK:Hid (ns.take (i+1)=ns.take i++[ns.getD i default]):=lh (by
     rw [List.take_succ_eq_append_getElem hix]
     simp [List.getD,hix])
    generalize ns.getD i default=nd at *
    have ho:=HP.out.own
    rw [hxl] at ho
    have hps:=HP.out.below.size
    simp only [World.size_alloc] at hps
    have HXL:=lh hxl
    clear hn hnw hc hix hxl
    have hnew:((wr.alloc (.cells #[.int .u8 nd.kind,.int .i64 nd.at',.string nd.text,.int .i64 nd.n,.slice kp kl kc] 54)).alloc (.cells #[.int .u8 nd.kind,.int .i64 nd.at',.string nd.text,.int .i64 nd.n,.slice kp kl kc] 99)).heap[wr.heap.size+1]?=some (.cells #[.int .u8 nd.kind,.int .i64 nd.at',.string nd.text,.int .i64 nd.n,.slice kp kl kc] 99 (0,0)):=by
     have:=heap_alloc_new (wr.alloc (.cells #[.int .u8 nd.kind,.int .i64 nd.at',.string nd.text,.int .i64 nd.n,.slice kp kl kc] 54)) (.cells #[.int .u8 nd.kind,.int .i64 nd.at',.string nd.text,.int .i64 nd.n,.slice kp kl kc] 99)
     rw [World.size_alloc] at this
     exact this
    have HNW:=lh hnew
    clear hnew
    go_wp2_with (at_builtin;refine wpList_append_lies _ rfl (.tmp 18) (.tmp 30) 41 rfl (w.heap.size+1) 99 i0 _ 5 64 Tryz.underlying41 I0.out I1.out I2.out I3.out rfl (by decide) u3 i (xs.flatMap kpC) rfl ((ho.alloc _).alloc _) ⟨wr.heap.size+1,0,none⟩ 1 1 [.int .u8 nd.kind,.int .i64 nd.at',.string nd.text,.int .i64 nd.n,.slice kp kl kc] rfl rfl (World.news_of_block (cs:=#[.int .u8 nd.kind,.int .i64 nd.at',.string nd.text,.int .i64 nd.n,.slice kp kl kc]) (t := 99) (fr:=(0,0)) HNW.out) (nd_one _ _ _ _ _ _ _) (by decide) (by unfold maxLen;omega) (by omega) (by simp;omega) _ rfl ?_)
    intro g cap w5 hown5 hgrow5 _ _
    have HM5:Hid ((xs++[(nd,kp,kl,kc)]).map (·.1)=ns.take (i+1)):=lh (by rw [HTK.out,List.map_append,HM.out];rfl)
    have HX5:Hid (∀x∈xs++[((nd,kp,kl,kc):KP)],IV w x.2.1 x.2.2.1 x.2.2.2 x.1.kids):=lh (fun x hx=>by
     rcases List.mem_append.1 hx with hx|hx
     · exact HX.out x hx
     · rw [List.mem_singleton] at hx;subst hx;exact HIV.out)
    have HP5:Hid (PI (w.alloc (.cells #[.slice (some ⟨b,off,none⟩) len c] 39)) (w.heap.size+1) 99 (.slice (some ⟨g,0,none⟩) (i+1) cap) (xs++[(nd,kp,kl,kc)]) w5):=lh ⟨((HP.out.below.alloc (by omega) _).alloc (by simp;omega) _).grown hgrow5 (by simp;omega) (fun k hk=>(ho.lt k hk).1),by
     rw [List.flatMap_append,List.length_append,HXL.out]
     exact hown5⟩
    clear hown5 hgrow5 ho
    go_wp2_with fail
    go_roundw
    case rel=>exact ⟨i+1,_,by omega,by go_num,HM5,HX5,HP5⟩
    case measure=>simp [intOf];omega
  · have e:i=ns.length:=by have:=hlen.out;omega
    have ho:=HP.out.own
    have hm:=HM.out
    rw [e,List.take_length] at hm
    obtain ⟨p',c',hv,hT⟩:=tv_own ho (fun x hx=>(HX.out x hx).on HBW.out)
    rw [hm] at hT
    have HT:=lh hT
    have hxe:xs.length=len:=by omega
    have HXE:=lh hxe
    rw [hxe] at hv
    subst hv
    clear hT ho hm e hxe hxl
    go_wp2
    go_ret
    refine ⟨⟨_,_,rfl,?_⟩,HBW.out⟩
    rw [← HXE.out];exact HT.out
end Tr
section
open Go.RowKit Tr Go.Shelf
mutual
theorem lies_at {t:List Nd}:∀(x:Ast) (o:Nat),Lies t o x→wfR x→∀q,o≤q→q<o+x.size→∃y,Lies t q y∧wfR y
 | .mk k a s n ks,o,h,hw,q,h1,h2=>by
  by_cases e:q=o
  · subst e;exact ⟨_,h,hw⟩
  · simp only [Ast.size] at h2
    exact lies_atL ks (o+1) h.kids hw.2 q (by omega) (by omega)
theorem lies_atL {t:List Nd}:∀(l:List Ast) (o:Nat),LiesL t o l→wfRL l→∀q,o≤q→q<o+sizeL l→∃y,Lies t q y∧wfR y
 | [],o,h,hw,q,h1,h2=>by simp only [sizeL] at h2;omega
 | x::r,o,h,hw,q,h1,h2=>by
  by_cases e:q<o+x.size
  · exact lies_at x o h.head.1 hw.1 q h1 e
  · simp only [sizeL] at h2
    exact lies_atL r (o+x.size) h.head.2 hw.2 q (by omega) (by omega)
end
theorem On.at_ {ns:List Nd}{a:Ast}(h:On ns 0 a)(hw:wfR a)(hs:a.size=ns.length)(q:Nat)(hq:q<ns.length):∃y,On ns q y∧wfR y:=by
 obtain ⟨t,e,hl⟩:=h
 obtain ⟨y,h1,h2⟩:=lies_at a 0 hl hw q (by omega) (by omega)
 exact ⟨y,⟨t,e,h1⟩,h2⟩
theorem few_small {ns:List Nd}(h:fewQ ns=true):SmallT ns∧ns.length≤200∧∀nd∈ns,nd.text.size≤50:=by
 unfold fewQ at h
 simp only [Bool.and_eq_true,decide_eq_true_eq,List.all_eq_true] at h
 exact ⟨⟨by omega,fun nd hm=>⟨by have:=(h.2 nd hm).1;omega,by have:=(h.2 nd hm).2;omega⟩⟩,by omega,fun nd hm=>(h.2 nd hm).2⟩
theorem one_none {s:ByteArray}(h:s.size=0):s=none0:=by
 cases s with
 | mk d=>simp [ByteArray.size] at h;rw [h]
theorem few_tree {ns:List Nd}(h:fewQ ns=true)(hr:rightP ns=true):∃a0 ks,On ns 0 (.mk 1 a0 none0 0 ks)∧wfR (.mk 1 a0 none0 0 ks)∧(Ast.mk 1 a0 none0 0 ks).size=ns.length∧(progL ks).size≤65536:=by
 obtain ⟨hS,h200,h50⟩:=few_small h
 obtain ⟨a,hw,hk,hs,hO⟩:=right_ast hr hS.len (fun nd hm=>(hS.each nd hm).2)
 have hsm:=hO.small h50
 cases a with
 | mk k a0 s n ks =>
  obtain rfl:k=1:=hk
  have h1:=hw.1.1
  simp only [nodeRW,Bool.and_eq_true,decide_eq_true_eq,wordsR,Bool.or_eq_true] at h1
  have hs0:s=none0:=by
   rcases h1.2.2.1.2.1 with h2|h2
   · exact absurd h2 (by decide)
   · exact one_none h2
  have hn0:n=0:=by
   have h3:=h1.2.2.1.2.2.1
   have h4:=h1.2.2.1.2.2.2
   rw [show mostR 1=0 by decide] at h4
   omega
  subst hs0 hn0
  exact ⟨a0,ks,hO,hw,hs,fits hw hsm (by omega)⟩
theorem expr_no (w:World)(p:Option Addr)(len c:Nat)(ns:List Nd)(hT:TV w p len c ns)(hS:SmallT ns)(i:Int)(h:i<0∨(len:Int)≤i∨(∃q:Nat,i=(q:Int)∧q<len∧¬(20≤(ns.getD q default).kind∧(ns.getD q default).kind≤26))∨rightP ns=false) :
 Calls Tryz.prog 27 #[.agg #[.slice p len c],.int .i64 i] w (NoExpr w):=by
 by_cases h1:i<0
 · exact expr_low w p len c i h1
 by_cases h2:(len:Int)≤i
 · exact expr_high w p len c i h2
 obtain ⟨q,rfl⟩:∃q:Nat,i=(q:Int):=⟨i.toNat,by omega⟩
 by_cases h3:20≤(ns.getD q default).kind∧(ns.getD q default).kind≤26
 · refine expr_wrong w p len c ns hT hS ?_ _ q rfl (by omega) h3
   rcases h with h|h|⟨q',e,_,h⟩|h
   · exact absurd h h1
   · exact absurd h h2
   · obtain rfl:q=q':=by omega
     exact absurd h3 h
   · exact h
 · exact expr_kind w p len c ns hT _ q rfl (by omega) h3
theorem code_no (w:World)(hg:ET w)(j:Int):Calls Tryz.prog 25 #[.iface 45 (.int .i64 j)] w fun e w'=>e=.returned (.int .i64 j)∧Below w.heap.size w w':=code_in 45 (.int .i64 j) j 0 w hg .here
theorem place_none (w:World)(hg:ET w)(j:Int):Calls Tryz.prog 26 #[.iface 45 (.int .i64 j)] w fun e w'=>e=.returned (.tuple #[.int .i64 0,.int .i64 0,.int .i64 0,.bool false])∧Below w.heap.size w w':=place_no 45 (.int .i64 j) j 0 w hg .here
end
section
open Go.RowKit Tr Go.Shelf
structure BX (w:World)(p:Option Addr)(len c:Nat)(W:World):Prop where
 below:Below w.heap.size w W
 lt:w.heap.size<W.heap.size
 box:W.cell? ⟨w.heap.size,0,none⟩=some (.slice p len c)
theorem BX.on {w W W':World}{p:Option Addr}{len c:Nat}(h:BX w p len c W)(hb:Below W.heap.size W W'):BX w p len c W' :=
 ⟨h.below.trans (hb.mono h.below.size),Nat.lt_of_lt_of_le h.lt hb.size,(hb.cell (p:=⟨w.heap.size,0,none⟩) h.lt).trans h.box⟩
theorem bx_new (w:World)(p:Option Addr)(len c:Nat):BX w p len c (w.alloc (.cells #[.slice p len c] 39)) :=
 ⟨one_below w _,by simp,by simp⟩
theorem conv_nil (W:World):(convert 22 9 (.slice none 0 0)).run Tryz.prog W=.ok (.string ⟨#[]⟩) W:=Lib.run_convert_nil_bytes W _ _ 5 0 Tryz.underlying22 Tryz.underlying5 Tryz.underlying9
theorem pa_big (w:World)(p:Option Addr)(len c:Nat)(ns:List Nd)(hT:TV w p len c ns)(ht:PT10 w)(i:Int)(hq:fewQ ns=false) :
 Calls Tryz.prog 4 #[.agg #[.slice p len c],.int .i64 i] w fun e w'=>e=.returned (.bool true)∧Below w.heap.size w w':=by
 have BX0:=lh (bx_new w p len c)
 have FQ:=lh (few_at (w.alloc (.cells #[.slice p len c] 39)) p len c ns (hT.on (one_below w _)))
 rw [hq] at FQ
 have HP:=lh (ht.below (one_below w (.cells #[.slice p len c] 39)))
 clear hT ht hq
 go_enter Tryz.func4,Tryz.ntmps4
 go_wp2_with fail
 (with_reducible refine FQ.out.mono ?_)
 rintro e w1 ⟨rfl,hb1⟩
 have WK:=lh (works6 w1 (HP.out.below hb1))
 have BX1:=lh (BX0.out.on hb1)
 clear hb1 FQ
 go_wp2_with fail
 (with_reducible refine WK.out.mono ?_)
 rintro e w2 ⟨rfl,hb2⟩
 have BX2:=lh (BX1.out.on hb2)
 clear hb2 WK
 go_wp2
 go_ret
 exact ⟨rfl,BX2.out.below⟩
theorem pa_wrong (w:World)(p:Option Addr)(len c:Nat)(ns:List Nd)(hT:TV w p len c ns)(hg:ET w)(ht:PT10 w)(i:Int)(hq:fewQ ns=true)(hr:rightP ns=false) :
 Calls Tryz.prog 4 #[.agg #[.slice p len c],.int .i64 i] w fun e w'=>e=.returned (.bool true)∧Below w.heap.size w w':=by
 obtain ⟨hS,h200,_⟩:=few_small hq
 have hle:=hT.len_eq
 have BX0:=lh (bx_new w p len c)
 have FQ:=lh (few_at (w.alloc (.cells #[.slice p len c] 39)) p len c ns (hT.on (one_below w _)))
 rw [hq] at FQ
 have HP:=lh ht
 have HG:=lh hg
 have HT:=lh hT
 have HS:=lh hS
 have HRP:=lh hr
 have HRR:Hid (rightR ns=false):=lh (by rw [← right_eq _ (fun nd hm=>by have:=(hS.each nd hm).1;omega)];exact hr)
 have cv:=conv_nil
 clear hT ht hq hg hr hS
 go_enter Tryz.func4,Tryz.ntmps4
 go_wp2_with fail
 (with_reducible refine FQ.out.mono ?_)
 rintro e w1 ⟨rfl,hb1⟩
 have BX1:=lh (BX0.out.on hb1)
 have x1:=BX1.out.box
 have PL:=lh (plain_at w1 p len c ns (HT.out.on BX1.out.below) (by omega))
 clear hb1 FQ BX0
 go_wp2_with fail
 (with_reducible refine PL.out.mono ?_)
 rintro e w2 ⟨⟨pm,cm,rfl,hM⟩,hb2⟩
 have BX2:=lh (BX1.out.on hb2)
 have x2:=BX2.out.box
 have HM:=lh hM
 have PR:=lh (print_no w2 p len c ns (HT.out.on BX2.out.below) HS.out HRP.out)
 clear hb2 hM PL BX1 x1
 go_wp2_with fail
 (with_reducible refine PR.out.mono ?_)
 rintro e w3 ⟨rfl,hb3⟩
 have BX3:=lh (BX2.out.on hb3)
 have x3:=BX3.out.box
 have RR:=lh (refPrint_no w3 pm len cm ns (HM.out.on hb3) HS.out HRR.out)
 clear hb3 PR BX2 x2 HM
 go_wp2_with fail
 (with_reducible refine RR.out.mono ?_)
 rintro e w4 ⟨rfl,hb4⟩
 have BX4:=lh (BX3.out.on hb4)
 have x4:=BX4.out.box
 have CN:=lh (code_no w4 (HG.out.below BX4.out.below) 2)
 clear hb4 RR BX3 x3
 go_wp2_with fail
 (with_reducible refine CN.out.mono ?_)
 rintro e w5 ⟨rfl,hb5⟩
 have BX5:=lh (BX4.out.on hb5)
 have x5:=BX5.out.box
 have PN:=lh (place_none w5 (HG.out.below BX5.out.below) 2)
 clear hb5 CN BX4 x4
 go_wp2_with fail
 (with_reducible refine PN.out.mono ?_)
 rintro e w6 ⟨rfl,hb6⟩
 have BX6:=lh (BX5.out.on hb6)
 have x6:=BX6.out.box
 have EX:=lh (expr_no w6 p len c ns (HT.out.on BX6.out.below) HS.out i (Or.inr (Or.inr (Or.inr HRP.out))))
 clear hb6 PN BX5 x5
 go_wp2_with fail
 (with_reducible refine EX.out.mono ?_)
 rintro e w7 ⟨rfl,hb7⟩
 have BX7:=lh (BX6.out.on hb7)
 have x7:=BX7.out.box
 have CN:=lh (code_no w7 (HG.out.below BX7.out.below) 2)
 clear hb7 EX BX6 x6
 go_wp2_with fail
 (with_reducible refine CN.out.mono ?_)
 rintro e w8 ⟨rfl,hb8⟩
 have BX8:=lh (BX7.out.on hb8)
 have WK:=lh (works6 w8 (HP.out.below BX8.out.below))
 clear hb8 CN BX7 x7
 go_wp2_with fail
 (with_reducible refine WK.out.mono ?_)
 rintro e w9 ⟨rfl,hb9⟩
 have BX9:=lh (BX8.out.on hb9)
 clear hb9 WK
 go_wp2
 go_ret
 exact ⟨rfl,BX9.out.below⟩
theorem pa_bad (w:World)(p:Option Addr)(len c:Nat)(ns:List Nd)(hT:TV w p len c ns)(hg:ET w)(ht:PT10 w)(i:Int)(hq:fewQ ns=true)(hr:rightP ns=true)(hi:i<0∨(len:Int)≤i∨∃q:Nat,i=(q:Int)∧q<len∧(ns.getD q default).kind<20) :
 Calls Tryz.prog 4 #[.agg #[.slice p len c],.int .i64 i] w fun e w'=>e=.returned (.bool true)∧Below w.heap.size w w':=by
 obtain ⟨hS,h200,_⟩:=few_small hq
 obtain ⟨a0,ks,hO,hw,hsz,hfit⟩:=few_tree hq hr
 have hle:=hT.len_eq
 have BX0:=lh (bx_new w p len c)
 have FQ:=lh (few_at (w.alloc (.cells #[.slice p len c] 39)) p len c ns (hT.on (one_below w _)))
 rw [hq] at FQ
 have HP:=lh ht
 have HG:=lh hg
 have HT:=lh hT
 have HS:=lh hS
 have HRP:=lh hr
 have HRR:Hid (rightR ns=true):=lh (by rw [← right_eq _ (fun nd hm=>by have:=(hS.each nd hm).1;omega)];exact hr)
 have HO:=lh hO
 have HW:=lh hw
 have HF:=lh hfit
 have HI:=lh hi
 clear hT ht hq hg hr hS hO hw hfit hsz
 go_enter Tryz.func4,Tryz.ntmps4
 go_wp2_with fail
 (with_reducible refine FQ.out.mono ?_)
 rintro e w1 ⟨rfl,hb1⟩
 have BX1:=lh (BX0.out.on hb1)
 have x1:=BX1.out.box
 have PL:=lh (plain_at w1 p len c ns (HT.out.on BX1.out.below) (by omega))
 clear hb1 FQ BX0
 go_wp2_with fail
 (with_reducible refine PL.out.mono ?_)
 rintro e w2 ⟨⟨pm,cm,rfl,hM⟩,hb2⟩
 have BX2:=lh (BX1.out.on hb2)
 have x2:=BX2.out.box
 have HM:=lh hM
 have PR:=lh (print_yes w2 p len c ns (HT.out.on BX2.out.below) HS.out (HP.out.below BX2.out.below) HRP.out a0 none0 0 ks HO.out HW.out (by omega) HF.out)
 clear hb2 hM PL BX1 x1
 go_wp2_with fail
 (with_reducible refine PR.out.mono ?_)
 rintro e w3 ⟨v,rfl,hb3,hown⟩
 have BX3:=lh (BX2.out.on hb3)
 have x3:=BX3.out.box
 have OW:=lh hown
 have RR:=refPrint_yes w3 pm len cm ns (HM.out.on hb3) HS.out (HP.out.below BX3.out.below) HRR.out none0 0 a0 ks HO.out HW.out
 rw [if_pos HF.out] at RR
 have RR:=lh RR
 have HM:=lh (HM.out.on hb3)
 generalize progL ks=PL at *
 clear hb3 hown PR BX2 x2
 go_wp2_with fail
 (with_reducible refine RR.out.mono ?_)
 rintro e w4 ⟨rfl,hb4⟩
 have BX4:=lh (BX3.out.on hb4)
 have x4:=BX4.out.box
 have HM:=lh (HM.out.on hb4)
 have OW:=lh (own_on OW.out hb4)
 have CN:=lh (code_none w4)
 clear hb4 RR BX3 x3
 go_wp2_with fail
 (with_reducible refine CN.out.mono ?_)
 rintro e w5 ⟨rfl,hb5⟩
 have BX5:=lh (BX4.out.on hb5)
 have x5:=BX5.out.box
 have HM:=lh (HM.out.on hb5)
 have cv:=told_conv (own_on OW.out hb5)
 have PN:=lh (place_nilA w5)
 clear hb5 CN BX4 x4 OW
 have hbe:=beq_str PL PL
 go_wp2_with fail
 (with_reducible refine PN.out.mono ?_)
 rintro e w6 ⟨rfl,hb6⟩
 have BX6:=lh (BX5.out.on hb6)
 have x6:=BX6.out.box
 have HM:=lh (HM.out.on hb6)
 have EX:=lh (expr_no w6 p len c ns (HT.out.on BX6.out.below) HS.out i (by rcases HI.out with h|h|⟨q,h1,h2,h3⟩;exact Or.inl h;exact Or.inr (Or.inl h);exact Or.inr (Or.inr (Or.inl ⟨q,h1,h2,by omega⟩))))
 clear hb6 PN BX5 x5 cv
 go_wp2_with fail
 (with_reducible refine EX.out.mono ?_)
 rintro e w7 ⟨rfl,hb7⟩
 have BX7:=lh (BX6.out.on hb7)
 have x7:=BX7.out.box
 have CN:=lh (code_no w7 (HG.out.below BX7.out.below) 2)
 have WK:Hid (∀w8,Below w7.heap.size w7 w8→Calls Tryz.prog 21 #[] w8 fun e w'=>e=.returned (.bool true)∧Below w.heap.size w w'):=lh (fun w8 h8=>(works6 w8 (HP.out.below (BX7.out.on h8).below)).mono fun e w' ⟨h1,h2⟩=>⟨h1,((BX7.out.on h8).on h2).below⟩)
 clear hb7 EX BX6 x6 HM
 by_cases h0:i<0
 · go_wp2_with fail
   (with_reducible refine CN.out.mono ?_)
   rintro e w8 ⟨rfl,hb8⟩
   go_wp2_with fail
   (with_reducible refine (WK.out w8 hb8).mono ?_)
   rintro e w9 ⟨rfl,hb9⟩
   go_wp2
   go_ret
   exact ⟨rfl,hb9⟩
 by_cases h1:(len:Int)≤i
 · go_wp2_with fail
   (with_reducible refine CN.out.mono ?_)
   rintro e w8 ⟨rfl,hb8⟩
   go_wp2_with fail
   (with_reducible refine (WK.out w8 hb8).mono ?_)
   rintro e w9 ⟨rfl,hb9⟩
   go_wp2
   go_ret
   exact ⟨rfl,hb9⟩
 obtain ⟨q,rfl,hql,hqk⟩:∃q:Nat,i=(q:Int)∧q<len∧(ns.getD q default).kind<20:=by
  rcases HI.out with h|h|h
  · exact absurd h h0
  · exact absurd h h1
  · exact h
 obtain ⟨nb,off,rfl,hbl,hc⟩:=(HT.out.on BX7.out.below).node (by omega)
 obtain ⟨kp,kl,kc,hn⟩:=hc q hql
 have k0:=hn.kind
 have hb0:(0:Int)≤(q:Int):=by omega
 have hb1:(q:Int)<(len:Int):=by omega
 generalize (ns.getD q default)=nd at *
 have hkk:decide (nd.kind<20)=true:=by simpa using hqk
 clear hc hn HI
 go_wp2_with fail
 (with_reducible refine CN.out.mono ?_)
 rintro e w8 ⟨rfl,hb8⟩
 go_wp2_with fail
 (with_reducible refine (WK.out w8 hb8).mono ?_)
 rintro e w9 ⟨rfl,hb9⟩
 go_wp2
 go_ret
 exact ⟨rfl,hb9⟩
theorem pa_good (w:World)(p:Option Addr)(len c:Nat)(ns:List Nd)(hT:TV w p len c ns)(hg:ET w)(ht:PT10 w)(i:Int)(hq:fewQ ns=true)(hr:rightP ns=true)(q:Nat)(hi:i=(q:Int))(hql:q<len)(hqk:20≤(ns.getD q default).kind) :
 Calls Tryz.prog 4 #[.agg #[.slice p len c],.int .i64 i] w fun e w'=>e=.returned (.bool true)∧Below w.heap.size w w':=by
 obtain ⟨hS,h200,_⟩:=few_small hq
 obtain ⟨a0,ks,hO,hw,hsz,hfit⟩:=few_tree hq hr
 have hle:=hT.len_eq
 have BX0:=lh (bx_new w p len c)
 have FQ:=lh (few_at (w.alloc (.cells #[.slice p len c] 39)) p len c ns (hT.on (one_below w _)))
 rw [hq] at FQ
 have HP:=lh ht
 have HG:=lh hg
 have HT:=lh hT
 have HS:=lh hS
 have HRP:=lh hr
 have HRR:Hid (rightR ns=true):=lh (by rw [← right_eq _ (fun nd hm=>by have:=(hS.each nd hm).1;omega)];exact hr)
 have HO:=lh hO
 have HW:=lh hw
 have HF:=lh hfit
 subst hi
 obtain ⟨y,hOy,hwy⟩:=hO.at_ hw hsz q (by omega)
 have hky:(ns.getD q default).kind=y.kind:=hOy.kind
 have hq0:0<q:=by
  rcases Nat.eq_zero_or_pos q with e|e
  · subst e
    rw [hO.kind] at hqk
    have h01:(20:Int)≤1:=hqk
    omega
  · exact e
 have hk20:20≤y.kind:=by rw [← hky];exact hqk
 have HOY:=lh hOy
 have HWY:=lh hwy
 have HK:=lh hqk
 have HK20:=lh hk20
 clear hOy hwy hky hqk hk20
 clear hT ht hq hg hr hS hO hw hfit hsz
 go_enter Tryz.func4,Tryz.ntmps4
 go_wp2_with fail
 (with_reducible refine FQ.out.mono ?_)
 rintro e w1 ⟨rfl,hb1⟩
 have BX1:=lh (BX0.out.on hb1)
 have x1:=BX1.out.box
 have PL:=lh (plain_at w1 p len c ns (HT.out.on BX1.out.below) (by omega))
 clear hb1 FQ BX0
 go_wp2_with fail
 (with_reducible refine PL.out.mono ?_)
 rintro e w2 ⟨⟨pm,cm,rfl,hM⟩,hb2⟩
 have BX2:=lh (BX1.out.on hb2)
 have x2:=BX2.out.box
 have HM:=lh hM
 have PR:=lh (print_yes w2 p len c ns (HT.out.on BX2.out.below) HS.out (HP.out.below BX2.out.below) HRP.out a0 none0 0 ks HO.out HW.out (by omega) HF.out)
 clear hb2 hM PL BX1 x1
 go_wp2_with fail
 (with_reducible refine PR.out.mono ?_)
 rintro e w3 ⟨v,rfl,hb3,hown⟩
 have BX3:=lh (BX2.out.on hb3)
 have x3:=BX3.out.box
 have OW:=lh hown
 have RR:=refPrint_yes w3 pm len cm ns (HM.out.on hb3) HS.out (HP.out.below BX3.out.below) HRR.out none0 0 a0 ks HO.out HW.out
 rw [if_pos HF.out] at RR
 have RR:=lh RR
 have HM:=lh (HM.out.on hb3)
 generalize progL ks=PL at *
 clear hb3 hown PR BX2 x2
 go_wp2_with fail
 (with_reducible refine RR.out.mono ?_)
 rintro e w4 ⟨rfl,hb4⟩
 have BX4:=lh (BX3.out.on hb4)
 have x4:=BX4.out.box
 have HM:=lh (HM.out.on hb4)
 have OW:=lh (own_on OW.out hb4)
 have CN:=lh (code_none w4)
 clear hb4 RR BX3 x3
 go_wp2_with fail
 (with_reducible refine CN.out.mono ?_)
 rintro e w5 ⟨rfl,hb5⟩
 have BX5:=lh (BX4.out.on hb5)
 have x5:=BX5.out.box
 have HM:=lh (HM.out.on hb5)
 have cv:=told_conv (own_on OW.out hb5)
 have PN:=lh (place_nilA w5)
 clear hb5 CN BX4 x4 OW
 have hbe:=beq_str PL PL
 go_wp2_with fail
 (with_reducible refine PN.out.mono ?_)
 rintro e w6 ⟨rfl,hb6⟩
 have BX6:=lh (BX5.out.on hb6)
 have x6:=BX6.out.box
 have HM:=lh (HM.out.on hb6)
 have EX:=lh ((by cases y with|mk k a s n kys=>exact expr_yes w6 p len c ns (HT.out.on BX6.out.below) HS.out (HP.out.below BX6.out.below) HRP.out _ k q a s n kys rfl HOY.out HWY.out HK20.out hq0 (by omega):Calls Tryz.prog 27 #[.agg #[.slice p len c],.int .i64 (q:Int)] w6 fun e w'=>e=.returned (.tuple #[.string (exT y),.nilIface])∧Below w6.heap.size w6 w'))
 clear hb6 PN BX5 x5 cv
 go_wp2_with fail
 (with_reducible refine EX.out.mono ?_)
 rintro e w7 ⟨rfl,hb7⟩
 have BX7:=lh (BX6.out.on hb7)
 have x7:=BX7.out.box
 have HM:=lh (HM.out.on hb7)
 have RX:=lh (refExpr_at ns y.size y (Nat.le_refl _) HWY.out HK20.out q w7 pm len cm HM.out HOY.out HWY.out (HP.out.below BX7.out.below) (by omega))
 have WK:Hid (∀w8,Below w7.heap.size w7 w8→Calls Tryz.prog 21 #[] w8 fun e w'=>e=.returned (.bool true)∧Below w.heap.size w w'):=lh (fun w8 h8=>(works6 w8 (HP.out.below (BX7.out.on h8).below)).mono fun e w' ⟨h1,h2⟩=>⟨h1,((BX7.out.on h8).on h2).below⟩)
 clear hb7 EX BX6 x6
 obtain ⟨nb,off,rfl,hbl,hc⟩:=(HT.out.on BX7.out.below).node (by omega)
 obtain ⟨kp,kl,kc,hn⟩:=hc q hql
 have k0:=hn.kind
 have hb0:(0:Int)≤(q:Int):=by omega
 have hb1:(q:Int)<(len:Int):=by omega
 have hb2:¬ ((q:Int)<0):=by omega
 have hb3:¬ ((len:Int)≤(q:Int)):=by omega
 have hkk:decide ((ns.getD q default).kind<20)=false:=by rw [decide_eq_false_iff_not];have:=HK.out;omega
 generalize (ns.getD q default)=nd at *
 generalize exT y=EY at *
 have hbe2:=beq_str EY EY
 clear hc hn HM hbl
 go_wp2_with fail
 (with_reducible refine RX.out.mono ?_)
 rintro e w8 ⟨rfl,hb8⟩
 go_wp2_with fail
 (with_reducible refine (WK.out w8 hb8).mono ?_)
 rintro e w9 ⟨rfl,hb9⟩
 go_wp2
 go_ret
 exact ⟨rfl,hb9⟩
theorem printAny (w:World)(p:Option Addr)(len c:Nat)(ns:List Nd)(hT:TV w p len c ns)(hg:ET w)(ht:PT10 w)(i:Int) :
 Calls Tryz.prog 4 #[.agg #[.slice p len c],.int .i64 i] w fun e w'=>e=.returned (.bool true)∧Below w.heap.size w w':=by
 cases hq:fewQ ns with
 | false=>exact pa_big w p len c ns hT ht i hq
 | true =>
  cases hr:rightP ns with
  | false=>exact pa_wrong w p len c ns hT hg ht i hq hr
  | true =>
   by_cases h:i<0∨(len:Int)≤i∨∃q:Nat,i=(q:Int)∧q<len∧(ns.getD q default).kind<20
   · exact pa_bad w p len c ns hT hg ht i hq hr h
   · have h1:¬ i<0:=fun e=>h (Or.inl e)
     have h2:¬ (len:Int)≤i:=fun e=>h (Or.inr (Or.inl e))
     obtain ⟨q,rfl⟩:∃q:Nat,i=(q:Int):=⟨i.toNat,by omega⟩
     have h3:¬ (ns.getD q default).kind<20:=fun e=>h (Or.inr (Or.inr ⟨q,rfl,by omega,e⟩))
     exact pa_good w p len c ns hT hg ht _ hq hr q rfl (by omega) (by omega)
end
end Go.Proofs.YthdioipfdbbmmaaGreatDoor
