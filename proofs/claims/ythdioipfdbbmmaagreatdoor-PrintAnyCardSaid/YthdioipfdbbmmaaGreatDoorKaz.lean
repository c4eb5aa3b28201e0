/- Contracts. -/
import Derived.Test.YthdioipfdbbmmaaGreatDoorKab
import Derived.Test.YthdioipfdbbmmaaGreatDoorKap
import Derived.Test.YthdioipfdbbmmaaGreatDoorKaw
import Derived.Test.YthdioipfdbbmmaaGreatDoorKay
set_option linter.all false
set_option maxRecDepth 1000000
set_option maxHeartbeats 16000000
namespace Go.Proofs.YthdioipfdbbmmaaGreatDoor
section
open Go.RowKit Tr Go.Shelf
def ks1:List Ast:=[.mk 3 0 ⟨#[112]⟩ 0 [.mk 4 7 none0 0 [],.mk 6 8 none0 0 [.mk 17 9 none0 0 [.mk 25 15 none0 0 [.mk 24 15 none0 0 [.mk 21 15 none0 1 [],.mk 24 19 none0 0 [.mk 21 19 none0 2 [],.mk 21 21 none0 3 []]],.mk 26 25 none0 0 [.mk 23 27 none0 0 [.mk 22 27 ⟨#[97]⟩ 0 [],.mk 22 29 ⟨#[98]⟩ 0 []]]]]]]]
def ks2:List Ast:=[.mk 2 0 ⟨#[116]⟩ 0 [.mk 5 8 ⟨#[99]⟩ 0 [],.mk 5 10 ⟨#[100]⟩ 0 []]]
def out1:ByteArray:=⟨#[112,114,111,99,32,112,40,41,32,123,10,9,101,109,105,116,32,40,49,32,45,32,40,50,32,45,32,51,41,41,32,42,32,45,40,97,32,43,32,98,41,59,10,125,10]⟩
def out2:ByteArray:=⟨#[116,97,98,108,101,32,116,40,99,44,32,100,41,59,10]⟩
theorem lit1:parseS [112,114,111,99,32,112,40,41,123,101,109,105,116,40,40,49,41,45,40,50,45,51,41,41,42,45,40,97,43,98,41,59,125]=.ok (flat 0 (.mk 1 0 none0 0 ks1)):=by kernel_rfl
theorem lit2:parseS [116,97,98,108,101,32,116,40,99,44,100,41,59]=.ok (flat 0 (.mk 1 0 none0 0 ks2)):=by kernel_rfl
theorem num1 (k:Nat)(h:k<10):numT (k:Int)=⟨#[UInt8.ofNat (48+k)]⟩:=by
 unfold numT Lib.itoa
 rw [if_neg (by omega),show ((k:Int)).toNat=k by omega,Lib.decDigits_one h]
theorem prog1:progL ks1=out1:=by
 have h1:progL ks1=lineT 0 (⟨#[112,114,111,99,32]⟩++⟨#[112]⟩++⟨#[40]⟩++none0++⟨#[41]⟩++⟨#[]⟩++⟨#[32,123]⟩)++(lineT 1 (⟨#[101,109,105,116,32]⟩++((⟨#[40]⟩++(numT 1++⟨#[32,45,32]⟩++(⟨#[40]⟩++(numT 2++⟨#[32,45,32]⟩++numT 3)++⟨#[41]⟩))++⟨#[41]⟩)++⟨#[32,42,32]⟩++(⟨#[45]⟩++(⟨#[40]⟩++(⟨#[97]⟩++⟨#[32,43,32]⟩++⟨#[98]⟩)++⟨#[41]⟩)))++⟨#[59]⟩)++none0)++lineT 0 ⟨#[125]⟩++none0:=rfl
 rw [h1,show numT 1=⟨#[49]⟩ from num1 1 (by decide),show numT 2=⟨#[50]⟩ from num1 2 (by decide),show numT 3=⟨#[51]⟩ from num1 3 (by decide)]
 rfl
theorem prog2:progL ks2=out2:=by kernel_rfl
def litQ (ns:List Nd):Bool:=rightP ns&&decide (ns.length≤70000)&&ns.all fun nd=>decide (nd.kids.length≤70000)&&decide (nd.text.size≤70000)
theorem print_lit (w:World)(p:Option Addr)(len c:Nat)(a0:Nat)(ks:List Ast)(T:ByteArray)(hT:TV w p len c (flat 0 (.mk 1 a0 none0 0 ks)))(ht:PT10 w)(hq:litQ (flat 0 (.mk 1 a0 none0 0 ks))=true)(hp:progL ks=T)(hs:T.size≤65536) :
 Calls Tryz.prog 23 #[.agg #[.slice p len c]] w fun e w'=>∃v,e=.returned (.tuple #[v,.nilIface])∧Below w.heap.size w w'∧w'.ownsRow w.heap.size 5 1 v T.size (Lib.strCells T):=by
 unfold litQ at hq
 simp only [Bool.and_eq_true,decide_eq_true_eq,List.all_eq_true] at hq
 have hlen:=hT.len_eq
 have hw:wfR (.mk 1 a0 none0 0 ks):=wfR_wfA 0 _ (by have:=flat_length 0 (Ast.mk 1 a0 none0 0 ks);omega) (fun nd hm=>(hq.2 nd hm).2) ((right_flat _).1 hq.1.1).2
 have h:=print_yes w p len c _ hT ⟨hq.1.2,fun nd hm=>hq.2 nd hm⟩ ht hq.1.1 a0 none0 0 ks ⟨_,rfl,Lies.whole _⟩ hw (by omega) (by rw [hp];exact hs)
 rw [hp] at h
 exact h
theorem works6 (w:World)(ht:PT10 w):Calls Tryz.prog 21 #[] w fun e w'=>e=.returned (.bool true)∧Below w.heap.size w w':=by
 have HT:=lh ht
 have HB:=lh (Below.refl w.heap.size w)
 have kc:=fun (w:World) (C:Array Value) (n c:Nat)=>Lib.run_convert_bytes_const (P:=Tryz.prog) w 22 5 C n c Tryz.underlying22 Tryz.underlying5
 clear ht
 have EA:=lh (parse_at (w.alloc (.cells #[.int .u8 112,.int .u8 114,.int .u8 111,.int .u8 99,.int .u8 32,.int .u8 112,.int .u8 40,.int .u8 41,.int .u8 123,.int .u8 101,.int .u8 109,.int .u8 105,.int .u8 116,.int .u8 40,.int .u8 40,.int .u8 49,.int .u8 41,.int .u8 45,.int .u8 40,.int .u8 50,.int .u8 45,.int .u8 51,.int .u8 41,.int .u8 41,.int .u8 42,.int .u8 45,.int .u8 40,.int .u8 97,.int .u8 43,.int .u8 98,.int .u8 41,.int .u8 59,.int .u8 125] 5 (33,34))) (some ⟨w.heap.size,0,none⟩) 33 33 _ (src_const w #[.int .u8 112,.int .u8 114,.int .u8 111,.int .u8 99,.int .u8 32,.int .u8 112,.int .u8 40,.int .u8 41,.int .u8 123,.int .u8 101,.int .u8 109,.int .u8 105,.int .u8 116,.int .u8 40,.int .u8 40,.int .u8 49,.int .u8 41,.int .u8 45,.int .u8 40,.int .u8 50,.int .u8 45,.int .u8 51,.int .u8 41,.int .u8 41,.int .u8 42,.int .u8 45,.int .u8 40,.int .u8 97,.int .u8 43,.int .u8 98,.int .u8 41,.int .u8 59,.int .u8 125] [112,114,111,99,32,112,40,41,123,101,109,105,116,40,40,49,41,45,40,50,45,51,41,41,42,45,40,97,43,98,41,59,125] 33 rfl rfl (by decide) 33 34) (by decide))
 go_enter Tryz.func21,Tryz.ntmps21
 go_wp2_with fail
 (with_reducible refine EA.out.mono ?_)
 rintro e w1 ⟨hb,hm⟩
 clear EA
 rw [lit1] at hm
 obtain ⟨pa,na,ca,rfl,hT⟩:=hm
 have hbx:=one_below w1 (.cells #[.slice pa na ca] 39)
 have TA:=lh (hT.on hbx)
 have XA:=lh (heap_alloc_new w1 (.cells #[.slice pa na ca] 39))
 have HBB:=lh (((one_below w (.cells #[.int .u8 112,.int .u8 114,.int .u8 111,.int .u8 99,.int .u8 32,.int .u8 112,.int .u8 40,.int .u8 41,.int .u8 123,.int .u8 101,.int .u8 109,.int .u8 105,.int .u8 116,.int .u8 40,.int .u8 40,.int .u8 49,.int .u8 41,.int .u8 45,.int .u8 40,.int .u8 50,.int .u8 45,.int .u8 51,.int .u8 41,.int .u8 41,.int .u8 42,.int .u8 45,.int .u8 40,.int .u8 97,.int .u8 43,.int .u8 98,.int .u8 41,.int .u8 59,.int .u8 125] 5 (33,34))).trans (hb.mono (by simp))).trans (hbx.mono (((one_below w (.cells #[.int .u8 112,.int .u8 114,.int .u8 111,.int .u8 99,.int .u8 32,.int .u8 112,.int .u8 40,.int .u8 41,.int .u8 123,.int .u8 101,.int .u8 109,.int .u8 105,.int .u8 116,.int .u8 40,.int .u8 40,.int .u8 49,.int .u8 41,.int .u8 45,.int .u8 40,.int .u8 50,.int .u8 45,.int .u8 51,.int .u8 41,.int .u8 41,.int .u8 42,.int .u8 45,.int .u8 40,.int .u8 97,.int .u8 43,.int .u8 98,.int .u8 41,.int .u8 59,.int .u8 125] 5 (33,34))).trans (hb.mono (by simp))).size)))
 have HT:=lh (HT.out.below HBB.out)
 have HB:=lh (HB.out.trans HBB.out)
 clear HBB hb hT hbx
 have hz9:(w1.alloc (.cells #[.slice pa na ca] 39)).heap.size=w1.heap.size+1:=by simp
 have EA:=parse_at ((w1.alloc (.cells #[.slice pa na ca] 39)).alloc (.cells #[.int .u8 116,.int .u8 97,.int .u8 98,.int .u8 108,.int .u8 101,.int .u8 32,.int .u8 116,.int .u8 40,.int .u8 99,.int .u8 44,.int .u8 100,.int .u8 41,.int .u8 59] 5 (13,14))) (some ⟨(w1.alloc (.cells #[.slice pa na ca] 39)).heap.size,0,none⟩) 13 13 _ (src_const (w1.alloc (.cells #[.slice pa na ca] 39)) #[.int .u8 116,.int .u8 97,.int .u8 98,.int .u8 108,.int .u8 101,.int .u8 32,.int .u8 116,.int .u8 40,.int .u8 99,.int .u8 44,.int .u8 100,.int .u8 41,.int .u8 59] [116,97,98,108,101,32,116,40,99,44,100,41,59] 13 rfl rfl (by decide) 13 14) (by decide)
 rw [hz9] at EA
 have kc2:=kc (w1.alloc (.cells #[.slice pa na ca] 39)) (#[.int .u8 116,.int .u8 97,.int .u8 98,.int .u8 108,.int .u8 101,.int .u8 32,.int .u8 116,.int .u8 40,.int .u8 99,.int .u8 44,.int .u8 100,.int .u8 41,.int .u8 59]) 13 13
 rw [hz9] at kc2
 clear hz9
 have EA:=lh EA
 go_wp2_with fail
 (with_reducible refine EA.out.mono ?_)
 rintro e w2 ⟨hb,hm⟩
 clear EA kc2
 rw [lit2] at hm
 obtain ⟨pb,nb,cb,rfl,hT⟩:=hm
 have hbx:=one_below w2 (.cells #[.slice pb nb cb] 39)
 have TB:=lh (hT.on hbx)
 have XB:=lh (heap_alloc_new w2 (.cells #[.slice pb nb cb] 39))
 have hb1:=one_below (w1.alloc (.cells #[.slice pa na ca] 39)) (.cells #[.int .u8 116,.int .u8 97,.int .u8 98,.int .u8 108,.int .u8 101,.int .u8 32,.int .u8 116,.int .u8 40,.int .u8 99,.int .u8 44,.int .u8 100,.int .u8 41,.int .u8 59] 5 (13,14))
 have HBB:=lh ((hb1.trans (hb.mono hb1.size)).trans (hbx.mono ((hb1.trans (hb.mono hb1.size)).size)))
 have HT:=lh (HT.out.below HBB.out)
 have HB:=lh (HB.out.trans (HBB.out.mono HB.out.size))
 have TA:=lh (TA.out.on HBB.out)
 have XA:=lh (on_row HBB.out XA.out)
 clear HBB hb hT hbx hb1
 have xa:(w2.alloc (.cells #[.slice pb nb cb] 39)).cell? ⟨w1.heap.size,0,none⟩=some (.slice pa na ca):=by rw [cell_of_row _ _ _ _ _ _ XA.out];rfl
 have EA:=lh (print_lit _ pa na ca 0 ks1 out1 TA.out HT.out (by kernel_rfl) prog1 (by decide))
 go_wp2_with fail
 (with_reducible refine EA.out.mono ?_)
 rintro e w3 ⟨va,rfl,hb,ho⟩
 clear EA xa
 have OA:=lh ho
 have HT:=lh (HT.out.below hb)
 have HB:=lh (HB.out.trans (hb.mono HB.out.size))
 have TB:=lh (TB.out.on hb)
 have xb:w3.cell? ⟨w2.heap.size,0,none⟩=some (.slice pb nb cb):=by rw [cell_of_row _ _ _ _ _ _ (on_row hb XB.out)];rfl
 have EA:=lh (print_lit _ pb nb cb 0 ks2 out2 TB.out HT.out (by kernel_rfl) prog2 (by decide))
 clear hb ho
 go_wp2_with fail
 (with_reducible refine EA.out.mono ?_)
 rintro e w4 ⟨vb,rfl,hb,ho⟩
 clear EA xb
 have HB:=lh (HB.out.trans (hb.mono HB.out.size))
 have cva:=told_conv (own_on OA.out hb)
 have cvb:=told_conv ho
 have he1:(out1.toList==[112,114,111,99,32,112,40,41,32,123,10,9,101,109,105,116,32,40,49,32,45,32,40,50,32,45,32,51,41,41,32,42,32,45,40,97,32,43,32,98,41,59,10,125,10])=true:=by rw [beq_lit];exact decide_eq_true rfl
 have he2:(out2.toList==[116,97,98,108,101,32,116,40,99,44,32,100,41,59,10])=true:=by rw [beq_lit];exact decide_eq_true rfl
 clear hb ho
 go_wp2_with fail
 go_ret
 exact ⟨rfl,HB.out⟩
end
end Go.Proofs.YthdioipfdbbmmaaGreatDoor
