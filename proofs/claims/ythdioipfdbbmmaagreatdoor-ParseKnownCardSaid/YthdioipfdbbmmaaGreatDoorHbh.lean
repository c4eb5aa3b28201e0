import Derived.Test.YthdioipfdbbmmaaGreatDoorHbg
import Derived.Deep.RegionHeld3
import Derived.Deep.RegionLaw
set_option linter.all false
set_option maxRecDepth 1000000
set_option maxHeartbeats 16000000
namespace Go.Proofs.YthdioipfdbbmmaaGreatDoor
section
open Go.RowKit
def srcOk2:Bool:=match lexS srcL with
 | .ok ts=>ts.all (fun t=>decide (t.at'≤t.stop)&&decide (t.stop≤295))&&decide (ts.length≤300)
 | .error _=>false
theorem src_lex2:∃ts,lexS srcL=.ok ts∧(∀t∈ts,t.at'≤t.stop∧t.stop≤295)∧ts.length≤300:=by
 have h:srcOk2=true:=by kernel_rfl
 unfold srcOk2 at h
 cases hx:lexS srcL with
 | ok ts =>
  rw [hx] at h
  simp only [Bool.and_eq_true,decide_eq_true_eq,List.all_eq_true] at h
  exact ⟨ts,rfl,h.1,h.2⟩
 | error e=>rw [hx] at h;simp at h
theorem str_size (l:List Int)(n:Nat)(h:l.length=n):(strOfNums l).size=n:=by
 subst h
 simp [strOfNums,ByteArray.size]
theorem srcM (w:World):Src (w.alloc (.cells srcC 5 (srcC.size,srcC.size+1))) (some ⟨w.heap.size,0,none⟩) 295 295 srcL:=src_const w srcC srcL 295 (by kernel_rfl) (by kernel_rfl) srcL_byte _ _
theorem known_walk (w:World)(hg:ET w):Calls Tryz.prog 3 #[] w fun e w'=>e=.returned (.bool true)∧Below w.heap.size w w':=by
 obtain ⟨ts,hts,htb,htn⟩:=src_lex2
 have HTB:=lh htb
 have HG1:=lh (hg.below ((Below.refl w.heap.size w).alloc (Nat.le_refl _) (.cells srcC 5 (srcC.size,srcC.size+1))))
 have B1:=lh ((Below.refl w.heap.size w).alloc (Nat.le_refl _) (.cells srcC 5 (srcC.size,srcC.size+1)))
 have HS1:=lh (srcM w)
 have LK:=lh (lex_ok HS1.out (by omega) hts)
 have hbs:w.heap.size<(w.alloc (.cells srcC 5 (srcC.size,srcC.size+1))).heap.size:=by rw [World.size_alloc];omega
 have HG2x:=lh hg
 clear hts htb hg
 go_enter Tryz.func3,Tryz.ntmps3
 go_upto_region 1 with fail
 refine wp_region_lit ?_
 refine wpList_run rfl (.slice (some ⟨w.heap.size,0,none⟩) 295 295) (w.alloc (.cells srcC 5)) (by kernel_rfl) ?_
 refine wpList_run rfl (.slice (some ⟨w.heap.size,0,none⟩) 295 295) (w.alloc (.cells srcC 5 (srcC.size,srcC.size+1))) (conv_lit w _ _ _ rfl srcC 295 rfl) ?_
 generalize w.alloc (.cells srcC 5 (srcC.size,srcC.size+1))=W1 at *
 go_upto_region 2 with fail
 go_wp2_with fail
 (with_reducible refine LK.out.mono ?_)
 rintro e W2 ⟨g,cap,rfl,hT,hgl,hb2⟩
 have B2:=lh (B1.out.trans (hb2.mono B1.out.size))
 have HS2:=lh (HS1.out.below hb2)
 have HG2:=lh (HG1.out.below hb2)
 have HT2:=lh hT
 have hb2s:=hb2.size
 have hgs:=hT.lt
 clear hb2 LK HS1 HG1 B1 hT
 obtain ⟨n,hn⟩:∃n,ts.length=n:=⟨_,rfl⟩
 have HN:=lh hn
 rw [hn] at htn
 rw [hn]
 clear hn
 obtain ⟨b,hb⟩:∃b,w.heap.size=b:=⟨_,rfl⟩
 rw [hb] at HS2 hbs
 rw [hb]
 have HBW:=lh hb
 clear hb
 obtain ⟨xs,hxs⟩:∃xs,srcL=xs:=⟨_,rfl⟩
 rw [hxs] at HS2
 have HXL:=lh HS2.out.1
 clear hxs
 go_wp2_with fail
 go_loopw [4] (fun av wr=>∃i:Nat,i≤n∧av=.int .i64 i∧Hid (Below W2.heap.size W2 wr)) (fun av _=>n-(intOf av).toNat)
 case atStart=>exact ⟨0,Nat.zero_le _,rfl,lh (Below.refl _ _)⟩
 case round =>
  obtain ⟨i,hi,rfl,hbel⟩:=hrel
  have HSr:=lh (HS2.out.below hbel.out)
  have HGr:=lh (HG2.out.below hbel.out)
  have HTr:=lh (HT2.out.on hbel.out)
  have hws:=hbel.out.size
  by_cases hin:i<n
  · obtain ⟨t,ht⟩:∃t,ts[i]?=some t:=⟨_,List.getElem?_eq_getElem (by rw [HN.out];exact hin)⟩
    have tA:=HTr.out.cell (i*5+1) (.int .i64 t.at') (by rw [tok_cell ts i 1 t ht (by omega)];rfl)
    have tE:=HTr.out.cell (i*5+2) (.int .i64 t.stop) (by rw [tok_cell ts i 2 t ht (by omega)];rfl)
    obtain ⟨hae,hel⟩:=HTB.out t (List.mem_iff_getElem?.2 ⟨i,ht⟩)
    generalize t.at'=a at *
    generalize t.stop=z at *
    have hi0:(0:Int)≤(i:Int):=by omega
    have hi1:(i:Int)<(n:Int):=by omega
    obtain ⟨q,_,hq⟩:=from_run wr b 295 295 z hel (Nat.le_refl _)
    have hfr:∀W,(Instr.sliceAt 22 (.slice (some ⟨b,0,none⟩) 295 295) (some (.int .i64 z)) none none).run Tryz.prog W=.ok (.slice (some q) (295-z) (295-z)) W:=fun W=>by
     obtain ⟨q',h1,h2⟩:=from_run W b 295 295 z hel (Nat.le_refl _)
     rw [hq] at h2
     cases h2
     exact h1
    have hto:∀W,(Instr.sliceAt 22 (.slice (some ⟨b,0,none⟩) 295 295) none (some (.int .i64 a)) none).run Tryz.prog W=.ok (.slice (some ⟨b,0,none⟩) a 295) W:=fun W=>to_run W _ 295 295 a (by omega) (by omega)
    have SA:∀W,Below wr.heap.size wr W→Src W (some ⟨b,0,none⟩) a 295 (xs.take a):=fun W hW=>by
     have:=sub_src (HSr.out.below hW) 0 a (by omega) (by omega)
     rw [show subP (some ⟨b,0,none⟩) 295 0=some ⟨b,0,none⟩ by simp [subP,Addr.add]] at this
     simpa using this
    have SZ:∀W,Below wr.heap.size wr W→Src W (some q) (295-z) (295-z) ((xs.drop z).take (295-z)):=fun W hW=>by
     have:=sub_src (HSr.out.below hW) z 295 (by omega) (by omega)
     rwa [hq] at this
    have SAh:=lh SA
    have SZh:=lh SZ
    have hcs:∀W,Below wr.heap.size wr W→(convert 22 9 (.slice (some ⟨b,0,none⟩) a 295)).run Tryz.prog W=.ok (.string (strOfNums (xs.take a))) W:=fun W hW=>src_conv (SAh.out W hW)
    have hcs0:=lh hcs
    have hsz:(strOfNums (xs.take a)).size=a:=str_size _ _ (by rw [List.length_take,HXL.out];omega)
    generalize strOfNums (xs.take a)=s1 at *
    subst hsz
    have hbk:=bk_conv
    clear SA SZ hcs ht hq
    have hbd:Below wr.heap.size wr (Lib.bytesWorld wr.drew 5 s1):=((Below.refl _ wr).drew).trans (bk_below wr.drew s1)
    have HSZ:=lh (SZh.out _ hbd)
    have kA:(Lib.bytesWorld wr.drew 5 s1).cell? ⟨g,i*5+1,none⟩=some (.int .i64 s1.size):=by rw [hbd.cell (p:=⟨g,i*5+1,none⟩) (by show g<_;omega)];exact tA
    have kE:(Lib.bytesWorld wr.drew 5 s1).cell? ⟨g,i*5+2,none⟩=some (.int .i64 z):=by rw [hbd.cell (p:=⟨g,i*5+2,none⟩) (by show g<_;omega)];exact tE
    have kC:=hcs0.out _ hbd
    have kC0:=hcs0.out wr (Below.refl _ _)
    have kC1:=hcs0.out wr.drew ((Below.refl _ _).drew)
    have SKK:Hid (∀W,Below wr.drew.heap.size wr.drew W→(W.cell? ⟨g,i*5+1,none⟩=some (.int .i64 s1.size)∧W.cell? ⟨g,i*5+2,none⟩=some (.int .i64 z)∧(convert 22 9 (.slice (some ⟨b,0,none⟩) s1.size 295)).run Tryz.prog W=.ok (.string s1) W)):=lh (fun W hW=>⟨by rw [hW.cell (p:=⟨g,i*5+1,none⟩) (by show g<wr.heap.size;omega)];exact tA,by rw [hW.cell (p:=⟨g,i*5+2,none⟩) (by show g<wr.heap.size;omega)];exact tE,hcs0.out W (((Below.refl _ wr).drew).trans hW)⟩)
    clear hbd
    go_wp2_with fail
    go_region_law ((refine step_append_conv wr.drew s1 (by rfl) (.tmp 38) (.tmp 45) (by rfl) (by rfl) q (295-z) (295-z) _ (by rfl) HSZ.out (by omega) ?_;intro p5 c5 w5 hs5 hb5))
    all_goals
     have B5:=lh (((Below.refl wr.heap.size wr).drew).trans hb5)
     have S5:=lh hs5
     have PA:=lh (parseAny w5 p5 (s1.size+(295-z)) c5 _ hs5 (HGr.out.below B5.out))
     clear hs5 hb5 kA kE kC kC0 kC1 SKK hbk hto hfr tA tE HSZ hcs0 SAh SZh
     go_wp2_with fail
     (with_reducible refine PA.out.mono ?_)
     rintro e w6 ⟨rfl,hb6⟩
     have B6:=lh (B5.out.trans (hb6.mono B5.out.size))
     have S6:=lh (S5.out.below hb6)
     have PB:=lh (parseBegins w6 (some ⟨b,0,none⟩) 295 295 xs i (HSr.out.below B6.out) (HGr.out.below B6.out))
     clear hb6 PA S5 B5
     go_wp2_with fail
     (with_reducible refine PB.out.mono ?_)
     rintro e w7 ⟨rfl,hb7⟩
     have B7:=lh (B6.out.trans (hb7.mono B6.out.size))
     have PR:=lh (parseRight w7 p5 (s1.size+(295-z)) c5 _ (S6.out.below hb7) (HGr.out.below B7.out))
     clear hb7 PB S6 B6
     by_cases h4:(i:Int) % 4=0
     · go_wp2_with fail
       (with_reducible refine PR.out.mono ?_)
       rintro e w8 ⟨rfl,hb8⟩
       have B8:=lh (hbel.out.trans ((B7.out.trans (hb8.mono B7.out.size)).mono hws))
       clear hb8 PR B7
       go_wp2
       go_roundw
       case rel=>exact ⟨i+1,by omega,by go_num,B8⟩
       case measure=>simp [intOf];omega
     · have B8:=lh (hbel.out.trans (B7.out.mono hws))
       clear PR B7
       go_wp2
       go_roundw
       case rel=>exact ⟨i+1,by omega,by go_num,B8⟩
       case measure=>simp [intOf];omega
  · obtain rfl:i=n:=by omega
    have HSL:=lh (HS2.out.below hbel.out)
    have HGL:=lh (HG2.out.below hbel.out)
    have BL:=lh (B2.out.trans (hbel.out.mono B2.out.size))
    have hbl:b<wr.heap.size:=by omega
    clear HSr HGr HTr hbel HT2 HS2 HG2 B2 HTB HN
    clear hws hbs hb2s hgs hgl htn hi hin
    go_wp2_with fail
    obtain ⟨wl,rfl⟩:∃wl:World,wl=wr:=⟨_,rfl⟩
    go_loopw [6] (fun av wr=>∃k:Nat,k≤296∧av=.int .i64 k∧Hid (Below wl.heap.size wl wr)) (fun av _=>297-(intOf av).toNat)
    case atStart=>exact ⟨0,Nat.zero_le _,rfl,lh (Below.refl _ _)⟩
    case round =>
     obtain ⟨k,hk,rfl,hbel⟩:=hrel
     have HSr:=lh (HSL.out.below hbel.out)
     have HGr:=lh (HGL.out.below hbel.out)
     have hws:=hbel.out.size
     by_cases hkn:k<295
     · have hk0:(0:Int)≤(k:Int):=by omega
       have hk1:(k:Int)<295:=by omega
       have cv:=src_conv HSr.out
       obtain ⟨W3,cp,cs,cw,hb3,hz3,hg3,hcs3,ht3,hcp3⟩:=bk_row wr (strOfNums xs) 295 (str_size _ _ HXL.out)
       have B3:=lh hb3
       have kc:(convert 22 22 (.slice (some ⟨W3.heap.size,0,none⟩) 8 8)).run Tryz.prog (W3.alloc (.cells #[.int .u8 59,.int .u8 123,.int .u8 41,.int .u8 116,.int .u8 61,.int .u8 45,.int .u8 49,.int .u8 32] 5))=.ok (.slice (some ⟨W3.heap.size,0,none⟩) 8 8) (W3.alloc (.cells #[.int .u8 59,.int .u8 123,.int .u8 41,.int .u8 116,.int .u8 61,.int .u8 45,.int .u8 49,.int .u8 32] 5 (8,9))):=Lib.run_convert_bytes_const (P:=Tryz.prog) W3 22 5 #[.int .u8 59,.int .u8 123,.int .u8 41,.int .u8 116,.int .u8 61,.int .u8 45,.int .u8 49,.int .u8 32] 8 8 Tryz.underlying22 Tryz.underlying5
       obtain ⟨v,hv,hv0⟩:=lit8 W3 #[.int .u8 59,.int .u8 123,.int .u8 41,.int .u8 116,.int .u8 61,.int .u8 45,.int .u8 49,.int .u8 32] [59,123,41,116,61,45,49,32] rfl (by decide) (8,9) (k / 2 % 8) (by simp;omega)
       have hg4:(W3.alloc (.cells #[.int .u8 59,.int .u8 123,.int .u8 41,.int .u8 116,.int .u8 61,.int .u8 45,.int .u8 49,.int .u8 32] 5 (8,9))).heap[wr.heap.size]?=some (.cells cs 5 (cp,cp+1)):=(Below.heap_alloc W3 _ wr.heap.size (by omega)).trans hg3
       obtain ⟨y,hy⟩:=cell_row hg4 (bI (strOfNums xs)) (by rw [bI_length];exact str_size _ _ HXL.out) ht3 hkn
       have hfz:=frozen_row hg4 (k:=k) (by omega)
       have S5:=lh (src_set hg4 (bI (strOfNums xs)) (by rw [bI_length];exact str_size _ _ HXL.out) (bI_byte _) ht3 hcp3 hkn v hv0)
       have B5:=lh (((B3.out.alloc B3.out.size (.cells #[.int .u8 59,.int .u8 123,.int .u8 41,.int .u8 116,.int .u8 61,.int .u8 45,.int .u8 49,.int .u8 32] 5 (8,9)))).setCell (p:=⟨wr.heap.size,k,none⟩) (Nat.le_refl _) (.int .u8 v))
       have hne:wr.heap.size≠W3.heap.size:=by omega
       have PA:=lh (parseAny _ _ 295 cp _ S5.out (HGr.out.below B5.out))
       have hto:∀W,(Instr.sliceAt 22 (.slice (some ⟨b,0,none⟩) 295 295) none (some (.int .i64 k)) none).run Tryz.prog W=.ok (.slice (some ⟨b,0,none⟩) k 295) W:=fun W=>to_run W _ 295 295 k (by omega) (by omega)
       have HZ3:=lh hz3
       clear hb3 hg3 hcs3 ht3 hcp3 hg4 hv0 B3 hz3
       generalize strOfNums xs=s0 at *
       go_wp2_with fail
       (with_reducible refine PA.out.mono ?_)
       rintro e w6 ⟨rfl,hb6⟩
       have B6:=lh (B5.out.trans (hb6.mono B5.out.size))
       have SK:Src w6 (some ⟨b,0,none⟩) k 295 (xs.take k):=by
        have:=sub_src (HSr.out.below B6.out) 0 k (by omega) (by omega)
        rw [show subP (some ⟨b,0,none⟩) 295 0=some ⟨b,0,none⟩ by simp [subP,Addr.add]] at this
        simpa using this
       have PB:=lh (parseAny w6 (some ⟨b,0,none⟩) k 295 _ SK (HGr.out.below B6.out))
       clear SK hb6 PA S5 B5 cv cw kc hv hy hfz hne
       go_wp2_with fail
       (with_reducible refine PB.out.mono ?_)
       rintro e w7 ⟨rfl,hb7⟩
       have B7:=lh (hbel.out.trans ((B6.out.trans (hb7.mono B6.out.size)).mono hws))
       clear hb7 PB B6 hto
       go_wp2
       go_roundw
       case rel=>exact ⟨k+2,by omega,by go_num,B7⟩
       case measure=>simp [intOf];omega
     · have BM:=lh (BL.out.trans (hbel.out.mono BL.out.size))
       have hbm:b<wr.heap.size:=Nat.lt_of_lt_of_le hbl hws
       have HSM:=lh (HSL.out.below hbel.out)
       clear BL HSL HGL hbel hws
       obtain ⟨wm,rfl⟩:∃wm:World,wm=wr:=⟨_,rfl⟩
       go_wp2_with fail
       go_loopw [97] (fun av wr=>∃j:Nat,j≤6∧av=.int .i64 j∧Hid (Below (wm.heap.size+1) (wm.alloc (.cells #[.int .i64 60,.int .i64 61,.int .i64 62,.int .i64 63,.int .i64 64,.int .i64 65] 3)) wr)) (fun av _=>6-(intOf av).toNat)
       case atStart=>exact ⟨0,Nat.zero_le _,rfl,lh (Below.refl _ _)⟩
       case round =>
        obtain ⟨j,hj,rfl,hbel⟩:=hrel
        obtain ⟨wn,rfl⟩:∃wn:World,wn=wr:=⟨_,rfl⟩
        have BN:=lh ((one_below wm (.cells #[.int .i64 60,.int .i64 61,.int .i64 62,.int .i64 63,.int .i64 64,.int .i64 65] 3)).trans (hbel.out.mono (by omega)))
        have hns:=hbel.out.size
        rw [World.size_alloc] at hns
        by_cases hj6:j<6
        · obtain ⟨m,hm,hm65⟩:∃m:Nat,wn.cell? ⟨wm.heap.size,j,none⟩=some (.int .i64 m)∧m≤65:=by
           rcases (by omega:j=0∨j=1∨j=2∨j=3∨j=4∨j=5) with rfl|rfl|rfl|rfl|rfl|rfl
           · exact ⟨60,by rw [hbel.out.cell (by simp)];simp,by omega⟩
           · exact ⟨61,by rw [hbel.out.cell (by simp)];simp,by omega⟩
           · exact ⟨62,by rw [hbel.out.cell (by simp)];simp,by omega⟩
           · exact ⟨63,by rw [hbel.out.cell (by simp)];simp,by omega⟩
           · exact ⟨64,by rw [hbel.out.cell (by simp)];simp,by omega⟩
           · exact ⟨65,by rw [hbel.out.cell (by simp)];simp,by omega⟩
          have hj0:(0:Int)≤(j:Int):=by omega
          have hj1:(j:Int)<6:=by omega
          have TT:=lh (tower_tw wn)
          have TB:=lh (tower_below wn)
          obtain ⟨W5,hW5⟩:∃W5,tower wn=W5:=⟨_,rfl⟩
          rw [hW5] at TT TB
          unfold tower at hW5
          go_wp2_with fail
          have HW5:=lh hW5
          clear hW5
          have hb5:b<W5.heap.size:=by have:=TB.out.size;omega
          have BX:=lh (BM.out.trans ((BN.out.trans (TB.out.mono BN.out.size)).mono BM.out.size))
          have HBX:=lh (hbel.out.trans (TB.out.mono hns))
          clear hm hj0 hj1
          go_loopw [108] (fun av wr=>∃q:Nat,q≤5∧av=.int .i64 q∧Hid (Below W5.heap.size W5 wr)) (fun av _=>5-(intOf av).toNat)
          case atStart=>exact ⟨0,Nat.zero_le _,rfl,lh (Below.refl _ _)⟩
          case round =>
           obtain ⟨q,hq,rfl,hq5⟩:=hrel
           by_cases hq1:q<5
           · have TR:=lh (TT.out.on hq5.out)
             have t0:wr.cell? ⟨wn.heap.size+1+1+1+1+1,q,none⟩=some (.slice (some ⟨wn.heap.size+q,0,none⟩) 5 5):=TR.out.row q hq1
             obtain ⟨s0,k0,z0⟩:=TR.out.txt q 0 hq1 (by omega)
             obtain ⟨s1,k1,z1⟩:=TR.out.txt q 1 hq1 (by omega)
             obtain ⟨s2,k2,z2⟩:=TR.out.txt q 2 hq1 (by omega)
             obtain ⟨s3,k3,z3⟩:=TR.out.txt q 3 hq1 (by omega)
             obtain ⟨s4,k4,z4⟩:=TR.out.txt q 4 hq1 (by omega)
             have hq0:(0:Int)≤(q:Int):=by omega
             have hq2:(q:Int)<5:=by omega
             generalize wn.heap.size+q=Q at *
             go_wp2_with fail
             go_loop [12,13] (fun sv iv=>∃(x:Nat) (s:ByteArray),x≤m∧s.size≤30+30*x∧iv=.int .i64 x∧sv=.string s) (fun _ iv=>m-(intOf iv).toNat)
             case atStart=>exact ⟨0,s0,Nat.zero_le _,by omega,rfl,rfl⟩
             case round =>
              obtain ⟨x,s,hx,hs,rfl,rfl⟩:=hrel
              have hsum:¬ 9223372036854775807<s.size+s1.size:=by omega
              by_cases hxm:x<m
              · go_wp2
                go_round
                case rel=>exact ⟨x+1,s++s1,by omega,by rw [ByteArray.size_append];omega,by go_num,rfl⟩
                case measure=>simp [intOf];omega
              · clear hsum
                have hsum:¬ 9223372036854775807<s.size+s2.size:=by omega
                go_wp2_with fail
                go_loop [12,14] (fun sv iv=>∃(x:Nat) (s:ByteArray),x≤m∧s.size≤3000+30*x∧iv=.int .i64 x∧sv=.string s) (fun _ iv=>m-(intOf iv).toNat)
                case atStart=>exact ⟨0,s++s2,Nat.zero_le _,by rw [ByteArray.size_append];omega,rfl,rfl⟩
                case round =>
                 clear hsum
                 obtain ⟨y,s',hy,hs',rfl,rfl⟩:=hrel
                 have hsum:¬ 9223372036854775807<s'.size+s3.size:=by omega
                 by_cases hym:y<m
                 · go_wp2
                   go_round
                   case rel=>exact ⟨y+1,s'++s3,by omega,by rw [ByteArray.size_append];omega,by go_num,rfl⟩
                   case measure=>simp [intOf];omega
                 · clear hsum
                   have hsum:¬ 9223372036854775807<s'.size+s4.size:=by omega
                   have HQ5:=lh (HBX.out.trans (hq5.out.mono (by have:=HBX.out.size;simpa using this)))
                   have hcv:=bk_conv wr (s'++s4)
                   have BC:=lh (bk_below wr (s'++s4))
                   have PA:=lh (parseAny _ _ _ _ _ (bk_src wr (s'++s4)) (HG2x.out.below (BX.out.trans (hq5.out.mono BX.out.size)) |>.below BC.out))
                   rw [ByteArray.size_append] at hcv PA
                   generalize Lib.bytesWorld wr 5 (s'++s4)=W9 at *
                   generalize grownCap wr (s'.size+s4.size) 0 5=c9 at *
                   go_wp2_with fail
                   (with_reducible refine PA.out.mono ?_)
                   rintro e w10 ⟨rfl,hb10⟩
                   have BY:=lh (hq5.out.trans ((BC.out.trans (hb10.mono BC.out.size)).mono hq5.out.size))
                   clear hb10 PA hcv
                   go_wp2
                   go_roundw
                   case rel=>exact ⟨q+1,by omega,by go_num,BY⟩
                   case measure=>simp [intOf];omega
           · have BY:=lh (HBX.out.trans (hq5.out.mono (by have:=HBX.out.size;simpa using this)))
             go_wp2_with fail
             go_roundw
             case rel=>exact ⟨j+1,by omega,by go_num,BY⟩
             case measure=>simp [intOf];omega
        · have BE:=lh (BM.out.trans (BN.out.mono BM.out.size))
          have HSE:=lh (HSM.out.below BN.out)
          have PR:=lh (parseRight wn (some ⟨b,0,none⟩) 295 295 xs HSE.out (HG2x.out.below BE.out))
          clear hbel BN BM HSM hns
          go_wp2_with fail
          (with_reducible refine PR.out.mono ?_)
          rintro e w11 ⟨rfl,hb11⟩
          have BF:=lh (BE.out.trans (hb11.mono BE.out.size))
          have HSF:=lh (HSE.out.below hb11)
          have o11:=lh (one_below w11 (.cells #[.int .u8 1,.int .u8 2,.int .u8 3,.int .u8 0,.int .u8 3] 5))
          have PB:=lh (parseBlanks (w11.alloc (.cells #[.int .u8 1,.int .u8 2,.int .u8 3,.int .u8 0,.int .u8 3] 5)) (some ⟨b,0,none⟩) 295 295 xs (some ⟨w11.heap.size,0,none⟩) 5 5 [1,2,3,0,3] (HSF.out.below o11.out) (src_const w11 #[.int .u8 1,.int .u8 2,.int .u8 3,.int .u8 0,.int .u8 3] [1,2,3,0,3] 5 rfl rfl (by decide) 0 0) ((HG2x.out.below BF.out).below o11.out))
          clear hb11 PR HSE BE
          go_wp2_with fail
          (with_reducible refine PB.out.mono ?_)
          rintro e w12 ⟨rfl,hb12⟩
          have BG:=lh (BF.out.trans ((o11.out.trans (hb12.mono o11.out.size)).mono BF.out.size))
          have PN:=lh (parseAny w12 none 0 0 [] ⟨rfl,fun i=>by simp,Or.inl ⟨rfl,rfl⟩⟩ (HG2x.out.below BG.out))
          clear hb12 PB BF HSF o11
          go_wp2_with fail
          (with_reducible refine PN.out.mono ?_)
          rintro e w13 ⟨rfl,hb13⟩
          have BH:=lh (BG.out.trans (hb13.mono BG.out.size))
          have o13:=lh (one_below w13 (.cells #[.int .u8 112,.int .u8 114,.int .u8 111,.int .u8 99] 5 (4,5)))
          have kc:(convert 22 22 (.slice (some ⟨w13.heap.size,0,none⟩) 4 4)).run Tryz.prog (w13.alloc (.cells #[.int .u8 112,.int .u8 114,.int .u8 111,.int .u8 99] 5))=.ok (.slice (some ⟨w13.heap.size,0,none⟩) 4 4) (w13.alloc (.cells #[.int .u8 112,.int .u8 114,.int .u8 111,.int .u8 99] 5 (4,5))):=Lib.run_convert_bytes_const (P:=Tryz.prog) w13 22 5 #[.int .u8 112,.int .u8 114,.int .u8 111,.int .u8 99] 4 4 Tryz.underlying22 Tryz.underlying5
          have PP:=lh (parseAny (w13.alloc (.cells #[.int .u8 112,.int .u8 114,.int .u8 111,.int .u8 99] 5 (4,5))) (some ⟨w13.heap.size,0,none⟩) 4 4 [112,114,111,99] (src_const w13 #[.int .u8 112,.int .u8 114,.int .u8 111,.int .u8 99] [112,114,111,99] 4 rfl rfl (by decide) 4 5) ((HG2x.out.below BH.out).below o13.out))
          clear hb13 PN BG
          go_wp2_with fail
          (with_reducible refine PP.out.mono ?_)
          rintro e w14 ⟨rfl,hb14⟩
          have BI:=lh (BH.out.trans ((o13.out.trans (hb14.mono o13.out.size)).mono BH.out.size))
          have WK:=lh (works_at w14 (HG2x.out.below BI.out))
          clear hb14 PP BH o13 kc
          go_wp2_with fail
          (with_reducible refine WK.out.mono ?_)
          rintro e w15 ⟨rfl,hb15⟩
          have BJ:=lh (BI.out.trans (hb15.mono BI.out.size))
          clear hb15 WK BI
          go_wp2
          go_ret
          exact ⟨rfl,BJ.out⟩
end
end Go.Proofs.YthdioipfdbbmmaaGreatDoor
