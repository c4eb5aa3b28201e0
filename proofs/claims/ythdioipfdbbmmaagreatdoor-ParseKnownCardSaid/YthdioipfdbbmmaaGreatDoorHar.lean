/- Contracts. -/
import Derived.Test.YthdioipfdbbmmaaGreatDoorHab
import Derived.Test.YthdioipfdbbmmaaGreatDoorHak
import Derived.Test.YthdioipfdbbmmaaGreatDoorHaq
import Derived.Lib.AppendStr
import Derived.Deep.AppendLies
set_option linter.all false
set_option maxRecDepth 1000000
set_option maxHeartbeats 16000000
namespace Go.Proofs.YthdioipfdbbmmaaGreatDoor
section
open Go.RowKit
theorem numV_takeX (n:Int)(l:List Int):numV n (l.take (run isDigit l))=numV n l:=by
 induction l generalizing n with
 | nil=>simp [run]
 | cons c r ih =>
  simp only [run]
  split
  · rename_i h
    rw [List.take_succ_cons]
    simp only [numV,h,if_true,ih]
  · rename_i h
    simp [numV,h]
theorem mem_byteX {xs:List Int}(h:∀i,0≤xs.getD i 0∧xs.getD i 0<256):∀x∈xs,0≤x∧x<256:=by
 intro x hx
 obtain ⟨i,hi,rfl⟩:=List.mem_iff_getElem.1 hx
 simpa [List.getD,hi] using h i
theorem mem_subX {xs:List Int}(h:∀x∈xs,0≤x∧x<256)(i l:Nat):∀x∈(xs.drop i).take l,0≤x∧x<256:=fun x hx=>h x (List.mem_of_mem_drop (List.mem_of_mem_take hx))
theorem info160 : (Tryz.prog.info? 160).map (fun i=>(i.zero,i.size,i.bytes))=some (some (.agg #[.int .u8 0,.int .i64 0,.int .i64 0,.string ⟨#[]⟩,.int .i64 0]),5,48):=by kernel_rfl
def RefPost (xs:List Int)(w:World)(e:Ending)(w':World):Prop :=
 (match lexS xs with
  | .ok ts=>∃g cap,e=.returned (.tuple #[.slice (some ⟨g,0,none⟩) ts.length cap,.int .i64 0,.int .i64 0])∧w'.ownsRow w.heap.size 160 5 (.slice (some ⟨g,0,none⟩) ts.length cap) ts.length (cellsT ts)
  | .error (i,er)=>e=.returned (.tuple #[.slice none 0 0,.int .i64 i,.int .i64 er]))∧Below w.heap.size w w'
theorem refPost_err {xs:List Int}{i:Nat}{er:Int}{w W:World}(h:lexS xs=.error (i,er))(hb:Below w.heap.size w W):RefPost xs w (.returned (.tuple #[.slice none 0 0,.int .i64 i,.int .i64 er])) W:=by
 refine ⟨?_,hb⟩
 rw [h]
theorem refPost_ok {xs:List Int}{ts:List Tok}{w W:World}{g n cap:Nat}{cs:List Value}(h:lexS xs=.ok ts)(hn:n=ts.length)(hc:cs=cellsT ts)(ho:W.ownsRow w.heap.size 160 5 (.slice (some ⟨g,0,none⟩) n cap) n cs)(hb:Below w.heap.size w W) :
 RefPost xs w (.returned (.tuple #[.slice (some ⟨g,0,none⟩) n cap,.int .i64 0,.int .i64 0])) W:=by
 subst hn hc
 refine ⟨?_,hb⟩
 rw [h]
 exact ⟨g,cap,rfl,ho⟩
structure RefInv (w:World)(v:Value)(ts:List Tok)(W:World):Prop where
 below:Below w.heap.size w W
 own:W.ownsRow w.heap.size 160 5 v ts.length (cellsT ts)
theorem RefInv.on {w W W':World}{v:Value}{ts:List Tok}(h:RefInv w v ts W)(hb:Below W.heap.size W W'):RefInv w v ts W' where
 below:=h.below.trans (hb.mono h.below.size)
 own:=h.own.kept (row:=none) ⟨hb.os,hb.tape,hb.output,hb.size,fun k hk _=>hb.block k hk⟩ (by
  cases hv:v.ownBlock with
  | none=>exact Or.inl rfl
  | some k=>exact Or.inr (by simp))
theorem RefInv.push {w W W' w5:World}{g cap:Nat}{v:Value}{ts:List Tok}(h:RefInv w v ts W)(hW:Below W.heap.size W W')(hg:W'.grownBy w5 v.ownBlock)(t:Tok)(cs:List Value)(hc:cs=tokC t)
 (ho:w5.ownsRow w.heap.size 160 5 (.slice (some ⟨g,0,none⟩) (ts.length+1) cap) (ts.length+1) (cellsT ts++cs)):RefInv w (.slice (some ⟨g,0,none⟩) (ts.length+1) cap) (ts++[t]) w5 where
 below:=(h.on hW).below.grown hg ((h.on hW).below.size) (fun k hk=>(h.own.lt k hk).1)
 own:=by rw [cellsT_snoc,← hc,List.length_append];exact ho
theorem bytesI_of (l:List Int)(h:∀x∈l,0≤x∧x<256):bytesI (strOfNums l)=l:=by
 unfold bytesI
 rw [strOfNums_data,List.map_map]
 conv=>rhs;rw [← List.map_id l]
 apply List.map_congr_left
 intro x hx
 have:=h x hx
 have e:(UInt8.ofNat x.toNat).toNat=x.toNat:=by simp;omega
 simp only [Function.comp,e,id]
 rw [Int.toNat_of_nonneg this.1]
theorem blank_k (c:Int)(w:World):Calls Tryz.prog 156 #[.int .u8 c] w fun e w'=>e=.returned (.bool (isBlank c))∧w=w':=(blank_at c w).mono fun _ _ ⟨h1,h2⟩=>⟨h1,h2.symm⟩
theorem letter_k (c:Int)(w:World):Calls Tryz.prog 157 #[.int .u8 c] w fun e w'=>e=.returned (.bool (isLetter c))∧w=w':=(letter_at c w).mono fun _ _ ⟨h1,h2⟩=>⟨h1,h2.symm⟩
theorem digit_k (c:Int)(w:World):Calls Tryz.prog 158 #[.int .u8 c] w fun e w'=>e=.returned (.bool (isDigit c))∧w=w':=(digit_at c w).mono fun _ _ ⟨h1,h2⟩=>⟨h1,h2.symm⟩
theorem step_letter {xs:List Int}{i:Nat}(h:i<xs.length)(hc:isLetter (xs.getD i 0)=true):step (xs.drop i)=.tok 1 (run isNameB (xs.drop i)) 0:=by
 rw [drop_at xs i h,step,if_pos hc]
theorem step_digit {xs:List Int}{i:Nat}(h:i<xs.length)(hl:isLetter (xs.getD i 0)=false)(hc:isDigit (xs.getD i 0)=true):step (xs.drop i)=match numV 0 (xs.drop i) with|some n=>.tok 2 (run isDigit (xs.drop i)) n|none=>.err 31:=by
 rw [drop_at xs i h,step,if_neg (by rw [hl];simp),if_pos hc]
 cases numV 0 (xs.getD i 0::xs.drop (i+1))<;>rfl
theorem step_mark {xs:List Int}{i:Nat}(h:i<xs.length)(hc:isMark (xs.getD i 0)=true):step (xs.drop i)=.tok 3 (if xs.getD i 0=61∧(xs.drop (i+1)).head?=some 61 then 2 else 1) 0:=by
 have hl:¬ isLetter (xs.getD i 0)=true:=by rcases mark_cases hc with h|h|h|h|h|h|h|h|h|h|h|h|h|h<;>rw [h]<;>decide
 have hd:¬ isDigit (xs.getD i 0)=true:=by rcases mark_cases hc with h|h|h|h|h|h|h|h|h|h|h|h|h|h<;>rw [h]<;>decide
 rw [drop_at xs i h,step,if_neg hl,if_neg hd,if_pos hc]
theorem step_none {xs:List Int}{i:Nat}(h:i<xs.length)(hl:isLetter (xs.getD i 0)=false)(hd:isDigit (xs.getD i 0)=false)(hc:isMark (xs.getD i 0)=false):step (xs.drop i)=.err 30:=by
 rw [drop_at xs i h,step,if_neg (by rw [hl];simp),if_neg (by rw [hd];simp),if_neg (by rw [hc];simp)]
theorem lexAt_tokK {xs:List Int}{i K l:Nat}{k n:Int}(h:i<xs.length)(hb:bl xs i=i)(hs:step (xs.drop i)=.tok k l n)(hK:K=i+l) :
 lexAt xs i=pre [⟨k,i,K,(xs.drop i).take (K-i),n⟩] (lexAt xs K):=by
 subst hK
 rw [lexAt_tok xs i k l n h hb hs,Nat.add_sub_cancel_left]
theorem head_at (xs:List Int)(i:Nat)(h:i<xs.length):(xs.drop i).head?=some (xs.getD i 0):=by rw [drop_at xs i h];rfl
theorem head_end (xs:List Int)(i:Nat)(h:xs.length≤i):(xs.drop i).head?=none:=by rw [List.drop_eq_nil_of_le h];rfl
theorem refLex_at (w:World)(p:Option Addr)(len c:Nat)(xs:List Int)(h:Src w p len c xs)(hb:len≤65536) :
 Calls Tryz.prog 93 #[.slice p len c] w (RefPost xs w):=by
 have hlc:len≤c:=by
  rcases h.2.2 with ⟨h,h'⟩|⟨b,off,e,hc,hb,hx⟩<;>omega
 have hlen:=lh h.1
 have HS:=lh h
 obtain ⟨i0,hi,hz0,hz1,hz2⟩:=info_parts info160
 have I0:=lh hi
 have I1:=lh hz0
 have I2:=lh hz1
 have I3:=lh hz2
 have HI0:Hid (RefInv w (.slice none 0 0) [] w):=lh ⟨Below.refl _ _,World.ownsRow_nil _ _ _ _⟩
 clear h hi hz0 hz1 hz2
 go_enter Tryz.func93,Tryz.ntmps93
 go_wp2_with fail
 go_loopw [5,6] (fun v iv wr=>∃(i:Nat) (ts:List Tok),i≤len∧ts.length≤i∧iv=.int .i64 i∧Hid (lexS xs=pre ts (lexAt xs i))∧Hid (RefInv w v ts wr)) (fun _ iv _=>len-(intOf iv).toNat)
 case atStart=>exact ⟨0,[],by omega,by simp,rfl,lh (by rw [lexS_at,pre_nil]),HI0⟩
 case round =>
  obtain ⟨i,ts,hil,htl,rfl,HL,HV⟩:=hrel
  have hsz:=HV.out.below.size
  have ho:=HV.out.own
  by_cases hlt:i<len
  · have hix:i<xs.length:=by have:=hlen.out;omega
    have hsrc:=HS.out.below HV.out.below
    have HSW:=lh hsrc
    obtain ⟨_,hby,hor⟩:=hsrc
    obtain ⟨b,off,rfl,hc2,_,hx⟩:∃b off,p=some ⟨b,off,none⟩∧len≤c∧b<wr.heap.size∧∀i,i<len→wr.cell? ⟨b,off+i,none⟩=some (.int .u8 (xs.getD i 0)):=by
     rcases hor with ⟨h,_⟩|h
     · omega
     · exact h
    have HX:=lh hx
    have HBY:=lh hby
    have hcell:=hx i hlt
    have hbi:=hby i
    obtain ⟨m,hm⟩:∃m,xs.getD i 0=m:=⟨_,rfl⟩
    rw [hm] at hcell hbi
    have HM:=lh hm
    have HIX:=lh hix
    clear hor hx hby hm hix hlc
    have BK:=lh (blank_k m wr)
    have LK:=lh (letter_k m wr)
    have DK:=lh (digit_k m wr)
    have OK:=lh (one_at m wr)
    cases hbl:isBlank m with
    | true =>
     rw [hbl] at BK
     have HBl:=lh hbl
     clear hbl LK DK OK ho
     go_wp2_with fail
     (with_reducible refine BK.out.mono ?_)
     rintro e w2 ⟨rfl,rfl⟩
     clear BK
     go_wp2_with fail
     go_roundw
     case rel=>exact ⟨i+1,ts,by omega,by omega,by go_num,lh (by rw [HL.out,lexAt_blank xs i HIX.out (by rw [HM.out];exact HBl.out)]),HV⟩
     case measure=>simp [intOf];omega
    | false =>
     rw [hbl] at BK
     have HBl:=lh hbl
     clear hbl
     by_cases h35:m=35
     · have d35:(m==35)=true:=by simpa using h35
       have H35:=lh h35
       have HRn:=lh (run_yes nl xs i HIX.out (by rw [HM.out,h35];rfl))
       have HRem:=lh (lexAt_rem xs i HIX.out (by rw [HM.out,h35]))
       clear h35 LK DK OK ho
       go_wp2_with fail
       (with_reducible refine BK.out.mono ?_)
       rintro e w2 ⟨rfl,rfl⟩
       clear BK
       go_wp2_with fail
       go_loop [8] (fun kv=>∃k:Nat,i<k∧k≤len∧kv=.int .i64 k∧Hid (k+run nl (xs.drop k)=i+run nl (xs.drop i))) (fun kv=>len-(intOf kv).toNat)
       case atStart=>exact ⟨i+1,by omega,by omega,by go_num,lh (by have:=HRn.out;omega)⟩
       case round =>
        obtain ⟨k,hik,hkl,rfl,HK⟩:=hrel
        by_cases hk2:k<len
        · have hck:=HX.out k hk2
          obtain ⟨q,hq⟩:∃q,xs.getD k 0=q:=⟨_,rfl⟩
          rw [hq] at hck
          have HQ:=lh hq
          clear hq
          by_cases h10:q=10
          · have d10:(q != 10)=false:=by simpa using h10
            have HR0:=lh (run_no nl xs k (by have:=hlen.out;omega) (by rw [HQ.out,h10];rfl))
            have hke:k=i+run nl (xs.drop i):=by have:=HR0.out;have:=HK.out;omega
            have HKE:=lh hke
            clear h10 hke
            go_wp2_with fail
            go_roundw
            case rel=>exact ⟨k,ts,by omega,by omega,by go_num,lh (by rw [HL.out,HRem.out,← HKE.out]),HV⟩
            case measure=>simp [intOf];omega
          · have d10:(q != 10)=true:=by simpa using h10
            have HR0:=lh (run_yes nl xs k (by have:=hlen.out;omega) (by rw [HQ.out];simpa [nl] using h10))
            clear h10
            go_wp2_with fail
            go_round
            case rel=>exact ⟨k+1,by omega,by omega,by go_num,lh (by have:=HR0.out;have:=HK.out;omega)⟩
            case measure=>simp [intOf];omega
        · have HR0:=lh (run_out nl xs k (by have:=hlen.out;omega))
          have hke:k=i+run nl (xs.drop i):=by have:=HR0.out;have:=HK.out;omega
          have HKE:=lh hke
          clear hke
          have hkd:decide (k<len)=false:=decide_eq_false (by omega)
          go_wp2_with fail
          go_roundw
          case rel=>exact ⟨k,ts,by omega,by omega,by go_num,lh (by rw [HL.out,HRem.out,← HKE.out]),HV⟩
          case measure=>simp [intOf];omega
     · have d35:(m==35)=false:=by simpa using h35
       have HST:=lh (bl_stay xs i HIX.out (by rw [HM.out];exact HBl.out) (by rw [HM.out];exact h35))
       clear h35
       cases hl:isLetter m with
       | true =>
        rw [hl] at LK
        have HLt:=lh hl
        have HSp:=lh (step_letter HIX.out (by rw [HM.out];exact hl))
        have HRn:=lh (run_yes isNameB xs i HIX.out (by rw [HM.out,isNameB,hl];rfl))
        clear hl DK OK
        go_wp2_with fail
        (with_reducible refine BK.out.mono ?_)
        rintro e w2 ⟨rfl,rfl⟩
        clear BK
        go_wp2_with fail
        (with_reducible refine LK.out.mono ?_)
        rintro e w2 ⟨rfl,rfl⟩
        clear LK
        go_wp2_with fail
        go_loop [8] (fun kv=>∃k:Nat,i<k∧k≤len∧kv=.int .i64 k∧Hid (k+run isNameB (xs.drop k)=i+run isNameB (xs.drop i))) (fun kv=>len-(intOf kv).toNat)
        case atStart=>exact ⟨i+1,by omega,by omega,by go_num,lh (by have:=HRn.out;omega)⟩
        case round =>
         obtain ⟨k,hik,hkl,rfl,HK⟩:=hrel
         by_cases hk2:k<len
         · have hck:=HX.out k hk2
           have hbk:=HBY.out k
           obtain ⟨q,hq⟩:∃q,xs.getD k 0=q:=⟨_,rfl⟩
           rw [hq] at hck hbk
           have HQ:=lh hq
           have LQ:=lh (letter_k q wr)
           have DQ:=lh (digit_k q wr)
           clear hq
           cases hlq:isLetter q with
           | true =>
            rw [hlq] at LQ
            have HR0:=lh (run_yes isNameB xs k (by have:=hlen.out;omega) (by rw [HQ.out,isNameB,hlq];rfl))
            clear hlq DQ
            go_wp2_with fail
            (with_reducible refine LQ.out.mono ?_)
            rintro e w2 ⟨rfl,rfl⟩
            clear LQ
            go_wp2_with fail
            go_round
            case rel=>exact ⟨k+1,by omega,by omega,by go_num,lh (by have:=HR0.out;have:=HK.out;omega)⟩
            case measure=>simp [intOf];omega
           | false =>
            rw [hlq] at LQ
            cases hdq:isDigit q with
            | true =>
             rw [hdq] at DQ
             have HR0:=lh (run_yes isNameB xs k (by have:=hlen.out;omega) (by rw [HQ.out,isNameB,hlq,hdq];rfl))
             clear hlq hdq
             go_wp2_with fail
             (with_reducible refine LQ.out.mono ?_)
             rintro e w2 ⟨rfl,rfl⟩
             go_wp2_with fail
             (with_reducible refine DQ.out.mono ?_)
             rintro e w2 ⟨rfl,rfl⟩
             clear LQ DQ
             go_wp2_with fail
             go_round
             case rel=>exact ⟨k+1,by omega,by omega,by go_num,lh (by have:=HR0.out;have:=HK.out;omega)⟩
             case measure=>simp [intOf];omega
            | false =>
             rw [hdq] at DQ
             by_cases h95:q=95
             · have d95:(q==95)=true:=by simpa using h95
               have HR0:=lh (run_yes isNameB xs k (by have:=hlen.out;omega) (by rw [HQ.out,h95];rfl))
               clear hlq hdq h95
               go_wp2_with fail
               (with_reducible refine LQ.out.mono ?_)
               rintro e w2 ⟨rfl,rfl⟩
               go_wp2_with fail
               (with_reducible refine DQ.out.mono ?_)
               rintro e w2 ⟨rfl,rfl⟩
               clear LQ DQ
               go_wp2_with fail
               go_round
               case rel=>exact ⟨k+1,by omega,by omega,by go_num,lh (by have:=HR0.out;have:=HK.out;omega)⟩
               case measure=>simp [intOf];omega
             · have d95:(q==95)=false:=by simpa using h95
               have hr0:=run_no isNameB xs k (by have:=hlen.out;omega) (by rw [HQ.out,isNameB,hlq,hdq];simpa using h95)
               have KE:Hid (k=i+run isNameB (xs.drop i)):=lh (by have:=HK.out;omega)
               clear hlq hdq h95 hr0
               go_wp2_with fail
               (with_reducible refine LQ.out.mono ?_)
               rintro e w2 ⟨rfl,rfl⟩
               go_wp2_with fail
               (with_reducible refine DQ.out.mono ?_)
               rintro e w2 ⟨rfl,rfl⟩
               clear LQ DQ
               have sr:=fun W=>sub_run W (some ⟨b,off,none⟩) len c i (k) (by omega) (by omega)
               have cv:=src_conv (sub_src HSW.out i (k) (by omega) (by omega))
               obtain ⟨st,hst⟩:∃st,strOfNums ((xs.drop i).take (k-i))=st:=⟨_,rfl⟩
               rw [hst] at cv
               have HStr:=lh hst
               clear hst
               go_wp2_with (at_builtin;refine wpList_append_lies _ rfl (.tmp 77) (.tmp 86) 153 rfl w.heap.size 160 i0 _ 5 48 Tryz.underlying153 I0.out I1.out I2.out I3.out rfl (by decide) u5 ts.length (cellsT ts) rfl (ho.alloc _) ⟨wr.heap.size,0,none⟩ 1 1 [.int .u8 1,.int .i64 i,.int .i64 (k:Nat),.string st,.int .i64 0] rfl rfl (World.news_of_block (cs:=#[.int .u8 1,.int .i64 i,.int .i64 (k:Nat),.string st,.int .i64 0]) (t := 160) (fr:=(0,0)) (heap_alloc_new _ _)) (tok_one _ _ _ _ _) (by decide) (by unfold maxLen;omega) (by omega) (by simp;omega) _ rfl ?_)
               intro g cap w5 hown5 hgrow5 _ _
               have hV5:=lh (HV.out.push (one_below wr _) hgrow5 ⟨1,i,k,(xs.drop i).take (k-i),0⟩ _ (by rw [tokC,HStr.out]<;>rfl) hown5)
               clear hown5 hgrow5 ho sr cv
               go_wp2_with fail
               go_roundw
               case rel=>exact ⟨k,ts++[⟨1,i,k,(xs.drop i).take (k-i),0⟩],by omega,by simp;omega,rfl,lh (by rw [HL.out,lexAt_tokK HIX.out HST.out HSp.out KE.out,pre_pre]),hV5⟩
               case measure=>simp [intOf];omega
         · have hr0:=run_out isNameB xs k (by have:=hlen.out;omega)
           have KE:Hid (k=i+run isNameB (xs.drop i)):=lh (by have:=HK.out;omega)
           have hkd:decide (k<len)=false:=decide_eq_false (by omega)
           clear hr0
           have sr:=fun W=>sub_run W (some ⟨b,off,none⟩) len c i (k) (by omega) (by omega)
           have cv:=src_conv (sub_src HSW.out i (k) (by omega) (by omega))
           obtain ⟨st,hst⟩:∃st,strOfNums ((xs.drop i).take (k-i))=st:=⟨_,rfl⟩
           rw [hst] at cv
           have HStr:=lh hst
           clear hst
           go_wp2_with (at_builtin;refine wpList_append_lies _ rfl (.tmp 77) (.tmp 86) 153 rfl w.heap.size 160 i0 _ 5 48 Tryz.underlying153 I0.out I1.out I2.out I3.out rfl (by decide) u5 ts.length (cellsT ts) rfl (ho.alloc _) ⟨wr.heap.size,0,none⟩ 1 1 [.int .u8 1,.int .i64 i,.int .i64 (k:Nat),.string st,.int .i64 0] rfl rfl (World.news_of_block (cs:=#[.int .u8 1,.int .i64 i,.int .i64 (k:Nat),.string st,.int .i64 0]) (t := 160) (fr:=(0,0)) (heap_alloc_new _ _)) (tok_one _ _ _ _ _) (by decide) (by unfold maxLen;omega) (by omega) (by simp;omega) _ rfl ?_)
           intro g cap w5 hown5 hgrow5 _ _
           have hV5:=lh (HV.out.push (one_below wr _) hgrow5 ⟨1,i,k,(xs.drop i).take (k-i),0⟩ _ (by rw [tokC,HStr.out]<;>rfl) hown5)
           clear hown5 hgrow5 ho sr cv
           go_wp2_with fail
           go_roundw
           case rel=>exact ⟨k,ts++[⟨1,i,k,(xs.drop i).take (k-i),0⟩],by omega,by simp;omega,rfl,lh (by rw [HL.out,lexAt_tokK HIX.out HST.out HSp.out KE.out,pre_pre]),hV5⟩
           case measure=>simp [intOf];omega
       | false =>
        rw [hl] at LK
        have HLt:=lh hl
        clear hl
        cases hd:isDigit m with
        | true =>
         rw [hd] at DK
         have HSp:=lh (step_digit HIX.out (by rw [HM.out];exact HLt.out) (by rw [HM.out];exact hd))
         have HRn:=lh (run_yes isDigit xs i HIX.out (by rw [HM.out];exact hd))
         clear hd OK
         go_wp2_with fail
         (with_reducible refine BK.out.mono ?_)
         rintro e w2 ⟨rfl,rfl⟩
         clear BK
         go_wp2_with fail
         (with_reducible refine LK.out.mono ?_)
         rintro e w2 ⟨rfl,rfl⟩
         clear LK
         go_wp2_with fail
         (with_reducible refine DK.out.mono ?_)
         rintro e w2 ⟨rfl,rfl⟩
         clear DK
         go_wp2_with fail
         go_loop [8] (fun kv=>∃k:Nat,i<k∧k≤len∧kv=.int .i64 k∧Hid (k+run isDigit (xs.drop k)=i+run isDigit (xs.drop i))) (fun kv=>len-(intOf kv).toNat)
         case atStart=>exact ⟨i+1,by omega,by omega,by go_num,lh (by have:=HRn.out;omega)⟩
         case round =>
          obtain ⟨k,hik,hkl,rfl,HK⟩:=hrel
          by_cases hk2:k<len
          · have hck:=HX.out k hk2
            have hbk:=HBY.out k
            obtain ⟨q,hq⟩:∃q,xs.getD k 0=q:=⟨_,rfl⟩
            rw [hq] at hck hbk
            have HQ:=lh hq
            have DQ:=lh (digit_k q wr)
            clear hq
            cases hdq:isDigit q with
            | true =>
             rw [hdq] at DQ
             have HR0:=lh (run_yes isDigit xs k (by have:=hlen.out;omega) (by rw [HQ.out];exact hdq))
             clear hdq
             go_wp2_with fail
             (with_reducible refine DQ.out.mono ?_)
             rintro e w2 ⟨rfl,rfl⟩
             clear DQ
             go_wp2_with fail
             go_round
             case rel=>exact ⟨k+1,by omega,by omega,by go_num,lh (by have:=HR0.out;have:=HK.out;omega)⟩
             case measure=>simp [intOf];omega
            | false =>
             rw [hdq] at DQ
             have hr0:=run_no isDigit xs k (by have:=hlen.out;omega) (by rw [HQ.out];exact hdq)
             have KE:Hid (k=i+run isDigit (xs.drop i)):=lh (by have:=HK.out;omega)
             clear hdq hr0
             have srn:=fun W=>sub_run W (some ⟨b,off,none⟩) len c i k (by omega) (by omega)
             have cvn:=src_conv (sub_src HSW.out i k (by omega) (by omega))
             have hrl:=run_le isDigit (xs.drop i)
             obtain ⟨st,hst⟩:∃st,strOfNums ((xs.drop i).take (k-i))=st:=⟨_,rfl⟩
             have hbt:=mem_subX (mem_byteX HBY.out) i (k-i)
             have hbI:bytesI st=(xs.drop i).take (run isDigit (xs.drop i)):=by rw [← hst,bytesI_of _ hbt,KE.out,Nat.add_sub_cancel_left]
             have hssz:st.size=run isDigit (xs.drop i):=by
              rw [← bytesI_length,hbI,List.length_take]
              omega
             have hkk:=KE.out
             have RN:=refNumber_at wr st (by omega) (fun j hj=>by
              rw [hbI]
              have:=run_all isDigit (xs.drop i) j (by omega)
              simpa [List.getD,List.getElem?_take,show j<run isDigit (xs.drop i) by omega] using this)
             have hnv:numV 0 (bytesI st)=numV 0 (xs.drop i):=by rw [hbI,numV_takeX]
             rw [hst] at cvn
             have HStr:=lh hst
             clear hst hbt hbI hssz hkk hrl
             cases hn:numV 0 (xs.drop i) with
             | some n =>
              have HSp2:Hid (step (xs.drop i)=.tok 2 (run isDigit (xs.drop i)) n):=lh (by rw [HSp.out,hn])
              have RN2:Hid (Calls Tryz.prog 159 #[.string st] wr fun e w'=>e=.returned (.tuple #[.int .i64 n,.bool true])∧wr=w'):=lh (RN.mono fun e w' ⟨h1,h2⟩=>⟨by
               unfold RefNum at h1
               rw [hnv,hn] at h1
               exact h1,h2.symm⟩)
              clear RN hnv hn
              go_wp2_with fail
              (with_reducible refine DQ.out.mono ?_)
              rintro e w2 ⟨rfl,rfl⟩
              clear DQ
              go_wp2_with fail
              (with_reducible refine RN2.out.mono ?_)
              rintro e w2 ⟨rfl,rfl⟩
              clear RN2
              go_wp2_with (at_builtin;refine wpList_append_lies _ rfl (.tmp 116) (.tmp 126) 153 rfl w.heap.size 160 i0 _ 5 48 Tryz.underlying153 I0.out I1.out I2.out I3.out rfl (by decide) u5 ts.length (cellsT ts) rfl (ho.alloc _) ⟨wr.heap.size,0,none⟩ 1 1 [.int .u8 2,.int .i64 i,.int .i64 (k:Nat),.string st,.int .i64 n] rfl rfl (World.news_of_block (cs:=#[.int .u8 2,.int .i64 i,.int .i64 (k:Nat),.string st,.int .i64 n]) (t := 160) (fr:=(0,0)) (heap_alloc_new _ _)) (tok_one _ _ _ _ _) (by decide) (by unfold maxLen;omega) (by omega) (by simp;omega) _ rfl ?_)
              intro g cap w5 hown5 hgrow5 _ _
              have hV5:=lh (HV.out.push (one_below wr _) hgrow5 ⟨2,i,k,(xs.drop i).take (k-i),n⟩ _ (by rw [tokC,HStr.out]<;>rfl) hown5)
              clear hown5 hgrow5 ho srn cvn
              go_wp2_with fail
              go_roundw
              case rel=>exact ⟨k,ts++[⟨2,i,k,(xs.drop i).take (k-i),n⟩],by omega,by simp;omega,rfl,lh (by rw [HL.out,lexAt_tokK HIX.out HST.out HSp2.out KE.out,pre_pre]),hV5⟩
              case measure=>simp [intOf];omega
             | none =>
              have HSp2:Hid (step (xs.drop i)=.err 31):=lh (by rw [HSp.out,hn])
              have RN2:Hid (Calls Tryz.prog 159 #[.string st] wr fun e w'=>e=.returned (.tuple #[.int .i64 0,.bool false])∧wr=w'):=lh (RN.mono fun e w' ⟨h1,h2⟩=>⟨by
               unfold RefNum at h1
               rw [hnv,hn] at h1
               exact h1,h2.symm⟩)
              clear RN hnv hn
              go_wp2_with fail
              (with_reducible refine DQ.out.mono ?_)
              rintro e w2 ⟨rfl,rfl⟩
              clear DQ
              go_wp2_with fail
              (with_reducible refine RN2.out.mono ?_)
              rintro e w2 ⟨rfl,rfl⟩
              clear RN2
              go_wp2
              go_ret3
              exact refPost_err (by rw [HL.out,lexAt_err xs i 31 HIX.out HST.out HSp2.out];rfl) HV.out.below
          · have hr0:=run_out isDigit xs k (by have:=hlen.out;omega)
            have KE:Hid (k=i+run isDigit (xs.drop i)):=lh (by have:=HK.out;omega)
            have hkd:decide (k<len)=false:=decide_eq_false (by omega)
            clear hr0
            have srn:=fun W=>sub_run W (some ⟨b,off,none⟩) len c i k (by omega) (by omega)
            have cvn:=src_conv (sub_src HSW.out i k (by omega) (by omega))
            have hrl:=run_le isDigit (xs.drop i)
            obtain ⟨st,hst⟩:∃st,strOfNums ((xs.drop i).take (k-i))=st:=⟨_,rfl⟩
            have hbt:=mem_subX (mem_byteX HBY.out) i (k-i)
            have hbI:bytesI st=(xs.drop i).take (run isDigit (xs.drop i)):=by rw [← hst,bytesI_of _ hbt,KE.out,Nat.add_sub_cancel_left]
            have hssz:st.size=run isDigit (xs.drop i):=by
             rw [← bytesI_length,hbI,List.length_take]
             omega
            have hkk:=KE.out
            have RN:=refNumber_at wr st (by omega) (fun j hj=>by
             rw [hbI]
             have:=run_all isDigit (xs.drop i) j (by omega)
             simpa [List.getD,List.getElem?_take,show j<run isDigit (xs.drop i) by omega] using this)
            have hnv:numV 0 (bytesI st)=numV 0 (xs.drop i):=by rw [hbI,numV_takeX]
            rw [hst] at cvn
            have HStr:=lh hst
            clear hst hbt hbI hssz hkk hrl
            cases hn:numV 0 (xs.drop i) with
            | some n =>
             have HSp2:Hid (step (xs.drop i)=.tok 2 (run isDigit (xs.drop i)) n):=lh (by rw [HSp.out,hn])
             have RN2:Hid (Calls Tryz.prog 159 #[.string st] wr fun e w'=>e=.returned (.tuple #[.int .i64 n,.bool true])∧wr=w'):=lh (RN.mono fun e w' ⟨h1,h2⟩=>⟨by
              unfold RefNum at h1
              rw [hnv,hn] at h1
              exact h1,h2.symm⟩)
             clear RN hnv hn
             go_wp2_with fail
             (with_reducible refine RN2.out.mono ?_)
             rintro e w2 ⟨rfl,rfl⟩
             clear RN2
             go_wp2_with (at_builtin;refine wpList_append_lies _ rfl (.tmp 116) (.tmp 126) 153 rfl w.heap.size 160 i0 _ 5 48 Tryz.underlying153 I0.out I1.out I2.out I3.out rfl (by decide) u5 ts.length (cellsT ts) rfl (ho.alloc _) ⟨wr.heap.size,0,none⟩ 1 1 [.int .u8 2,.int .i64 i,.int .i64 (k:Nat),.string st,.int .i64 n] rfl rfl (World.news_of_block (cs:=#[.int .u8 2,.int .i64 i,.int .i64 (k:Nat),.string st,.int .i64 n]) (t := 160) (fr:=(0,0)) (heap_alloc_new _ _)) (tok_one _ _ _ _ _) (by decide) (by unfold maxLen;omega) (by omega) (by simp;omega) _ rfl ?_)
             intro g cap w5 hown5 hgrow5 _ _
             have hV5:=lh (HV.out.push (one_below wr _) hgrow5 ⟨2,i,k,(xs.drop i).take (k-i),n⟩ _ (by rw [tokC,HStr.out]<;>rfl) hown5)
             clear hown5 hgrow5 ho srn cvn
             go_wp2_with fail
             go_roundw
             case rel=>exact ⟨k,ts++[⟨2,i,k,(xs.drop i).take (k-i),n⟩],by omega,by simp;omega,rfl,lh (by rw [HL.out,lexAt_tokK HIX.out HST.out HSp2.out KE.out,pre_pre]),hV5⟩
             case measure=>simp [intOf];omega
            | none =>
             have HSp2:Hid (step (xs.drop i)=.err 31):=lh (by rw [HSp.out,hn])
             have RN2:Hid (Calls Tryz.prog 159 #[.string st] wr fun e w'=>e=.returned (.tuple #[.int .i64 0,.bool false])∧wr=w'):=lh (RN.mono fun e w' ⟨h1,h2⟩=>⟨by
              unfold RefNum at h1
              rw [hnv,hn] at h1
              exact h1,h2.symm⟩)
             clear RN hnv hn
             go_wp2_with fail
             (with_reducible refine RN2.out.mono ?_)
             rintro e w2 ⟨rfl,rfl⟩
             clear RN2
             go_wp2
             go_ret3
             exact refPost_err (by rw [HL.out,lexAt_err xs i 31 HIX.out HST.out HSp2.out];rfl) HV.out.below
        | false =>
         rw [hd] at DK
         have HDt:=lh hd
         clear hd
         go_wp2_with fail
         (with_reducible refine BK.out.mono ?_)
         rintro e w2 ⟨rfl,rfl⟩
         clear BK
         go_wp2_with fail
         (with_reducible refine LK.out.mono ?_)
         rintro e w2 ⟨rfl,rfl⟩
         clear LK
         go_wp2_with fail
         (with_reducible refine DK.out.mono ?_)
         rintro e w2 ⟨rfl,rfl⟩
         clear DK
         by_cases h61:m=61
         · have d61:(m==61)=true:=by simpa using h61
           have H61:=lh h61
           by_cases hi1:i+1<len
           · have hck:=HX.out (i+1) hi1
             have hbk:=HBY.out (i+1)
             have hHd:=head_at xs (i+1) (by have:=hlen.out;omega)
             obtain ⟨q,hq⟩:∃q,xs.getD (i+1) 0=q:=⟨_,rfl⟩
             rw [hq] at hck hbk hHd
             have HQ:=lh hq
             have hd1:decide (i+1<len)=true:=by simpa using hi1
             clear hq
             by_cases hq61:q=61
             · have dq:(q==61)=true:=by simpa using hq61
               have HSp2:Hid (step (xs.drop i)=.tok 3 2 0):=lh (by rw [step_mark HIX.out (by rw [HM.out,h61];rfl),if_pos ⟨by rw [HM.out,h61],by rw [hHd,hq61]⟩])
               have KE:Hid (i+2=i+2):=lh rfl
               have HStr:Hid (strOfNums ((xs.drop i).take (i+2-i))=⟨#[61,61]⟩):=lh (by
                rw [Nat.add_sub_cancel_left,drop_at xs i HIX.out,drop_at xs (i+1) (by have:=hlen.out;omega),HM.out,HQ.out,h61,hq61]
                rfl)
               clear h61 hq61 hHd OK
               go_wp2_with (at_builtin;refine wpList_append_lies _ rfl (.tmp 146) (.tmp 150) 153 rfl w.heap.size 160 i0 _ 5 48 Tryz.underlying153 I0.out I1.out I2.out I3.out rfl (by decide) u5 ts.length (cellsT ts) rfl (ho.alloc _) ⟨wr.heap.size,0,none⟩ 1 1 [.int .u8 3,.int .i64 i,.int .i64 ((i:Int)+2),.string ⟨#[61,61]⟩,.int .i64 0] rfl rfl (World.news_of_block (cs:=#[.int .u8 3,.int .i64 i,.int .i64 ((i:Int)+2),.string ⟨#[61,61]⟩,.int .i64 0]) (t := 160) (fr:=(0,0)) (heap_alloc_new _ _)) (tok_one _ _ _ _ _) (by decide) (by unfold maxLen;omega) (by omega) (by simp;omega) _ rfl ?_)
               intro g cap w5 hown5 hgrow5 _ _
               have hV5:=lh (HV.out.push (one_below wr _) hgrow5 ⟨3,i,i+2,(xs.drop i).take (i+2-i),0⟩ _ (by rw [tokC,HStr.out]<;>rfl) hown5)
               clear hown5 hgrow5 ho
               go_wp2_with fail
               go_roundw
               case rel=>exact ⟨i+2,ts++[⟨3,i,i+2,(xs.drop i).take (i+2-i),0⟩],by omega,by simp;omega,by go_num,lh (by rw [HL.out,lexAt_tokK HIX.out HST.out HSp2.out (by rfl),pre_pre]),hV5⟩
               case measure=>simp [intOf];omega
             · have dq:(q==61)=false:=by simpa using hq61
               have hne:¬ (xs.getD i 0=61∧(xs.drop (i+1)).head?=some 61):=by
                rw [hHd]
                intro h
                exact hq61 (by simpa using h.2)
               have HNE:=lh hne
               clear h61 hq61 hHd hne
               cases hmk:isMark m with
               | true =>
                rw [hmk] at OK
                have HMk:=lh (step_mark HIX.out (by rw [HM.out];exact hmk))
                have KE:Hid (i+1=i+1):=lh rfl
                have HSp2:Hid (step (xs.drop i)=.tok 3 1 0):=lh (by rw [HMk.out,if_neg HNE.out])
                clear hmk
                go_wp2_with fail
                (with_reducible refine OK.out.mono ?_)
                rintro e w2 ⟨rfl,hb2⟩
                have hV2:=lh (HV.out.on hb2)
                have HSW2:=lh (HSW.out.below hb2)
                have ho2:=hV2.out.own
                have hsz2:=hV2.out.below.size
                clear hb2 OK
                have sr:∀W,(Instr.sliceAt 22 (.slice (some ⟨b,off,none⟩) len c) (some (.int .i64 i)) (some (.int .i64 ((i:Int)+1))) none).run Tryz.prog W=.ok (.slice (subP (some ⟨b,off,none⟩) c i) 1 (c-i)) W:=fun W=>by
                 have:=sub_run W (some ⟨b,off,none⟩) len c i (i+1) (by omega) (by omega)
                 rw [Nat.add_sub_cancel_left] at this
                 exact this
                have cv:=src_conv (sub_src HSW2.out i (i+1) (by omega) (by omega))
                obtain ⟨st,hst⟩:∃st,strOfNums ((xs.drop i).take (i+1-i))=st:=⟨_,rfl⟩
                rw [hst,Nat.add_sub_cancel_left] at cv
                have HStr:=lh hst
                clear hst
                go_wp2_with (at_builtin;refine wpList_append_lies _ rfl (.tmp 155) (.tmp 164) 153 rfl w.heap.size 160 i0 _ 5 48 Tryz.underlying153 I0.out I1.out I2.out I3.out rfl (by decide) u5 ts.length (cellsT ts) rfl (ho2.alloc _) ⟨w2.heap.size,0,none⟩ 1 1 [.int .u8 3,.int .i64 i,.int .i64 ((i:Int)+1),.string st,.int .i64 0] rfl rfl (World.news_of_block (cs:=#[.int .u8 3,.int .i64 i,.int .i64 ((i:Int)+1),.string st,.int .i64 0]) (t := 160) (fr:=(0,0)) (heap_alloc_new _ _)) (tok_one _ _ _ _ _) (by decide) (by unfold maxLen;omega) (by omega) (by simp;omega) _ rfl ?_)
                intro g cap w5 hown5 hgrow5 _ _
                have hV5:=lh (hV2.out.push (one_below w2 _) hgrow5 ⟨3,i,i+1,(xs.drop i).take (i+1-i),0⟩ _ (by rw [tokC,HStr.out]<;>rfl) hown5)
                clear hown5 hgrow5  sr cv
                go_wp2_with fail
                go_roundw
                case rel=>exact ⟨i+1,ts++[⟨3,i,i+1,(xs.drop i).take (i+1-i),0⟩],by omega,by simp;omega,by go_num,lh (by rw [HL.out,lexAt_tokK HIX.out HST.out HSp2.out (by rfl),pre_pre]),hV5⟩
                case measure=>simp [intOf];omega
               | false =>
                rw [hmk] at OK
                have HSp2:Hid (step (xs.drop i)=.err 30):=lh (step_none HIX.out (by rw [HM.out];exact HLt.out) (by rw [HM.out];exact HDt.out) (by rw [HM.out];exact hmk))
                clear hmk
                go_wp2_with fail
                (with_reducible refine OK.out.mono ?_)
                rintro e w2 ⟨rfl,hb2⟩
                have HB2:=lh (HV.out.on hb2).below
                clear hb2 OK
                go_wp2
                go_ret3
                exact refPost_err (by rw [HL.out,lexAt_err xs i 30 HIX.out HST.out HSp2.out];rfl) HB2.out
           · have hd1:decide (i+1<len)=false:=decide_eq_false (by omega)
             have hHd:=head_end xs (i+1) (by have:=hlen.out;omega)
             have hne:¬ (xs.getD i 0=61∧(xs.drop (i+1)).head?=some 61):=by
              rw [hHd]
              intro h
              simp at h
             have HNE:=lh hne
             clear h61 hHd hne
             cases hmk:isMark m with
             | true =>
              rw [hmk] at OK
              have HMk:=lh (step_mark HIX.out (by rw [HM.out];exact hmk))
              have KE:Hid (i+1=i+1):=lh rfl
              have HSp2:Hid (step (xs.drop i)=.tok 3 1 0):=lh (by rw [HMk.out,if_neg HNE.out])
              clear hmk
              go_wp2_with fail
              (with_reducible refine OK.out.mono ?_)
              rintro e w2 ⟨rfl,hb2⟩
              have hV2:=lh (HV.out.on hb2)
              have HSW2:=lh (HSW.out.below hb2)
              have ho2:=hV2.out.own
              have hsz2:=hV2.out.below.size
              clear hb2 OK
              have sr:∀W,(Instr.sliceAt 22 (.slice (some ⟨b,off,none⟩) len c) (some (.int .i64 i)) (some (.int .i64 ((i:Int)+1))) none).run Tryz.prog W=.ok (.slice (subP (some ⟨b,off,none⟩) c i) 1 (c-i)) W:=fun W=>by
               have:=sub_run W (some ⟨b,off,none⟩) len c i (i+1) (by omega) (by omega)
               rw [Nat.add_sub_cancel_left] at this
               exact this
              have cv:=src_conv (sub_src HSW2.out i (i+1) (by omega) (by omega))
              obtain ⟨st,hst⟩:∃st,strOfNums ((xs.drop i).take (i+1-i))=st:=⟨_,rfl⟩
              rw [hst,Nat.add_sub_cancel_left] at cv
              have HStr:=lh hst
              clear hst
              go_wp2_with (at_builtin;refine wpList_append_lies _ rfl (.tmp 155) (.tmp 164) 153 rfl w.heap.size 160 i0 _ 5 48 Tryz.underlying153 I0.out I1.out I2.out I3.out rfl (by decide) u5 ts.length (cellsT ts) rfl (ho2.alloc _) ⟨w2.heap.size,0,none⟩ 1 1 [.int .u8 3,.int .i64 i,.int .i64 ((i:Int)+1),.string st,.int .i64 0] rfl rfl (World.news_of_block (cs:=#[.int .u8 3,.int .i64 i,.int .i64 ((i:Int)+1),.string st,.int .i64 0]) (t := 160) (fr:=(0,0)) (heap_alloc_new _ _)) (tok_one _ _ _ _ _) (by decide) (by unfold maxLen;omega) (by omega) (by simp;omega) _ rfl ?_)
              intro g cap w5 hown5 hgrow5 _ _
              have hV5:=lh (hV2.out.push (one_below w2 _) hgrow5 ⟨3,i,i+1,(xs.drop i).take (i+1-i),0⟩ _ (by rw [tokC,HStr.out]<;>rfl) hown5)
              clear hown5 hgrow5  sr cv
              go_wp2_with fail
              go_roundw
              case rel=>exact ⟨i+1,ts++[⟨3,i,i+1,(xs.drop i).take (i+1-i),0⟩],by omega,by simp;omega,by go_num,lh (by rw [HL.out,lexAt_tokK HIX.out HST.out HSp2.out (by rfl),pre_pre]),hV5⟩
              case measure=>simp [intOf];omega
             | false =>
              rw [hmk] at OK
              have HSp2:Hid (step (xs.drop i)=.err 30):=lh (step_none HIX.out (by rw [HM.out];exact HLt.out) (by rw [HM.out];exact HDt.out) (by rw [HM.out];exact hmk))
              clear hmk
              go_wp2_with fail
              (with_reducible refine OK.out.mono ?_)
              rintro e w2 ⟨rfl,hb2⟩
              have HB2:=lh (HV.out.on hb2).below
              clear hb2 OK
              go_wp2
              go_ret3
              exact refPost_err (by rw [HL.out,lexAt_err xs i 30 HIX.out HST.out HSp2.out];rfl) HB2.out
         · have d61:(m==61)=false:=by simpa using h61
           have hne:¬ (xs.getD i 0=61∧(xs.drop (i+1)).head?=some 61):=by
            rw [HM.out]
            exact fun h=>h61 h.1
           have HNE:=lh hne
           clear h61 hne
           cases hmk:isMark m with
           | true =>
            rw [hmk] at OK
            have HMk:=lh (step_mark HIX.out (by rw [HM.out];exact hmk))
            have KE:Hid (i+1=i+1):=lh rfl
            have HSp2:Hid (step (xs.drop i)=.tok 3 1 0):=lh (by rw [HMk.out,if_neg HNE.out])
            clear hmk
            go_wp2_with fail
            (with_reducible refine OK.out.mono ?_)
            rintro e w2 ⟨rfl,hb2⟩
            have hV2:=lh (HV.out.on hb2)
            have HSW2:=lh (HSW.out.below hb2)
            have ho2:=hV2.out.own
            have hsz2:=hV2.out.below.size
            clear hb2 OK
            have sr:∀W,(Instr.sliceAt 22 (.slice (some ⟨b,off,none⟩) len c) (some (.int .i64 i)) (some (.int .i64 ((i:Int)+1))) none).run Tryz.prog W=.ok (.slice (subP (some ⟨b,off,none⟩) c i) 1 (c-i)) W:=fun W=>by
             have:=sub_run W (some ⟨b,off,none⟩) len c i (i+1) (by omega) (by omega)
             rw [Nat.add_sub_cancel_left] at this
             exact this
            have cv:=src_conv (sub_src HSW2.out i (i+1) (by omega) (by omega))
            obtain ⟨st,hst⟩:∃st,strOfNums ((xs.drop i).take (i+1-i))=st:=⟨_,rfl⟩
            rw [hst,Nat.add_sub_cancel_left] at cv
            have HStr:=lh hst
            clear hst
            go_wp2_with (at_builtin;refine wpList_append_lies _ rfl (.tmp 155) (.tmp 164) 153 rfl w.heap.size 160 i0 _ 5 48 Tryz.underlying153 I0.out I1.out I2.out I3.out rfl (by decide) u5 ts.length (cellsT ts) rfl (ho2.alloc _) ⟨w2.heap.size,0,none⟩ 1 1 [.int .u8 3,.int .i64 i,.int .i64 ((i:Int)+1),.string st,.int .i64 0] rfl rfl (World.news_of_block (cs:=#[.int .u8 3,.int .i64 i,.int .i64 ((i:Int)+1),.string st,.int .i64 0]) (t := 160) (fr:=(0,0)) (heap_alloc_new _ _)) (tok_one _ _ _ _ _) (by decide) (by unfold maxLen;omega) (by omega) (by simp;omega) _ rfl ?_)
            intro g cap w5 hown5 hgrow5 _ _
            have hV5:=lh (hV2.out.push (one_below w2 _) hgrow5 ⟨3,i,i+1,(xs.drop i).take (i+1-i),0⟩ _ (by rw [tokC,HStr.out]<;>rfl) hown5)
            clear hown5 hgrow5  sr cv
            go_wp2_with fail
            go_roundw
            case rel=>exact ⟨i+1,ts++[⟨3,i,i+1,(xs.drop i).take (i+1-i),0⟩],by omega,by simp;omega,by go_num,lh (by rw [HL.out,lexAt_tokK HIX.out HST.out HSp2.out (by rfl),pre_pre]),hV5⟩
            case measure=>simp [intOf];omega
           | false =>
            rw [hmk] at OK
            have HSp2:Hid (step (xs.drop i)=.err 30):=lh (step_none HIX.out (by rw [HM.out];exact HLt.out) (by rw [HM.out];exact HDt.out) (by rw [HM.out];exact hmk))
            clear hmk
            go_wp2_with fail
            (with_reducible refine OK.out.mono ?_)
            rintro e w2 ⟨rfl,hb2⟩
            have HB2:=lh (HV.out.on hb2).below
            clear hb2 OK
            go_wp2
            go_ret3
            exact refPost_err (by rw [HL.out,lexAt_err xs i 30 HIX.out HST.out HSp2.out];rfl) HB2.out
  · have HE:=lh (lexAt_end xs i (by have:=hlen.out;omega))
    have hil2:i=len:=by omega
    go_wp2_with (at_builtin;refine wpList_append_lies _ rfl (.tmp 167) (.tmp 173) 153 rfl w.heap.size 160 i0 _ 5 48 Tryz.underlying153 I0.out I1.out I2.out I3.out rfl (by decide) u5 ts.length (cellsT ts) rfl (ho.alloc _) ⟨wr.heap.size,0,none⟩ 1 1 [.int .u8 4,.int .i64 len,.int .i64 len,.string ⟨#[]⟩,.int .i64 0] rfl rfl ?zz1 ?zz2 (by decide) ?zz3 ?zz4 ?zz5 _ rfl ?_)
    case zz1 =>
     refine World.news_of_block (cs:=#[.int .u8 4,.int .i64 len,.int .i64 len,.string ⟨#[]⟩,.int .i64 0]) (t := 160) (fr:=(0,0)) ?_
     exact heap_alloc_new _ _
    case zz2=>exact tok_one _ _ _ _ _
    case zz3=>unfold maxLen;omega
    case zz4=>omega
    case zz5=>simp;omega
    intro g cap w5 hown5 hgrow5 _ _
    have hV5:=lh (HV.out.push (one_below wr _) hgrow5 (Tok.endAt len) _ (by simp [tokC,Tok.endAt,strOfNums]) hown5)
    have HIL:=lh hil2
    clear hown5 hgrow5 ho hil2
    go_wp2
    go_ret3
    exact refPost_ok (ts:=ts++[Tok.endAt len]) (by rw [HL.out,HE.out,HIL.out];rfl) (by simp) (by rfl) (by have:=hV5.out.own;rw [List.length_append] at this;exact this) hV5.out.below
end
end Go.Proofs.YthdioipfdbbmmaaGreatDoor
