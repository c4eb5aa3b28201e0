/- Contracts. -/
import Derived.Test.YthdioipfdbbmmaaGreatDoorKah
import Derived.Deep.QuietTactic
import Derived.BigQuiet
import Derived.Lib.BytesEntry
import Derived.Laws.BytesArg
import Derived.Lib.SlBytesConst
set_option linter.all false
set_option maxRecDepth 1000000
set_option maxHeartbeats 16000000
namespace Go.Proofs.YthdioipfdbbmmaaGreatDoor
section
open Go.RowKit
theorem drewN_below (B:Nat)(w:World)(n:Nat):Below B w (w.drewN n):=⟨rfl,rfl,rfl,Nat.le_refl _,fun _ _=>rfl⟩
theorem retI {a b:Int}(h:a=b):Ending.returned (.int .i64 a)=.returned (.int .i64 b):=by rw [h]
structure SK (W:World)(p:Option Addr)(len c kb:Nat)(xs:List Int):Prop where
 len_eq:xs.length=len
 byte:∀i,0≤xs.getD i 0∧xs.getD i 0<256
 addr:0<len→∃b off,p=some ⟨b,off,none⟩∧b<W.heap.size∧∀i,i<len→W.cell? ⟨b,off+i,none⟩=some (.int .u8 (xs.getD i 0))
 cap:len≤c
 kinds:∀k:Nat,k<256→W.cell? ⟨kb,k,none⟩=some (.int .u8 (kindF k))
 kbl:kb<W.heap.size
theorem SK.on {W W':World}{p:Option Addr}{len c kb:Nat}{xs:List Int}(h:SK W p len c kb xs){B:Nat}(hB:W.heap.size≤B)(hb:Below B W W'):SK W' p len c kb xs where
 len_eq:=h.len_eq
 byte:=h.byte
 addr:=fun hl=>by
  obtain ⟨b,off,e,hlt,hc⟩:=h.addr hl
  exact ⟨b,off,e,Nat.lt_of_lt_of_le hlt hb.size,fun i hi=>by rw [hb.cell (p:=⟨b,off+i,none⟩) (Nat.lt_of_lt_of_le hlt hB)];exact hc i hi⟩
 cap:=h.cap
 kinds:=fun k hk=>by rw [hb.cell (p:=⟨kb,k,none⟩) (Nat.lt_of_lt_of_le h.kbl hB)];exact h.kinds k hk
 kbl:=Nat.lt_of_lt_of_le h.kbl hb.size
theorem SK.alloc {W:World}{p:Option Addr}{len c kb:Nat}{xs:List Int}(h:SK W p len c kb xs)(o:Obj):SK (W.alloc o) p len c kb xs :=
 h.on (Nat.le_refl _) ((Below.refl _ _).alloc (Nat.le_refl _) _)
theorem kind_at (W:World)(kb m:Nat)(hm:m<256)(hk:W.cell? ⟨kb,m,none⟩=some (.int .u8 (kindF m))) :
 Calls Tryz.prog 87 #[.int .u8 m,.pointer (some ⟨kb,0,none⟩)] W fun e w'=>e=.returned (.int .u8 (kindF m))∧w'=W:=by
 generalize kindF m=k at *
 go_enter Tryz.func87,Tryz.ntmps87
 go_wp2
 go_ret
 exact ⟨rfl,rfl⟩
theorem inName_at (W:World)(k:Int) :
 Calls Tryz.prog 154 #[.int .u8 k] W fun e w'=>e=.returned (.bool (k==3||k==4||k==5))∧w'=W:=by
 go_enter Tryz.func154,Tryz.ntmps154
 go_wp2
 all_goals (go_ret;simp_all)
theorem kind_name (c:Int):(kindF c==3||kindF c==4||kindF c==5)=isNameB c:=by
 unfold kindF
 by_cases h1:isBlank c=true
 · have:c=32∨c=9∨c=10∨c=13:=by simpa [isBlank,or_assoc] using h1
   rcases this with rfl|rfl|rfl|rfl<;>decide
 · by_cases h2:c=35
   · subst h2;decide
   · by_cases h3:isLetter c=true
     · simp [h1,h2,h3,isNameB]
     · by_cases h4:isDigit c=true
       · simp [h1,h2,h3,h4,isNameB]
       · by_cases h5:c=95
         · subst h5;decide
         · by_cases h6:isMark c=true
           · simp [h1,h2,h3,h4,h5,h6,isNameB]
           · simp [h1,h2,h3,h4,h5,h6,isNameB]
theorem indexByte_run (xs:List Int)(hr:∀x∈xs,0≤x∧x<256):Lib.indexByte (Lib.bytesOf xs) (10:Int).toNat.toUInt8=if run nl xs<xs.length then (run nl xs:Int) else -1:=by
 induction xs with
 | nil=>simp [Lib.bytesOf,Lib.indexByte,run]
 | cons x xs ih =>
  have hx:=hr x (by simp)
  have ih:=ih (fun y hy=>hr y (by simp [hy]))
  simp only [Lib.bytesOf,List.map_cons,Lib.indexByte] at ih ⊢
  by_cases h:x=10
  · subst h
    simp [run,nl]
  · have hne:(UInt8.ofNat x.toNat==(10:Int).toNat.toUInt8)=false:=by
     simp only [beq_eq_false_iff_ne,ne_eq]
     intro e
     have:=congrArg UInt8.toNat e
     simp at this
     omega
    have hn:nl x=true:=by simp [nl,h]
    simp only [hne,run,hn,if_true,ih,List.length_cons]
    by_cases hl:run nl xs<xs.length
    · simp [hl]
      try omega
    · simp [hl]
theorem pastRemark_at (w:World)(p:Option Addr)(len c kb i:Nat)(xs:List Int)(h:SK w p len c kb xs)(hb:len≤70000)(hi:i<len) :
 Calls Tryz.prog 88 #[.agg #[.slice p len c,.func (.func 87) #[] #[.pointer (some ⟨kb,0,none⟩)]],.int .i64 i] w fun e w'=>e=.returned (.int .i64 ((i+run nl (xs.drop i):Nat):Int))∧Below w.heap.size w w':=by
 have hlen:=h.len_eq
 have hcap:=h.cap
 obtain ⟨b,off,rfl,hbl,hc⟩:=h.addr (by omega)
 have h59:=@run_callFunc_extern Tryz.prog 221 _ Extern.BytealgIndexByte.indexByte Tryz.func221 (by kernel_rfl) (by kernel_rfl) (by kernel_rfl) (by kernel_rfl)
 have hr:(Extern.BytealgIndexByte.indexByte #[.slice (some ⟨b,off+i,none⟩) (len-i) (c-i),.int .u8 10]).run Tryz.prog (w.alloc (.cells #[.slice (some ⟨b,off,none⟩) len c,.func (.func 87) #[] #[.pointer (some ⟨kb,0,none⟩)]] 90))=.ok (.int .i64 (Lib.indexByte (Lib.bytesOf (xs.drop i)) (10:Int).toNat.toUInt8)) (w.alloc (.cells #[.slice (some ⟨b,off,none⟩) len c,.func (.func 87) #[] #[.pointer (some ⟨kb,0,none⟩)]] 90)) :=
  Lib.run_indexByteSlice (P:=Tryz.prog) _ b (off+i) (len-i) (c-i) (xs.drop i) (by simp;omega) (fun j hj=>by
   rw [World.cell?_alloc_lt _ _ _ hbl,Nat.add_assoc,hc (i+j) (by omega)]
   simp [List.getD]) 10
 rw [indexByte_run _ (fun x hx=>by
  obtain ⟨j,hj,rfl⟩:=List.mem_iff_getElem.1 hx
  have:=h.byte (i+j)
  simp at hj
  simpa [List.getD,show i+j<xs.length by omega] using this)] at hr
 have hrl:=run_le nl (xs.drop i)
 simp only [List.length_drop,hlen] at hr hrl
 generalize run nl (xs.drop i)=r at *
 clear hc h hlen
 by_cases hlt:r<len-i
 · rw [if_pos hlt] at hr
   go_enter Tryz.func88,Tryz.ntmps88
   go_wp2
   go_ret
   exact ⟨retI (by omega),(Below.refl _ _).alloc (Nat.le_refl _) _⟩
 · rw [if_neg hlt] at hr
   go_enter Tryz.func88,Tryz.ntmps88
   go_wp2
   go_ret
   exact ⟨retI (by omega),(Below.refl _ _).alloc (Nat.le_refl _) _⟩
theorem kind_blank (c:Int):(kindF c==1)=isBlank c:=by
 unfold kindF
 by_cases h1:isBlank c=true
 · simp [h1]
 · have:isBlank c=false:=by simpa using h1
   simp only [this]
   repeat' split
   all_goals simp_all
theorem kind_rem (c:Int):(kindF c==2)=(c==35):=by
 unfold kindF
 by_cases h:c=35
 · subst h;decide
 · have:(c==35)=false:=by simpa using h
   rw [this]
   repeat' split
   all_goals simp_all
theorem pastBlanks_at (w:World)(p:Option Addr)(len c kb i:Nat)(xs:List Int)(h:SK w p len c kb xs)(hb:len≤70000)(hi:i≤len) :
 Calls Tryz.prog 48 #[.agg #[.slice p len c,.func (.func 87) #[] #[.pointer (some ⟨kb,0,none⟩)]],.int .i64 i] w fun e w'=>e=.returned (.int .i64 (bl xs i:Int))∧Below w.heap.size w w':=by
 have H:=lh h
 have hlen:=lh h.len_eq
 clear h
 go_enter Tryz.func48,Tryz.ntmps48
 go_wp2_with fail
 go_loopw [1] (fun av wr=>∃j:Nat,j≤len∧av=.int .i64 j∧Hid (bl xs j=bl xs i)∧Hid (Below (w.heap.size+1) (w.alloc (.cells #[.slice p len c,.func (.func 87) #[] #[.pointer (some ⟨kb,0,none⟩)]] 90)) wr)) (fun av _=>len-(intOf av).toNat)
 case atStart=>exact ⟨i,hi,rfl,lh rfl,lh (Below.refl _ _)⟩
 case round =>
  obtain ⟨j,hj,rfl,HB,hbel⟩:=hrel
  have c0:wr.cell? ⟨w.heap.size,0,none⟩=some (.slice p len c):=by rw [hbel.out.cell (by simp)];simp
  have c1:wr.cell? ⟨w.heap.size,1,none⟩=some (.func (.func 87) #[] #[.pointer (some ⟨kb,0,none⟩)]):=by rw [hbel.out.cell (by simp)];simp
  have hsk:=lh ((H.out.alloc (.cells #[.slice p len c,.func (.func 87) #[] #[.pointer (some ⟨kb,0,none⟩)]] 90)).on (by simp) hbel.out)
  have hfin:Below w.heap.size w wr:=((Below.refl _ _).alloc (Nat.le_refl _) _).trans (hbel.out.mono (by omega))
  have HF:=lh hfin
  clear hfin
  by_cases hjl:j<len
  · obtain ⟨b,off,rfl,hbl,hc⟩:=hsk.out.addr (by omega)
    have hcj:=hc j hjl
    have hby:=hsk.out.byte j
    obtain ⟨m,hm⟩:∃m:Nat,xs.getD j 0=m:=⟨(xs.getD j 0).toNat,by omega⟩
    rw [hm] at hcj hby
    have HM:=lh hm
    have hm256:m<256:=by omega
    have hk:=hsk.out.kinds m hm256
    clear hc hbl hm hby
    have hkb:=lh (kind_blank m)
    have hkr:=lh (kind_rem m)
    have HK:=lh hk
    clear hk
    go_wp2_with fail
    go_quiet (first|(go_at_call 87;refine Calls.quiet_of_same (kind_at _ kb m hm256 HK.out)))
    have hsk2:=lh (hsk.out.on (Nat.le_refl _) (drewN_below _ wr nq))
    have hf2:=lh (HF.out.trans (drewN_below _ wr nq))
    have hbel2:=lh (hbel.out.trans (drewN_below _ wr nq))
    have hRem:=pastRemark_at (wr.drewN nq) (some ⟨b,off,none⟩) len c kb j xs hsk2.out hb hjl
    have HR:=lh (run_le nl (xs.drop j))
    clear HK
    generalize kindF m=k at *
    by_cases k1:k=1
    · subst k1
      clear hRem
      go_wp2
      go_roundw
      case rel=>exact ⟨j+1,by omega,by go_num,lh (by rw [← HB.out,bl_blank xs j (by have:=hlen.out;omega) (by rw [HM.out];simpa using hkb.out.symm)]),hbel2⟩
      case measure=>simp [intOf];omega
    · have k1':(k==1)=false:=by simpa using k1
      by_cases k2:k=2
      · subst k2
        have h35:xs.getD j 0=35:=by rw [HM.out];simpa using hkr.out.symm
        have hrun:0<run nl (xs.drop j)∧j+run nl (xs.drop j)≤len:=by
         have:=HR.out
         rw [List.length_drop,hlen.out] at this
         refine ⟨?_,by omega⟩
         rw [drop_at xs j (by have:=hlen.out;omega),h35]
         simp [run,nl]
        have HBR:=lh (bl_rem xs j (by have:=hlen.out;omega) h35)
        generalize run nl (xs.drop j)=r at *
        clear h35
        go_wp2_with fail
        (with_reducible refine hRem.mono ?_)
        rintro e w' ⟨rfl,hb'⟩
        have HB':=lh (hbel2.out.trans (hb'.mono (by have:=hbel2.out.size;simpa using this)))
        clear hb' hRem
        go_wp2
        go_roundw
        case rel=>exact ⟨j+r,by omega,by go_num,lh (by rw [← HB.out,HBR.out]),HB'⟩
        case measure=>simp [intOf];omega
      · have k2':(k==2)=false:=by simpa using k2
        clear hRem
        go_wp2
        go_ret
        exact ⟨retI (by rw [← HB.out,bl_stay xs j (by have:=hlen.out;omega) (by rw [HM.out,← hkb.out];exact k1') (by rw [HM.out];intro e;rw [e] at hkr;exact absurd hkr.out (by simp [k2']))]),hf2.out⟩
  · go_wp2
    go_ret
    exact ⟨retI (by rw [← HB.out,bl_end xs j (by have:=hlen.out;omega)]),HF.out⟩
end
section
open Go.RowKit
theorem run_yes (p:Int→Bool)(xs:List Int)(j:Nat)(h:j<xs.length)(hp:p (xs.getD j 0)=true):run p (xs.drop j)=run p (xs.drop (j+1))+1:=by
 rw [drop_at xs j h,run,if_pos hp]
theorem run_no (p:Int→Bool)(xs:List Int)(j:Nat)(h:j<xs.length)(hp:p (xs.getD j 0)=false):run p (xs.drop j)=0:=by
 rw [drop_at xs j h,run,if_neg (by rw [hp];simp)]
theorem run_out (p:Int→Bool)(xs:List Int)(j:Nat)(h:xs.length≤j):run p (xs.drop j)=0:=by
 rw [List.drop_eq_nil_of_le h,run]
theorem pastName_at (w:World)(p:Option Addr)(len c kb i:Nat)(xs:List Int)(h:SK w p len c kb xs)(hb:len≤70000)(hi:i≤len) :
 Calls Tryz.prog 90 #[.agg #[.slice p len c,.func (.func 87) #[] #[.pointer (some ⟨kb,0,none⟩)]],.int .i64 i] w fun e w'=>e=.returned (.int .i64 ((i+run isNameB (xs.drop i):Nat):Int))∧Below w.heap.size w w':=by
 have H:=lh h
 have hlen:=lh h.len_eq
 clear h
 go_enter Tryz.func90,Tryz.ntmps90
 go_wp2_with fail
 go_loopw [1] (fun av wr=>∃j:Nat,j≤len∧av=.int .i64 j∧Hid (j+run isNameB (xs.drop j)=i+run isNameB (xs.drop i))∧Hid (Below (w.heap.size+1) (w.alloc (.cells #[.slice p len c,.func (.func 87) #[] #[.pointer (some ⟨kb,0,none⟩)]] 90)) wr)) (fun av _=>len-(intOf av).toNat)
 case atStart=>exact ⟨i,hi,rfl,lh rfl,lh (Below.refl _ _)⟩
 case round =>
  obtain ⟨j,hj,rfl,HB,hbel⟩:=hrel
  have c0:wr.cell? ⟨w.heap.size,0,none⟩=some (.slice p len c):=by rw [hbel.out.cell (by simp)];simp
  have c1:wr.cell? ⟨w.heap.size,1,none⟩=some (.func (.func 87) #[] #[.pointer (some ⟨kb,0,none⟩)]):=by rw [hbel.out.cell (by simp)];simp
  have hsk:=lh ((H.out.alloc (.cells #[.slice p len c,.func (.func 87) #[] #[.pointer (some ⟨kb,0,none⟩)]] 90)).on (by simp) hbel.out)
  have HF:=lh (show Below w.heap.size w wr from ((Below.refl _ _).alloc (Nat.le_refl _) _).trans (hbel.out.mono (by omega)))
  by_cases hjl:j<len
  · obtain ⟨b,off,rfl,hbl,hc⟩:=hsk.out.addr (by omega)
    have hcj:=hc j hjl
    have hby:=hsk.out.byte j
    obtain ⟨m,hm⟩:∃m:Nat,xs.getD j 0=m:=⟨(xs.getD j 0).toNat,by omega⟩
    rw [hm] at hcj hby
    have HM:=lh hm
    have hm256:m<256:=by omega
    have HK:=lh (hsk.out.kinds m hm256)
    have HN:=lh (kind_name m)
    clear hc hbl hm hby
    have hj2:(j:Int)<(len:Int):=by omega
    go_wp2_with fail
    go_quiet (first|(go_at_call 87;refine Calls.quiet_of_same (kind_at _ kb m hm256 HK.out))|(go_at_call 154;refine Calls.quiet_of_same (inName_at _ _)))
    have hbel2:=lh (hbel.out.trans (drewN_below _ wr nq))
    have hf2:=lh (HF.out.trans (drewN_below _ wr nq))
    clear HK
    generalize kindF m=k at *
    obtain ⟨t,ht⟩:∃t,(k==3||k==4||k==5)=t:=⟨_,rfl⟩
    have HT:=lh (HN.out.symm.trans ht)
    rw [ht]
    clear ht HN
    cases t with
    | true =>
     go_wp2
     go_roundw
     case rel=>exact ⟨j+1,by omega,by go_num,lh (by have:=run_yes isNameB xs j (by have:=hlen.out;omega) (by rw [HM.out];exact HT.out);have:=HB.out;omega),hbel2⟩
     case measure=>simp [intOf];omega
    | false =>
     go_wp2
     go_ret
     exact ⟨retI (by have:=run_no isNameB xs j (by have:=hlen.out;omega) (by rw [HM.out];exact HT.out);have:=HB.out;omega),hf2.out⟩
  · have hjd:decide ((j:Int)<(len:Int))=false:=by simp;omega
    go_wp2_with fail
    go_quiet (fail)
    have hf2:=lh (HF.out.trans (drewN_below _ wr nq))
    go_wp2
    go_ret
    exact ⟨retI (by have:=run_out isNameB xs j (by have:=hlen.out;omega);have:=HB.out;omega),hf2.out⟩
theorem word_conv (W:World)(b off len _c i e:Nat)(xs:List Int)(hl:xs.length=len)(hi:i≤e)(he:e≤len)(hc:∀i,i<len→W.cell? ⟨b,off+i,none⟩=some (.int .u8 (xs.getD i 0)))(cp:Nat) :
 (convert 22 9 (.slice (some ⟨b,off+i,none⟩) (e-i) cp)).run Tryz.prog W=.ok (.string (strOfNums ((xs.drop i).take (e-i)))) W :=
 run_convert_bytes_arg W 22 5 Tryz.underlying22 Tryz.underlying5 b (off+i) (e-i) cp _ (by simp;omega) (fun j hj=>by
  rw [Nat.add_assoc,hc (i+j) (by omega)]
  simp [List.getD,hj]) 9 Tryz.underlying9
theorem lexWord_at (w:World)(p:Option Addr)(len c kb i e:Nat)(kd:Int)(xs:List Int)(h:SK w p len c kb xs)(hb:len≤70000)(hi:i<e)(he:e≤len) :
 Calls Tryz.prog 89 #[.agg #[.slice p len c,.func (.func 87) #[] #[.pointer (some ⟨kb,0,none⟩)]],.int .u8 kd,.int .i64 i,.int .i64 e] w fun ev w'=>ev=.returned (.agg #[.int .u8 kd,.int .i64 i,.int .i64 e,.string (strOfNums ((xs.drop i).take (e-i))),.int .i64 0])∧Below w.heap.size w w':=by
 have hlen:=h.len_eq
 have hcap:=h.cap
 obtain ⟨b,off,rfl,hbl,hc⟩:=h.addr (by omega)
 have hcv:=fun W (hW:∀i,i<len→W.cell? ⟨b,off+i,none⟩=some (.int .u8 (xs.getD i 0)))=>word_conv W b off len c i e xs hlen (by omega) he hW (c-i)
 have hcv2:=hcv ((w.alloc (.cells #[.slice (some ⟨b,off,none⟩) len c,.func (.func 87) #[] #[.pointer (some ⟨kb,0,none⟩)]] 90)).alloc (.cells #[.int .u8 0,.int .i64 0,.int .i64 0,.string ⟨#[]⟩,.int .i64 0] 29)) (fun j hj=>by
  rw [World.cell?_alloc_lt _ _ _ (by simp;omega),World.cell?_alloc_lt _ _ _ hbl];exact hc j hj)
 clear hcv hc h hlen
 generalize strOfNums ((xs.drop i).take (e-i))=st at *
 go_enter Tryz.func89,Tryz.ntmps89
 go_wp2
 simp [bodyPost,results,Tryz.results89,go_sem]
 exact ((Below.refl _ _).alloc (Nat.le_refl _) _).alloc (by simp) _
theorem bytesOf_inj (a b:List Int)(ha:∀x∈a,0≤x∧x<256)(hb:∀x∈b,0≤x∧x<256)(h:Lib.bytesOf a=Lib.bytesOf b):a=b:=by
 induction a generalizing b with
 | nil=>cases b with
  | nil=>rfl
  | cons y b=>simp [Lib.bytesOf] at h
 | cons x a ih=>cases b with
  | nil=>simp [Lib.bytesOf] at h
  | cons y b =>
   simp only [Lib.bytesOf,List.map_cons,List.cons.injEq] at h
   have hx:=ha x (by simp)
   have hy:=hb y (by simp)
   have e:=congrArg UInt8.toNat h.1
   simp at e
   rw [ih b (fun z hz=>ha z (by simp [hz])) (fun z hz=>hb z (by simp [hz])) h.2,show x=y by omega]
theorem str_eq (a b:List Int)(ha:∀x∈a,0≤x∧x<256)(hb:∀x∈b,0≤x∧x<256):((strOfNums a).toList==(strOfNums b).toList)=decide (a=b):=by
 rw [Lib.strOfNums_toList,Lib.strOfNums_toList]
 by_cases h:a=b
 · subst h;simp
 · have:Lib.bytesOf a≠Lib.bytesOf b:=fun e=>h (bytesOf_inj a b ha hb e)
   simp [h,this]
theorem equal_two (W:World)(b o c q:Nat)(x y:Int)(hx:0≤x∧x<256)(hy:0≤y∧y<256)(h0:W.cell? ⟨b,o,none⟩=some (.int .u8 x))(h1:W.cell? ⟨b,o+1,none⟩=some (.int .u8 y))
 (q0:W.cell? ⟨q,0,none⟩=some (.int .u8 61)) (q1:W.cell? ⟨q,1,none⟩=some (.int .u8 61)) :
 Calls Tryz.prog 217 #[.slice (some ⟨b,o,none⟩) 2 c,.slice (some ⟨q,0,none⟩) 2 2] W fun e w'=>e=.returned (.bool (x==61&&y==61))∧w'=W:=by
 have e1:=run_convert_bytes_arg W 22 5 Tryz.underlying22 Tryz.underlying5 b o 2 c [x,y] rfl (fun j hj=>by
  match j,hj with
  | 0,_=>simpa using h0
  | 1,_=>simpa using h1) 9 Tryz.underlying9
 have e2:=run_convert_bytes_arg W 22 5 Tryz.underlying22 Tryz.underlying5 q 0 2 2 [61,61] rfl (fun j hj=>by
  match j,hj with
  | 0,_=>simpa using q0
  | 1,_=>simpa using q1) 9 Tryz.underlying9
 have hs:((strOfNums [x,y]).toList==(strOfNums [61,61]).toList)=(x==61&&y==61):=by
  rw [str_eq [x,y] [61,61] (by simp;omega) (by simp)]
  rw [Bool.eq_iff_iff];simp
 generalize strOfNums [x,y]=s1 at *
 generalize strOfNums [61,61]=s2 at *
 generalize (x==61&&y==61)=r at *
 clear h0 h1 q0 q1
 go_enter Tryz.func217,Tryz.ntmps217
 go_wp2
 go_ret
 exact ⟨rfl,rfl⟩
theorem hasPrefix_two (W:World)(b o n c q:Nat)(ys:List Int)(hn:ys.length=n)(hnc:n≤c)(hb:n≤70000)(hy:∀i,0≤ys.getD i 0∧ys.getD i 0<256)(hc:∀i,i<n→W.cell? ⟨b,o+i,none⟩=some (.int .u8 (ys.getD i 0)))
 (q0:W.cell? ⟨q,0,none⟩=some (.int .u8 61)) (q1:W.cell? ⟨q,1,none⟩=some (.int .u8 61)) :
 Calls Tryz.prog 155 #[.slice (some ⟨b,o,none⟩) n c,.slice (some ⟨q,0,none⟩) 2 2] W fun e w'=>e=.returned (.bool (decide (2≤n)&&(ys.getD 0 0==61&&ys.getD 1 0==61)))∧w'=W:=by
 by_cases h2:2≤n
 · have E:=equal_two W b o c q (ys.getD 0 0) (ys.getD 1 0) (hy 0) (hy 1) (by simpa using hc 0 (by omega)) (hc 1 (by omega)) q0 q1
   generalize (ys.getD 0 0==61&&ys.getD 1 0==61)=r at *
   have h2d:(decide (2≤n)&&r)=r:=by simp [h2]
   rw [h2d]
   clear hc hy hn q0 q1 h2d
   go_enter Tryz.func155,Tryz.ntmps155
   go_wp2_with fail
   (with_reducible refine E.mono ?_)
   rintro e w' ⟨rfl,rfl⟩
   go_wp2
   go_ret
   exact ⟨rfl,rfl⟩
 · have h2d:(decide (2≤n)&&(ys.getD 0 0==61&&ys.getD 1 0==61))=false:=by simp;omega
   rw [h2d]
   clear hc hy hn q0 q1 h2d
   go_enter Tryz.func155,Tryz.ntmps155
   go_wp2
   all_goals go_ret
   all_goals first|exact ⟨rfl,rfl⟩|omega
theorem pastMark_at (w:World)(p:Option Addr)(len c kb i:Nat)(xs:List Int)(h:SK w p len c kb xs)(hb:len≤70000)(hi:i<len) :
 Calls Tryz.prog 92 #[.agg #[.slice p len c,.func (.func 87) #[] #[.pointer (some ⟨kb,0,none⟩)]],.int .i64 i] w fun e w'=>e=.returned (.int .i64 ((i+(if xs.getD i 0=61∧(xs.drop (i+1)).head?=some 61 then 2 else 1):Nat):Int))∧Below w.heap.size w w':=by
 have hlen:=h.len_eq
 have hcap:=h.cap
 obtain ⟨b,off,rfl,hbl,hc⟩:=h.addr (by omega)
 have hcv:(convert 22 22 (.slice (some ⟨w.heap.size+1,0,none⟩) 2 2)).run Tryz.prog ((w.alloc (.cells #[.slice (some ⟨b,off,none⟩) len c,.func (.func 87) #[] #[.pointer (some ⟨kb,0,none⟩)]] 90)).alloc (.cells #[.int .u8 61,.int .u8 61] 5))=.ok (.slice (some ⟨w.heap.size+1,0,none⟩) 2 2) ((w.alloc (.cells #[.slice (some ⟨b,off,none⟩) len c,.func (.func 87) #[] #[.pointer (some ⟨kb,0,none⟩)]] 90)).alloc (.cells #[.int .u8 61,.int .u8 61] 5 (2,3))):=by
  have:=Lib.run_convert_bytes_const (P:=Tryz.prog) (w.alloc (.cells #[.slice (some ⟨b,off,none⟩) len c,.func (.func 87) #[] #[.pointer (some ⟨kb,0,none⟩)]] 90)) 22 5 #[.int .u8 61,.int .u8 61] 2 2 Tryz.underlying22 Tryz.underlying5
  simpa using this
 have P1:=hasPrefix_two ((w.alloc (.cells #[.slice (some ⟨b,off,none⟩) len c,.func (.func 87) #[] #[.pointer (some ⟨kb,0,none⟩)]] 90)).alloc (.cells #[.int .u8 61,.int .u8 61] 5 (2,3))) b (off+i) (len-i) (c-i) (w.heap.size+1) (xs.drop i) (by simp;omega) (by omega) (by omega)
  (fun j=>by have:=h.byte (i+j);simpa [List.getD] using this)
  (fun j hj=>by rw [World.cell?_alloc_lt _ _ _ (by simp;omega),World.cell?_alloc_lt _ _ _ hbl,Nat.add_assoc,hc (i+j) (by omega)];simp [List.getD])
  (by rw [show w.heap.size+1=(w.alloc (.cells #[.slice (some ⟨b,off,none⟩) len c,.func (.func 87) #[] #[.pointer (some ⟨kb,0,none⟩)]] 90)).heap.size by simp,World.cell?_alloc_mark];rfl)
  (by rw [show w.heap.size+1=(w.alloc (.cells #[.slice (some ⟨b,off,none⟩) len c,.func (.func 87) #[] #[.pointer (some ⟨kb,0,none⟩)]] 90)).heap.size by simp,World.cell?_alloc_mark];rfl)
 have hr:(decide (2≤len-i)&&((xs.drop i).getD 0 0==61&&(xs.drop i).getD 1 0==61))=decide (xs.getD i 0=61∧(xs.drop (i+1)).head?=some 61):=by
  have e0:(xs.drop i).getD 0 0=xs.getD i 0:=by simp [List.getD]
  have e1:(xs.drop i).getD 1 0=xs.getD (i+1) 0:=by simp [List.getD]
  have e2:(xs.drop (i+1)).head?=xs[i+1]?:=by simp [List.head?_drop]
  rw [e0,e1,e2]
  by_cases hl:2≤len-i
  · have:i+1<xs.length:=by omega
    have e3:xs[i+1]?=some (xs.getD (i+1) 0):=by simp [List.getD,this]
    rw [e3,Bool.eq_iff_iff]
    simp [hl]
  · have:xs[i+1]?=none:=by simp;omega
    rw [this]
    simp [hl]
 rw [hr] at P1
 clear hr hc h hlen
 by_cases hq:xs.getD i 0=61∧(xs.drop (i+1)).head?=some 61
 · rw [if_pos hq]
   rw [decide_eq_true hq] at P1
   clear hq
   go_enter Tryz.func92,Tryz.ntmps92
   go_wp2_with fail
   (with_reducible refine P1.mono ?_)
   rintro e w' ⟨rfl,rfl⟩
   go_wp2
   go_ret
   exact ⟨retI (by omega),((Below.refl _ _).alloc (Nat.le_refl _) _).alloc (by simp) _⟩
 · rw [if_neg hq]
   rw [decide_eq_false hq] at P1
   clear hq
   go_enter Tryz.func92,Tryz.ntmps92
   go_wp2_with fail
   (with_reducible refine P1.mono ?_)
   rintro e w' ⟨rfl,rfl⟩
   go_wp2
   go_ret
   exact ⟨retI (by omega),((Below.refl _ _).alloc (Nat.le_refl _) _).alloc (by simp) _⟩
end
end Go.Proofs.YthdioipfdbbmmaaGreatDoor
