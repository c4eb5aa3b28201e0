/- Contracts. -/
import Derived.Test.YthdioipfdbbmmaaGreatDoorHab
import Derived.Test.YthdioipfdbbmmaaGreatDoorHas
import Derived.Test.YthdioipfdbbmmaaGreatDoorHaz
import Derived.Lib.AppendStr
import Derived.Deep.AppendLies
set_option linter.all false
set_option maxRecDepth 1000000
set_option maxHeartbeats 16000000
namespace Go.Proofs.YthdioipfdbbmmaaGreatDoor
section
open Go.RowKit
def gapB (k:Int):List Int:=if k % 4=0 then [32] else if k % 4=1 then [10] else if k % 4=2 then [9] else [35,32,120,10]
theorem gapB_gap (k:Int):isGap (gapB k):=by
 unfold gapB
 split
 · exact ⟨fun X=>by simp [blk,isBlank],_,_,rfl,Or.inl rfl⟩
 · split
   · exact ⟨fun X=>by simp [blk,isBlank],_,_,rfl,Or.inl rfl⟩
   · split
     · exact ⟨fun X=>by simp [blk,isBlank],_,_,rfl,Or.inl rfl⟩
     · exact ⟨fun X=>by simp [blk,isBlank];omega,_,_,rfl,Or.inr rfl⟩
theorem mem_byte {xs:List Int}(h:∀i,0≤xs.getD i 0∧xs.getD i 0<256):∀x∈xs,0≤x∧x<256:=by
 intro x hx
 obtain ⟨i,hi,rfl⟩:=List.mem_iff_getElem.1 hx
 simpa [List.getD,hi] using h i
theorem lexN_text (f p:Nat)(l:List Int)(hl:∀x∈l,0≤x∧x<256)(ts:List Tok)(h:lexN f p l=.ok ts):∀t∈ts,∀x∈t.text,0≤x∧x<256:=by
 induction f generalizing p l ts with
 | zero =>
  simp only [lexN,Except.ok.injEq] at h
  subst h
  intro t ht
  simp only [List.mem_singleton] at ht
  subst ht
  intro x hx
  simp [Tok.endAt] at hx
 | succ f ih =>
  simp only [lexN] at h
  split at h
  · simp only [Except.ok.injEq] at h
    subst h
    intro t ht
    simp only [List.mem_singleton] at ht
    subst ht
    intro x hx
    simp [Tok.endAt] at hx
  · rename_i c r hd
    split at h
    · simp at h
    · rename_i k len n hs
      have hcr:∀x∈c::r,0≤x∧x<256:=fun x hx=>hl x (by rw [← hd] at hx;exact List.mem_of_mem_drop hx)
      cases hu:lexN f (p+blk false l+len) ((c::r).drop len) with
      | error e=>rw [hu] at h;simp [pre] at h
      | ok us =>
       rw [hu] at h
       simp only [pre,Except.ok.injEq] at h
       subst h
       intro t ht
       simp only [List.singleton_append,List.mem_cons] at ht
       rcases ht with rfl|ht
       · exact fun x hx=>hcr x (List.mem_of_mem_take hx)
       · exact ih _ _ (fun x hx=>hcr x (List.mem_of_mem_drop hx)) us hu t ht
theorem infoB:(Tryz.prog.info? 5).map (fun i=>(i.zero,i.size,i.bytes))=some (some (.int .u8 0),1,1):=by kernel_rfl
theorem cells_str (l:List Int)(h:∀x∈l,0≤x∧x<256):Lib.strCells (strOfNums l)=l.map (Value.int .u8):=by
 unfold Lib.strCells
 rw [strOfNums_data,List.map_map]
 apply List.map_congr_left
 intro x hx
 have:=h x hx
 have e:(UInt8.ofNat x.toNat).toNat=x.toNat:=by simp;omega
 simp only [Function.comp,e]
 rw [Int.toNat_of_nonneg this.1]
theorem gapB_byte (k:Int):∀x∈gapB k,0≤x∧x<256:=by
 unfold gapB
 split
 · decide
 · split
   · decide
   · split<;>decide
theorem gapB_len (k:Int):(gapB k).length≤8:=by
 unfold gapB
 split
 · decide
 · split
   · decide
   · split<;>decide
theorem lexN_texts (f p:Nat)(l:List Int)(ts:List Tok)(h:lexN f p l=.ok ts):(ts.flatMap Tok.text).length≤l.length:=by
 induction f generalizing p l ts with
 | zero =>
  simp only [lexN,Except.ok.injEq] at h
  subst h
  simp [Tok.endAt]
 | succ f ih =>
  simp only [lexN] at h
  split at h
  · simp only [Except.ok.injEq] at h
    subst h
    simp [Tok.endAt]
  · rename_i c r hd
    split at h
    · simp at h
    · rename_i k len n hs
      have hl:=step_len hs
      have hcr:(c::r).length≤l.length:=by rw [← hd,List.length_drop];omega
      cases hu:lexN f (p+blk false l+len) ((c::r).drop len) with
      | error e=>rw [hu] at h;simp [pre] at h
      | ok us =>
       rw [hu] at h
       simp only [pre,Except.ok.injEq,List.singleton_append] at h
       subst h
       have:=ih _ _ us hu
       rw [List.length_drop] at this
       rw [List.flatMap_cons,List.length_append,List.length_take]
       omega
theorem againB_len (ts:List Tok)(f:Nat→Int):(again ts fun i=>gapB (f i)).length≤(ts.flatMap Tok.text).length+8*ts.length:=by
 induction ts generalizing f with
 | nil=>simp [again]
 | cons t r ih =>
  have:=ih (fun i=>f (i+1))
  have h2:=gapB_len (f 0)
  simp only [again,List.length_append,List.flatMap_cons,List.length_cons] at this ⊢
  omega
def NdS (x y:Nd):Prop:=x.kind=y.kind∧x.text=y.text∧x.n=y.n∧x.kids=y.kids
mutual
theorem flat_same {ρ:Nat→Nat→Prop}(o:Nat):∀(a a':Ast),AstR ρ a a'→AllR NdS (flat o a) (flat o a')
 | .mk k p t n ks,a',h=>by
  cases h with
  | @mk _ _ p' _ _ _ ks' h hl hk =>
   simp only [flat]
   exact .cons ⟨rfl,rfl,rfl,heads_same (o+1) ks ks' ⟨hl,hk⟩⟩ (flatL_same (o+1) ks ks' ⟨hl,hk⟩)
theorem flatL_same {ρ:Nat→Nat→Prop}(o:Nat):∀(ks ks':List Ast),KidsR ρ ks ks'→AllR NdS (flatL o ks) (flatL o ks')
 | [],ks',h=>by
  cases ks' with
  | nil=>simp only [flatL];exact .nil
  | cons _ _=>have:=h.1;simp at this
 | x::r,ks',h=>by
  cases ks' with
  | nil=>have:=h.1;simp at this
  | cons y r' =>
   obtain ⟨h1,h2⟩:=h.tail
   simp only [flatL]
   rw [← h1.size]
   exact .append (flat_same o x y h1) (flatL_same _ r r' h2)
theorem heads_same {ρ:Nat→Nat→Prop}(o:Nat):∀(ks ks':List Ast),KidsR ρ ks ks'→heads o ks=heads o ks'
 | [],ks',h=>by
  cases ks' with
  | nil=>rfl
  | cons _ _=>have:=h.1;simp at this
 | x::r,ks',h=>by
  cases ks' with
  | nil=>have:=h.1;simp at this
  | cons y r' =>
   obtain ⟨h1,h2⟩:=h.tail
   simp only [heads]
   rw [← h1.size,heads_same _ r r' h2]
end
theorem sameP_of {x y:List Nd}(h:AllR NdS x y):Tr.sameP x y=true:=by
 simp only [Tr.sameP,Bool.and_eq_true,decide_eq_true_eq,List.all_eq_true,List.mem_range]
 refine ⟨h.1,fun i hi=>?_⟩
 have hy:i<y.length:=by rw [← h.1];exact hi
 obtain ⟨h1,h2,h3,h4⟩:=h.2 i (x.getD i default) (y.getD i default) (by simp [List.getD,hi]) (by simp [List.getD,hy])
 simp only [Tr.sameNd,h1,h2,h3,h4,beq_self_eq_true,decide_true,Bool.and_true,Bool.true_and]
theorem tokL_of {ts us:List Tok}(h:sameAll ts us):TokL (fun _ _=>True) (ts.map ptOf) (us.map ptOf):=by
 induction ts generalizing us with
 | nil=>cases us with
  | nil=>exact .nil
  | cons u s=>exact h.elim
 | cons t r ih=>cases us with
  | nil=>exact h.elim
  | cons u s =>
   obtain ⟨h1,h2⟩:=h
   exact .cons ⟨h1.1,by simp only [ptOf,h1.2.1],h1.2.2,trivial⟩ (ih h2)
theorem parse_same {xs ys:List Int}{ts us:List Tok}(h1:lexS xs=.ok ts)(h2:lexS ys=.ok us)(h:sameAll ts us):(∃p q c,parseS xs=.error (p,c)∧parseS ys=.error (q,c))∨∃ns ms,parseS xs=.ok ns∧parseS ys=.ok ms∧AllR NdS ns ms:=by
 have hr:=rel_program (ρ:=fun _ _=>True) _ _ (tokL_of h)
 simp only [parseS,h1,h2]
 cases hp:programP (ts.map ptOf) with
 | err p c =>
  cases hq:programP (us.map ptOf) with
  | err q d =>
   rw [hp,hq] at hr
   obtain rfl:c=d:=hr
   exact Or.inl ⟨p,q,c,rfl,rfl⟩
  | ok b l=>rw [hp,hq] at hr;exact hr.elim
 | ok a l =>
  cases hq:programP (us.map ptOf) with
  | err q d=>rw [hp,hq] at hr;exact hr.elim
  | ok b l2 =>
   rw [hp,hq] at hr
   exact Or.inr ⟨_,_,rfl,rfl,flat_same 0 a b hr.1⟩
mutual
theorem flatL_small (o:Nat):∀(ks:List Ast),sizeL ks≤70000→∀nd∈flatL o ks,nd.kids.length≤70000
 | [],_,nd,hnd=>by simp [flatL] at hnd
 | x::r,hs,nd,hnd=>by
  simp only [flatL,List.mem_append] at hnd
  simp only [sizeL] at hs
  rcases hnd with hnd|hnd
  · exact flat_kidsFew o x (by omega) nd hnd
  · exact flatL_small _ r (by omega) nd hnd
theorem flat_kidsFew (o:Nat):∀(a:Ast),a.size≤70000→∀nd∈flat o a,nd.kids.length≤70000
 | .mk k p t n ks,hs,nd,hnd=>by
  simp only [flat,List.mem_cons] at hnd
  simp only [Ast.size] at hs
  rcases hnd with rfl|hnd
  · simp only [heads_length]
    have:=length_le_sizeL ks
    omega
  · exact flatL_small (o+1) ks (by omega) nd hnd
end
theorem small_of {a:Ast}(h:a.size≤70000):Tr.Small (flat 0 a):=⟨by rw [flat_length];exact h,flat_kidsFew 0 a h⟩
theorem program_size {l l':List PT}{a:Ast}(h:programP l=.ok a l'):a.size≤l.length+1:=by
 obtain ⟨t,r,ks,hl,rfl,hm⟩:=program_of h
 have h2:sizeL ks+l'.length≤0+l.length:=Sz.many (cr:=sizeL) sz_prog [] _ _ _ hm
 simp only [nodeA,Ast.size]
 omega
theorem parse_small {xs:List Int}{ns:List Nd}(hp:parseS xs=.ok ns)(hl:xs.length≤60000):Tr.Small ns:=by
 cases hx:lexS xs with
 | error e=>simp [parseS,hx] at hp
 | ok ts =>
  simp only [parseS,hx] at hp
  cases hq:programP (ts.map ptOf) with
  | err p c=>rw [hq] at hp;simp at hp
  | ok a l =>
   rw [hq] at hp
   simp only [Except.ok.injEq] at hp
   subst hp
   have h1:=program_size hq
   have h2:=lexN_len _ _ _ _ hx
   rw [List.length_map] at h1
   exact small_of (by omega)
theorem tv_nil (W:World):Tr.TV W none 0 0 []:=⟨rfl,Nat.le_refl _,fun h=>absurd h (by omega)⟩
theorem boxed_on {W W':World}{B T:Nat}{u:Value}(h:Boxed W B T u)(hb:Below W.heap.size W W'):Boxed W' B T u:=(hb.block _ h.lt).trans h
theorem src_own {W:World}{base g n cap:Nat}{l:List Int}(ho:W.ownsRow base 5 1 (.slice (some ⟨g,0,none⟩) n cap) n (l.map (Value.int .u8)))(hl:l.length=n)(hb:∀x∈l,0≤x∧x<256):Src W (some ⟨g,0,none⟩) n cap l:=by
 refine ⟨hl,fun i=>?_,Or.inr ⟨g,0,rfl,?_,(ho.lt g rfl).2,fun i hi=>?_⟩⟩
 · by_cases hi:i<l.length
   · have:=hb (l[i]) (List.getElem_mem hi)
     simpa [List.getD,hi] using this
   · simp [List.getD,List.getElem?_eq_none (Nat.le_of_not_lt hi)]
 · rcases ho.2 with ⟨h,_⟩|⟨g',cap',cur,hv,_,_,hc,_⟩
   · simp at h
   · simp at hv
     omega
 · rw [Nat.zero_add,ho.cellAt i (by omega)]
   have hi':i<l.length:=by omega
   simp [List.getD,hi']
theorem own_two {W:World}{base:Nat}{v:Value}{cur t gp:List Int}{st sg:ByteArray}{m:Nat}(hm:m=sg.size)(hst:strOfNums t=st)(hsg:strOfNums gp=sg)(ht:∀x∈t,0≤x∧x<256)(hg:∀x∈gp,0≤x∧x<256)
 (ho:W.ownsRow base 5 1 v (cur.length+st.size+m) (cur.map (Value.int .u8)++(Lib.strCells st++Lib.strCells sg))):W.ownsRow base 5 1 v (cur++(t++gp)).length ((cur++(t++gp)).map (Value.int .u8)):=by
 subst hst hsg hm
 rw [cells_str t ht,cells_str gp hg,strOfNums_size,strOfNums_size] at ho
 rw [List.length_append,List.length_append,List.map_append,List.map_append,← Nat.add_assoc]
 exact ho
theorem parseBlanks_big (w:World)(p:Option Addr)(len c:Nat)(v:Value)(hg:ET w)(hb:1000<len) :
 Calls Tryz.prog 18 #[.slice p len c,v] w fun e w'=>e=.returned (.bool true)∧Below w.heap.size w w':=by
 have WK:=lh (works_at w hg)
 clear hg
 go_enter Tryz.func18,Tryz.ntmps18
 go_wp2_with fail
 (with_reducible refine WK.out.mono ?_)
 rintro e w1 ⟨rfl,hb1⟩
 go_wp2
 go_ret
 exact ⟨rfl,hb1⟩
theorem parseBlanks_err (w:World)(p:Option Addr)(len c:Nat)(v:Value)(xs:List Int)(hs:Src w p len c xs)(hg:ET w)(hb:len≤1000)(i:Nat)(er:Int)(hx:lexS xs=.error (i,er)) :
 Calls Tryz.prog 18 #[.slice p len c,v] w fun e w'=>e=.returned (.bool true)∧Below w.heap.size w w':=by
 have LX:=lh (lex_no hs (by omega) hx)
 have HG:=lh hg
 clear hg hs hx
 go_enter Tryz.func18,Tryz.ntmps18
 go_wp2_with fail
 (with_reducible refine LX.out.mono ?_)
 rintro e w1 ⟨b,l,cc,rfl,_,hb1⟩
 have B1:=lh hb1
 have WK:=lh (works_at w1 (HG.out.below hb1))
 clear hb1 LX
 go_wp2_with fail
 (with_reducible refine WK.out.mono ?_)
 rintro e w2 ⟨rfl,hb2⟩
 have B2:=lh (B1.out.trans (hb2.mono B1.out.size))
 clear hb2 WK
 go_wp2
 go_ret
 exact ⟨rfl,B2.out⟩
theorem parseBlanks_ok (w:World)(p:Option Addr)(len c:Nat)(xs:List Int)(p2:Option Addr)(len2 c2:Nat)(ks:List Int)(hs:Src w p len c xs)(hs2:Src w p2 len2 c2 ks)(hg:ET w)(hb:len≤1000)(ts:List Tok)(hx:lexS xs=.ok ts) :
 Calls Tryz.prog 18 #[.slice p len c,.slice p2 len2 c2] w fun e w'=>e=.returned (.bool true)∧Below w.heap.size w w':=by
 have LX:=lh (lex_ok hs (by omega) hx)
 have HS:=lh hs
 have HX:=lh hx
 have HG:=lh hg
 have HS2:=lh hs2
 have hl2:=lh hs2.1
 have hlen:=lh hs.1
 have hAL:=lh (againB_len ts (fun i=>ks.getD i 0))
 have hTX:=lh (lexN_texts _ _ _ ts hx)
 have HLn:=lh (lexN_len _ _ _ ts hx)
 have HBy:=lh (lexN_text _ _ _ (mem_byte hs.2.1) ts hx)
 have hch:=(chain_of xs xs.length 0 (by omega) (by omega) ts (by rw [← lexS_at];exact hx)).2
 have hpos:0<(again ts (fun i=>gapB (ks.getD i 0))).length:=by
  cases ts with
  | nil=>exact absurd rfl hch
  | cons t r =>
   obtain ⟨_,b,br,hbr,_⟩:=gapB_gap (ks.getD 0 0)
   simp only [again,hbr,List.length_append,List.length_cons]
   omega
 have hrel:=fun F hF=>relex xs ts 0 0 (fun i=>gapB (ks.getD i 0)) (fun i=>gapB_gap _) (by omega) (by rw [← lexS_at];exact hx) F hF
 obtain ⟨us,hus,hsame⟩:=hrel ((again ts (fun i=>gapB (ks.getD i 0))).length+1) (by omega)
 have HU:Hid (lexS (again ts (fun i=>gapB (ks.getD i 0)))=.ok us):=hus
 have HSm:=lh hsame
 have htot:(again ts (fun i=>gapB (ks.getD i 0))).length≤20000:=by have:=hAL.out;have:=hTX.out;have:=HLn.out;have:=hlen.out;omega
 obtain ⟨AG,hAG⟩:∃AG,again ts (fun i=>gapB (ks.getD i 0))=AG:=⟨_,rfl⟩
 rw [hAG] at hpos htot HU
 have HAG:=lh hAG
 have hnn:ts.length≤1001:=by have:=HLn.out;have:=hlen.out;omega
 obtain ⟨n,hn⟩:∃n,ts.length=n:=⟨_,rfl⟩
 rw [hn] at hnn
 have HN:=lh hn
 rw [hn] at LX
 obtain ⟨i0,hi,hz0,hz1,hz2⟩:=info_parts infoB
 have I0:=lh hi
 have I1:=lh hz0
 have I2:=lh hz1
 have I3:=lh hz2
 clear hg hs hs2 hx hch hrel hus hsame hAG hn hi hz0 hz1 hz2
 go_enter Tryz.func18,Tryz.ntmps18
 go_wp2_with fail
 (with_reducible refine LX.out.mono ?_)
 rintro e w1 ⟨g,cap,rfl,hT,hgw,hb1⟩
 have B1:=lh hb1
 have T1:=lh hT
 have hle:=hT.le
 rw [HN.out] at hle
 have hglt:=hT.lt
 clear hb1 LX hT hgw
 go_wp2_with fail
 go_loopw [7,8] (fun v iv wr=>∃(k:Nat) (cur:List Int),k≤n∧iv=.int .i64 k∧cur.length≤20000∧Hid (AG=cur++again (ts.drop k) (fun i=>gapB (ks.getD (i+k) 0)))∧Hid (∀x∈cur,0≤x∧x<256)∧Hid (wr.ownsRow w1.heap.size 5 1 v cur.length (cur.map (Value.int .u8)))∧Hid (Below w1.heap.size w1 wr)) (fun _ iv _=>n-(intOf iv).toNat)
 case atStart=>exact ⟨0,[],by omega,rfl,by simp,lh HAG.out.symm,lh (fun x hx=>by simp at hx),lh (World.ownsRow_nil _ _ _ _),lh (Below.refl _ _)⟩
 case round =>
  obtain ⟨k,cur,hk,rfl,hcl,HA,HC,HO,HB⟩:=hrel
  by_cases hlt:k<n
  · obtain ⟨t,ht⟩:∃t,ts[k]?=some t:=⟨ts[k]'(by have:=HN.out;omega),List.getElem?_eq_getElem _⟩
    have htb:=lh (HBy.out t (List.mem_of_getElem? ht))
    have k3:=(T1.out.on HB.out).cell (k*5+3) (.string (strOfNums t.text)) (by rw [tok_cell ts k 3 t ht (by omega)];rfl)
    have hA2:=HA.out
    rw [drop_cons ts k t ht] at hA2
    simp only [again] at hA2
    have hA3:AG=(cur++(t.text++gapB (ks.getD k 0)))++again (ts.drop (k+1)) (fun i=>gapB (ks.getD (i+(k+1)) 0)):=by
     rw [hA2,Nat.zero_add]
     simp only [List.append_assoc]
     congr 4
     funext i
     rw [Nat.add_assoc,Nat.add_comm 1 k]
    have hcl2:=congrArg List.length hA3
    simp only [List.length_append] at hcl2
    have HA3:=lh hA3
    obtain ⟨st,hst⟩:∃st,strOfNums t.text=st:=⟨_,rfl⟩
    have hsz:st.size=t.text.length:=by rw [← hst,strOfNums_size]
    rw [hst] at k3
    have HST:=lh hst
    have HSZ:=lh hsz
    have hb1:cur.length+st.size≤20000:=by omega
    have hb2:cur.length+t.text.length+(gapB (ks.getD k 0)).length≤20000:=by omega
    have HB2:=lh hb2
    clear hA2 hA3 hcl2 ht hst hsz hb2
    have ho:=HO.out
    have hbz:=HB.out.size
    go_wp2_with (at_builtin;refine Lib.wpList_append_own_string _ rfl (.tmp 32) (.tmp 37) 22 9 rfl w1.heap.size 5 i0 Tryz.underlying22 Tryz.underlying9 I0.out I1.out I2.out I3.out u7 cur.length (cur.map (Value.int .u8)) rfl ho st rfl ?c3 ?c4 ?c5 ?_)
    case c3=>unfold maxLen;omega
    case c4=>omega
    case c5=>omega
    intro v2 w2 hown2 hgrow2 _
    have hB2:Below w1.heap.size w1 w2:=HB.out.grown hgrow2 HB.out.size (fun k hk=>(ho.lt k hk).1)
    have HB22:=lh hB2
    have hO2:=lh hown2
    have hbz2:=hB2.size
    clear ho hgrow2 hown2 hB2 k3
    by_cases hk2:k<len2
    · have hsrc2:=HS2.out.below (B1.out.trans (HB22.out.mono B1.out.size))
      obtain ⟨_,hby,hor⟩:=hsrc2
      obtain ⟨b2,off2,rfl,hc2,_,hx2⟩:∃b off,p2=some ⟨b,off,none⟩∧len2≤c2∧b<w2.heap.size∧∀i,i<len2→w2.cell? ⟨b,off+i,none⟩=some (.int .u8 (ks.getD i 0)):=by
       rcases hor with ⟨h,_⟩|h
       · omega
       · exact h
      have hcell:=hx2 k hk2
      obtain ⟨kv,hkv⟩:∃kv,ks.getD k 0=kv:=⟨_,rfl⟩
      have hbk:=hby k
      rw [hkv] at hcell hbk
      have HKV:=lh hkv
      clear hor hx2 hby hkv
      have hq:kv % 4=0∨kv % 4=1∨kv % 4=2∨kv % 4=3:=by omega
      rcases hq with hq|hq|hq|hq
      · have HGQ0:Hid (gapB kv=[32]):=lh (by unfold gapB;rw [hq];rfl)
        have hsg:strOfNums (gapB (ks.getD k 0))=⟨#[32]⟩:=by rw [HKV.out,HGQ0.out];rfl
        have HSG:=lh hsg
        have hb3:cur.length+st.size+1≤20000:=by
         have:=HB2.out
         have h2:=congrArg ByteArray.size hsg
         rw [strOfNums_size] at h2
         have h3:(ByteArray.mk #[32]).size=1:=rfl
         have:=HSZ.out
         omega
        clear hsg
        go_wp2_with (at_builtin;refine Lib.wpList_append_own_string _ rfl (.tmp 47) (.tmp 52) 22 9 rfl w1.heap.size 5 i0 Tryz.underlying22 Tryz.underlying9 I0.out I1.out I2.out I3.out v2 (cur.length+st.size) (cur.map (Value.int .u8)++Lib.strCells st) rfl (hO2.out.alloc _) ⟨#[32]⟩ rfl ?ac3 ?ac4 ?ac5 ?_)
        case ac3=>show _+1≤maxLen;unfold maxLen;omega
        case ac4=>show _+1≤_;omega
        case ac5=>simp;omega
        intro v3 w3 hown3 hgrow3 _
        have HB3:=lh ((HB22.out.alloc HB22.out.size (.cells #[.string ⟨#[32]⟩,.string ⟨#[10]⟩,.string ⟨#[9]⟩,.string ⟨#[35,32,120,10]⟩] 9)).grown hgrow3 (by simp;omega) (fun k hk=>(hO2.out.lt k hk).1))
        have HO3:=lh (own_two (by rfl) HST.out HSG.out htb.out (gapB_byte _) hown3)
        clear hown3 hgrow3
        go_wp2
        go_roundw
        case rel=>exact ⟨k+1,cur++(t.text++gapB (ks.getD k 0)),by omega,by go_num,by have:=HB2.out;simp only [List.length_append];omega,HA3,lh (fun x hx=>by
         rcases List.mem_append.1 hx with h|h
         · exact HC.out x h
         · rcases List.mem_append.1 h with h|h
           · exact htb.out x h
           · exact gapB_byte _ x h),HO3,HB3⟩
        case measure=>simp [intOf];omega
      · have HGQ1:Hid (gapB kv=[10]):=lh (by unfold gapB;rw [hq];rfl)
        have hsg:strOfNums (gapB (ks.getD k 0))=⟨#[10]⟩:=by rw [HKV.out,HGQ1.out];rfl
        have HSG:=lh hsg
        have hb3:cur.length+st.size+1≤20000:=by
         have:=HB2.out
         have h2:=congrArg ByteArray.size hsg
         rw [strOfNums_size] at h2
         have h3:(ByteArray.mk #[10]).size=1:=rfl
         have:=HSZ.out
         omega
        clear hsg
        go_wp2_with (at_builtin;refine Lib.wpList_append_own_string _ rfl (.tmp 47) (.tmp 52) 22 9 rfl w1.heap.size 5 i0 Tryz.underlying22 Tryz.underlying9 I0.out I1.out I2.out I3.out v2 (cur.length+st.size) (cur.map (Value.int .u8)++Lib.strCells st) rfl (hO2.out.alloc _) ⟨#[10]⟩ rfl ?bc3 ?bc4 ?bc5 ?_)
        case bc3=>show _+1≤maxLen;unfold maxLen;omega
        case bc4=>show _+1≤_;omega
        case bc5=>simp;omega
        intro v3 w3 hown3 hgrow3 _
        have HB3:=lh ((HB22.out.alloc HB22.out.size (.cells #[.string ⟨#[32]⟩,.string ⟨#[10]⟩,.string ⟨#[9]⟩,.string ⟨#[35,32,120,10]⟩] 9)).grown hgrow3 (by simp;omega) (fun k hk=>(hO2.out.lt k hk).1))
        have HO3:=lh (own_two (by rfl) HST.out HSG.out htb.out (gapB_byte _) hown3)
        clear hown3 hgrow3
        go_wp2
        go_roundw
        case rel=>exact ⟨k+1,cur++(t.text++gapB (ks.getD k 0)),by omega,by go_num,by have:=HB2.out;simp only [List.length_append];omega,HA3,lh (fun x hx=>by
         rcases List.mem_append.1 hx with h|h
         · exact HC.out x h
         · rcases List.mem_append.1 h with h|h
           · exact htb.out x h
           · exact gapB_byte _ x h),HO3,HB3⟩
        case measure=>simp [intOf];omega
      · have HGQ2:Hid (gapB kv=[9]):=lh (by unfold gapB;rw [hq];rfl)
        have hsg:strOfNums (gapB (ks.getD k 0))=⟨#[9]⟩:=by rw [HKV.out,HGQ2.out];rfl
        have HSG:=lh hsg
        have hb3:cur.length+st.size+1≤20000:=by
         have:=HB2.out
         have h2:=congrArg ByteArray.size hsg
         rw [strOfNums_size] at h2
         have h3:(ByteArray.mk #[9]).size=1:=rfl
         have:=HSZ.out
         omega
        clear hsg
        go_wp2_with (at_builtin;refine Lib.wpList_append_own_string _ rfl (.tmp 47) (.tmp 52) 22 9 rfl w1.heap.size 5 i0 Tryz.underlying22 Tryz.underlying9 I0.out I1.out I2.out I3.out v2 (cur.length+st.size) (cur.map (Value.int .u8)++Lib.strCells st) rfl (hO2.out.alloc _) ⟨#[9]⟩ rfl ?cc3 ?cc4 ?cc5 ?_)
        case cc3=>show _+1≤maxLen;unfold maxLen;omega
        case cc4=>show _+1≤_;omega
        case cc5=>simp;omega
        intro v3 w3 hown3 hgrow3 _
        have HB3:=lh ((HB22.out.alloc HB22.out.size (.cells #[.string ⟨#[32]⟩,.string ⟨#[10]⟩,.string ⟨#[9]⟩,.string ⟨#[35,32,120,10]⟩] 9)).grown hgrow3 (by simp;omega) (fun k hk=>(hO2.out.lt k hk).1))
        have HO3:=lh (own_two (by rfl) HST.out HSG.out htb.out (gapB_byte _) hown3)
        clear hown3 hgrow3
        go_wp2
        go_roundw
        case rel=>exact ⟨k+1,cur++(t.text++gapB (ks.getD k 0)),by omega,by go_num,by have:=HB2.out;simp only [List.length_append];omega,HA3,lh (fun x hx=>by
         rcases List.mem_append.1 hx with h|h
         · exact HC.out x h
         · rcases List.mem_append.1 h with h|h
           · exact htb.out x h
           · exact gapB_byte _ x h),HO3,HB3⟩
        case measure=>simp [intOf];omega
      · have HGQ3:Hid (gapB kv=[35,32,120,10]):=lh (by unfold gapB;rw [hq];rfl)
        have hsg:strOfNums (gapB (ks.getD k 0))=⟨#[35,32,120,10]⟩:=by rw [HKV.out,HGQ3.out];rfl
        have HSG:=lh hsg
        have hb3:cur.length+st.size+4≤20000:=by
         have:=HB2.out
         have h2:=congrArg ByteArray.size hsg
         rw [strOfNums_size] at h2
         have h3:(ByteArray.mk #[35,32,120,10]).size=4:=rfl
         have:=HSZ.out
         omega
        clear hsg
        go_wp2_with (at_builtin;refine Lib.wpList_append_own_string _ rfl (.tmp 47) (.tmp 52) 22 9 rfl w1.heap.size 5 i0 Tryz.underlying22 Tryz.underlying9 I0.out I1.out I2.out I3.out v2 (cur.length+st.size) (cur.map (Value.int .u8)++Lib.strCells st) rfl (hO2.out.alloc _) ⟨#[35,32,120,10]⟩ rfl ?dc3 ?dc4 ?dc5 ?_)
        case dc3=>show _+4≤maxLen;unfold maxLen;omega
        case dc4=>show _+4≤_;omega
        case dc5=>simp;omega
        intro v3 w3 hown3 hgrow3 _
        have HB3:=lh ((HB22.out.alloc HB22.out.size (.cells #[.string ⟨#[32]⟩,.string ⟨#[10]⟩,.string ⟨#[9]⟩,.string ⟨#[35,32,120,10]⟩] 9)).grown hgrow3 (by simp;omega) (fun k hk=>(hO2.out.lt k hk).1))
        have HO3:=lh (own_two (by rfl) HST.out HSG.out htb.out (gapB_byte _) hown3)
        clear hown3 hgrow3
        go_wp2
        go_roundw
        case rel=>exact ⟨k+1,cur++(t.text++gapB (ks.getD k 0)),by omega,by go_num,by have:=HB2.out;simp only [List.length_append];omega,HA3,lh (fun x hx=>by
         rcases List.mem_append.1 hx with h|h
         · exact HC.out x h
         · rcases List.mem_append.1 h with h|h
           · exact htb.out x h
           · exact gapB_byte _ x h),HO3,HB3⟩
        case measure=>simp [intOf];omega
    · have hk0:gapB (ks.getD k 0)=[32]:=by
       have e:ks.getD k 0=0:=by simp [List.getD,List.getElem?_eq_none (show ks.length≤k by have:=hl2.out;omega)]
       rw [e]
       rfl
      have HK0:=lh hk0
      clear hk0
      have hsg:strOfNums (gapB (ks.getD k 0))=⟨#[32]⟩:=by rw [HK0.out];rfl
      have HSG:=lh hsg
      have hb3:cur.length+st.size+1≤20000:=by
       have:=HB2.out
       have h2:=congrArg ByteArray.size hsg
       rw [strOfNums_size] at h2
       have h3:(ByteArray.mk #[32]).size=1:=rfl
       have:=HSZ.out
       omega
      clear hsg
      go_wp2_with (at_builtin;refine Lib.wpList_append_own_string _ rfl (.tmp 47) (.tmp 52) 22 9 rfl w1.heap.size 5 i0 Tryz.underlying22 Tryz.underlying9 I0.out I1.out I2.out I3.out v2 (cur.length+st.size) (cur.map (Value.int .u8)++Lib.strCells st) rfl (hO2.out.alloc _) ⟨#[32]⟩ rfl ?zc3 ?zc4 ?zc5 ?_)
      case zc3=>show _+1≤maxLen;unfold maxLen;omega
      case zc4=>show _+1≤_;omega
      case zc5=>simp;omega
      intro v3 w3 hown3 hgrow3 _
      have HB3:=lh ((HB22.out.alloc HB22.out.size (.cells #[.string ⟨#[32]⟩,.string ⟨#[10]⟩,.string ⟨#[9]⟩,.string ⟨#[35,32,120,10]⟩] 9)).grown hgrow3 (by simp;omega) (fun k hk=>(hO2.out.lt k hk).1))
      have HO3:=lh (own_two (by rfl) HST.out HSG.out htb.out (gapB_byte _) hown3)
      clear hown3 hgrow3
      go_wp2
      go_roundw
      case rel=>exact ⟨k+1,cur++(t.text++gapB (ks.getD k 0)),by omega,by go_num,by have:=HB2.out;simp only [List.length_append];omega,HA3,lh (fun x hx=>by
       rcases List.mem_append.1 hx with h|h
       · exact HC.out x h
       · rcases List.mem_append.1 h with h|h
         · exact htb.out x h
         · exact gapB_byte _ x h),HO3,HB3⟩
      case measure=>simp [intOf];omega
  · have hkn:k=n:=by omega
    have hcur:AG=cur:=by
     have:=HA.out
     rw [List.drop_eq_nil_of_le (by have:=HN.out;omega)] at this
     simpa [again] using this
    have HCU:=lh hcur
    have hpc:0<cur.length:=by rw [← hcur];exact hpos
    have ho:=HO.out
    obtain ⟨g2,cap2,rfl,_,hg2⟩:=ho.form hpc
    have hsrc:=src_own ho rfl HC.out
    have HLL:Hid (cur.length≤20000):=lh hcl
    have HS3:=lh hsrc
    have BW:=lh (B1.out.trans (HB.out.mono B1.out.size))
    have HS0:=lh (HS.out.below BW.out)
    have HG0:=lh (HG.out.below BW.out)
    have HPS:=lh (parse_same (ys:=cur) HX.out (by rw [← HCU.out];exact HU.out) HSm.out)
    have PA:=lh (parse_at wr p len c xs HS0.out (by omega))
    have hxl:Hid (xs.length≤60000):=lh (by have:=hlen.out;omega)
    clear hkn hcur ho hsrc
    go_wp2_with fail
    (with_reducible refine PA.out.mono ?_)
    rintro e w5 ⟨hb5,hm5⟩
    clear PA
    rcases HPS.out with ⟨p1,q1,c1,e1,e2⟩|⟨ns,ms,e1,e2,hss⟩
    · rw [e1] at hm5
      obtain ⟨C1,l1,cc1,rfl,hE⟩:=hm5
      have HSS:=lh e2
      have X1:=lh (hE.on (one_below w5 (.cells #[.slice none 0 0] 39)))
      have D1:=lh (Boxed.new w5 39 (.slice none 0 0))
      have HBB:=lh (hb5.trans ((one_below w5 (.cells #[.slice none 0 0] 39)).mono hb5.size))
      have HG0:=lh (HG0.out.below HBB.out)
      have BW:=lh (BW.out.trans (HBB.out.mono BW.out.size))
      have HS3:=lh (HS3.out.below HBB.out)
      clear HBB
      have PA:=lh (parse_at _ _ cur.length cap2 cur HS3.out (by have:=HLL.out;omega))
      clear hb5 hE e1 e2
      go_wp2_with fail
      (with_reducible refine PA.out.mono ?_)
      rintro e w6 ⟨hb6,hm6⟩
      clear PA
      rw [HSS.out] at hm6
      obtain ⟨C2,l2,cc2,rfl,hE⟩:=hm6
      have X2:=lh (hE.on (one_below w6 (.cells #[.slice none 0 0] 39)))
      have D2:=lh (Boxed.new w6 39 (.slice none 0 0))
      have HBB:=lh (hb6.trans ((one_below w6 (.cells #[.slice none 0 0] 39)).mono hb6.size))
      have HG0:=lh (HG0.out.below HBB.out)
      have BW:=lh (BW.out.trans (HBB.out.mono BW.out.size))
      have HS3:=lh (HS3.out.below HBB.out)
      have X1:=lh (X1.out.on HBB.out)
      have D1:=lh (boxed_on D1.out HBB.out)
      clear HBB
      clear hb6 hE
      have CE:=lh (code_err HG0.out X1.out)
      go_wp2_with fail
      (with_reducible refine CE.out.mono ?_)
      rintro e w7 ⟨rfl,hb⟩
      clear CE
      have HBB:=lh (hb)
      have HG0:=lh (HG0.out.below HBB.out)
      have BW:=lh (BW.out.trans (HBB.out.mono BW.out.size))
      have HS3:=lh (HS3.out.below HBB.out)
      have X1:=lh (X1.out.on HBB.out)
      have D1:=lh (boxed_on D1.out HBB.out)
      have X2:=lh (X2.out.on HBB.out)
      have D2:=lh (boxed_on D2.out HBB.out)
      clear HBB
      clear hb
      have CE:=lh (code_err HG0.out X2.out)
      go_wp2_with fail
      (with_reducible refine CE.out.mono ?_)
      rintro e w8 ⟨rfl,hb⟩
      clear CE
      have HBB:=lh (hb)
      have HG0:=lh (HG0.out.below HBB.out)
      have BW:=lh (BW.out.trans (HBB.out.mono BW.out.size))
      have HS3:=lh (HS3.out.below HBB.out)
      have X1:=lh (X1.out.on HBB.out)
      have D1:=lh (boxed_on D1.out HBB.out)
      have X2:=lh (X2.out.on HBB.out)
      have D2:=lh (boxed_on D2.out HBB.out)
      clear HBB
      clear hb
      have k1:=D1.out.cell
      have k2:=D2.out.cell
      have SM:=lh (Tr.same_at w8 none none 0 0 0 0 [] [] (tv_nil w8) (tv_nil w8) ⟨Nat.zero_le _,fun nd h=>by simp at h⟩)
      have hsm:Tr.sameP [] []=true:=rfl
      rw [hsm] at SM
      go_wp2_with fail
      (with_reducible refine SM.out.mono ?_)
      rintro e w9 ⟨rfl,hb⟩
      clear SM k1 k2
      have HBB:=lh (hb)
      have HG0:=lh (HG0.out.below HBB.out)
      have BW:=lh (BW.out.trans (HBB.out.mono BW.out.size))
      have HS3:=lh (HS3.out.below HBB.out)
      have X1:=lh (X1.out.on HBB.out)
      have D1:=lh (boxed_on D1.out HBB.out)
      have X2:=lh (X2.out.on HBB.out)
      have D2:=lh (boxed_on D2.out HBB.out)
      clear HBB
      clear hb
      have WK:=lh (works_at w9 HG0.out)
      go_wp2_with fail
      (with_reducible refine WK.out.mono ?_)
      rintro e w10 ⟨rfl,hb⟩
      clear WK
      have HBB:=lh (hb)
      have HG0:=lh (HG0.out.below HBB.out)
      have BW:=lh (BW.out.trans (HBB.out.mono BW.out.size))
      have HS3:=lh (HS3.out.below HBB.out)
      have X1:=lh (X1.out.on HBB.out)
      have D1:=lh (boxed_on D1.out HBB.out)
      have X2:=lh (X2.out.on HBB.out)
      have D2:=lh (boxed_on D2.out HBB.out)
      clear HBB
      clear hb
      go_wp2
      go_ret
      exact ⟨rfl,BW.out⟩
    · rw [e1] at hm5
      obtain ⟨tp,tl,tc,rfl,hE⟩:=hm5
      have HSS:=lh e2
      have HE1:=lh e1
      have HQ:=lh hss
      have X1:=lh (hE.on (one_below w5 (.cells #[.slice tp tl tc] 39)))
      have D1:=lh (Boxed.new w5 39 (.slice tp tl tc))
      have HBB:=lh (hb5.trans ((one_below w5 (.cells #[.slice tp tl tc] 39)).mono hb5.size))
      have HG0:=lh (HG0.out.below HBB.out)
      have BW:=lh (BW.out.trans (HBB.out.mono BW.out.size))
      have HS3:=lh (HS3.out.below HBB.out)
      clear HBB
      have PA:=lh (parse_at _ _ cur.length cap2 cur HS3.out (by have:=HLL.out;omega))
      clear hb5 hE e1 e2 hss
      go_wp2_with fail
      (with_reducible refine PA.out.mono ?_)
      rintro e w6 ⟨hb6,hm6⟩
      clear PA
      rw [HSS.out] at hm6
      obtain ⟨tp2,tl2,tc2,rfl,hE⟩:=hm6
      have X2:=lh (hE.on (one_below w6 (.cells #[.slice tp2 tl2 tc2] 39)))
      have D2:=lh (Boxed.new w6 39 (.slice tp2 tl2 tc2))
      have HBB:=lh (hb6.trans ((one_below w6 (.cells #[.slice tp2 tl2 tc2] 39)).mono hb6.size))
      have HG0:=lh (HG0.out.below HBB.out)
      have BW:=lh (BW.out.trans (HBB.out.mono BW.out.size))
      have HS3:=lh (HS3.out.below HBB.out)
      have X1:=lh (X1.out.on HBB.out)
      have D1:=lh (boxed_on D1.out HBB.out)
      clear HBB
      clear hb6 hE
      have CE:=lh (code_none (w6.alloc (.cells #[.slice tp2 tl2 tc2] 39)))
      go_wp2_with fail
      (with_reducible refine CE.out.mono ?_)
      rintro e w7 ⟨rfl,hb⟩
      clear CE
      have HBB:=lh (hb)
      have HG0:=lh (HG0.out.below HBB.out)
      have BW:=lh (BW.out.trans (HBB.out.mono BW.out.size))
      have HS3:=lh (HS3.out.below HBB.out)
      have X1:=lh (X1.out.on HBB.out)
      have D1:=lh (boxed_on D1.out HBB.out)
      have X2:=lh (X2.out.on HBB.out)
      have D2:=lh (boxed_on D2.out HBB.out)
      clear HBB
      clear hb
      have CE:=lh (code_none w7)
      go_wp2_with fail
      (with_reducible refine CE.out.mono ?_)
      rintro e w8 ⟨rfl,hb⟩
      clear CE
      have HBB:=lh (hb)
      have HG0:=lh (HG0.out.below HBB.out)
      have BW:=lh (BW.out.trans (HBB.out.mono BW.out.size))
      have HS3:=lh (HS3.out.below HBB.out)
      have X1:=lh (X1.out.on HBB.out)
      have D1:=lh (boxed_on D1.out HBB.out)
      have X2:=lh (X2.out.on HBB.out)
      have D2:=lh (boxed_on D2.out HBB.out)
      clear HBB
      clear hb
      have k1:=D1.out.cell
      have k2:=D2.out.cell
      have SM:=lh (Tr.same_at w8 tp tp2 tl tc tl2 tc2 ns ms X1.out X2.out (parse_small HE1.out hxl.out))
      have hsm:=sameP_of HQ.out
      rw [hsm] at SM
      go_wp2_with fail
      (with_reducible refine SM.out.mono ?_)
      rintro e w9 ⟨rfl,hb⟩
      clear SM k1 k2
      have HBB:=lh (hb)
      have HG0:=lh (HG0.out.below HBB.out)
      have BW:=lh (BW.out.trans (HBB.out.mono BW.out.size))
      have HS3:=lh (HS3.out.below HBB.out)
      have X1:=lh (X1.out.on HBB.out)
      have D1:=lh (boxed_on D1.out HBB.out)
      have X2:=lh (X2.out.on HBB.out)
      have D2:=lh (boxed_on D2.out HBB.out)
      clear HBB
      clear hb
      have WK:=lh (works_at w9 HG0.out)
      go_wp2_with fail
      (with_reducible refine WK.out.mono ?_)
      rintro e w10 ⟨rfl,hb⟩
      clear WK
      have HBB:=lh (hb)
      have HG0:=lh (HG0.out.below HBB.out)
      have BW:=lh (BW.out.trans (HBB.out.mono BW.out.size))
      have HS3:=lh (HS3.out.below HBB.out)
      have X1:=lh (X1.out.on HBB.out)
      have D1:=lh (boxed_on D1.out HBB.out)
      have X2:=lh (X2.out.on HBB.out)
      have D2:=lh (boxed_on D2.out HBB.out)
      clear HBB
      clear hb
      go_wp2
      go_ret
      exact ⟨rfl,BW.out⟩
theorem parseBlanks (w:World)(p:Option Addr)(len c:Nat)(xs:List Int)(p2:Option Addr)(len2 c2:Nat)(ks:List Int)(hs:Src w p len c xs)(hs2:Src w p2 len2 c2 ks)(hg:ET w) :
 Calls Tryz.prog 18 #[.slice p len c,.slice p2 len2 c2] w fun e w'=>e=.returned (.bool true)∧Below w.heap.size w w':=by
 by_cases hb:len≤1000
 · cases hx:lexS xs with
   | error e=>exact parseBlanks_err w p len c _ xs hs hg hb e.1 e.2 hx
   | ok ts=>exact parseBlanks_ok w p len c xs p2 len2 c2 ks hs hs2 hg hb ts hx
 · exact parseBlanks_big w p len c _ hg (by omega)
end
end Go.Proofs.YthdioipfdbbmmaaGreatDoor
