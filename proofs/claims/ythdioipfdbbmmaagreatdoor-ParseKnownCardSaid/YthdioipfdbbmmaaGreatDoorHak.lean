/- Contracts. -/
import Derived.Test.YthdioipfdbbmmaaGreatDoorHab
import Derived.Test.YthdioipfdbbmmaaGreatDoorHac
import Derived.Test.YthdioipfdbbmmaaGreatDoorHad
import Derived.Test.YthdioipfdbbmmaaGreatDoorHae
import Derived.Test.YthdioipfdbbmmaaGreatDoorHah
import Derived.Test.YthdioipfdbbmmaaGreatDoorHai
import Derived.Test.YthdioipfdbbmmaaGreatDoorHaj
import Derived.Deep.AppendLies
import Derived.Deep.Onto
import Derived.Laws.EntriesVeiled
import Derived.Lib.SlBytesConst
import Derived.Lib.BufferRead
import Derived.Laws.IdiomStrings
set_option linter.all false
set_option maxRecDepth 1000000
set_option maxHeartbeats 16000000
namespace Go.Proofs.YthdioipfdbbmmaaGreatDoor
section
open Go.RowKit
abbrev ET (w:World):Prop:=w.cell? ⟨0,0,none⟩=some (.iface 229 (.agg #[.pointer (some ⟨5, 25,none⟩)]))
theorem ET.below {w W:World}(h:ET w)(hb:Below w.heap.size w W):ET W:=by
 show W.cell? ⟨0,0,none⟩=_
 rw [hb.cell (p:=⟨0,0,none⟩) (cell_lt h)];exact h
structure ErrAt (W:World)(B:Nat)(x l c n:Int):Prop where
 lt:B<W.heap.size
 c0:W.cell? ⟨B,0,none⟩=some (.int .i64 x)
 c1:W.cell? ⟨B,1,none⟩=some (.int .i64 l)
 c2:W.cell? ⟨B,2,none⟩=some (.int .i64 c)
 c3:W.cell? ⟨B,3,none⟩=some (.int .i64 n)
theorem ErrAt.on {W W':World}{B:Nat}{x l c n:Int}(h:ErrAt W B x l c n)(hb:Below W.heap.size W W'):ErrAt W' B x l c n where
 lt:=Nat.lt_of_lt_of_le h.lt hb.size
 c0:=by rw [hb.cell (p:=⟨B,0,none⟩) h.lt];exact h.c0
 c1:=by rw [hb.cell (p:=⟨B,1,none⟩) h.lt];exact h.c1
 c2:=by rw [hb.cell (p:=⟨B,2,none⟩) h.lt];exact h.c2
 c3:=by rw [hb.cell (p:=⟨B,3,none⟩) h.lt];exact h.c3
theorem NewW.at_ {w W:World}{x l c n:Int}(h:NewW w W x l c n):ErrAt W (w.heap.size+1) x l c n:=⟨h.size,h.c0,h.c1,h.c2,h.c3⟩
theorem place_err {W:World}{B:Nat}{x l c n:Int}(hg:ET W)(h:ErrAt W B x l c n) :
 Calls Tryz.prog 26 #[.iface 109 (.pointer (some ⟨B,0,none⟩))] W fun e w2=>e=.returned (.tuple #[.int .i64 x,.int .i64 l,.int .i64 c,.bool true])∧Below W.heap.size W w2 :=
 place_in B 109 _ x l c 0 W hg .here h.c0 h.c1 h.c2
theorem code_err {W:World}{B:Nat}{x l c n:Int}(hg:ET W)(h:ErrAt W B x l c n) :
 Calls Tryz.prog 25 #[.iface 109 (.pointer (some ⟨B,0,none⟩))] W fun e w2=>e=.returned (.int .i64 n)∧Below W.heap.size W w2 :=
 code_in 109 _ n 1 W hg (.err B n 0 rfl h.c3 .here)
theorem code_none (W:World):Calls Tryz.prog 25 #[.nilIface] W fun e w2=>e=.returned (.int .i64 0)∧Below W.heap.size W w2 :=
 (code_nil W).mono fun _ _ ⟨h1,h2⟩=>⟨h1,by rw [h2];exact (Below.refl _ _).alloc (Nat.le_refl _) _⟩
end
section
open Go.RowKit
def tokC (t:Tok):List Value:=[.int .u8 t.kind,.int .i64 t.at',.int .i64 t.stop,.string (strOfNums t.text),.int .i64 t.n]
def cellsT (ts:List Tok):List Value:=ts.flatMap tokC
theorem cellsT_snoc (ts:List Tok)(t:Tok):cellsT (ts++[t])=cellsT ts++tokC t:=by simp [cellsT]
theorem bl_idem (xs:List Int)(i:Nat):bl xs (bl xs i)=bl xs i:=by
 have:=blk_done false (xs.drop i)
 rw [List.drop_drop] at this
 unfold bl
 omega
theorem step_err {l:List Int}{er:Int}(h:step l=.err er)(hl:0<l.length):er=30∨er=31:=by
 cases l with
 | nil=>simp at hl
 | cons c r =>
  simp only [step] at h
  split at h
  · simp at h
  · split at h
    · split at h<;>simp at h
      exact Or.inr h.symm
    · split at h<;>simp at h
      exact Or.inl h.symm
theorem info29 : (Tryz.prog.info? 29).map (fun i=>(i.zero,i.size,i.bytes))=some (some (.agg #[.int .u8 0,.int .i64 0,.int .i64 0,.string ⟨#[]⟩,.int .i64 0]),5,48):=by kernel_rfl
def LexPost (xs:List Int)(w:World)(e:Ending)(w':World):Prop :=
 (match lexS xs with
  | .ok ts=>∃g cap,e=.returned (.tuple #[.slice (some ⟨g,0,none⟩) ts.length cap,.nilIface])∧w'.ownsRow w.heap.size 29 5 (.slice (some ⟨g,0,none⟩) ts.length cap) ts.length (cellsT ts)
  | .error (i,er)=>∃B l c,e=.returned (.tuple #[.slice none 0 0,.iface 109 (.pointer (some ⟨B,0,none⟩))])∧w.heap.size≤B∧ErrAt w' B i l c er)∧Below w.heap.size w w'
theorem lexPost_err {xs:List Int}{i:Nat}{er l c:Int}{w W:World}{B:Nat}(h:lexS xs=.error (i,er))(hB:w.heap.size≤B)(hE:ErrAt W B i l c er)(hb:Below w.heap.size w W) :
 LexPost xs w (.returned (.tuple #[.slice none 0 0,.iface 109 (.pointer (some ⟨B,0,none⟩))])) W:=by
 refine ⟨?_,hb⟩
 rw [h]
 exact ⟨B,l,c,rfl,hB,hE⟩
theorem lexPost_ok {xs:List Int}{ts:List Tok}{w W:World}{g n cap:Nat}{cs:List Value}(h:lexS xs=.ok ts)(hn:n=ts.length)(hc:cs=cellsT ts)(ho:W.ownsRow w.heap.size 29 5 (.slice (some ⟨g,0,none⟩) n cap) n cs)(hb:Below w.heap.size w W) :
 LexPost xs w (.returned (.tuple #[.slice (some ⟨g,0,none⟩) n cap,.nilIface])) W:=by
 subst hn hc
 refine ⟨?_,hb⟩
 rw [h]
 exact ⟨g,cap,rfl,ho⟩
theorem sk_of {w W:World}{p:Option Addr}{len c:Nat}{xs:List Int}(hs:Src w p len c xs)(hk:KW w W (FK 6)):SK W p len c (w.heap.size+1) xs where
 len_eq:=hs.1
 byte:=hs.2.1
 addr:=fun hl=>by
  rcases hs.2.2 with ⟨h,_⟩|⟨b,off,e,hc,hb,hx⟩
  · omega
  · exact ⟨b,off,e,Nat.lt_of_lt_of_le hb hk.below.size,fun i hi=>by rw [hk.below.cell (p:=⟨b,off+i,none⟩) hb];exact hx i hi⟩
 cap:=by
  rcases hs.2.2 with ⟨h,h'⟩|⟨b,off,e,hc,hb,hx⟩<;>omega
 kinds:=fun k hk'=>by rw [hk.arr k hk',FK_kind k hk']
 kbl:=hk.size
theorem new_err {w W:World}{p:Option Addr}{len c k:Nat}{xs:List Int}{at' n:Int}(h0:n≠0)(hb:len≤70000)(hk:min (max at' 0) (len:Int)=(k:Int))(hs:Src w p len c xs)(hW:Below w.heap.size w W) :
 ∃B l cc,w.heap.size≤B∧Calls Tryz.prog 46 #[.slice p len c,.int .i64 at',.int .i64 n] W fun e w'=>e=.returned (.iface 109 (.pointer (some ⟨B,0,none⟩)))∧ErrAt w' B k l cc n∧Below W.heap.size W w' :=
 ⟨W.heap.size+1,_,_,by have:=hW.size;omega,(new_src p len c k xs at' n W h0 hb hk (hs.below hW)).mono fun _ _ ⟨h1,h2⟩=>⟨h1,h2.at_,h2.below⟩⟩
structure LexInv (w W1:World)(p:Option Addr)(len c:Nat)(v:Value)(ts:List Tok)(W:World):Prop where
 below:Below (W1.heap.size+1) (W1.alloc (.cells #[.slice p len c,.func (.func 87) #[] #[.pointer (some ⟨w.heap.size+1,0,none⟩)]] 90)) W
 own:W.ownsRow (W1.heap.size+1) 29 5 v ts.length (cellsT ts)
theorem LexInv.on {w W1 W W':World}{p:Option Addr}{len c:Nat}{v:Value}{ts:List Tok}(h:LexInv w W1 p len c v ts W)(hb:Below W.heap.size W W'):LexInv w W1 p len c v ts W' where
 below:=h.below.trans (hb.mono (by have:=h.below.size;simpa using this))
 own:=h.own.kept (row:=none) ⟨hb.os,hb.tape,hb.output,hb.size,fun k hk _=>hb.block k hk⟩ (by
  cases hv:v.ownBlock with
  | none=>exact Or.inl rfl
  | some k=>exact Or.inr (by simp))
theorem LexInv.push {w W1 W W' w5:World}{p:Option Addr}{len c g cap:Nat}{v:Value}{ts:List Tok}(h:LexInv w W1 p len c v ts W)(hW:Below W.heap.size W W')(hg:W'.grownBy w5 v.ownBlock)(t:Tok)(cs:List Value)(hc:cs=tokC t)
 (ho:w5.ownsRow (W1.heap.size+1) 29 5 (.slice (some ⟨g,0,none⟩) (ts.length+1) cap) (ts.length+1) (cellsT ts++cs)):LexInv w W1 p len c (.slice (some ⟨g,0,none⟩) (ts.length+1) cap) (ts++[t]) w5 where
 below:=(h.on hW).below.grown hg (by have:=h.below.size;have:=hW.size;simp at *;omega) (fun k hk=>(h.own.lt k hk).1)
 own:=by rw [cellsT_snoc,← hc,List.length_append];exact ho
theorem tok_one (k i j n:Int)(st:ByteArray):∀u∈([.int .u8 k,.int .i64 i,.int .i64 j,.string st,.int .i64 n]:List Value),u.oneCell'=true:=by
 intro u hu
 simp only [List.mem_cons,List.not_mem_nil,or_false] at hu
 rcases hu with rfl|rfl|rfl|rfl|rfl<;>rfl
theorem two_below (W:World)(o1 o2:Obj):Below W.heap.size W ((W.alloc o1).alloc o2):=((Below.refl _ _).alloc (Nat.le_refl _) _).alloc (by simp) _
theorem one_below (W:World)(o1:Obj):Below W.heap.size W (W.alloc o1):=(Below.refl _ _).alloc (Nat.le_refl _) _
theorem LexInv.all {w W1 W:World}{p:Option Addr}{len c:Nat}{v:Value}{ts:List Tok}(h:LexInv w W1 p len c v ts W)(hk:KW w W1 (FK 6)):Below w.heap.size w W :=
 (hk.below.alloc (by have:=hk.below.size;simpa using this) _).trans (h.below.mono (by have:=hk.below.size;omega))
theorem LexInv.b0 {w W1 W:World}{p:Option Addr}{len c:Nat}{v:Value}{ts:List Tok}(h:LexInv w W1 p len c v ts W):W.cell? ⟨W1.heap.size,0,none⟩=some (.slice p len c):=by
 rw [h.below.cell (p:=⟨W1.heap.size,0,none⟩) (by simp)];simp
theorem LexInv.b1 {w W1 W:World}{p:Option Addr}{len c:Nat}{v:Value}{ts:List Tok}(h:LexInv w W1 p len c v ts W):W.cell? ⟨W1.heap.size,1,none⟩=some (.func (.func 87) #[] #[.pointer (some ⟨w.heap.size+1,0,none⟩)]):=by
 rw [h.below.cell (p:=⟨W1.heap.size,1,none⟩) (by simp)];simp
theorem LexInv.sk {w W1 W:World}{p:Option Addr}{len c:Nat}{v:Value}{ts:List Tok}{xs:List Int}(h:LexInv w W1 p len c v ts W)(hs:SK W1 p len c (w.heap.size+1) xs):SK W p len c (w.heap.size+1) xs :=
 (hs.alloc _).on (by simp) h.below
theorem lex_at (w:World)(p:Option Addr)(len c:Nat)(xs:List Int)(h:Src w p len c xs)(hb:len≤65536) :
 Calls Tryz.prog 14 #[.slice p len c] w (LexPost xs w):=by
 have hlen:=lh h.1
 have HS:=lh h
 obtain ⟨i0,hi,hz0,hz1,hz2⟩:=info_parts info29
 have HK:=lh (byteKinds_run w)
 clear h
 have I0:=lh hi
 have I1:=lh hz0
 have I2:=lh hz1
 have I3:=lh hz2
 clear hi hz0 hz1 hz2
 go_enter Tryz.func14,Tryz.ntmps14
 go_wp2_with fail
 (with_reducible refine HK.out.mono ?_)
 rintro e W1 ⟨rfl,hk⟩
 have KK:=lh hk
 have hsk:=lh (sk_of HS.out hk)
 have hs1:=lh (hk.size)
 clear hk HK
 go_wp2_with fail
 have PB:Calls Tryz.prog 48 #[.agg #[.slice p len c,.func (.func 87) #[] #[.pointer (some ⟨w.heap.size+1,0,none⟩)]],.int .i64 0] (W1.alloc (.cells #[.slice p len c,.func (.func 87) #[] #[.pointer (some ⟨w.heap.size+1,0,none⟩)]] 90)) _:=pastBlanks_at (W1.alloc (.cells #[.slice p len c,.func (.func 87) #[] #[.pointer (some ⟨w.heap.size+1,0,none⟩)]] 90)) p len c (w.heap.size+1) 0 xs (hsk.out.alloc _) (by omega) (by omega)
 (with_reducible refine PB.mono ?_)
 rintro e W3 ⟨rfl,hb3⟩
 have HI:Hid (LexInv w W1 p len c (.slice none 0 0) [] W3):=lh ⟨by simpa using hb3,World.ownsRow_nil _ _ _ _⟩
 have hb0:=lh (bl_le xs 0 (by omega))
 clear hb3 PB
 go_wp2_with fail
 go_loopw [5,6] (fun v iv wr=>∃(i:Nat) (ts:List Tok),i≤len∧ts.length≤i∧iv=.int .i64 i∧Hid (bl xs i=i)∧Hid (lexS xs=pre ts (lexAt xs i))∧Hid (LexInv w W1 p len c v ts wr)) (fun _ iv _=>len-(intOf iv).toNat)
 case atStart=>exact ⟨bl xs 0,[],by have:=hb0.out;have:=hlen.out;omega,by simp,rfl,lh (bl_idem xs 0),lh (by rw [lexS_at,lexAt_bl xs 0 (by omega),pre_nil]),HI⟩
 case round =>
  obtain ⟨i,ts,hil,htl,rfl,HB,HL,HV⟩:=hrel
  have c0:=HV.out.b0
  have c1:=HV.out.b1
  have hskr:=lh (HV.out.sk hsk.out)
  have hall:=lh (HV.out.all KK.out)
  have hsz:=hall.out.size
  by_cases hlt:i<len
  · have TA:=tokenAt_at wr p len c (w.heap.size+1) i xs hskr.out (by omega) hlt
    have hix:i<xs.length:=by have:=hlen.out;omega
    cases hst:step (xs.drop i) with
    | err er =>
     have TA1:=TA.mono (R':=fun e w'=>e=.returned (.tuple #[tokV 0 0 0 ⟨#[]⟩ 0,.int .i64 er])∧Below wr.heap.size wr w') (fun e w' h=>⟨by
      have h1:=h.1
      rw [hst] at h1
      exact h1,h.2⟩)
     have her:er≠0:=by
      have:=step_err hst (by rw [List.length_drop];omega)
      omega
     have her':(er != 0)=true:=by simpa using her
     have HE:=lh (lexAt_err xs i er hix HB.out hst)
     clear TA hst hix
     go_wp2_with fail
     (with_reducible refine TA1.mono ?_)
     rintro e w4 ⟨rfl,hb4⟩
     have hV4:=lh (HV.out.on hb4)
     clear hb4 TA1
     go_wp2_with fail
     obtain ⟨B,l,cc,hB,NA⟩:=new_err (W:=w4.alloc (.cells #[.int .u8 0,.int .i64 0,.int .i64 0,.string ⟨#[]⟩,.int .i64 0] 29)) her (by omega) (show min (max (i:Int) 0) (len:Int)=(i:Int) by omega) HS.out ((hV4.out.all KK.out).alloc (by have:=(hV4.out.all KK.out).size;simpa using this) _)
     have HN:=lh NA
     clear NA
     (with_reducible refine HN.out.mono ?_)
     rintro e w5 ⟨rfl,hE,hb5⟩
     have HEr:=lh hE
     have HB5:=lh (((hV4.out.all KK.out).alloc (by have:=(hV4.out.all KK.out).size;simpa using this) (.cells #[.int .u8 0,.int .i64 0,.int .i64 0,.string ⟨#[]⟩,.int .i64 0] 29)).trans (hb5.mono (by have:=(hV4.out.all KK.out).size;simp;omega)))
     clear hE hb5 HN
     go_wp2
     go_ret2
     exact lexPost_err (by rw [HL.out,HE.out];rfl) hB HEr.out HB5.out
    | tok k l n =>
     have hsl:=step_len hst
     rw [List.length_drop] at hsl
     have HT:=lh (lexAt_tok xs i k l n hix HB.out hst)
     obtain ⟨j,hj⟩:∃j,i+l=j:=⟨_,rfl⟩
     obtain ⟨st,ht⟩:∃st,strOfNums ((xs.drop i).take l)=st:=⟨_,rfl⟩
     have TA1:=TA.mono (R':=fun e w'=>e=.returned (.tuple #[tokV k i j st n,.int .i64 0])∧Below wr.heap.size wr w') (fun e w' h=>⟨by
      have h1:=h.1
      rw [hst] at h1
      rw [h1,← ht,← hj],h.2⟩)
     have hij:i<j:=by omega
     have hjl:j≤len:=by have:=hlen.out;omega
     have HJ:=lh hj
     have HSt:=lh ht
     have hbj:=lh (bl_le xs j (by have:=hlen.out;omega))
     have hbb:=lh (lexAt_bl xs j (by have:=hlen.out;omega))
     clear TA hst hix hj ht hsl
     go_wp2_with fail
     (with_reducible refine TA1.mono ?_)
     rintro e w4 ⟨rfl,hb4⟩
     have hV4:=lh (HV.out.on hb4)
     have ho4:=hV4.out.own
     have hz4:=hV4.out.below.size
     simp only [World.size_alloc] at hz4
     have d0:=hV4.out.b0
     have d1:=hV4.out.b1
     clear hb4 TA1 HV c0 c1 hskr hall
     go_wp2_with (at_builtin;refine wpList_append_lies _ rfl (.tmp 35) (.tmp 37) 23 rfl (W1.heap.size+1) 29 i0 _ 5 48 Tryz.underlying23 I0.out I1.out I2.out I3.out rfl (by decide) u5 ts.length (cellsT ts) rfl ((ho4.alloc _).alloc _) ⟨w4.heap.size+1,0,none⟩ 1 1 [.int .u8 k,.int .i64 i,.int .i64 j,.string st,.int .i64 n] rfl rfl ?c1 ?c2 (by decide) ?c3 ?c4 ?c5 _ rfl ?_)
     case c1 =>
      refine World.news_of_block (cs:=#[.int .u8 k,.int .i64 i,.int .i64 j,.string st,.int .i64 n]) (t := 29) (fr:=(0,0)) ?_
      have:=heap_alloc_new (w4.alloc (.cells #[.int .u8 k,.int .i64 i,.int .i64 j,.string st,.int .i64 n] 29)) (.cells #[.int .u8 k,.int .i64 i,.int .i64 j,.string st,.int .i64 n] 29)
      simpa using this
     case c2=>exact tok_one _ _ _ _ _
     case c3=>unfold maxLen;omega
     case c4=>omega
     case c5=>simp;omega
     intro g cap w5 hown5 hgrow5 hat5 hlt5
     have hV5:=lh (hV4.out.push (two_below w4 _ _) hgrow5 ⟨k,i,j,(xs.drop i).take l,n⟩ _ (by rw [tokC,HSt.out]) hown5)
     have e2:w5.cell? ⟨w4.heap.size,2,none⟩=some (.int .i64 j):=by
      rw [hgrow5.cell_far ⟨w4.heap.size,2,none⟩ (by simp;omega) (fun e=>by have:=(ho4.lt _ e.symm).2;simp at this)]
      simp
     have x0:=hV5.out.b0
     have x1:=hV5.out.b1
     have PB:=pastBlanks_at w5 p len c (w.heap.size+1) j xs (hV5.out.sk hsk.out) (by omega) hjl
     clear hown5 hgrow5 hat5 hlt5 ho4 d0 d1
     go_wp2_with fail
     (with_reducible refine PB.mono ?_)
     rintro e w6 ⟨rfl,hb6⟩
     have hV6:=lh (hV5.out.on hb6)
     clear hb6 PB x0 x1 e2
     go_wp2_with fail
     go_roundw
     case rel=>exact ⟨bl xs j,ts++[⟨k,i,j,(xs.drop i).take l,n⟩],by have:=hbj.out;have:=hlen.out;omega,by simp;have:=hbj.out;omega,rfl,lh (bl_idem xs j),lh (by rw [HL.out,HT.out,HJ.out,pre_pre,← hbb.out]),hV6⟩
     case measure=>have:=hbj.out;have:=hlen.out;simp [intOf];omega
  · have hil2:i=len:=by omega
    have HE:=lh (lexAt_end xs i (by have:=hlen.out;omega))
    have ho4:=HV.out.own
    have hz4:=HV.out.below.size
    simp only [World.size_alloc] at hz4
    clear hskr hall hil2 c0 c1
    go_wp2_with (at_builtin;refine wpList_append_lies _ rfl (.tmp 43) (.tmp 47) 23 rfl (W1.heap.size+1) 29 i0 _ 5 48 Tryz.underlying23 I0.out I1.out I2.out I3.out rfl (by decide) u5 ts.length (cellsT ts) rfl (ho4.alloc _) ⟨wr.heap.size,0,none⟩ 1 1 [.int .u8 4,.int .i64 i,.int .i64 i,.string ⟨#[]⟩,.int .i64 0] rfl rfl ?d1 ?d2 (by decide) ?d3 ?d4 ?d5 _ rfl ?_)
    case d1 =>
     refine World.news_of_block (cs:=#[.int .u8 4,.int .i64 i,.int .i64 i,.string ⟨#[]⟩,.int .i64 0]) (t := 29) (fr:=(0,0)) ?_
     exact heap_alloc_new _ _
    case d2=>exact tok_one _ _ _ _ _
    case d3=>unfold maxLen;omega
    case d4=>omega
    case d5=>simp;omega
    intro g cap w5 hown5 hgrow5 hat5 hlt5
    have hV5:=lh (HV.out.push (one_below wr _) hgrow5 (Tok.endAt i) _ (by simp [tokC,Tok.endAt,strOfNums]) hown5)
    have HA:=lh (hV5.out.all KK.out)
    clear hown5 hgrow5 hat5 hlt5 ho4
    go_wp2
    go_ret2
    exact lexPost_ok (ts:=ts++[Tok.endAt i]) (by rw [HL.out,HE.out];rfl) (by simp) (by rfl) (by have:=hV5.out.own;rw [List.length_append] at this;exact this.mono (by have:=KK.out.below.size;omega)) HA.out
end
section
open Go.RowKit
structure TR (W:World)(g cap:Nat)(ts:List Tok):Prop where
 lt:g<W.heap.size
 le:ts.length≤cap
 cell:∀j u,(cellsT ts)[j]?=some u→W.cell? ⟨g,j,none⟩=some u
theorem TR.on {W W':World}{g cap:Nat}{ts:List Tok}(h:TR W g cap ts)(hb:Below W.heap.size W W'):TR W' g cap ts where
 lt:=Nat.lt_of_lt_of_le h.lt hb.size
 le:=h.le
 cell:=fun j u hj=>by rw [hb.cell (p:=⟨g,j,none⟩) h.lt];exact h.cell j u hj
theorem TR.of {W:World}{base g cap:Nat}{ts:List Tok}(ho:W.ownsRow base 29 5 (.slice (some ⟨g,0,none⟩) ts.length cap) ts.length (cellsT ts)):TR W g cap ts where
 lt:=(ho.lt g rfl).2
 le:=by
  rcases ho.2 with ⟨h,_⟩|⟨g',cap',cur,hv,_,_,hc,_⟩
  · simp at h
  · simp at hv
    omega
 cell:=fun j u hj=>by
  rw [ho.cellAt j (by rw [← ho.1];exact (List.getElem?_eq_some_iff.1 hj).1)]
  exact hj
theorem lex_ok {w:World}{p:Option Addr}{len c:Nat}{xs:List Int}{ts:List Tok}(h:Src w p len c xs)(hb:len≤65536)(he:lexS xs=.ok ts) :
 Calls Tryz.prog 14 #[.slice p len c] w fun e w'=>∃g cap,e=.returned (.tuple #[.slice (some ⟨g,0,none⟩) ts.length cap,.nilIface])∧TR w' g cap ts∧w.heap.size≤g∧Below w.heap.size w w' :=
 (lex_at w p len c xs h hb).mono fun e w' ⟨h1, h2⟩ => by
  rw [he] at h1
  obtain ⟨g,cap,e1,ho⟩:=h1
  exact ⟨g,cap,e1,TR.of ho,(ho.lt g rfl).1,h2⟩
theorem lex_no {w:World}{p:Option Addr}{len c:Nat}{xs:List Int}{i:Nat}{er:Int}(h:Src w p len c xs)(hb:len≤65536)(he:lexS xs=.error (i,er)) :
 Calls Tryz.prog 14 #[.slice p len c] w fun e w'=>∃B l cc,e=.returned (.tuple #[.slice none 0 0,.iface 109 (.pointer (some ⟨B,0,none⟩))])∧ErrAt w' B i l cc er∧Below w.heap.size w w' :=
 (lex_at w p len c xs h hb).mono fun e w' ⟨h1, h2⟩ => by
  rw [he] at h1
  obtain ⟨B,l,cc,e1,_,hE⟩:=h1
  exact ⟨B,l,cc,e1,hE,h2⟩
theorem src_const (W:World)(C:Array Value)(zs:List Int)(n:Nat)(hC:C=(zs.map (Value.int .u8)).toArray)(hn:zs.length=n)(hz:∀z∈zs,0≤z∧z<256)(a b:Nat) :
 Src (W.alloc (.cells C 5 (a,b))) (some ⟨W.heap.size,0,none⟩) n n zs:=by
 refine ⟨hn,fun i=>?_,Or.inr ⟨W.heap.size,0,rfl,Nat.le_refl _,by simp,fun i hi=>?_⟩⟩
 · by_cases hi:i<zs.length
   · have:=hz (zs[i]) (List.getElem_mem hi)
     simpa [List.getD,hi] using this
   · simp [List.getD,List.getElem?_eq_none (Nat.le_of_not_lt hi)]
 · rw [Nat.zero_add,World.cell?_alloc_mark]
   subst hC
   have hi':i<zs.length:=by omega
   simp [List.getD,hi']
end
section
open Go.RowKit
def Chain (xs:List Int):Nat→List Tok→Prop
 | p,[]=>p=xs.length
 | p,t::r=>p≤xs.length∧t.at'=bl xs p∧t.at'≤t.stop∧t.stop≤xs.length∧t.text=(xs.drop t.at').take (t.stop-t.at')∧((t.kind=4)↔r=[])∧Chain xs t.stop r
theorem chain_of (xs:List Int)(m p:Nat)(hm:xs.length-p≤m)(hp:p≤xs.length)(ts:List Tok)(h:lexAt xs p=.ok ts):Chain xs p ts∧ts≠[]:=by
 induction m generalizing p ts with
 | zero =>
  have e:p=xs.length:=by omega
  rw [lexAt_end xs p e] at h
  simp only [Except.ok.injEq] at h
  subst h
  refine ⟨⟨hp,?_,Nat.le_refl _,by simp [Tok.endAt];omega,by simp [Tok.endAt],by simp [Tok.endAt],by simp [Chain,Tok.endAt];omega⟩,by simp⟩
  simp only [Tok.endAt]
  rw [bl_end xs p (by omega)]
 | succ m ih =>
  rw [lexAt_bl xs p hp] at h
  have hb:=bl_le xs p hp
  have hi:=bl_idem xs p
  obtain ⟨i,hie⟩:∃i,bl xs p=i:=⟨_,rfl⟩
  rw [hie] at h hb hi
  by_cases hlt:i<xs.length
  · cases hs:step (xs.drop i) with
    | err e=>rw [lexAt_err xs i e hlt hi hs] at h;simp at h
    | tok k l n =>
     rw [lexAt_tok xs i k l n hlt hi hs] at h
     have hl:=step_len hs
     rw [List.length_drop] at hl
     cases hr:lexAt xs (i+l) with
     | error e=>rw [hr] at h;simp [pre] at h
     | ok us =>
      rw [hr] at h
      simp only [pre,Except.ok.injEq,List.singleton_append] at h
      subst h
      have ⟨hc,hne⟩:=ih (i+l) (by omega) (by omega) us hr
      refine ⟨⟨hp,hie.symm,by simp,by simp;omega,by simp,?_,hc⟩,by simp⟩
      simp only
      constructor
      · omega
      · intro h;exact absurd h hne
  · have e:i=xs.length:=by omega
    rw [lexAt_end xs i e] at h
    simp only [Except.ok.injEq] at h
    subst h
    exact ⟨⟨hp,hie.symm,Nat.le_refl _,by simp [Tok.endAt];omega,by simp [Tok.endAt],by simp [Tok.endAt],by simp [Chain,Tok.endAt];omega⟩,by simp⟩
def subP (p:Option Addr)(c a:Nat):Option Addr:=if c=a then p else p.map (·.add (a*1))
theorem sub_run (W:World)(p:Option Addr)(len c a e:Nat)(h1:a≤e)(h2:e≤c) :
 (Instr.sliceAt 22 (.slice p len c) (some (.int .i64 a)) (some (.int .i64 e)) none).run Tryz.prog W=.ok (.slice (subP p c a) (e-a) (c-a)) W:=by
 have hu:Tryz.prog.underlying 22=some (.slice (Tryz.prog.elem 22)):=by kernel_rfl
 have hz:∀W,(sizeOf (Tryz.prog.elem 22)).run Tryz.prog W=.ok 1 W:=fun _=>by kernel_rfl
 rw [run_sliceAt_slice W 22 _ _ _ _ hu,run_slice_lh W 22 p len c hu .i64 .i64 a e (by omega) (by omega) (by omega),hz]
 rfl
theorem sub_src {W:World}{p:Option Addr}{len c:Nat}{xs:List Int}(h:Src W p len c xs)(a e:Nat)(h1:a≤e)(h2:e≤len):Src W (subP p c a) (e-a) (c-a) ((xs.drop a).take (e-a)):=by
 obtain ⟨hl,hb,hc⟩:=h
 refine ⟨by simp;omega,fun i=>?_,?_⟩
 · by_cases hi:i<e-a
   · have:=hb (a+i)
     simpa [List.getD,List.getElem?_take,hi] using this
   · simp [List.getD,List.getElem?_take,hi]
 · rcases hc with ⟨rfl,rfl⟩|⟨b,off,rfl,hle,hlt,hx⟩
   · exact Or.inl ⟨by omega,by omega⟩
   · by_cases hca:c=a
     · exact Or.inl ⟨by omega,by omega⟩
     · refine Or.inr ⟨b,off+a,?_,by omega,hlt,fun i hi=>?_⟩
       · unfold subP
         rw [if_neg hca]
         simp only [Option.map_some,Nat.mul_one,Addr.add]
         split<;>simp_all
       · rw [Nat.add_assoc,hx (a+i) (by omega)]
         simp [List.getD,hi]
theorem src_conv {W:World}{p:Option Addr}{n c:Nat}{xs:List Int}(h:Src W p n c xs):(convert 22 9 (.slice p n c)).run Tryz.prog W=.ok (.string (strOfNums xs)) W:=by
 obtain ⟨hl,hb,hc⟩:=h
 rcases hc with ⟨rfl,rfl⟩|⟨b,off,rfl,hle,hlt,hx⟩
 · have e:xs=[]:=List.eq_nil_of_length_eq_zero hl
   subst e
   cases p with
   | none=>exact Lib.run_convert_nil_bytes W 22 9 5 0 Tryz.underlying22 Tryz.underlying5 Tryz.underlying9
   | some a=>exact run_convert_bytes_back W 22 9 5 a 0 [] Tryz.underlying22 Tryz.underlying5 Tryz.underlying9 (fun j hj=>by simp at hj)
 · exact run_convert_bytes_arg W 22 5 Tryz.underlying22 Tryz.underlying5 b off n c xs hl (fun j hj=>hx j hj) 9 Tryz.underlying9
theorem tok_cell (ts:List Tok)(k j:Nat)(t:Tok)(hk:ts[k]?=some t)(hj:j<5):(cellsT ts)[k*5+j]?=(tokC t)[j]?:=by
 induction ts generalizing k with
 | nil=>simp at hk
 | cons u r ih =>
  have hu:(tokC u).length=5:=rfl
  cases k with
  | zero =>
   simp only [List.getElem?_cons_zero,Option.some.injEq] at hk
   subst hk
   simp only [cellsT,List.flatMap_cons,Nat.zero_mul,Nat.zero_add]
   rw [List.getElem?_append_left (by omega)]
  | succ k =>
   simp only [List.getElem?_cons_succ] at hk
   have:=ih k hk
   simp only [cellsT,List.flatMap_cons] at this ⊢
   rw [List.getElem?_append_right (by omega),hu,show (k+1)*5+j-5=k*5+j by omega]
   exact this
end
section
open Go.RowKit
theorem letter_plain {c:Int}(h:isLetter c=true):isBlank c=false∧c≠35:=by
 simp only [isLetter,Bool.and_eq_true,decide_eq_true_eq] at h
 refine ⟨?_,by omega⟩
 simp only [isBlank,Bool.or_eq_false_iff,beq_eq_false_iff_ne]
 omega
theorem lexN_len (f p:Nat)(l:List Int)(ts:List Tok)(h:lexN f p l=.ok ts):ts.length≤l.length+1:=by
 induction f generalizing p l ts with
 | zero =>
  simp only [lexN,Except.ok.injEq] at h
  subst h
  simp
 | succ f ih =>
  simp only [lexN] at h
  split at h
  · simp only [Except.ok.injEq] at h
    subst h
    simp
  · rename_i c r hd
    split at h
    · simp at h
    · rename_i k len n hs
      have hl:=step_len hs
      have hcr:(c::r).length≤l.length:=by rw [← hd,List.length_drop];omega
      cases hu:lexN f (p+blk false l+len) ((c::r).drop len) with
      | error e=>rw [hu] at h;simp [pre] at h
      | ok us =>
       rw [hu] at h
       simp only [pre,Except.ok.injEq,List.singleton_append] at h
       subst h
       have:=ih _ _ us hu
       rw [List.length_drop] at this
       rw [List.length_cons]
       omega
theorem drop_cons {α:Type}(l:List α)(k:Nat)(t:α)(h:l[k]?=some t):l.drop k=t::l.drop (k+1):=by
 obtain ⟨hk,rfl⟩:=List.getElem?_eq_some_iff.1 h
 exact List.drop_eq_getElem_cons hk
end
section
def stopB (b:Int):Prop:=isBlank b=true∨b=35
theorem stop_cases {b:Int}(h:stopB b):b=32∨b=9∨b=10∨b=13∨b=35:=by
 rcases h with h|h
 · have:b=32∨b=9∨b=10∨b=13:=by simpa [isBlank,or_assoc] using h
   omega
 · omega
theorem stop_name {b:Int}(h:stopB b):isNameB b=false:=by rcases stop_cases h with rfl|rfl|rfl|rfl|rfl<;>rfl
theorem stop_digit {b:Int}(h:stopB b):isDigit b=false:=by rcases stop_cases h with rfl|rfl|rfl|rfl|rfl<;>rfl
theorem run_app (p:Int→Bool)(l:List Int)(b:Int)(Y:List Int)(hb:p b=false):run p (l++b::Y)=run p l:=by
 induction l with
 | nil=>simp [run,hb]
 | cons c r ih=>simp only [List.cons_append,run,ih]
theorem numV_app (n:Int)(l:List Int)(b:Int)(Y:List Int)(hb:isDigit b=false):numV n (l++b::Y)=numV n l:=by
 induction l generalizing n with
 | nil=>simp [numV,hb]
 | cons c r ih=>simp only [List.cons_append,numV,ih]
theorem step_app (l:List Int)(b:Int)(Y:List Int)(hb:stopB b)(hl:l≠[]):step (l++b::Y)=step l:=by
 cases l with
 | nil=>exact absurd rfl hl
 | cons c r =>
  have h1:=run_app isNameB (c::r) b Y (stop_name hb)
  have h2:=run_app isDigit (c::r) b Y (stop_digit hb)
  have h3:=numV_app 0 (c::r) b Y (stop_digit hb)
  have h4:((r++b::Y).head?=some 61)=(r.head?=some 61):=by
   cases r with
   | nil =>
    have:b≠61:=by rcases stop_cases hb with rfl|rfl|rfl|rfl|rfl<;>decide
    simp [this]
   | cons d r=>simp
  simp only [List.cons_append] at h1 h2 h3 ⊢
  simp only [step,h1,h2,h3,h4]
theorem run_take (p:Int→Bool)(l:List Int):run p (l.take (run p l))=run p l:=by
 induction l with
 | nil=>simp [run]
 | cons c r ih =>
  simp only [run]
  split
  · rename_i h
    rw [List.take_succ_cons]
    simp only [run,h,if_true,ih]
  · simp [run]
theorem numV_take (n:Int)(l:List Int):numV n (l.take (run isDigit l))=numV n l:=by
 induction l generalizing n with
 | nil=>simp [run]
 | cons c r ih =>
  simp only [run]
  split
  · rename_i h
    rw [List.take_succ_cons]
    simp only [numV,h,if_true,ih]
  · rename_i h
    simp [numV,h]
theorem step_text (l:List Int)(k:Int)(len:Nat)(n:Int)(h:step l=.tok k len n):step (l.take len)=.tok k len n:=by
 have hl:=step_len h
 cases l with
 | nil=>simp [step] at h
 | cons c r =>
  obtain ⟨m,rfl⟩:∃m,len=m+1:=⟨len-1,by omega⟩
  have h1:=run_take isNameB (c::r)
  have h2:=run_take isDigit (c::r)
  have h3:=numV_take 0 (c::r)
  simp only [step] at h
  rw [List.take_succ_cons]
  simp only [step]
  split at h
  · rename_i hc
    simp only [Step.tok.injEq] at h
    rw [if_pos hc]
    obtain ⟨rfl,h',rfl⟩:=h
    rw [h',List.take_succ_cons] at h1
    rw [h1]
  · rename_i hc
    rw [if_neg hc]
    split at h
    · rename_i hd
      rw [if_pos hd]
      split at h
      · rename_i v hv
        simp only [Step.tok.injEq] at h
        obtain ⟨rfl,h',rfl⟩:=h
        rw [h',List.take_succ_cons] at h2
        rw [h',List.take_succ_cons,hv] at h3
        rw [h3,h2]
      · simp at h
    · rename_i hd
      rw [if_neg hd]
      split at h
      · rename_i hm
        rw [if_pos hm]
        simp only [Step.tok.injEq] at h
        obtain ⟨rfl,h',rfl⟩:=h
        split at h'
        · rename_i h61
          obtain rfl:m=1:=by omega
          cases r with
          | nil=>simp at h61
          | cons d r =>
           have:d=61:=by simpa using h61.2
           subst this
           rw [h61.1]
           simp
        · rename_i h61
          obtain rfl:m=0:=by omega
          simp
      · simp at h
theorem step_head {l:List Int}{k n:Int}{len:Nat}(h:step l=.tok k len n):isBlank (l.getD 0 0)=false∧l.getD 0 0≠35:=by
 cases l with
 | nil=>simp [step] at h
 | cons c r =>
  simp only [step] at h
  simp only [List.getD_cons_zero]
  split at h
  · rename_i hc
    exact letter_plain hc
  · split at h
    · rename_i hd
      simp only [isDigit,Bool.and_eq_true,decide_eq_true_eq] at hd
      refine ⟨?_,by omega⟩
      simp only [isBlank,Bool.or_eq_false_iff,beq_eq_false_iff_ne]
      omega
    · split at h
      · rename_i hm
        rcases mark_cases hm with rfl|rfl|rfl|rfl|rfl|rfl|rfl|rfl|rfl|rfl|rfl|rfl|rfl|rfl<;>decide
      · simp at h
def same3 (t u:Tok):Prop:=t.kind=u.kind∧t.text=u.text∧t.n=u.n
def sameAll:List Tok→List Tok→Prop
 | [],[]=>True
 | t::r,u::s=>same3 t u∧sameAll r s
 | _,_=>False
def isGap (B:List Int):Prop:=(∀X,blk false (B++X)=B.length+blk false X)∧∃b r,B=b::r∧stopB b
def again:List Tok→(Nat→List Int)→List Int
 | [],_=>[]
 | t::r,f=>t.text++(f 0++again r fun i=>f (i+1))
theorem relex (xs:List Int)(ts:List Tok)(p q:Nat)(gap:Nat→List Int)(hg:∀i,isGap (gap i))(hp:p≤xs.length)(h:lexAt xs p=.ok ts)(F:Nat)(hF:(again ts gap).length<F) :
 ∃us,lexN F q (again ts gap)=.ok us∧sameAll ts us:=by
 induction ts generalizing p q gap F with
 | nil =>
  exact absurd rfl (chain_of xs xs.length p (by omega) hp [] h).2
 | cons t r ih =>
  obtain ⟨G,rfl⟩:∃G,F=G+1:=⟨F-1,by omega⟩
  rw [lexAt_bl xs p hp] at h
  have hb:=bl_le xs p hp
  have hi:=bl_idem xs p
  generalize bl xs p=i at *
  obtain ⟨hg1,b,br,hbr,hstop⟩:=hg 0
  by_cases hlt:i<xs.length
  · cases hs:step (xs.drop i) with
    | err e=>rw [lexAt_err xs i e hlt hi hs] at h;simp at h
    | tok k l n =>
     rw [lexAt_tok xs i k l n hlt hi hs] at h
     have hl:=step_len hs
     rw [List.length_drop] at hl
     cases hr:lexAt xs (i+l) with
     | error e=>rw [hr] at h;simp [pre] at h
     | ok us =>
      rw [hr] at h
      simp only [pre,Except.ok.injEq,List.singleton_append,List.cons.injEq] at h
      obtain ⟨rfl,rfl⟩:=h
      have hst:=step_text _ _ _ _ hs
      obtain ⟨X,hX⟩:∃X,X=(xs.drop i).take l:=⟨_,rfl⟩
      rw [← hX] at hst
      have hXl:X.length=l:=by rw [hX,List.length_take,List.length_drop];omega
      have hXne:X≠[]:=by intro e;rw [e] at hXl;simp at hXl;omega
      have hhd:=step_head hst
      have hrest:=fun q F hF=>ih (i+l) q (fun j=>gap (j+1)) (fun j=>hg (j+1)) (by omega) hr F hF
      simp only [again,← hX]
      obtain ⟨Z,hZ⟩:∃Z,Z=again us (fun j=>gap (j+1)):=⟨_,rfl⟩
      rw [← hZ] at hrest ⊢
      have hlen:(X++(gap 0++Z)).length<G+1:=by
       simp only [again,← hX,← hZ] at hF
       exact hF
      have hlen2:Z.length<G:=by simp only [List.length_append] at hlen;omega
      obtain ⟨H,rfl⟩:∃H,G=H+1:=⟨G-1,by omega⟩
      obtain ⟨us',hu',hsame⟩:=hrest (q:=q+l+(gap 0).length) (H+1) hlen2
      refine ⟨⟨k,q,q+l,X,n⟩::us',?_,⟨rfl,rfl,rfl⟩,hsame⟩
      have hne:X++(gap 0++Z)=X++b::(br++Z):=by rw [hbr];rfl
      have hb0:blk false (X++(gap 0++Z))=0:=by
       cases X with
       | nil=>exact absurd rfl hXne
       | cons c X =>
        simp only [List.getD_cons_zero] at hhd
        simp only [List.cons_append,blk,hhd.1,Bool.false_eq_true,if_false,if_neg hhd.2]
      have hs2:step (X++(gap 0++Z))=.tok k l n:=by rw [hne,step_app X b _ hstop hXne,hst]
      have hd:(X++(gap 0++Z)).drop l=gap 0++Z:=by rw [← hXl,List.drop_left]
      have ht:(X++(gap 0++Z)).take l=X:=by rw [← hXl,List.take_left]
      have hskip:lexN (H+1) (q+l) (gap 0++Z)=lexN (H+1) (q+l+(gap 0).length) Z:=by
       rw [lexN_skip H (q+l) (gap 0++Z),lexN_skip H (q+l+(gap 0).length) Z,hg1 Z,← List.drop_drop,List.drop_left,Nat.add_assoc (q+l)]
      rw [lexN,hb0,List.drop_zero]
      cases hc:X++(gap 0++Z) with
      | nil=>rw [hc] at hs2;simp [step] at hs2
      | cons c R =>
       rw [hc] at hs2 hd ht
       simp only [hs2,hd,ht,Nat.add_zero]
       rw [hskip,hu']
       rfl
  · rw [lexAt_end xs i (by omega)] at h
    simp only [Except.ok.injEq,List.cons.injEq] at h
    obtain ⟨rfl,rfl⟩:=h
    refine ⟨[Tok.endAt (q+(gap 0).length)],?_,⟨rfl,rfl,rfl⟩,trivial⟩
    have h0:=hg1 []
    rw [List.append_nil] at h0
    simp only [again,Tok.endAt,List.nil_append,List.append_nil]
    rw [lexN,h0]
    simp [blk,Tok.endAt]
end
section
theorem lexN_shape (f p:Nat)(l:List Int)(ts:List Tok)(hf:l.length<f)(h:lexN f p l=.ok ts):∃vs,ts=vs++[Tok.endAt (p+l.length)]∧∀t∈vs,t.kind≠4∧t.at'≤p+l.length:=by
 induction f generalizing p l ts with
 | zero=>omega
 | succ f ih =>
  simp only [lexN] at h
  have hb:=blk_le false l
  split at h
  · rename_i hd
    simp only [Except.ok.injEq] at h
    subst h
    have h2:=congrArg List.length hd
    rw [List.length_drop,List.length_nil] at h2
    exact ⟨[],by rw [show p+blk false l=p+l.length by omega];rfl,fun t ht=>by simp at ht⟩
  · rename_i c r hd
    have hcr:(c::r).length=l.length-blk false l:=by rw [← hd,List.length_drop]
    split at h
    · simp at h
    · rename_i k len n hs
      have hl:=step_len hs
      cases hu:lexN f (p+blk false l+len) ((c::r).drop len) with
      | error e=>rw [hu] at h;simp [pre] at h
      | ok us =>
       rw [hu] at h
       simp only [pre,Except.ok.injEq,List.singleton_append] at h
       subst h
       obtain ⟨vs,e,hv⟩:=ih _ _ us (by rw [List.length_drop];omega) hu
       have e2:p+blk false l+len+((c::r).drop len).length=p+l.length:=by rw [List.length_drop];omega
       rw [e2] at e hv
       refine ⟨_::vs,by rw [e];rfl,fun t ht=>?_⟩
       rcases List.mem_cons.1 ht with rfl|ht
       · exact ⟨by show k≠4;rcases hl.2.2 with h3|h3|h3<;>omega,by simp only;omega⟩
       · exact hv t ht
theorem lexS_shape {xs:List Int}{ts:List Tok}(h:lexS xs=.ok ts):∃vs,ts=vs++[Tok.endAt xs.length]∧∀t∈vs,t.kind≠4∧t.at'≤xs.length:=by
 have:=lexN_shape (xs.length+1) 0 xs ts (Nat.lt_succ_self _) h
 rwa [Nat.zero_add] at this
theorem ended_snoc (l:List PT)(e:PT)(he:e.kind=4∧e.txt=none0):Ended (l++[e]):=by
 induction l with
 | nil=>exact he
 | cons t r ih =>
  cases r with
  | nil=>exact he
  | cons u r=>exact ih
theorem end_pt (p:Nat):(ptOf (Tok.endAt p)).kind=4∧(ptOf (Tok.endAt p)).txt=none0:=⟨rfl,by simp [ptOf,Tok.endAt,strOfNums]⟩
def parseS (xs:List Int):Except (Nat × Int) (List Nd):=match lexS xs with
 | .error e=>.error e
 | .ok ts=>match programP (ts.map ptOf) with
  | .err p c=>.error (p,c)
  | .ok a _=>.ok (flat 0 a)
end
section
open Par
def more (k0:List Ast):Res (List Ast)→Res (List Ast)
 | .err p c=>.err p c
 | .ok ks l=>.ok (k0++ks) l
theorem program_of {l l':List PT}{a:Ast}(h:programP l=.ok a l'):∃t r ks,l=t::r∧a=nodeA 1 t.at' ks∧many progStep [] l=.ok ks l':=by
 cases l with
 | nil=>simp [programP,Par.bind,peekP] at h
 | cons t r =>
  simp only [programP,Par.bind,peekP] at h
  cases h1:many progStep [] (t::r) with
  | err p c=>rw [h1] at h;simp at h
  | ok ks l1 =>
   rw [h1] at h
   simp only [Par.pure,Res.ok.injEq] at h
   exact ⟨t,r,ks,rfl,h.1.symm,by rw [h.2]⟩
theorem AstR.size {ρ:Nat→Nat→Prop}{a a':Ast}(h:AstR ρ a a'):a.size=a'.size:=by
 induction h with
 | @mk k p p' t n ks ks' _ hl hk ih =>
  simp only [Ast.size]
  congr 1
  clear hk
  induction ks generalizing ks' with
  | nil =>
   cases ks' with
   | nil=>rfl
   | cons _ _=>simp at hl
  | cons x r ih2 =>
   cases ks' with
   | nil=>simp at hl
   | cons y r' =>
    simp only [sizeL]
    rw [ih 0 x y (by simp) (by simp),ih2 (by simpa using hl) fun i u v hu hv=>ih (i+1) u v (by simpa using hu) (by simpa using hv)]
theorem KidsR.tail {ρ:Nat→Nat→Prop}{x y:Ast}{r r':List Ast}(h:KidsR ρ (x::r) (y::r')):AstR ρ x y∧KidsR ρ r r' :=
 ⟨h.2 0 x y (by simp) (by simp),by simpa using h.1,fun i u v hu hv=>h.2 (i+1) u v (by simpa using hu) (by simpa using hv)⟩
theorem KidsR.size {ρ:Nat→Nat→Prop}{ks ks':List Ast}(h:KidsR ρ ks ks'):sizeL ks=sizeL ks':=by
 induction ks generalizing ks' with
 | nil =>
  cases ks' with
  | nil=>rfl
  | cons _ _=>have:=h.1;simp at this
 | cons x r ih =>
  cases ks' with
  | nil=>have:=h.1;simp at this
  | cons y r' =>
   obtain ⟨h1,h2⟩:=h.tail
   simp only [sizeL,h1.size,ih h2]
def AllR (R:Nd→Nd→Prop)(x y:List Nd):Prop:=x.length=y.length∧∀(i:Nat) (u v:Nd),x[i]?=some u→y[i]?=some v→R u v
theorem AllR.append {R:Nd→Nd→Prop}{x y x' y':List Nd}(h:AllR R x x')(h':AllR R y y'):AllR R (x++y) (x'++y'):=⟨by simp [h.1,h'.1],fun i u v hu hv=>by
 by_cases hi:i<x.length
 · rw [List.getElem?_append_left hi] at hu
   rw [List.getElem?_append_left (by rw [← h.1];exact hi)] at hv
   exact h.2 i u v hu hv
 · rw [List.getElem?_append_right (by omega)] at hu
   rw [List.getElem?_append_right (by rw [← h.1];omega),← h.1] at hv
   exact h'.2 _ u v hu hv⟩
theorem AllR.cons {R:Nd→Nd→Prop}{x x':Nd}{y y':List Nd}(h:R x x')(h':AllR R y y'):AllR R (x::y) (x'::y'):=⟨by simp [h'.1],fun i u v hu hv=>by
 cases i with
 | zero=>simp at hu hv;subst hu hv;exact h
 | succ i=>exact h'.2 i u v (by simpa using hu) (by simpa using hv)⟩
theorem AllR.nil {R:Nd→Nd→Prop}:AllR R [] []:=⟨rfl,fun i u v h=>by simp at h⟩
theorem flatL_append (o:Nat)(x y:List Ast):flatL o (x++y)=flatL o x++flatL (o+sizeL x) y:=by
 induction x generalizing o with
 | nil=>simp [flatL,sizeL]
 | cons a r ih=>simp only [List.cons_append,flatL,ih,sizeL,List.append_assoc,Nat.add_assoc]
end
section
theorem blk_takeGe (b:Bool)(l:List Int)(c:Nat)(h:blk b l≤c):blk b (l.take c)=blk b l:=by
 induction l generalizing b c with
 | nil=>simp
 | cons x r ih =>
  cases c with
  | zero=>simp only [List.take_zero,Nat.le_zero_eq] at h ⊢;rw [h];cases b<;>rfl
  | succ c =>
   rw [List.take_succ_cons]
   cases b
   · simp only [blk] at h ⊢
     by_cases h1:isBlank x=true
     · simp only [if_pos h1] at h ⊢;rw [ih false c (by omega)]
     · simp only [if_neg h1] at h ⊢
       by_cases h2:x=35
       · simp only [if_pos h2] at h ⊢;rw [ih true c (by omega)]
       · simp only [if_neg h2]
   · simp only [blk] at h ⊢
     by_cases h1:x=10
     · simp only [if_pos h1] at h ⊢;rw [ih false c (by omega)]
     · simp only [if_neg h1] at h ⊢;rw [ih true c (by omega)]
theorem run_takeGe (p:Int→Bool)(l:List Int)(c:Nat)(h:run p l≤c):run p (l.take c)=run p l:=by
 induction l generalizing c with
 | nil=>simp
 | cons x r ih =>
  cases c with
  | zero=>simp only [List.take_zero,Nat.le_zero_eq] at h ⊢;rw [h];rfl
  | succ c =>
   rw [List.take_succ_cons]
   simp only [run] at h ⊢
   by_cases h1:p x=true
   · simp only [if_pos h1] at h ⊢;rw [ih c (by omega)]
   · simp only [if_neg h1]
theorem numV_takeGe (n:Int)(l:List Int)(c:Nat)(h:run isDigit l≤c):numV n (l.take c)=numV n l:=by
 induction l generalizing n c with
 | nil=>simp
 | cons x r ih =>
  cases c with
  | zero =>
   simp only [Nat.le_zero_eq,run] at h
   by_cases h1:isDigit x=true
   · simp [h1] at h
   · simp [numV,h1]
  | succ c =>
   rw [List.take_succ_cons]
   simp only [run] at h
   simp only [numV]
   by_cases h1:isDigit x=true
   · simp only [if_pos h1] at h ⊢;rw [ih _ c (by omega)]
   · simp only [if_neg h1]
theorem step_takeGe {l:List Int}{k:Int}{len:Nat}{n:Int}{m:Nat}(h:step l=.tok k len n)(hm:len≤m):step (l.take m)=.tok k len n:=by
 have hl:=step_len h
 cases l with
 | nil=>simp [step] at h
 | cons c r =>
  obtain ⟨m,rfl⟩:∃m',m=m'+1:=⟨m-1,by omega⟩
  have h1:=run_takeGe isNameB (c::r) (m+1)
  have h2:=run_takeGe isDigit (c::r) (m+1)
  have h3:=numV_takeGe 0 (c::r) (m+1)
  rw [List.take_succ_cons] at h1 h2 h3 ⊢
  simp only [step] at h ⊢
  by_cases hc:isLetter c=true
  · simp only [if_pos hc,Step.tok.injEq] at h ⊢
    obtain ⟨rfl,h',rfl⟩:=h
    exact ⟨rfl,by rw [h1 (by omega)];exact h',rfl⟩
  · simp only [if_neg hc] at h ⊢
    by_cases hd:isDigit c=true
    · simp only [if_pos hd] at h ⊢
      cases hv:numV 0 (c::r) with
      | none=>rw [hv] at h;simp at h
      | some v =>
       rw [hv] at h
       simp only [Step.tok.injEq] at h
       obtain ⟨rfl,h',rfl⟩:=h
       rw [h3 (by omega),hv]
       simp only [Step.tok.injEq]
       exact ⟨trivial,by rw [h2 (by omega)];exact h',trivial⟩
    · simp only [if_neg hd] at h ⊢
      by_cases hk:isMark c=true
      · simp only [if_pos hk,Step.tok.injEq] at h ⊢
        obtain ⟨rfl,h',rfl⟩:=h
        refine ⟨rfl,?_,rfl⟩
        by_cases h61:c=61∧r.head?=some 61
        · rw [if_pos h61] at h'
          cases r with
          | nil=>simp at h61
          | cons d r =>
           obtain ⟨m,rfl⟩:∃m',m=m'+1:=⟨m-1,by omega⟩
           rw [List.take_succ_cons,if_pos ⟨h61.1,by simpa using h61.2⟩]
           exact h'
        · rw [if_neg h61] at h'
          rw [if_neg]
          · exact h'
          · rintro ⟨e1,e2⟩
            refine h61 ⟨e1,?_⟩
            cases r with
            | nil=>simp at e2
            | cons d r =>
             cases m with
             | zero=>simp at e2
             | succ m=>simpa using e2
      · simp only [if_neg hk] at h;simp at h
theorem lexN_cut (f p:Nat)(l:List Int)(ts:List Tok)(hf:l.length<f)(h:lexN f p l=.ok ts):∀(k:Nat) (t:Tok),ts[k]?=some t→p≤t.at'∧t.at'≤p+l.length∧∀g,(l.take (t.at'-p)).length<g→lexN g p (l.take (t.at'-p))=.ok (ts.take k++[Tok.endAt t.at']):=by
 induction f generalizing p l ts with
 | zero=>omega
 | succ f ih =>
  simp only [lexN] at h
  have hb:=blk_le false l
  have hstop:∀g,(l.take (blk false l)).length<g→lexN g p (l.take (blk false l))=.ok [Tok.endAt (p+blk false l)]:=fun g hg=>by
   obtain ⟨g,rfl⟩:∃g',g=g'+1:=⟨g-1,by omega⟩
   have h1:=blk_takeGe false l (blk false l) (Nat.le_refl _)
   simp only [lexN,h1]
   rw [List.drop_eq_nil_of_le (by simp;omega)]
  split at h
  · rename_i hd
    simp only [Except.ok.injEq] at h
    subst h
    intro k t hk
    cases k with
    | zero =>
     simp only [List.getElem?_cons_zero,Option.some.injEq] at hk
     subst hk
     refine ⟨by simp [Tok.endAt],by simp [Tok.endAt];omega,fun g hg=>?_⟩
     simp only [Tok.endAt,Nat.add_sub_cancel_left,List.take_zero,List.nil_append] at hg ⊢
     exact hstop g hg
    | succ k=>simp at hk
  · rename_i c r hd
    have hcr:(c::r).length=l.length-blk false l:=by rw [← hd,List.length_drop]
    split at h
    · simp at h
    · rename_i kk len n hs
      have hl:=step_len hs
      cases hu:lexN f (p+blk false l+len) ((c::r).drop len) with
      | error e=>rw [hu] at h;simp [pre] at h
      | ok us =>
       rw [hu] at h
       simp only [pre,Except.ok.injEq,List.singleton_append] at h
       subst h
       intro k t hk
       cases k with
       | zero =>
        simp only [List.getElem?_cons_zero,Option.some.injEq] at hk
        subst hk
        refine ⟨by simp only;omega,by simp only;omega,fun g hg=>?_⟩
        simp only [Nat.add_sub_cancel_left,List.take_zero,List.nil_append] at hg ⊢
        exact hstop g hg
       | succ k =>
        simp only [List.getElem?_cons_succ] at hk
        have hlen2:((c::r).drop len).length=l.length-blk false l-len:=by rw [List.length_drop,hcr]
        obtain ⟨h1,h2,h3⟩:=ih _ _ us (by omega) hu k t hk
        refine ⟨by omega,by omega,fun g hg=>?_⟩
        obtain ⟨g,rfl⟩:∃g',g=g'+1:=⟨g-1,by omega⟩
        have hge:blk false l≤t.at'-p:=by omega
        have hbt:=blk_takeGe false l (t.at'-p) hge
        have hdt:(l.take (t.at'-p)).drop (blk false l)=(c::r).take (t.at'-p-blk false l):=by rw [List.drop_take,hd]
        obtain ⟨q,hq⟩:∃q,t.at'-p-blk false l=q+1:=⟨t.at'-p-blk false l-1,by omega⟩
        have hst:=step_takeGe (m:=q+1) hs (by omega)
        rw [List.take_succ_cons] at hst
        simp only [lexN,hbt,hdt,hq,List.take_succ_cons,hst]
        have e1:(c::r.take q).drop len=((c::r).drop len).take (t.at'-(p+blk false l+len)):=by
         rw [← List.take_succ_cons,List.drop_take]
         congr 1
         omega
        rw [e1]
        have hg2:(((c::r).drop len).take (t.at'-(p+blk false l+len))).length<g:=by
         rw [List.length_take] at hg ⊢
         omega
        rw [h3 g hg2]
        simp only [pre,List.singleton_append,List.cons_append,Except.ok.injEq,List.cons.injEq,and_true]
        have e2:(c::r.take q).take len=(c::r).take len:=by
         rw [← List.take_succ_cons,List.take_take,Nat.min_eq_left (by omega)]
        rw [e2]
        exact ⟨rfl,rfl⟩
theorem lexS_cut {xs:List Int}{ts:List Tok}(h:lexS xs=.ok ts)(k:Nat)(t:Tok)(hk:ts[k]?=some t):t.at'≤xs.length∧lexS (xs.take t.at')=.ok (ts.take k++[Tok.endAt t.at']):=by
 obtain ⟨_,h2,h3⟩:=lexN_cut (xs.length+1) 0 xs ts (Nat.lt_succ_self _) h k t hk
 simp only [Nat.sub_zero,Nat.zero_add] at h2 h3
 exact ⟨h2,h3 _ (Nat.lt_succ_self _)⟩
theorem parse_cut {xs:List Int}{ts:List Tok}{ns:List Nd}(hp:parseS xs=.ok ns)(h:lexS xs=.ok ts)(k:Nat)(t:Tok)(hk:ts[k]?=some t):parseS (xs.take t.at')=.error (t.at',50)∨∃ms,parseS (xs.take t.at')=.ok ms:=by
 obtain ⟨_,hc⟩:=lexS_cut h k t hk
 have hend:IsEnd (ptOf (Tok.endAt t.at')):=end_pt _
 simp only [parseS,h] at hp
 cases hq:programP (ts.map ptOf) with
 | err p c=>rw [hq] at hp;simp at hp
 | ok a l =>
  have hsplit:ts.map ptOf=(ts.take k).map ptOf++(ts.drop k).map ptOf:=by rw [← List.map_append,List.take_append_drop]
  rw [hsplit] at hq
  rcases program_cut hend hq with h1|⟨b,l2,h1⟩
  · left
    simp only [parseS,hc,List.map_append,List.map_cons,List.map_nil,h1]
    rfl
  · right
    exact ⟨flat 0 b,by simp only [parseS,hc,List.map_append,List.map_cons,List.map_nil,h1]⟩
end
section
open Go.RowKit
theorem heads_append (o:Nat)(x y:List Ast):heads o (x++y)=heads o x++heads (o+sizeL x) y:=by
 induction x generalizing o with
 | nil=>simp [heads,sizeL]
 | cons a r ih=>simp only [List.cons_append,heads,ih,sizeL,Nat.add_assoc]
def openN (p:List Nd)(k:Int)(a:Nat)(t:ByteArray)(n:Int)(ks:List Ast):List Nd:=p++⟨k,a,t,n,heads (p.length+1) ks⟩::flatL (p.length+1) ks
theorem open_len (p:List Nd)(k:Int)(a:Nat)(t:ByteArray)(n:Int)(ks:List Ast):(openN p k a t n ks).length=p.length+1+sizeL ks:=by
 simp only [openN,List.length_append,List.length_cons,flatL_length];omega
theorem open_nil (p:List Nd)(k:Int)(a:Nat)(t:ByteArray)(n:Int):openN p k a t n []=p++[⟨k,a,t,n,[]⟩]:=by simp [openN,heads,flatL]
theorem open_done (p:List Nd)(k:Int)(a:Nat)(t:ByteArray)(n:Int)(ks:List Ast):openN p k a t n ks=p++flat p.length (.mk k a t n ks):=by simp only [openN,flat]
def kidN (p:List Nd)(k:Int)(a:Nat)(t:ByteArray)(n:Int)(ks:List Ast):List Nd:=p++⟨k,a,t,n,heads (p.length+1) ks++[((p.length+1+sizeL ks:Nat):Int)]⟩::flatL (p.length+1) ks
theorem kid_len (p:List Nd)(k:Int)(a:Nat)(t:ByteArray)(n:Int)(ks:List Ast):(kidN p k a t n ks).length=p.length+1+sizeL ks:=by
 simp only [kidN,List.length_append,List.length_cons,flatL_length];omega
theorem open_kid (p:List Nd)(k:Int)(a:Nat)(t:ByteArray)(n:Int)(ks:List Ast)(x:Ast):kidN p k a t n ks++flat (kidN p k a t n ks).length x=openN p k a t n (ks++[x]):=by
 rw [kid_len]
 simp only [kidN,openN,heads_append,flatL_append,heads,flatL,List.append_nil,List.append_assoc,List.cons_append]
theorem open_get (p:List Nd)(k:Int)(a:Nat)(t:ByteArray)(n:Int)(ks:List Ast):(openN p k a t n ks).getD p.length default=⟨k,a,t,n,heads (p.length+1) ks⟩:=by
 simp [openN,List.getD]
theorem open_set (p:List Nd)(k:Int)(a:Nat)(t:ByteArray)(n:Int)(ks:List Ast)(k2:Int)(t2:ByteArray)(n2:Int):(openN p k a t n ks).set p.length ⟨k2,a,t2,n2,heads (p.length+1) ks⟩=openN p k2 a t2 n2 ks:=by
 simp [openN]
theorem open_kid_set (p:List Nd)(k:Int)(a:Nat)(t:ByteArray)(n:Int)(ks:List Ast):(openN p k a t n ks).set p.length ⟨k,a,t,n,heads (p.length+1) ks++[((p.length+1+sizeL ks:Nat):Int)]⟩=kidN p k a t n ks:=by
 simp [openN,kidN]
structure TokOk (t:Tok):Prop where
 kinds:t.kind=1∨t.kind=2∨t.kind=3∨t.kind=4
 one:t.kind=1→∃c r,t.text=c::r∧isLetter c=true
 two:t.kind=2→∃c r,t.text=c::r∧isDigit c=true
 three:t.kind=3→∃c r,t.text=c::r∧isMark c=true
 four:t.kind=4→t.text=[]
 n0:t.kind≠2→t.n=0
theorem end_ok (p:Nat):TokOk (Tok.endAt p):=⟨by simp [Tok.endAt],by simp [Tok.endAt],by simp [Tok.endAt],by simp [Tok.endAt],fun _=>rfl,fun _=>rfl⟩
theorem run_pos {p:Int→Bool}{c:Int}{r:List Int}(h:p c=true):run p (c::r)=run p r+1:=by simp [run,h]
theorem step_ok {c:Int}{r:List Int}{k n:Int}{len a b:Nat}(h:step (c::r)=.tok k len n):TokOk ⟨k,a,b,(c::r).take len,n⟩:=by
 simp only [step] at h
 split at h
 · rename_i hc
   simp only [Step.tok.injEq] at h
   obtain ⟨rfl,rfl,rfl⟩:=h
   rw [run_pos (show isNameB c=true by simp [isNameB,hc])]
   exact ⟨Or.inl rfl,fun _=>⟨c,_,rfl,hc⟩,by simp,by simp,by simp,fun _=>rfl⟩
 · split at h
   · rename_i hc
     split at h
     · simp only [Step.tok.injEq] at h
       obtain ⟨rfl,rfl,rfl⟩:=h
       rw [run_pos hc]
       exact ⟨Or.inr (Or.inl rfl),by simp,fun _=>⟨c,_,rfl,hc⟩,by simp,by simp,by simp⟩
     · simp at h
   · split at h
     · rename_i hc
       simp only [Step.tok.injEq] at h
       obtain ⟨rfl,rfl,rfl⟩:=h
       refine ⟨Or.inr (Or.inr (Or.inl rfl)),by simp,by simp,fun _=>?_,by simp,fun _=>rfl⟩
       split
       · exact ⟨c,_,rfl,hc⟩
       · exact ⟨c,_,rfl,hc⟩
     · simp at h
theorem lexN_oks (f p:Nat)(l:List Int)(ts:List Tok)(h:lexN f p l=.ok ts):∀t∈ts,TokOk t:=by
 induction f generalizing p l ts with
 | zero =>
  simp only [lexN,Except.ok.injEq] at h
  subst h
  intro t ht
  rw [List.mem_singleton.1 ht]
  exact end_ok p
 | succ f ih =>
  simp only [lexN] at h
  split at h
  · simp only [Except.ok.injEq] at h
    subst h
    intro t ht
    rw [List.mem_singleton.1 ht]
    exact end_ok _
  · rename_i c r hd
    split at h
    · simp at h
    · rename_i k len n hs
      cases hu:lexN f (p+blk false l+len) ((c::r).drop len) with
      | error e=>rw [hu] at h;simp [pre] at h
      | ok us =>
       rw [hu] at h
       simp only [pre,Except.ok.injEq,List.singleton_append] at h
       subst h
       intro t ht
       rcases List.mem_cons.1 ht with rfl|ht
       · exact step_ok hs
       · exact ih _ _ us hu t ht
structure PtOk (t:PT):Prop where
 kinds:t.kind=1∨t.kind=2∨t.kind=3∨t.kind=4
 one:t.kind=1→∃c r,t.txt=strOfNums (c::r)∧isLetter c=true
 two:t.kind=2→∃c r,t.txt=strOfNums (c::r)∧isDigit c=true
 three:t.kind=3→∃c r,t.txt=strOfNums (c::r)∧isMark c=true
 four:t.kind=4→t.txt=none0
theorem pt_ok {t:Tok}(h:TokOk t):PtOk (ptOf t):=by
 refine ⟨h.kinds,fun hk=>?_,fun hk=>?_,fun hk=>?_,fun hk=>?_⟩
 · obtain ⟨c,r,e,hc⟩:=h.one hk;exact ⟨c,r,by simp only [ptOf,e],hc⟩
 · obtain ⟨c,r,e,hc⟩:=h.two hk;exact ⟨c,r,by simp only [ptOf,e],hc⟩
 · obtain ⟨c,r,e,hc⟩:=h.three hk;exact ⟨c,r,by simp only [ptOf,e],hc⟩
 · simp only [ptOf,h.four hk,strOfNums];rfl
def head0 (s:ByteArray):Nat:=s.data.toList.head?.elim 0 UInt8.toNat
theorem head0_str (c:Int)(r:List Int)(hc:0≤c∧c<256):head0 (strOfNums (c::r))=c.toNat:=by
 simp only [head0,strOfNums_data,List.map_cons,List.head?_cons,Option.elim]
 simp
 omega
theorem pt_no2 {t:PT}(h:PtOk t)(s:ByteArray)(hs:¬ (48≤head0 s∧head0 s≤57))(he:t.txt=s):t.kind≠2:=fun hk=>by
 obtain ⟨c,r,e,hc⟩:=h.two hk
 simp only [isDigit,Bool.and_eq_true,decide_eq_true_eq] at hc
 rw [← he,e,head0_str c r (by omega)] at hs
 omega
theorem pt_no4 {t:PT}(h:PtOk t)(s:ByteArray)(hs:s≠none0)(he:t.txt=s):t.kind≠4:=fun hk=>hs (by rw [← he,h.four hk])
theorem pt_word {t:PT}(h:PtOk t)(s:ByteArray)(hs:97≤head0 s∧head0 s≤122)(hn:s≠none0)(he:t.txt=s):t.kind=1:=by
 rcases h.kinds with hk|hk|hk|hk
 · exact hk
 · exact absurd hk (pt_no2 h s (by omega) he)
 · obtain ⟨c,r,e,hc⟩:=h.three hk
   have hb:(0≤c∧c<256)∧¬ (97≤c∧c≤122):=by
    simp only [isMark,List.contains_eq_mem,List.mem_cons,List.not_mem_nil,or_false,decide_eq_true_eq] at hc
    omega
   rw [← he,e,head0_str c r hb.1] at hs
   omega
 · exact absurd hk (pt_no4 h s hn he)
end
namespace Rf
open Go.RowKit
structure RS (E:Env)(v:Value)(kvs:List Value)(md:List Nd)(i:Nat)(d e:Int)(w:World):Prop where
 below:Below E.b E.W w
 lt:E.b<w.heap.size
 gl:E.g<E.b
 cap:E.toks.length≤E.cap
 tok:∀j k u,j<E.toks.length→(tokC5 (E.toks.getD j (Tok.endAt 0)))[k]?=some u→w.cell? ⟨E.g,j*5+k,none⟩=some u
 oks:∀t∈E.toks,TokOk t
 last:∀j,j<E.toks.length→(E.toks.getD j (Tok.endAt 0)).kind≠4→j+1<E.toks.length
 row:w.heap[E.b]?=some (.cells #[.slice (some ⟨E.g,0,none⟩) E.toks.length E.cap,.int .i64 (i:Int),.int .i64 d,v,.int .i64 e] 158 (0,0))
 it:i<E.toks.length
 few:E.toks.length≤70000
 dd:0≤d∧d≤65
 klen:kvs.length=md.length
 own:w.ownsRow (E.b+1) 99 5 v md.length (cellsM md kvs)
 kids:∀j,j<md.length→own1 (E.b+1) w (kvs.getD j default) (md.getD j default).kids
 apart:∀x∈kvs,∀k,x.ownBlock=some k→v.ownBlock≠some k
 pair:kvs.Pairwise fun x y=>∀k,x.ownBlock=some k→y.ownBlock≠some k
def RT (E:Env)(i:Nat):PT:=ptOf (E.toks.getD i (Tok.endAt 0))
section
variable {E:Env}{v:Value}{kvs:List Value}{md:List Nd}{i:Nat}{d e:Int}{w:World}
theorem RS.vlt (h:RS E v kvs md i d e w):∀k,v.ownBlock=some k→E.b<k∧k<w.heap.size:=fun k hk=>by
 have:=h.own.lt k hk
 omega
theorem RS.klt (h:RS E v kvs md i d e w):∀x∈kvs,∀k,x.ownBlock=some k→E.b<k∧k<w.heap.size:=fun x hx k hk=>by
 obtain ⟨j,hj,rfl⟩:=List.getElem_of_mem hx
 have h1:=(h.kids j (by rw [← h.klen];exact hj)).lt k (by simpa [List.getD,hj] using hk)
 omega
theorem RS.grown {w':World}{row:Option Nat}(h:RS E v kvs md i d e w)(hg:w.grownBy w' row)(hr:∀q,row=some q→Loc E v kvs q):RS E v kvs md i d e w' where
 below:=h.below.grown hg (Nat.le_of_lt h.lt) (fun k e=>Nat.le_of_lt (hr k e).lt)
 lt:=Nat.lt_of_lt_of_le h.lt hg.size
 gl:=h.gl
 cap:=h.cap
 tok:=fun j k u hj hi=>by
  have:=h.tok j k u hj hi
  have hl:=h.lt
  have hgl:=h.gl
  rw [World.cell?_of_block (w:=w) (a:=⟨E.g,j*5+k,none⟩) (hg.block E.g (by omega) (fun e=>by have:=(hr _ e.symm).lt;omega))]
  exact this
 oks:=h.oks
 last:=h.last
 row:=by rw [hg.block E.b h.lt (fun e=>by have:=(hr _ e.symm).lt;omega)];exact h.row
 it:=h.it
 few:=h.few
 dd:=h.dd
 klen:=h.klen
 own:=h.own.kept hg (by
  cases hv:v.ownBlock with
  | none=>exact Or.inl rfl
  | some k=>exact Or.inr (fun e=>by have:=(hr k e.symm).v;rw [hv] at this;exact this rfl))
 kids:=fun j hj=>(h.kids j hj).kept hg (by
  cases hv:(kvs.getD j default).ownBlock with
  | none=>exact Or.inl rfl
  | some k =>
   refine Or.inr (fun e=>?_)
   have hj':j<kvs.length:=by rw [h.klen];exact hj
   have:=(hr k e.symm).ks (kvs.getD j default) (by simp [List.getD,hj'])
   rw [hv] at this;exact this rfl)
 apart:=h.apart
 pair:=h.pair
theorem RS.alloc (h:RS E v kvs md i d e w)(o:Obj):RS E v kvs md i d e (w.alloc o):=h.grown (World.grownBy_alloc w o none) (fun _ e=>by cases e)
theorem RS.set (h:RS E v kvs md i d e w){a:Addr}(ha:Loc E v kvs a.block)(u:Value):RS E v kvs md i d e (w.setCell a u):=h.grown (grownBy_set w a u) (fun q e=>by cases e;exact ha)
theorem RS.drewN (h:RS E v kvs md i d e w)(n:Nat):RS E v kvs md i d e (w.drewN n):=h.grown (grownBy_drewN w n) (fun _ e=>by cases e)
theorem RS.field (h:RS E v kvs md i d e w)(j:Nat)(u:Value){i':Nat}{d' e':Int}(hi:i'<E.toks.length)(hd:0≤d'∧d'≤65)
 (hr:(#[.slice (some ⟨E.g,0,none⟩) E.toks.length E.cap,.int .i64 (i:Int),.int .i64 d,v,.int .i64 e]:Array Value).setIfInBounds j u=#[.slice (some ⟨E.g,0,none⟩) E.toks.length E.cap,.int .i64 (i':Int),.int .i64 d',v,.int .i64 e']) :
 RS E v kvs md i' d' e' (w.setCell ⟨E.b,j,none⟩ u) where
 below:=h.below.setCell (p:=⟨E.b,j,none⟩) (Nat.le_refl _) _
 lt:=by simpa [World.setCell] using h.lt
 gl:=h.gl
 cap:=h.cap
 tok:=fun j' k u hj hk=>by
  have:=h.gl
  rw [World.cell?_of_block (w:=w) (a:=⟨E.g,j'*5+k,none⟩) (Below.heap_setCell _ _ _ _ (show E.g≠E.b by omega))]
  exact h.tok j' k u hj hk
 oks:=h.oks
 last:=h.last
 row:=by rw [heap_set _ _ _ _ _ _ h.row,hr]
 it:=hi
 few:=h.few
 dd:=hd
 klen:=h.klen
 own:=h.own.kept (grownBy_set w _ _) (by
  cases hv:v.ownBlock with
  | none=>exact Or.inl rfl
  | some k=>exact Or.inr (fun e=>by have:=h.vlt k hv;have e:=Option.some.inj e;simp only at e;omega))
 kids:=fun j hj=>(h.kids j hj).grown (grownBy_set w _ _) (by
  cases hv:(kvs.getD j default).ownBlock with
  | none=>exact Or.inl rfl
  | some k=>exact Or.inr (fun e=>by have:=(h.kids j hj).lt k hv;have e:=Option.some.inj e;simp only at e;omega))
 apart:=h.apart
 pair:=h.pair
theorem RS.rowCells (h:RS E v kvs md i d e w):w.cell? ⟨E.b,0,none⟩=some (.slice (some ⟨E.g,0,none⟩) E.toks.length E.cap)∧w.cell? ⟨E.b,1,none⟩=some (.int .i64 (i:Int))∧w.cell? ⟨E.b,2,none⟩=some (.int .i64 d)∧w.cell? ⟨E.b,3,none⟩=some v∧w.cell? ⟨E.b,4,none⟩=some (.int .i64 e) :=
 ⟨by rw [cell_of_row _ _ _ _ _ _ h.row];rfl,by rw [cell_of_row _ _ _ _ _ _ h.row];rfl,by rw [cell_of_row _ _ _ _ _ _ h.row];rfl,by rw [cell_of_row _ _ _ _ _ _ h.row];rfl,by rw [cell_of_row _ _ _ _ _ _ h.row];rfl⟩
theorem RS.fz (h:RS E v kvs md i d e w)(j:Nat):w.frozen? ⟨E.b,j,none⟩=false:=frozen_of_row _ _ _ _ _ h.row
theorem RS.tokCells (h:RS E v kvs md i d e w):w.cell? ⟨E.g,i*5,none⟩=some (.int .u8 (RT E i).kind)∧w.cell? ⟨E.g,i*5+1,none⟩=some (.int .i64 ((RT E i).at':Int))∧w.cell? ⟨E.g,i*5+3,none⟩=some (.string (RT E i).txt)∧w.cell? ⟨E.g,i*5+4,none⟩=some (.int .i64 (RT E i).n) :=
 ⟨h.tok i 0 _ h.it rfl,h.tok i 1 _ h.it rfl,h.tok i 3 _ h.it rfl,h.tok i 4 _ h.it rfl⟩
theorem RS.ptOk (h:RS E v kvs md i d e w):PtOk (RT E i):=pt_ok (h.oks _ (by
 have:=h.it
 simp [List.getD,this]))
theorem RS.drop (h:RS E v kvs md i d e w):E.pts.drop i=RT E i::E.pts.drop (i+1):=by
 have hi:i<E.pts.length:=by simpa [Env.pts] using h.it
 rw [List.drop_eq_getElem_cons hi]
 congr 1
 have:=h.it
 simp [RT,Env.pts,List.getD,this]
theorem text_at (h:RS E v kvs md i d e w):Calls Tryz.prog 161 #[.pointer (some ⟨E.b,0,none⟩)] w fun x w'=>x=.returned (.string (RT E i).txt)∧∃m,w'=w.drewN m:=by
 obtain ⟨c0,c1,_,_,_⟩:=h.rowCells
 obtain ⟨_,_,k3,_⟩:=h.tokCells
 have b0:(0:Int)≤(i:Int):=by omega
 have b1:(i:Int)<(E.toks.length:Int):=by have:=h.it;omega
 have hcap:=h.cap
 generalize (RT E i).txt=tx at *
 clear h
 go_enter Tryz.func161,Tryz.ntmps161
 go_wp2_with fail
 go_quiet (fail)
 go_wp2
 go_ret
 exact ⟨rfl,nq,rfl⟩
theorem is_err (h:RS E v kvs md i d e w)(he:e≠0)(s:ByteArray):Calls Tryz.prog 95 #[.pointer (some ⟨E.b,0,none⟩),.string s] w fun x w'=>x=.returned (.bool false)∧∃m,w'=w.drewN m:=by
 obtain ⟨_,_,_,_,c4⟩:=h.rowCells
 have hb:(e==0)=false:=by simpa using he
 clear h
 go_enter Tryz.func95,Tryz.ntmps95
 go_wp2_with fail
 go_quiet (fail)
 go_wp2
 go_ret
 exact ⟨rfl,nq,rfl⟩
theorem is_at (h:RS E v kvs md i d 0 w)(s:ByteArray)(hs:¬ (48≤head0 s∧head0 s≤57))(hn:s≠none0):Calls Tryz.prog 95 #[.pointer (some ⟨E.b,0,none⟩),.string s] w fun x w'=>x=.returned (.bool (decide ((RT E i).txt=s)))∧∃m,w'=w.drewN m:=by
 obtain ⟨c0,c1,_,_,c4⟩:=h.rowCells
 obtain ⟨k0,_,k3,_⟩:=h.tokCells
 have b0:(0:Int)≤(i:Int):=by omega
 have b1:(i:Int)<(E.toks.length:Int):=by have:=h.it;omega
 have hcap:=h.cap
 have H2:=lh (fun he=>pt_no2 h.ptOk s hs he)
 have H4:=lh (fun he=>pt_no4 h.ptOk s hn he)
 have HT:=lh (fun n=>text_at (h.drewN n))
 generalize (RT E i).txt=tx at *
 generalize (RT E i).kind=kd at *
 have HB:=lh (beq_str tx s)
 clear h hs hn
 by_cases h4:kd=4
 · have hk4:(kd != 4)=false:=by simp [h4]
   have HF:Hid (decide (tx=s)=false):=lh (decide_eq_false fun he=>H4.out he h4)
   clear h4
   go_enter Tryz.func95,Tryz.ntmps95
   go_wp2_with fail
   go_quiet (fail)
   go_wp2
   go_ret
   exact ⟨by rw [HF.out];rfl,nq,rfl⟩
 · have hk4:(kd != 4)=true:=by simpa using h4
   clear h4
   by_cases h2:kd=2
   · have hk2:(kd != 2)=false:=by simp [h2]
     have HF:Hid (decide (tx=s)=false):=lh (decide_eq_false fun he=>H2.out he h2)
     clear h2
     go_enter Tryz.func95,Tryz.ntmps95
     go_wp2_with fail
     go_quiet (fail)
     go_wp2
     go_ret
     exact ⟨by rw [HF.out];rfl,nq,rfl⟩
   · have hk2:(kd != 2)=true:=by simpa using h2
     clear h2
     go_enter Tryz.func95,Tryz.ntmps95
     go_wp2_with fail
     go_quiet (first|(go_at_call 161;refine Calls.quiet_of (HT.out _)))
     go_wp2
     rw [HB.out]
     go_ret
     exact ⟨rfl,nq,rfl⟩
structure Kp (E:Env)(v:Value)(kvs:List Value)(md:List Nd)(i:Nat)(d e:Int)(w w':World):Prop where
 rs:RS E v kvs md i d e w'
 fr:Fr E w.heap.size v v w w'
theorem RS.keep (h:RS E v kvs md i d e w):Kp E v kvs md i d e w w:=⟨h,Fr.refl _ _ _ _⟩
theorem Kp.drewN {w0:World}(h:Kp E v kvs md i d e w0 w)(n:Nat):Kp E v kvs md i d e w0 (w.drewN n):=⟨h.rs.drewN n,h.fr.drewN n⟩
theorem Kp.field {w0:World}(h:Kp E v kvs md i d e w0 w)(j:Nat)(u:Value){i':Nat}{d' e':Int}(hi:i'<E.toks.length)(hd:0≤d'∧d'≤65)
 (hr:(#[.slice (some ⟨E.g,0,none⟩) E.toks.length E.cap,.int .i64 (i:Int),.int .i64 d,v,.int .i64 e]:Array Value).setIfInBounds j u=#[.slice (some ⟨E.g,0,none⟩) E.toks.length E.cap,.int .i64 (i':Int),.int .i64 d',v,.int .i64 e']) :
 Kp E v kvs md i' d' e' w0 (w.setCell ⟨E.b,j,none⟩ u):=⟨h.rs.field j u hi hd hr,h.fr.setB j u⟩
theorem fail_at (h:RS E v kvs md i d 0 w)(c:Int):Calls Tryz.prog 98 #[.pointer (some ⟨E.b,0,none⟩),.int .i64 c] w fun x w'=>x=.returned (.tuple #[])∧Kp E v kvs md i d c w w':=by
 obtain ⟨_,_,_,_,c4⟩:=h.rowCells
 have z:=h.fz
 have HS:=lh h
 clear h
 go_enter Tryz.func98,Tryz.ntmps98
 go_wp2_with fail
 simp [bodyPost,results,Tryz.results98,go_sem]
 exact HS.out.keep.field 4 _ HS.out.it HS.out.dd rfl
theorem fail_err (h:RS E v kvs md i d e w)(he:e≠0)(c:Int):Calls Tryz.prog 98 #[.pointer (some ⟨E.b,0,none⟩),.int .i64 c] w fun x w'=>x=.returned (.tuple #[])∧Kp E v kvs md i d e w w':=by
 obtain ⟨_,_,_,_,c4⟩:=h.rowCells
 have hb:(e==0)=false:=by simpa using he
 have HS:=lh h
 clear h
 go_enter Tryz.func98,Tryz.ntmps98
 go_wp2_with fail
 simp [bodyPost,results,Tryz.results98,go_sem]
 exact HS.out.keep
theorem take_err (h:RS E v kvs md i d e w)(he:e≠0)(s:ByteArray):Calls Tryz.prog 164 #[.pointer (some ⟨E.b,0,none⟩),.string s] w fun x w'=>x=.returned (.tuple #[])∧Kp E v kvs md i d e w w':=by
 have IS:=lh (is_err h he s)
 have HS:=lh h
 have HE:=lh he
 clear h he
 go_enter Tryz.func164,Tryz.ntmps164
 go_wp2_with fail
 (with_reducible refine IS.out.mono ?_)
 rintro x w1 ⟨rfl,m,rfl⟩
 have FL:=lh (fail_err (HS.out.drewN m) HE.out 50)
 clear IS
 go_wp2_with fail
 (with_reducible refine FL.out.mono ?_)
 rintro x w2 ⟨rfl,hk⟩
 have HK:=lh hk
 clear hk FL
 go_wp2
 simp [bodyPost,results,Tryz.results164,go_sem]
 exact ⟨HK.out.rs,((Fr.refl E w.heap.size v w).drewN m).trans HK.out.fr⟩
theorem take_no (h:RS E v kvs md i d 0 w)(s:ByteArray)(hs:¬ (48≤head0 s∧head0 s≤57))(hn:s≠none0)(ht:¬ (RT E i).txt=s):Calls Tryz.prog 164 #[.pointer (some ⟨E.b,0,none⟩),.string s] w fun x w'=>x=.returned (.tuple #[])∧Kp E v kvs md i d 50 w w':=by
 have IS:=lh (is_at h s hs hn)
 have HS:=lh h
 rw [decide_eq_false ht] at IS
 clear h hs hn ht
 go_enter Tryz.func164,Tryz.ntmps164
 go_wp2_with fail
 (with_reducible refine IS.out.mono ?_)
 rintro x w1 ⟨rfl,m,rfl⟩
 have FL:=lh (fail_at (HS.out.drewN m) 50)
 clear IS
 go_wp2_with fail
 (with_reducible refine FL.out.mono ?_)
 rintro x w2 ⟨rfl,hk⟩
 have HK:=lh hk
 clear hk FL
 go_wp2
 simp [bodyPost,results,Tryz.results164,go_sem]
 exact ⟨HK.out.rs,((Fr.refl E w.heap.size v w).drewN m).trans HK.out.fr⟩
theorem take_yes (h:RS E v kvs md i d 0 w)(s:ByteArray)(hs:¬ (48≤head0 s∧head0 s≤57))(hn:s≠none0)(ht:(RT E i).txt=s):Calls Tryz.prog 164 #[.pointer (some ⟨E.b,0,none⟩),.string s] w fun x w'=>x=.returned (.tuple #[])∧Kp E v kvs md (i+1) d 0 w w':=by
 have IS:=lh (is_at h s hs hn)
 have HS:=lh h
 have HL:=lh (h.last i h.it (pt_no4 h.ptOk s hn ht))
 rw [decide_eq_true ht] at IS
 clear h hs hn ht
 go_enter Tryz.func164,Tryz.ntmps164
 go_wp2_with fail
 (with_reducible refine IS.out.mono ?_)
 rintro x w1 ⟨rfl,m,rfl⟩
 have HD:=lh (HS.out.drewN m)
 obtain ⟨_,c1,_,_,_⟩:=HD.out.rowCells
 have z:=HD.out.fz
 have h63:(i:Int)+1≤9223372036854775807:=by have:=HS.out.it;have:=HS.out.few;omega
 clear IS
 go_wp2_with fail
 simp [bodyPost,results,Tryz.results164,go_sem]
 exact (HS.out.keep.drewN m).field 1 _ HL.out HS.out.dd (by simp)
end
end Rf
namespace Rf
open Go.RowKit
section
variable {E:Env}{v:Value}{kvs:List Value}{md:List Nd}{i:Nat}{d e:Int}{w:World}
theorem Kp.trans {i2 i3:Nat}{d2 d3 e2 e3:Int}{w2 w3:World}(h:Kp E v kvs md i2 d2 e2 w w2)(h':Kp E v kvs md i3 d3 e3 w2 w3):Kp E v kvs md i3 d3 e3 w w3:=⟨h'.rs,h.fr.trans (h'.fr.mono h.fr.size)⟩
theorem name_err (h:RS E v kvs md i d e w)(he:e≠0):Calls Tryz.prog 163 #[.pointer (some ⟨E.b,0,none⟩)] w fun x w'=>x=.returned (.string ⟨#[]⟩)∧Kp E v kvs md i d e w w':=by
 obtain ⟨_,_,_,_,c4⟩:=h.rowCells
 have hb:(e != 0)=true:=by simpa using he
 have HS:=lh h
 have HE:=lh he
 clear h he
 go_enter Tryz.func163,Tryz.ntmps163
 go_wp2_with fail
 go_quiet (fail)
 have FL:=lh (fail_err (HS.out.drewN nq) HE.out 50)
 go_wp2_with fail
 (with_reducible refine FL.out.mono ?_)
 rintro x w2 ⟨rfl,hk⟩
 have HK:=lh hk
 clear hk FL
 go_wp2
 go_ret
 exact ⟨rfl,(HS.out.keep.drewN nq).trans HK.out⟩
theorem name_no (h:RS E v kvs md i d 0 w)(ht:(RT E i).kind≠1):Calls Tryz.prog 163 #[.pointer (some ⟨E.b,0,none⟩)] w fun x w'=>x=.returned (.string ⟨#[]⟩)∧Kp E v kvs md i d 50 w w':=by
 obtain ⟨c0,c1,_,_,c4⟩:=h.rowCells
 obtain ⟨k0,_,_,_⟩:=h.tokCells
 have b0:(0:Int)≤(i:Int):=by omega
 have b1:(i:Int)<(E.toks.length:Int):=by have:=h.it;omega
 have hcap:=h.cap
 have hb:((RT E i).kind != 1)=true:=by simpa using ht
 generalize (RT E i).kind=kd at *
 have HS:=lh h
 clear h ht
 go_enter Tryz.func163,Tryz.ntmps163
 go_wp2_with fail
 go_quiet (fail)
 have FL:=lh (fail_at (HS.out.drewN nq) 50)
 go_wp2_with fail
 (with_reducible refine FL.out.mono ?_)
 rintro x w2 ⟨rfl,hk⟩
 have HK:=lh hk
 clear hk FL
 go_wp2
 go_ret
 exact ⟨rfl,(HS.out.keep.drewN nq).trans HK.out⟩
theorem name_yes (h:RS E v kvs md i d 0 w)(ht:(RT E i).kind=1):Calls Tryz.prog 163 #[.pointer (some ⟨E.b,0,none⟩)] w fun x w'=>x=.returned (.string (RT E i).txt)∧Kp E v kvs md (i+1) d 0 w w':=by
 obtain ⟨c0,c1,_,_,c4⟩:=h.rowCells
 obtain ⟨k0,_,k3,_⟩:=h.tokCells
 have b0:(0:Int)≤(i:Int):=by omega
 have b1:(i:Int)<(E.toks.length:Int):=by have:=h.it;omega
 have hcap:=h.cap
 have HL:=lh (h.last i h.it (show (RT E i).kind≠4 by rw [ht];decide))
 have hb:((RT E i).kind != 1)=false:=by simp [ht]
 have z:=h.fz
 have hgl:=h.gl
 have hlt:=h.lt
 have hgb:E.g≠E.b:=by omega
 have hbg:E.b≠E.g:=by omega
 have h63:(i:Int)+1≤9223372036854775807:=by have:=h.it;have:=h.few;omega
 generalize (RT E i).kind=kd at *
 generalize (RT E i).txt=tx at *
 have HS:=lh h
 clear h ht
 go_enter Tryz.func163,Tryz.ntmps163
 go_wp2_with fail
 go_quiet (fail)
 have HD:=lh (HS.out.drewN nq)
 obtain ⟨d0,d1,_,_,d4⟩:=HD.out.rowCells
 have zd:=HD.out.fz
 have HK:=lh (HD.out.keep.field 1 (.int .i64 ((i:Int)+1)) (i':=i+1) (d':=d) (e':=0) HL.out HS.out.dd (by simp))
 obtain ⟨f0,f1,_,_,f4⟩:=HK.out.rs.rowCells
 have k3':((w.drewN nq).setCell ⟨E.b,1,none⟩ (.int .i64 ((i:Int)+1))).cell? ⟨E.g,i*5+3,none⟩=some (.string tx):=by
  rw [World.cell?_of_block (w:=w.drewN nq) (a:=⟨E.g,i*5+3,none⟩) (Below.heap_setCell _ _ _ _ hgb)]
  exact k3
 have hsub:((i:Int)+1-1)=(i:Int):=by omega
 clear k0 k3 c0 c1 c4
 go_wp2_with fail
 go_quiet (fail)
 go_wp2
 go_ret
 exact ⟨rfl,(HS.out.keep.drewN _).trans (HK.out.drewN _)⟩
theorem in_deep (h:RS E v kvs md i 64 0 w):Calls Tryz.prog 222 #[.pointer (some ⟨E.b,0,none⟩)] w fun x w'=>x=.returned (.bool false)∧Kp E v kvs md i 65 51 w w':=by
 obtain ⟨_,_,c2,_,c4⟩:=h.rowCells
 have FL:=lh (fail_at h 51)
 clear h
 go_enter Tryz.func222,Tryz.ntmps222
 go_wp2_with fail
 (with_reducible refine FL.out.mono ?_)
 rintro x w2 ⟨rfl,hk⟩
 have HK2:=lh hk
 obtain ⟨_,_,c2,_,c4⟩:=hk.rs.rowCells
 have z:=hk.rs.fz
 have HK:=lh (hk.rs.keep.field 2 (.int .i64 65) (d':=65) hk.rs.it (by omega) rfl)
 obtain ⟨_,_,_,_,f4⟩:=HK.out.rs.rowCells
 clear hk FL
 go_wp2_with fail
 go_ret
 exact ⟨rfl,HK2.out.trans HK.out⟩
theorem in_ok (h:RS E v kvs md i d 0 w)(hd:d<64):Calls Tryz.prog 222 #[.pointer (some ⟨E.b,0,none⟩)] w fun x w'=>x=.returned (.bool true)∧Kp E v kvs md i (d+1) 0 w w':=by
 obtain ⟨_,_,c2,_,c4⟩:=h.rowCells
 have z:=h.fz
 have hdd:=h.dd
 have HK:=lh (h.keep.field 2 (.int .i64 (d+1)) (d':=d+1) h.it (by omega) rfl)
 obtain ⟨_,_,_,_,f4⟩:=HK.out.rs.rowCells
 have hn:decide (64≤d)=false:=decide_eq_false (by omega)
 have h63:d+1≤9223372036854775807:=by omega
 have h64:-9223372036854775808≤d+1:=by omega
 have hw:IntKind.i64.wrap (d+1)=d+1:=IntWalk.i64_in _ (by omega)
 clear h
 go_enter Tryz.func222,Tryz.ntmps222
 go_wp2_with fail
 go_ret
 exact ⟨rfl,HK.out⟩
end
end Rf
end Go.Proofs.YthdioipfdbbmmaaGreatDoor
