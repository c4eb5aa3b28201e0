/- Contracts. -/
import Derived.Test.YthdioipfdbbmmaaGreatDoorKac
import Derived.Maps.Own
import Derived.Maps.OwnSet
import Derived.Maps.Views
import Derived.StringKeys
set_option linter.all false
set_option maxRecDepth 1000000
set_option maxHeartbeats 16000000
namespace Go.Proofs.YthdioipfdbbmmaaGreatDoor
namespace Nm
open Tr
structure Vr where
 name:ByteArray
 num:Nat
 loop:Bool
structure Tb where
 name:ByteArray
 cols:List ByteArray
structure Pr where
 name:ByteArray
 params:Nat
 vars:List ByteArray
 single:Bool
 root:Nat
abbrev NE:=Except (Nat × Int)
def late:Nat × Int:=(0,-1)
def nd (ns:List Nd)(i:Nat):Nd:=ns.getD i default
def kid (ns:List Nd)(i j:Nat):Nat:=((nd ns i).kids.getD j 0).toNat
def idx (l:List ByteArray)(s:ByteArray):Option Nat:=l.findIdx? (fun x=>decide (x=s))
def look (e:List Vr)(s:ByteArray):Option Vr:=e.find? (fun v=>decide (v.name=s))
structure St where
 of:List Int
 vars:List ByteArray
 envs:List (List Vr)
def St.there (s:St):List Vr:=s.envs.headD []
def St.set (s:St)(i:Nat)(v:Int):St:={ s with of:=s.of.set i v }
section
variable (ns:List Nd)(tabs:List Tb)
def declare (i:Nat)(loop:Bool)(s:St):NE St :=
 if s.vars.length=64 then .error (i,3)
 else .ok { of:=s.of.set i s.vars.length,vars:=s.vars++[(nd ns i).text],envs:=(s.there++[⟨(nd ns i).text,s.vars.length,loop⟩])::s.envs.drop 1 }
def mustBeNew (i:Nat)(s:St):NE St:=if (look s.there (nd ns i).text).isSome then .error (i,71) else .ok s
def assign (i:Nat)(s:St):NE St:=match look s.there (nd ns i).text with
 | none=>declare ns i false s
 | some v=>if v.loop then .error (i,71) else .ok (s.set i v.num)
def tableOf (i:Nat)(s:St):NE (Nat × St):=match idx (tabs.map Tb.name) (nd ns i).text with
 | none=>.error (i,70)
 | some t=>.ok (t,s.set i t)
def column (i t:Nat)(s:St):NE St:=match idx ((tabs.map Tb.cols).getD t []) (nd ns i).text with
 | none=>.error (i,70)
 | some c=>.ok (s.set i c)
def expr:Nat→Nat→Nat→St→NE St
 | 0,_,_,_=>.error late
 | _+1,_,0,s=>.ok s
 | f+1,i,left+1,s =>
  if (nd ns i).kind=22 then match look s.there (nd ns i).text with
   | none=>.error (i,70)
   | some v=>expr f (i+1) (left+(nd ns i).kids.length) (s.set i v.num)
  else expr f (i+1) (left+(nd ns i).kids.length) s
def exprAt (i:Nat)(s:St):NE St:=expr ns (ns.length+1) i 1 s
def row (i:Nat)(s:St):NE (Nat × St):=do
 let (t,s) ← tableOf ns tabs i s
 let s ← exprAt ns (kid ns i 0) s
 .ok (t,s)
def exprs:List Nat→St→NE St
 | [],s=>.ok s
 | i::r,s=>do
  let s ← exprAt ns i s
  exprs r s
def put (i:Nat)(s:St):NE St:=do
 let (t,s) ← tableOf ns tabs (kid ns i 0) s
 if (nd ns i).kids.length≠((tabs.map Tb.cols).getD t []).length+1 then .error (i,72)
 else
  let (t',s) ← row ns tabs (kid ns i 0) s
  exprs ns (((nd ns i).kids.drop 1).map Int.toNat) (s.set i t')
abbrev Item:=Option Nat
def kidsOf (i:Nat):List Item:=(nd ns i).kids.map (fun k=>some k.toNat)
def statement (i:Nat)(s:St):NE (List Item × St) :=
 if (nd ns i).kind=6 then .ok (kidsOf ns i++[none],{ s with envs:=s.there::s.envs })
 else if (nd ns i).kind=7 then do
  let (t,s) ← row ns tabs (kid ns i 0) s
  let s ← column ns tabs (kid ns i 1) t s
  let s ← assign ns i s
  .ok ([],s)
 else if (nd ns i).kind=8 then do
  let (t,s) ← row ns tabs (kid ns i 0) s
  let s ← column ns tabs (kid ns i 1) t s
  let s ← exprAt ns (kid ns i 2) s
  .ok ([],s)
 else if (nd ns i).kind=9 then do
  let s ← put ns tabs i s
  .ok ([],s)
 else if (nd ns i).kind=10 then do
  let (_,s) ← row ns tabs (kid ns i 0) s
  .ok ([],s)
 else if (nd ns i).kind=11 then do
  let (t,s) ← tableOf ns tabs (kid ns i 0) s
  let s ← column ns tabs (kid ns i 1) t s
  let s ← assign ns i s
  .ok ([],s)
 else if (nd ns i).kind=12 then do
  let (_,s) ← tableOf ns tabs (kid ns i 0) s
  .ok ([],s)
 else if (nd ns i).kind=13 then do
  let (_,s) ← if (nd ns (kid ns i 0)).kind=20 then row ns tabs (kid ns i 0) s else tableOf ns tabs (kid ns i 0) s
  .ok ([],s)
 else if (nd ns i).kind=14 then do
  let s ← exprAt ns (kid ns i 0) s
  let s ← exprAt ns (kid ns i 1) s
  .ok ((kidsOf ns i).drop 2,s)
 else if (nd ns i).kind=15 then do
  let s ← mustBeNew ns i s
  let s ← declare ns i true { s with envs:=s.there::s.envs }
  .ok (kidsOf ns (kid ns i 2)++[none],s)
 else if (nd ns i).kind=16 then do
  let s ← exprAt ns (kid ns i 0) s
  let s ← assign ns i s
  .ok ([],s)
 else if (nd ns i).kind=17 then do
  let s ← exprAt ns (kid ns i 0) s
  .ok ([],s)
 else if (nd ns i).kind=19 then if 1<s.envs.length then .error (i,73) else .ok ([],s)
 else .ok ([],s)
def read:Nat→List Item→St→NE St
 | _,[],s=>.ok s
 | 0,_::_,_=>.error late
 | f+1,none::r,s=>read f r { s with envs:=s.envs.drop 1 }
 | f+1,some i::r,s=>do
  let (more,s) ← statement ns tabs i s
  read f (more++r) s
def params:List Nat→St→NE St
 | [],s=>.ok s
 | i::r,s=>do
  let s ← mustBeNew ns i s
  let s ← declare ns i false s
  params r s
def proc (i:Nat)(of:List Int):NE (List Int × Pr):=do
 let ps:=(nd ns (kid ns i 0)).kids.map Int.toNat
 let s ← params ns ps { of:=of,vars:=[],envs:=[[]] }
 let s ← read ns tabs (2*ns.length+2) (kidsOf ns (kid ns i 1)++[none]) s
 .ok (s.of,{ name:=(nd ns i).text,params:=ps.length,vars:=s.vars,single:=decide ((nd ns i).n=1),root:=i })
end
def number (ns:List Nd)(names:List ByteArray)(i most:Nat)(of:List Int):NE (List Int × List ByteArray) :=
 if (idx names (nd ns i).text).isSome then .error (i,71) else if names.length=most then .error (i,3) else .ok (of.set i names.length,names++[(nd ns i).text])
def cols (ns:List Nd):List Nat→List ByteArray→List Int→NE (List Int × List ByteArray)
 | [],cs,of=>.ok (of,cs)
 | i::r,cs,of=>do
  let (of,cs) ← number ns cs i 16 of
  cols ns r cs of
structure Hd where
 of:List Int
 tnames:List ByteArray
 pnames:List ByteArray
 tabs:List Tb
def table (ns:List Nd)(i:Nat)(h:Hd):NE Hd:=do
 let (of,tn) ← number ns h.tnames i 64 h.of
 if 16<(nd ns i).kids.length then .error (i,3)
 else
  let (of,cs) ← cols ns ((nd ns i).kids.map Int.toNat) [] of
  .ok { of:=of,tnames:=tn,pnames:=h.pnames,tabs:=h.tabs++[⟨(nd ns i).text,cs⟩] }
def heads (ns:List Nd):List Nat→Hd→NE Hd
 | [],h=>.ok h
 | i::r,h =>
  if (nd ns i).kind=2 then do
   let h ← table ns i h
   heads ns r h
  else do
   let (of,pn) ← number ns h.pnames i 64 h.of
   heads ns r { h with of:=of,pnames:=pn }
def procs (ns:List Nd)(tabs:List Tb):List Nat→List Int→List Pr→NE (List Int × List Pr)
 | [],of,ps=>.ok (of,ps)
 | i::r,of,ps =>
  if (nd ns i).kind=3 then do
   let (of,p) ← proc ns tabs i of
   procs ns tabs r of (ps++[p])
  else procs ns tabs r of ps
def whole (ns:List Nd):NE (List Tb × List Pr × List Int):=do
 let parts:=(nd ns 0).kids.map Int.toNat
 let h ← heads ns parts { of:=List.replicate ns.length (-1),tnames:=[],pnames:=[],tabs:=[] }
 let (of,ps) ← procs ns h.tabs parts h.of []
 .ok (h.tabs,ps,of)
end Nm
namespace Nm
open Go.Maps
variable {H:Type}{α:Type}
theorem snoc_ind {P:List α→Prop}(h0:P [])(h1:∀l x,P l→P (l++[x]))(l:List α):P l:=by
 have:∀n (l:List α),l.length=n→P l:=by
  intro n
  induction n with
  | zero=>intro l hl;rw [List.eq_nil_of_length_eq_zero hl];exact h0
  | succ n ih =>
   intro l hl
   have hne:l≠[]:=fun e=>by subst e;simp at hl
   rw [← List.dropLast_concat_getLast hne]
   exact h1 _ _ (ih _ (by simp [hl]))
 exact this _ l rfl
def ky (s:ByteArray):Lit:=.string s.data.toList
theorem ky_inj {a b:ByteArray}(h:ky a=ky b):a=b:=by
 unfold ky at h
 injection h with h
 have:a.data=b.data:=Array.toList_inj.1 h
 cases a;cases b;simpa using this
theorem ky_key (s:ByteArray):WideAt.IsKeyLit (ky s):=by unfold ky;simp [WideAt.IsKeyLit]
def dN (n:Nat):DataW H:=.lit (.int .i64 n)
def mapD (key:α→ByteArray)(val:α→DataW H)(l:List α):DataW H:=l.foldl (fun D x=>D.put (ky (key x)) (val x)) (.map [])
section
variable {key:α→ByteArray}{val:α→DataW H}
theorem mapD_snoc (l:List α)(x:α):mapD key val (l++[x])=(mapD key val l).put (ky (key x)) (val x):=by simp [mapD,List.foldl_append]
theorem mapD_tidy (l:List α):Tidy (mapD key val l):=by
 induction l using snoc_ind with
 | h0=>exact ⟨[],rfl,List.Pairwise.nil⟩
 | h1 l x ih=>rw [mapD_snoc];exact ih.put (ky_key _) _
theorem Tidy.isMap {D:DataW H}(h:Tidy D):IsMap D:=by obtain ⟨es,e,_⟩:=h;exact ⟨es,e⟩
theorem mapD_has (l:List α)(s:ByteArray):has (mapD key val l) (ky s)=l.any (fun x=>decide (key x=s)):=by
 induction l using snoc_ind with
 | h0=>rfl
 | h1 l x ih =>
  rw [mapD_snoc,List.any_append]
  by_cases h:key x=s
  · subst h
    rw [has_put_same (Tidy.isMap (mapD_tidy l)) (ky_key _)]
    simp
  · rw [has_put_other (fun e=>h (ky_inj e).symm),ih]
    simp [h]
def Apart (key:α→ByteArray)(l:List α):Prop:=l.Pairwise fun x y=>key x≠key y
theorem Apart.snoc {l:List α}{x:α}(h:Apart key l)(hx:∀y∈l,key y≠key x):Apart key (l++[x]) :=
 List.pairwise_append.2 ⟨h,List.pairwise_singleton _ _,fun y hy z hz=>by rw [List.mem_singleton.1 hz];exact hx y hy⟩
theorem mapD_at (l:List α)(h:Apart key l)(s:ByteArray)(z:DataW H):(mapD key val l).atKey (ky s) z=match l.find? (fun x=>decide (key x=s)) with
 | some x=>val x
 | none=>z:=by
 induction l using snoc_ind with
 | h0=>rfl
 | h1 l x ih =>
  obtain ⟨h1,_,h3⟩:=List.pairwise_append.1 h
  rw [mapD_snoc,List.find?_append]
  by_cases hs:key x=s
  · subst hs
    rw [atKey_put_same (Tidy.isMap (mapD_tidy l)) (ky_key _)]
    have hn:l.find? (fun y=>decide (key y=key x))=none:=List.find?_eq_none.2 (fun y hy=>by simpa using h3 y hy x (by simp))
    rw [hn]
    simp
  · rw [atKey_put_other (fun e=>hs (ky_inj e).symm),ih h1]
    cases l.find? (fun x=>decide (key x=s)) with
    | some y=>rfl
    | none=>simp [hs]
theorem mapD_size (l:List α)(h:Apart key l):size (mapD key val l)=l.length:=by
 induction l using snoc_ind with
 | h0=>rfl
 | h1 l x ih =>
  obtain ⟨h1,_,h3⟩:=List.pairwise_append.1 h
  rw [mapD_snoc,size_put (mapD_tidy l),mapD_has,ih h1]
  have:(l.any fun y=>decide (key y=key x))=false:=by
   rw [List.any_eq_false]
   intro y hy
   simpa using h3 y hy x (by simp)
  rw [this]
  simp
end
abbrev numD (l:List ByteArray):DataW H:=mapD (key:=Prod.fst) (val:=fun x=>dN x.2) l.zipIdx
theorem zip_apart {l:List ByteArray}(h:l.Pairwise (·≠·)):Apart Prod.fst l.zipIdx:=by
 unfold Apart
 have:=(List.pairwise_map (f:=Prod.fst) (R:=fun a b:ByteArray=>a≠b) (l:=l.zipIdx)).1
 rw [List.zipIdx_map_fst] at this
 exact this h
theorem numD_snoc (l:List ByteArray)(s:ByteArray):(numD (l++[s]):DataW H)=(numD l).put (ky s) (dN l.length):=by
 unfold numD
 rw [List.zipIdx_append,show ([s]:List ByteArray).zipIdx (0+l.length)=[(s,l.length)] by simp,mapD_snoc]
theorem zip_find (l:List ByteArray)(s:ByteArray)(k:Nat):(l.zipIdx k).find? (fun x=>decide (x.1=s))=(idx l s).map (fun j=>(s,j+k)):=by
 induction l generalizing k with
 | nil=>rfl
 | cons a l ih =>
  simp only [List.zipIdx_cons,List.find?_cons,idx,List.findIdx?_cons]
  by_cases h:a=s
  · simp [h]
  · simp only [h,decide_false]
    rw [ih]
    unfold idx
    cases l.findIdx? (fun x=>decide (x=s)) with
    | none=>rfl
    | some j=>simp;omega
theorem numD_has (l:List ByteArray)(s:ByteArray):has (numD l:DataW H) (ky s)=(idx l s).isSome:=by
 rw [mapD_has]
 have h:=zip_find l s 0
 rw [Bool.eq_iff_iff]
 constructor
 · intro h2
   obtain ⟨x,hx,he⟩:=List.any_eq_true.1 h2
   cases hi:idx l s with
   | some j=>rfl
   | none =>
    rw [hi] at h
    exact absurd he (by simpa using List.find?_eq_none.1 h x hx)
 · intro h2
   obtain ⟨j,hj⟩:=Option.isSome_iff_exists.1 h2
   rw [hj] at h
   exact List.any_eq_true.2 ⟨_,List.mem_of_find?_eq_some h,by simp⟩
theorem numD_at (l:List ByteArray)(h:l.Pairwise (·≠·))(s:ByteArray)(z:DataW H):(numD l:DataW H).atKey (ky s) z=match idx l s with
 | some j=>dN j
 | none=>z:=by
 rw [mapD_at _ (zip_apart h),zip_find]
 cases idx l s with
 | none=>rfl
 | some j=>rfl
theorem numD_size (l:List ByteArray)(h:l.Pairwise (·≠·)):size (numD l:DataW H)=l.length:=by
 rw [mapD_size _ (zip_apart h),List.length_zipIdx]
end Nm
end Go.Proofs.YthdioipfdbbmmaaGreatDoor
