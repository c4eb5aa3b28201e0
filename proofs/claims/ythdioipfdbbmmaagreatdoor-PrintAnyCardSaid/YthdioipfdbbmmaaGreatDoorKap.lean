/- Contracts. -/
import Derived.Test.YthdioipfdbbmmaaGreatDoorKab
import Derived.Test.YthdioipfdbbmmaaGreatDoorKaf
import Derived.Test.YthdioipfdbbmmaaGreatDoorKah
import Derived.Test.YthdioipfdbbmmaaGreatDoorKam
import Derived.Test.YthdioipfdbbmmaaGreatDoorKan
import Derived.Lib.ItoaNum
import Derived.Lib.BufferRead
import Derived.Laws.IdiomStrings
import Derived.Lib.ItoaLen
import Derived.Shelf.Strings.Builder1
import Derived.Shelf.Strings.Builder2
import Derived.Shelf.Strings.BuilderF
import Derived.Shelf.Strings.BuilderK
import Derived.Shelf.Strconv.Itoa0
import Derived.Shelf.Strconv.Itoa1
import Derived.Shelf.LaysM
import Derived.Shelf.Strconv.Itoa2
import Derived.Shelf.Strconv.Itoa3
import Derived.Shelf.Strconv.Itoa4
import Derived.Shelf.Strings.Search1
import Derived.Shelf.Strings.Prefix
import Derived.Shelf.Bits.Mul64
import Derived.Shelf.Strings.Repeat
import Derived.Ground.SlbNamesProg
import Derived.Test.YthdioipfdbbmmaaGreatDoorProg
import Derived.Lib.AppendIntMem
import Derived.Deep.RegionHeld3
import Derived.Laws.EntriesVeiled
import Derived.Deep.AppendLies
import Derived.OwnWalk
import Derived.Lib.LaidTab
set_option linter.all false
set_option maxRecDepth 1000000
set_option maxHeartbeats 16000000
namespace Go.Proofs.YthdioipfdbbmmaaGreatDoor
section
open Tr
def noAt (nd:Nd):Nd:={ nd with at':=0 }
theorem noAt_get (t:List Nd)(i:Nat):(t.map noAt).getD i default=noAt (t.getD i default):=by
 by_cases h:i<t.length
 · simp [List.getD,h]
 · simp only [List.getD,List.getElem?_map,List.getElem?_eq_none (Nat.le_of_not_lt h)]
   rfl
theorem rowsOf_noAt (t:List Nd):rowsOf (t.map noAt)=rowsOf t:=by simp [rowsOf,noAt]
theorem kindAt_noAt (t:List Nd)(i:Nat):kindAt (t.map noAt) i=kindAt t i:=by unfold kindAt;rw [noAt_get];rfl
theorem nodeOk_noAt (t:List Nd)(nd:Nd):nodeOk (t.map noAt) (noAt nd)=nodeOk t nd:=by
 have hk:kindsOf (t.map noAt) (noAt nd)=kindsOf t nd:=by
  unfold kindsOf
  simp only [kindAt_noAt]
  rfl
 unfold nodeOk
 rw [hk]
 rfl
theorem ruledP_noAt (t:List Nd):ruledP (t.map noAt)=ruledP t:=by
 unfold ruledP
 rw [List.all_map]
 congr 1
 funext nd
 exact nodeOk_noAt t nd
theorem rightP_noAt (t:List Nd):rightP (t.map noAt)=rightP t:=by
 have h:sizesP (t.map noAt)=sizesP t:=by unfold sizesP;rw [rowsOf_noAt]
 unfold rightP
 rw [h,kindAt_noAt,ruledP_noAt]
theorem take_add {α:Type}(l:List α)(a b:Nat):l.take (a+b)=l.take a++(l.drop a).take b:=by rw [List.take_add]
section
variable {ns:List Nd}{S:Nat→Nat}
def Sub (ns:List Nd)(i m:Nat)(x:Ast):Prop:=x.size=m∧(flat i x).map noAt=((ns.drop i).take m).map noAt
theorem kids_of (hS:∀i,i<ns.length→1≤S i∧i+S i≤ns.length)(e:Nat):∀(ks:List Int) (a:Nat),Chain S ns.length ks a e→(∀i,a≤i→i<ns.length→∃x,Sub ns i (S i) x)→a≤ns.length→∃xs,heads a xs=ks∧sizeL xs=e-a∧a≤e∧(flatL a xs).map noAt=((ns.drop a).take (e-a)).map noAt
 | [],a,h,_,_=>by
  obtain rfl:a=e:=h
  exact ⟨[],rfl,by simp [sizeL],Nat.le_refl _,by simp [flatL]⟩
 | k::ks,a,h,ih,ha=>by
  obtain ⟨h1,h2,h3⟩:=h
  obtain ⟨x,x1,x2⟩:=ih a (Nat.le_refl _) h2
  have hs:=hS a h2
  obtain ⟨xs,e1,e2,e3,e4⟩:=kids_of hS e ks (a+S a) h3 (fun i hi hn=>ih i (by omega) hn) hs.2
  refine ⟨x::xs,by simp only [heads,x1,e1,h1],by simp only [sizeL,x1,e2];omega,by omega,?_⟩
  simp only [flatL,List.map_append,x1,x2,e4]
  rw [show e-a=S a+(e-(a+S a)) by omega,take_add,List.drop_drop,List.map_append]
theorem sub_of (h:RightSz (kidsAt ns) S ns.length):∀(d i:Nat),ns.length-i=d→i<ns.length→∃x,Sub ns i (S i) x:=by
 intro d
 induction d using Nat.strongRecOn with
 | ind d ih =>
  intro i hd hi
  have hs:=h.size i hi
  obtain ⟨xs,e1,e2,e3,e4⟩:=kids_of h.size (i+S i) (kidsAt ns i) (i+1) (h.chain i hi) (fun j hj hn=>ih (ns.length-j) (by omega) j rfl hn) (by omega)
  refine ⟨.mk (kindAt ns i) 0 (ns.getD i default).text (ns.getD i default).n xs,by simp only [Ast.size];omega,?_⟩
  have hg:ns.drop i=ns.getD i default::ns.drop (i+1):=by
   rw [List.drop_eq_getElem_cons hi]
   simp [List.getD,hi]
  obtain ⟨m,hm⟩:∃m,S i=m+1:=⟨S i-1,by omega⟩
  rw [show i+S i-(i+1)=m by omega] at e4
  simp only [flat,List.map_cons,e1,e4]
  rw [hg,hm,List.take_succ_cons,List.map_cons]
  rfl
end
theorem tree_of_right {ns:List Nd}(h:rightP ns=true):∃a,wf a∧a.kind=1∧a.size=ns.length∧(flat 0 a).map noAt=ns.map noAt:=by
 obtain ⟨s,hs,_,_⟩:=right_sizes h
 have ho:=sizesP_some hs
 obtain ⟨a,h1,h2⟩:=sub_of ho.right _ 0 rfl ho.pos
 have hw:s.getD 0 0=ns.length:=ho.whole
 simp only [hw] at h1 h2
 rw [List.drop_zero,List.take_length] at h2
 have hr:rightP (flat 0 a)=true:=by rw [← rightP_noAt,h2,rightP_noAt];exact h
 obtain ⟨k1,k2⟩:=(right_flat a).1 hr
 exact ⟨a,k2,k1,h1,h2⟩
end
section
open Tr
def br (whole:Int)(second:Bool)(part:Int):Bool :=
 if part=23∨part=24 then second||(whole==26||whole==25)
 else if part=25 then whole==26||(whole==25&&second)
 else false
def markT (k:Int):ByteArray:=if k=23 then ⟨#[32,43,32]⟩ else if k=24 then ⟨#[32,45,32]⟩ else ⟨#[32,42,32]⟩
def numT (n:Int):ByteArray:=⟨(Lib.itoa n).toArray⟩
def nodeT (k:Int)(t:ByteArray)(n:Int)(l:List ByteArray):ByteArray :=
 if k=20 then t++⟨#[91]⟩++l.getD 0 none0++⟨#[93]⟩
 else if k=21 then numT n
 else if k=26 then ⟨#[45]⟩++l.getD 0 none0
 else if k=23∨k=24∨k=25 then l.getD 0 none0++markT k++l.getD 1 none0
 else t
def inB (b:Bool)(s:ByteArray):ByteArray:=if b then ⟨#[40]⟩++s++⟨#[41]⟩ else s
mutual
def exT:Ast→ByteArray
 | .mk k _ t n ks=>nodeT k t n (exL k 0 ks)
def exL (k:Int)(j:Nat):List Ast→List ByteArray
 | []=>[]
 | x::r=>inB (br k (j==1) x.kind) (exT x)::exL k (j+1) r
end
def joinT:List ByteArray→ByteArray
 | []=>none0
 | [s]=>s
 | s::r=>s++⟨#[44,32]⟩++joinT r
def tabsT (d:Nat):ByteArray:=⟨(List.replicate d 9).toArray⟩
def lineT (d:Nat)(s:ByteArray):ByteArray:=tabsT d++s++⟨#[10]⟩
def stF (d:Nat)(k:Int)(t:ByteArray)(n:Int)(l m:List ByteArray):ByteArray :=
 if k=7 then lineT d (⟨#[114,101,97,100,32]⟩++t++⟨#[32,61,32]⟩++l.getD 0 none0++⟨#[46]⟩++l.getD 1 none0++(if n=1 then ⟨#[32,102,111,114,32,117,112,100,97,116,101]⟩ else ⟨#[]⟩)++⟨#[59]⟩)
 else if k=8 then lineT d (⟨#[115,101,116,32]⟩++l.getD 0 none0++⟨#[46]⟩++l.getD 1 none0++⟨#[32,61,32]⟩++l.getD 2 none0++⟨#[59]⟩)
 else if k=9 then lineT d (⟨#[112,117,116,32]⟩++l.getD 0 none0++⟨#[40]⟩++joinT (l.drop 1)++⟨#[41,59]⟩)
 else if k=10 then lineT d (⟨#[100,101,108,101,116,101,32]⟩++l.getD 0 none0++⟨#[59]⟩)
 else if k=11 then lineT d (⟨#[115,99,97,110,32]⟩++t++⟨#[32,61,32]⟩++l.getD 0 none0++⟨#[46]⟩++l.getD 1 none0++⟨#[59]⟩)
 else if k=12 then lineT d (⟨#[108,111,99,107,32]⟩++l.getD 0 none0++(if n=1 then ⟨#[32,97,108,108]⟩ else ⟨#[32,115,104,97,114,101,100]⟩)++⟨#[59]⟩)
 else if k=13 then lineT d (⟨#[114,101,108,101,97,115,101,32]⟩++l.getD 0 none0++⟨#[59]⟩)
 else if k=14 then lineT d (⟨#[105,102,32]⟩++l.getD 0 none0++(if n=1 then ⟨#[32,61,61,32]⟩ else ⟨#[32,60,32]⟩)++l.getD 1 none0++⟨#[32,123]⟩)++m.getD 2 none0
  ++ (if 3<l.length then lineT d ⟨#[125,32,101,108,115,101,32,123]⟩++m.getD 3 none0 else none0)++lineT d ⟨#[125]⟩
 else if k=15 then lineT d (⟨#[102,111,114,32]⟩++t++⟨#[32,61,32]⟩++l.getD 0 none0++⟨#[32,116,111,32]⟩++l.getD 1 none0++⟨#[32,123]⟩)++m.getD 2 none0++lineT d ⟨#[125]⟩
 else if k=16 then lineT d (⟨#[108,101,116,32]⟩++t++⟨#[32,61,32]⟩++l.getD 0 none0++⟨#[59]⟩)
 else if k=17 then lineT d (⟨#[101,109,105,116,32]⟩++l.getD 0 none0++⟨#[59]⟩)
 else if k=18 then lineT d ⟨#[114,111,108,108,98,97,99,107,59]⟩
 else if k=19 then lineT d ⟨#[99,104,111,112,59]⟩
 else none0
mutual
def stT (d:Nat):Ast→ByteArray
 | .mk k _ t n ks=>stF d k t n (ks.map exT) (blLs (d+1) ks)
def blT (d:Nat):Ast→ByteArray
 | .mk _ _ _ _ ks=>stL d ks
def stL (d:Nat):List Ast→ByteArray
 | []=>none0
 | x::r=>stT d x++stL d r
def blLs (d:Nat):List Ast→List ByteArray
 | []=>[]
 | x::r=>blT d x::blLs d r
end
def namesOf (ks:List Ast):ByteArray:=joinT (ks.map exT)
def partT:Ast→ByteArray
 | .mk k _ t n ks=>if k=2 then lineT 0 (⟨#[116,97,98,108,101,32]⟩++t++⟨#[40]⟩++namesOf ks++⟨#[41,59]⟩)
  else match ks with
   | [a,b]=>lineT 0 (⟨#[112,114,111,99,32]⟩++t++⟨#[40]⟩++namesOf a.kids++⟨#[41]⟩++(if n=1 then ⟨#[32,115,105,110,103,108,101]⟩ else ⟨#[]⟩)++⟨#[32,123]⟩)++blT 1 b++lineT 0 ⟨#[125]⟩
   | _=>none0
def progL:List Ast→ByteArray
 | []=>none0
 | x::r=>partT x++progL r
theorem app_assoc (a b c:ByteArray):a++b++c=a++(b++c):=ByteArray.append_assoc
theorem none_app (a:ByteArray):none0++a=a:=ByteArray.empty_append
theorem app_none (a:ByteArray):a++none0=a:=ByteArray.append_empty
theorem exL_length (k:Int)(j:Nat)(l:List Ast):(exL k j l).length=l.length:=by
 induction l generalizing j with
 | nil=>simp [exL]
 | cons x r ih=>simp only [exL,List.length_cons,ih]
theorem exL_get (k:Int)(l:List Ast)(j i:Nat)(h:i<l.length):(exL k j l).getD i none0=inB (br k (j+i==1) l[i].kind) (exT l[i]):=by
 induction l generalizing i j with
 | nil=>simp at h
 | cons x r ih =>
  cases i with
  | zero=>simp [exL]
  | succ i =>
   simp only [exL,List.getD_cons_succ]
   rw [ih (j+1) i (by simpa using h)]
   simp only [List.getElem_cons_succ,show j+1+i=j+(i+1) by omega]
end
section
open Go.RowKit
def Chain (xs:List Int):Nat→List Tok→Prop
 | p,[]=>p=xs.length
 | p,t::r=>p≤xs.length∧t.at'=bl xs p∧t.at'≤t.stop∧t.stop≤xs.length∧t.text=(xs.drop t.at').take (t.stop-t.at')∧((t.kind=4)↔r=[])∧Chain xs t.stop r
theorem tok_cell (ts:List Tok)(k j:Nat)(t:Tok)(hk:ts[k]?=some t)(hj:j<5):(cellsT ts)[k*5+j]?=(tokC t)[j]?:=by
 induction ts generalizing k with
 | nil=>simp at hk
 | cons u r ih =>
  have hu:(tokC u).length=5:=rfl
  cases k with
  | zero =>
   simp only [List.getElem?_cons_zero,Option.some.injEq] at hk
   subst hk
   simp only [cellsT,List.flatMap_cons,Nat.zero_mul,Nat.zero_add]
   rw [List.getElem?_append_left (by omega)]
  | succ k =>
   simp only [List.getElem?_cons_succ] at hk
   have:=ih k hk
   simp only [cellsT,List.flatMap_cons] at this ⊢
   rw [List.getElem?_append_right (by omega),hu,show (k+1)*5+j-5=k*5+j by omega]
   exact this
end
section
open Go.RowKit
theorem lexN_len (f p:Nat)(l:List Int)(ts:List Tok)(h:lexN f p l=.ok ts):ts.length≤l.length+1:=by
 induction f generalizing p l ts with
 | zero =>
  simp only [lexN,Except.ok.injEq] at h
  subst h
  simp
 | succ f ih =>
  simp only [lexN] at h
  split at h
  · simp only [Except.ok.injEq] at h
    subst h
    simp
  · rename_i c r hd
    split at h
    · simp at h
    · rename_i k len n hs
      have hl:=step_len hs
      have hcr:(c::r).length≤l.length:=by rw [← hd,List.length_drop];omega
      cases hu:lexN f (p+blk false l+len) ((c::r).drop len) with
      | error e=>rw [hu] at h;simp [pre] at h
      | ok us =>
       rw [hu] at h
       simp only [pre,Except.ok.injEq,List.singleton_append] at h
       subst h
       have:=ih _ _ us hu
       rw [List.length_drop] at this
       rw [List.length_cons]
       omega
end
section
theorem lexN_shape (f p:Nat)(l:List Int)(ts:List Tok)(hf:l.length<f)(h:lexN f p l=.ok ts):∃vs,ts=vs++[Tok.endAt (p+l.length)]∧∀t∈vs,t.kind≠4∧t.at'≤p+l.length:=by
 induction f generalizing p l ts with
 | zero=>omega
 | succ f ih =>
  simp only [lexN] at h
  have hb:=blk_le false l
  split at h
  · rename_i hd
    simp only [Except.ok.injEq] at h
    subst h
    have h2:=congrArg List.length hd
    rw [List.length_drop,List.length_nil] at h2
    exact ⟨[],by rw [show p+blk false l=p+l.length by omega];rfl,fun t ht=>by simp at ht⟩
  · rename_i c r hd
    have hcr:(c::r).length=l.length-blk false l:=by rw [← hd,List.length_drop]
    split at h
    · simp at h
    · rename_i k len n hs
      have hl:=step_len hs
      cases hu:lexN f (p+blk false l+len) ((c::r).drop len) with
      | error e=>rw [hu] at h;simp [pre] at h
      | ok us =>
       rw [hu] at h
       simp only [pre,Except.ok.injEq,List.singleton_append] at h
       subst h
       obtain ⟨vs,e,hv⟩:=ih _ _ us (by rw [List.length_drop];omega) hu
       have e2:p+blk false l+len+((c::r).drop len).length=p+l.length:=by rw [List.length_drop];omega
       rw [e2] at e hv
       refine ⟨_::vs,by rw [e];rfl,fun t ht=>?_⟩
       rcases List.mem_cons.1 ht with rfl|ht
       · exact ⟨by show k≠4;rcases hl.2.2 with h3|h3|h3<;>omega,by simp only;omega⟩
       · exact hv t ht
theorem lexS_shape {xs:List Int}{ts:List Tok}(h:lexS xs=.ok ts):∃vs,ts=vs++[Tok.endAt xs.length]∧∀t∈vs,t.kind≠4∧t.at'≤xs.length:=by
 have:=lexN_shape (xs.length+1) 0 xs ts (Nat.lt_succ_self _) h
 rwa [Nat.zero_add] at this
theorem ended_snoc (l:List PT)(e:PT)(he:e.kind=4∧e.txt=none0):Ended (l++[e]):=by
 induction l with
 | nil=>exact he
 | cons t r ih =>
  cases r with
  | nil=>exact he
  | cons u r=>exact ih
theorem end_pt (p:Nat):(ptOf (Tok.endAt p)).kind=4∧(ptOf (Tok.endAt p)).txt=none0:=⟨rfl,by simp [ptOf,Tok.endAt,strOfNums]⟩
def parseS (xs:List Int):Except (Nat × Int) (List Nd):=match lexS xs with
 | .error e=>.error e
 | .ok ts=>match programP (ts.map ptOf) with
  | .err p c=>.error (p,c)
  | .ok a _=>.ok (flat 0 a)
end
section
open Par
def more (k0:List Ast):Res (List Ast)→Res (List Ast)
 | .err p c=>.err p c
 | .ok ks l=>.ok (k0++ks) l
theorem AstR.size {ρ:Nat→Nat→Prop}{a a':Ast}(h:AstR ρ a a'):a.size=a'.size:=by
 induction h with
 | @mk k p p' t n ks ks' _ hl hk ih =>
  simp only [Ast.size]
  congr 1
  clear hk
  induction ks generalizing ks' with
  | nil =>
   cases ks' with
   | nil=>rfl
   | cons _ _=>simp at hl
  | cons x r ih2 =>
   cases ks' with
   | nil=>simp at hl
   | cons y r' =>
    simp only [sizeL]
    rw [ih 0 x y (by simp) (by simp),ih2 (by simpa using hl) fun i u v hu hv=>ih (i+1) u v (by simpa using hu) (by simpa using hv)]
theorem KidsR.tail {ρ:Nat→Nat→Prop}{x y:Ast}{r r':List Ast}(h:KidsR ρ (x::r) (y::r')):AstR ρ x y∧KidsR ρ r r' :=
 ⟨h.2 0 x y (by simp) (by simp),by simpa using h.1,fun i u v hu hv=>h.2 (i+1) u v (by simpa using hu) (by simpa using hv)⟩
theorem KidsR.size {ρ:Nat→Nat→Prop}{ks ks':List Ast}(h:KidsR ρ ks ks'):sizeL ks=sizeL ks':=by
 induction ks generalizing ks' with
 | nil =>
  cases ks' with
  | nil=>rfl
  | cons _ _=>have:=h.1;simp at this
 | cons x r ih =>
  cases ks' with
  | nil=>have:=h.1;simp at this
  | cons y r' =>
   obtain ⟨h1,h2⟩:=h.tail
   simp only [sizeL,h1.size,ih h2]
def AllR (R:Nd→Nd→Prop)(x y:List Nd):Prop:=x.length=y.length∧∀(i:Nat) (u v:Nd),x[i]?=some u→y[i]?=some v→R u v
theorem AllR.append {R:Nd→Nd→Prop}{x y x' y':List Nd}(h:AllR R x x')(h':AllR R y y'):AllR R (x++y) (x'++y'):=⟨by simp [h.1,h'.1],fun i u v hu hv=>by
 by_cases hi:i<x.length
 · rw [List.getElem?_append_left hi] at hu
   rw [List.getElem?_append_left (by rw [← h.1];exact hi)] at hv
   exact h.2 i u v hu hv
 · rw [List.getElem?_append_right (by omega)] at hu
   rw [List.getElem?_append_right (by rw [← h.1];omega),← h.1] at hv
   exact h'.2 _ u v hu hv⟩
theorem AllR.cons {R:Nd→Nd→Prop}{x x':Nd}{y y':List Nd}(h:R x x')(h':AllR R y y'):AllR R (x::y) (x'::y'):=⟨by simp [h'.1],fun i u v hu hv=>by
 cases i with
 | zero=>simp at hu hv;subst hu hv;exact h
 | succ i=>exact h'.2 i u v (by simpa using hu) (by simpa using hv)⟩
theorem AllR.nil {R:Nd→Nd→Prop}:AllR R [] []:=⟨rfl,fun i u v h=>by simp at h⟩
end
section
open Go.RowKit
def openN (p:List Nd)(k:Int)(a:Nat)(t:ByteArray)(n:Int)(ks:List Ast):List Nd:=p++⟨k,a,t,n,heads (p.length+1) ks⟩::flatL (p.length+1) ks
end
section
open Tr Par
def nodeRW (k:Int)(s:ByteArray)(n:Int)(l:List Int):Bool:=decide (1≤k)&&(decide (k≤26)&&(wordsR ⟨k,0,s,n,[]⟩&&kidsR k l))
theorem kinds_row (l:List Int):kindsOf (l.map fun k=>(⟨k,0,⟨#[]⟩,0,[]⟩:Nd)) ⟨0,0,⟨#[]⟩,0,(List.range l.length).map fun i:Nat=>(i:Int)⟩=l:=by
 unfold kindsOf
 simp only [List.map_map]
 refine List.ext_getElem (by simp) fun i h1 h2=>?_
 simp only [List.getElem_map,List.getElem_range,Function.comp,Int.toNat_natCast]
 unfold kindAt
 simp only [List.length_map,List.length_range] at h1
 simp [List.getD,h2]
theorem nodeW_eq (k:Int)(s:ByteArray)(n:Int)(l:List Int)(hl:l.length≤9223372036854775807):nodeW k s n l=nodeRW k s n l:=by
 have h:=nodeOk_eq (l.map fun k=>(⟨k,0,⟨#[]⟩,0,[]⟩:Nd)) ⟨k,0,s,n,(List.range l.length).map fun i:Nat=>(i:Int)⟩ (by simpa using hl)
 have hk:kindsOf (l.map fun k=>(⟨k,0,⟨#[]⟩,0,[]⟩:Nd)) ⟨k,0,s,n,(List.range l.length).map fun i:Nat=>(i:Int)⟩=l:=kinds_row l
 unfold nodeOk nodeR at h
 rw [hk] at h
 exact h
mutual
def wfR:Ast→Prop
 | .mk k _ s n ks=>(nodeRW k s n (ks.map Ast.kind)=true∧s.size≤70000)∧wfRL ks
def wfRL:List Ast→Prop
 | []=>True
 | x::r=>wfR x∧wfRL r
end
theorem wfRL_mem {l:List Ast}(h:wfRL l):∀x∈l,wfR x:=by
 induction l with
 | nil=>intro x hx;simp at hx
 | cons y r ih =>
  intro x hx
  rcases List.mem_cons.1 hx with rfl|hx
  · exact h.1
  · exact ih h.2 x hx
theorem wfRL_of {l:List Ast}(h:∀x∈l,wfR x):wfRL l:=by
 induction l with
 | nil=>trivial
 | cons y r ih=>exact ⟨h y (by simp),ih fun x hx=>h x (by simp [hx])⟩
theorem len_sizeL (l:List Ast):l.length≤sizeL l:=by
 induction l with
 | nil=>simp [sizeL]
 | cons x r ih=>have:=ast_pos x;simp only [List.length_cons,sizeL];omega
structure GoodP (t:PT):Prop where
 name:t.kind=1→namesF (bytesI t.txt)=true∧t.txt.size≤70000
 num:t.kind=2→0≤t.n∧t.n≤2147483647
def GL (l:List PT):Prop:=∀t∈l,GoodP t
theorem GL.tail {t:PT}{l:List PT}(h:GL (t::l)):GL l:=fun u hu=>h u (by simp [hu])
def Gd {α:Type}(f:Par α)(P:α→Prop):Prop:=∀l,GL l→∀a l',f l=.ok a l'→P a∧GL l'
section
variable {α β:Type}
theorem Gd.pure {a:α}{P:α→Prop}(h:P a):Gd (Par.pure a) P:=fun l hl b l' e=>by
 simp only [Par.pure,Res.ok.injEq] at e
 obtain ⟨rfl,rfl⟩:=e
 exact ⟨h,hl⟩
theorem Gd.bind {f:Par α}{g:α→Par β}{P:α→Prop}{Q:β→Prop}(hf:Gd f P)(hg:∀a,P a→Gd (g a) Q):Gd (Par.bind f g) Q:=fun l hl b l' e=>by
 simp only [Par.bind] at e
 cases hfl:f l with
 | err p c=>rw [hfl] at e;simp at e
 | ok a l1 =>
  rw [hfl] at e
  obtain ⟨h1,h2⟩:=hf l hl a l1 hfl
  exact hg a h1 l1 h2 b l' e
theorem Gd.mono {f:Par α}{P Q:α→Prop}(hf:Gd f P)(h:∀a,P a→Q a):Gd f Q:=fun l hl a l' e=>⟨h a (hf l hl a l' e).1,(hf l hl a l' e).2⟩
theorem Gd.loop {step:α→Par (Option α)}{P:α→Prop}(hs:∀a,P a→Gd (step a) fun o=>∀b,o=some b→P b):∀(m:Nat) (a:α),P a→Gd (Par.loop step m a) P
 | 0,a,_=>fun l _ b l' e=>by simp [Par.loop] at e
 | m+1,a,ha=>by
  refine Gd.bind (hs a ha) fun o ho=>?_
  cases o with
  | none=>exact Gd.pure ha
  | some b=>exact Gd.loop hs m b (ho b rfl)
theorem Gd.many {step:α→Par (Option α)}{P:α→Prop}(hs:∀a,P a→Gd (step a) fun o=>∀b,o=some b→P b)(a:α)(ha:P a):Gd (Par.many step a) P:=fun l=>Gd.loop hs (l.length+1) a ha l
end
end
section
open Tr
def On (ns:List Nd)(o:Nat)(x:Ast):Prop:=∃t,t.map noAt=ns.map noAt∧Lies t o x
theorem Lies.kid {t:List Nd}:∀(ks:List Ast) (o:Nat),LiesL t o ks→∀j (hj:j<ks.length),∃q:Nat,(heads o ks).getD j 0=(q:Int)∧Lies t q ks[j]
 | [],_,_,j,hj=>absurd hj (by simp)
 | x::r,o,h,j,hj=>by
  obtain ⟨h1,h2⟩:=h.head
  cases j with
  | zero=>exact ⟨o,by simp [heads],h1⟩
  | succ j =>
   obtain ⟨q,e,hl⟩:=Lies.kid r _ h2 j (by simpa using hj)
   exact ⟨q,by simpa [heads] using e,hl⟩
theorem Lies.lt {t:List Nd}{o:Nat}{x:Ast}(h:Lies t o x):o<t.length:=by
 cases x with
 | mk k a s n ks=>exact h.node.2
theorem noAt_len {t ns:List Nd}(h:t.map noAt=ns.map noAt):t.length=ns.length:=by
 have:=congrArg List.length h
 simpa using this
theorem noAt_at {t ns:List Nd}(h:t.map noAt=ns.map noAt)(i:Nat):noAt (t.getD i default)=noAt (ns.getD i default):=by
 rw [← noAt_get,← noAt_get,h]
section
variable {ns:List Nd}{o:Nat}{x:Ast}{k:Int}{a:Nat}{s:ByteArray}{n:Int}{ks:List Ast}
theorem On.lt (h:On ns o x):o<ns.length:=by
 obtain ⟨t,e,hl⟩:=h
 rw [← noAt_len e];exact hl.lt
theorem On.node (h:On ns o (.mk k a s n ks)):∃a',ns.getD o default=⟨k,a',s,n,heads (o+1) ks⟩:=by
 obtain ⟨t,e,hl⟩:=h
 have:=noAt_at e o
 rw [hl.node.1] at this
 refine ⟨(ns.getD o default).at',?_⟩
 generalize ns.getD o default=nd at *
 cases nd
 simp only [noAt,Tr.Nd.mk.injEq] at this ⊢
 obtain ⟨h1,_,h2,h3,h4⟩:=this
 exact ⟨h1.symm,trivial,h2.symm,h3.symm,h4.symm⟩
theorem On.kid (h:On ns o (.mk k a s n ks))(j:Nat)(hj:j<ks.length):∃q:Nat,(heads (o+1) ks).getD j 0=(q:Int)∧q<ns.length∧On ns q ks[j]:=by
 obtain ⟨t,e,hl⟩:=h
 obtain ⟨q,h1,h2⟩:=Lies.kid ks (o+1) hl.kids j hj
 exact ⟨q,h1,by rw [← noAt_len e];exact h2.lt,t,e,h2⟩
theorem On.size (h:On ns o x):o+x.size≤ns.length:=by
 obtain ⟨t,e,pre,post,rfl,rfl⟩:=h
 rw [← noAt_len e]
 simp only [List.length_append,flat_length]
 omega
theorem On.kind (h:On ns o x):(ns.getD o default).kind=x.kind:=by
 cases x with
 | mk k a s n ks=>obtain ⟨a',e⟩:=h.node;rw [e];rfl
end
mutual
theorem wfR_wfA (o:Nat):∀a:Ast,a.size≤70000→(∀nd∈flat o a,nd.text.size≤70000)→wf a→wfR a
 | .mk k p s n ks,h,ht,hw=>by
  simp only [Ast.size] at h
  have h1:=len_sizeL ks
  refine ⟨⟨by rw [← nodeW_eq _ _ _ _ (by rw [List.length_map];omega)];exact hw.1,ht _ (by simp only [flat];exact List.mem_cons_self)⟩,wfR_wfL ks (o+1) (by omega) (fun nd hm=>ht nd (by simp only [flat];exact List.mem_cons_of_mem _ hm)) hw.2⟩
theorem wfR_wfL:∀(l:List Ast) (o:Nat),sizeL l≤70000→(∀nd∈flatL o l,nd.text.size≤70000)→wfL l→wfRL l
 | [],_,_,_,_=>trivial
 | x::r,o,h,ht,hw=>by
  simp only [sizeL] at h
  exact ⟨wfR_wfA o x (by omega) (fun nd hm=>ht nd (by simp only [flatL];exact List.mem_append_left _ hm)) hw.1,wfR_wfL r _ (by omega) (fun nd hm=>ht nd (by simp only [flatL];exact List.mem_append_right _ hm)) hw.2⟩
end
theorem right_ast {ns:List Nd}(h:rightP ns=true)(hl:ns.length≤70000)(ht:∀nd∈ns,nd.text.size≤70000):∃a,wfR a∧a.kind=1∧a.size=ns.length∧On ns 0 a:=by
 obtain ⟨a,h1,h2,h3,h4⟩:=tree_of_right h
 refine ⟨a,wfR_wfA 0 a (by omega) (fun nd hm=>?_) h1,h2,h3,flat 0 a,h4,Lies.whole a⟩
 have h5:noAt nd∈ns.map noAt:=by rw [← h4];exact List.mem_map_of_mem hm
 obtain ⟨md,h6,h7⟩:=List.mem_map.1 h5
 have h8:nd.text=md.text:=(show (noAt nd).text=(noAt md).text by rw [h7])
 rw [h8]
 exact ht md h6
theorem wfR.kids {k:Int}{a:Nat}{s:ByteArray}{n:Int}{ks:List Ast}(h:wfR (.mk k a s n ks)){j:Nat}(hj:j<ks.length):wfR ks[j]:=wfRL_mem h.2 _ (List.getElem_mem hj)
theorem wfR.parts {k:Int}{a:Nat}{s:ByteArray}{n:Int}{ks:List Ast}(h:wfR (.mk k a s n ks)):(1≤k∧k≤26)∧(0≤n∧n≤mostR k)∧s.size≤70000∧kidsR k (ks.map Ast.kind)=true:=by
 have h1:=h.1.1
 simp only [nodeRW,Bool.and_eq_true,decide_eq_true_eq,wordsR] at h1
 exact ⟨⟨h1.1,h1.2.1⟩,⟨h1.2.2.1.2.2.1,h1.2.2.1.2.2.2⟩,h.1.2,h1.2.2.2⟩
theorem sizeL_mem {x:Ast}:∀ {l:List Ast},x∈l→x.size≤sizeL l
 | y::r,h=>by
  simp only [sizeL]
  rcases List.mem_cons.1 h with rfl|h
  · omega
  · have:=sizeL_mem h;omega
theorem mostR_le (k:Int):mostR k≤2147483647:=by
 unfold mostR;split
 · omega
 · split<;>omega
theorem isExprK_iff (k:Int):isExprK k=true↔21≤k∧k≤26:=by simp [isExprK]
section
variable {ks:List Ast}
theorem shape1 (h:isR (ks.map Ast.kind) [0]=true):∃x,ks=[x]∧isExprK x.kind=true:=by
 rcases ks with _|⟨x,_|⟨y,r⟩⟩
 · simp [isR] at h
 · exact ⟨x,rfl,by simpa [isR] using h⟩
 · simp [isR] at h
theorem shape2 (h:isR (ks.map Ast.kind) [0,0]=true):∃x y,ks=[x,y]∧isExprK x.kind=true∧isExprK y.kind=true:=by
 rcases ks with _|⟨x,_|⟨y,_|⟨z,r⟩⟩⟩
 · simp [isR] at h
 · simp [isR] at h
 · exact ⟨x,y,rfl,by simpa [isR] using h⟩
 · simp [isR] at h
theorem shape0 (h:decide ((ks.map Ast.kind).length=0)=true):ks=[]:=by
 rcases ks with _|⟨x,r⟩
 · rfl
 · simp at h
end
theorem get_le:∀(l:List ByteArray) (i:Nat),(l.getD i none0).size≤(l.map ByteArray.size).sum
 | [],i=>by simp [List.getD];rfl
 | x::r,0=>by simp
 | x::r,i+1=>by have:=get_le r i;simp only [List.getD_cons_succ,List.map_cons,List.sum_cons];omega
theorem get2_le:∀(l:List ByteArray) (i j:Nat),i<j→(l.getD i none0).size+(l.getD j none0).size≤(l.map ByteArray.size).sum
 | [],i,j,_=>by simp [List.getD];rfl
 | x::r,0,j+1,_=>by have:=get_le r j;simp only [List.getD_cons_zero,List.getD_cons_succ,List.map_cons,List.sum_cons];omega
 | x::r,i+1,j+1,h=>by have:=get2_le r i j (by omega);simp only [List.getD_cons_succ,List.map_cons,List.sum_cons];omega
mutual
theorem exL_size (k:Int)(j:Nat):∀l:List Ast,wfRL l→((exL k j l).map ByteArray.size).sum≤70100*sizeL l
 | [],_=>by simp [exL,sizeL]
 | x::r,h=>by
  have h2:=exL_size k (j+1) r h.2
  have h3:=ast_pos x
  simp only [exL,List.map_cons,List.sum_cons,sizeL]
  have h4:(inB (br k (j==1) x.kind) (exT x)).size≤(exT x).size+2:=by
   unfold inB;split
   · simp only [ByteArray.size_append]
     show 1+(exT x).size+1≤_
     omega
   · omega
  have h5:=exT_low x h.1
  omega
theorem exT_low:∀x:Ast,wfR x→(exT x).size+2≤70100*x.size
 | .mk k a s n ks,h=>by
  have hp:=h.parts
  have hl:=exL_size k 0 ks h.2
  simp only [exT,Ast.size]
  have h01:((exL k 0 ks).getD 0 none0).size+((exL k 0 ks).getD 1 none0).size≤70100*sizeL ks:=Nat.le_trans (get2_le _ 0 1 (by omega)) hl
  have hnum:(numT n).size≤21:=by
   unfold numT
   have:=Lib.itoa_length_le n (by omega) (by have:=mostR_le k;omega)
   show (Lib.itoa n).toArray.size≤21
   simpa using this
  have e1:(⟨#[91]⟩:ByteArray).size=1:=rfl
  have e2:(⟨#[93]⟩:ByteArray).size=1:=rfl
  have e3:(⟨#[45]⟩:ByteArray).size=1:=rfl
  have e4:(markT k).size=3:=by
   unfold markT
   split
   · rfl
   · split<;>rfl
  unfold nodeT
  split
  · simp only [ByteArray.size_append];omega
  · split
    · omega
    · split
      · simp only [ByteArray.size_append];omega
      · split
        · simp only [ByteArray.size_append];omega
        · omega
end
theorem exT_size (x:Ast)(h:wfR x):(exT x).size+2≤70100*x.size:=exT_low x h
end
end Go.Proofs.YthdioipfdbbmmaaGreatDoor
section
namespace Go.Proofs
open Go.Shelf
def Tryz.laysM173_ren:Go.Shelf.Ren:=⟨fun|173=>66|246=>113|283=>180|284=>181|285=>182|286=>183|129=>230|317=>229|318=>231|319=>232|320=>233|337=>266|338=>267|n=>n,fun|2=>2|3=>3|9=>9|4=>4|171=>248|0=>0|53=>249|37=>22|5=>5|173=>252|212=>281|51=>282|20=>20|213=>283|46=>266|232=>320|233=>321|n=>n,fun|17=>2|18=>3|19=>4|n=>n⟩
theorem Tryz.laysM173:Go.Proofs.LaysM.n173 Tryz.prog Tryz.laysM173_ren:={
 mixed:=by kernel_rfl
 f129:=Tryz.func230.trans (congrArg some (by kernel_rfl))
 f173:=Tryz.func66.trans (congrArg some (by kernel_rfl))
 f246:=Tryz.func113.trans (congrArg some (by kernel_rfl))
 f283:=Tryz.func180.trans (congrArg some (by kernel_rfl))
 f284:=Tryz.func181.trans (congrArg some (by kernel_rfl))
 f285:=Tryz.func182.trans (congrArg some (by kernel_rfl))
 f286:=Tryz.func183.trans (congrArg some (by kernel_rfl))
 f317:=Tryz.func229.trans (congrArg some (by kernel_rfl))
 f318:=Tryz.func231.trans (congrArg some (by kernel_rfl))
 f319:=Tryz.func232.trans (congrArg some (by kernel_rfl))
 f320:=Tryz.func233.trans (congrArg some (by kernel_rfl))
 f337:=Tryz.func266.trans (congrArg some (by kernel_rfl))
 f338:=Tryz.func267.trans (congrArg some (by kernel_rfl))
 t0:=Tryz.underlying0
 a0:=Tryz.isAgg0
 z0:=Tryz.sizeOf0
 v0:=Tryz.zeroValue0
 t2:=Tryz.underlying2
 a2:=Tryz.isAgg2
 z2:=Tryz.sizeOf2
 v2:=Tryz.zeroValue2
 t3:=Tryz.underlying3
 a3:=Tryz.isAgg3
 z3:=Tryz.sizeOf3
 v3:=Tryz.zeroValue3
 t4:=Tryz.underlying4
 a4:=Tryz.isAgg4
 z4:=Tryz.sizeOf4
 v4:=Tryz.zeroValue4
 t5:=Tryz.underlying5
 a5:=Tryz.isAgg5
 z5:=Tryz.sizeOf5
 v5:=Tryz.zeroValue5
 t9:=Tryz.underlying9
 a9:=Tryz.isAgg9
 z9:=Tryz.sizeOf9
 v9:=Tryz.zeroValue9
 t20:=Tryz.underlying20
 a20:=Tryz.isAgg20
 z20:=Tryz.sizeOf20
 v20:=Tryz.zeroValue20
 t37:=Tryz.underlying22
 a37:=Tryz.isAgg22
 z37:=Tryz.sizeOf22
 v37:=Tryz.zeroValue22
 t46:=Tryz.underlying266
 a46:=Tryz.isAgg266
 z46:=Tryz.sizeOf266
 v46:=Tryz.zeroValue266
 t51:=Tryz.underlying282
 a51:=Tryz.isAgg282
 z51:=Tryz.sizeOf282
 v51:=Tryz.zeroValue282
 t53:=Tryz.underlying249
 a53:=Tryz.isAgg249
 z53:=Tryz.sizeOf249
 v53:=Tryz.zeroValue249
 t171:=Tryz.underlying248
 a171:=Tryz.isAgg248
 z171:=Tryz.sizeOf248
 v171:=Tryz.zeroValue248
 t173:=Tryz.underlying252
 a173:=Tryz.isAgg252
 z173:=Tryz.sizeOf252
 v173:=Tryz.zeroValue252
 t212:=Tryz.underlying281
 a212:=Tryz.isAgg281
 z212:=Tryz.sizeOf281
 v212:=Tryz.zeroValue281
 t213:=Tryz.underlying283
 a213:=Tryz.isAgg283
 z213:=Tryz.sizeOf283
 t232:=Tryz.underlying320
 a232:=Tryz.isAgg320
 z232:=Tryz.sizeOf320
 v232:=Tryz.zeroValue320
 t233:=Tryz.underlying321
 a233:=Tryz.isAgg321
 z233:=Tryz.sizeOf321
 v233:=Tryz.zeroValue321
 g17:=by kernel_rfl
 g18:=by kernel_rfl
 g19:=by kernel_rfl
 i0:=by kernel_rfl
 i2:=by kernel_rfl
 i3:=by kernel_rfl
 i4:=by kernel_rfl
 i5:=by kernel_rfl
 i9:=by kernel_rfl
 i20:=by kernel_rfl
 i37:=by kernel_rfl
 i46:=by kernel_rfl
 i51:=by kernel_rfl
 i53:=by kernel_rfl
 i171:=by kernel_rfl
 i173:=by kernel_rfl
 i212:=by kernel_rfl
 i232:=by kernel_rfl
 i233:=by kernel_rfl
 m17:=by kernel_rfl
 m18:=by kernel_rfl
 m19:=by kernel_rfl }
open Go.RowKit Go.Sort Go.Lib in
theorem Tryz.strconv_FormatInt_10 (n:Int)(h0:-9223372036854775808≤n)(h1:n≤9223372036854775807)(w:World)(htab:Lib.TabIs Tryz.prog w "internal/strconv.uint64pow10" .u64 Lib.pow10Tab) :
 Calls Tryz.prog 66 #[.int .i64 n,.int .i64 10] w fun e w'=>e=.returned (.string ⟨(Lib.itoa n).toArray⟩)∧∃k os,w'=grow (w.drewN k) os:=Any.strconv_FormatInt_10 Tryz.laysM173 n h0 h1 w htab
def Tryz.lays105_ren:Go.Shelf.Ren:=⟨fun|105=>224|212=>209|99=>261|165=>262|166=>263|170=>264|169=>265|263=>244|264=>245|206=>285|240=>286|241=>287|276=>291|277=>292|n=>n,fun|9=>9|3=>3|4=>4|20=>20|0=>0|46=>266|109=>267|5=>5|72=>308|76=>309|51=>282|146=>292|53=>249|148=>294|70=>306|37=>22|75=>25|127=>291|164=>169|80=>222|n=>n,fun|n=>n⟩
theorem Tryz.lays105:Go.Proofs.Lays.n105 Tryz.prog Tryz.lays105_ren:={
 mixed:=by kernel_rfl
 f99:=Tryz.func261.trans (congrArg some (by kernel_rfl))
 f105:=Tryz.func224.trans (congrArg some (by kernel_rfl))
 f165:=Tryz.func262.trans (congrArg some (by kernel_rfl))
 f166:=Tryz.func263.trans (congrArg some (by kernel_rfl))
 f169:=Tryz.func265.trans (congrArg some (by kernel_rfl))
 f170:=Tryz.func264.trans (congrArg some (by kernel_rfl))
 f206:=Tryz.func285.trans (congrArg some (by kernel_rfl))
 f212:=Tryz.func209.trans (congrArg some (by kernel_rfl))
 f240:=Tryz.func286.trans (congrArg some (by kernel_rfl))
 f241:=Tryz.func287.trans (congrArg some (by kernel_rfl))
 f263:=Tryz.func244.trans (congrArg some (by kernel_rfl))
 f264:=Tryz.func245.trans (congrArg some (by kernel_rfl))
 f276:=Tryz.func291.trans (congrArg some (by kernel_rfl))
 f277:=Tryz.func292.trans (congrArg some (by kernel_rfl))
 t0:=Tryz.underlying0
 a0:=Tryz.isAgg0
 z0:=Tryz.sizeOf0
 v0:=Tryz.zeroValue0
 t3:=Tryz.underlying3
 a3:=Tryz.isAgg3
 z3:=Tryz.sizeOf3
 v3:=Tryz.zeroValue3
 t4:=Tryz.underlying4
 a4:=Tryz.isAgg4
 z4:=Tryz.sizeOf4
 v4:=Tryz.zeroValue4
 t5:=Tryz.underlying5
 a5:=Tryz.isAgg5
 z5:=Tryz.sizeOf5
 v5:=Tryz.zeroValue5
 t9:=Tryz.underlying9
 a9:=Tryz.isAgg9
 z9:=Tryz.sizeOf9
 v9:=Tryz.zeroValue9
 t20:=Tryz.underlying20
 a20:=Tryz.isAgg20
 z20:=Tryz.sizeOf20
 v20:=Tryz.zeroValue20
 t37:=Tryz.underlying22
 a37:=Tryz.isAgg22
 z37:=Tryz.sizeOf22
 v37:=Tryz.zeroValue22
 t46:=Tryz.underlying266
 a46:=Tryz.isAgg266
 z46:=Tryz.sizeOf266
 v46:=Tryz.zeroValue266
 t51:=Tryz.underlying282
 a51:=Tryz.isAgg282
 z51:=Tryz.sizeOf282
 v51:=Tryz.zeroValue282
 t53:=Tryz.underlying249
 a53:=Tryz.isAgg249
 z53:=Tryz.sizeOf249
 v53:=Tryz.zeroValue249
 t70:=Tryz.underlying306
 a70:=Tryz.isAgg306
 z70:=Tryz.sizeOf306
 v70:=Tryz.zeroValue306
 t72:=Tryz.underlying308
 a72:=Tryz.isAgg308
 z72:=Tryz.sizeOf308
 v72:=Tryz.zeroValue308
 t75:=Tryz.underlying25
 a75:=Tryz.isAgg25
 z75:=Tryz.sizeOf25
 v75:=Tryz.zeroValue25
 t76:=Tryz.underlying309
 a76:=Tryz.isAgg309
 z76:=Tryz.sizeOf309
 v76:=Tryz.zeroValue309
 t109:=Tryz.underlying267
 a109:=Tryz.isAgg267
 z109:=Tryz.sizeOf267
 v109:=Tryz.zeroValue267
 t127:=Tryz.underlying291
 a127:=Tryz.isAgg291
 z127:=Tryz.sizeOf291
 v127:=Tryz.zeroValue291
 t146:=Tryz.underlying292
 a146:=Tryz.isAgg292
 z146:=Tryz.sizeOf292
 v146:=Tryz.zeroValue292
 t148:=Tryz.underlying294
 a148:=Tryz.isAgg294
 z148:=Tryz.sizeOf294
 v148:=Tryz.zeroValue294
 t164:=Tryz.underlying169
 a164:=Tryz.isAgg169
 z164:=Tryz.sizeOf169
 v164:=Tryz.zeroValue169 }
theorem Tryz.Builder_Extra_105:Builder.Extra Tryz.prog Tryz.lays105_ren:={
 sizeBuilder:=by kernel_rfl
 liesBuilder:=by kernel_rfl
 t5:=Tryz.underlying5
 a5:=Tryz.isAgg5
 z5:=Tryz.sizeOf5
 v5:=Tryz.zeroValue5
 infoByte:=by kernel_rfl
 cellsByte:=by kernel_rfl
 sizeByte:=by kernel_rfl
 neB5:=by decide }
open Go.RowKit Go.Lib in
theorem Tryz.strings_Repeat (s:ByteArray)(c:Nat)(w:World)(hc:c≤9223372036854775807)(hlen:s.size*c≤140737488355328) :
 Calls Tryz.prog 224 #[.string s,.int .i64 c] w fun e w'=>e=.returned (.string ⟨(Lib.repeatL s.data.toList c).toArray⟩)∧Below w.heap.size w w':=Any.strings_Repeat Tryz.lays105 Tryz.Builder_Extra_105 s c w hc hlen
end Go.Proofs
end
namespace Go.Proofs.YthdioipfdbbmmaaGreatDoor
section
open Go.RowKit Tr
def PT10 (w:World):Prop:=Lib.TabIs Tryz.prog w "internal/strconv.uint64pow10" .u64 Lib.pow10Tab
theorem refBracket_at (w:World)(k:Int)(b:Bool)(p:Int):Calls Tryz.prog 65 #[.int .u8 k,.bool b,.int .u8 p] w fun e w'=>e=.returned (.bool (br k b p))∧w'=w:=by
 have hp:(p=23∨p=24∨p=25)∨((p==23)=false∧(p==24)=false∧(p==25)=false):=by
  by_cases h1:p=23
  · exact Or.inl (Or.inl h1)
  · by_cases h2:p=24
    · exact Or.inl (Or.inr (Or.inl h2))
    · by_cases h3:p=25
      · exact Or.inl (Or.inr (Or.inr h3))
      · exact Or.inr ⟨by simpa using h1,by simpa using h2,by simpa using h3⟩
 have hk:(k=26∨k=25)∨((k==26)=false∧(k==25)=false):=by
  by_cases h1:k=26
  · exact Or.inl (Or.inl h1)
  · by_cases h2:k=25
    · exact Or.inl (Or.inr h2)
    · exact Or.inr ⟨by simpa using h1,by simpa using h2⟩
 rcases hk with (rfl|rfl)|⟨k1,k2⟩<;>rcases hp with (rfl|rfl|rfl)|⟨p1,p2,p3⟩<;>cases b
 all_goals
  go_enter Tryz.func65,Tryz.ntmps65
  go_wp2
  go_ret
  refine ⟨?_,rfl⟩
  simp_all [br]
theorem refEither_at (w:World)(n:Int)(a b:ByteArray):Calls Tryz.prog 58 #[.int .i64 n,.string a,.string b] w fun e w'=>e=.returned (.string (if n=1 then b else a))∧w'=w:=by
 by_cases h:n=1
 · subst h
   go_enter Tryz.func58,Tryz.ntmps58
   go_wp2
   go_ret
   exact ⟨rfl,rfl⟩
 · have h1:(n==1)=false:=by simpa using h
   simp only [if_neg h]
   go_enter Tryz.func58,Tryz.ntmps58
   go_wp2
   go_ret
   exact ⟨rfl,rfl⟩
theorem refMark_at (w:World)(k:Int)(h:k=23∨k=24∨k=25):Calls Tryz.prog 67 #[.int .u8 k] w fun e w'=>e=.returned (.string (markT k))∧Below w.heap.size w w':=by
 rcases h with rfl|rfl|rfl
 all_goals
  go_enter Tryz.func67,Tryz.ntmps67
  go_wp2
  go_ret
  exact ⟨rfl,one_below _ _⟩
theorem fmt_at (w:World)(n:Int)(h0:0≤n)(h1:n≤2147483647)(ht:PT10 w):Calls Tryz.prog 66 #[.int .i64 n,.int .i64 10] w fun e w'=>e=.returned (.string (numT n))∧Below w.heap.size w w' :=
 (Tryz.strconv_FormatInt_10 n (by omega) (by omega) w ht).mono fun e w' ⟨h,k,os,e'⟩=>⟨h,by rw [e'];exact Lib.below_grow _ _ (Nat.le_refl _) _ _⟩
end
section
open Go.RowKit Tr
theorem isRowOrExpr_at (w:World)(k:Int):Calls Tryz.prog 63 #[.int .u8 k] w fun e w'=>e=.returned (.bool (decide (20≤k)&&decide (k≤26)))∧w'=w:=by
 by_cases h1:20≤k
 · by_cases h2:k≤26
   · go_enter Tryz.func63,Tryz.ntmps63
     go_wp2
     go_ret
     exact ⟨by simp [h1,h2],rfl⟩
   · go_enter Tryz.func63,Tryz.ntmps63
     go_wp2
     go_ret
     exact ⟨by simp [h1,h2],rfl⟩
 · go_enter Tryz.func63,Tryz.ntmps63
   go_wp2
   go_ret
   exact ⟨by simp [h1];omega,rfl⟩
theorem isOver_at (w:World)(b:Nat)(most:Int)(q:Option Addr)(n cq:Nat)(h:w.cell? ⟨b,1,none⟩=some (.int .i64 most)):Calls Tryz.prog 55 #[.pointer (some ⟨b,0,none⟩),.slice q n cq] w fun e w'=>e=.returned (.bool (decide (most<(n:Int))))∧w'=w:=by
 go_enter Tryz.func55,Tryz.ntmps55
 go_wp2
 go_ret
 exact ⟨rfl,rfl⟩
theorem pick_at (w:World)(n:Int)(g c:Nat)(s0 s1:ByteArray)(h0:w.cell? ⟨g,0,none⟩=some (.string s0))(h1:w.cell? ⟨g,1,none⟩=some (.string s1))(hn:n=0∨n=1):Calls Tryz.prog 168 #[.int .i64 n,.slice (some ⟨g,0,none⟩) 2 c] w fun e w'=>e=.returned (.string (if n=1 then s1 else s0))∧w'=w:=by
 rcases hn with rfl|rfl
 · go_enter Tryz.func168,Tryz.ntmps168
   go_wp2
   go_ret
   exact ⟨rfl,rfl⟩
 · go_enter Tryz.func168,Tryz.ntmps168
   go_wp2
   go_ret
   exact ⟨rfl,rfl⟩
theorem brackets_at (w:World)(k:Int):Calls Tryz.prog 178 #[.int .u8 k] w fun e w'=>e=.returned (.func (.func 228) #[] #[.pointer (some ⟨w.heap.size,0,none⟩)])∧w'=w.alloc (.cells #[.int .u8 k] 5):=by
 go_enter Tryz.func178,Tryz.ntmps178
 go_wp2
 go_ret
 exact ⟨rfl,rfl⟩
theorem brackets1_at (w:World)(q:Nat)(k:Int)(b:Bool)(p:Int)(h:w.cell? ⟨q,0,none⟩=some (.int .u8 k)):Calls Tryz.prog 228 #[.int .u8 p,.bool b,.pointer (some ⟨q,0,none⟩)] w fun e w'=>e=.returned (.bool (br k b p))∧w'=w:=by
 have hp:(p=23∨p=24∨p=25)∨((p==23)=false∧(p==24)=false∧(p==25)=false):=by
  by_cases h1:p=23
  · exact Or.inl (Or.inl h1)
  · by_cases h2:p=24
    · exact Or.inl (Or.inr (Or.inl h2))
    · by_cases h3:p=25
      · exact Or.inl (Or.inr (Or.inr h3))
      · exact Or.inr ⟨by simpa using h1,by simpa using h2,by simpa using h3⟩
 have hk:(k=26∨k=25)∨((k==26)=false∧(k==25)=false):=by
  by_cases h1:k=26
  · exact Or.inl (Or.inl h1)
  · by_cases h2:k=25
    · exact Or.inl (Or.inr h2)
    · exact Or.inr ⟨by simpa using h1,by simpa using h2⟩
 rcases hk with (rfl|rfl)|⟨k1,k2⟩<;>rcases hp with (rfl|rfl|rfl)|⟨p1,p2,p3⟩<;>cases b
 all_goals
  go_enter Tryz.func228,Tryz.ntmps228
  go_wp2
  go_ret
  refine ⟨?_,rfl⟩
  simp_all [br]
end
section
open Go.RowKit Tr
theorem cellLt {W:World}{a:Addr}{v:Value}(h:W.cell? a=some v):a.block<W.heap.size:=by
 rcases Nat.lt_or_ge a.block W.heap.size with h1|h1
 · exact h1
 · simp [World.cell?,Array.getElem?_eq_none h1] at h
theorem part_at (w:World)(nb bb pb kq b:Nat)(k:Int)(j q:Nat)(kk:Int)(p:Option Addr)(len c:Nat)(kp:Option Addr)(kl kc:Nat)(ks:List Int)(ns:List Nd)
 (h4:w.cell? ⟨nb,4,none⟩=some (.slice kp kl kc)) (hb:w.cell? ⟨bb,0,none⟩=some (.func (.func 228) #[] #[.pointer (some ⟨kq,0,none⟩)])) (hp:w.cell? ⟨pb,0,none⟩=some (.pointer (some ⟨b,0,none⟩)))
 (hk:w.cell? ⟨kq,0,none⟩=some (.int .u8 k)) (h0:w.cell? ⟨b,0,none⟩=some (.slice p len c)) (hT:TV w p len c ns) (hI:IV w kp kl kc ks) (hj:j<kl) (hq:ks.getD j 0=(q:Int)) (hql:q<len) (hkk:(ns.getD q default).kind=kk) :
 Calls Tryz.prog 179 #[.int .i64 (j:Int),.pointer (some ⟨nb,0,none⟩),.pointer (some ⟨bb,0,none⟩),.pointer (some ⟨pb,0,none⟩)] w fun e w'=>e=.returned (.agg #[.string ⟨#[]⟩,.int .i64 (q:Int),.bool (br k ((j:Int)==1) kk)])∧Below w.heap.size w w':=by
 obtain ⟨kb,koff,rfl,hkb,hkc⟩:=hI.cell (by omega)
 obtain ⟨nbk,off,rfl,hnb,hnc⟩:=hT.node (by omega)
 obtain ⟨_,_,_,hn⟩:=hnc q hql
 have m0:w.cell? ⟨kb,koff+j,none⟩=some (.int .i64 (q:Int)):=by rw [hkc j hj,hq]
 have m1:w.cell? ⟨nbk,off+q*5,none⟩=some (.int .u8 kk):=by rw [← hkk];exact hn.kind
 have g0:(0:Int)≤(j:Int):=by omega
 have g1:(j:Int)<(kl:Int):=by omega
 have g2:(0:Int)≤(q:Int):=by omega
 have g3:(q:Int)<(len:Int):=by omega
 have HB:=lh (one_below w (.cells #[.string ⟨#[]⟩,.int .i64 0,.bool false] 184))
 have HBR:=lh (fun w' h=>brackets1_at w' kq k ((j:Int)==1) kk h)
 have l1:nb<w.heap.size:=cellLt h4
 have l2:bb<w.heap.size:=cellLt hb
 have l3:pb<w.heap.size:=cellLt hp
 have l4:kq<w.heap.size:=cellLt hk
 have l5:b<w.heap.size:=cellLt h0
 clear hT hI hkc hnc hn
 have hk2:(w.alloc (.cells #[.string ⟨#[]⟩,.int .i64 0,.bool false] 184)).drew.cell? ⟨kq,0,none⟩=some (.int .u8 k):=by
  have h:=HB.out.cell (p:=⟨kq,0,none⟩) l4
  exact h.trans hk
 go_enter Tryz.func179,Tryz.ntmps179
 go_wp2_with fail
 go_region_held3 (fun w'=>w'.cell? ⟨bb,0,none⟩=some (.func (.func 228) #[] #[.pointer (some ⟨kq,0,none⟩)])∧w'.cell? ⟨pb,0,none⟩=some (.pointer (some ⟨b,0,none⟩))∧w'.cell? ⟨kq,0,none⟩=some (.int .u8 k)∧w'.cell? ⟨b,0,none⟩=some (.slice (some ⟨nbk,off,none⟩) len c)∧w'.cell? ⟨nbk,off+q*5,none⟩=some (.int .u8 kk)) (go_keep) (first|(go_at_call 228;(with_reducible refine (HBR.out _ ?_).mono ?_);(first|assumption|exact hk2);rintro e w' ⟨rfl,rfl⟩))
 go_wp2
 simp [bodyPost,results,Tryz.results179,go_sem]
 exact (one_below w _).drew
end
section
open Go.RowKit Tr
structure SI (w:World)(B:Nat)(v:Value)(ls:List ByteArray)(W:World):Prop where
 below:Below B w W
 own:W.ownsRow B 9 1 v ls.length (ls.map Value.string)
theorem info9:(Tryz.prog.info? 9).map (fun i=>(i.zero,i.size,i.bytes))=some (some (.string ⟨#[]⟩),1,16):=by kernel_rfl
theorem PT10.below {w w':World}(h:PT10 w)(hb:Below w.heap.size w w'):PT10 w':=Lib.tabBelow_of_tabIs h w' hb
theorem own_on {w w':World}{B e size n:Nat}{v:Value}{xs:List Value}(h:w.ownsRow B e size v n xs)(hb:Below w.heap.size w w'):w'.ownsRow B e size v n xs:=by
 obtain ⟨h1,h2⟩:=h
 refine ⟨h1,?_⟩
 rcases h2 with h2|⟨g,cap,cur,hv,hB,hg,rest⟩
 · exact Or.inl h2
 · have hlt:g<w.heap.size:=by
    rcases Nat.lt_or_ge g w.heap.size with hl|hl
    · exact hl
    · rw [Array.getElem?_eq_none hl] at hg;cases hg
   exact Or.inr ⟨g,cap,cur,hv,hB,by rw [hb.block g hlt];exact hg,rest⟩
theorem SI.on {w W W':World}{B:Nat}{v:Value}{ls:List ByteArray}(h:SI w B v ls W)(hb:Below W.heap.size W W')(hB:B≤W.heap.size):SI w B v ls W':=⟨h.below.trans (hb.mono hB),own_on h.own hb⟩
def HasE (ns:List Nd)(x:Ast):Prop:=∀(o:Nat) (w:World) (p:Option Addr) (len c:Nat),TV w p len c ns→On ns o x→wfR x→PT10 w→len≤70000 →
 Calls Tryz.prog 28 #[.slice p len c,.int .i64 o] w fun e w'=>e=.returned (.string (exT x))∧Below w.heap.size w w'
theorem take_get {α:Type}(l:List α)(d:α)(j:Nat)(h:j<l.length):l.take (j+1)=l.take j++[l.getD j d]:=by
 rw [List.take_succ_eq_append_getElem h];simp [List.getD,h]
theorem refExpr_step (ns:List Nd)(k:Int)(a:Nat)(s:ByteArray)(n:Int)(ks:List Ast)(hk:20≤k)(ih:∀y∈ks,HasE ns y):HasE ns (.mk k a s n ks):=by
 intro o w p len c hT hO hw ht hlen
 obtain ⟨a',hnd⟩:=hO.node
 have hol:=hO.lt
 have hle:=hT.len_eq
 obtain ⟨b,off,rfl,hbl,hc⟩:=hT.node (by omega)
 obtain ⟨kp,kl,kc,hn⟩:=hc o (by omega)
 rw [hnd] at hn
 have k0:w.cell? ⟨b,off+o*5,none⟩=some (.int .u8 k):=hn.kind
 have k1:w.cell? ⟨b,off+o*5+1,none⟩=some (.int .i64 a'):=hn.at'
 have k2:w.cell? ⟨b,off+o*5+2,none⟩=some (.string s):=hn.text
 have k3:w.cell? ⟨b,off+o*5+3,none⟩=some (.int .i64 n):=hn.n
 have k4:w.cell? ⟨b,off+o*5+4,none⟩=some (.slice kp kl kc):=hn.kids
 have hiv:IV w kp kl kc (heads (o+1) ks):=hn.iv
 have hkl:ks.length=kl:=by rw [← hiv.len_eq,heads_length]
 have HT:=lh hT
 have HO:=lh hO
 have HW:=lh hw
 have HP:=lh ht
 have HIV:=lh hiv
 have HKL:=lh hkl
 have b0:(0:Int)≤(o:Int):=by omega
 have b1:(o:Int)<(len:Int):=by omega
 have HLE:=lh hle
 have HC:=lh hc
 obtain ⟨i0,hi,hz0,hz1,hz2⟩:=info_parts info9
 have I0:=lh hi
 have I1:=lh hz0
 have I2:=lh hz1
 have I3:=lh hz2
 have B0:=lh (one_below w (.cells #[.int .u8 k,.int .i64 a',.string s,.int .i64 n,.slice kp kl kc] 99))
 clear hT hO hw ht hiv hn hc hle hnd hi hz0 hz1 hz2
 go_enter Tryz.func28,Tryz.ntmps28
 go_wp2_with fail
 go_loopw [6,7] (fun v iv wr=>∃j:Nat,j≤kl∧iv=.int .i64 j∧Hid (SI (w.alloc (.cells #[.int .u8 k,.int .i64 a',.string s,.int .i64 n,.slice kp kl kc] 99)) (w.heap.size+1) v ((exL k 0 ks).take j) wr)) (fun _ iv _=>kl-(intOf iv).toNat)
 case atStart=>exact ⟨0,by omega,rfl,lh ⟨Below.refl _ _,World.ownsRow_nil _ _ _ _⟩⟩
 case round =>
  obtain ⟨j,hjl,rfl,HS⟩:=hrel
  have HBW:=lh (B0.out.trans (HS.out.below.mono (by omega)))
  have m0:wr.cell? ⟨w.heap.size,0,none⟩=some (.int .u8 k):=by rw [HS.out.below.cell (by simp)];simp
  have m4:wr.cell? ⟨w.heap.size,4,none⟩=some (.slice kp kl kc):=by rw [HS.out.below.cell (by simp)];simp
  by_cases hlt:j<kl
  · have hjk:j<ks.length:=by have:=HKL.out;omega
    obtain ⟨q,hq,hql,hOq⟩:=HO.out.kid j hjk
    obtain ⟨kb,koff,rfl,hkb,hkc⟩:=HIV.out.cell (by omega)
    have m5:wr.cell? ⟨kb,koff+j,none⟩=some (.int .i64 (q:Int)):=by rw [HBW.out.cell (p:=⟨kb,koff+j,none⟩) hkb,hkc j hlt,hq]
    have CE:=lh (ih ks[j] (List.getElem_mem hjk) q wr (some ⟨b,off,none⟩) len c (HT.out.on HBW.out) hOq (HW.out.kids hjk) (HP.out.below HBW.out) hlen)
    have h0j:(0:Int)≤(j:Int):=by omega
    have hjk2:(j:Int)<(kl:Int):=by omega
    have HQ:=lh (And.intro hOq (HW.out.kids hjk))
    have HXL:Hid ((exL k 0 ks).take (j+1)=(exL k 0 ks).take j++[inB (br k (j==1) ks[j].kind) (exT ks[j])]):=lh (by
     rw [take_get _ none0 _ (by rw [exL_length];exact hjk),exL_get k ks 0 j hjk,Nat.zero_add])
    have HSZ:=lh (exT_size ks[j] (HW.out.kids hjk))
    have HSQ:=lh hOq.size
    obtain ⟨_,_,_,hnq⟩:=HC.out q (by have:=HLE.out;omega)
    have mqw:w.cell? ⟨b,off+q*5,none⟩=some (.int .u8 ks[j].kind):=by have:=hnq.kind;rwa [hOq.kind] at this
    clear hkc hnq hq
    go_wp2_with fail
    (with_reducible refine CE.out.mono ?_)
    rintro e w6 ⟨rfl,hb6⟩
    have B6:=lh (HBW.out.trans (hb6.mono HBW.out.size))
    have hws:w.heap.size<wr.heap.size:=by have:=HS.out.below.size;simp only [World.size_alloc] at this;omega
    have n0:w6.cell? ⟨w.heap.size,0,none⟩=some (.int .u8 k):=by rw [hb6.cell (p:=⟨w.heap.size,0,none⟩) hws];exact m0
    have n4:w6.cell? ⟨w.heap.size,4,none⟩=some (.slice (some ⟨kb,koff,none⟩) kl kc):=by rw [hb6.cell (p:=⟨w.heap.size,4,none⟩) hws];exact m4
    have n5:w6.cell? ⟨kb,koff+j,none⟩=some (.int .i64 (q:Int)):=by rw [hb6.cell (p:=⟨kb,koff+j,none⟩) (Nat.lt_of_lt_of_le hkb HBW.out.size)];exact m5
    have mq:w6.cell? ⟨b,off+q*5,none⟩=some (.int .u8 ks[j].kind):=by rw [B6.out.cell (p:=⟨b,off+q*5,none⟩) hbl];exact mqw
    have hq0:(0:Int)≤(q:Int):=by omega
    have hq1:(q:Int)<(len:Int):=by have:=HLE.out;omega
    have S6:=lh (HS.out.on hb6 (by omega))
    have h6B:w.heap.size+1≤w6.heap.size:=by have:=hb6.size;omega
    have HLJ:Hid (((exL k 0 ks).take j).length=j):=lh (by rw [List.length_take,exL_length];omega)
    have hkl7:kl≤70000:=by have:=HO.out.size;have:=HLE.out;have h9:=len_sizeL ks;have h8:=HKL.out;simp only [Ast.size] at *;omega
    have hs1:¬ 9223372036854775807<1+(exT ks[j]).size:=by have:=HSZ.out;have:=HSQ.out;have:=HLE.out;omega
    have hs2:¬ 9223372036854775807<1+(exT ks[j]).size+1:=by have:=HSZ.out;have:=HSQ.out;have:=HLE.out;omega
    have hj1:(j==1)=((j:Int)==1):=Bool.eq_iff_iff.2 (by simp only [beq_iff_eq];omega)
    rw [hj1] at HXL
    clear CE hb6 m0 m4 m5 mqw HS HBW hws hj1
    generalize exT ks[j]=st at *
    generalize ks[j].kind=kk at *
    by_cases hk20:k=20
    · subst hk20
      have HBR:Hid (inB (br 20 ((j:Int)==1) kk) st=st):=lh (by
       obtain ⟨x,e,_⟩:=shape1 (show isR (ks.map Ast.kind) [0]=true from HW.out.parts.2.2.2)
       have hj0:j=0:=by rw [e] at hjk;simpa using hjk
       subst hj0
       have:br 20 (((0:Nat):Int)==1) kk=false:=by unfold br;split<;>simp
       rw [this];rfl)
      go_wp2_with fail
      go_quiet (fail)
      have S7:=lh (S6.out.on (drewN_below _ w6 nq) h6B)
      have B7:=lh (B6.out.trans (drewN_below _ w6 nq))
      have h7B:w.heap.size+1≤(w6.drewN nq).heap.size:=h6B
      generalize w6.drewN nq=w7 at *
      have HNW:=lh (heap_alloc_new w7 (.cells #[.string st] 9))
      have ho:=S7.out.own
      rw [HLJ.out] at ho
      go_wp2_with (at_builtin;refine wpList_append_lies _ rfl (.tmp 49) (.tmp 51) 33 rfl (w.heap.size+1) 9 i0 _ 1 16 Tryz.underlying33 I0.out I1.out I2.out I3.out rfl (by decide) u6 j (((exL 20 0 ks).take j).map Value.string) rfl (ho.alloc _) ⟨w7.heap.size,0,none⟩ 1 1 [.string st] rfl rfl (World.news_of_block (cs:=#[.string st]) (t:=9) (fr:=(0,0)) HNW.out) (by simp [Value.oneCell']) (by decide) (by unfold maxLen;omega) (by omega) (by simp;omega) _ rfl ?_)
      intro g cap w8 hown8 hgrow8 _ _
      have S8:Hid (SI (w.alloc (.cells #[.int .u8 20,.int .i64 a',.string s,.int .i64 n,.slice (some ⟨kb,koff,none⟩) kl kc] 99)) (w.heap.size+1) (.slice (some ⟨g,0,none⟩) (j+1) cap) ((exL 20 0 ks).take (j+1)) w8):=lh ⟨(S7.out.below.alloc h7B _).grown hgrow8 (by simp;omega) (fun q hq=>(ho.lt q hq).1),by
       rw [HXL.out,List.length_append,HLJ.out,List.map_append,HBR.out,List.map_take]
       exact hown8⟩
      clear hown8 hgrow8 ho S7 S6 HNW
      go_wp2_with fail
      go_roundw
      case rel=>exact ⟨j+1,by omega,by go_num,S8⟩
      case measure=>simp [intOf];omega
    · have e20:(k != 20)=true:=by simpa using hk20
      by_cases hbr:br k ((j:Int)==1) kk=true
      · have HBR:Hid (inB (br k ((j:Int)==1) kk) st=⟨#[40]⟩++st++⟨#[41]⟩):=lh (by rw [hbr];rfl)
        have RB:=lh (fun w=>refBracket_at w k ((j:Int)==1) kk)
        rw [hbr] at RB
        go_wp2_with fail
        go_quiet (first|(go_at_call 65;refine Calls.quiet_of_same (RB.out _)))
        clear RB
        have S7:=lh (S6.out.on (drewN_below _ w6 nq) h6B)
        have B7:=lh (B6.out.trans (drewN_below _ w6 nq))
        have h7B:w.heap.size+1≤(w6.drewN nq).heap.size:=h6B
        generalize w6.drewN nq=w7 at *
        have HNW:=lh (heap_alloc_new w7 (.cells #[.string (⟨#[40]⟩++st++⟨#[41]⟩)] 9))
        have ho:=S7.out.own
        rw [HLJ.out] at ho
        go_wp2_with (at_builtin;refine wpList_append_lies _ rfl (.tmp 49) (.tmp 51) 33 rfl (w.heap.size+1) 9 i0 _ 1 16 Tryz.underlying33 I0.out I1.out I2.out I3.out rfl (by decide) u6 j (((exL k 0 ks).take j).map Value.string) rfl (ho.alloc _) ⟨w7.heap.size,0,none⟩ 1 1 [.string (⟨#[40]⟩++st++⟨#[41]⟩)] rfl rfl (World.news_of_block (cs:=#[.string (⟨#[40]⟩++st++⟨#[41]⟩)]) (t:=9) (fr:=(0,0)) HNW.out) (by simp [Value.oneCell']) (by decide) (by unfold maxLen;omega) (by omega) (by simp;omega) _ rfl ?_)
        intro g cap w8 hown8 hgrow8 _ _
        have S8:Hid (SI (w.alloc (.cells #[.int .u8 k,.int .i64 a',.string s,.int .i64 n,.slice (some ⟨kb,koff,none⟩) kl kc] 99)) (w.heap.size+1) (.slice (some ⟨g,0,none⟩) (j+1) cap) ((exL k 0 ks).take (j+1)) w8):=lh ⟨(S7.out.below.alloc h7B _).grown hgrow8 (by simp;omega) (fun q hq=>(ho.lt q hq).1),by
         rw [HXL.out,List.length_append,HLJ.out,List.map_append,HBR.out,List.map_take]
         exact hown8⟩
        clear hown8 hgrow8 ho S7 S6 HNW
        go_wp2_with fail
        go_roundw
        case rel=>exact ⟨j+1,by omega,by go_num,S8⟩
        case measure=>simp [intOf];omega
      · have hbr':br k ((j:Int)==1) kk=false:=by simpa using hbr
        have HBR:Hid (inB (br k ((j:Int)==1) kk) st=st):=lh (by rw [hbr'];rfl)
        have RB:=lh (fun w=>refBracket_at w k ((j:Int)==1) kk)
        rw [hbr'] at RB
        go_wp2_with fail
        go_quiet (first|(go_at_call 65;refine Calls.quiet_of_same (RB.out _)))
        clear RB
        have S7:=lh (S6.out.on (drewN_below _ w6 nq) h6B)
        have B7:=lh (B6.out.trans (drewN_below _ w6 nq))
        have h7B:w.heap.size+1≤(w6.drewN nq).heap.size:=h6B
        generalize w6.drewN nq=w7 at *
        have HNW:=lh (heap_alloc_new w7 (.cells #[.string st] 9))
        have ho:=S7.out.own
        rw [HLJ.out] at ho
        go_wp2_with (at_builtin;refine wpList_append_lies _ rfl (.tmp 49) (.tmp 51) 33 rfl (w.heap.size+1) 9 i0 _ 1 16 Tryz.underlying33 I0.out I1.out I2.out I3.out rfl (by decide) u6 j (((exL k 0 ks).take j).map Value.string) rfl (ho.alloc _) ⟨w7.heap.size,0,none⟩ 1 1 [.string st] rfl rfl (World.news_of_block (cs:=#[.string st]) (t:=9) (fr:=(0,0)) HNW.out) (by simp [Value.oneCell']) (by decide) (by unfold maxLen;omega) (by omega) (by simp;omega) _ rfl ?_)
        intro g cap w8 hown8 hgrow8 _ _
        have S8:Hid (SI (w.alloc (.cells #[.int .u8 k,.int .i64 a',.string s,.int .i64 n,.slice (some ⟨kb,koff,none⟩) kl kc] 99)) (w.heap.size+1) (.slice (some ⟨g,0,none⟩) (j+1) cap) ((exL k 0 ks).take (j+1)) w8):=lh ⟨(S7.out.below.alloc h7B _).grown hgrow8 (by simp;omega) (fun q hq=>(ho.lt q hq).1),by
         rw [HXL.out,List.length_append,HLJ.out,List.map_append,HBR.out,List.map_take]
         exact hown8⟩
        clear hown8 hgrow8 ho S7 S6 HNW
        go_wp2_with fail
        go_roundw
        case rel=>exact ⟨j+1,by omega,by go_num,S8⟩
        case measure=>simp [intOf];omega
  · have hjl':j=kl:=by omega
    subst hjl'
    have how:=HS.out.own
    rw [List.take_of_length_le (by rw [exL_length];omega)] at how
    have hsz:=exT_size _ HW.out
    have hxz:=HO.out.size
    have hwr:w.heap.size<wr.heap.size:=by have:=HS.out.below.size;simp only [World.size_alloc] at this;omega
    have hle2:=HLE.out
    have m2:wr.cell? ⟨w.heap.size,2,none⟩=some (.string s):=by rw [HS.out.below.cell (by simp)];simp
    have m3:wr.cell? ⟨w.heap.size,3,none⟩=some (.int .i64 n):=by rw [HS.out.below.cell (by simp)];simp
    have hkk:k=20∨k=21∨k=22∨k=23∨k=24∨k=25∨k=26:=by have:=HW.out.parts.1.2;omega
    rcases hkk with rfl|rfl|rfl|rfl|rfl|rfl|rfl
    · obtain ⟨x,rfl,_⟩:=shape1 (show isR (ks.map Ast.kind) [0]=true from HW.out.parts.2.2.2)
      have hk1:j=1:=hkl.symm
      subst hk1
      obtain ⟨l0,hl0⟩:∃l0,exL 20 0 [x]=[l0]:=⟨_,rfl⟩
      have hex:exT (.mk 20 a s n [x])=nodeT 20 s n [l0]:=by simp only [exT,hl0]
      rw [hex] at hsz
      simp only [nodeT,List.getD_cons_zero,ByteArray.size_append] at hsz
      have h91:(⟨#[91]⟩:ByteArray).size=1:=rfl
      have h93:(⟨#[93]⟩:ByteArray).size=1:=rfl
      have h45:(⟨#[45]⟩:ByteArray).size=1:=rfl
      rw [hl0] at how
      obtain ⟨g,cap,hv,hg1,hg2⟩:=how.form (by simp)
      subst hv
      have c0:wr.cell? ⟨g,0,none⟩=some (.string l0):=by have:=how.cellAt 0 (by simp);simpa using this
      have z1:¬ 9223372036854775807<s.size+1:=by simp at hsz;omega
      have z2:¬ 9223372036854775807<s.size+1+l0.size:=by simp at hsz;omega
      have z3:¬ 9223372036854775807<s.size+1+l0.size+1:=by simp at hsz;omega
      clear hsz how
      go_wp2_with fail
      go_quiet (fail)
      go_wp2
      go_ret
      exact ⟨by rw [hex];rfl,HBW.out.trans (drewN_below _ _ _)⟩
    · obtain rfl:=shape0 (show decide ((ks.map Ast.kind).length=0)=true from HW.out.parts.2.2.2)
      have hex:exT (.mk 21 a s n [])=nodeT 21 s n []:=by simp only [exT,exL]
      have FM:=lh (fmt_at wr n HW.out.parts.2.1.1 HW.out.parts.2.1.2 (HP.out.below HBW.out))
      go_wp2_with fail
      (with_reducible refine FM.out.mono ?_)
      rintro e w9 ⟨rfl,hb9⟩
      go_wp2
      go_ret
      exact ⟨by rw [hex];rfl,HBW.out.trans (hb9.mono HBW.out.size)⟩
    · obtain rfl:=shape0 (show decide ((ks.map Ast.kind).length=0)=true from HW.out.parts.2.2.2)
      have hex:exT (.mk 22 a s n [])=nodeT 22 s n []:=by simp only [exT,exL]
      go_wp2
      go_ret
      exact ⟨by rw [hex];rfl,HBW.out⟩
    · obtain ⟨x,y,rfl,_,_⟩:=shape2 (show isR (ks.map Ast.kind) [0,0]=true from HW.out.parts.2.2.2)
      have hk1:j=2:=hkl.symm
      subst hk1
      obtain ⟨l0,l1,hl0⟩:∃l0 l1,exL 23 0 [x,y]=[l0,l1]:=⟨_,_,rfl⟩
      have hex:exT (.mk 23 a s n [x,y])=nodeT 23 s n [l0,l1]:=by simp only [exT,hl0]
      rw [hex] at hsz
      have hsz2:(l0++markT 23++l1).size+2≤_:=hsz
      rw [ByteArray.size_append,ByteArray.size_append] at hsz2
      have hm:(markT 23).size=3:=rfl
      rw [hl0] at how
      obtain ⟨g,cap,hv,hg1,hg2⟩:=how.form (by simp)
      subst hv
      have c0:wr.cell? ⟨g,0,none⟩=some (.string l0):=by have:=how.cellAt 0 (by simp);simpa using this
      have c1:wr.cell? ⟨g,1,none⟩=some (.string l1):=by have:=how.cellAt 1 (by simp);simpa using this
      have z1:¬ 9223372036854775807<l0.size+3:=by omega
      have z2:¬ 9223372036854775807<l0.size+3+l1.size:=by omega
      have HM:Hid (∀w',w'.cell? ⟨g,0,none⟩=some (.string l0)→w'.cell? ⟨g,1,none⟩=some (.string l1)→w'.cell? ⟨w.heap.size,0,none⟩=some (.int .u8 23)→Below wr.heap.size wr w'→Calls Tryz.prog 67 #[.int .u8 23] w' fun e w''=>e=.returned (.string (markT 23))∧w''.cell? ⟨g,0,none⟩=some (.string l0)∧w''.cell? ⟨g,1,none⟩=some (.string l1)∧w''.cell? ⟨w.heap.size,0,none⟩=some (.int .u8 23)∧Below wr.heap.size wr w''):=lh (fun w' h0 h1 h2 hb=>(refMark_at w' 23 (by decide)).mono fun e w'' ⟨he,hb2⟩ =>
       ⟨he,by rw [hb2.cell (p:=⟨g,0,none⟩) (Nat.lt_of_lt_of_le hg2 hb.size)];exact h0,by rw [hb2.cell (p:=⟨g,1,none⟩) (Nat.lt_of_lt_of_le hg2 hb.size)];exact h1,by rw [hb2.cell (p:=⟨w.heap.size,0,none⟩) (Nat.lt_of_lt_of_le hwr hb.size)];exact h2,hb.trans (hb2.mono hb.size)⟩)
      have hbd:Below wr.heap.size wr wr.drew:=(Below.refl _ _).drew
      clear hsz hsz2 how
      generalize hmk:markT 23=mk at *
      go_wp2_with fail
      go_region_held3 (fun w'=>w'.cell? ⟨g,0,none⟩=some (.string l0)∧w'.cell? ⟨g,1,none⟩=some (.string l1)∧w'.cell? ⟨w.heap.size,0,none⟩=some (.int .u8 23)∧Below wr.heap.size wr w') (go_keep) (first|(go_at_call 67;(with_reducible refine (HM.out _ ?_ ?_ ?_ ?_).mono ?_);(first|assumption|exact c0);(first|assumption|exact c1);(first|assumption|exact m0);(first|assumption|exact hbd);rintro e w' ⟨rfl,q0,q1,q2,q3⟩))
      go_wp2
      go_ret
      exact ⟨by rw [hex,← hmk];rfl,HBW.out.trans (q3.mono HBW.out.size)⟩
    · obtain ⟨x,y,rfl,_,_⟩:=shape2 (show isR (ks.map Ast.kind) [0,0]=true from HW.out.parts.2.2.2)
      have hk1:j=2:=hkl.symm
      subst hk1
      obtain ⟨l0,l1,hl0⟩:∃l0 l1,exL 24 0 [x,y]=[l0,l1]:=⟨_,_,rfl⟩
      have hex:exT (.mk 24 a s n [x,y])=nodeT 24 s n [l0,l1]:=by simp only [exT,hl0]
      rw [hex] at hsz
      have hsz2:(l0++markT 24++l1).size+2≤_:=hsz
      rw [ByteArray.size_append,ByteArray.size_append] at hsz2
      have hm:(markT 24).size=3:=rfl
      rw [hl0] at how
      obtain ⟨g,cap,hv,hg1,hg2⟩:=how.form (by simp)
      subst hv
      have c0:wr.cell? ⟨g,0,none⟩=some (.string l0):=by have:=how.cellAt 0 (by simp);simpa using this
      have c1:wr.cell? ⟨g,1,none⟩=some (.string l1):=by have:=how.cellAt 1 (by simp);simpa using this
      have z1:¬ 9223372036854775807<l0.size+3:=by omega
      have z2:¬ 9223372036854775807<l0.size+3+l1.size:=by omega
      have HM:Hid (∀w',w'.cell? ⟨g,0,none⟩=some (.string l0)→w'.cell? ⟨g,1,none⟩=some (.string l1)→w'.cell? ⟨w.heap.size,0,none⟩=some (.int .u8 24)→Below wr.heap.size wr w'→Calls Tryz.prog 67 #[.int .u8 24] w' fun e w''=>e=.returned (.string (markT 24))∧w''.cell? ⟨g,0,none⟩=some (.string l0)∧w''.cell? ⟨g,1,none⟩=some (.string l1)∧w''.cell? ⟨w.heap.size,0,none⟩=some (.int .u8 24)∧Below wr.heap.size wr w''):=lh (fun w' h0 h1 h2 hb=>(refMark_at w' 24 (by decide)).mono fun e w'' ⟨he,hb2⟩ =>
       ⟨he,by rw [hb2.cell (p:=⟨g,0,none⟩) (Nat.lt_of_lt_of_le hg2 hb.size)];exact h0,by rw [hb2.cell (p:=⟨g,1,none⟩) (Nat.lt_of_lt_of_le hg2 hb.size)];exact h1,by rw [hb2.cell (p:=⟨w.heap.size,0,none⟩) (Nat.lt_of_lt_of_le hwr hb.size)];exact h2,hb.trans (hb2.mono hb.size)⟩)
      have hbd:Below wr.heap.size wr wr.drew:=(Below.refl _ _).drew
      clear hsz hsz2 how
      generalize hmk:markT 24=mk at *
      go_wp2_with fail
      go_region_held3 (fun w'=>w'.cell? ⟨g,0,none⟩=some (.string l0)∧w'.cell? ⟨g,1,none⟩=some (.string l1)∧w'.cell? ⟨w.heap.size,0,none⟩=some (.int .u8 24)∧Below wr.heap.size wr w') (go_keep) (first|(go_at_call 67;(with_reducible refine (HM.out _ ?_ ?_ ?_ ?_).mono ?_);(first|assumption|exact c0);(first|assumption|exact c1);(first|assumption|exact m0);(first|assumption|exact hbd);rintro e w' ⟨rfl,q0,q1,q2,q3⟩))
      go_wp2
      go_ret
      exact ⟨by rw [hex,← hmk];rfl,HBW.out.trans (q3.mono HBW.out.size)⟩
    · obtain ⟨x,y,rfl,_,_⟩:=shape2 (show isR (ks.map Ast.kind) [0,0]=true from HW.out.parts.2.2.2)
      have hk1:j=2:=hkl.symm
      subst hk1
      obtain ⟨l0,l1,hl0⟩:∃l0 l1,exL 25 0 [x,y]=[l0,l1]:=⟨_,_,rfl⟩
      have hex:exT (.mk 25 a s n [x,y])=nodeT 25 s n [l0,l1]:=by simp only [exT,hl0]
      rw [hex] at hsz
      have hsz2:(l0++markT 25++l1).size+2≤_:=hsz
      rw [ByteArray.size_append,ByteArray.size_append] at hsz2
      have hm:(markT 25).size=3:=rfl
      rw [hl0] at how
      obtain ⟨g,cap,hv,hg1,hg2⟩:=how.form (by simp)
      subst hv
      have c0:wr.cell? ⟨g,0,none⟩=some (.string l0):=by have:=how.cellAt 0 (by simp);simpa using this
      have c1:wr.cell? ⟨g,1,none⟩=some (.string l1):=by have:=how.cellAt 1 (by simp);simpa using this
      have z1:¬ 9223372036854775807<l0.size+3:=by omega
      have z2:¬ 9223372036854775807<l0.size+3+l1.size:=by omega
      have HM:Hid (∀w',w'.cell? ⟨g,0,none⟩=some (.string l0)→w'.cell? ⟨g,1,none⟩=some (.string l1)→w'.cell? ⟨w.heap.size,0,none⟩=some (.int .u8 25)→Below wr.heap.size wr w'→Calls Tryz.prog 67 #[.int .u8 25] w' fun e w''=>e=.returned (.string (markT 25))∧w''.cell? ⟨g,0,none⟩=some (.string l0)∧w''.cell? ⟨g,1,none⟩=some (.string l1)∧w''.cell? ⟨w.heap.size,0,none⟩=some (.int .u8 25)∧Below wr.heap.size wr w''):=lh (fun w' h0 h1 h2 hb=>(refMark_at w' 25 (by decide)).mono fun e w'' ⟨he,hb2⟩ =>
       ⟨he,by rw [hb2.cell (p:=⟨g,0,none⟩) (Nat.lt_of_lt_of_le hg2 hb.size)];exact h0,by rw [hb2.cell (p:=⟨g,1,none⟩) (Nat.lt_of_lt_of_le hg2 hb.size)];exact h1,by rw [hb2.cell (p:=⟨w.heap.size,0,none⟩) (Nat.lt_of_lt_of_le hwr hb.size)];exact h2,hb.trans (hb2.mono hb.size)⟩)
      have hbd:Below wr.heap.size wr wr.drew:=(Below.refl _ _).drew
      clear hsz hsz2 how
      generalize hmk:markT 25=mk at *
      go_wp2_with fail
      go_region_held3 (fun w'=>w'.cell? ⟨g,0,none⟩=some (.string l0)∧w'.cell? ⟨g,1,none⟩=some (.string l1)∧w'.cell? ⟨w.heap.size,0,none⟩=some (.int .u8 25)∧Below wr.heap.size wr w') (go_keep) (first|(go_at_call 67;(with_reducible refine (HM.out _ ?_ ?_ ?_ ?_).mono ?_);(first|assumption|exact c0);(first|assumption|exact c1);(first|assumption|exact m0);(first|assumption|exact hbd);rintro e w' ⟨rfl,q0,q1,q2,q3⟩))
      go_wp2
      go_ret
      exact ⟨by rw [hex,← hmk];rfl,HBW.out.trans (q3.mono HBW.out.size)⟩
    · obtain ⟨x,rfl,_⟩:=shape1 (show isR (ks.map Ast.kind) [0]=true from HW.out.parts.2.2.2)
      have hk1:j=1:=hkl.symm
      subst hk1
      obtain ⟨l0,hl0⟩:∃l0,exL 26 0 [x]=[l0]:=⟨_,rfl⟩
      have hex:exT (.mk 26 a s n [x])=nodeT 26 s n [l0]:=by simp only [exT,hl0]
      rw [hex] at hsz
      simp only [nodeT,List.getD_cons_zero,ByteArray.size_append] at hsz
      have h91:(⟨#[91]⟩:ByteArray).size=1:=rfl
      have h93:(⟨#[93]⟩:ByteArray).size=1:=rfl
      have h45:(⟨#[45]⟩:ByteArray).size=1:=rfl
      rw [hl0] at how
      obtain ⟨g,cap,hv,hg1,hg2⟩:=how.form (by simp)
      subst hv
      have c0:wr.cell? ⟨g,0,none⟩=some (.string l0):=by have:=how.cellAt 0 (by simp);simpa using this
      have z1:¬ 9223372036854775807<1+l0.size:=by simp at hsz;omega
      clear hsz how
      go_wp2
      go_ret
      exact ⟨by rw [hex];rfl,HBW.out⟩
theorem refExpr_at (ns:List Nd):∀(m:Nat) (x:Ast),x.size≤m→wfR x→20≤x.kind→HasE ns x
 | 0,x,h,_,_=>absurd h (by have:=ast_pos x;omega)
 | m+1,.mk k a s n ks,h,hw,hk=>by
  refine refExpr_step ns k a s n ks hk fun y hy=>?_
  have h1:sizeL ks≤m:=by simp only [Ast.size] at h;omega
  have h2:y.size≤sizeL ks:=sizeL_mem hy
  have h3:wfR y:=wfRL_mem hw.2 y hy
  refine refExpr_at ns m y (by omega) h3 ?_
  have hp:=hw.parts
  have hkk:k=20∨k=21∨k=22∨k=23∨k=24∨k=25∨k=26:=by have:20≤k:=hk;omega
  have hex:∀z:Ast,isExprK z.kind=true→20≤z.kind:=fun z hz=>by have:=(isExprK_iff _).1 hz;omega
  rcases hkk with rfl|rfl|rfl|rfl|rfl|rfl|rfl
  · obtain ⟨z,rfl,hz⟩:=shape1 (show isR (ks.map Ast.kind) [0]=true from hp.2.2.2)
    rw [List.mem_singleton] at hy;subst hy;exact hex _ hz
  · obtain rfl:=shape0 (show decide ((ks.map Ast.kind).length=0)=true from hp.2.2.2)
    simp at hy
  · obtain rfl:=shape0 (show decide ((ks.map Ast.kind).length=0)=true from hp.2.2.2)
    simp at hy
  · obtain ⟨z,z',rfl,hz,hz'⟩:=shape2 (show isR (ks.map Ast.kind) [0,0]=true from hp.2.2.2)
    rcases List.mem_cons.1 hy with rfl|hy
    · exact hex _ hz
    · rw [List.mem_singleton] at hy;subst hy;exact hex _ hz'
  · obtain ⟨z,z',rfl,hz,hz'⟩:=shape2 (show isR (ks.map Ast.kind) [0,0]=true from hp.2.2.2)
    rcases List.mem_cons.1 hy with rfl|hy
    · exact hex _ hz
    · rw [List.mem_singleton] at hy;subst hy;exact hex _ hz'
  · obtain ⟨z,z',rfl,hz,hz'⟩:=shape2 (show isR (ks.map Ast.kind) [0,0]=true from hp.2.2.2)
    rcases List.mem_cons.1 hy with rfl|hy
    · exact hex _ hz
    · rw [List.mem_singleton] at hy;subst hy;exact hex _ hz'
  · obtain ⟨z,rfl,hz⟩:=shape1 (show isR (ks.map Ast.kind) [0]=true from hp.2.2.2)
    rw [List.mem_singleton] at hy;subst hy;exact hex _ hz
end
section
open Go.RowKit Tr
theorem joinT_snoc (l:List ByteArray)(s:ByteArray):joinT (l++[s])=if l=[] then s else joinT l++⟨#[44,32]⟩++s:=by
 induction l with
 | nil=>rfl
 | cons x r ih =>
  rw [if_neg (by simp)]
  cases r with
  | nil=>rfl
  | cons y r' =>
   have h1:joinT ((x::y::r')++[s])=x++⟨#[44,32]⟩++joinT ((y::r')++[s]):=rfl
   have h2:joinT (x::y::r')=x++⟨#[44,32]⟩++joinT (y::r'):=rfl
   rw [h1,h2,ih,if_neg (by simp)]
   simp only [app_assoc]
theorem joinT_size:∀l:List ByteArray,(joinT l).size≤(l.map ByteArray.size).sum+2*l.length
 | []=>by simp [joinT];rfl
 | [s]=>by simp [joinT]
 | x::y::r=>by
  have h:=joinT_size (y::r)
  have h2:joinT (x::y::r)=x++⟨#[44,32]⟩++joinT (y::r):=rfl
  rw [h2,ByteArray.size_append,ByteArray.size_append]
  have h3:(⟨#[44,32]⟩:ByteArray).size=2:=rfl
  simp only [List.map_cons,List.sum_cons,List.length_cons] at *
  omega
def isTx (x:Ast):Prop:=x.kind=5∨20≤x.kind
theorem refText_at (ns:List Nd)(x:Ast)(hx:isTx x)(o:Nat)(w:World)(p:Option Addr)(len c:Nat)(hT:TV w p len c ns)(hO:On ns o x)(hw:wfR x)(ht:PT10 w)(hlen:len≤70000) :
 Calls Tryz.prog 104 #[.slice p len c,.int .i64 o] w fun e w'=>e=.returned (.string (exT x))∧Below w.heap.size w w':=by
 cases x with
 | mk k a s n ks =>
 have HX:=lh (fun h=>refExpr_at ns _ (.mk k a s n ks) (Nat.le_refl _) hw h o w p len c hT hO hw ht hlen)
 obtain ⟨a',hnd⟩:=hO.node
 have hol:=hO.lt
 have hle:=hT.len_eq
 obtain ⟨b,off,rfl,hbl,hc⟩:=hT.node (by omega)
 obtain ⟨kp,kl,kc,hn⟩:=hc o (by omega)
 rw [hnd] at hn
 have k0:w.cell? ⟨b,off+o*5,none⟩=some (.int .u8 k):=hn.kind
 have k2:w.cell? ⟨b,off+o*5+2,none⟩=some (.string s):=hn.text
 have b0:(0:Int)≤(o:Int):=by omega
 have b1:(o:Int)<(len:Int):=by omega
 clear hT hO hw ht hn hc hle hnd
 by_cases h5:k=5
 · subst h5
   clear HX
   go_enter Tryz.func104,Tryz.ntmps104
   go_wp2
   go_ret
   exact ⟨rfl,Below.refl _ _⟩
 · have e5:(k==5)=false:=by simpa using h5
   have h20:20≤k:=by
    rcases hx with h|h
    · exact absurd h h5
    · exact h
   have HY:=lh (HX.out h20)
   clear HX
   go_enter Tryz.func104,Tryz.ntmps104
   go_wp2_with fail
   (with_reducible refine HY.out.mono ?_)
   rintro e w' ⟨rfl,hb⟩
   go_wp2
   go_ret
   exact ⟨rfl,hb⟩
def OnL (ns:List Nd)(l:List Int)(ks:List Ast):Prop:=l.length=ks.length∧∀j (hj:j<ks.length),∃q:Nat,l.getD j 0=(q:Int)∧q<ns.length∧On ns q ks[j]
theorem On.kids {ns:List Nd}{o:Nat}{k:Int}{a:Nat}{s:ByteArray}{n:Int}{ks:List Ast}(h:On ns o (.mk k a s n ks)):OnL ns (heads (o+1) ks) ks:=⟨heads_length _ _,fun j hj=>h.kid j hj⟩
theorem refList_at (ns:List Nd)(ks:List Ast)(hks:∀x∈ks,isTx x∧wfR x)(hS:sizeL ks≤70000)(l:List Int)(w:World)(p q:Option Addr)(len c n cq:Nat)(hT:TV w p len c ns)(hI:IV w q n cq l)(hO:OnL ns l ks)(ht:PT10 w)(hlen:len≤70000) :
 Calls Tryz.prog 57 #[.slice p len c,.slice q n cq] w fun e w'=>e=.returned (.string (joinT (ks.map exT)))∧Below w.heap.size w w':=by
 have hn:ks.length=n:=by rw [← hI.len_eq,hO.1]
 have hLs:=len_sizeL ks
 have HT:=lh hT
 have HI:=lh hI
 have HO:=lh hO
 have HP:=lh ht
 have HK:=lh hks
 have HN:=lh hn
 have HZ:Hid (∀j,((ks.take j).map exT).length≤70000∧(((ks.take j).map exT).map ByteArray.size).sum≤70100*70000):=lh (fun j=>⟨by simp;omega,by
  have h1:∀l:List Ast,(∀x∈l,wfR x)→((l.map exT).map ByteArray.size).sum≤70100*sizeL l:=by
   intro l
   induction l with
   | nil=>intro _;simp
   | cons x r ih =>
    intro h
    have h1:=exT_size x (h x (by simp))
    have h2:=ih (fun y hy=>h y (by simp [hy]))
    simp only [List.map_cons,List.sum_cons,sizeL]
    omega
  have h2:sizeL (ks.take j)≤sizeL ks:=by
   have:∀(l:List Ast) (j:Nat),sizeL (l.take j)≤sizeL l:=by
    intro l
    induction l with
    | nil=>intro j;simp
    | cons x r ih =>
     intro j
     cases j with
     | zero=>simp [sizeL]
     | succ j=>have:=ih j;simp only [List.take_succ_cons,sizeL];omega
   exact this ks j
  have h3:=h1 (ks.take j) (fun x hx=>(hks x (List.mem_of_mem_take hx)).2)
  have h4:70100*sizeL (ks.take j)≤70100*70000:=Nat.mul_le_mul_left _ (by omega)
  exact Nat.le_trans h3 h4⟩)
 clear hT hI hO ht hks
 go_enter Tryz.func57,Tryz.ntmps57
 go_wp2_with fail
 go_loopw [5,6] (fun v iv wr=>∃j:Nat,j≤n∧iv=.int .i64 j∧v=.string (joinT ((ks.take j).map exT))∧Hid (Below w.heap.size w wr)) (fun _ iv _=>n-(intOf iv).toNat)
 case atStart=>exact ⟨0,by omega,rfl,rfl,lh (Below.refl _ _)⟩
 case round =>
  obtain ⟨j,hjl,rfl,rfl,HB⟩:=hrel
  by_cases hlt:j<n
  · have hjk:j<ks.length:=by have:=HN.out;omega
    obtain ⟨z,hz,hzl,hOz⟩:=HO.out.2 j hjk
    obtain ⟨kb,koff,rfl,hkb,hkc⟩:=(HI.out.on HB.out).cell (by omega)
    have m5:=hkc j hlt
    rw [hz] at m5
    have hkj:=HK.out ks[j] (List.getElem_mem hjk)
    have CE:=lh (refText_at ns ks[j] hkj.1 z wr p len c (HT.out.on HB.out) hOz hkj.2 (HP.out.below HB.out) hlen)
    have h0j:(0:Int)≤(j:Int):=by omega
    have hj2:(j:Int)<(n:Int):=by omega
    have HSN:Hid (joinT ((ks.take (j+1)).map exT)=if j=0 then exT ks[j] else joinT ((ks.take j).map exT)++⟨#[44,32]⟩++exT ks[j]):=lh (by
     have e1:ks.take (j+1)=ks.take j++[ks[j]]:=by rw [List.take_succ_eq_append_getElem hjk]
     rw [e1,List.map_append,List.map_cons,List.map_nil,joinT_snoc]
     by_cases h0:j=0
     · subst h0;simp
     · rw [if_neg h0,if_neg]
       intro h
       have:=congrArg List.length h
       rw [List.length_map,List.length_take,List.length_nil] at this
       omega)
    have hs1:=joinT_size ((ks.take j).map exT)
    have hs2:=joinT_size ((ks.take (j+1)).map exT)
    have hz1:=HZ.out j
    have hz2:=HZ.out (j+1)
    clear hkc hkj hz hOz
    have hj00:j=0→joinT ((ks.take j).map exT)=none0:=fun h=>by subst h;rfl
    rw [HSN.out] at hs2
    generalize joinT ((ks.take j).map exT)=s0 at *
    generalize exT ks[j]=s1 at *
    by_cases h0:j=0
    · subst h0
      have:=hj00 rfl
      subst this
      rw [if_pos rfl] at hs2 HSN
      have z1:¬ 9223372036854775807<s1.size:=by omega
      clear hs1 hs2 hz1 hz2 hj00
      rw [Nat.add_zero] at m5
      go_wp2_with fail
      (with_reducible refine CE.out.mono ?_)
      rintro e w6 ⟨rfl,hb6⟩
      have B6:=lh (HB.out.trans (hb6.mono HB.out.size))
      clear CE hb6
      go_wp2_with fail
      go_roundw
      case rel=>exact ⟨0+1,by omega,by go_num,by rw [HSN.out,none_app],B6⟩
      case measure=>simp [intOf];omega
    · have hgt:decide (0<(j:Int))=true:=by simp;omega
      have hgt2:decide (0<j)=true:=by simp;omega
      rw [if_neg h0,ByteArray.size_append,ByteArray.size_append] at hs2
      rw [if_neg h0] at HSN
      have h44:(⟨#[44,32]⟩:ByteArray).size=2:=rfl
      have z1:¬ 9223372036854775807<s0.size+2:=by omega
      have z2:¬ 9223372036854775807<s0.size+2+s1.size:=by omega
      clear hs1 hs2 hz1 hz2 hj00
      go_wp2_with fail
      (with_reducible refine CE.out.mono ?_)
      rintro e w6 ⟨rfl,hb6⟩
      have B6:=lh (HB.out.trans (hb6.mono HB.out.size))
      clear CE hb6
      go_wp2_with fail
      go_roundw
      case rel=>exact ⟨j+1,by omega,by go_num,by rw [HSN.out],B6⟩
      case measure=>simp [intOf];omega
  · have e:j=n:=by omega
    subst e
    have e2:ks.take j=ks:=List.take_of_length_le (by have:=HN.out;omega)
    rw [e2]
    go_wp2
    go_ret
    exact ⟨rfl,HB.out⟩
theorem tabsT_succ (d:Nat):tabsT (d+1)=tabsT d++⟨#[9]⟩:=by
 unfold tabsT
 rw [List.replicate_succ']
 apply ByteArray.ext
 apply Array.ext'
 simp
theorem tabsT_size (d:Nat):(tabsT d).size=d:=by
 show (List.replicate d (9:UInt8)).toArray.size=d
 simp
theorem refAhead_at (w:World)(d:Nat)(hd:d≤200000):Calls Tryz.prog 173 #[.int .i64 (d:Int)] w fun e w'=>e=.returned (.string (tabsT d))∧w'=w:=by
 go_enter Tryz.func173,Tryz.ntmps173
 go_wp2_with fail
 go_loopw [3,4] (fun v iv wr=>∃j:Nat,j≤d∧iv=.int .i64 j∧v=.string (tabsT j)∧wr=w) (fun _ iv _=>d-(intOf iv).toNat)
 case atStart=>exact ⟨0,by omega,rfl,rfl,rfl⟩
 case round =>
  obtain ⟨j,hjl,rfl,rfl,rfl⟩:=hrel
  have z0:=tabsT_size j
  by_cases hlt:j<d
  · have h1:(j:Int)<(d:Int):=by omega
    have HS:=lh (tabsT_succ j)
    generalize tabsT j=s0 at *
    have z1:¬ 9223372036854775807<s0.size+1:=by omega
    go_wp2_with fail
    go_roundw
    case rel=>exact ⟨j+1,by omega,by go_num,by rw [HS.out],trivial⟩
    case measure=>simp [intOf];omega
  · have e:j=d:=by omega
    subst e
    go_wp2
    go_ret
    exact ⟨rfl,rfl⟩
end
section
open Go.RowKit Tr
structure Pc where
 text:ByteArray
 node:Int
 brk:Bool
def Pc.cells (x:Pc):List Value:=[.string x.text,.int .i64 x.node,.bool x.brk]
def pcT (s:ByteArray):Pc:=⟨s,0,false⟩
def pcN (q:Nat)(b:Bool):Pc:=⟨⟨#[]⟩,(q:Int),b⟩
def PcsAt (w w':World)(v:Value)(l:List Pc):Prop:=∃g,v=.slice (some ⟨g,0,none⟩) l.length l.length∧w'.heap[g]?=some (.cells (l.flatMap Pc.cells).toArray 184 (0,0))∧w.heap.size≤g∧g<w'.heap.size
structure NodeArg (w:World)(b:Nat)(p:Option Addr)(len c:Nat)(ns:List Nd)(kp:Option Addr)(kl kc:Nat)(ks:List Int):Prop where
 c0:w.cell? ⟨b,0,none⟩=some (.slice p len c)
 tv:TV w p len c ns
 iv:IV w kp kl kc ks
theorem NodeArg.on {w w':World}{b:Nat}{p:Option Addr}{len c:Nat}{ns:List Nd}{kp:Option Addr}{kl kc:Nat}{ks:List Int}(h:NodeArg w b p len c ns kp kl kc ks)(hb:Below w.heap.size w w'):NodeArg w' b p len c ns kp kl kc ks :=
 ⟨by rw [hb.cell (p:=⟨b,0,none⟩) (cellLt h.c0)];exact h.c0,h.tv.on hb,h.iv.on hb⟩
abbrev PW (w:World)(b:Nat)(k a n:Int)(s:ByteArray)(kp:Option Addr)(kl kc:Nat):World:=(((w.alloc (.cells #[.pointer (some ⟨b,0,none⟩)] 163)).alloc (.cells #[.int .u8 k,.int .i64 a,.string s,.int .i64 n,.slice kp kl kc] 54)).alloc (.cells #[.int .u8 k] 5)).alloc (.cells #[.func (.func 228) #[] #[.pointer (some ⟨w.heap.size+1+1,0,none⟩)]] 245)
theorem PW_size (w:World)(b:Nat)(k a n:Int)(s:ByteArray)(kp:Option Addr)(kl kc:Nat):(PW w b k a n s kp kl kc).heap.size=w.heap.size+4:=by simp [PW]
theorem PW_below (w:World)(b:Nat)(k a n:Int)(s:ByteArray)(kp:Option Addr)(kl kc:Nat):Below w.heap.size w (PW w b k a n s kp kl kc):=((((Below.refl _ _).alloc (Nat.le_refl _) _).alloc (by simp) _).alloc (by simp<;>omega) _).alloc (by simp<;>omega) _
theorem PW_cells (w:World)(b:Nat)(k a n:Int)(s:ByteArray)(kp:Option Addr)(kl kc:Nat) :
 (PW w b k a n s kp kl kc).cell? ⟨w.heap.size,0,none⟩=some (.pointer (some ⟨b,0,none⟩))∧(PW w b k a n s kp kl kc).cell? ⟨w.heap.size+1,0,none⟩=some (.int .u8 k)∧(PW w b k a n s kp kl kc).cell? ⟨w.heap.size+1,2,none⟩=some (.string s)∧(PW w b k a n s kp kl kc).cell? ⟨w.heap.size+1,3,none⟩=some (.int .i64 n)∧(PW w b k a n s kp kl kc).cell? ⟨w.heap.size+1,4,none⟩=some (.slice kp kl kc)∧(PW w b k a n s kp kl kc).cell? ⟨w.heap.size+1+1,0,none⟩=some (.int .u8 k)∧(PW w b k a n s kp kl kc).cell? ⟨w.heap.size+1+1+1,0,none⟩=some (.func (.func 228) #[] #[.pointer (some ⟨w.heap.size+1+1,0,none⟩)]):=by
 have h1:=heap_alloc_new w (.cells #[.pointer (some ⟨b,0,none⟩)] 163)
 have h2:=heap_alloc_new (w.alloc (.cells #[.pointer (some ⟨b,0,none⟩)] 163)) (.cells #[.int .u8 k,.int .i64 a,.string s,.int .i64 n,.slice kp kl kc] 54)
 have h3:=heap_alloc_new ((w.alloc (.cells #[.pointer (some ⟨b,0,none⟩)] 163)).alloc (.cells #[.int .u8 k,.int .i64 a,.string s,.int .i64 n,.slice kp kl kc] 54)) (.cells #[.int .u8 k] 5)
 have h4:=heap_alloc_new (((w.alloc (.cells #[.pointer (some ⟨b,0,none⟩)] 163)).alloc (.cells #[.int .u8 k,.int .i64 a,.string s,.int .i64 n,.slice kp kl kc] 54)).alloc (.cells #[.int .u8 k] 5)) (.cells #[.func (.func 228) #[] #[.pointer (some ⟨w.heap.size+1+1,0,none⟩)]] 245)
 simp only [World.size_alloc] at h2 h3 h4
 have g1:(PW w b k a n s kp kl kc).heap[w.heap.size]?=_:=((Below.heap_alloc _ _ _ (by simp<;>omega)).trans ((Below.heap_alloc _ _ _ (by simp<;>omega)).trans (Below.heap_alloc _ _ _ (by simp)))).trans h1
 have g2:(PW w b k a n s kp kl kc).heap[w.heap.size+1]?=_:=((Below.heap_alloc _ _ _ (by simp<;>omega)).trans (Below.heap_alloc _ _ _ (by simp))).trans h2
 have g3:(PW w b k a n s kp kl kc).heap[w.heap.size+1+1]?=_:=(Below.heap_alloc _ _ _ (by simp)).trans h3
 clear h1 h2 h3
 exact ⟨by rw [cell_of_row _ _ _ _ _ _ g1];first|done|rfl,by rw [cell_of_row _ _ _ _ _ _ g2];first|done|rfl,by rw [cell_of_row _ _ _ _ _ _ g2];first|done|rfl,by rw [cell_of_row _ _ _ _ _ _ g2];first|done|rfl,by rw [cell_of_row _ _ _ _ _ _ g2];first|done|rfl,by rw [cell_of_row _ _ _ _ _ _ g3];first|done|rfl,by rw [cell_of_row _ _ _ _ _ _ h4];first|done|rfl⟩
theorem piecesO (w:World)(b:Nat)(p:Option Addr)(len c:Nat)(ns:List Nd)(k:Int)(hk:(k==20)=false∧(k==21)=false∧(k==23)=false∧(k==24)=false∧(k==25)=false∧(k==26)=false)(a n:Int)(s:ByteArray)(kp:Option Addr)(kl kc:Nat)(ks:List Int)(hA:NodeArg w b p len c ns kp kl kc ks) :
 Calls Tryz.prog 112 #[.pointer (some ⟨b,0,none⟩),.agg #[.int .u8 k,.int .i64 a,.string s,.int .i64 n,.slice kp kl kc]] w fun e w'=>(∃v,e=.returned v∧PcsAt w w' v [pcT s])∧Below w.heap.size w w':=by
 have hPB:=PW_below w b k a n s kp kl kc
 have HPS:=lh (PW_size w b k a n s kp kl kc)
 obtain ⟨e0,e1,e2,e3,e4,e5,e6⟩:=PW_cells w b k a n s kp kl kc
 have HA:=lh (hA.on hPB)
 have HPB:=lh hPB
 obtain ⟨f0,f1,f2,f3,f4,f5⟩:=hk
 clear hA hPB
 go_enter Tryz.func112,Tryz.ntmps112
 go_wp2_with fail
 (with_reducible refine (brackets_at _ _).mono ?_)
 rintro e wk ⟨rfl,rfl⟩
 go_upto_region 16 with fail
 obtain ⟨W4,hW4⟩:∃W4,(((w.alloc (.cells #[.pointer (some ⟨b,0,none⟩)] 163)).alloc (.cells #[.int .u8 k,.int .i64 a,.string s,.int .i64 n,.slice kp kl kc] 54)).alloc (.cells #[.int .u8 k] 5)).alloc (.cells #[.func (.func 228) #[] #[.pointer (some ⟨w.heap.size+1+1,0,none⟩)]] 245)=W4:=⟨_,rfl⟩
 rw [hW4]
 rw [show PW w b k a n s kp kl kc=W4 from hW4] at e0 e1 e2 e3 e4 e5 e6 HPB HPS
 clear hW4
 go_wp2_with fail
 go_ret
 exact ⟨⟨_,rfl,_,rfl,heap_alloc_new W4 _,by have:=((Below.refl W4.heap.size W4)).size;have:=HPS.out;omega,by simp⟩,(HPB.out.trans (((Below.refl W4.heap.size W4)).mono HPB.out.size)).trans ((one_below W4 _).mono (by have:=((Below.refl W4.heap.size W4)).size;have:=HPS.out;omega))⟩
theorem piecesN (w:World)(b:Nat)(p:Option Addr)(len c:Nat)(ns:List Nd)(a n:Int)(s:ByteArray)(kp:Option Addr)(kl kc:Nat)(ks:List Int)(hA:NodeArg w b p len c ns kp kl kc ks)(hn:0≤n∧n≤2147483647)(ht:PT10 w) :
 Calls Tryz.prog 112 #[.pointer (some ⟨b,0,none⟩),.agg #[.int .u8 21,.int .i64 a,.string s,.int .i64 n,.slice kp kl kc]] w fun e w'=>(∃v,e=.returned v∧PcsAt w w' v [pcT (numT n)])∧Below w.heap.size w w':=by
 have hPB:=PW_below w b 21 a n s kp kl kc
 have HPS:=lh (PW_size w b 21 a n s kp kl kc)
 obtain ⟨e0,e1,e2,e3,e4,e5,e6⟩:=PW_cells w b 21 a n s kp kl kc
 have HA:=lh (hA.on hPB)
 have HPB:=lh hPB
 have FM:=lh (fun w' hb=>fmt_at w' n hn.1 hn.2 ((ht.below HPB.out).below hb))
 clear hA hPB
 go_enter Tryz.func112,Tryz.ntmps112
 go_wp2_with fail
 (with_reducible refine (brackets_at _ _).mono ?_)
 rintro e wk ⟨rfl,rfl⟩
 go_upto_region 7 with fail
 obtain ⟨W4,hW4⟩:∃W4,(((w.alloc (.cells #[.pointer (some ⟨b,0,none⟩)] 163)).alloc (.cells #[.int .u8 21,.int .i64 a,.string s,.int .i64 n,.slice kp kl kc] 54)).alloc (.cells #[.int .u8 21] 5)).alloc (.cells #[.func (.func 228) #[] #[.pointer (some ⟨w.heap.size+1+1,0,none⟩)]] 245)=W4:=⟨_,rfl⟩
 rw [hW4]
 rw [show PW w b 21 a n s kp kl kc=W4 from hW4] at e0 e1 e2 e3 e4 e5 e6 HPB HPS FM
 clear hW4
 go_wp2_with fail
 (with_reducible refine (FM.out _ (Below.refl W4.heap.size W4)).mono ?_)
 rintro e w5 ⟨rfl,hb5⟩
 have B5:=lh hb5
 clear hb5
 go_wp2_with fail
 go_ret
 exact ⟨⟨_,rfl,_,rfl,heap_alloc_new w5 _,by have:=(B5.out).size;have:=HPS.out;omega,by simp⟩,(HPB.out.trans ((B5.out).mono HPB.out.size)).trans ((one_below w5 _).mono (by have:=(B5.out).size;have:=HPS.out;omega))⟩
theorem pieces23 (w:World)(b:Nat)(p:Option Addr)(len c:Nat)(ns:List Nd)(a n:Int)(s:ByteArray)(kp:Option Addr)(kl kc:Nat)(ks:List Int)(q0:Nat)(y0:Int)(hq0:ks.getD 0 0=(q0:Int))(hl0:q0<len)(hy0:(ns.getD q0 default).kind=y0)(q1:Nat)(y1:Int)(hq1:ks.getD 1 0=(q1:Int))(hl1:q1<len)(hy1:(ns.getD q1 default).kind=y1)(hkl:2≤kl)(hA:NodeArg w b p len c ns kp kl kc ks) :
 Calls Tryz.prog 112 #[.pointer (some ⟨b,0,none⟩),.agg #[.int .u8 23,.int .i64 a,.string s,.int .i64 n,.slice kp kl kc]] w fun e w'=>(∃v,e=.returned v∧PcsAt w w' v [pcN q0 (br 23 false y0),pcT ⟨#[32,43,32]⟩,pcN q1 (br 23 true y1)])∧Below w.heap.size w w':=by
 have hPB:=PW_below w b 23 a n s kp kl kc
 have HPS:=lh (PW_size w b 23 a n s kp kl kc)
 obtain ⟨e0,e1,e2,e3,e4,e5,e6⟩:=PW_cells w b 23 a n s kp kl kc
 have HA:=lh (hA.on hPB)
 have HPB:=lh hPB
 have HP0:Hid (∀w',Below (PW w b 23 a n s kp kl kc).heap.size (PW w b 23 a n s kp kl kc) w'→Calls Tryz.prog 179 #[.int .i64 0,.pointer (some ⟨w.heap.size+1,0,none⟩),.pointer (some ⟨w.heap.size+1+1+1,0,none⟩),.pointer (some ⟨w.heap.size,0,none⟩)] w' fun e w''=>e=.returned (.agg #[.string ⟨#[]⟩,.int .i64 (q0:Int),.bool (br 23 false y0)])∧Below w'.heap.size w' w''):=lh (fun w' hb =>
  have hA2:=HA.out.on hb
  part_at w' _ _ _ (w.heap.size+1+1) b 23 0 q0 y0 p len c kp kl kc ks ns (by rw [hb.cell (cellLt e4)];exact e4) (by rw [hb.cell (cellLt e6)];exact e6) (by rw [hb.cell (cellLt e0)];exact e0) (by rw [hb.cell (cellLt e5)];exact e5) hA2.c0 hA2.tv hA2.iv (by omega) hq0 hl0 hy0)
 have HP1:Hid (∀w',Below (PW w b 23 a n s kp kl kc).heap.size (PW w b 23 a n s kp kl kc) w'→Calls Tryz.prog 179 #[.int .i64 1,.pointer (some ⟨w.heap.size+1,0,none⟩),.pointer (some ⟨w.heap.size+1+1+1,0,none⟩),.pointer (some ⟨w.heap.size,0,none⟩)] w' fun e w''=>e=.returned (.agg #[.string ⟨#[]⟩,.int .i64 (q1:Int),.bool (br 23 true y1)])∧Below w'.heap.size w' w''):=lh (fun w' hb =>
  have hA2:=HA.out.on hb
  part_at w' _ _ _ (w.heap.size+1+1) b 23 1 q1 y1 p len c kp kl kc ks ns (by rw [hb.cell (cellLt e4)];exact e4) (by rw [hb.cell (cellLt e6)];exact e6) (by rw [hb.cell (cellLt e0)];exact e0) (by rw [hb.cell (cellLt e5)];exact e5) hA2.c0 hA2.tv hA2.iv (by omega) hq1 hl1 hy1)
 clear hA hPB
 go_enter Tryz.func112,Tryz.ntmps112
 go_wp2_with fail
 (with_reducible refine (brackets_at _ _).mono ?_)
 rintro e wk ⟨rfl,rfl⟩
 go_upto_region 9 with fail
 obtain ⟨W4,hW4⟩:∃W4,(((w.alloc (.cells #[.pointer (some ⟨b,0,none⟩)] 163)).alloc (.cells #[.int .u8 23,.int .i64 a,.string s,.int .i64 n,.slice kp kl kc] 54)).alloc (.cells #[.int .u8 23] 5)).alloc (.cells #[.func (.func 228) #[] #[.pointer (some ⟨w.heap.size+1+1,0,none⟩)]] 245)=W4:=⟨_,rfl⟩
 rw [hW4]
 rw [show PW w b 23 a n s kp kl kc=W4 from hW4] at e0 e1 e2 e3 e4 e5 e6 HPB HPS HP0 HP1
 clear hW4
 go_wp2_with fail
 (with_reducible refine (HP0.out _ (Below.refl W4.heap.size W4)).mono ?_)
 rintro e w5 ⟨rfl,hb5⟩
 have B5:=lh hb5
 clear hb5
 have x0:=fun q (hq:q<W4.heap.size) o=>B5.out.cell (p:=⟨q,o,none⟩) hq
 go_wp2_with fail
 (with_reducible refine (HP1.out _ B5.out).mono ?_)
 rintro e w6 ⟨rfl,hb6⟩
 have B6:=lh (B5.out.trans (hb6.mono B5.out.size))
 clear hb6
 go_wp2_with fail
 go_ret
 exact ⟨⟨_,rfl,_,rfl,heap_alloc_new w6 _,by have:=(B6.out).size;have:=HPS.out;omega,by simp⟩,(HPB.out.trans ((B6.out).mono HPB.out.size)).trans ((one_below w6 _).mono (by have:=(B6.out).size;have:=HPS.out;omega))⟩
theorem pieces24 (w:World)(b:Nat)(p:Option Addr)(len c:Nat)(ns:List Nd)(a n:Int)(s:ByteArray)(kp:Option Addr)(kl kc:Nat)(ks:List Int)(q0:Nat)(y0:Int)(hq0:ks.getD 0 0=(q0:Int))(hl0:q0<len)(hy0:(ns.getD q0 default).kind=y0)(q1:Nat)(y1:Int)(hq1:ks.getD 1 0=(q1:Int))(hl1:q1<len)(hy1:(ns.getD q1 default).kind=y1)(hkl:2≤kl)(hA:NodeArg w b p len c ns kp kl kc ks) :
 Calls Tryz.prog 112 #[.pointer (some ⟨b,0,none⟩),.agg #[.int .u8 24,.int .i64 a,.string s,.int .i64 n,.slice kp kl kc]] w fun e w'=>(∃v,e=.returned v∧PcsAt w w' v [pcN q0 (br 24 false y0),pcT ⟨#[32,45,32]⟩,pcN q1 (br 24 true y1)])∧Below w.heap.size w w':=by
 have hPB:=PW_below w b 24 a n s kp kl kc
 have HPS:=lh (PW_size w b 24 a n s kp kl kc)
 obtain ⟨e0,e1,e2,e3,e4,e5,e6⟩:=PW_cells w b 24 a n s kp kl kc
 have HA:=lh (hA.on hPB)
 have HPB:=lh hPB
 have HP0:Hid (∀w',Below (PW w b 24 a n s kp kl kc).heap.size (PW w b 24 a n s kp kl kc) w'→Calls Tryz.prog 179 #[.int .i64 0,.pointer (some ⟨w.heap.size+1,0,none⟩),.pointer (some ⟨w.heap.size+1+1+1,0,none⟩),.pointer (some ⟨w.heap.size,0,none⟩)] w' fun e w''=>e=.returned (.agg #[.string ⟨#[]⟩,.int .i64 (q0:Int),.bool (br 24 false y0)])∧Below w'.heap.size w' w''):=lh (fun w' hb =>
  have hA2:=HA.out.on hb
  part_at w' _ _ _ (w.heap.size+1+1) b 24 0 q0 y0 p len c kp kl kc ks ns (by rw [hb.cell (cellLt e4)];exact e4) (by rw [hb.cell (cellLt e6)];exact e6) (by rw [hb.cell (cellLt e0)];exact e0) (by rw [hb.cell (cellLt e5)];exact e5) hA2.c0 hA2.tv hA2.iv (by omega) hq0 hl0 hy0)
 have HP1:Hid (∀w',Below (PW w b 24 a n s kp kl kc).heap.size (PW w b 24 a n s kp kl kc) w'→Calls Tryz.prog 179 #[.int .i64 1,.pointer (some ⟨w.heap.size+1,0,none⟩),.pointer (some ⟨w.heap.size+1+1+1,0,none⟩),.pointer (some ⟨w.heap.size,0,none⟩)] w' fun e w''=>e=.returned (.agg #[.string ⟨#[]⟩,.int .i64 (q1:Int),.bool (br 24 true y1)])∧Below w'.heap.size w' w''):=lh (fun w' hb =>
  have hA2:=HA.out.on hb
  part_at w' _ _ _ (w.heap.size+1+1) b 24 1 q1 y1 p len c kp kl kc ks ns (by rw [hb.cell (cellLt e4)];exact e4) (by rw [hb.cell (cellLt e6)];exact e6) (by rw [hb.cell (cellLt e0)];exact e0) (by rw [hb.cell (cellLt e5)];exact e5) hA2.c0 hA2.tv hA2.iv (by omega) hq1 hl1 hy1)
 clear hA hPB
 go_enter Tryz.func112,Tryz.ntmps112
 go_wp2_with fail
 (with_reducible refine (brackets_at _ _).mono ?_)
 rintro e wk ⟨rfl,rfl⟩
 go_upto_region 11 with fail
 obtain ⟨W4,hW4⟩:∃W4,(((w.alloc (.cells #[.pointer (some ⟨b,0,none⟩)] 163)).alloc (.cells #[.int .u8 24,.int .i64 a,.string s,.int .i64 n,.slice kp kl kc] 54)).alloc (.cells #[.int .u8 24] 5)).alloc (.cells #[.func (.func 228) #[] #[.pointer (some ⟨w.heap.size+1+1,0,none⟩)]] 245)=W4:=⟨_,rfl⟩
 rw [hW4]
 rw [show PW w b 24 a n s kp kl kc=W4 from hW4] at e0 e1 e2 e3 e4 e5 e6 HPB HPS HP0 HP1
 clear hW4
 go_wp2_with fail
 (with_reducible refine (HP0.out _ (Below.refl W4.heap.size W4)).mono ?_)
 rintro e w5 ⟨rfl,hb5⟩
 have B5:=lh hb5
 clear hb5
 have x0:=fun q (hq:q<W4.heap.size) o=>B5.out.cell (p:=⟨q,o,none⟩) hq
 go_wp2_with fail
 (with_reducible refine (HP1.out _ B5.out).mono ?_)
 rintro e w6 ⟨rfl,hb6⟩
 have B6:=lh (B5.out.trans (hb6.mono B5.out.size))
 clear hb6
 go_wp2_with fail
 go_ret
 exact ⟨⟨_,rfl,_,rfl,heap_alloc_new w6 _,by have:=(B6.out).size;have:=HPS.out;omega,by simp⟩,(HPB.out.trans ((B6.out).mono HPB.out.size)).trans ((one_below w6 _).mono (by have:=(B6.out).size;have:=HPS.out;omega))⟩
theorem pieces25 (w:World)(b:Nat)(p:Option Addr)(len c:Nat)(ns:List Nd)(a n:Int)(s:ByteArray)(kp:Option Addr)(kl kc:Nat)(ks:List Int)(q0:Nat)(y0:Int)(hq0:ks.getD 0 0=(q0:Int))(hl0:q0<len)(hy0:(ns.getD q0 default).kind=y0)(q1:Nat)(y1:Int)(hq1:ks.getD 1 0=(q1:Int))(hl1:q1<len)(hy1:(ns.getD q1 default).kind=y1)(hkl:2≤kl)(hA:NodeArg w b p len c ns kp kl kc ks) :
 Calls Tryz.prog 112 #[.pointer (some ⟨b,0,none⟩),.agg #[.int .u8 25,.int .i64 a,.string s,.int .i64 n,.slice kp kl kc]] w fun e w'=>(∃v,e=.returned v∧PcsAt w w' v [pcN q0 (br 25 false y0),pcT ⟨#[32,42,32]⟩,pcN q1 (br 25 true y1)])∧Below w.heap.size w w':=by
 have hPB:=PW_below w b 25 a n s kp kl kc
 have HPS:=lh (PW_size w b 25 a n s kp kl kc)
 obtain ⟨e0,e1,e2,e3,e4,e5,e6⟩:=PW_cells w b 25 a n s kp kl kc
 have HA:=lh (hA.on hPB)
 have HPB:=lh hPB
 have HP0:Hid (∀w',Below (PW w b 25 a n s kp kl kc).heap.size (PW w b 25 a n s kp kl kc) w'→Calls Tryz.prog 179 #[.int .i64 0,.pointer (some ⟨w.heap.size+1,0,none⟩),.pointer (some ⟨w.heap.size+1+1+1,0,none⟩),.pointer (some ⟨w.heap.size,0,none⟩)] w' fun e w''=>e=.returned (.agg #[.string ⟨#[]⟩,.int .i64 (q0:Int),.bool (br 25 false y0)])∧Below w'.heap.size w' w''):=lh (fun w' hb =>
  have hA2:=HA.out.on hb
  part_at w' _ _ _ (w.heap.size+1+1) b 25 0 q0 y0 p len c kp kl kc ks ns (by rw [hb.cell (cellLt e4)];exact e4) (by rw [hb.cell (cellLt e6)];exact e6) (by rw [hb.cell (cellLt e0)];exact e0) (by rw [hb.cell (cellLt e5)];exact e5) hA2.c0 hA2.tv hA2.iv (by omega) hq0 hl0 hy0)
 have HP1:Hid (∀w',Below (PW w b 25 a n s kp kl kc).heap.size (PW w b 25 a n s kp kl kc) w'→Calls Tryz.prog 179 #[.int .i64 1,.pointer (some ⟨w.heap.size+1,0,none⟩),.pointer (some ⟨w.heap.size+1+1+1,0,none⟩),.pointer (some ⟨w.heap.size,0,none⟩)] w' fun e w''=>e=.returned (.agg #[.string ⟨#[]⟩,.int .i64 (q1:Int),.bool (br 25 true y1)])∧Below w'.heap.size w' w''):=lh (fun w' hb =>
  have hA2:=HA.out.on hb
  part_at w' _ _ _ (w.heap.size+1+1) b 25 1 q1 y1 p len c kp kl kc ks ns (by rw [hb.cell (cellLt e4)];exact e4) (by rw [hb.cell (cellLt e6)];exact e6) (by rw [hb.cell (cellLt e0)];exact e0) (by rw [hb.cell (cellLt e5)];exact e5) hA2.c0 hA2.tv hA2.iv (by omega) hq1 hl1 hy1)
 clear hA hPB
 go_enter Tryz.func112,Tryz.ntmps112
 go_wp2_with fail
 (with_reducible refine (brackets_at _ _).mono ?_)
 rintro e wk ⟨rfl,rfl⟩
 go_upto_region 13 with fail
 obtain ⟨W4,hW4⟩:∃W4,(((w.alloc (.cells #[.pointer (some ⟨b,0,none⟩)] 163)).alloc (.cells #[.int .u8 25,.int .i64 a,.string s,.int .i64 n,.slice kp kl kc] 54)).alloc (.cells #[.int .u8 25] 5)).alloc (.cells #[.func (.func 228) #[] #[.pointer (some ⟨w.heap.size+1+1,0,none⟩)]] 245)=W4:=⟨_,rfl⟩
 rw [hW4]
 rw [show PW w b 25 a n s kp kl kc=W4 from hW4] at e0 e1 e2 e3 e4 e5 e6 HPB HPS HP0 HP1
 clear hW4
 go_wp2_with fail
 (with_reducible refine (HP0.out _ (Below.refl W4.heap.size W4)).mono ?_)
 rintro e w5 ⟨rfl,hb5⟩
 have B5:=lh hb5
 clear hb5
 have x0:=fun q (hq:q<W4.heap.size) o=>B5.out.cell (p:=⟨q,o,none⟩) hq
 go_wp2_with fail
 (with_reducible refine (HP1.out _ B5.out).mono ?_)
 rintro e w6 ⟨rfl,hb6⟩
 have B6:=lh (B5.out.trans (hb6.mono B5.out.size))
 clear hb6
 go_wp2_with fail
 go_ret
 exact ⟨⟨_,rfl,_,rfl,heap_alloc_new w6 _,by have:=(B6.out).size;have:=HPS.out;omega,by simp⟩,(HPB.out.trans ((B6.out).mono HPB.out.size)).trans ((one_below w6 _).mono (by have:=(B6.out).size;have:=HPS.out;omega))⟩
theorem piecesR (w:World)(b:Nat)(p:Option Addr)(len c:Nat)(ns:List Nd)(a n:Int)(s:ByteArray)(kp:Option Addr)(kl kc:Nat)(ks:List Int)(q0:Nat)(y0:Int)(hq0:ks.getD 0 0=(q0:Int))(hl0:q0<len)(hy0:(ns.getD q0 default).kind=y0)(hkl:1≤kl)(hA:NodeArg w b p len c ns kp kl kc ks) :
 Calls Tryz.prog 112 #[.pointer (some ⟨b,0,none⟩),.agg #[.int .u8 20,.int .i64 a,.string s,.int .i64 n,.slice kp kl kc]] w fun e w'=>(∃v,e=.returned v∧PcsAt w w' v [pcT s,pcT ⟨#[91]⟩,pcN q0 (br 20 false y0),pcT ⟨#[93]⟩])∧Below w.heap.size w w':=by
 have hPB:=PW_below w b 20 a n s kp kl kc
 have HPS:=lh (PW_size w b 20 a n s kp kl kc)
 obtain ⟨e0,e1,e2,e3,e4,e5,e6⟩:=PW_cells w b 20 a n s kp kl kc
 have HA:=lh (hA.on hPB)
 have HPB:=lh hPB
 have HP0:Hid (∀w',Below (PW w b 20 a n s kp kl kc).heap.size (PW w b 20 a n s kp kl kc) w'→Calls Tryz.prog 179 #[.int .i64 0,.pointer (some ⟨w.heap.size+1,0,none⟩),.pointer (some ⟨w.heap.size+1+1+1,0,none⟩),.pointer (some ⟨w.heap.size,0,none⟩)] w' fun e w''=>e=.returned (.agg #[.string ⟨#[]⟩,.int .i64 (q0:Int),.bool (br 20 false y0)])∧Below w'.heap.size w' w''):=lh (fun w' hb =>
  have hA2:=HA.out.on hb
  part_at w' _ _ _ (w.heap.size+1+1) b 20 0 q0 y0 p len c kp kl kc ks ns (by rw [hb.cell (cellLt e4)];exact e4) (by rw [hb.cell (cellLt e6)];exact e6) (by rw [hb.cell (cellLt e0)];exact e0) (by rw [hb.cell (cellLt e5)];exact e5) hA2.c0 hA2.tv hA2.iv (by omega) hq0 hl0 hy0)
 have hbd:Below (PW w b 20 a n s kp kl kc).heap.size (PW w b 20 a n s kp kl kc) (PW w b 20 a n s kp kl kc).drew:=(Below.refl _ _).drew
 clear hA hPB
 go_enter Tryz.func112,Tryz.ntmps112
 go_wp2_with fail
 (with_reducible refine (brackets_at _ _).mono ?_)
 rintro e wk ⟨rfl,rfl⟩
 go_upto_region 5 with fail
 obtain ⟨W4,hW4⟩:∃W4,(((w.alloc (.cells #[.pointer (some ⟨b,0,none⟩)] 163)).alloc (.cells #[.int .u8 20,.int .i64 a,.string s,.int .i64 n,.slice kp kl kc] 54)).alloc (.cells #[.int .u8 20] 5)).alloc (.cells #[.func (.func 228) #[] #[.pointer (some ⟨w.heap.size+1+1,0,none⟩)]] 245)=W4:=⟨_,rfl⟩
 rw [hW4]
 rw [show PW w b 20 a n s kp kl kc=W4 from hW4] at e0 e1 e2 e3 e4 e5 e6 HPB HPS HP0 hbd
 clear hW4
 have HR:Hid (∀w',Below W4.heap.size W4 w'→Calls Tryz.prog 179 #[.int .i64 0,.pointer (some ⟨w.heap.size+1,0,none⟩),.pointer (some ⟨w.heap.size+1+1+1,0,none⟩),.pointer (some ⟨w.heap.size,0,none⟩)] w' fun e w''=>e=.returned (.agg #[.string ⟨#[]⟩,.int .i64 (q0:Int),.bool (br 20 false y0)])∧w''.cell? ⟨w.heap.size+1,2,none⟩=some (.string s)∧Below W4.heap.size W4 w''):=lh (fun w' hb=>(HP0.out w' hb).mono fun e w'' ⟨he,hb2⟩=>⟨he,by rw [(hb.trans (hb2.mono hb.size)).cell (cellLt e2)];exact e2,hb.trans (hb2.mono hb.size)⟩)
 clear HP0
 go_region_held3 (fun w'=>w'.cell? ⟨w.heap.size+1,2,none⟩=some (.string s)) (go_keep) (first|(go_at_call 179;(with_reducible refine (HR.out _ ?_).mono ?_);(exact hbd);rintro e w5 ⟨rfl,r0,rb⟩))
 have RB:=lh rb
 clear rb
 go_wp2_with fail
 go_ret
 exact ⟨⟨_,rfl,_,rfl,heap_alloc_new w5 _,by have:=RB.out.size;have:=HPS.out;omega,by simp⟩,(HPB.out.trans (RB.out.mono HPB.out.size)).trans ((one_below w5 _).mono (by have:=RB.out.size;have:=HPS.out;omega))⟩
theorem pieces26 (w:World)(b:Nat)(p:Option Addr)(len c:Nat)(ns:List Nd)(a n:Int)(s:ByteArray)(kp:Option Addr)(kl kc:Nat)(ks:List Int)(q0:Nat)(y0:Int)(hq0:ks.getD 0 0=(q0:Int))(hl0:q0<len)(hy0:(ns.getD q0 default).kind=y0)(hkl:1≤kl)(hA:NodeArg w b p len c ns kp kl kc ks) :
 Calls Tryz.prog 112 #[.pointer (some ⟨b,0,none⟩),.agg #[.int .u8 26,.int .i64 a,.string s,.int .i64 n,.slice kp kl kc]] w fun e w'=>(∃v,e=.returned v∧PcsAt w w' v [pcT ⟨#[45]⟩,pcN q0 (br 26 false y0)])∧Below w.heap.size w w':=by
 have hPB:=PW_below w b 26 a n s kp kl kc
 have HPS:=lh (PW_size w b 26 a n s kp kl kc)
 obtain ⟨e0,e1,e2,e3,e4,e5,e6⟩:=PW_cells w b 26 a n s kp kl kc
 have HA:=lh (hA.on hPB)
 have HPB:=lh hPB
 have HP0:Hid (∀w',Below (PW w b 26 a n s kp kl kc).heap.size (PW w b 26 a n s kp kl kc) w'→Calls Tryz.prog 179 #[.int .i64 0,.pointer (some ⟨w.heap.size+1,0,none⟩),.pointer (some ⟨w.heap.size+1+1+1,0,none⟩),.pointer (some ⟨w.heap.size,0,none⟩)] w' fun e w''=>e=.returned (.agg #[.string ⟨#[]⟩,.int .i64 (q0:Int),.bool (br 26 false y0)])∧Below w'.heap.size w' w''):=lh (fun w' hb =>
  have hA2:=HA.out.on hb
  part_at w' _ _ _ (w.heap.size+1+1) b 26 0 q0 y0 p len c kp kl kc ks ns (by rw [hb.cell (cellLt e4)];exact e4) (by rw [hb.cell (cellLt e6)];exact e6) (by rw [hb.cell (cellLt e0)];exact e0) (by rw [hb.cell (cellLt e5)];exact e5) hA2.c0 hA2.tv hA2.iv (by omega) hq0 hl0 hy0)
 clear hA hPB
 go_enter Tryz.func112,Tryz.ntmps112
 go_wp2_with fail
 (with_reducible refine (brackets_at _ _).mono ?_)
 rintro e wk ⟨rfl,rfl⟩
 go_upto_region 15 with fail
 obtain ⟨W4,hW4⟩:∃W4,(((w.alloc (.cells #[.pointer (some ⟨b,0,none⟩)] 163)).alloc (.cells #[.int .u8 26,.int .i64 a,.string s,.int .i64 n,.slice kp kl kc] 54)).alloc (.cells #[.int .u8 26] 5)).alloc (.cells #[.func (.func 228) #[] #[.pointer (some ⟨w.heap.size+1+1,0,none⟩)]] 245)=W4:=⟨_,rfl⟩
 rw [hW4]
 rw [show PW w b 26 a n s kp kl kc=W4 from hW4] at e0 e1 e2 e3 e4 e5 e6 HPB HPS HP0
 clear hW4
 go_wp2_with fail
 (with_reducible refine (HP0.out _ (Below.refl W4.heap.size W4)).mono ?_)
 rintro e w5 ⟨rfl,hb5⟩
 have B5:=lh hb5
 clear hb5
 go_wp2_with fail
 go_ret
 exact ⟨⟨_,rfl,_,rfl,heap_alloc_new w5 _,by have:=(B5.out).size;have:=HPS.out;omega,by simp⟩,(HPB.out.trans ((B5.out).mono HPB.out.size)).trans ((one_below w5 _).mono (by have:=(B5.out).size;have:=HPS.out;omega))⟩
theorem heads_ge:∀(ks:List Ast) (o j:Nat),j<ks.length→(o:Int)≤(heads o ks).getD j 0
 | [],_,j,h=>absurd h (by simp)
 | x::r,o,0,_=>by simp [heads]
 | x::r,o,j+1,h=>by
  have:=heads_ge r (o+x.size) j (by simpa using h)
  simp only [heads,List.getD_cons_succ]
  omega
def PcOk (ns:List Nd)(pc:Pc)(T:ByteArray)(m:Nat):Prop:=(pc.node=0∧T=pc.text∧m=1)∨∃(q:Nat) (y:Ast),pc.node=(q:Int)∧0<q∧On ns q y∧isTx y∧wfR y∧T=inB pc.brk (exT y)∧m=16*y.size+(if pc.brk then 3 else 0)
inductive Told (ns:List Nd):List Pc→ByteArray→Nat→Prop
 | nil:Told ns [] none0 0
 | cons {pc:Pc} {T:ByteArray} {m:Nat} {l:List Pc} {S:ByteArray} {k:Nat}:PcOk ns pc T m→Told ns l S k→Told ns (pc::l) (T++S) (m+k)
theorem Told.append {ns:List Nd}{l:List Pc}{S:ByteArray}{k:Nat}(h:Told ns l S k){l':List Pc}{S':ByteArray}{k':Nat}(h':Told ns l' S' k'):Told ns (l++l') (S++S') (k+k'):=by
 induction h with
 | nil=>rw [none_app,Nat.zero_add];exact h'
 | cons hp _ ih=>rw [app_assoc,Nat.add_assoc];exact Told.cons hp ih
theorem told_one {ns:List Nd}{pc:Pc}{T:ByteArray}{m:Nat}(h:PcOk ns pc T m):Told ns [pc] T m:=by
 have:=Told.cons h Told.nil
 rwa [app_none] at this
theorem pc_text (ns:List Nd)(s:ByteArray):PcOk ns (pcT s) s 1:=Or.inl ⟨rfl,rfl,rfl⟩
theorem pc_node {ns:List Nd}{q:Nat}{y:Ast}(hq:0<q)(hO:On ns q y)(hx:isTx y)(hw:wfR y)(b:Bool):PcOk ns (pcN q b) (inB b (exT y)) (16*y.size+(if b then 3 else 0)):=Or.inr ⟨q,y,rfl,hq,hO,hx,hw,rfl,rfl⟩
theorem br_le (b:Bool):(if b then 3 else 0)≤3:=by cases b<;>decide
theorem ex_tx {y:Ast}(h:isExprK y.kind=true):isTx y:=Or.inr (by have:=(isExprK_iff _).1 h;omega)
theorem pieces_at (w:World)(b:Nat)(p:Option Addr)(len c:Nat)(ns:List Nd)(o:Nat)(k:Int)(a0:Nat)(s:ByteArray)(n:Int)(kids:List Ast)(a:Int)(kp:Option Addr)(kl kc:Nat)(hO:On ns o (.mk k a0 s n kids))(hw:wfR (.mk k a0 s n kids))(hx:isTx (.mk k a0 s n kids))(ht:PT10 w)(hA:NodeArg w b p len c ns kp kl kc (heads (o+1) kids)) :
 Calls Tryz.prog 112 #[.pointer (some ⟨b,0,none⟩),.agg #[.int .u8 k,.int .i64 a,.string s,.int .i64 n,.slice kp kl kc]] w fun e w'=>(∃v l,e=.returned v∧PcsAt w w' v l∧∃m,Told ns l (exT (.mk k a0 s n kids)) m∧m<16*(Ast.mk k a0 s n kids).size∧l.length≤4)∧Below w.heap.size w w':=by
 have hle:=hA.tv.len_eq
 have hkl:kids.length=kl:=by rw [← hA.iv.len_eq,heads_length]
 have hp:=hw.parts
 have hK:∀j (hj:j<kids.length),∃q:Nat,(heads (o+1) kids).getD j 0=(q:Int)∧0<q∧q<len∧On ns q kids[j]∧(ns.getD q default).kind=kids[j].kind:=fun j hj=>by
  obtain ⟨q,h1,h2,h3⟩:=hO.kid j hj
  have h4:=heads_ge kids (o+1) j hj
  exact ⟨q,h1,by omega,by omega,h3,h3.kind⟩
 have hc:k=20∨k=21∨k=23∨k=24∨k=25∨k=26∨(k=5∨k=22):=by
  have h1:k=5∨20≤k:=hx
  omega
 rcases hc with rfl|rfl|rfl|rfl|rfl|rfl|hc
 · obtain ⟨x,rfl,hx1⟩:=shape1 (show isR (kids.map Ast.kind) [0]=true from hp.2.2.2)
   obtain ⟨q0,a1,a2,a3,a4,a5⟩:=hK 0 (by simp)
   simp only [List.getElem_cons_zero] at a4 a5
   refine (piecesR w b p len c ns a n s kp kl kc _ q0 _ a1 a3 a5 (by simp at hkl;omega) hA).mono fun e w' ⟨⟨v,he,hv⟩,hb⟩=>⟨⟨v,_,he,hv,1+(1+(16*x.size+(if br 20 false x.kind then 3 else 0)+1)),?_,?_,by simp⟩,hb⟩
   · have h:=Told.cons (pc_text ns s) (Told.cons (pc_text ns ⟨#[91]⟩) (Told.cons (pc_node a2 a4 (ex_tx hx1) hw.2.1 (br 20 false x.kind)) (told_one (pc_text ns ⟨#[93]⟩))))
     have e1:s++(⟨#[91]⟩++(inB (br 20 false x.kind) (exT x)++⟨#[93]⟩))=exT (.mk 20 a0 s n [x]):=by
      show _=s++⟨#[91]⟩++inB (br 20 (0==1) x.kind) (exT x)++⟨#[93]⟩
      rw [app_assoc,app_assoc]
      rfl
     rw [e1] at h
     exact h
   · have:br 20 false x.kind=false:=by unfold br;split<;>simp
     rw [this]
     simp only [Ast.size,sizeL]
     simp
     omega
 · obtain rfl:=shape0 (show decide ((kids.map Ast.kind).length=0)=true from hp.2.2.2)
   exact (piecesN w b p len c ns a n s kp kl kc _ hA ⟨hp.2.1.1,hp.2.1.2⟩ ht).mono fun e w' ⟨⟨v,he,hv⟩,hb⟩=>⟨⟨v,_,he,hv,_,told_one (pc_text ns _),by simp [Ast.size,sizeL],by simp⟩,hb⟩
 · obtain ⟨x,y,rfl,hx1,hy1⟩:=shape2 (show isR (kids.map Ast.kind) [0,0]=true from hp.2.2.2)
   obtain ⟨q0,a1,a2,a3,a4,a5⟩:=hK 0 (by simp)
   obtain ⟨q1,b1,b2,b3,b4,b5⟩:=hK 1 (by simp)
   simp only [List.getElem_cons_zero,List.getElem_cons_succ] at a4 a5 b4 b5
   have h:=(told_one (pc_node a2 a4 (ex_tx hx1) hw.2.1 (br 23 false x.kind))).append (Told.cons (pc_text ns ⟨#[32,43,32]⟩) (told_one (pc_node b2 b4 (ex_tx hy1) hw.2.2.1 (br 23 true y.kind))))
   have e1:inB (br 23 false x.kind) (exT x)++(⟨#[32,43,32]⟩++inB (br 23 true y.kind) (exT y))=exT (.mk 23 a0 s n [x,y]):=by
    show _=inB (br 23 (0==1) x.kind) (exT x)++markT 23++inB (br 23 (1==1) y.kind) (exT y)
    rw [app_assoc]
    rfl
   rw [e1] at h
   refine (pieces23 w b p len c ns a n s kp kl kc _ q0 _ a1 a3 a5 q1 _ b1 b3 b5 (by simp at hkl;omega) hA).mono fun e w' ⟨⟨v,he,hv⟩,hb⟩=>⟨⟨v,_,he,hv,_,h,?_,by simp⟩,hb⟩
   have:=br_le (br 23 false x.kind)
   have:=br_le (br 23 true y.kind)
   simp only [Ast.size,sizeL]
   omega
 · obtain ⟨x,y,rfl,hx1,hy1⟩:=shape2 (show isR (kids.map Ast.kind) [0,0]=true from hp.2.2.2)
   obtain ⟨q0,a1,a2,a3,a4,a5⟩:=hK 0 (by simp)
   obtain ⟨q1,b1,b2,b3,b4,b5⟩:=hK 1 (by simp)
   simp only [List.getElem_cons_zero,List.getElem_cons_succ] at a4 a5 b4 b5
   have h:=(told_one (pc_node a2 a4 (ex_tx hx1) hw.2.1 (br 24 false x.kind))).append (Told.cons (pc_text ns ⟨#[32,45,32]⟩) (told_one (pc_node b2 b4 (ex_tx hy1) hw.2.2.1 (br 24 true y.kind))))
   have e1:inB (br 24 false x.kind) (exT x)++(⟨#[32,45,32]⟩++inB (br 24 true y.kind) (exT y))=exT (.mk 24 a0 s n [x,y]):=by
    show _=inB (br 24 (0==1) x.kind) (exT x)++markT 24++inB (br 24 (1==1) y.kind) (exT y)
    rw [app_assoc]
    rfl
   rw [e1] at h
   refine (pieces24 w b p len c ns a n s kp kl kc _ q0 _ a1 a3 a5 q1 _ b1 b3 b5 (by simp at hkl;omega) hA).mono fun e w' ⟨⟨v,he,hv⟩,hb⟩=>⟨⟨v,_,he,hv,_,h,?_,by simp⟩,hb⟩
   have:=br_le (br 24 false x.kind)
   have:=br_le (br 24 true y.kind)
   simp only [Ast.size,sizeL]
   omega
 · obtain ⟨x,y,rfl,hx1,hy1⟩:=shape2 (show isR (kids.map Ast.kind) [0,0]=true from hp.2.2.2)
   obtain ⟨q0,a1,a2,a3,a4,a5⟩:=hK 0 (by simp)
   obtain ⟨q1,b1,b2,b3,b4,b5⟩:=hK 1 (by simp)
   simp only [List.getElem_cons_zero,List.getElem_cons_succ] at a4 a5 b4 b5
   have h:=(told_one (pc_node a2 a4 (ex_tx hx1) hw.2.1 (br 25 false x.kind))).append (Told.cons (pc_text ns ⟨#[32,42,32]⟩) (told_one (pc_node b2 b4 (ex_tx hy1) hw.2.2.1 (br 25 true y.kind))))
   have e1:inB (br 25 false x.kind) (exT x)++(⟨#[32,42,32]⟩++inB (br 25 true y.kind) (exT y))=exT (.mk 25 a0 s n [x,y]):=by
    show _=inB (br 25 (0==1) x.kind) (exT x)++markT 25++inB (br 25 (1==1) y.kind) (exT y)
    rw [app_assoc]
    rfl
   rw [e1] at h
   refine (pieces25 w b p len c ns a n s kp kl kc _ q0 _ a1 a3 a5 q1 _ b1 b3 b5 (by simp at hkl;omega) hA).mono fun e w' ⟨⟨v,he,hv⟩,hb⟩=>⟨⟨v,_,he,hv,_,h,?_,by simp⟩,hb⟩
   have:=br_le (br 25 false x.kind)
   have:=br_le (br 25 true y.kind)
   simp only [Ast.size,sizeL]
   omega
 · obtain ⟨x,rfl,hx1⟩:=shape1 (show isR (kids.map Ast.kind) [0]=true from hp.2.2.2)
   obtain ⟨q0,a1,a2,a3,a4,a5⟩:=hK 0 (by simp)
   simp only [List.getElem_cons_zero] at a4 a5
   refine (pieces26 w b p len c ns a n s kp kl kc _ q0 _ a1 a3 a5 (by simp at hkl;omega) hA).mono fun e w' ⟨⟨v,he,hv⟩,hb⟩=>⟨⟨v,_,he,hv,_,Told.cons (pc_text ns _) (told_one (pc_node a2 a4 (ex_tx hx1) hw.2.1 _)),?_,by simp⟩,hb⟩
   have:=br_le (br 26 false x.kind)
   simp only [Ast.size,sizeL]
   omega
 · have hk:(k==20)=false∧(k==21)=false∧(k==23)=false∧(k==24)=false∧(k==25)=false∧(k==26)=false:=by rcases hc with rfl|rfl<;>decide
   have e1:exT (.mk k a0 s n kids)=s:=by rcases hc with rfl|rfl<;>rfl
   rw [e1]
   exact (piecesO w b p len c ns k hk a n s kp kl kc _ hA).mono fun e w' ⟨⟨v,he,hv⟩,hb⟩=>⟨⟨v,_,he,hv,_,told_one (pc_text ns _),by have:=ast_pos (.mk k a0 s n kids);omega,by simp⟩,hb⟩
end
section
open Go.RowKit Tr
theorem sq_add (a b:Nat):a*a+b*b≤(a+b)*(a+b):=by
 rw [Nat.add_mul,Nat.mul_add,Nat.mul_add];omega
theorem sq_succ (s:Nat):(s+1)*(s+1)=s*s+2*s+1:=by
 rw [Nat.add_mul,Nat.mul_add];omega
theorem exs_size:∀l:List Ast,wfRL l→((l.map exT).map ByteArray.size).sum≤70100*sizeL l
 | [],_=>by simp [sizeL]
 | x::r,h=>by
  have h1:=exT_size x h.1
  have h2:=exs_size r h.2
  simp only [List.map_cons,List.sum_cons,sizeL]
  omega
theorem lineT_size (d:Nat)(s:ByteArray):(lineT d s).size=d+s.size+1:=by
 unfold lineT
 rw [ByteArray.size_append,ByteArray.size_append,tabsT_size]
 rfl
theorem drop_sum:∀(l:List ByteArray),((l.drop 1).map ByteArray.size).sum+(l.getD 0 none0).size≤(l.map ByteArray.size).sum
 | []=>by simp;rfl
 | x::r=>by simp only [List.drop_succ_cons,List.drop_zero,List.getD_cons_zero,List.map_cons,List.sum_cons];omega
theorem stF_size (d:Nat)(k:Int)(t:ByteArray)(n:Int)(l m:List ByteArray):(stF d k t n l m).size≤3*d+t.size+100+3*(l.map ByteArray.size).sum+2*l.length+(m.map ByteArray.size).sum:=by
 have g0:=get_le l 0
 have g1:=get_le l 1
 have g2:=get_le l 2
 have m2:=get_le m 2
 have m23:=get2_le m 2 3 (by omega)
 have gj:=joinT_size (l.drop 1)
 have gd:=drop_sum l
 rw [List.length_drop] at gj
 have c1:(if n=1 then (⟨#[32,102,111,114,32,117,112,100,97,116,101]⟩:ByteArray) else ⟨#[]⟩).size≤11:=by split<;>decide
 have c2:(if n=1 then (⟨#[32,97,108,108]⟩:ByteArray) else ⟨#[32,115,104,97,114,101,100]⟩).size≤7:=by split<;>decide
 have c3:(if n=1 then (⟨#[32,61,61,32]⟩:ByteArray) else ⟨#[32,60,32]⟩).size≤4:=by split<;>decide
 have hz:∀b:List UInt8,(⟨b.toArray⟩:ByteArray).size=b.length:=fun b=>rfl
 have lit:∀a:Array UInt8,(⟨a⟩:ByteArray).size=a.size:=fun a=>rfl
 by_cases h7:k=7
 · subst h7
   unfold stF
   rw [if_pos rfl]
   clear hz
   rw [lineT_size];simp only [ByteArray.size_append,lit] at *;simp at *;omega
 by_cases h8:k=8
 · subst h8
   unfold stF
   rw [nn,if_pos rfl]
   clear hz h7
   rw [lineT_size];simp only [ByteArray.size_append,lit] at *;simp at *;omega
 by_cases h9:k=9
 · subst h9
   unfold stF
   rw [nn,nn,if_pos rfl]
   clear hz h7 h8
   rw [lineT_size];simp only [ByteArray.size_append,lit] at *;simp at *;omega
 by_cases h10:k=10
 · subst h10
   unfold stF
   rw [nn,nn,nn,if_pos rfl]
   clear hz h7 h8 h9
   rw [lineT_size];simp only [ByteArray.size_append,lit] at *;simp at *;omega
 by_cases h11:k=11
 · subst h11
   unfold stF
   rw [nn,nn,nn,nn,if_pos rfl]
   clear hz h7 h8 h9 h10
   rw [lineT_size];simp only [ByteArray.size_append,lit] at *;simp at *;omega
 by_cases h12:k=12
 · subst h12
   unfold stF
   rw [nn,nn,nn,nn,nn,if_pos rfl]
   clear hz h7 h8 h9 h10 h11
   rw [lineT_size];simp only [ByteArray.size_append,lit] at *;simp at *;omega
 by_cases h13:k=13
 · subst h13
   unfold stF
   rw [nn,nn,nn,nn,nn,nn,if_pos rfl]
   clear hz h7 h8 h9 h10 h11 h12
   rw [lineT_size];simp only [ByteArray.size_append,lit] at *;simp at *;omega
 by_cases h14:k=14
 · subst h14
   unfold stF
   rw [nn,nn,nn,nn,nn,nn,nn,if_pos rfl]
   clear hz h7 h8 h9 h10 h11 h12 h13
   by_cases h3:3<l.length
   · rw [if_pos h3];simp only [ByteArray.size_append]
     rw [lineT_size,lineT_size,lineT_size];simp only [ByteArray.size_append,lit] at *;simp at *;omega
   · have h0:none0.size=0:=rfl
     rw [if_neg h3];simp only [ByteArray.size_append]
     rw [lineT_size,lineT_size];simp only [ByteArray.size_append,lit] at *;simp at *;omega
 by_cases h15:k=15
 · subst h15
   unfold stF
   rw [nn,nn,nn,nn,nn,nn,nn,nn,if_pos rfl]
   clear hz h7 h8 h9 h10 h11 h12 h13 h14
   simp only [ByteArray.size_append]
   rw [lineT_size,lineT_size];simp only [ByteArray.size_append,lit] at *;simp at *;omega
 by_cases h16:k=16
 · subst h16
   unfold stF
   rw [nn,nn,nn,nn,nn,nn,nn,nn,nn,if_pos rfl]
   clear hz h7 h8 h9 h10 h11 h12 h13 h14 h15
   rw [lineT_size];simp only [ByteArray.size_append,lit] at *;simp at *;omega
 by_cases h17:k=17
 · subst h17
   unfold stF
   rw [nn,nn,nn,nn,nn,nn,nn,nn,nn,nn,if_pos rfl]
   clear hz h7 h8 h9 h10 h11 h12 h13 h14 h15 h16
   rw [lineT_size];simp only [ByteArray.size_append,lit] at *;simp at *;omega
 by_cases h18:k=18
 · subst h18
   unfold stF
   rw [nn,nn,nn,nn,nn,nn,nn,nn,nn,nn,nn,if_pos rfl]
   clear hz h7 h8 h9 h10 h11 h12 h13 h14 h15 h16 h17
   rw [lineT_size];simp only [ByteArray.size_append,lit] at *;simp at *;omega
 by_cases h19:k=19
 · subst h19
   unfold stF
   rw [nn,nn,nn,nn,nn,nn,nn,nn,nn,nn,nn,nn,if_pos rfl]
   clear hz h7 h8 h9 h10 h11 h12 h13 h14 h15 h16 h17 h18
   rw [lineT_size];simp only [ByteArray.size_append,lit] at *;simp at *;omega
 · have h0:stF d k t n l m=none0:=by unfold stF;rw [if_neg h7,if_neg h8,if_neg h9,if_neg h10,if_neg h11,if_neg h12,if_neg h13,if_neg h14,if_neg h15,if_neg h16,if_neg h17,if_neg h18,if_neg h19]
   rw [h0];show 0≤_;omega
mutual
theorem stT_size (d:Nat):∀x:Ast,wfR x→d+x.size≤140000→(stT d x).size≤1000000*(x.size*x.size)
 | .mk k a s n ks,h,hd=>by
  simp only [Ast.size] at hd ⊢
  have h1:=stF_size d k s n (ks.map exT) (blLs (d+1) ks)
  have h2:=exs_size ks h.2
  have h3:=blLs_size (d+1) ks h.2 (by omega)
  have h4:=h.parts.2.2.1
  have h5:=len_sizeL ks
  rw [List.length_map] at h1
  rw [sq_succ]
  simp only [stT]
  omega
theorem blT_size (d:Nat):∀x:Ast,wfR x→d+x.size≤140001→(blT d x).size≤1000000*(x.size*x.size)
 | .mk k a s n ks,h,hd=>by
  simp only [Ast.size] at hd ⊢
  have h3:=stL_size d ks h.2 (by omega)
  rw [sq_succ]
  simp only [blT]
  omega
theorem stL_size (d:Nat):∀l:List Ast,wfRL l→d+sizeL l≤140000→(stL d l).size≤1000000*(sizeL l*sizeL l)
 | [],_,_=>by simp only [stL];exact Nat.zero_le _
 | x::r,h,hd=>by
  simp only [sizeL] at hd ⊢
  have h1:=stT_size d x h.1 (by omega)
  have h2:=stL_size d r h.2 (by omega)
  have h3:=sq_add x.size (sizeL r)
  simp only [stL,ByteArray.size_append]
  omega
theorem blLs_size (d:Nat):∀l:List Ast,wfRL l→d+sizeL l≤140001→((blLs d l).map ByteArray.size).sum≤1000000*(sizeL l*sizeL l)
 | [],_,_=>by simp [blLs]
 | x::r,h,hd=>by
  simp only [sizeL] at hd ⊢
  have h1:=blT_size d x h.1 (by omega)
  have h2:=blLs_size d r h.2 (by omega)
  have h3:=sq_add x.size (sizeL r)
  simp only [blLs,List.map_cons,List.sum_cons]
  omega
end
def HasS (ns:List Nd)(x:Ast):Prop:=∀(d o:Nat) (w:World) (p:Option Addr) (len c:Nat),TV w p len c ns→On ns o x→wfR x→PT10 w→len≤70000→d+x.size≤140000 →
 Calls Tryz.prog 105 #[.slice p len c,.int .i64 o,.int .i64 d] w fun e w'=>e=.returned (.string (stT d x))∧Below w.heap.size w w'
def HasBl (ns:List Nd)(x:Ast):Prop:=∀(d o:Nat) (w:World) (p:Option Addr) (len c:Nat),TV w p len c ns→On ns o x→wfR x→PT10 w→len≤70000→d+x.size≤140001 →
 Calls Tryz.prog 59 #[.slice p len c,.int .i64 o,.int .i64 d] w fun e w'=>e=.returned (.string (blT d x))∧Below w.heap.size w w'
theorem stL_snoc (d:Nat)(l:List Ast)(x:Ast):stL d (l++[x])=stL d l++stT d x:=by
 induction l with
 | nil=>simp only [List.nil_append,stL,app_none,none_app]
 | cons y r ih=>simp only [List.cons_append,stL,ih,app_assoc]
theorem refBlock_of (ns:List Nd)(k:Int)(a:Nat)(s:ByteArray)(n:Int)(ks:List Ast)(ih:∀y∈ks,HasS ns y):HasBl ns (.mk k a s n ks):=by
 intro d o w p len c hT hO hw ht hlen hd
 obtain ⟨a',hnd⟩:=hO.node
 have hol:=hO.lt
 have hle:=hT.len_eq
 obtain ⟨b,off,rfl,hbl,hc⟩:=hT.node (by omega)
 obtain ⟨kp,kl,kc,hn⟩:=hc o (by omega)
 rw [hnd] at hn
 have k4:w.cell? ⟨b,off+o*5+4,none⟩=some (.slice kp kl kc):=hn.kids
 have hiv:IV w kp kl kc (heads (o+1) ks):=hn.iv
 have hkl:ks.length=kl:=by rw [← hiv.len_eq,heads_length]
 have hks:sizeL ks+1≤70000:=by have:=hO.size;simp only [Ast.size] at this;omega
 have hkl7:kl≤70000:=by have:=len_sizeL ks;omega
 have HSZ:Hid (∀j,(stL d (ks.take j)).size≤1000000*(70000*70000)):=lh (fun j=>by
  have h1:wfRL (ks.take j):=wfRL_of fun x hx=>wfRL_mem hw.2 x (List.mem_of_mem_take hx)
  have h2:sizeL (ks.take j)≤sizeL ks:=by
   have:∀(l:List Ast) (j:Nat),sizeL (l.take j)≤sizeL l:=by
    intro l
    induction l with
    | nil=>intro j;simp
    | cons x r ih =>
     intro j
     cases j with
     | zero=>simp [sizeL]
     | succ j=>have:=ih j;simp only [List.take_succ_cons,sizeL];omega
   exact this ks j
  have h3:=stL_size d (ks.take j) h1 (by simp only [Ast.size] at hd;omega)
  have h4:=Nat.mul_le_mul (show sizeL (ks.take j)≤70000 by omega) (show sizeL (ks.take j)≤70000 by omega)
  omega)
 have HT:=lh hT
 have HO:=lh hO
 have HW:=lh hw
 have HP:=lh ht
 have HIV:=lh hiv
 have HKL:=lh hkl
 have HD:Hid (∀y∈ks,d+y.size≤140000):=lh (fun y hy=>by have:=sizeL_mem hy;simp only [Ast.size] at hd;omega)
 have b0:(0:Int)≤(o:Int):=by omega
 have b1:(o:Int)<(len:Int):=by omega
 clear hT hO hw ht hiv hn hc hle hnd hd hks
 go_enter Tryz.func59,Tryz.ntmps59
 go_wp2_with fail
 go_loopw [7,8] (fun v iv wr=>∃j:Nat,j≤kl∧iv=.int .i64 j∧v=.string (stL d (ks.take j))∧Hid (Below w.heap.size w wr)) (fun _ iv _=>kl-(intOf iv).toNat)
 case atStart=>exact ⟨0,by omega,rfl,rfl,lh (Below.refl _ _)⟩
 case round =>
  obtain ⟨j,hjl,rfl,rfl,HB⟩:=hrel
  have k4r:wr.cell? ⟨b,off+o*5+4,none⟩=some (.slice kp kl kc):=by rw [HB.out.cell (p:=⟨b,off+o*5+4,none⟩) hbl];exact k4
  by_cases hlt:j<kl
  · have hjk:j<ks.length:=by have:=HKL.out;omega
    obtain ⟨q,hq,hql,hOq⟩:=HO.out.kid j hjk
    obtain ⟨kb,koff,rfl,hkb,hkc⟩:=(HIV.out.on HB.out).cell (by omega)
    have m5:=hkc j hlt
    rw [hq] at m5
    have CE:=lh (ih ks[j] (List.getElem_mem hjk) d q wr (some ⟨b,off,none⟩) len c (HT.out.on HB.out) hOq (HW.out.kids hjk) (HP.out.below HB.out) hlen (HD.out _ (List.getElem_mem hjk)))
    have h0j:(0:Int)≤(j:Int):=by omega
    have hj2:(j:Int)<(kl:Int):=by omega
    have HSN:Hid (stL d (ks.take (j+1))=stL d (ks.take j)++stT d ks[j]):=lh (by
     rw [← stL_snoc,← List.take_succ_eq_append_getElem hjk])
    have z0:=HSZ.out (j+1)
    rw [HSN.out,ByteArray.size_append] at z0
    clear hkc hq hOq
    generalize stL d (ks.take j)=s0 at *
    generalize stT d ks[j]=s1 at *
    have z1:¬ 9223372036854775807<s0.size+s1.size:=by omega
    clear z0
    go_wp2_with fail
    (with_reducible refine CE.out.mono ?_)
    rintro e w6 ⟨rfl,hb6⟩
    have B6:=lh (HB.out.trans (hb6.mono HB.out.size))
    clear CE hb6
    go_wp2_with fail
    go_roundw
    case rel=>exact ⟨j+1,by omega,by go_num,by rw [HSN.out],B6⟩
    case measure=>simp [intOf];omega
  · have e:j=kl:=by omega
    subst e
    have e2:ks.take j=ks:=List.take_of_length_le (by have:=HKL.out;omega)
    rw [e2]
    go_wp2
    go_ret
    exact ⟨rfl,HB.out⟩
end
section
open Tr
theorem sh20_5 {ks:List Ast}(h:isR (ks.map Ast.kind) [20,5]=true):∃x0 x1,ks=[x0,x1]∧x0.kind=20∧x1.kind=5:=by
 rcases ks with _|⟨x0,_|⟨x1,_|⟨y,r⟩⟩⟩
 · simp [isR] at h
 · simp [isR] at h
 · exact ⟨x0,x1,rfl,by simpa [isR] using h⟩
 · simp [isR] at h
theorem sh20_5_0 {ks:List Ast}(h:isR (ks.map Ast.kind) [20,5,0]=true):∃x0 x1 x2,ks=[x0,x1,x2]∧x0.kind=20∧x1.kind=5∧isExprK x2.kind=true:=by
 rcases ks with _|⟨x0,_|⟨x1,_|⟨x2,_|⟨y,r⟩⟩⟩⟩
 · simp [isR] at h
 · simp [isR] at h
 · simp [isR] at h
 · exact ⟨x0,x1,x2,rfl,by simpa [isR] using h⟩
 · simp [isR] at h
theorem sh20 {ks:List Ast}(h:isR (ks.map Ast.kind) [20]=true):∃x0,ks=[x0]∧x0.kind=20:=by
 rcases ks with _|⟨x0,_|⟨y,r⟩⟩
 · simp [isR] at h
 · exact ⟨x0,rfl,by simpa [isR] using h⟩
 · simp [isR] at h
theorem sh5_5 {ks:List Ast}(h:isR (ks.map Ast.kind) [5,5]=true):∃x0 x1,ks=[x0,x1]∧x0.kind=5∧x1.kind=5:=by
 rcases ks with _|⟨x0,_|⟨x1,_|⟨y,r⟩⟩⟩
 · simp [isR] at h
 · simp [isR] at h
 · exact ⟨x0,x1,rfl,by simpa [isR] using h⟩
 · simp [isR] at h
theorem sh5 {ks:List Ast}(h:isR (ks.map Ast.kind) [5]=true):∃x0,ks=[x0]∧x0.kind=5:=by
 rcases ks with _|⟨x0,_|⟨y,r⟩⟩
 · simp [isR] at h
 · exact ⟨x0,rfl,by simpa [isR] using h⟩
 · simp [isR] at h
theorem sh21_21_6 {ks:List Ast}(h:isR (ks.map Ast.kind) [21,21,6]=true):∃x0 x1 x2,ks=[x0,x1,x2]∧x0.kind=21∧x1.kind=21∧x2.kind=6:=by
 rcases ks with _|⟨x0,_|⟨x1,_|⟨x2,_|⟨y,r⟩⟩⟩⟩
 · simp [isR] at h
 · simp [isR] at h
 · simp [isR] at h
 · exact ⟨x0,x1,x2,rfl,by simpa [isR] using h⟩
 · simp [isR] at h
theorem sh0 {ks:List Ast}(h:isR (ks.map Ast.kind) [0]=true):∃x0,ks=[x0]∧isExprK x0.kind=true:=by
 rcases ks with _|⟨x0,_|⟨y,r⟩⟩
 · simp [isR] at h
 · exact ⟨x0,rfl,by simpa [isR] using h⟩
 · simp [isR] at h
theorem sh0_0_6 {ks:List Ast}(h:isR (ks.map Ast.kind) [0,0,6]=true):∃x0 x1 x2,ks=[x0,x1,x2]∧isExprK x0.kind=true∧isExprK x1.kind=true∧x2.kind=6:=by
 rcases ks with _|⟨x0,_|⟨x1,_|⟨x2,_|⟨y,r⟩⟩⟩⟩
 · simp [isR] at h
 · simp [isR] at h
 · simp [isR] at h
 · exact ⟨x0,x1,x2,rfl,by simpa [isR] using h⟩
 · simp [isR] at h
theorem sh0_0_6_6 {ks:List Ast}(h:isR (ks.map Ast.kind) [0,0,6,6]=true):∃x0 x1 x2 x3,ks=[x0,x1,x2,x3]∧isExprK x0.kind=true∧isExprK x1.kind=true∧x2.kind=6∧x3.kind=6:=by
 rcases ks with _|⟨x0,_|⟨x1,_|⟨x2,_|⟨x3,_|⟨y,r⟩⟩⟩⟩⟩
 · simp [isR] at h
 · simp [isR] at h
 · simp [isR] at h
 · simp [isR] at h
 · exact ⟨x0,x1,x2,x3,rfl,by simpa [isR] using h⟩
 · simp [isR] at h
theorem sh9 {ks:List Ast}(h:kidsR 9 (ks.map Ast.kind)=true):∃x0 xs,ks=x0::xs∧x0.kind=20∧(∀x∈xs,isExprK x.kind=true)∧0<xs.length:=by
 rcases ks with _|⟨x0,xs⟩
 · simp [kidsR] at h
 · simp [kidsR] at h
   exact ⟨x0,xs,rfl,h.2.1,h.2.2,h.1⟩
theorem sh14 {ks:List Ast}(h:kidsR 14 (ks.map Ast.kind)=true):isR (ks.map Ast.kind) [0,0,6]=true∨isR (ks.map Ast.kind) [0,0,6,6]=true:=by
 have:(isR (ks.map Ast.kind) [0,0,6]||isR (ks.map Ast.kind) [0,0,6,6])=true:=h
 simpa using this
theorem sh13 {ks:List Ast}(h:kidsR 13 (ks.map Ast.kind)=true):isR (ks.map Ast.kind) [5]=true∨isR (ks.map Ast.kind) [20]=true:=by
 have:(isR (ks.map Ast.kind) [5]||isR (ks.map Ast.kind) [20])=true:=h
 simpa using this
theorem sh3 {ks:List Ast}(h:isR (ks.map Ast.kind) [4,6]=true):∃x0 x1,ks=[x0,x1]∧x0.kind=4∧x1.kind=6:=by
 rcases ks with _|⟨x0,_|⟨x1,_|⟨y,r⟩⟩⟩
 · simp [isR] at h
 · simp [isR] at h
 · exact ⟨x0,x1,rfl,by simpa [isR] using h⟩
 · simp [isR] at h
end
section
open Go.RowKit Tr
theorem stF_eq7 (d:Nat)(t:ByteArray)(n:Int)(l0 l1 m0 m1:ByteArray):stF d 7 t n [l0,l1] [m0,m1]=tabsT d++(⟨#[114,101,97,100,32]⟩++t++⟨#[32,61,32]⟩++l0++⟨#[46]⟩++l1++(if n=1 then ⟨#[32,102,111,114,32,117,112,100,97,116,101]⟩ else ⟨#[]⟩)++⟨#[59]⟩)++⟨#[10]⟩:=by
 unfold stF
 rw [if_pos rfl]
 all_goals try simp only [lineT,List.getD_cons_zero,List.getD_cons_succ,List.length_cons,List.length_nil,Nat.zero_add]
 all_goals
  by_cases h:n=1
  · try simp only [if_pos h]
    try (apply ByteArray.ext;simp [ByteArray.data_append,List.append_assoc])
  · try simp only [if_neg h]
    try (apply ByteArray.ext;simp [ByteArray.data_append,List.append_assoc])
theorem stF_eq8 (d:Nat)(t:ByteArray)(n:Int)(l0 l1 l2 m0 m1 m2:ByteArray):stF d 8 t n [l0,l1,l2] [m0,m1,m2]=tabsT d++(⟨#[115,101,116,32]⟩++l0++⟨#[46]⟩++l1++⟨#[32,61,32]⟩++l2++⟨#[59]⟩)++⟨#[10]⟩:=by
 unfold stF
 rw [nn,if_pos rfl]
 all_goals try simp only [lineT,List.getD_cons_zero,List.getD_cons_succ,List.length_cons,List.length_nil,Nat.zero_add]
 all_goals try (apply ByteArray.ext;simp [ByteArray.data_append,List.append_assoc])
theorem stF_eq10 (d:Nat)(t:ByteArray)(n:Int)(l0 m0:ByteArray):stF d 10 t n [l0] [m0]=tabsT d++(⟨#[100,101,108,101,116,101,32]⟩++l0++⟨#[59]⟩)++⟨#[10]⟩:=by
 unfold stF
 rw [nn,nn,nn,if_pos rfl]
 all_goals try simp only [lineT,List.getD_cons_zero,List.getD_cons_succ,List.length_cons,List.length_nil,Nat.zero_add]
 all_goals try (apply ByteArray.ext;simp [ByteArray.data_append,List.append_assoc])
theorem stF_eq11 (d:Nat)(t:ByteArray)(n:Int)(l0 l1 m0 m1:ByteArray):stF d 11 t n [l0,l1] [m0,m1]=tabsT d++(⟨#[115,99,97,110,32]⟩++t++⟨#[32,61,32]⟩++l0++⟨#[46]⟩++l1++⟨#[59]⟩)++⟨#[10]⟩:=by
 unfold stF
 rw [nn,nn,nn,nn,if_pos rfl]
 all_goals try simp only [lineT,List.getD_cons_zero,List.getD_cons_succ,List.length_cons,List.length_nil,Nat.zero_add]
 all_goals try (apply ByteArray.ext;simp [ByteArray.data_append,List.append_assoc])
theorem stF_eq12 (d:Nat)(t:ByteArray)(n:Int)(l0 m0:ByteArray):stF d 12 t n [l0] [m0]=tabsT d++(⟨#[108,111,99,107,32]⟩++l0++(if n=1 then ⟨#[32,97,108,108,59]⟩ else ⟨#[32,115,104,97,114,101,100,59]⟩))++⟨#[10]⟩:=by
 unfold stF
 rw [nn,nn,nn,nn,nn,if_pos rfl]
 all_goals try simp only [lineT,List.getD_cons_zero,List.getD_cons_succ,List.length_cons,List.length_nil,Nat.zero_add]
 all_goals
  by_cases h:n=1
  · try simp only [if_pos h]
    try (apply ByteArray.ext;simp [ByteArray.data_append,List.append_assoc])
  · try simp only [if_neg h]
    try (apply ByteArray.ext;simp [ByteArray.data_append,List.append_assoc])
theorem stF_eq13a (d:Nat)(t:ByteArray)(n:Int)(l0 m0:ByteArray):stF d 13 t n [l0] [m0]=tabsT d++(⟨#[114,101,108,101,97,115,101,32]⟩++l0++⟨#[59]⟩)++⟨#[10]⟩:=by
 unfold stF
 rw [nn,nn,nn,nn,nn,nn,if_pos rfl]
 all_goals try simp only [lineT,List.getD_cons_zero,List.getD_cons_succ,List.length_cons,List.length_nil,Nat.zero_add]
 all_goals try (apply ByteArray.ext;simp [ByteArray.data_append,List.append_assoc])
theorem stF_eq13b (d:Nat)(t:ByteArray)(n:Int)(l0 m0:ByteArray):stF d 13 t n [l0] [m0]=tabsT d++(⟨#[114,101,108,101,97,115,101,32]⟩++l0++⟨#[59]⟩)++⟨#[10]⟩:=by
 unfold stF
 rw [nn,nn,nn,nn,nn,nn,if_pos rfl]
 all_goals try simp only [lineT,List.getD_cons_zero,List.getD_cons_succ,List.length_cons,List.length_nil,Nat.zero_add]
 all_goals try (apply ByteArray.ext;simp [ByteArray.data_append,List.append_assoc])
theorem stF_eq15 (d:Nat)(t:ByteArray)(n:Int)(l0 l1 l2 m0 m1 m2:ByteArray):stF d 15 t n [l0,l1,l2] [m0,m1,m2]=tabsT d++(⟨#[102,111,114,32]⟩++t++⟨#[32,61,32]⟩++l0++⟨#[32,116,111,32]⟩++l1++⟨#[32,123,10]⟩++m2++tabsT d++⟨#[125]⟩)++⟨#[10]⟩:=by
 unfold stF
 rw [nn,nn,nn,nn,nn,nn,nn,nn,if_pos rfl]
 all_goals try simp only [lineT,List.getD_cons_zero,List.getD_cons_succ,List.length_cons,List.length_nil,Nat.zero_add]
 all_goals try (apply ByteArray.ext;simp [ByteArray.data_append,List.append_assoc])
theorem stF_eq16 (d:Nat)(t:ByteArray)(n:Int)(l0 m0:ByteArray):stF d 16 t n [l0] [m0]=tabsT d++(⟨#[108,101,116,32]⟩++t++⟨#[32,61,32]⟩++l0++⟨#[59]⟩)++⟨#[10]⟩:=by
 unfold stF
 rw [nn,nn,nn,nn,nn,nn,nn,nn,nn,if_pos rfl]
 all_goals try simp only [lineT,List.getD_cons_zero,List.getD_cons_succ,List.length_cons,List.length_nil,Nat.zero_add]
 all_goals try (apply ByteArray.ext;simp [ByteArray.data_append,List.append_assoc])
theorem stF_eq17 (d:Nat)(t:ByteArray)(n:Int)(l0 m0:ByteArray):stF d 17 t n [l0] [m0]=tabsT d++(⟨#[101,109,105,116,32]⟩++l0++⟨#[59]⟩)++⟨#[10]⟩:=by
 unfold stF
 rw [nn,nn,nn,nn,nn,nn,nn,nn,nn,nn,if_pos rfl]
 all_goals try simp only [lineT,List.getD_cons_zero,List.getD_cons_succ,List.length_cons,List.length_nil,Nat.zero_add]
 all_goals try (apply ByteArray.ext;simp [ByteArray.data_append,List.append_assoc])
theorem stF_eq14a (d:Nat)(t:ByteArray)(n:Int)(l0 l1 l2 m0 m1 m2:ByteArray):stF d 14 t n [l0,l1,l2] [m0,m1,m2]=tabsT d++(⟨#[105,102,32]⟩++l0++(if n=1 then ⟨#[32,61,61,32]⟩ else ⟨#[32,60,32]⟩)++l1++⟨#[32,123,10]⟩++m2++tabsT d++⟨#[125]⟩)++⟨#[10]⟩:=by
 unfold stF
 rw [nn,nn,nn,nn,nn,nn,nn,if_pos rfl]
 all_goals try simp only [lineT,List.getD_cons_zero,List.getD_cons_succ,List.length_cons,List.length_nil,Nat.zero_add]
 all_goals try rw [if_neg (show ¬ (3:Nat)<3 by decide)]
 all_goals
  by_cases h:n=1
  · try simp only [if_pos h]
    try (apply ByteArray.ext;simp [ByteArray.data_append,List.append_assoc])
  · try simp only [if_neg h]
    try (apply ByteArray.ext;simp [ByteArray.data_append,List.append_assoc])
theorem stF_eq14b (d:Nat)(t:ByteArray)(n:Int)(l0 l1 l2 l3 m0 m1 m2 m3:ByteArray):stF d 14 t n [l0,l1,l2,l3] [m0,m1,m2,m3]=tabsT d++((⟨#[105,102,32]⟩++l0++(if n=1 then ⟨#[32,61,61,32]⟩ else ⟨#[32,60,32]⟩)++l1++⟨#[32,123,10]⟩++m2++tabsT d++⟨#[125]⟩)++⟨#[32,101,108,115,101,32,123,10]⟩++m3++tabsT d++⟨#[125]⟩)++⟨#[10]⟩:=by
 unfold stF
 rw [nn,nn,nn,nn,nn,nn,nn,if_pos rfl]
 all_goals try simp only [lineT,List.getD_cons_zero,List.getD_cons_succ,List.length_cons,List.length_nil,Nat.zero_add]
 all_goals try rw [if_pos (show (3:Nat)<4 by decide)]
 all_goals
  by_cases h:n=1
  · try simp only [if_pos h]
    try (apply ByteArray.ext;simp [ByteArray.data_append,List.append_assoc])
  · try simp only [if_neg h]
    try (apply ByteArray.ext;simp [ByteArray.data_append,List.append_assoc])
end
section
open Go.RowKit Tr
mutual
def smA:Ast→Prop
 | .mk _ _ s _ ks=>s.size≤50∧smL ks
def smL:List Ast→Prop
 | []=>True
 | x::r=>smA x∧smL r
end
mutual
theorem smA_of (o:Nat):∀a:Ast,(∀nd∈flat o a,nd.text.size≤50)→smA a
 | .mk k p s n ks,ht=>⟨ht _ (by simp only [flat];exact List.mem_cons_self),smL_of ks (o+1) (fun nd hm=>ht nd (by simp only [flat];exact List.mem_cons_of_mem _ hm))⟩
theorem smL_of:∀(l:List Ast) (o:Nat),(∀nd∈flatL o l,nd.text.size≤50)→smL l
 | [],_,_=>trivial
 | x::r,o,ht=>⟨smA_of o x (fun nd hm=>ht nd (by simp only [flatL];exact List.mem_append_left _ hm)),smL_of r _ (fun nd hm=>ht nd (by simp only [flatL];exact List.mem_append_right _ hm))⟩
end
theorem On.small {ns:List Nd}{o:Nat}{a:Ast}(h:On ns o a)(ht:∀nd∈ns,nd.text.size≤50):smA a:=by
 obtain ⟨t,e,pre,post,rfl,rfl⟩:=h
 refine smA_of pre.length a fun nd hm=>?_
 have h5:noAt nd∈ns.map noAt:=by rw [← e];exact List.mem_map_of_mem (by simp [hm])
 obtain ⟨md,h6,h7⟩:=List.mem_map.1 h5
 have h8:nd.text=md.text:=(show (noAt nd).text=(noAt md).text by rw [h7])
 rw [h8]
 exact ht md h6
mutual
theorem exL_few (k:Int)(j:Nat):∀l:List Ast,wfRL l→smL l→((exL k j l).map ByteArray.size).sum≤60*sizeL l
 | [],_,_=>by simp [exL,sizeL]
 | x::r,h,hs=>by
  have h2:=exL_few k (j+1) r h.2 hs.2
  simp only [exL,List.map_cons,List.sum_cons,sizeL]
  have h4:(inB (br k (j==1) x.kind) (exT x)).size≤(exT x).size+2:=by
   unfold inB;split
   · simp only [ByteArray.size_append]
     show 1+(exT x).size+1≤_
     omega
   · omega
  have h5:=exT_few x h.1 hs.1
  omega
theorem exT_few:∀x:Ast,wfR x→smA x→(exT x).size+2≤60*x.size
 | .mk k a s n ks,h,hs=>by
  have hp:=h.parts
  have hl:=exL_few k 0 ks h.2 hs.2
  have hs1:=hs.1
  simp only [exT,Ast.size]
  have h01:((exL k 0 ks).getD 0 none0).size+((exL k 0 ks).getD 1 none0).size≤60*sizeL ks:=Nat.le_trans (get2_le _ 0 1 (by omega)) hl
  have hnum:(numT n).size≤21:=by
   unfold numT
   have:=Lib.itoa_length_le n (by omega) (by have:=mostR_le k;omega)
   show (Lib.itoa n).toArray.size≤21
   simpa using this
  have e1:(⟨#[91]⟩:ByteArray).size=1:=rfl
  have e2:(⟨#[93]⟩:ByteArray).size=1:=rfl
  have e3:(⟨#[45]⟩:ByteArray).size=1:=rfl
  have e4:(markT k).size=3:=by
   unfold markT
   split
   · rfl
   · split<;>rfl
  unfold nodeT
  split
  · simp only [ByteArray.size_append];omega
  · split
    · omega
    · split
      · simp only [ByteArray.size_append];omega
      · split
        · simp only [ByteArray.size_append];omega
        · omega
end
theorem exs_few:∀l:List Ast,wfRL l→smL l→((l.map exT).map ByteArray.size).sum+2*l.length≤60*sizeL l
 | [],_,_=>by simp [sizeL]
 | x::r,h,hs=>by
  have h1:=exT_few x h.1 hs.1
  have h2:=exs_few r h.2 hs.2
  simp only [List.map_cons,List.sum_cons,sizeL,List.length_cons]
  omega
theorem get3_le:∀(l:List ByteArray),(l.getD 0 none0).size+(l.getD 1 none0).size+(l.getD 2 none0).size≤(l.map ByteArray.size).sum
 | []=>by simp [List.getD];rfl
 | x::r=>by have:=get2_le r 0 1 (by omega);simp only [List.getD_cons_zero,List.getD_cons_succ,List.map_cons,List.sum_cons];omega
theorem stF_few (d:Nat)(k:Int)(t:ByteArray)(n:Int)(l m:List ByteArray)(h14:k≠14)(h15:k≠15):(stF d k t n l m).size≤d+t.size+40+(l.map ByteArray.size).sum+2*l.length:=by
 have g3:=get3_le l
 have gj:=joinT_size (l.drop 1)
 have gd:=drop_sum l
 rw [List.length_drop] at gj
 have c1:(if n=1 then (⟨#[32,102,111,114,32,117,112,100,97,116,101]⟩:ByteArray) else ⟨#[]⟩).size≤11:=by split<;>decide
 have c2:(if n=1 then (⟨#[32,97,108,108]⟩:ByteArray) else ⟨#[32,115,104,97,114,101,100]⟩).size≤7:=by split<;>decide
 have lit:∀a:Array UInt8,(⟨a⟩:ByteArray).size=a.size:=fun a=>rfl
 by_cases h7:k=7
 · subst h7
   unfold stF
   rw [if_pos rfl]
   clear h14 h15
   rw [lineT_size];simp only [ByteArray.size_append,lit] at *;simp at *;omega
 by_cases h8:k=8
 · subst h8
   unfold stF
   rw [nn,if_pos rfl]
   clear h14 h15 h7
   rw [lineT_size];simp only [ByteArray.size_append,lit] at *;simp at *;omega
 by_cases h9:k=9
 · subst h9
   unfold stF
   rw [nn,nn,if_pos rfl]
   clear h14 h15 h7 h8
   rw [lineT_size];simp only [ByteArray.size_append,lit] at *;simp at *;omega
 by_cases h10:k=10
 · subst h10
   unfold stF
   rw [nn,nn,nn,if_pos rfl]
   clear h14 h15 h7 h8 h9
   rw [lineT_size];simp only [ByteArray.size_append,lit] at *;simp at *;omega
 by_cases h11:k=11
 · subst h11
   unfold stF
   rw [nn,nn,nn,nn,if_pos rfl]
   clear h14 h15 h7 h8 h9 h10
   rw [lineT_size];simp only [ByteArray.size_append,lit] at *;simp at *;omega
 by_cases h12:k=12
 · subst h12
   unfold stF
   rw [nn,nn,nn,nn,nn,if_pos rfl]
   clear h14 h15 h7 h8 h9 h10 h11
   rw [lineT_size];simp only [ByteArray.size_append,lit] at *;simp at *;omega
 by_cases h13:k=13
 · subst h13
   unfold stF
   rw [nn,nn,nn,nn,nn,nn,if_pos rfl]
   clear h14 h15 h7 h8 h9 h10 h11 h12
   rw [lineT_size];simp only [ByteArray.size_append,lit] at *;simp at *;omega
 by_cases h16:k=16
 · subst h16
   unfold stF
   rw [nn,nn,nn,nn,nn,nn,nn,nn,nn,if_pos rfl]
   clear h14 h15 h7 h8 h9 h10 h11 h12 h13
   rw [lineT_size];simp only [ByteArray.size_append,lit] at *;simp at *;omega
 by_cases h17:k=17
 · subst h17
   unfold stF
   rw [nn,nn,nn,nn,nn,nn,nn,nn,nn,nn,if_pos rfl]
   clear h14 h15 h7 h8 h9 h10 h11 h12 h13 h16
   rw [lineT_size];simp only [ByteArray.size_append,lit] at *;simp at *;omega
 by_cases h18:k=18
 · subst h18
   unfold stF
   rw [nn,nn,nn,nn,nn,nn,nn,nn,nn,nn,nn,if_pos rfl]
   clear h14 h15 h7 h8 h9 h10 h11 h12 h13 h16 h17
   rw [lineT_size];simp only [ByteArray.size_append,lit] at *;simp at *;omega
 by_cases h19:k=19
 · subst h19
   unfold stF
   rw [nn,nn,nn,nn,nn,nn,nn,nn,nn,nn,nn,nn,if_pos rfl]
   clear h14 h15 h7 h8 h9 h10 h11 h12 h13 h16 h17 h18
   rw [lineT_size];simp only [ByteArray.size_append,lit] at *;simp at *;omega
 · have h0:stF d k t n l m=none0:=by unfold stF;rw [if_neg h7,if_neg h8,if_neg h9,if_neg h10,if_neg h11,if_neg h12,if_neg h13,if_neg h14,if_neg h15,if_neg h16,if_neg h17,if_neg h18,if_neg h19]
   rw [h0];show 0≤_;omega
theorem stF_14 (d:Nat)(t:ByteArray)(n:Int)(l m:List ByteArray):(stF d 14 t n l m).size≤3*d+40+(l.getD 0 none0).size+(l.getD 1 none0).size+(m.getD 2 none0).size+(m.getD 3 none0).size:=by
 have c3:(if n=1 then (⟨#[32,61,61,32]⟩:ByteArray) else ⟨#[32,60,32]⟩).size≤4:=by split<;>decide
 have lit:∀a:Array UInt8,(⟨a⟩:ByteArray).size=a.size:=fun a=>rfl
 unfold stF
 rw [nn,nn,nn,nn,nn,nn,nn,if_pos rfl]
 by_cases h3:3<l.length
 · rw [if_pos h3];simp only [ByteArray.size_append]
   rw [lineT_size,lineT_size,lineT_size];simp only [ByteArray.size_append,lit] at *;simp at *;omega
 · have h0:none0.size=0:=rfl
   rw [if_neg h3];simp only [ByteArray.size_append]
   rw [lineT_size,lineT_size];simp only [ByteArray.size_append,lit] at *;simp at *;omega
theorem stF_15 (d:Nat)(t:ByteArray)(n:Int)(l m:List ByteArray):(stF d 15 t n l m).size≤2*d+t.size+40+(l.getD 0 none0).size+(l.getD 1 none0).size+(m.getD 2 none0).size:=by
 have lit:∀a:Array UInt8,(⟨a⟩:ByteArray).size=a.size:=fun a=>rfl
 unfold stF
 rw [nn,nn,nn,nn,nn,nn,nn,nn,if_pos rfl]
 simp only [ByteArray.size_append]
 rw [lineT_size,lineT_size];simp only [ByteArray.size_append,lit] at *;simp at *;omega
def FewS (x:Ast):Prop:=wfR x→smA x→∀d:Nat,4*d+x.size≤200→(stT d x).size≤250*x.size
theorem stL_of (l:List Ast)(ih:∀y∈l,FewS y)(h:wfRL l)(hs:smL l)(d:Nat)(hd:4*d+sizeL l≤200):(stL d l).size≤250*sizeL l:=by
 induction l with
 | nil=>simp only [stL];exact Nat.zero_le _
 | cons x r ih2 =>
  simp only [sizeL] at hd ⊢
  have h1:=ih x (by simp) h.1 hs.1 d (by omega)
  have h2:=ih2 (fun y hy=>ih y (by simp [hy])) h.2 hs.2 (by omega)
  simp only [stL,ByteArray.size_append]
  omega
theorem blT_of (x:Ast)(ih:∀y∈x.kids,FewS y)(h:wfR x)(hs:smA x)(d:Nat)(hd:4*d+x.size≤201):(blT d x).size≤250*x.size:=by
 cases x with
 | mk k a s n ks =>
  simp only [Ast.size] at hd ⊢
  have:=stL_of ks ih h.2 hs.2 d (by omega)
  simp only [blT]
  omega
theorem kid_size {k:Int}{a:Nat}{s:ByteArray}{n:Int}{ks:List Ast}{y:Ast}(h:y∈ks):y.size<(Ast.mk k a s n ks).size:=by
 have:=sizeL_mem h
 simp only [Ast.size];omega
theorem kids_size {x y:Ast}(h:y∈x.kids):y.size<x.size:=by
 cases x with
 | mk k a s n ks=>exact kid_size h
theorem stT_few:∀(m:Nat) (x:Ast),x.size≤m→FewS x
 | 0,x,h=>absurd h (by have:=ast_pos x;omega)
 | m+1,.mk k a s n ks,h=>by
  intro hw hs d hd
  have hs1:=hs.1
  have hex:=exs_few ks hw.2 hs.2
  have IH:∀y∈ks,∀z∈y.kids,FewS z:=fun y hy z hz=>stT_few m z (by have:=kid_size (k:=k) (a:=a) (s:=s) (n:=n) hy;have:=kids_size hz;omega)
  simp only [stT]
  by_cases h14:k=14
  · subst h14
    have hF:=stF_14 d s n (ks.map exT) (blLs (d+1) ks)
    simp only [Ast.size] at hd ⊢
    rcases ks with _|⟨x,_|⟨y,r⟩⟩
    · have h0:none0.size=0:=rfl
      simp only [blLs,List.map_nil,List.getD_nil,sizeL,h0] at *;omega
    · have h0:none0.size=0:=rfl
      have hx:=exT_few x hw.2.1 hs.2.1
      simp only [blLs,List.map_cons,List.map_nil,List.getD_nil,List.getD_cons_zero,List.getD_cons_succ,sizeL,h0] at *;omega
    · have hx:=exT_few x hw.2.1 hs.2.1
      have hy:=exT_few y hw.2.2.1 hs.2.2.1
      have px:=ast_pos x
      have py:=ast_pos y
      simp only [blLs,List.map_cons,List.getD_cons_zero,List.getD_cons_succ,sizeL] at hF hd ⊢
      have hr:((blLs (d+1) r).getD 0 none0).size+((blLs (d+1) r).getD 1 none0).size≤250*sizeL r:=by
       rcases r with _|⟨z,_|⟨z2,r2⟩⟩
       · simp only [blLs,List.getD_nil];exact Nat.zero_le _
       · have hz:=blT_of z (IH z (by simp)) hw.2.2.2.1 hs.2.2.2.1 (d+1) (by simp only [sizeL] at hd;omega)
         have h0:none0.size=0:=rfl
         simp only [blLs,List.getD_nil,List.getD_cons_zero,List.getD_cons_succ,sizeL,h0];omega
       · have hz:=blT_of z (IH z (by simp)) hw.2.2.2.1 hs.2.2.2.1 (d+1) (by simp only [sizeL] at hd;omega)
         have hz2:=blT_of z2 (IH z2 (by simp)) hw.2.2.2.2.1 hs.2.2.2.2.1 (d+1) (by simp only [sizeL] at hd;omega)
         simp only [blLs,List.getD_cons_zero,List.getD_cons_succ,sizeL];omega
      omega
  · by_cases h15:k=15
    · subst h15
      have hF:=stF_15 d s n (ks.map exT) (blLs (d+1) ks)
      simp only [Ast.size] at hd ⊢
      rcases ks with _|⟨x,_|⟨y,r⟩⟩
      · have h0:none0.size=0:=rfl
        simp only [blLs,List.map_nil,List.getD_nil,sizeL,h0] at *;omega
      · have h0:none0.size=0:=rfl
        have hx:=exT_few x hw.2.1 hs.2.1
        simp only [blLs,List.map_cons,List.map_nil,List.getD_nil,List.getD_cons_zero,List.getD_cons_succ,sizeL,h0] at *;omega
      · have hx:=exT_few x hw.2.1 hs.2.1
        have hy:=exT_few y hw.2.2.1 hs.2.2.1
        have px:=ast_pos x
        have py:=ast_pos y
        simp only [blLs,List.map_cons,List.getD_cons_zero,List.getD_cons_succ,sizeL] at hF hd ⊢
        have hr:((blLs (d+1) r).getD 0 none0).size≤250*sizeL r:=by
         rcases r with _|⟨z,r2⟩
         · simp only [blLs,List.getD_nil];exact Nat.zero_le _
         · have hz:=blT_of z (IH z (by simp)) hw.2.2.2.1 hs.2.2.2.1 (d+1) (by simp only [sizeL] at hd;omega)
           simp only [blLs,List.getD_cons_zero,sizeL];omega
        omega
    · have hF:=stF_few d k s n (ks.map exT) (blLs (d+1) ks) h14 h15
      rw [List.length_map] at hF
      simp only [Ast.size] at hd ⊢
      omega
theorem partT_few (x:Ast)(h:wfR x)(hs:smA x)(hx:x.size≤199):(partT x).size≤250*x.size:=by
 cases x with
 | mk k a t n ks =>
 have hs1:=hs.1
 have hj:=joinT_size (ks.map exT)
 have hex:=exs_few ks h.2 hs.2
 have lit:∀a:Array UInt8,(⟨a⟩:ByteArray).size=a.size:=fun a=>rfl
 rw [List.length_map] at hj
 simp only [Ast.size] at hx ⊢
 unfold partT;dsimp only
 by_cases h2:k=2
 · rw [if_pos h2,lineT_size]
   unfold namesOf
   simp only [ByteArray.size_append,lit]
   simp
   omega
 · rw [if_neg h2]
   rcases ks with _|⟨a',_|⟨b',_|⟨c',r⟩⟩⟩
   · show 0≤_;omega
   · show 0≤_;omega
   · have c1:(if n=1 then (⟨#[32,115,105,110,103,108,101]⟩:ByteArray) else ⟨#[]⟩).size≤7:=by split<;>decide
     have hb:=blT_of b' (fun y _=>stT_few y.size y (Nat.le_refl _)) h.2.2.1 hs.2.2.1 1 (by have:=ast_pos a';simp only [sizeL] at hx;omega)
     have hn:=joinT_size (a'.kids.map exT)
     have hn2:((a'.kids.map exT).map ByteArray.size).sum+2*a'.kids.length≤60*sizeL a'.kids:=by cases a' with|mk k1 a1 s1 n1 ks1=>exact exs_few ks1 h.2.1.2 hs.2.1.2
     have hs:sizeL a'.kids≤a'.size:=by cases a' with|mk k1 a1 s1 n1 ks1=>simp only [Ast.kids,Ast.size];omega
     rw [List.length_map] at hn
     simp only [sizeL,Nat.add_zero] at hx ⊢
     simp only [ByteArray.size_append,lineT_size]
     unfold namesOf
     generalize (if n=1 then (⟨#[32,115,105,110,103,108,101]⟩:ByteArray) else ⟨#[]⟩)=E at *
     simp only [lit]
     simp
     omega
   · show 0≤_;omega
theorem progL_few:∀l:List Ast,wfRL l→smL l→sizeL l≤199→(progL l).size≤250*sizeL l
 | [],_,_,_=>by simp only [progL];exact Nat.zero_le _
 | x::r,h,hs,hd=>by
  simp only [sizeL] at hd ⊢
  have h1:=partT_few x h.1 hs.1 (by omega)
  have h2:=progL_few r h.2 hs.2 (by omega)
  simp only [progL,ByteArray.size_append]
  omega
theorem fits {ks:List Ast}{a:Nat}{s:ByteArray}{n:Int}(h:wfR (.mk 1 a s n ks))(hs:smA (.mk 1 a s n ks))(hd:(Ast.mk 1 a s n ks).size≤200):(progL ks).size≤65536:=by
 simp only [Ast.size] at hd
 have:=progL_few ks h.2 hs.2 (by omega)
 omega
end
end Go.Proofs.YthdioipfdbbmmaaGreatDoor
