/- Contracts. -/
import Derived.WalkKit
import Derived.Handy
import Derived.Lib.Hide
import Derived.Lib.ConvBytes
import Derived.Below
import Derived.Deep.QuietTactic
set_option linter.all false
set_option maxRecDepth 1000000
set_option maxHeartbeats 16000000
namespace Go.Proofs.YthdioipfdbbmmaaGreatDoor
section
def isBlank (c:Int):Bool:=c==32||c==9||c==10||c==13
def isLetter (c:Int):Bool:=decide (97≤c)&&decide (c≤122)
def isDigit (c:Int):Bool:=decide (48≤c)&&decide (c≤57)
def isNameB (c:Int):Bool:=isLetter c||isDigit c||c==95
def isMark (c:Int):Bool:=[123,125,40,41,91,93,59,44,46,43,45,42,60,61].contains c
def kindF (c:Int):Int:=if isBlank c then 1 else if c=35 then 2 else if isLetter c then 3 else if isDigit c then 4 else if c=95 then 5 else if isMark c then 6 else 0
def blk:Bool→List Int→Nat
 | _,[]=>0
 | true,c::r=>if c=10 then 1+blk false r else 1+blk true r
 | false,c::r=>if isBlank c then 1+blk false r else if c=35 then 1+blk true r else 0
def run (p:Int→Bool):List Int→Nat
 | []=>0
 | c::r=>if p c then run p r+1 else 0
def numV:Int→List Int→Option Int
 | n,[]=>some n
 | n,c::r=>if isDigit c then (if 2147483647<10*n+(c-48) then none else numV (10*n+(c-48)) r) else some n
inductive Step where
 | err (e:Int)
 | tok (k:Int) (len:Nat) (n:Int)
def step:List Int→Step
 | []=>.err 0
 | c::r =>
  if isLetter c then .tok 1 (run isNameB (c::r)) 0
  else if isDigit c then (match numV 0 (c::r) with|some n=>.tok 2 (run isDigit (c::r)) n|none=>.err 31)
  else if isMark c then .tok 3 (if c=61∧r.head?=some 61 then 2 else 1) 0
  else .err 30
structure Tok where
 kind:Int
 at':Nat
 stop:Nat
 text:List Int
 n:Int
 deriving DecidableEq
def Tok.endAt (p:Nat):Tok:=⟨4,p,p,[],0⟩
def pre (ts:List Tok):Except (Nat × Int) (List Tok)→Except (Nat × Int) (List Tok)
 | .error e=>.error e
 | .ok us=>.ok (ts++us)
def lexN:Nat→Nat→List Int→Except (Nat × Int) (List Tok)
 | 0,p,_=>.ok [Tok.endAt p]
 | f+1,p,l =>
  match l.drop (blk false l) with
  | []=>.ok [Tok.endAt (p+blk false l)]
  | c::r=>match step (c::r) with
   | .err e=>.error (p+blk false l,e)
   | .tok k len n=>pre [⟨k,p+blk false l,p+blk false l+len,(c::r).take len,n⟩] (lexN f (p+blk false l+len) ((c::r).drop len))
def lexS (xs:List Int):Except (Nat × Int) (List Tok):=lexN (xs.length+1) 0 xs
theorem blk_le (b:Bool)(l:List Int):blk b l≤l.length:=by
 induction l generalizing b with
 | nil=>cases b<;>simp [blk]
 | cons c r ih =>
  cases b
  · simp only [blk,List.length_cons]
    split
    · have:=ih false;omega
    · split
      · have:=ih true;omega
      · omega
  · simp only [blk,List.length_cons]
    split
    · have:=ih false;omega
    · have:=ih true;omega
theorem run_le (p:Int→Bool)(l:List Int):run p l≤l.length:=by
 induction l with
 | nil=>simp [run]
 | cons c r ih=>simp only [run,List.length_cons];split<;>omega
theorem step_len {l:List Int}{k:Int}{len:Nat}{n:Int}(h:step l=.tok k len n):0<len∧len≤l.length∧(k=1∨k=2∨k=3):=by
 cases l with
 | nil=>simp [step] at h
 | cons c r =>
  have h1:=run_le isNameB (c::r)
  have h2:=run_le isDigit (c::r)
  simp only [step] at h
  split at h
  · rename_i hl
    simp only [Step.tok.injEq] at h
    have:0<run isNameB (c::r):=by simp [run,isNameB,hl]
    exact ⟨by omega,by omega,by omega⟩
  · split at h
    · rename_i hd
      have:0<run isDigit (c::r):=by simp [run,hd]
      split at h
      · simp only [Step.tok.injEq] at h
        exact ⟨by omega,by omega,by omega⟩
      · simp at h
    · split at h
      · simp only [Step.tok.injEq] at h
        split at h
        · rename_i h61
          have:0<r.length:=by
           cases r with
           | nil=>simp at h61
           | cons _ _=>simp
          simp only [List.length_cons]
          exact ⟨by omega,by omega,by omega⟩
        · simp only [List.length_cons]
          exact ⟨by omega,by omega,by omega⟩
      · simp at h
theorem lexN_fuel (f g p:Nat)(l:List Int)(hf:l.length<f)(hg:l.length<g):lexN f p l=lexN g p l:=by
 induction f generalizing g p l with
 | zero=>omega
 | succ f ih =>
  cases g with
  | zero=>omega
  | succ g =>
   simp only [lexN]
   split
   · rfl
   · rename_i c r hd
     split
     · rfl
     · rename_i k len n hs
       have:=step_len hs
       have hlen:(c::r).length≤l.length:=by rw [← hd];simp
       rw [ih g _ _ (by simp only [List.length_drop];omega) (by simp only [List.length_drop];omega)]
theorem pre_pre (a b:List Tok)(x:Except (Nat × Int) (List Tok)):pre a (pre b x)=pre (a++b) x:=by
 cases x<;>simp [pre]
theorem pre_nil (x:Except (Nat × Int) (List Tok)):pre [] x=x:=by
 cases x<;>simp [pre]
end
namespace Tr
open Go.RowKit
def bytesI (s:ByteArray):List Int:=s.data.toList.map fun b=>(b.toNat:Int)
theorem bytesI_length (s:ByteArray):(bytesI s).length=s.size:=by simp [bytesI]
theorem bytesI_get (s:ByteArray)(k:Nat)(h:k<s.size):(bytesI s).getD k 0=(s[k].toNat:Int):=by
 have:k<s.data.toList.length:=by simpa using h
 have e:s.data.toList[k]?=some s[k]:=List.getElem?_eq_getElem this
 simp only [bytesI,List.getD,List.getElem?_map,e,Option.map_some,Option.getD_some]
theorem bytesI_str (s:ByteArray):strOfNums (bytesI s)=s:=by
 obtain ⟨⟨l⟩⟩:=s
 simp [strOfNums,bytesI,Function.comp_def]
def namesF (l:List Int):Bool:=(match l with|[]=>false|c::_=>isLetter c)&&l.all isNameB
theorem all_take_succ (l:List Int)(k:Nat)(h:k<l.length):(l.take (k+1)).all isNameB=((l.take k).all isNameB&&isNameB (l.getD k 0)):=by
 rw [List.take_succ_eq_append_getElem h,List.all_append]
 simp [List.getD,h]
theorem namesF_no (l:List Int)(k:Nat)(h:k<l.length)(hk:isNameB (l.getD k 0)=false):namesF l=false:=by
 unfold namesF
 have:l.all isNameB=false:=by
  rw [List.all_eq_false]
  exact ⟨l.getD k 0,by simp [List.getD,h],by rw [hk];simp⟩
 rw [this,Bool.and_false]
theorem namesF_head (l:List Int)(h:0<l.length)(hk:isLetter (l.getD 0 0)=false):namesF l=false:=by
 cases l with
 | nil=>simp at h
 | cons c r=>simp only [List.getD_cons_zero] at hk;simp [namesF,hk]
theorem namesF_yes (l:List Int)(h:0<l.length)(hk:isLetter (l.getD 0 0)=true)(ha:(l.take l.length).all isNameB=true):namesF l=true:=by
 cases l with
 | nil=>simp at h
 | cons c r=>simp only [List.getD_cons_zero] at hk;rw [List.take_length] at ha;simp only [namesF,hk,ha,Bool.and_true]
theorem retB {a b:Bool}(h:a=b):Ending.returned (.bool a)=.returned (.bool b):=by rw [h]
theorem retI {a b:Int}(h:a=b):Ending.returned (.int .i64 a)=.returned (.int .i64 b):=by rw [h]
theorem drewN_below (B:Nat)(w:World)(n:Nat):Below B w (w.drewN n):=⟨rfl,rfl,rfl,Nat.le_refl _,fun _ _=>rfl⟩
end Tr
end Go.Proofs.YthdioipfdbbmmaaGreatDoor
