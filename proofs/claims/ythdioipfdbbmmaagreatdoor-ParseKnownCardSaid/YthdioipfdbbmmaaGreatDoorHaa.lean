/- Contracts. -/
import Derived.WalkKit
import Derived.Handy
import Derived.Lib.Hide
set_option linter.all false
set_option maxRecDepth 1000000
set_option maxHeartbeats 16000000
namespace Go.Proofs.YthdioipfdbbmmaaGreatDoor
section
def isBlank (c:Int):Bool:=c==32||c==9||c==10||c==13
def isLetter (c:Int):Bool:=decide (97≤c)&&decide (c≤122)
def isDigit (c:Int):Bool:=decide (48≤c)&&decide (c≤57)
def isNameB (c:Int):Bool:=isLetter c||isDigit c||c==95
def isMark (c:Int):Bool:=[123,125,40,41,91,93,59,44,46,43,45,42,60,61].contains c
def kindF (c:Int):Int:=if isBlank c then 1 else if c=35 then 2 else if isLetter c then 3 else if isDigit c then 4 else if c=95 then 5 else if isMark c then 6 else 0
def blk:Bool→List Int→Nat
 | _,[]=>0
 | true,c::r=>if c=10 then 1+blk false r else 1+blk true r
 | false,c::r=>if isBlank c then 1+blk false r else if c=35 then 1+blk true r else 0
def run (p:Int→Bool):List Int→Nat
 | []=>0
 | c::r=>if p c then run p r+1 else 0
def numV:Int→List Int→Option Int
 | n,[]=>some n
 | n,c::r=>if isDigit c then (if 2147483647<10*n+(c-48) then none else numV (10*n+(c-48)) r) else some n
inductive Step where
 | err (e:Int)
 | tok (k:Int) (len:Nat) (n:Int)
def step:List Int→Step
 | []=>.err 0
 | c::r =>
  if isLetter c then .tok 1 (run isNameB (c::r)) 0
  else if isDigit c then (match numV 0 (c::r) with|some n=>.tok 2 (run isDigit (c::r)) n|none=>.err 31)
  else if isMark c then .tok 3 (if c=61∧r.head?=some 61 then 2 else 1) 0
  else .err 30
structure Tok where
 kind:Int
 at':Nat
 stop:Nat
 text:List Int
 n:Int
 deriving DecidableEq
def Tok.endAt (p:Nat):Tok:=⟨4,p,p,[],0⟩
def pre (ts:List Tok):Except (Nat × Int) (List Tok)→Except (Nat × Int) (List Tok)
 | .error e=>.error e
 | .ok us=>.ok (ts++us)
def lexN:Nat→Nat→List Int→Except (Nat × Int) (List Tok)
 | 0,p,_=>.ok [Tok.endAt p]
 | f+1,p,l =>
  match l.drop (blk false l) with
  | []=>.ok [Tok.endAt (p+blk false l)]
  | c::r=>match step (c::r) with
   | .err e=>.error (p+blk false l,e)
   | .tok k len n=>pre [⟨k,p+blk false l,p+blk false l+len,(c::r).take len,n⟩] (lexN f (p+blk false l+len) ((c::r).drop len))
def lexS (xs:List Int):Except (Nat × Int) (List Tok):=lexN (xs.length+1) 0 xs
theorem blk_le (b:Bool)(l:List Int):blk b l≤l.length:=by
 induction l generalizing b with
 | nil=>cases b<;>simp [blk]
 | cons c r ih =>
  cases b
  · simp only [blk,List.length_cons]
    split
    · have:=ih false;omega
    · split
      · have:=ih true;omega
      · omega
  · simp only [blk,List.length_cons]
    split
    · have:=ih false;omega
    · have:=ih true;omega
theorem run_le (p:Int→Bool)(l:List Int):run p l≤l.length:=by
 induction l with
 | nil=>simp [run]
 | cons c r ih=>simp only [run,List.length_cons];split<;>omega
theorem run_all (p:Int→Bool)(l:List Int):∀i,i<run p l→p (l.getD i 0)=true:=by
 induction l with
 | nil=>intro i hi;simp [run] at hi
 | cons c r ih =>
  intro i hi
  simp only [run] at hi
  split at hi
  · cases i with
    | zero=>simpa
    | succ i=>simpa using ih i (by omega)
  · omega
theorem step_len {l:List Int}{k:Int}{len:Nat}{n:Int}(h:step l=.tok k len n):0<len∧len≤l.length∧(k=1∨k=2∨k=3):=by
 cases l with
 | nil=>simp [step] at h
 | cons c r =>
  have h1:=run_le isNameB (c::r)
  have h2:=run_le isDigit (c::r)
  simp only [step] at h
  split at h
  · rename_i hl
    simp only [Step.tok.injEq] at h
    have:0<run isNameB (c::r):=by simp [run,isNameB,hl]
    exact ⟨by omega,by omega,by omega⟩
  · split at h
    · rename_i hd
      have:0<run isDigit (c::r):=by simp [run,hd]
      split at h
      · simp only [Step.tok.injEq] at h
        exact ⟨by omega,by omega,by omega⟩
      · simp at h
    · split at h
      · simp only [Step.tok.injEq] at h
        split at h
        · rename_i h61
          have:0<r.length:=by
           cases r with
           | nil=>simp at h61
           | cons _ _=>simp
          simp only [List.length_cons]
          exact ⟨by omega,by omega,by omega⟩
        · simp only [List.length_cons]
          exact ⟨by omega,by omega,by omega⟩
      · simp at h
theorem lexN_fuel (f g p:Nat)(l:List Int)(hf:l.length<f)(hg:l.length<g):lexN f p l=lexN g p l:=by
 induction f generalizing g p l with
 | zero=>omega
 | succ f ih =>
  cases g with
  | zero=>omega
  | succ g =>
   simp only [lexN]
   split
   · rfl
   · rename_i c r hd
     split
     · rfl
     · rename_i k len n hs
       have:=step_len hs
       have hlen:(c::r).length≤l.length:=by rw [← hd];simp
       rw [ih g _ _ (by simp only [List.length_drop];omega) (by simp only [List.length_drop];omega)]
theorem pre_pre (a b:List Tok)(x:Except (Nat × Int) (List Tok)):pre a (pre b x)=pre (a++b) x:=by
 cases x<;>simp [pre]
theorem pre_nil (x:Except (Nat × Int) (List Tok)):pre [] x=x:=by
 cases x<;>simp [pre]
end
section
def nl (c:Int):Bool:=c != 10
theorem blk_rem (r:List Int):blk true r=run nl r+blk false (r.drop (run nl r)):=by
 induction r with
 | nil=>simp [blk,run]
 | cons c r ih =>
  by_cases h:c=10
  · subst h
    simp [blk,run,nl,isBlank]
  · have hn:nl c=true:=by simp [nl,h]
    simp only [blk,run,hn,if_true,if_neg h,List.drop_succ_cons,ih]
    omega
theorem blk_done (b:Bool)(l:List Int):blk false (l.drop (blk b l))=0:=by
 induction l generalizing b with
 | nil=>cases b<;>simp [blk]
 | cons c r ih =>
  cases b
  · simp only [blk]
    split
    · rw [Nat.add_comm 1,List.drop_succ_cons];exact ih false
    · split
      · rw [Nat.add_comm 1,List.drop_succ_cons];exact ih true
      · rename_i h1 h2
        simp [blk,h1,h2]
  · simp only [blk]
    split
    · rw [Nat.add_comm 1,List.drop_succ_cons];exact ih false
    · rw [Nat.add_comm 1,List.drop_succ_cons];exact ih true
theorem lexN_skip (f p:Nat)(l:List Int):lexN (f+1) p l=lexN (f+1) (p+blk false l) (l.drop (blk false l)):=by
 conv=>rhs;rw [lexN]
 rw [blk_done,List.drop_zero,lexN]
 rfl
def lexAt (xs:List Int)(i:Nat):Except (Nat × Int) (List Tok):=lexN (xs.length-i+1) i (xs.drop i)
def bl (xs:List Int)(i:Nat):Nat:=i+blk false (xs.drop i)
theorem lexS_at (xs:List Int):lexS xs=lexAt xs 0:=by simp [lexS,lexAt]
theorem bl_le (xs:List Int)(i:Nat)(h:i≤xs.length):i≤bl xs i∧bl xs i≤xs.length:=by
 have:=blk_le false (xs.drop i)
 simp only [List.length_drop] at this
 unfold bl
 omega
theorem lexAt_bl (xs:List Int)(i:Nat)(h:i≤xs.length):lexAt xs i=lexAt xs (bl xs i):=by
 have hb:=bl_le xs i h
 unfold lexAt
 rw [lexN_skip]
 unfold bl at *
 rw [List.drop_drop]
 exact lexN_fuel _ _ _ _ (by simp only [List.length_drop];omega) (by simp only [List.length_drop];omega)
theorem drop_at (xs:List Int)(i:Nat)(h:i<xs.length):xs.drop i=xs.getD i 0::xs.drop (i+1):=by
 rw [List.drop_eq_getElem_cons h]
 simp [List.getD,h]
theorem bl_end (xs:List Int)(i:Nat)(h:xs.length≤i):bl xs i=i:=by
 simp [bl,List.drop_eq_nil_of_le h,blk]
theorem bl_blank (xs:List Int)(i:Nat)(h:i<xs.length)(hb:isBlank (xs.getD i 0)=true):bl xs i=bl xs (i+1):=by
 unfold bl
 rw [drop_at xs i h]
 simp only [blk,hb,if_true]
 omega
theorem bl_rem (xs:List Int)(i:Nat)(h:i<xs.length)(hb:xs.getD i 0=35):bl xs i=bl xs (i+run nl (xs.drop i)):=by
 unfold bl
 have h1:run nl (xs.drop i)=run nl (xs.drop (i+1))+1:=by
  rw [drop_at xs i h,hb];simp [run,nl]
 have h2:blk false (xs.drop i)=1+blk true (xs.drop (i+1)):=by
  rw [drop_at xs i h,hb];simp [blk,isBlank]
 rw [h1,h2,blk_rem,List.drop_drop]
 rw [show i+1+run nl (xs.drop (i+1))=i+(run nl (xs.drop (i+1))+1) by omega]
 omega
theorem bl_stay (xs:List Int)(i:Nat)(h:i<xs.length)(hb:isBlank (xs.getD i 0)=false)(hr:xs.getD i 0≠35):bl xs i=i:=by
 unfold bl
 rw [drop_at xs i h]
 simp only [blk,hb,Bool.false_eq_true,if_false,if_neg hr]
 omega
theorem lexAt_end (xs:List Int)(i:Nat)(h:i=xs.length):lexAt xs i=.ok [Tok.endAt i]:=by
 subst h
 simp [lexAt,lexN,blk]
theorem lexAt_err (xs:List Int)(i:Nat)(e:Int)(h:i<xs.length)(hb:bl xs i=i)(hs:step (xs.drop i)=.err e):lexAt xs i=.error (i,e):=by
 have h0:blk false (xs.drop i)=0:=by unfold bl at hb;omega
 unfold lexAt
 rw [lexN,h0,List.drop_zero]
 rw [drop_at xs i h] at hs ⊢
 simp only [hs,Nat.add_zero]
theorem lexAt_tok (xs:List Int)(i:Nat)(k:Int)(len:Nat)(n:Int)(h:i<xs.length)(hb:bl xs i=i)(hs:step (xs.drop i)=.tok k len n) :
 lexAt xs i=pre [⟨k,i,i+len,(xs.drop i).take len,n⟩] (lexAt xs (i+len)):=by
 have h0:blk false (xs.drop i)=0:=by unfold bl at hb;omega
 have hl:=step_len hs
 simp only [List.length_drop] at hl
 have e:lexAt xs (i+len)=lexN (xs.length-i) (i+len) (xs.drop (i+len)):=lexN_fuel _ _ _ _ (by simp only [List.length_drop];omega) (by simp only [List.length_drop];omega)
 rw [e]
 unfold lexAt
 rw [lexN,h0,List.drop_zero]
 rw [← List.drop_drop]
 rw [drop_at xs i h] at hs ⊢
 simp only [hs,Nat.add_zero]
theorem lexAt_blank (xs:List Int)(i:Nat)(h:i<xs.length)(hb:isBlank (xs.getD i 0)=true):lexAt xs i=lexAt xs (i+1):=by
 rw [lexAt_bl xs i (by omega),lexAt_bl xs (i+1) (by omega),bl_blank xs i h hb]
theorem lexAt_rem (xs:List Int)(i:Nat)(h:i<xs.length)(hb:xs.getD i 0=35):lexAt xs i=lexAt xs (i+run nl (xs.drop i)):=by
 have:=run_le nl (xs.drop i)
 simp only [List.length_drop] at this
 rw [lexAt_bl xs i (by omega),lexAt_bl xs (i+run nl (xs.drop i)) (by omega),bl_rem xs i h hb]
end
end Go.Proofs.YthdioipfdbbmmaaGreatDoor
