/- Contracts. -/
import Derived.Test.YthdioipfdbbmmaaGreatDoorKab
set_option linter.all false
set_option maxRecDepth 1000000
set_option maxHeartbeats 16000000
namespace Go.Proofs.YthdioipfdbbmmaaGreatDoor
section
def nl (c:Int):Bool:=c != 10
theorem blk_rem (r:List Int):blk true r=run nl r+blk false (r.drop (run nl r)):=by
 induction r with
 | nil=>simp [blk,run]
 | cons c r ih =>
  by_cases h:c=10
  · subst h
    simp [blk,run,nl,isBlank]
  · have hn:nl c=true:=by simp [nl,h]
    simp only [blk,run,hn,if_true,if_neg h,List.drop_succ_cons,ih]
    omega
theorem blk_done (b:Bool)(l:List Int):blk false (l.drop (blk b l))=0:=by
 induction l generalizing b with
 | nil=>cases b<;>simp [blk]
 | cons c r ih =>
  cases b
  · simp only [blk]
    split
    · rw [Nat.add_comm 1,List.drop_succ_cons];exact ih false
    · split
      · rw [Nat.add_comm 1,List.drop_succ_cons];exact ih true
      · rename_i h1 h2
        simp [blk,h1,h2]
  · simp only [blk]
    split
    · rw [Nat.add_comm 1,List.drop_succ_cons];exact ih false
    · rw [Nat.add_comm 1,List.drop_succ_cons];exact ih true
theorem lexN_skip (f p:Nat)(l:List Int):lexN (f+1) p l=lexN (f+1) (p+blk false l) (l.drop (blk false l)):=by
 conv=>rhs;rw [lexN]
 rw [blk_done,List.drop_zero,lexN]
 rfl
def lexAt (xs:List Int)(i:Nat):Except (Nat × Int) (List Tok):=lexN (xs.length-i+1) i (xs.drop i)
def bl (xs:List Int)(i:Nat):Nat:=i+blk false (xs.drop i)
theorem lexS_at (xs:List Int):lexS xs=lexAt xs 0:=by simp [lexS,lexAt]
theorem bl_le (xs:List Int)(i:Nat)(h:i≤xs.length):i≤bl xs i∧bl xs i≤xs.length:=by
 have:=blk_le false (xs.drop i)
 simp only [List.length_drop] at this
 unfold bl
 omega
theorem lexAt_bl (xs:List Int)(i:Nat)(h:i≤xs.length):lexAt xs i=lexAt xs (bl xs i):=by
 have hb:=bl_le xs i h
 unfold lexAt
 rw [lexN_skip]
 unfold bl at *
 rw [List.drop_drop]
 exact lexN_fuel _ _ _ _ (by simp only [List.length_drop];omega) (by simp only [List.length_drop];omega)
theorem drop_at (xs:List Int)(i:Nat)(h:i<xs.length):xs.drop i=xs.getD i 0::xs.drop (i+1):=by
 rw [List.drop_eq_getElem_cons h]
 simp [List.getD,h]
theorem bl_end (xs:List Int)(i:Nat)(h:xs.length≤i):bl xs i=i:=by
 simp [bl,List.drop_eq_nil_of_le h,blk]
theorem bl_blank (xs:List Int)(i:Nat)(h:i<xs.length)(hb:isBlank (xs.getD i 0)=true):bl xs i=bl xs (i+1):=by
 unfold bl
 rw [drop_at xs i h]
 simp only [blk,hb,if_true]
 omega
theorem bl_rem (xs:List Int)(i:Nat)(h:i<xs.length)(hb:xs.getD i 0=35):bl xs i=bl xs (i+run nl (xs.drop i)):=by
 unfold bl
 have h1:run nl (xs.drop i)=run nl (xs.drop (i+1))+1:=by
  rw [drop_at xs i h,hb];simp [run,nl]
 have h2:blk false (xs.drop i)=1+blk true (xs.drop (i+1)):=by
  rw [drop_at xs i h,hb];simp [blk,isBlank]
 rw [h1,h2,blk_rem,List.drop_drop]
 rw [show i+1+run nl (xs.drop (i+1))=i+(run nl (xs.drop (i+1))+1) by omega]
 omega
theorem bl_stay (xs:List Int)(i:Nat)(h:i<xs.length)(hb:isBlank (xs.getD i 0)=false)(hr:xs.getD i 0≠35):bl xs i=i:=by
 unfold bl
 rw [drop_at xs i h]
 simp only [blk,hb,Bool.false_eq_true,if_false,if_neg hr]
 omega
theorem lexAt_end (xs:List Int)(i:Nat)(h:i=xs.length):lexAt xs i=.ok [Tok.endAt i]:=by
 subst h
 simp [lexAt,lexN,blk]
theorem lexAt_err (xs:List Int)(i:Nat)(e:Int)(h:i<xs.length)(hb:bl xs i=i)(hs:step (xs.drop i)=.err e):lexAt xs i=.error (i,e):=by
 have h0:blk false (xs.drop i)=0:=by unfold bl at hb;omega
 unfold lexAt
 rw [lexN,h0,List.drop_zero]
 rw [drop_at xs i h] at hs ⊢
 simp only [hs,Nat.add_zero]
theorem lexAt_tok (xs:List Int)(i:Nat)(k:Int)(len:Nat)(n:Int)(h:i<xs.length)(hb:bl xs i=i)(hs:step (xs.drop i)=.tok k len n) :
 lexAt xs i=pre [⟨k,i,i+len,(xs.drop i).take len,n⟩] (lexAt xs (i+len)):=by
 have h0:blk false (xs.drop i)=0:=by unfold bl at hb;omega
 have hl:=step_len hs
 simp only [List.length_drop] at hl
 have e:lexAt xs (i+len)=lexN (xs.length-i) (i+len) (xs.drop (i+len)):=lexN_fuel _ _ _ _ (by simp only [List.length_drop];omega) (by simp only [List.length_drop];omega)
 rw [e]
 unfold lexAt
 rw [lexN,h0,List.drop_zero]
 rw [← List.drop_drop]
 rw [drop_at xs i h] at hs ⊢
 simp only [hs,Nat.add_zero]
end
end Go.Proofs.YthdioipfdbbmmaaGreatDoor
