/- Contracts. -/
import Derived.Test.YthdioipfdbbmmaaGreatDoorKac
set_option linter.all false
set_option maxRecDepth 1000000
set_option maxHeartbeats 16000000
namespace Go.Proofs.YthdioipfdbbmmaaGreatDoor
namespace Tr
theorem rowsOf_getD (t:List Nd)(i:Nat):(rowsOf t).getD i []=kidsAt t i:=by
 unfold rowsOf kidsAt
 by_cases h:i<t.length
 · simp [List.getD,h]
 · simp [List.getD,List.getElem?_eq_none (Nat.le_of_not_lt h)]
   rfl
theorem rowsOf_fun (t:List Nd):(fun i=>(rowsOf t).getD i [])=kidsAt t:=funext (rowsOf_getD t)
theorem rowsOf_length (t:List Nd):(rowsOf t).length=t.length:=by simp [rowsOf]
structure SizesOk (t:List Nd)(s:List Nat):Prop where
 right:RightSz (kidsAt t) (fun i=>s.getD i 0) t.length
 len:s.length=t.length
 pos:0<t.length
 whole:s.getD 0 0=t.length
theorem sizesP_some {t:List Nd}{s:List Nat}(h:sizesP t=some s):SizesOk t s:=by
 unfold sizesP at h
 split at h
 · simp at h
 · rename_i s1 h1
   split at h
   · rename_i h2
     simp only [Option.some.injEq] at h
     subst h
     have hl:=sizesL_len _ _ _ h1
     rw [rowsOf_length] at hl
     have hr:=sizesL_right h1
     rw [rowsOf_fun,rowsOf_length] at hr
     exact ⟨hr,hl,by omega,by omega⟩
   · simp at h
theorem sizes_right (t:List Nd)(hn:0<t.length):endK (kidsAt t) t.length t.length 0=(t.length:Int)↔∃s,sizesP t=some s:=by
 have h:=sizes_iff (rowsOf t) (by rw [rowsOf_length];exact hn)
 rw [rowsOf_fun,rowsOf_length] at h
 rw [h]
 unfold sizesP
 constructor
 · rintro ⟨s,h1,h2⟩
   have hl:=sizesL_len _ _ _ h1
   rw [rowsOf_length] at hl
   refine ⟨s,?_⟩
   rw [h1]
   simp only
   rw [if_pos ⟨by omega,by omega⟩]
 · rintro ⟨s,h1⟩
   split at h1
   · simp at h1
   · rename_i s1 h2
     split at h1
     · rename_i h3
       have hl:=sizesL_len _ _ _ h2
       rw [rowsOf_length] at hl
       simp only [Option.some.injEq] at h1
       subst h1
       exact ⟨s1,h2,by omega⟩
     · simp at h1
theorem right_eq (t:List Nd)(hl:∀nd∈t,nd.kids.length≤9223372036854775807):rightP t=rightR t:=by
 have hall:ruledP t=t.all (nodeR t):=by
  unfold ruledP
  rw [Bool.eq_iff_iff,List.all_eq_true,List.all_eq_true]
  constructor
  · intro h nd hm;rw [← nodeOk_eq t nd (hl nd hm)];exact h nd hm
  · intro h nd hm;rw [nodeOk_eq t nd (hl nd hm)];exact h nd hm
 unfold rightP rightR
 by_cases hn:0<t.length
 · cases hs:sizesP t with
   | none =>
    have:¬ endK (kidsAt t) t.length t.length 0=(t.length:Int):=by
     intro h
     obtain ⟨s,hs2⟩:=(sizes_right t hn).1 h
     rw [hs] at hs2;simp at hs2
    simp [this]
   | some s =>
    have h1:=sizesP_some hs
    have h2:=(sizes_right t hn).2 ⟨s,hs⟩
    have h3:aheadR t=true:=by
     unfold aheadR
     rw [List.all_eq_true]
     intro i hi
     rw [List.all_eq_true]
     intro k hk
     obtain ⟨j,e1,e2,e3,e4⟩:=h1.right.kid (List.mem_range.1 hi) hk
     simp;omega
    simp [hn,h2,h3,hall]
 · have ht:t=[]:=List.eq_nil_of_length_eq_zero (by omega)
   subst ht
   simp [sizesP,rowsOf,sizesL]
theorem chain_sum {S:Nat→Nat}{n:Nat}(ks:List Int)(a e:Nat)(h:Chain S n ks a e):a+(ks.map fun k=>S k.toNat).sum=e:=by
 induction ks generalizing a with
 | nil=>obtain rfl:a=e:=h;simp
 | cons k ks ih =>
  obtain ⟨p1,p2,p3⟩:=h
  have:=ih _ p3
  simp only [List.map_cons,List.sum_cons,p1,Int.toNat_natCast]
  omega
theorem RightSz.sum {K:Nat→List Int}{S:Nat→Nat}{n:Nat}(h:RightSz K S n){i:Nat}(hi:i<n):1+((K i).map fun k=>S k.toNat).sum=S i:=by
 have:=chain_sum _ _ _ (h.chain i hi)
 omega
end Tr
end Go.Proofs.YthdioipfdbbmmaaGreatDoor
