/- Contracts. -/
import Derived.Test.YthdioipfdbbmmaaGreatDoorKbm
import Derived.Lib.ConvBytes
set_option linter.all false
set_option maxRecDepth 1000000
set_option maxHeartbeats 16000000
namespace Go.Proofs.YthdioipfdbbmmaaGreatDoor
section
open Go.RowKit
theorem bw_below (w:World)(s:ByteArray):Below w.heap.size w (Lib.bytesWorld w 5 s) where
 os:=rfl
 tape:=rfl
 output:=rfl
 size:=by rw [Lib.bytesWorld_size];omega
 block:=fun k hk=>Lib.bytesWorld_at_old w 5 s k hk
theorem bw_src (w:World)(s:ByteArray):Src (Lib.bytesWorld w 5 s) (some ⟨w.heap.size,0,none⟩) s.size (grownCap w s.size 0 5) (Tr.bytesI s):=by
 refine ⟨Tr.bytesI_length s,fun i=>?_,Or.inr ⟨w.heap.size,0,rfl,grownCap_ge w s.size 0 5,by rw [Lib.bytesWorld_size];omega,fun i hi=>?_⟩⟩
 · by_cases hi:i<s.data.toList.length
   · have h1:(Tr.bytesI s).getD i 0=((s.data.toList[i]).toNat:Int):=by simp [Tr.bytesI,List.getD];simp at hi;simp [hi]
     rw [h1]
     have:=(s.data.toList[i]).toNat_lt
     omega
   · have h1:(Tr.bytesI s).getD i 0=0:=by simp only [Tr.bytesI,List.getD];rw [List.getElem?_eq_none (by simpa using hi)];rfl
     rw [h1]
     omega
 · rw [Nat.zero_add,Lib.bytesWorld_cell w 5 s i hi]
   have hi':i<s.data.toList.length:=by simpa using hi
   congr 2
   simp [Tr.bytesI,List.getD]
   simp at hi'
   simp [hi']
end
end Go.Proofs.YthdioipfdbbmmaaGreatDoor
