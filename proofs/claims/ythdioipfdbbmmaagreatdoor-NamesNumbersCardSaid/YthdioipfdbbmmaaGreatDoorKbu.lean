/- Contracts. -/
import Derived.Test.YthdioipfdbbmmaaGreatDoorKbz
set_option linter.all false
set_option maxRecDepth 1000000
set_option maxHeartbeats 16000000
namespace Go.Proofs.YthdioipfdbbmmaaGreatDoor
namespace Nm
open Go.RowKit Go.Maps Tr Par
theorem parse_small {xs:List Int}{ns:List Nd}(hp:parseS xs=.ok ns)(hl:xs.length≤60000):rightP ns=true∧SmallT ns:=by
 obtain ⟨h1,h2⟩:=parse_right hp hl
 obtain ⟨h3,h4⟩:=parse_few hp hl
 exact ⟨h1,h3,fun nd hm=>⟨h4 nd hm,h2 nd hm⟩⟩
theorem namesNumbers (w:World)(p:Option Addr)(len c:Nat)(xs:List Int)(hs:Src w p len c xs)(hg:ET w) :
 Calls Tryz.prog 12 #[.slice p len c] w fun e w'=>e=.returned (.bool true)∧Below w.heap.size w w':=by
 by_cases hl:1500<len
 · exact nn_big w p len c hg hl
 · have hxl:xs.length≤60000:=by rw [hs.1];omega
   cases hp:parseS xs with
   | error er=>exact nn_err w p len c xs hs hg (by omega) er hp
   | ok ns =>
    obtain ⟨hr,hS⟩:=parse_small hp hxl
    cases hw:whole ns with
    | error x=>exact nn_no w p len c xs hs hg (by omega) ns hp hr hS x hw
    | ok a=>exact nn_main w p len c xs hs hg (by omega) ns hp hr hS a hw
end Nm
end Go.Proofs.YthdioipfdbbmmaaGreatDoor
