import Derived.Test.YtfjajpnfjjdnpaaGreatDoorUClPj
import Derived.Test.YtfjajpnfjjdnpaaGreatDoorUBxP

set_option linter.unusedVariables false
set_option linter.unusedSimpArgs false
set_option maxRecDepth 100000
set_option maxHeartbeats 6400000
namespace Go.Proofs.YtfjajpnfjjdnpaaGreatDoor
open Go.RowKit Num Nds
def strV (r:List UInt8):Value:=.string ⟨r.toArray⟩
def Ts (w:World)(A:Option Addr)(c:Nat)(L:List (List UInt8)):Prop:=(∀r∈L,r.length≤maxLen)∧Rd w A c (L.map strV)
theorem Ts.below {w w':World}{A:Option Addr}{c:Nat}{L:List (List UInt8)}(h:Ts w A c L)(hb:Below w.heap.size w w'):Ts w' A c L:=⟨h.1,h.2.below hb⟩
theorem zck (r:List UInt8):(⟨r.toArray⟩:ByteArray).size=r.length:=by simp[ByteArray.size]
end Go.Proofs.YtfjajpnfjjdnpaaGreatDoor
