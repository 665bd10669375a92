import Derived.Test.YtfjajpnfjjdnpaaGreatDoorTNcLn

set_option linter.unusedVariables false
set_option linter.unusedSimpArgs false
set_option maxRecDepth 100000
set_option maxHeartbeats 6400000
namespace Go.Proofs.YtfjajpnfjjdnpaaGreatDoor
open Go.RowKit Num Nds
structure Bw where
 s:Bool
 a:Option Addr
 c:Nat
 xs:List Nat
abbrev Bw.val (u:Bw):Value:=.agg #[.bool u.s,.slice u.a u.xs.length u.c]
abbrev Bw.obj (u:Bw):Obj:=.cells #[.bool u.s,.slice u.a u.xs.length u.c] 48
structure Bw.R (u:Bw)(W:World)(X:Int):Prop where
 us:Us W u.a u.c u.xs
 cn:zaC u.s u.xs
 v:ival u.s u.xs=X
structure Bw.B (u:Bw)(W:World)(g:Nat)(X:Int):Prop where
 box:W.heap[g]?=some u.obj
 r:u.R W X
theorem zoX {n:Int}{w w':World}{e:Ending}(h:RetI n w e w'):∃u:Bw,e=.returned u.val∧u.R w' n∧Below w.heap.size w w':=by
 obtain⟨A,c,s,r,he,hu,hk,hv,hb⟩:=h;exact⟨⟨s,A,c,r⟩,he,⟨hu,hk,hv⟩,hb⟩
theorem zpQ {u:Bw}{W:World}{X:Int}(h:u.R W X)(h0 : -p2 1330≤X)(h1:X≤p2 1330):u.xs.length≤50:=zbj h.cn h.v h0 h1
end Go.Proofs.YtfjajpnfjjdnpaaGreatDoor
