import Derived.Test.YtfjajpnfjjdnpaaGreatDoorULkPp
import Derived.ArgAppend

set_option linter.unusedVariables false
set_option linter.unusedSimpArgs false
set_option maxRecDepth 100000
set_option maxHeartbeats 6400000
namespace Go.Proofs.YtfjajpnfjjdnpaaGreatDoor
open Go.RowKit Num Nds
structure Bw where
 s:Bool
 a:Option Addr
 c:Nat
 xs:List Nat
abbrev Bw.val (u:Bw):Value:=.agg #[.bool u.s,.slice u.a u.xs.length u.c]
abbrev Bw.obj (u:Bw):Obj:=.cells #[.bool u.s,.slice u.a u.xs.length u.c] 48
structure Bw.R (u:Bw)(W:World)(X:Int):Prop where
 us:Us W u.a u.c u.xs
 cn:zaD u.s u.xs
 v:ival u.s u.xs=X
theorem Bw.R.next {u:Bw}{W W1:World}{X:Int}(h:u.R W X)(k:Below W.heap.size W W1):u.R W1 X:=⟨h.us.below k,h.cn,h.v⟩
structure Bw.B (u:Bw)(W:World)(g:Nat)(X:Int):Prop where
 box:W.heap[g]?=some u.obj
 r:u.R W X
theorem zoT {n:Int}{w w':World}{e:Ending}(h:RetI n w e w'):∃u:Bw,e=.returned u.val∧u.R w' n∧Below w.heap.size w w':=by
 obtain⟨A,c,s,r,he,hu,hk,hv,hb⟩:=h;exact⟨⟨s,A,c,r⟩,he,⟨hu,hk,hv⟩,hb⟩
def bw0:Bw:=⟨false,none,0,[]⟩
theorem zpK {u:Bw}{W:World}{X:Int}(h:u.R W X)(h0 : -p2 1330≤X)(h1:X≤p2 1330):u.xs.length≤50:=zbh h.cn h.v h0 h1
structure QQ (w:World)(gx gy g7 g8 gh:Nat)(u v h:Bw)(X Y H:Int)(W:World):Prop where
 b:Below w.heap.size w W
 x:u.B W gx X
 y:v.B W gy Y
 h:h.B W gh H
 r7:W.heap[g7]?=some bw0.obj
 r8:W.heap[g8]?=some bw0.obj
end Go.Proofs.YtfjajpnfjjdnpaaGreatDoor
