import Derived.Test.YtfjajpnfjjdnpaaGreatDoorUBxP

set_option linter.unusedVariables false
set_option linter.unusedSimpArgs false
set_option maxRecDepth 100000
set_option maxHeartbeats 6400000
namespace Go.Proofs.YtfjajpnfjjdnpaaGreatDoor
open Go.RowKit Num Nds
structure Xb where
 x:Bw
 y:Bw
 w:Bw
 h:Bw
abbrev Xb.val (u:Xb):Value:=.agg #[.bool u.x.s,.slice u.x.a u.x.xs.length u.x.c,.bool u.y.s,.slice u.y.a u.y.xs.length u.y.c,.bool u.w.s,.slice u.w.a u.w.xs.length u.w.c,.bool u.h.s,.slice u.h.a u.h.xs.length u.h.c]
structure Xb.R (u:Xb)(W:World)(X Y V H:Int):Prop where
 x:u.x.R W X
 y:u.y.R W Y
 w:u.w.R W V
 h:u.h.R W H
end Go.Proofs.YtfjajpnfjjdnpaaGreatDoor
