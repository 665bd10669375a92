import Derived.Test.YtfjajpnfjjdnpaaGreatDoorWLkGw

set_option linter.unusedVariables false
set_option linter.unusedSimpArgs false
set_option maxRecDepth 100000
set_option maxHeartbeats 6400000
namespace Go.Proofs.YtfjajpnfjjdnpaaGreatDoor
open Go.RowKit Nds
theorem zbk.cells {w:World}{g:Nat}{x:Nd}(h:zbk w g x):w.cell? ⟨g,0,none⟩=some (.int .i64 x.lv)∧w.cell? ⟨g,1,none⟩=some (.int .i64 x.a)∧w.cell? ⟨g,2,none⟩=some (.int .i64 x.b)∧w.cell? ⟨g,3,none⟩=some (.int .i64 x.c)∧w.cell? ⟨g,4,none⟩=some (.int .i64 x.d):=h.at_
end Go.Proofs.YtfjajpnfjjdnpaaGreatDoor

namespace Go.Proofs.YtfjajpnfjjdnpaaGreatDoor
open Go.RowKit Num Nds
structure Bw where
 s:Bool
 a:Option Addr
 c:Nat
 xs:List Nat
abbrev Bw.val (u:Bw):Value:=.agg #[.bool u.s,.slice u.a u.xs.length u.c]
abbrev Bw.obj (u:Bw):Obj:=.cells #[.bool u.s,.slice u.a u.xs.length u.c] 48
structure Bw.R (u:Bw)(W:World)(X:Int):Prop where
 us:Us W u.a u.c u.xs
 cn:zaE u.s u.xs
 v:ival u.s u.xs=X
theorem Bw.R.next {u:Bw}{W W1:World}{X:Int}(h:u.R W X)(k:Below W.heap.size W W1):u.R W1 X:=⟨h.us.below k,h.cn,h.v⟩
structure Bw.B (u:Bw)(W:World)(g:Nat)(X:Int):Prop where
 box:W.heap[g]?=some u.obj
 r:u.R W X
theorem Bw.B.lt {u:Bw}{W:World}{g:Nat}{X:Int}(h:u.B W g X):g<W.heap.size:=(Array.getElem?_eq_some_iff.1 h.box).1
theorem Bw.B.c0 {u:Bw}{W:World}{g:Nat}{X:Int}(h:u.B W g X):W.cell? ⟨g,0,none⟩=some (.bool u.s):=by rw[cell_of_row W g _ _ _ (0,0) h.box];rfl
theorem Bw.B.c1 {u:Bw}{W:World}{g:Nat}{X:Int}(h:u.B W g X):W.cell? ⟨g,1,none⟩=some (.slice u.a u.xs.length u.c):=by rw[cell_of_row W g _ _ _ (0,0) h.box];rfl
theorem Bw.B.next {u:Bw}{W W1:World}{g:Nat}{X:Int}(h:u.B W g X)(k:Below W.heap.size W W1):u.B W1 g X:=⟨(k.block g h.lt).trans h.box,h.r.next k⟩
theorem Bw.R.box {u:Bw}{w:World}{X:Int}(h:u.R w X):u.B (w.alloc u.obj) w.heap.size X:=⟨heap_alloc_new w _,h.next ((Below.refl _ w).alloc (Nat.le_refl _) _)⟩
theorem Bw.R.stored {u:Bw}{W:World}{X:Int}(h:u.R W X){g:Nat}{o:Bw}(hb:W.heap[g]?=some o.obj)(n:Bw):u.R ((W.setCell ⟨g,0,none⟩ (.bool n.s)).setCell ⟨g,1,none⟩ (.slice n.a n.xs.length n.c)) X :=
 ⟨zcF h.us (fun k _ hk=>(Below.heap_setCell _ _ _ _ hk).trans (Below.heap_setCell _ _ _ _ hk)) (by simp[World.setCell]) (zdS h.us (zgF hb)),h.cn,h.v⟩
theorem Bw.R.set {u:Bw}{W:World}{X:Int}(h:u.R W X){g:Nat}{o:Bw}(hb:W.heap[g]?=some o.obj):u.B ((W.setCell ⟨g,0,none⟩ (.bool u.s)).setCell ⟨g,1,none⟩ (.slice u.a u.xs.length u.c)) g X :=
 ⟨heap_setCell_same _ g 1 _ _ _ (heap_setCell_same W g 0 _ _ _ hb),h.stored hb u⟩
theorem zam {n:Int}{w w':World}{e:Ending}(h:RetI n w e w'):∃u:Bw,e=.returned u.val∧u.R w' n∧Below w.heap.size w w':=by
 obtain⟨A,c,s,r,he,hu,hk,hv,hb⟩:=h;exact⟨⟨s,A,c,r⟩,he,⟨hu,hk,hv⟩,hb⟩
def bw0:Bw:=⟨false,none,0,[]⟩
theorem zaY {u:Bw}{W:World}{X:Int}(h:u.R W X)(h0 : -p2 1330≤X)(h1:X≤p2 1330):u.xs.length≤50:=zbn h.cn h.v h0 h1
end Go.Proofs.YtfjajpnfjjdnpaaGreatDoor
