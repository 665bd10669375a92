import Derived.Test.YtfjajpnfjjdnpaaGreatDoorWClVi
import Derived.Test.YtfjajpnfjjdnpaaGreatDoorLaidR

set_option linter.unusedVariables false
set_option linter.unusedSimpArgs false
set_option maxRecDepth 100000
set_option maxHeartbeats 6400000
namespace Go.Proofs.YtfjajpnfjjdnpaaGreatDoor
open Go.RowKit Num Nds Txt
theorem BxV.hi8 {q:List Nd}(hg:zaq q){ok:Bool}{X Y V H:Int}(b:BxV q q.length ok X Y V H):(-p2 1328≤X∧X+V≤p2 1328)∧(-p2 1328≤Y∧Y+H≤p2 1328):=by
 have m1:=zar 1328;rcases b with⟨-,-,h1,h2,h3,h4⟩|⟨h0,-,h1⟩
 ·omega
 ·have hlv:=zap (zad hg.1 (i:=q.length-1) (by omega));obtain⟨m,hm⟩:∃m:Nat,(at_ q (q.length-1)).lv=(m:Int)+1:=⟨(at_ q (q.length-1)).lv.toNat-1,by omega⟩;have hw:=zbv hg.1 (q.length-1) (by omega);rw[Nat.sub_add_cancel (by omega),hm] at hw;have e1:(at_ q (q.length-1)).lv.toNat=m+1:=by omega
  rw[e1] at h1;have hw2:∀t,(fun u=>u=den q q.length) t→wfT ((m+1:Nat):Int) t:=fun t ht=>by have ht':t=den q q.length:=ht;rw[ht'];exact hw
  have a1:=h1.west.in_ hw2;have a2:=h1.east.in_ hw2;have a3:=h1.north.in_ hw2;have a4:=h1.south.in_ hw2;have m2:=zaM (show m≤1328 by omega);rw[Nat.add_sub_cancel] at a1 a2 a3 a4;have m3:=zau m;have m4:=zar m;omega
theorem zha {q:List Nd}{n:Nat}{box X Y:Int}{L:List (List UInt8)}(hg:zaq q)(hn:q.length=n)(g:GoI q n box 0 X Y L) :
  picL (picS L) X Y (zcp L) L.length=zcy q∧(∀r∈L,r.length=zcp L)∧(-p2 1328≤X∧X+zcp L≤p2 1328)∧(-p2 1328≤Y∧Y+L.length≤p2 1328)∧(0<L.length→0<zcp L):=by
 subst hn;rcases g with⟨-,h0,-⟩|⟨-,ok,X',Y',V,H,b,h1⟩
 ·omega
 ·obtain⟨hb,h2,h3⟩:=b.boxp hg;have h4:=b.hi8 hg;rcases h1 with⟨-,h0,-⟩|⟨-,-,rfl,rfl,rfl⟩
  ·omega
  ·rw[znS _ hb.flat,zdp];refine⟨?_,fun r hr=>?_,⟨h4.1.1,by omega⟩,⟨h4.2.1,by omega⟩,fun h5=>?_⟩
   ·rw[znP fun r c=>zjb hg.1 X Y r c];rcases hb with⟨rfl,rfl,rfl,e1,e2⟩|⟨-,-,k,a,hk⟩
    ·rw[e1,e2];rfl
    ·exact a.list hk (zjM q) (fun c hc=>((zbC _).2.2 c hc).1) fun x y=>(ziO hg.1 x y).symm
   ·unfold zcP at hr;obtain⟨k,-,rfl⟩:=List.mem_map.1 hr;exact zcA _ _ _
   ·rcases hb with⟨-,-,-,-,e2⟩|⟨h6,-⟩
    ·omega
    ·exact h6
end Go.Proofs.YtfjajpnfjjdnpaaGreatDoor
