import Derived.Test.YtcippfaljoagaaaGreatDoorGGdC

set_option linter.unusedVariables false
set_option linter.unusedSimpArgs false
set_option maxRecDepth 100000
set_option maxHeartbeats 6400000
namespace Go.Proofs.YtcippfaljoagaaaGreatDoor
open Go.RowKit Num Nds
theorem ztC (a b:List UInt8):((⟨a.toArray⟩:ByteArray).toList==(⟨b.toArray⟩:ByteArray).toList)=decide (a=b):=by
 rw[ByteArray.toList_eq,ByteArray.toList_eq];by_cases h:a=b
 ·subst h;rw[decide_eq_true rfl];exact beq_self_eq_true _
 ·rw[decide_eq_false h];exact beq_eq_false_iff_ne.2 (by simpa using h)
theorem ztD {W:World}{g:Nat}{L:List (List UInt8)}(hb:W.heap[g]?=some (.cells (L.map strV).toArray 9))(hl:∀r∈L,r.length≤maxLen)(hn:L.length≤maxLen):Ts W (some ⟨g,0,none⟩) L.length L :=
 ⟨hl,by simp,hn,fun _=>⟨g,0,rfl,zak hb,fun j u hu=>by
  rw[cell_of_row _ _ _ _ _ _ hb,Nat.zero_add];simpa using hu⟩⟩
theorem BxV.hi {q:List Nd}(hg:zav q){ok:Bool}{X Y V H:Int}(b:BxV q q.length ok X Y V H):(-p2 1330≤X∧X≤p2 1330)∧(-p2 1330≤Y∧Y≤p2 1330):=by
 have m1:=zay 1330;rcases b with⟨-,-,h1,h2,h3,h4⟩|⟨h0,-,h1⟩
 ·omega
 ·have hlv:=zaq (zae hg.1 (i:=q.length-1) (by omega));obtain⟨m,hm⟩:∃m:Nat,(at_ q (q.length-1)).lv=(m:Int)+1:=⟨(at_ q (q.length-1)).lv.toNat-1,by omega⟩;have hw:=zcn hg.1 (q.length-1) (by omega);rw[Nat.sub_add_cancel (by omega),hm] at hw;have e1:(at_ q (q.length-1)).lv.toNat=m+1:=by omega
  rw[e1] at h1;have hw2:∀t,(fun u=>u=den q q.length) t→wfT ((m+1:Nat):Int) t:=fun t ht=>by have ht':t=den q q.length:=ht;rw[ht'];exact hw
  have a1:=h1.west.in_ hw2;have a3:=h1.north.in_ hw2;have m2:=zbD (show m+1≤1330 by omega);rw[Nat.add_sub_cancel] at a1 a3;have m3:=zat m;have m4:=zay m;omega
theorem GoI.hi {q:List Nd}{n:Nat}{most er X Y:Int}{R:List (List UInt8)}(hg:zav q)(hn:q.length=n)(g:GoI q n most er X Y R):(-p2 1330≤X∧X≤p2 1330)∧(-p2 1330≤Y∧Y≤p2 1330):=by
 subst hn;have m1:=zay 1330;rcases g with⟨-,-,h1,h2,-⟩|⟨-,ok,X',Y',V,H,b,h1⟩
 ·omega
 ·have:=b.hi hg;rcases h1 with⟨-,-,h1,h2,-⟩|⟨-,-,h1,h2,-⟩ <;> omega
end Go.Proofs.YtcippfaljoagaaaGreatDoor
