import Derived.Test.YtfjajpnfjjdnpaaGreatDoorVGdC

set_option linter.unusedVariables false
set_option linter.unusedSimpArgs false
set_option maxRecDepth 100000
set_option maxHeartbeats 6400000
namespace Go.Proofs.YtfjajpnfjjdnpaaGreatDoor
open Go.RowKit Num Nds
theorem zln (M:Int→Int→Int)(X Y:Int)(wide:Nat):∀high,(picL M X Y wide high).length≤wide*high
 | 0=>by rw[zoD];exact Nat.zero_le _
 | high+1=>by
  have ih:=zln M X Y wide high;have h1:=zhU M X Y high wide;rw[zgi,List.length_append,Nat.mul_succ];omega
theorem zud {r:List UInt8}{s:ByteArray}(h:s=⟨r.toArray⟩){i:Nat}(hi:i<s.size)(h2:i<r.length):s[i]'hi=r[i]'h2:=by
 subst h;rfl
theorem zoT {L:List (List UInt8)}{k i:Nat}(hk:k<L.length)(hi:i<(tat L k).length):picS L k i=(((tat L k)[i]).toNat:Int):=by
 refine zsR (r:=tat L k) ?_ (List.getElem?_eq_getElem hi);unfold tat;rw[List.getElem?_eq_getElem hk];rfl
theorem zlo {L:List (List UInt8)}(h:zcX L=true){k:Nat}(hk:k<L.length):(tat L k).length=zbV L:=by
 unfold zcX at h;rw[Bool.and_eq_true] at h;have h2:=List.all_eq_true.1 h.2 (L[k]) (List.getElem_mem hk);unfold tat;rw[List.getElem?_eq_getElem hk];exact of_decide_eq_true h2
theorem zdo {u:Gr}(hr:zcY u=true):zcX u.L=true:=by
 unfold zcY at hr;rw[Bool.and_eq_true,Bool.and_eq_true] at hr;exact hr.2.2
theorem zoU {L:List (List UInt8)}(hr:zcX L=true):zbV L≤1000∧L.length≤1000:=by
 unfold zcX at hr;rw[Bool.and_eq_true,Bool.and_eq_true,decide_eq_true_iff,decide_eq_true_iff] at hr;exact hr.1
theorem zue {W:World}{g:Nat}{L:List (List UInt8)}(hb:W.heap[g]?=some (.cells (L.map strV).toArray 9))(hl:∀r∈L,r.length≤maxLen)(hn:L.length≤maxLen):Ts W (some ⟨g,0,none⟩) L.length L :=
 ⟨hl,by simp,hn,fun _=>⟨g,0,rfl,zag hb,fun j u hu=>by
  rw[cell_of_row _ _ _ _ _ _ hb,Nat.zero_add];simpa using hu⟩⟩
theorem BxV.hi {q:List Nd}(hg:zaw q){ok:Bool}{X Y V H:Int}(b:BxV q q.length ok X Y V H):(-p2 1330≤X∧X≤p2 1330)∧(-p2 1330≤Y∧Y≤p2 1330):=by
 have m1:=zay 1330;rcases b with⟨-,-,h1,h2,h3,h4⟩|⟨h0,-,h1⟩
 ·omega
 ·have hlv:=zaq (zaf hg.1 (i:=q.length-1) (by omega));obtain⟨m,hm⟩:∃m:Nat,(at_ q (q.length-1)).lv=(m:Int)+1:=⟨(at_ q (q.length-1)).lv.toNat-1,by omega⟩;have hw:=zcn hg.1 (q.length-1) (by omega);rw[Nat.sub_add_cancel (by omega),hm] at hw;have e1:(at_ q (q.length-1)).lv.toNat=m+1:=by omega
  rw[e1] at h1;have hw2:∀t,(fun u=>u=den q q.length) t→wfT ((m+1:Nat):Int) t:=fun t ht=>by have ht':t=den q q.length:=ht;rw[ht'];exact hw
  have a1:=h1.west.in_ hw2;have a3:=h1.north.in_ hw2;have m2:=zbE (show m+1≤1330 by omega);rw[Nat.add_sub_cancel] at a1 a3;have m3:=zau m;have m4:=zay m;omega
theorem GoI.hi {q:List Nd}{n:Nat}{most er X Y:Int}{R:List (List UInt8)}(hg:zaw q)(hn:q.length=n)(g:GoI q n most er X Y R):(-p2 1330≤X∧X≤p2 1330)∧(-p2 1330≤Y∧Y≤p2 1330):=by
 subst hn;have m1:=zay 1330;rcases g with⟨-,-,h1,h2,-⟩|⟨-,ok,X',Y',V,H,b,h1⟩
 ·omega
 ·have:=b.hi hg;rcases h1 with⟨-,-,h1,h2,-⟩|⟨-,-,h1,h2,-⟩ <;> omega
end Go.Proofs.YtfjajpnfjjdnpaaGreatDoor
