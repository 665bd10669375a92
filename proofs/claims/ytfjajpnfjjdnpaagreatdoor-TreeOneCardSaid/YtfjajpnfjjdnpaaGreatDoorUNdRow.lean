import Derived.Test.YtfjajpnfjjdnpaaGreatDoorUNdMem
import Derived.ProofKit
import Derived.SizedLaws
import Derived.OpenShut
import Derived.ChangeMaps5
import Derived.Lib.SmallJoins
import Derived.Deep.Slices
import Derived.Deep.Fields

set_option linter.unusedVariables false
set_option linter.unusedSimpArgs false
set_option maxRecDepth 100000
set_option maxHeartbeats 6400000
namespace Go.Proofs.YtfjajpnfjjdnpaaGreatDoor
open Go.ChangeShapes Go.WideShapes Go.ChangeAt Go.RowKit Go.Deep Nds
theorem zmz:ownKnob Tryz.prog.godebug=none:=by kernel_rfl
theorem zew:laidOutB Tryz.prog=true:=by kernel_rfl
theorem zex:Tryz.prog.cellsOf 70=5:=by kernel_rfl
theorem zhN:Tryz.prog.cellsOf 68=4:=by kernel_rfl
theorem zey:Tryz.prog.cellsOf 3=1:=by kernel_rfl
theorem zkw {P:Nat→Nd→Prop}:∀n,(∀i,i<n→∃y,P i y)→∃l:List Nd,l.length=n∧∀i,i<n→P i (Nds.at_ l i)
 | 0,_=>⟨[],rfl,fun i hi=>by omega⟩
 | n+1,h=>by
  obtain⟨l,hl,hp⟩:=zkw n (fun i hi=>h i (by omega));obtain⟨y,hy⟩:=h n (by omega);refine⟨l++[y],by simp[hl],fun i hi=>?_⟩;rcases Nat.lt_or_ge i n with h1|h1
  ·have e:Nds.at_ (l++[y]) i=Nds.at_ l i:=by
    unfold Nds.at_;rw[List.getElem?_append_left (by omega)]
   rw[e];exact hp i h1
  ·have e:Nds.at_ (l++[y]) i=y:=by
    unfold Nds.at_;rw[List.getElem?_append_right (by omega),hl,show i-n=0 by omega]
    rfl
   rw[e,show i=n by omega];exact hy
section
variable {H:Type} {enc:TypeId × Value→H} {W:World} {base:Nat} {spare:Nat→Bool} {held:Bool}
theorem zdg {fuel:Nat}{cs:List Value}{x:Option (DataW H × List MemPlace)}{y:DataW H × List MemPlace}(h:DataW.trod enc Tryz.prog W base spare held fuel 3 cs=x)(hx:x=some y):∃n,cs=[.int .i64 n]∧in64 n:=by
 subst hx;obtain⟨n,e,_,hw⟩:=DataW.trod_int Tryz.underlying3 h;refine⟨n,e,?_⟩;have e1:IntKind.i64.min = -9223372036854775808:=rfl;have e2:IntKind.i64.max=9223372036854775807:=rfl;simp[Lit.wf,e1,e2] at hw;exact⟨by omega,by omega⟩
theorem zol {fuel:Nat}{cs:List Value}{x:DataW H × List MemPlace}(h:DataW.trod enc Tryz.prog W base spare held fuel 70 cs=some x) :
  ∃y:Nd,y.wf∧cs=[.int .i64 y.lv,.int .i64 y.a,.int .i64 y.b,.int .i64 y.c,.int .i64 y.d]:=by
 obtain⟨xs,n,_,_,hlen,hxl,hf⟩:=DataW.trod_struct Tryz.underlying70 h;rw[zex] at hlen;have h0:DataW.trod enc Tryz.prog W base spare held n 3 ((cs.drop 0).take (Tryz.prog.cellsOf 3))=xs[0]?:=hf 0 _ rfl;have h1:DataW.trod enc Tryz.prog W base spare held n 68 ((cs.drop 1).take (Tryz.prog.cellsOf 68))=xs[1]?:=hf 1 _ rfl;rw[zey] at h0;rw[zhN] at h1
 match cs,hlen with
 | [v0,v1,v2,v3,v4],_ =>
  match xs,hxl with
  | [y0,y1],_ =>
   obtain⟨n0,e0,w0⟩:=zdg h0 rfl;have h1':DataW.trod enc Tryz.prog W base spare held n 68 [v1,v2,v3,v4]=some y1:=h1;obtain⟨zs,m,_,_,_,hzl,hg⟩:=DataW.trod_array Tryz.underlying68 h1';simp only[zey] at hg
   match zs,hzl with
   | [z0,z1,z2,z3],_ =>
    obtain⟨n1,e1,w1⟩:=zdg (hg 0 (by omega)) rfl;obtain⟨n2,e2,w2⟩:=zdg (hg 1 (by omega)) rfl;obtain⟨n3,e3,w3⟩:=zdg (hg 2 (by omega)) rfl;obtain⟨n4,e4,w4⟩:=zdg (hg 3 (by omega)) rfl;simp at e0 e1 e2 e3 e4;exact⟨⟨n0,n1,n2,n3,n4⟩,⟨w0,w1,w2,w3,w4⟩,by rw[e0,e1,e2,e3,e4]⟩
end
theorem zkx {H:Type}{enc:TypeId × Value→H}{W:World}{base b0:Nat}{r:Reach}{v:Value}{d:DataW H}{p:List MemPlace}(hok:Value.okWide Tryz.prog W r b0 26 v)
  (h:DataW.Trod enc Tryz.prog W base (fun _=>true) true 26 v d p):∃A c l,v=.slice A l.length c∧Ns W A c l∧(A=none→c=0):=by
 obtain⟨a0,len0,cap0,rfl⟩:=okWide_slice Tryz.underlying26 hok;obtain⟨fuel,hf⟩:=h;rcases open_slice Tryz.underlying26 hf with⟨hcs,hx⟩|⟨a,len,cap,m,n,D,Pl,hcs,hb,hl,hm,hmm,hx,hi⟩
 ·simp[Value.cells] at hcs;obtain⟨rfl,rfl,rfl⟩:=hcs;exact⟨none,0,[],rfl,⟨by simp,by simp,by simp[maxLen],fun h=>by simp at h⟩,fun _=>rfl⟩
 ·simp[Value.cells] at hcs;obtain⟨rfl,rfl,rfl⟩:=hcs;simp only[if_true] at hmm;subst hmm;rw[zex] at hi;obtain⟨l,hll,hp⟩:=zkw (P:=fun i y=>y.wf∧W.cells? base (a.add (i*5)) 5=some [.int .i64 y.lv,.int .i64 y.a,.int .i64 y.b,.int .i64 y.c,.int .i64 y.d]) len0 (fun i hlt=>by
   obtain⟨cs',hc,ht⟩:=hi i (by omega);obtain⟨y,hw,rfl⟩:=zol ht;exact⟨y,hw,hc⟩)
  obtain⟨b,off,spot⟩:=a;refine⟨some ⟨b,off,spot⟩,_,l,by rw[hll],⟨fun x hx=>?_,by omega,hm,fun hn=>?_⟩,fun e=>by cases e⟩
  ·obtain⟨i,hi2⟩:=List.mem_iff_getElem?.1 hx;have hil:=(List.getElem?_eq_some_iff.1 hi2).1;have:=(hp i (by omega)).1;unfold Nds.at_ at this;rw[hi2] at this;exact this
  ·have hcell:∀i,i<l.length→∀(j:Nat) (u:Value),[Value.int .i64 (Nds.at_ l i).lv,.int .i64 (Nds.at_ l i).a,.int .i64 (Nds.at_ l i).b,.int .i64 (Nds.at_ l i).c,.int .i64 (Nds.at_ l i).d][j]?=some u→W.cell? (((⟨b,off,spot⟩:Addr).add (i*5)).add j)=some u:=by
    intro i hil j u hu;obtain⟨_,hcl,hat⟩:=World.cells?_some (hp i (by omega)).2;have hj:=(List.getElem?_eq_some_iff.1 hu).1;rw[hat j (by simpa using hj)];exact hu
   have hspot:spot=none:=by simpa [Addr.add] using World.cell?_spot (hcell 0 hn 0 _ rfl)
   subst hspot;have hc2:∀i,i<l.length→∀(j:Nat) (u:Value),[Value.int .i64 (Nds.at_ l i).lv,.int .i64 (Nds.at_ l i).a,.int .i64 (Nds.at_ l i).b,.int .i64 (Nds.at_ l i).c,.int .i64 (Nds.at_ l i).d][j]?=some u→W.cell? ⟨b,off+i*5+j,none⟩=some u:=by
    intro i hil j u hu;have:=hcell i hil j u hu;have hadd:(⟨b,off,none⟩:Addr).add (i*5+j)=⟨b,off+(i*5+j),none⟩:=by simp[Addr.add]
    rw[Go.Deep.add_add,hadd] at this;rw[Nat.add_assoc];exact this
   refine⟨b,off,rfl,?_,fun i hil=>⟨hc2 i hil 0 _ rfl,hc2 i hil 1 _ rfl,hc2 i hil 2 _ rfl,hc2 i hil 3 _ rfl,hc2 i hil 4 _ rfl⟩⟩;exact World.block_lt_of_cell? W _ (hc2 0 hn 0 _ rfl)
end Go.Proofs.YtfjajpnfjjdnpaaGreatDoor
