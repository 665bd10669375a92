import Derived.Test.YtcippfaljoagaaaGreatDoorHNdMem
import Derived.ProofKit
import Derived.SizedLaws
import Derived.OpenShut
import Derived.ChangeMaps5
import Derived.Lib.SmallJoins
import Derived.Deep.Slices
import Derived.Deep.Fields

set_option linter.unusedVariables false
set_option linter.unusedSimpArgs false
set_option maxRecDepth 100000
set_option maxHeartbeats 6400000
namespace Go.Proofs.YtcippfaljoagaaaGreatDoor
open Go.ChangeShapes Go.WideShapes Go.ChangeAt Go.RowKit Go.Deep Nds
theorem zqu:ownKnob Tryz.prog.godebug=none:=by kernel_rfl
theorem zja:laidOutB Tryz.prog=true:=by kernel_rfl
theorem zgo:Tryz.prog.cellsOf 95=5:=by kernel_rfl
theorem zkk:Tryz.prog.cellsOf 93=4:=by kernel_rfl
theorem zei:Tryz.prog.cellsOf 3=1:=by kernel_rfl
theorem znN {P:Nat→Nd→Prop}:∀n,(∀i,i<n→∃y,P i y)→∃l:List Nd,l.length=n∧∀i,i<n→P i (Nds.at_ l i)
 | 0,_=>⟨[],rfl,fun i hi=>by omega⟩
 | n+1,h=>by
  obtain⟨l,hl,hp⟩:=znN n (fun i hi=>h i (by omega));obtain⟨y,hy⟩:=h n (by omega);refine⟨l++[y],by simp[hl],fun i hi=>?_⟩;rcases Nat.lt_or_ge i n with h1|h1
  ·have e:Nds.at_ (l++[y]) i=Nds.at_ l i:=by
    unfold Nds.at_;rw[List.getElem?_append_left (by omega)]
   rw[e];exact hp i h1
  ·have e:Nds.at_ (l++[y]) i=y:=by
    unfold Nds.at_;rw[List.getElem?_append_right (by omega),hl,show i-n=0 by omega]
    rfl
   rw[e,show i=n by omega];exact hy
section
variable {H:Type} {enc:TypeId × Value→H} {W:World} {base:Nat} {spare:Nat→Bool} {held:Bool}
theorem zdb {fuel:Nat}{cs:List Value}{x:Option (DataW H × List MemPlace)}{y:DataW H × List MemPlace}(h:DataW.trod enc Tryz.prog W base spare held fuel 3 cs=x)(hx:x=some y):∃n,cs=[.int .i64 n]∧in64 n:=by
 subst hx;obtain⟨n,e,_,hw⟩:=DataW.trod_int Tryz.underlying3 h;refine⟨n,e,?_⟩;have e1:IntKind.i64.min = -9223372036854775808:=rfl;have e2:IntKind.i64.max=9223372036854775807:=rfl;simp[Lit.wf,e1,e2] at hw;exact⟨by omega,by omega⟩
theorem zsY {fuel:Nat}{cs:List Value}{x:DataW H × List MemPlace}(h:DataW.trod enc Tryz.prog W base spare held fuel 95 cs=some x) :
  ∃y:Nd,y.wf∧cs=[.int .i64 y.lv,.int .i64 y.a,.int .i64 y.b,.int .i64 y.c,.int .i64 y.d]:=by
 obtain⟨xs,n,_,_,hlen,hxl,hf⟩:=DataW.trod_struct Tryz.underlying95 h;rw[zgo] at hlen;have h0:DataW.trod enc Tryz.prog W base spare held n 3 ((cs.drop 0).take (Tryz.prog.cellsOf 3))=xs[0]?:=hf 0 _ rfl;have h1:DataW.trod enc Tryz.prog W base spare held n 93 ((cs.drop 1).take (Tryz.prog.cellsOf 93))=xs[1]?:=hf 1 _ rfl;rw[zei] at h0;rw[zkk] at h1
 match cs,hlen with
 | [v0,v1,v2,v3,v4],_ =>
  match xs,hxl with
  | [y0,y1],_ =>
   obtain⟨n0,e0,w0⟩:=zdb h0 rfl;have h1':DataW.trod enc Tryz.prog W base spare held n 93 [v1,v2,v3,v4]=some y1:=h1;obtain⟨zs,m,_,_,_,hzl,hg⟩:=DataW.trod_array Tryz.underlying93 h1';simp only[zei] at hg
   match zs,hzl with
   | [z0,z1,z2,z3],_ =>
    obtain⟨n1,e1,w1⟩:=zdb (hg 0 (by omega)) rfl;obtain⟨n2,e2,w2⟩:=zdb (hg 1 (by omega)) rfl;obtain⟨n3,e3,w3⟩:=zdb (hg 2 (by omega)) rfl;obtain⟨n4,e4,w4⟩:=zdb (hg 3 (by omega)) rfl;simp at e0 e1 e2 e3 e4;exact⟨⟨n0,n1,n2,n3,n4⟩,⟨w0,w1,w2,w3,w4⟩,by rw[e0,e1,e2,e3,e4]⟩
end
end Go.Proofs.YtcippfaljoagaaaGreatDoor
