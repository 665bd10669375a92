import Derived.Test.YtcippfaljoagaaaGreatDoorHClM
import Derived.Test.YtcippfaljoagaaaGreatDoorHNdRow
import Derived.Laws.AppendOwnNone

set_option linter.unusedVariables false
set_option linter.unusedSimpArgs false
set_option maxRecDepth 100000
set_option maxHeartbeats 6400000
namespace Go.Proofs.YtcippfaljoagaaaGreatDoor
open Go.ChangeShapes Go.WideShapes Go.ChangeAt Go.RowKit Go.Deep Num Nds
theorem znc:Tryz.prog.cellsOf 30=2:=by kernel_rfl
theorem znd:Tryz.prog.cellsOf 24=2:=by kernel_rfl
theorem zne:Tryz.prog.cellsOf 28=1:=by kernel_rfl
theorem znf:Tryz.prog.cellsOf 9=1:=by kernel_rfl
theorem zng:Tryz.prog.cellsOf 26=1:=by kernel_rfl
theorem zrg {H:Type}{enc:TypeId × Value→H}{W:World}{base fuel:Nat}{v:Value}{y:DataW H × List MemPlace}(hf:DataW.trod enc Tryz.prog W base (fun _=>true) true fuel 26 [v]=some y):∃A c l,v=.slice A l.length c∧Ns W A c l∧(A=none→c=0):=by
 obtain⟨a0,len0,cap0,hv⟩:=Joins.slice_form Tryz.underlying26 hf;simp at hv;subst hv;rcases open_slice Tryz.underlying26 hf with⟨hcs,hx⟩|⟨a,len,cap,m,n,D,Pl,hcs,hb,hl,hm,hmm,hx,hi⟩
 ·simp at hcs;obtain⟨rfl,rfl,rfl⟩:=hcs;exact⟨none,0,[],rfl,⟨by simp,by simp,by simp[maxLen],fun h=>by simp at h⟩,fun _=>rfl⟩
 ·simp at hcs;obtain⟨rfl,rfl,rfl⟩:=hcs;simp only[if_true] at hmm;subst hmm;rw[zgo] at hi;obtain⟨l,hll,hp⟩:=znN (P:=fun i y=>y.wf∧W.cells? base (a.add (i*5)) 5=some [.int .i64 y.lv,.int .i64 y.a,.int .i64 y.b,.int .i64 y.c,.int .i64 y.d]) len0 (fun i hlt=>by
   obtain⟨cs',hc,ht⟩:=hi i (by omega);obtain⟨y,hw,rfl⟩:=zsY ht;exact⟨y,hw,hc⟩)
  obtain⟨b,off,spot⟩:=a;refine⟨some ⟨b,off,spot⟩,_,l,by rw[hll],⟨fun x hx=>?_,by omega,hm,fun hn=>?_⟩,fun e=>by cases e⟩
  ·obtain⟨i,hi2⟩:=List.mem_iff_getElem?.1 hx;have hil:=(List.getElem?_eq_some_iff.1 hi2).1;have:=(hp i (by omega)).1;unfold Nds.at_ at this;rw[hi2] at this;exact this
  ·have hcell:∀i,i<l.length→∀(j:Nat) (u:Value),[Value.int .i64 (Nds.at_ l i).lv,.int .i64 (Nds.at_ l i).a,.int .i64 (Nds.at_ l i).b,.int .i64 (Nds.at_ l i).c,.int .i64 (Nds.at_ l i).d][j]?=some u→W.cell? (((⟨b,off,spot⟩:Addr).add (i*5)).add j)=some u:=by
    intro i hil j u hu;obtain⟨_,hcl,hat⟩:=World.cells?_some (hp i (by omega)).2;have hj:=(List.getElem?_eq_some_iff.1 hu).1;rw[hat j (by simpa using hj)];exact hu
   have hspot:spot=none:=by simpa [Addr.add] using World.cell?_spot (hcell 0 hn 0 _ rfl)
   subst hspot;have hc2:∀i,i<l.length→∀(j:Nat) (u:Value),[Value.int .i64 (Nds.at_ l i).lv,.int .i64 (Nds.at_ l i).a,.int .i64 (Nds.at_ l i).b,.int .i64 (Nds.at_ l i).c,.int .i64 (Nds.at_ l i).d][j]?=some u→W.cell? ⟨b,off+i*5+j,none⟩=some u:=by
    intro i hil j u hu;have:=hcell i hil j u hu;have hadd:(⟨b,off,none⟩:Addr).add (i*5+j)=⟨b,off+(i*5+j),none⟩:=by simp[Addr.add]
    rw[Go.Deep.add_add,hadd] at this;rw[Nat.add_assoc];exact this
   refine⟨b,off,rfl,?_,fun i hil=>⟨hc2 i hil 0 _ rfl,hc2 i hil 1 _ rfl,hc2 i hil 2 _ rfl,hc2 i hil 3 _ rfl,hc2 i hil 4 _ rfl⟩⟩;exact World.block_lt_of_cell? W _ (hc2 0 hn 0 _ rfl)
theorem zrh {H:Type}{enc:TypeId × Value→H}{W:World}{base b0:Nat}{r:Reach}{v:Value}{d:DataW H}{p:List MemPlace}(hok:Value.okWide Tryz.prog W r b0 30 v)
  (h:DataW.Trod enc Tryz.prog W base (fun _=>true) true 30 v d p):∃s A c l,v=.agg #[.string s,.slice A (List.length l) c]∧Ns W A c l∧(A=none→c=0)∧s.size≤maxLen:=by
 obtain⟨cs,rfl,hsz⟩:=okWide_struct Tryz.underlying30 hok;obtain⟨fuel,hf⟩:=h;obtain⟨xs,n,_,hx,hlen,hxl,hg⟩:=DataW.trod_struct Tryz.underlying30 hf;obtain⟨cs⟩:=cs;rw[znc] at hlen;simp[Value.cells] at hlen;have h0:DataW.trod enc Tryz.prog W base (fun _=>true) true n 9 ((cs.drop 0).take (Tryz.prog.cellsOf 9))=xs[0]?:=hg 0 _ rfl;have h1:DataW.trod enc Tryz.prog W base (fun _=>true) true n 28 ((cs.drop 1).take (Tryz.prog.cellsOf 28))=xs[1]?:=hg 1 _ rfl;rw[znf] at h0;rw[zne] at h1
 match cs,hlen with
 | [v0,v1],_ =>
  match xs,hxl with
  | [y0,y1],_ =>
   have h0':DataW.trod enc Tryz.prog W base (fun _=>true) true n 9 [v0]=some y0:=h0;have h1':DataW.trod enc Tryz.prog W base (fun _=>true) true n 28 [v1]=some y1:=h1;obtain⟨s,e0,-,hs⟩:=DataW.trod_string Tryz.underlying9 h0';simp at e0;subst e0;obtain⟨zs,m,_,_,hlen2,hzl,hk⟩:=DataW.trod_struct Tryz.underlying28 h1';have k0:DataW.trod enc Tryz.prog W base (fun _=>true) true m 26 (([v1].drop 0).take (Tryz.prog.cellsOf 26))=zs[0]?:=hk 0 _ rfl;rw[zng] at k0
   match zs,hzl with
   | [z0],_ =>
    have k0':DataW.trod enc Tryz.prog W base (fun _=>true) true m 26 [v1]=some z0:=k0;obtain⟨A,c,l,rfl,hN,hA⟩:=zrg k0';exact⟨s,A,c,l,rfl,hN,hA,hs⟩
theorem zri {H:Type}{enc:TypeId × Value→H}{W:World}{base b0:Nat}{r:Reach}{v:Value}{d:DataW H}{p:List MemPlace}(hok:Value.okWide Tryz.prog W r b0 24 v)
  (h:DataW.Trod enc Tryz.prog W base (fun _=>true) true 24 v d p):∃b m,v=.agg #[.int .i64 b,.int .i64 m]∧(-9223372036854775808≤b∧b≤9223372036854775807):=by
 obtain⟨cs,rfl,hsz⟩:=okWide_struct Tryz.underlying24 hok;obtain⟨fuel,hf⟩:=h;obtain⟨xs,n,_,hx,hlen,hxl,hg⟩:=DataW.trod_struct Tryz.underlying24 hf;obtain⟨cs⟩:=cs;rw[znd] at hlen;simp[Value.cells] at hlen;have h0:DataW.trod enc Tryz.prog W base (fun _=>true) true n 3 ((cs.drop 0).take (Tryz.prog.cellsOf 3))=xs[0]?:=hg 0 _ rfl;have h1:DataW.trod enc Tryz.prog W base (fun _=>true) true n 3 ((cs.drop 1).take (Tryz.prog.cellsOf 3))=xs[1]?:=hg 1 _ rfl;rw[zei] at h0 h1
 match cs,hlen with
 | [v0,v1],_ =>
  match xs,hxl with
  | [y0,y1],_ =>
   obtain⟨n0,e0,w0⟩:=zdb h0 rfl;obtain⟨n1,e1,w1⟩:=zdb h1 rfl;simp at e0 e1;subst e0;subst e1;exact⟨n0,n1,rfl,w0⟩
end Go.Proofs.YtcippfaljoagaaaGreatDoor

namespace Go.Proofs.YtcippfaljoagaaaGreatDoor
open Go.RowKit
theorem zoO {P:Program}{f:FuncId}{fn:Func}{s:ChangeSpec}{c:OpenClaim}
    (hA:(c.wf (OpenSpec.ofChange s)&&laidOutB P&&mapsRowed P&&fn.params.all (P.readableRec ·)&&namedTie P c.named s.vars&&(c.stops==[])&&(P.stops==[])&&(c.knobs==[])&&(P.stopKnobs==[]))=true)
    (hB:(c.inPlace==P.inPlace f)=true) (hC:(c.unfollowed==P.unfollowed f)=true) (hD:(c.recurses==P.recurses f)=true) (hE:(c.named==P.varsNamed f)=true)
    (hF:((c.maps==(fn.params.toList++s.plain.varTypes P).any (P.mapsRec ·))&&(c.ifaces==(fn.params.toList++s.plain.varTypes P).any (P.ifacesRec ·))&&(c.mapsOut==P.mapsAmong fn.resultTypes.toList) &&
      (c.loops==(fn.params.toList++s.plain.varTypes P).any (P.loopsFrom ·))&&(c.wideKeys==(fn.params.toList++s.plain.varTypes P++fn.resultTypes.toList).any (P.wideKeysFrom ·)) &&
      s.vars.all (P.varReadable ·)&&fn.resultTypes.all (fun t=>P.readableRec t&&decide (t<P.types.size))&&(c.ifacesOut==fn.resultTypes.toList.any (P.ifacesRec ·))&&(c.loopsOut==fn.resultTypes.toList.any (P.loopsFrom ·)))=true)
    (hG:(c.plainKeys==P.plainKeys)=true) (hH:(c.shortTexts.isNone&&P.stopsHeard)=true) (hI:P.mayEnter=true) (hJ:(c.lifted==P.liftsFinal)=true)
    (hK:((P.make==some c.make)&&(c.kinds==(if c.domain.isEmpty then [] else fn.params.toList.map fun t=>match P.underlying t with|some (.int k)=>some k|_=>none))&&(c.pinned==c.pinnedBy) &&
      (c.veiled==(fn.params.toList++s.plain.varTypes P++fn.resultTypes.toList).any (P.veiledRec ·))&&c.veiledFits P fn.params.toList (fn.params.toList++s.plain.varTypes P++fn.resultTypes.toList))=true):joinedFacts P f fn s c=true:=by
  unfold joinedFacts;simp only[Bool.and_eq_true,and_assoc] at hA hF hH hK ⊢;obtain⟨a1,a2,a3,a4,a5,a6,a7,a8,a9⟩:=hA;obtain⟨f1,f2,f3,f4,f5,f6,f7,f8,f9⟩:=hF;obtain⟨h1,h2⟩:=hH;obtain⟨k1,k2,k3,k4,k5⟩:=hK;exact⟨a1,a2,a3,a4,a5,a6,a7,a8,a9,hB,hC,hD,hE,f1,f2,f3,f4,f5,f6,f7,f8,f9,hG,h1,h2,hI,hJ,k1,k2,k3,k4,k5⟩
end Go.Proofs.YtcippfaljoagaaaGreatDoor

namespace Go.Proofs.YtcippfaljoagaaaGreatDoor
open Nds
def zdp:Tr→Int→Int→List Cl
 | .e,_,_=>[]
 | .s k,X,Y=>[⟨X,Y,k⟩]
 | .n v a b c d,X,Y=>zdp a X Y++zdp b (X+p2 (v.toNat-1)) Y++zdp c X (Y+p2 (v.toNat-1))++zdp d (X+p2 (v.toNat-1)) (Y+p2 (v.toNat-1))
theorem zoP:∀(l m:List Cl) (x y:Int),lk (l++m) x y=if (∃c∈l,c.x=x∧c.y=y) then lk l x y else lk m x y
 | [],m,x,y=>by
  rw[if_neg (by rintro⟨c,hc,_⟩;cases hc)];rfl
 | a :: l,m,x,y=>by
  show(if a.x=x∧a.y=y then a.s else lk (l++m) x y)=if _ then (if a.x=x∧a.y=y then a.s else lk l x y) else _
  by_cases ha:a.x=x∧a.y=y
  ·rw[if_pos ha,if_pos ⟨a,by simp,ha⟩,if_pos ha]
  ·rw[if_neg ha,zoP l m x y];by_cases hl:∃c∈l,c.x=x∧c.y=y
   ·obtain⟨c,hc,h⟩:=hl;rw[if_pos ⟨c,hc,h⟩,if_pos ⟨c,by simp[hc],h⟩,if_neg ha]
   ·rw[if_neg hl,if_neg];rintro⟨c,hc,h⟩;rcases List.mem_cons.1 hc with rfl|hc
    ·exact ha h
    ·exact hl ⟨c,hc,h⟩
theorem zgE {X Y h:Int}{l m:List Cl}(hl:∀c∈l,sqB X Y h c=true)(hm:∀c∈m,sqB X Y h c=false)(x y:Int):lk (l++m) x y=lk l x y+lk m x y:=by
 rw[zoP];by_cases he:∃c∈l,c.x=x∧c.y=y
 ·rw[if_pos he];obtain⟨c,hc,h1⟩:=he;have h2:=zbk.1 (hl c hc);rw[zgC (l:=m) (fun d hd e=>by
   have h3:=hm d hd;have h4:sqB X Y h d=true:=zbk.2 (by rw[e.1,e.2,←h1.1,←h1.2];exact h2);rw[h4] at h3;cases h3)]
  omega
 ·rw[if_neg he,zgC (l:=l) (fun d hd e=>he ⟨d,hd,e⟩)];omega
theorem zcT:∀(t:Tr) (n:Nat) (X Y:Int),wfT (n:Int) t→Fine (zdp t X Y)∧(∀c∈zdp t X Y,sqB X Y (p2 n) c=true)∧∀x y,lk (zdp t X Y) x y=zah t (x-X) (y-Y)
 | .e,_,_,_,_=>⟨⟨fun c hc=>absurd hc (List.not_mem_nil),List.Pairwise.nil⟩,fun c hc=>absurd hc (List.not_mem_nil),fun x y=>rfl⟩
 | .s k,n,X,Y,hw=>by
  have hn:(n:Int)=0:=hw.1;have:n=0:=by omega
  subst this;refine⟨⟨fun c hc=>?_,List.pairwise_singleton _ _⟩,fun c hc=>?_,fun x y=>?_⟩
  ·rw[List.mem_singleton.1 hc];exact⟨hw.2.1,hw.2.2⟩
  ·rw[List.mem_singleton.1 hc,zbk,zen];show X≤X∧X<X+1∧Y≤Y∧Y<Y+1;omega
  ·show(if X=x∧Y=y then k else 0)=if x-X=0∧y-Y=0 then k else 0
   by_cases h:X=x∧Y=y
   ·rw[if_pos h,if_pos (by omega)]
   ·rw[if_neg h,if_neg (by omega)]
 | .n v a b c d,n,X,Y,hw=>by
  obtain⟨m,rfl,rfl,ha,hb,hc,hd,_⟩:=wf_n hw;have hp:=zam m;have ep:=zan m;obtain⟨fa,sa,ka⟩:=zcT a m X Y ha;obtain⟨fb,sb,kb⟩:=zcT b m (X+p2 m) Y hb;obtain⟨fc,sc,kc⟩:=zcT c m X (Y+p2 m) hc;obtain⟨fd,sd,kd⟩:=zcT d m (X+p2 m) (Y+p2 m) hd;have e:((m:Int)+1).toNat-1=m:=by omega
  have el:zdp (.n ((m:Int)+1) a b c d) X Y=zdp a X Y++zdp b (X+p2 m) Y++zdp c X (Y+p2 m)++zdp d (X+p2 m) (Y+p2 m):=by
   show zdp a X Y++zdp b (X+p2 (((m:Int)+1).toNat-1)) Y++zdp c X (Y+p2 (((m:Int)+1).toNat-1))++zdp d (X+p2 (((m:Int)+1).toNat-1)) (Y+p2 (((m:Int)+1).toNat-1))=_;rw[e]
  rw[el];have apart:∀{l1 l2:List Cl} {X1 Y1 X2 Y2:Int},(∀c∈l1,sqB X1 Y1 (p2 m) c=true)→(∀c∈l2,sqB X2 Y2 (p2 m) c=true)→(X1+p2 m≤X2∨X2+p2 m≤X1∨Y1+p2 m≤Y2∨Y2+p2 m≤Y1)→∀c∈l1,∀d∈l2,¬ (c.x=d.x∧c.y=d.y):=fun h1 h2 h3 c hc d hd e=>by
   have a1:=zbk.1 (h1 c hc);have a2:=zbk.1 (h2 d hd);omega
  have outOf:∀{l2:List Cl} {X1 Y1 X2 Y2:Int},(∀c∈l2,sqB X2 Y2 (p2 m) c=true)→(X1+p2 m≤X2∨X2+p2 m≤X1∨Y1+p2 m≤Y2∨Y2+p2 m≤Y1)→∀c∈l2,sqB X1 Y1 (p2 m) c=false:=fun h2 h3 c hc=>by
   have a2:=zbk.1 (h2 c hc);cases hq:sqB _ _ (p2 m) c
   ·rfl
   ·have:=zbk.1 hq;omega
  refine⟨⟨fun q hq=>?_,?_⟩,fun q hq=>?_,fun x y=>?_⟩
  ·rcases List.mem_append.1 hq with hq|hq
   ·rcases List.mem_append.1 hq with hq|hq
    ·rcases List.mem_append.1 hq with hq|hq
     ·exact fa.1 q hq
     ·exact fb.1 q hq
    ·exact fc.1 q hq
   ·exact fd.1 q hq
  ·rw[List.pairwise_append,List.pairwise_append,List.pairwise_append];refine⟨⟨⟨fa.2,fb.2,apart sa sb (by omega)⟩,fc.2,fun q hq=>?_⟩,fd.2,fun q hq=>?_⟩
   ·rcases List.mem_append.1 hq with hq|hq
    ·exact apart sa sc (by omega) q hq
    ·exact apart sb sc (by omega) q hq
   ·rcases List.mem_append.1 hq with hq|hq
    ·rcases List.mem_append.1 hq with hq|hq
     ·exact apart sa sd (by omega) q hq
     ·exact apart sb sd (by omega) q hq
    ·exact apart sc sd (by omega) q hq
  ·rw[zbk,zan];rcases List.mem_append.1 hq with hq|hq
   ·rcases List.mem_append.1 hq with hq|hq
    ·rcases List.mem_append.1 hq with hq|hq
     ·have:=zbk.1 (sa q hq);omega
     ·have:=zbk.1 (sb q hq);omega
    ·have:=zbk.1 (sc q hq);omega
   ·have:=zbk.1 (sd q hq);omega
  ·rw[List.append_assoc,List.append_assoc,zgE sa (fun q hq=>by
    rcases List.mem_append.1 hq with hq|hq
    ·exact outOf sb (by omega) q hq
    ·rcases List.mem_append.1 hq with hq|hq
     ·exact outOf sc (by omega) q hq
     ·exact outOf sd (by omega) q hq),zgE sb (fun q hq=>by
    rcases List.mem_append.1 hq with hq|hq
    ·exact outOf sc (by omega) q hq
    ·exact outOf sd (by omega) q hq),zgE sc (fun q hq=>outOf sd (by omega) q hq),ka,kb,kc,kd,zcp ha hb hc hd]
   rw[show x-(X+p2 m)=x-X-p2 m by omega,show y-(Y+p2 m)=y-Y-p2 m by omega];omega
theorem zjw {l:List Cl}(h:l.Pairwise (fun a b=>¬ (a.x=b.x∧a.y=b.y)))(x y:Int):ziw l x y=lk l x y:=by
 suffices hk:∀k,k≤l.length→ziw (l.take k) x y=lk (l.take k) x y by
  have:=hk l.length (Nat.le_refl _)
  rwa [List.take_of_length_le (Nat.le_refl _)] at this
 intro k
 induction k with
 | zero=>exact fun _=>rfl
 | succ k ih =>
  intro hk;rw[List.take_succ_eq_append_getElem (by omega),zhC,ih (by omega),zoP];have hp:∀d∈l.take k,¬ (d.x=l[k].x∧d.y=l[k].y):=fun d hd=>by
   obtain⟨i,hi,rfl⟩:=List.getElem_of_mem hd;rw[List.length_take] at hi;rw[List.getElem_take];exact List.pairwise_iff_getElem.1 h i k _ _ (by omega)
  by_cases hc:l[k].x=x∧l[k].y=y
  ·rw[if_pos hc,if_neg (fun⟨d,hd,e⟩=>hp d hd ⟨e.1.trans hc.1.symm,e.2.trans hc.2.symm⟩)];unfold lk;rw[if_pos hc]
  ·rw[if_neg hc];by_cases hd:∃d∈l.take k,d.x=x∧d.y=y
   ·rw[if_pos hd]
   ·rw[if_neg hd,zgC fun d hd' e=>hd ⟨d,hd',e⟩];unfold lk;rw[if_neg hc];rfl
theorem zoQ (l:List Cl):Srt (zbC l):=(zfr l).1
theorem zrj (l:List Cl)(x y:Int):lk (zbC l) x y=ziw l x y:=(zfr l).2.1 x y
theorem znh {l:List Cl}(h:∀c∈l,0≤c.s∧c.s≤255):Fine (zbC l) :=
 zrf (zoQ l) fun c hc=>by
  obtain⟨h1,h2⟩:=(zfr l).2.2 c hc;have:=h c h2;omega
def zcU (L:List Cl)(out:List Nd):Prop :=
 ∃(t:Tr) (n:Nat),wfT (n:Int) t∧(∀k,t≠.s k)∧holT t=false∧out=(enc t []).1∧∀x y,zaH t x y=lk L x y
theorem zni {L M:List Cl}{a b:List Nd}(h:zcU L a)(k:zcU M b)(e:∀x y,lk L x y=lk M x y):a=b:=by
 obtain⟨t,n,h1,h2,h3,rfl,h5⟩:=h;obtain⟨u,m,k1,k2,k3,rfl,k5⟩:=k;rw[zoK h1 k1 h2 k2 h3 k3 fun x y=>by rw[h5,k5,e]]
theorem zsD {t:Tr}{v:Int}(hw:wfT v t)(hs:∀k,t≠.s k):∃q:Nat,wfT (q:Int) t:=by
 cases t with
 | e=>exact⟨0,trivial⟩
 | s k=>exact absurd rfl (hs k)
 | n u a b c d =>
  have h1:=hw.1;have h2:=hw.2.1;exact⟨v.toNat,by rwa [show((v.toNat:Nat):Int)=v by omega]⟩
theorem zhD {l:List Nd}(hl:zac l=true){n:Nat}(hn:n≤l.length){L:List Cl}(h:∀x y,zaH (den l n) x y=lk L x y):zcU L (OfL l n):=by
 obtain⟨v,h1,h2,h3⟩:=zra hl hn;obtain⟨q,hq⟩:=zsD h1 h2;obtain⟨u,hu⟩:=zkH hl hn;obtain⟨p,hp⟩:=zsD hu (fun k=>zju);exact⟨_,q,hq,h2,h3,rfl,fun x y=>by rw[zoJ hp];exact h x y⟩
theorem zcU.den {L:List Cl}{out:List Nd}(h:zcU L out)(x y:Int):zaH (den out out.length) x y=lk L x y:=by
 obtain⟨t,n,h1,h2,h3,rfl,h5⟩:=h;rw[←h5];by_cases he:t=.e
 ·subst he;show zaH (Nds.den [] 0) x y=_;rw[zav]
 ·rw[(zqZ h1 he h2).2.2]
def zrk (l:List Nd):List Cl:=zdp (den l l.length) (-(p2 ((at_ l (l.length-1)).lv.toNat-1))) (-(p2 ((at_ l (l.length-1)).lv.toNat-1)))
theorem zjx {l:List Nd}(hl:zac l=true):Fine (zrk l)∧∀x y,lk (zrk l) x y=zaH (den l l.length) x y:=by
 unfold zrk;rcases Nat.eq_zero_or_pos l.length with h0|h0
 ·rw[h0,zav];exact⟨⟨fun c hc=>absurd hc (List.not_mem_nil),List.Pairwise.nil⟩,fun x y=>rfl⟩
 ·obtain⟨p,hp⟩:∃p,l.length=p+1:=⟨l.length-1,by omega⟩;rw[hp,Nat.add_sub_cancel];have hw:=zbz hl p (by omega);have hv:=zap (zaf hl (i:=p) (by omega));obtain⟨n,hn⟩:∃n:Nat,(at_ l p).lv=(n:Int):=⟨_,(Int.toNat_of_nonneg (by omega)).symm⟩;rw[hn] at hw ⊢;rw[Int.toNat_natCast];obtain⟨h1,h2,h3⟩:=zcT (den l (p+1)) n (-(p2 (n-1))) (-(p2 (n-1))) hw;refine⟨h1,fun x y=>?_⟩;rw[h3];unfold zaH;generalize den l (p+1)=t at hw;cases t with
  | e=>rfl
  | s k =>
   have:=hw.1;omega
  | n v a b c d =>
   have e:v=(n:Int):=hw.1.symm;subst e;show zah _ _ _=zah _ (x+p2 ((n:Int).toNat-1)) (y+p2 ((n:Int).toNat-1));rw[Int.toNat_natCast,show x - -(p2 (n-1))=x+p2 (n-1) by omega,show y - -(p2 (n-1))=y+p2 (n-1) by omega]
def zlV (l:List Nd):List Cl:=zbC (zrk l)
theorem zrl {l:List Nd}(hl:zac l=true)(x y:Int):lk (zlV l) x y=zaH (den l l.length) x y:=by
 unfold zlV;rw[zrj,zjw (zjx hl).1.2,(zjx hl).2]
theorem zgF {l:List Nd}(hl:zac l=true):zcU (zlV l) (OfL l l.length):=zhD hl (Nat.le_refl _) fun x y=>(zrl hl x y).symm
end Go.Proofs.YtcippfaljoagaaaGreatDoor

namespace Go.Proofs.YtcippfaljoagaaaGreatDoor
open Go.RowKit Nds
theorem zix (W:World)(g:Nat)(x:Nd)(hx:x.wf)(hg:W.heap.size=g):Ns (W.alloc (.cells #[.int .i64 x.lv,.int .i64 x.a,.int .i64 x.b,.int .i64 x.c,.int .i64 x.d] 95)) (some ⟨g,0,none⟩) 1 [x]:=by
 subst hg;refine⟨by simpa using hx,by simp,by simp[maxLen],fun _=>⟨_,0,rfl,by simp,fun i hi=>?_⟩⟩;have h0:i=0:=by simpa using hi
 subst h0;exact NdAt.new W x _
theorem Tryz.infoN:(Tryz.prog.info? 95).map (fun i=>(i.zero,i.size,i.bytes))=some (some (ndv nd0),5,40):=by kernel_rfl
def ndc (x:Nd):List Value:=[.int .i64 x.lv,.int .i64 x.a,.int .i64 x.b,.int .i64 x.c,.int .i64 x.d]
def ndcs (l:List Nd):List Value:=l.flatMap ndc
theorem zlW (l:List Nd):(ndcs l).length=l.length*5:=by
 unfold ndcs
 induction l with
 | nil=>rfl
 | cons x l ih =>
  rw[List.flatMap_cons,List.length_append,ih,List.length_cons];show 5+_=_;omega
theorem zrm (l m:List Nd):ndcs (l++m)=ndcs l++ndcs m:=by
 unfold ndcs;rw[List.flatMap_append]
theorem zkL:∀(l:List Nd) (i j:Nat),i<l.length→j<5→(ndcs l)[i*5+j]?=(ndc (at_ l i))[j]?
 | [],i,_,hi,_=>by simp at hi
 | x :: l,0,j,_,hj=>by
  show(ndc x++ndcs l)[0*5+j]?=_;rw[List.getElem?_append_left (by show _<5;omega),show 0*5+j=j by omega];rfl
 | x :: l,i+1,j,hi,hj=>by
  show(ndc x++ndcs l)[(i+1)*5+j]?=_;rw[List.getElem?_append_right (by show 5≤_;omega),show(i+1)*5+j-(ndc x).length=i*5+j by show _-5=_;omega,zkL l i j (by simpa using hi) hj];rfl
theorem zrn (l:List Nd):∀u∈ndcs l,u.oneCell'=true:=fun u hu=>by
 obtain⟨x,_,hx⟩:=List.mem_flatMap.1 hu;simp only[ndc,List.mem_cons,List.not_mem_nil,or_false] at hx;rcases hx with rfl|rfl|rfl|rfl|rfl <;> rfl
theorem Ns.cells {w:World}{A:Option Addr}{c:Nat}{l:List Nd}(h:Ns w A c l){ad:Addr}(e:A=some ad):∀j u,(ndcs l)[j]?=some u→w.cell? (ad.add j)=some u:=by
 intro j u hu;have hj:=(List.getElem?_eq_some_iff.1 hu).1;rw[zlW] at hj;obtain⟨b,off,e2,_,hc⟩:=h.at_ (by omega)
 rw[e] at e2;cases e2;have hd:=hc (j / 5) (by omega);have hs:j=j / 5*5+j%5:=by omega
 rw[hs,zkL l (j / 5) (j%5) (by omega) (by omega)] at hu;obtain⟨h1,h2,h3,h4,h5⟩:=hd;have hlt:j%5<5:=Nat.mod_lt _ (by omega);have hadd:(⟨b,off,none⟩:Addr).add j=⟨b,off+j,none⟩:=by simp[Addr.add]
 rw[hadd];generalize hq:j / 5=q at *;generalize hr:j%5=r at *
 match r,hlt with
 | 0,_=>rw[show off+j=off+q*5 by omega,h1];exact hu
 | 1,_=>rw[show off+j=off+q*5+1 by omega,h2];exact hu
 | 2,_=>rw[show off+j=off+q*5+2 by omega,h3];exact hu
 | 3,_=>rw[show off+j=off+q*5+3 by omega,h4];exact hu
 | 4,_=>rw[show off+j=off+q*5+4 by omega,h5];exact hu
def OwnN (w:World)(base:Nat)(v:Value)(l:List Nd):Prop:=(∀x∈l,x.wf)∧w.ownsRow base 95 5 v l.length (ndcs l)
theorem OwnN.shape {w:World}{base:Nat}{v:Value}{l:List Nd}(h:OwnN w base v l):∃A c,v=.slice A l.length c∧Ns w A c l∧((A=none→c=0)∧∀a,A=some a→base≤a.block):=by
 rcases h.2.2 with⟨h',hn⟩|⟨g,cap,cur,h',hb,hg,hnc,hcm,hcs,htake⟩
 ·exact⟨none,0,by rw[h',hn],⟨h.1,by omega,by simp[maxLen],fun h=>by omega⟩,(fun _=>rfl),(fun a e=>by cases e)⟩
 ·refine⟨some ⟨g,0,none⟩,cap,h',⟨h.1,hnc,hcm,fun hn=>⟨g,0,rfl,?_,fun i hi=>?_⟩⟩,(fun e=>by cases e),(fun a e=>by cases e;exact hb)⟩
  ·rcases Nat.lt_or_ge g w.heap.size with hlt|hge
   ·exact hlt
   ·rw[Array.getElem?_eq_none hge] at hg;cases hg
  ·have hcell:∀j,j<5→w.cell? ⟨g,i*5+j,none⟩=(ndc (at_ l i))[j]?:=by
    intro j hj;have hlt:i*5+j<l.length*5:=by omega
    rw[cell_of_row w g (i*5+j) cur _ (0,0) hg,←zkL l i j hi hj,←htake,List.getElem?_take,if_pos hlt];simp
   rw[Nat.zero_add];exact⟨hcell 0 (by omega),hcell 1 (by omega),hcell 2 (by omega),hcell 3 (by omega),hcell 4 (by omega)⟩
theorem OwnN.start (w:World):OwnN (w.alloc (.cells #[] 95)) w.heap.size (.slice (some ⟨w.heap.size,0,none⟩) 0 0) [] :=
 ⟨by simp,World.ownsRow_made w #[] 0 (Nat.le_refl _) (by simp[maxLen]) rfl⟩
theorem zfJ (w:World)(base:Nat)(v:Value)(xs ys:List Nd)(ty:TypeId)(A:Option Addr)(m c:Nat)(how:OwnN w base v xs)(hN:Ns w A c ys)(hm:ys.length=m)(hA:A=none→c=0)(hs:xs.length+m≤1000000)(hb:base≤w.heap.size) :
  ∃v' w',(Builtin.append_ #[26,26] ty #[v,.slice A m c]).run Tryz.prog w=.ok v' w'∧OwnN w' base v' (xs++ys)∧w.grownBy w' v.ownBlock∧(v'.ownBlock=v.ownBlock∨v'.ownBlock=some w.heap.size):=by
 obtain⟨i0,hi,hz0,hz1,hz2⟩:=info_parts Tryz.infoN;have hwf:∀x∈xs++ys,x.wf:=fun x hx=>by
  rcases List.mem_append.1 hx with h|h
  ·exact how.1 x h
  ·exact hN.1 x h
 cases A with
 | none =>
  have hc:=hA rfl;have hy:ys=[]:=by
   rcases Nat.eq_zero_or_pos ys.length with h|h
   ·exact List.eq_nil_of_length_eq_zero h
   ·obtain⟨b,off,e,_⟩:=hN.at_ h
    cases e
  subst hy;subst hc;subst hm;refine⟨v,w,run_append_owned_none (P:=Tryz.prog) (w:=w) base _ ty 95 i0 5 Tryz.underlying26 hi v _ _ how.2,?_,⟨rfl,rfl,rfl,Nat.le_refl _,fun _ _ _=>rfl⟩,.inl rfl⟩;rw[List.append_nil];exact how
 | some ad =>
  obtain⟨v',w',hrun,h2,h3,_,h5⟩:=run_append_own_at (P:=Tryz.prog) w base 26 ty 95 i0 (ndv nd0) 5 40 Tryz.underlying26 hi hz0 hz1 hz2 rfl (by omega) v xs.length (ndcs xs) how.2 ad m c (ndcs ys) (by rw[zlW,hm]) (hN.cells rfl) (zrn ys) (by simp only[maxLen];omega) (by omega) hb;refine⟨v',w',hrun,⟨hwf,?_⟩,h3,h5⟩;rw[zrm,List.length_append,hm];exact h2
theorem zaC (w:World){ops:Array Oper}{rest:List Oper}{o:Oper}{a:Act}{Q:Exit→Act→World→Prop}(hg:o.guard=none)(s x:Operand)
  (hop:o.op=Op.call { callee:=Callee.builtin Builtin.append,args:=#[s,x],argTypes:=#[26,26] }) (base:Nat) (v:Value) (xs ys:List Nd) (A:Option Addr) (m c:Nat)
  (hs:a.eval s=v) (hx:a.eval x=.slice A m c) (how:OwnN w base v xs) (hN:Ns w A c ys) (hm:ys.length=m) (hA:A=none→c=0) (hsz:xs.length+m≤1000000) (hb:base≤w.heap.size)
  (hK:∀v' w',OwnN w' base v' (xs++ys)→w.grownBy w' v.ownBlock→(v'.ownBlock=v.ownBlock∨v'.ownBlock=some w.heap.size)→wpList Tryz.prog ops Q rest (a.put o.dst v') w') :
  wpList Tryz.prog ops Q (o :: rest) a w:=by
 refine wpList_plain hg fun K hK'=>?_;obtain⟨v',w',hrun,h1,h2,h3⟩:=zfJ w base v xs ys o.type A m c how hN hm hA hsz hb;unfold Oper.wp execOp;simp only[hop,resolve,invoke,builtin,Sem.run_bind,Sem.run_pure,Result.andThen_ok,List.map_toArray,List.map_cons,List.map_nil,hs,hx,hrun];exact hK' _ _ (hK v' w' h1 h2 h3)
theorem Ns.gbr {w w':World}{A:Option Addr}{c:Nat}{l:List Nd}{row:Option Nat}(h:Ns w A c l)(hg:w.grownBy w' row)(hA:∀a,A=some a→some a.block≠row):Ns w' A c l :=
 ⟨h.1,h.2.1,h.2.2.1,fun hn=>by
  obtain⟨b,off,e,hlt,hc⟩:=h.2.2.2 hn;exact⟨b,off,e,Nat.lt_of_lt_of_le hlt hg.size,fun i hi=>(hc i hi).below (hg.block b hlt (hA _ e))⟩⟩
theorem OwnN.gbr {w w':World}{base:Nat}{v:Value}{l:List Nd}{row:Option Nat}(h:OwnN w base v l)(hg:w.grownBy w' row)(hv:v.ownBlock=none∨v.ownBlock≠row):OwnN w' base v l:=⟨h.1,h.2.kept hg hv⟩
theorem OwnN.alloc {w:World}{base:Nat}{v:Value}{l:List Nd}(h:OwnN w base v l)(o:Obj):OwnN (w.alloc o) base v l:=⟨h.1,h.2.alloc o⟩
theorem OwnN.lt {w:World}{base:Nat}{v:Value}{l:List Nd}(h:OwnN w base v l):∀k,v.ownBlock=some k→base≤k∧k<w.heap.size:=h.2.lt
def Sn (w W:World)(L:List (Option Addr × Nat × List Nd)):Prop:=Below w.heap.size w W∧∀t∈L,Ns W t.1 t.2.1 t.2.2
theorem Sn.start (w:World):Sn w w []:=⟨Below.refl _ _,by simp⟩
theorem Sn.get {w W:World}{L:List (Option Addr × Nat × List Nd)}(s:Sn w W L){A:Option Addr}{c:Nat}{l:List Nd}(h:(A,c,l)∈L):Ns W A c l:=s.2 _ h
theorem Sn.step {w W W':World}{L:List (Option Addr × Nat × List Nd)}(s:Sn w W L)(b:Below W.heap.size W W'):Sn w W' L :=
 ⟨s.1.trans (b.mono s.1.size),fun t ht=>(s.2 t ht).below b⟩
theorem Sn.add {w W:World}{L:List (Option Addr × Nat × List Nd)}(s:Sn w W L){A:Option Addr}{c:Nat}{l:List Nd}(h:Ns W A c l):Sn w W ((A,c,l) :: L) :=
 ⟨s.1,fun t ht=>by
  rcases List.mem_cons.1 ht with rfl|ht
  ·exact h
  ·exact s.2 t ht⟩
structure Ky (P:Nat→Prop)(w w':World):Prop where
 os:w'.os=w.os
 tape:w'.tape=w.tape
 output:w'.output=w.output
 size:w.heap.size≤w'.heap.size
 block:∀k,k<w.heap.size→¬ P k→w'.heap[k]?=w.heap[k]?
theorem Ky.refl (P:Nat→Prop)(w:World):Ky P w w:=⟨rfl,rfl,rfl,Nat.le_refl _,fun _ _ _=>rfl⟩
theorem Ky.trans {P Q:Nat→Prop}{a b c:World}(h:Ky P a b)(k:Ky Q b c)(hQ:∀i,i<a.heap.size→Q i→P i):Ky P a c :=
 ⟨k.os.trans h.os,k.tape.trans h.tape,k.output.trans h.output,Nat.le_trans h.size k.size,fun i hi hn=>(k.block i (Nat.lt_of_lt_of_le hi h.size) (fun hq=>hn (hQ i hi hq))).trans (h.block i hi hn)⟩
theorem Ky.gb {P:Nat→Prop}{a b c:World}{r:Option Nat}(h:Ky P a b)(k:b.grownBy c r)(hr:∀i,i<a.heap.size→r=some i→P i):Ky P a c :=
 ⟨k.os.trans h.os,k.tape.trans h.tape,k.output.trans h.output,Nat.le_trans h.size k.size,fun i hi hn=>(k.block i (Nat.lt_of_lt_of_le hi h.size) (fun hq=>hn (hr i hi hq.symm))).trans (h.block i hi hn)⟩
theorem Ky.alloc {P:Nat→Prop}{a b:World}(h:Ky P a b)(o:Obj):Ky P a (b.alloc o):=h.gb (World.grownBy_alloc b o none) (fun _ _ e=>by cases e)
theorem Ky.below {P:Nat→Prop}{a b c:World}(h:Ky P a b)(k:Below b.heap.size b c):Ky P a c :=
 ⟨k.os.trans h.os,k.tape.trans h.tape,k.output.trans h.output,Nat.le_trans h.size k.size,fun i hi hn=>(k.block i (Nat.lt_of_lt_of_le hi h.size)).trans (h.block i hi hn)⟩
theorem Ky.set {P:Nat→Prop}{a b:World}(h:Ky P a b)(p:Addr)(hp:p.block<a.heap.size→P p.block)(u:Value):Ky P a (b.setCell p u) :=
 ⟨h.os,h.tape,h.output,by simpa [World.setCell] using h.size,fun i hi hn=>(Below.heap_setCell _ _ _ _ (fun e=>hn (by subst e;exact hp hi))).trans (h.block i hi hn)⟩
theorem Ky.to {P:Nat→Prop}{a b:World}(h:Ky P a b){B:Nat}(hB:B≤a.heap.size)(hP:∀k,P k→B≤k):Below B a b :=
 ⟨h.os,h.tape,h.output,h.size,fun k hk=>h.block k (Nat.lt_of_lt_of_le hk hB) (fun hp=>Nat.not_lt.2 (hP k hp) hk)⟩
theorem Ky.nd {P:Nat→Prop}{w w':World}(h:Ky P w w'){b o:Nat}{x:Nd}(hx:NdAt w b o x)(hb:b<w.heap.size)(hp:¬ P b):NdAt w' b o x:=hx.below (h.block b hb hp)
def mix (x y:Nd)(k:Nat):Nd:=⟨x.lv,if 0<k then y.a else x.a,if 1<k then y.b else x.b,if 2<k then y.c else x.c,if 3<k then y.d else x.d⟩
theorem ziy {x y:Nd}(h:x.lv=y.lv):mix x y 4=y:=by
 unfold mix;rw[h];rfl
theorem ztF (x y:Nd)(k:Nat){i:Nat}(hi:i<4):(mix x y k).kid i=if i<k then y.kid i else x.kid i:=by
 match i,hi with
 | 0,_=>rfl
 | 1,_=>rfl
 | 2,_=>rfl
 | 3,_=>rfl
def zbo (w:World)(g:Nat)(x:Nd):Prop:=w.heap[g]?=some (.cells #[.int .i64 x.lv,.int .i64 x.a,.int .i64 x.b,.int .i64 x.c,.int .i64 x.d] 95)
theorem zbo.lt {w:World}{g:Nat}{x:Nd}(h:zbo w g x):g<w.heap.size:=(Array.getElem?_eq_some_iff.1 h).1
theorem zbo.at_ {w:World}{g:Nat}{x:Nd}(h:zbo w g x):NdAt w g 0 x:=by
 refine⟨?_,?_,?_,?_,?_⟩ <;> (rw[cell_of_row w g _ _ _ (0,0) h];rfl)
theorem zbo.free {w:World}{g:Nat}{x:Nd}(h:zbo w g x)(k:Nat):w.frozen? ⟨g,k,none⟩=false:=frozen_of_row w g k _ _ h
theorem zbo.new (w:World)(x:Nd):zbo (w.alloc (.cells #[.int .i64 x.lv,.int .i64 x.a,.int .i64 x.b,.int .i64 x.c,.int .i64 x.d] 95)) w.heap.size x:=heap_alloc_new w _
theorem zbo.stay {w w':World}{g:Nat}{x:Nd}(h:zbo w g x)(hb:w'.heap[g]?=w.heap[g]?):zbo w' g x:=hb.trans h
theorem zbo.setKid {w:World}{g:Nat}{x y:Nd}{k:Nat}(h:zbo w g (mix x y k))(hk:k<4){o:Nat}(ho:o=1+k){u:Int}(hu:u=y.kid k):zbo (w.setCell ⟨g,o,none⟩ (.int .i64 u)) g (mix x y (k+1)):=by
 subst ho;subst hu;refine(heap_setCell_same w g (1+k) _ _ _ h).trans ?_
 match k,hk with
 | 0,_=>rfl
 | 1,_=>rfl
 | 2,_=>rfl
 | 3,_=>rfl
def OwnD (w:World)(base g n:Nat)(ds:List Nat):Prop :=
 ds.length=n∧w.ownsRow base 3 1 (.slice (some ⟨g,0,none⟩) n n) n (ds.map fun k:Nat=>Value.int .i64 (k:Int))
theorem OwnD.cell {w:World}{base g n:Nat}{ds:List Nat}(h:OwnD w base g n ds){k:Nat}(hk:k<n):w.cell? ⟨g,k,none⟩=some (.int .i64 ((ds.getD k 0:Nat):Int)):=by
 have hl:k<ds.length:=by have:=h.1;omega
 rw[h.2.cellAt k (by omega),List.getElem?_map,List.getD_eq_getElem?_getD,List.getElem?_eq_getElem hl];rfl
theorem OwnD.free {w:World}{base g n:Nat}{ds:List Nat}(h:OwnD w base g n ds)(k:Nat):w.frozen? ⟨g,k,none⟩=false:=h.2.frozenAt k
theorem OwnD.set {w:World}{base g n:Nat}{ds:List Nat}(h:OwnD w base g n ds)(k u:Nat):OwnD (w.setCell ⟨g,k,none⟩ (.int .i64 (u:Int))) base g n (ds.set k u):=by
 refine⟨by simpa using h.1,?_⟩;rw[List.map_set];exact(h.2.stored k _).1
theorem zvS (n:Nat):(madeCells (Value.cells (.int .i64 0)) (n*1)).toList=(List.replicate n 0).map (fun k:Nat=>Value.int .i64 (k:Int)):=by
 rw[Nat.mul_one];refine List.ext_getElem (by simp[madeCells]) fun i h1 h2=>?_;simp[madeCells,Value.cells,Nat.mod_one]
theorem OwnD.made {w:World}{base g n:Nat}(h:w.ownsRow base 3 1 (.slice (some ⟨g,0,none⟩) n n) n (madeCells (Value.cells (.int .i64 0)) (n*1)).toList):OwnD w base g n (List.replicate n 0) :=
 ⟨by simp,by rw[←zvS];exact h⟩
theorem OwnD.lt {w:World}{base g n:Nat}{ds:List Nat}(h:OwnD w base g n ds):base≤g∧g<w.heap.size:=h.2.lt g rfl
theorem OwnD.gbr {w w':World}{base g n:Nat}{ds:List Nat}{row:Option Nat}(h:OwnD w base g n ds)(hg:w.grownBy w' row)(hv:row≠some g):OwnD w' base g n ds:=⟨h.1,h.2.kept hg (.inr (fun e=>hv e.symm))⟩
theorem zbJ (w:World)(p:Addr)(u:Value):w.grownBy (w.setCell p u) (some p.block) :=
 ⟨rfl,rfl,rfl,by simp[World.setCell],fun i _ hi=>Below.heap_setCell _ _ _ _ (fun e=>hi (by rw[e]))⟩
theorem zgG (w:World)(base:Nat):OwnN w base (.slice none 0 0) []:=⟨by simp,World.ownsRow_nil w base _ 5⟩
theorem zoR {v:Value}{r:Option Nat}(h:∀k,v.ownBlock=some k→r≠some k):v.ownBlock=none∨v.ownBlock≠r:=by
 cases hv:v.ownBlock with
 | none=>exact .inl rfl
 | some k=>exact .inr (fun e=>h k hv e.symm)
theorem znj (A:Option Addr)(c n:Nat)(l:List Nd)(p k:Nat)(w:World)(h:Ns w A c l)(hn:l.length=n)(hl:zac l=true)(hp:p<n)(hlv:1<(at_ l p).lv)(hk:k<4) :
  Calls Tryz.prog 199 #[.slice A n c,.int .i64 ((p:Int)+1),.int .i64 (k:Int)] w fun e w'=>e=.returned (.int .i64 (innK l (at_ l p) k))∧w=w':=by
 have hcap:=h.cap;rw[hn] at hcap;have hpl:p<l.length:=by omega
 obtain⟨b,off,rfl,hb,hc⟩:=h.at_ (by omega)
 have hyc:=(hc p hpl).kid hk;have hfk:=zak (zaf hl hpl) hk;obtain⟨R,hR⟩:∃R,R=innK l (at_ l p) k:=⟨_,rfl⟩;rw[←hR];obtain⟨y,hy⟩:∃y,y=(at_ l p).kid k:=⟨_,rfl⟩;unfold innK at hR;rw[←hy] at hR hfk hyc;have i1:(p:Int)<(n:Int):=by omega
 have i2:(k:Int)<4:=by omega
 rcases zaA (by omega) hfk with rfl|⟨r,rfl,hr,_⟩
 ·rw[if_pos rfl] at hR;subst hR;clear hy hfk hn hl hlv hc h;go_enter Tryz.func199,Tryz.ntmps199;go_wp2_with fail;go_ret;exact⟨rfl,rfl⟩
 ·rw[if_neg (by omega),show((r:Int)+1).toNat-1=r by omega] at hR;obtain⟨k2,hk2⟩:∃k2,k2=3-k:=⟨_,rfl⟩;have hzc:=(hc r hr).kid (q:=k2) (by omega);rw[←hk2] at hR;rw[←hR] at hzc;have t1:((r:Int)+1==0)=false:=beq_eq_false_iff_ne.2 (by omega);have e3:(3:Int)-(k:Int)=(k2:Int):=by omega
  have i3:(r:Int)<(n:Int):=by omega
  have i4:(k2:Int)<4:=by omega
  have HE:=Hh e3;clear hy hfk hn hl hlv hc hk2 hR h hr;go_enter Tryz.func199,Tryz.ntmps199;go_wp2_with fail;go_ret;exact⟨rfl,rfl⟩
theorem zeK (A:Option Addr)(c n:Nat)(l:List Nd)(x:Nd)(w:World)(h:Ns w A c l)(hn:l.length=n)(hx:x.wf) :
  Calls Tryz.prog 200 #[.slice A n c,ndv x] w fun e w'=>e=.returned (.int .i64 ((fnd l x:Nat):Int))∧Below w.heap.size w w':=by
 have hcap:=h.cap;rw[hn] at hcap;have hb:=(Below.refl w.heap.size w).alloc (Nat.le_refl _) (.cells #[.int .i64 x.lv,.int .i64 x.a,.int .i64 x.b,.int .i64 x.c,.int .i64 x.d] 95);have HB:=Hh hb;have HNL:=Hh (h.below hb);have HL:=Hh hn;have HWX:=Hh hx;obtain⟨R,hR⟩:∃R,R=fnd l x:=⟨_,rfl⟩;rw[←hR];have HR:=Hh hR;have hbx:=NdAt.new w x 95;clear h hn hb hx hR;go_enter Tryz.func200,Tryz.ntmps200;go_wp2_with fail;obtain⟨f1,f2,f3,f4,f5⟩:=hbx;generalize hg:w.heap.size=g at *;generalize hW:w.alloc _=W at *;have HG:=Hh hg;clear hW hg;go_loopw [5] (fun i wr=>∃(k nd:Nat),wr=W.drewN nd∧k≤n∧i=.int .i64 k∧∀j,j<k→at_ l j≠x) (fun i _=>n-(intOf i).toNat)
 case atStart=>exact⟨0,0,rfl,by omega,rfl,fun j hj=>by omega⟩
 case round =>
  obtain⟨k,nd,rfl,hk,rfl,hall⟩:=hrel;have HA:=Hh hall;clear hall;by_cases hlt:k<n
  ·obtain⟨b,off,rfl,hb,hc⟩:=HNL.out.at_ (by rw[HL.out];omega)
   obtain⟨c1,c2,c3,c4,c5⟩:=hc k (by rw[HL.out];exact hlt);have hwy:=HNL.out.wf (i:=k) (by rw[HL.out];exact hlt);clear hc;obtain⟨y,hy⟩:∃y,y=at_ l k:=⟨_,rfl⟩
   rw[←hy] at c1 c2 c3 c4 c5 hwy;have HY:=Hh hy;have hq:=zlK y x hwy HWX.out;have i1:(k:Int)<(n:Int):=by omega
   have i2:(0:Int)≤(k:Int):=by omega
   clear hy hwy;by_cases hxy:y=x
   ·have HXY:=Hh hxy;rw[decide_eq_true hxy] at hq;clear hxy;go_wp2_with fail;go_quiet (fail);go_wp2_with fail;go_ret;refine⟨?_,zaG (by rw[HG.out];exact HB.out) _⟩;rw[HR.out,ziq (i:=k) (by rw[HL.out];exact hlt) (by rw[←HY.out];exact HXY.out) HA.out];simp
   ·have HXY:=Hh hxy;rw[decide_eq_false hxy] at hq;clear hxy;go_wp2_with fail;go_quiet (fail);go_wp2_with fail;go_roundw
    case rel =>
     refine⟨k+1,_,rfl,by omega,by go_num,fun j hj=>?_⟩;rcases Nat.lt_or_ge j k with h1|h1
     ·exact HA.out j h1
     ·rw[show j=k by omega,←HY.out];exact HXY.out
    case measure=>simp[intOf];omega
  ·go_wp2_with fail;go_ret;refine⟨?_,zaG (by rw[HG.out];exact HB.out) _⟩;rw[HR.out,zlQ fun j hj=>HA.out j (by rw[HL.out] at hj;omega)];rfl
theorem zlX (A:Option Addr)(c n:Nat)(l:List Nd)(w:World)(h:Ns w A c l)(hn:l.length=n) :
  Calls Tryz.prog 55 #[.slice A n c] w fun e w'=>e=.returned (.bool (zac l))∧Below w.heap.size w w' :=
 (zeB A c n l w h hn).mono fun _ _ ⟨he,hw⟩=>⟨he,zkB hw⟩
def okB (l:List Nd)(k:Int):Bool:=zac l&&decide (0≤k∧k≤(l.length:Int))
def ofQ (l:List Nd)(k:Int):List Nd:=if okB l k=true then OfL l k.toNat else []
def ofE (l:List Nd)(k:Int):Int:=if okB l k=true then 0 else 1
def RetO (l:List Nd)(k:Int)(w:World)(e:Ending)(w':World):Prop :=
 ∃A c,e=.returned (.tuple #[.agg #[.slice A (ofQ l k).length c],.int .i64 (ofE l k)])∧Ns w' A c (ofQ l k)∧(A=none→c=0)∧Below w.heap.size w w'
theorem zuU {l:List Nd}{k:Int}(h:okB l k=false):ofQ l k=[]∧ofE l k=1:=by
 unfold ofQ ofE;rw[if_neg (by rw[h];simp),if_neg (by rw[h];simp)];exact⟨rfl,rfl⟩
theorem ztG {l:List Nd}{n:Nat}(hl:zac l=true)(hn:n≤l.length):ofQ l (n:Int)=OfL l n∧ofE l (n:Int)=0:=by
 have h:okB l (n:Int)=true:=by
  unfold okB;rw[hl,decide_eq_true (by omega)];rfl
 unfold ofQ ofE;rw[if_pos h,if_pos h,Int.toNat_natCast];exact⟨rfl,rfl⟩
theorem zuV {l:List Nd}{k:Int}(h:zac l=false∨k<0∨(l.length:Int)<k):okB l k=false:=by
 unfold okB;rcases h with h|h
 ·rw[h];rfl
 ·rw[decide_eq_false (by omega),Bool.and_false]
theorem zlY (w:World):Ns w none 0 []:=⟨by simp,Nat.le_refl _,by simp[maxLen],fun h=>absurd h (Nat.lt_irrefl 0)⟩
def zvT (l:List Nd)(k:Nat)(w:World)(e:Ending)(w':World):Prop :=
 ∃v cur j,e=.returned (.tuple #[v,.int .i64 ((j:Nat):Int)])∧OwnN w' w.heap.size v cur∧zac cur=true∧j≤cur.length∧den cur j=shrT (den l k)∧cur.length≤l.length+1329∧Below w.heap.size w w'
def lenOf:Value→Nat|.slice _ n _=>n|_=>0
theorem OwnN.stays {w w':World}{base:Nat}{v:Value}{l:List Nd}(h:OwnN w base v l)(hb:Below w.heap.size w w'):OwnN w' base v l :=
 h.gbr (row:=none) ⟨hb.os,hb.tape,hb.output,hb.size,fun i hi _=>hb.block i hi⟩ (by
  cases hv:v.ownBlock
  ·exact .inl rfl
  ·exact .inr (by simp))
def SS (l:List Nd)(t:Tr)(cur:List Nd)(p:Nat):Prop:=zac cur=true∧p<cur.length∧den cur (p+1)≠.e∧shrT (den cur (p+1))=t∧(cur.length:Int)+(at_ cur p).lv≤l.length+1329
theorem SS.start {l:List Nd}(hl:zac l=true){p:Nat}(hp:p<l.length)(hne:den l (p+1)≠.e):SS l (shrT (den l (p+1))) l p:=by
 have:=zap (zaf hl hp);exact⟨hl,hp,hne,rfl,by omega⟩
theorem SS.next {l cur:List Nd}{t:Tr}{p:Nat}(h:SS l t cur p)(hh:holT (den cur (p+1))=true):SS l t (cur++[innN cur (at_ cur p)]) cur.length:=by
 obtain⟨h1,h2,h3,h4,h5⟩:=h;obtain⟨s1,s2,s3,s4⟩:=zrd h1 h2 hh;refine⟨s1,by simp,by rw[s2];exact s3,by rw[s2,s4];exact h4,?_⟩;rw[zfq];show(((cur++[_]).length:Nat):Int)+((at_ cur p).lv-1)≤_;rw[List.length_append];show((cur.length+1:Nat):Int)+_≤_;omega
theorem SS.len {l cur:List Nd}{t:Tr}{p:Nat}(h:SS l t cur p):cur.length≤l.length+1328:=by
 obtain⟨h1,h2,h3,h4,h5⟩:=h;have:=zap (zaf h1 h2);omega
theorem zkM (A:Option Addr)(c n:Nat)(l:List Nd)(k:Nat)(w:World)(h:Ns w A c l)(hn:l.length=n)(hl:zac l=true)(hn9:n≤900000)(hA:A=none→c=0)(hk:k≤n) :
  Calls Tryz.prog 152 #[.slice A n c,.int .i64 (k:Int)] w (zvT l k w):=by
 have hcap:=h.cap;rw[hn] at hcap;have HN:=Hh h;have HL:=Hh hn;have HLL:=Hh hl;have HA:=Hh hA;have q0:True:=trivial;have hemp:=zeG hl (n:=k) (by omega);clear h hn hl hA;by_cases he:den l k=.e
 ·have HE:=Hh he;rw[he] at hemp;have HM:=Hh (show empB l k=true from hemp);clear he hemp;go_enter Tryz.func152,Tryz.ntmps152;go_wp2_with (first
   | (have _t:=q0;at_builtin;clear _t;go_loud (refine zaC _ rfl _ _ rfl w.heap.size _ [] l A n c rfl rfl (OwnN.start _) (HN.out.below ((Below.refl _ w).alloc (Nat.le_refl _) _)) HL.out HA.out (by simp;omega) (by simp) ?_;intro v2 w2 ho2 hg2 hk2;rw[List.nil_append] at ho2;have HO:=Hh ho2;obtain⟨A2,c2,hv2,hn2,hA2,hB2⟩:=ho2.shape;rw[HL.out] at hv2;subst hv2;have HN2:=Hh hn2;have HB:=Hh (((Below.refl _ w).alloc (Nat.le_refl _) _).grown hg2 (by simp) (fun k hk=>by cases hk;exact Nat.le_refl _));clear ho2 hg2 hk2 hn2 hA2 hB2;have q1:=q0;clear q0))
   | (have _t:=q1;go_at_call 198;clear _t;go_loud (refine(zhx _ _ n l k _ HN2.out HL.out HLL.out (by omega) hk).mono ?_;rintro e w3 ⟨rfl,b3⟩;have HB3:=Hh b3;clear b3;rw[HM.out];have q2:=q1;clear q1)))
  go_ret2;refine⟨.slice A2 n c2,l,0,rfl,?_,HLL.out,Nat.zero_le _,?_,by omega,HB.out.trans (HB3.out.mono HB.out.size)⟩
  ·exact HO.out.stays HB3.out
  ·rw[zav,HE.out,ztv]
 ·obtain⟨p,rfl⟩:∃p,k=p+1:=⟨k-1,by have:k≠0:=fun e=>he (by rw[e];exact zav l);omega⟩;have HM:=Hh (show empB l (p+1)=false by rw[hemp];exact zuP.2 he);have HS0:=Hh (SS.start HLL.out (by rw[HL.out];omega) he);clear he hemp;go_enter Tryz.func152,Tryz.ntmps152;go_wp2_with (first
   | (have _t:=q0;at_builtin;clear _t;go_loud (refine zaC _ rfl _ _ rfl w.heap.size _ [] l A n c rfl rfl (OwnN.start _) (HN.out.below ((Below.refl _ w).alloc (Nat.le_refl _) _)) HL.out HA.out (by simp;omega) (by simp) ?_;intro v2 w2 ho2 hg2 hk2;rw[List.nil_append] at ho2;have HO:=Hh ho2;obtain⟨A2,c2,hv2,hn2,hA2,hB2⟩:=ho2.shape;rw[HL.out] at hv2;subst hv2;have HN2:=Hh hn2;have HB:=Hh (((Below.refl _ w).alloc (Nat.le_refl _) _).grown hg2 (by simp) (fun k hk=>by cases hk;exact Nat.le_refl _));clear ho2 hg2 hk2 hn2 hA2 hB2;have q1:=q0;clear q0))
   | (have _t:=q1;go_at_call 198;clear _t;go_loud (refine(zhx _ _ n l (p+1) _ HN2.out HL.out HLL.out (by omega) hk).mono ?_;rintro e w3 ⟨rfl,b3⟩;have HB3:=Hh b3;clear b3;rw[HM.out];have q2:=q1;clear q1)))
  obtain⟨v0,hv0⟩:∃v0,v0=Value.slice A2 n c2:=⟨_,rfl⟩;have HO3:=Hh (show OwnN w3 w.heap.size v0 l by rw[hv0];exact HO.out.stays HB3.out);have HBA:=Hh (HB.out.trans (HB3.out.mono HB.out.size));rw[←hv0];clear hv0;go_loopw [6,1,7,8] (fun z1 z2 z3 z4 wr=>∃(cur:List Nd) (r:Nat) (v u1 u2:Value),v=z1∧z2=.int .i64 ((r:Int)+1)∧z3=u1∧z4=u2∧OwnN wr w.heap.size v cur∧SS l (shrT (den l (p+1))) cur r∧Below w.heap.size w wr) (fun z1 _ _ _ _=>n+2000-lenOf z1)
  case atStart=>exact⟨l,p,_,_,_,rfl,by simp,rfl,rfl,HO3.out,HS0.out,HBA.out⟩
  case round =>
   obtain⟨cur,r,v,u1,u2,rfl,rfl,rfl,rfl,how,hss,hbw⟩:=hrel;have HS:=Hh hss;have HW:=Hh how;have hlen:=hss.len;rw[HL.out] at hlen;obtain⟨A3,c3,rfl,hn3,hA3,hB3⟩:=how.shape;have HN3:=Hh hn3;have HA3:=Hh hA3;have HB4:=Hh hB3;obtain⟨g1,g2,g3,g4,g5⟩:=hss;have hhol:=znb g1 g2 g3;obtain⟨cn,hcn⟩:∃cn,cn=cur.length:=⟨_,rfl⟩;rw[←hcn] at g2 hlen ⊢;have HCN:=Hh hcn;have G1:=Hh g1;have G3:=Hh g3;have G4:=Hh g4;clear how hn3 hA3 hB3 g1 g3 g4 g5 hcn;cases hh:holT (den cur (r+1)) with
   | false =>
    have HH:=Hh hh;rw[hh] at hhol;have HHO:=Hh hhol;clear hh hhol;go_wp2_with (go_at_call 56;go_loud (refine(zdh _ _ cn cur (r+1) _ HN3.out HCN.out.symm G1.out (by omega) (by omega)).mono ?_;rintro e w4 ⟨rfl,b4⟩;have HB5:=Hh b4;clear b4;rw[HHO.out]));go_ret2;have hcn:=HCN.out;have hll:=HL.out;refine⟨.slice A3 cn c3,cur,r+1,rfl,?_,G1.out,by omega,?_,by omega,hbw.trans (HB5.out.mono hbw.size)⟩
    ·rw[hcn];exact HW.out.stays HB5.out
    ·rw[←G4.out,zcA HH.out]
   | true =>
    have HH:=Hh hh;rw[hh] at hhol;have HHO:=Hh hhol;have hlv:=(zsA G1.out (by rw[←HCN.out];exact g2) hh).1;clear hh hhol;obtain⟨b,off,rfl,hb,hc⟩:=HN3.out.at_ (by rw[←HCN.out];omega)
    have c1:=(hc r (by rw[←HCN.out];exact g2)).1;have HLV:=Hh hlv;have HBB:=Hh hb;obtain⟨x,hx⟩:∃x,x=at_ cur r:=⟨_,rfl⟩
    rw[←hx] at c1 hlv;have HX:=Hh hx;have hfx:=zap (zaf G1.out (i:=r) (by rw[←HCN.out];exact g2));rw[←hx] at hfx;have i1:(r:Int)<(cn:Int):=by omega
    clear hc hb hx;go_wp2_with (go_at_call 56;go_loud (refine(zdh _ _ cn cur (r+1) _ HN3.out HCN.out.symm G1.out (by omega) (by omega)).mono ?_;rintro e w4 ⟨rfl,b4⟩;have HB5:=Hh b4;have c1:=(World.cell?_of_block (w:=wr) (a:=⟨b,off+r*5,none⟩) (b4.block b HBB.out)).trans c1;clear b4;rw[HHO.out]));have HBW4:=Hh (hbw.trans (HB5.out.mono hbw.size));have HW4:=Hh (HW.out.stays HB5.out);have HN4:=Hh (HN3.out.below HB5.out);obtain⟨g,hg⟩:∃g,g=w4.heap.size:=⟨_,rfl⟩;have hbox:zbo (w4.alloc (.cells #[.int .i64 (x.lv-1),.int .i64 0,.int .i64 0,.int .i64 0,.int .i64 0] 95)) g (mix ⟨x.lv-1,0,0,0,0⟩ (innN cur x) 0):=by rw[hg];exact zbo.new w4 ⟨x.lv-1,0,0,0,0⟩
    have HBOX:=Hh hbox;have HG5:=Hh (World.grownBy_alloc w4 (.cells #[.int .i64 (x.lv-1),.int .i64 0,.int .i64 0,.int .i64 0,.int .i64 0] 95) (some g));have HGB:=Hh (show b<g by rw[hg];exact Nat.lt_of_lt_of_le HBB.out HB5.out.size);have HGW:=Hh (show w.heap.size≤g by rw[hg];exact HBW4.out.size);have HGO:=Hh hg;rw[←hg];generalize hWW:w4.alloc _=W at *;clear hWW hg hbox c1;go_loopw [8] (fun i wq=>∃(q:Nat),q≤4∧i=.int .i64 q∧zbo wq g (mix ⟨x.lv-1,0,0,0,0⟩ (innN cur x) q)∧w4.grownBy wq (some g)) (fun i _=>4-(intOf i).toNat)
    case atStart=>exact⟨0,by omega,rfl,HBOX.out,HG5.out⟩
    case round =>
     obtain⟨q,hq,rfl,hbq,hgq⟩:=hrel;have HBQ:=Hh hbq;have HGQ:=Hh hgq;have HNQ:=Hh (HN4.out.gbr hgq (fun a ea e=>by cases ea;exact absurd (Option.some.inj e) (Nat.ne_of_lt HGB.out)));clear hbq hgq;by_cases hq4:q<4
     ·have i2:(q:Int)<4:=by omega
      have i3:(0:Int)≤(q:Int):=by omega
      have hfz:=HBQ.out.free (1+q);have hce:=HBQ.out.at_.kid hq4
      have e1:0+1+q=1+q:=by omega
      rw[e1] at hce;generalize (mix ⟨x.lv-1,0,0,0,0⟩ (innN cur x) q).kid q=z at hce;clear e1;go_wp2_with (go_at_call 199;go_loud (refine(znj _ _ cn cur r q _ HNQ.out HCN.out.symm G1.out g2 HLV.out hq4).mono ?_;rintro e w5 ⟨rfl,rfl⟩;rw[←HX.out]));go_roundw
      case rel =>
       refine⟨q+1,by omega,by go_num,HBQ.out.setKid hq4 (by omega) (zlT cur x hq4).symm,zbf HGQ.out (zbJ _ _ _)⟩
      case measure=>simp[intOf];omega
     ·have hq5:q=4:=by omega
      subst hq5;rw[ziy (show(⟨x.lv-1,0,0,0,0⟩:Nd).lv=(innN cur x).lv from rfl)] at HBQ;obtain⟨f1,f2,f3,f4,f5⟩:=HBQ.out.at_
      have HSN:=Hh (HS.out.next HH.out);rw[←HX.out] at HSN;obtain⟨y,hy⟩:∃y,y=innN cur x:=⟨_,rfl⟩;rw[←hy] at f1 f2 f3 f4 f5 HSN;have hwy:y.wf:=by
       have h1:=(zlU G1.out (p:=r) (by rw[←HCN.out];exact g2) HLV.out G3.out).1;rw[←HX.out,←hy] at h1;exact zuT h1 (by rw[←HCN.out];omega)
      have HWY:=Hh hwy;have HOQ:=Hh (show OwnN wr w.heap.size (.slice (some ⟨b,off,none⟩) cn c3) cur by
       have h1:=HW4.out.gbr HGQ.out (.inr (fun e=>absurd (Option.some.inj e) (Nat.ne_of_lt HGB.out)));rw[HCN.out];exact h1)
      have hgs:w.heap.size≤wr.heap.size:=Nat.le_trans HBW4.out.size HGQ.out.size;clear hwy hy;go_wp2_with (at_builtin;go_loud (refine zaC _ rfl _ _ rfl w.heap.size _ cur [y] _ 1 1 rfl rfl (HOQ.out.alloc _) (zix _ _ y HWY.out rfl) rfl (fun e=>by cases e) (by rw[←HCN.out];omega) (by simp;omega) ?_;intro v6 w6 ho6 hg6 hk6;obtain⟨A6,c6,hv6,-,-,-⟩:=ho6.shape;have HO6:=Hh ho6;have HG6:=Hh hg6;have HK6:=Hh hk6;subst hv6;clear ho6 hg6 hk6));go_roundw
      case rel =>
       refine⟨cur++[y],cur.length,.slice A6 (cur++[y]).length c6,_,_,(by simp),?_,rfl,rfl,HO6.out,HSN.out,?_⟩
       ·simp
       ·refine((HBW4.out.grown HGQ.out HBW4.out.size (fun k hk=>by cases hk;exact HGW.out)).alloc hgs _).grown HG6.out (by simp;omega) (fun k hk=>(HOQ.out.lt k hk).1)
      case measure =>
       have hcn:=HCN.out;simp[lenOf];omega
end Go.Proofs.YtcippfaljoagaaaGreatDoor
