import Derived.Test.YtfjajpnfjjdnpaaGreatDoorWClM
import Derived.Test.YtfjajpnfjjdnpaaGreatDoorWBigRow
import Derived.Test.YtfjajpnfjjdnpaaGreatDoorWNdRow

set_option linter.unusedVariables false
set_option linter.unusedSimpArgs false
set_option maxRecDepth 100000
set_option maxHeartbeats 6400000
namespace Go.Proofs.YtfjajpnfjjdnpaaGreatDoor
open Go.ChangeShapes Go.WideShapes Go.ChangeAt Go.RowKit Go.Deep Num
theorem zgC:Tryz.prog.cellsOf 78=5:=by kernel_rfl
theorem zkL:Tryz.prog.cellsOf 4=1:=by kernel_rfl
theorem zkM:Tryz.prog.cellsOf 46=1:=by kernel_rfl
theorem zkN:Tryz.prog.cellsOf 5=1:=by kernel_rfl
section
variable {H:Type} {enc:TypeId × Value→H} {W:World} {base:Nat}
theorem zpc {fuel:Nat}{cs:List Value}{x:DataW H × List MemPlace}(h:DataW.trod enc Tryz.prog W base (fun _=>true) true fuel 48 cs=some x)(hlt:∀z∈x.2,z.block<W.heap.size) :
  ∃s A c xs,cs=[.bool s,.slice A xs.length c]∧Us W A c xs:=by
 obtain⟨xs,n,_,rfl,hlen,hxl,hf⟩:=DataW.trod_struct Tryz.underlying48 h;rw[zfs] at hlen;have h0:DataW.trod enc Tryz.prog W base (fun _=>true) true n 4 ((cs.drop 0).take (Tryz.prog.cellsOf 4))=xs[0]?:=hf 0 _ rfl;have h1:DataW.trod enc Tryz.prog W base (fun _=>true) true n 46 ((cs.drop 1).take (Tryz.prog.cellsOf 46))=xs[1]?:=hf 1 _ rfl;rw[zkL] at h0;rw[zkM] at h1
 match cs,hlen with
 | [v0,v1],_ =>
  match xs,hxl with
  | [y0,y1],_ =>
   have h0':DataW.trod enc Tryz.prog W base (fun _=>true) true n 4 [v0]=some y0:=h0;have h1':DataW.trod enc Tryz.prog W base (fun _=>true) true n 46 [v1]=some y1:=h1;obtain⟨b,e0,rfl⟩:=DataW.trod_bool Tryz.underlying4 h0';simp at e0;subst e0;obtain⟨A,c,us,rfl,hU⟩:=zri h1' (fun z hz=>hlt z (by simp[hz]));exact⟨b,A,c,us,rfl,hU⟩
theorem zuc {fuel:Nat}{cs:List Value}{x:DataW H × List MemPlace}(h:DataW.trod enc Tryz.prog W base (fun _=>true) true fuel 78 cs=some x)(hlt:∀z∈x.2,z.block<W.heap.size) :
  ∃v:Cv,cs=[.bool v.sx,.slice v.ax v.xs.length v.cx,.bool v.sy,.slice v.ay v.ys.length v.cy,.int .u8 v.st]∧CvU W v:=by
 obtain⟨xs,n,_,rfl,hlen,hxl,hf⟩:=DataW.trod_struct Tryz.underlying78 h;rw[zgC] at hlen;have h0:DataW.trod enc Tryz.prog W base (fun _=>true) true n 48 ((cs.drop 0).take (Tryz.prog.cellsOf 48))=xs[0]?:=hf 0 _ rfl;have h1:DataW.trod enc Tryz.prog W base (fun _=>true) true n 48 ((cs.drop 2).take (Tryz.prog.cellsOf 48))=xs[1]?:=hf 1 _ rfl;have h2:DataW.trod enc Tryz.prog W base (fun _=>true) true n 5 ((cs.drop 4).take (Tryz.prog.cellsOf 5))=xs[2]?:=hf 2 _ rfl;rw[zfs] at h0 h1;rw[zkN] at h2
 match cs,hlen with
 | [v0,v1,v2,v3,v4],_ =>
  match xs,hxl with
  | [y0,y1,y2],_ =>
   have h0':DataW.trod enc Tryz.prog W base (fun _=>true) true n 48 [v0,v1]=some y0:=h0;have h1':DataW.trod enc Tryz.prog W base (fun _=>true) true n 48 [v2,v3]=some y1:=h1;have h2':DataW.trod enc Tryz.prog W base (fun _=>true) true n 5 [v4]=some y2:=h2;obtain⟨s,A,c,us,e0,u0⟩:=zpc h0' (fun z hz=>hlt z (by simp[hz]));obtain⟨t,B,d,vs,e1,u1⟩:=zpc h1' (fun z hz=>hlt z (by simp[hz]));obtain⟨m,e2,_,hw⟩:=DataW.trod_int Tryz.underlying5 h2';have k1:IntKind.u8.min=0:=rfl;have k2:IntKind.u8.max=255:=rfl;simp[Lit.wf,k1,k2] at hw;simp at e0 e1 e2;obtain⟨rfl,rfl⟩:=e0;obtain⟨rfl,rfl⟩:=e1;subst e2;obtain⟨k,rfl⟩:∃k:Nat,m=(k:Int):=⟨m.toNat,by omega⟩;exact⟨⟨s,A,c,us,t,B,d,vs,k⟩,rfl,u0,u1,show k≤255 by omega⟩
end
theorem zmb {P:Nat→Cv→Prop}:∀n,(∀i,i<n→∃y,P i y)→∃l:List Cv,l.length=n∧∀i,i<n→P i (cat l i)
 | 0,_=>⟨[],rfl,fun i hi=>by omega⟩
 | n+1,h=>by
  obtain⟨l,hl,hp⟩:=zmb n (fun i hi=>h i (by omega));obtain⟨y,hy⟩:=h n (by omega);refine⟨l++[y],by simp[hl],fun i hi=>?_⟩;rcases Nat.lt_or_ge i n with h1|h1
  ·have e:cat (l++[y]) i=cat l i:=by
    unfold cat;rw[List.getElem?_append_left (by omega)]
   rw[e];exact hp i h1
  ·have e:cat (l++[y]) i=y:=by
    unfold cat;rw[List.getElem?_append_right (by omega),hl,show i-n=0 by omega];rfl
   rw[e,show i=n by omega];exact hy
theorem zpd {H:Type}{enc:TypeId × Value→H}{W:World}{base b0:Nat}{r:Reach}{v:Value}{d:DataW H}{p:List MemPlace}(hok:Value.okWide Tryz.prog W r b0 22 v)
  (h:DataW.Trod enc Tryz.prog W base (fun _=>true) true 22 v d p) (hlt:∀y∈p,y.block<W.heap.size):∃A c l,v=.slice A l.length c∧Cs W A c l∧(A=none→c=0):=by
 obtain⟨a0,len0,cap0,rfl⟩:=okWide_slice Tryz.underlying22 hok;obtain⟨fuel,hf⟩:=h;rcases open_slice Tryz.underlying22 hf with⟨hcs,hx⟩|⟨a,len,cap,m,n,D,Pl,hcs,hb,hl,hm,hmm,hx,hi⟩
 ·simp[Value.cells] at hcs;obtain⟨rfl,rfl,rfl⟩:=hcs;exact⟨none,0,[],rfl,⟨by simp,by simp,by simp[maxLen],fun h=>by simp at h⟩,fun _=>rfl⟩
 ·simp[Value.cells] at hcs;obtain⟨rfl,rfl,rfl⟩:=hcs;simp only[if_true] at hmm;subst hmm;rw[zgC] at hi;have hPl:∀i,i<m→∀z∈Pl i,z.block<W.heap.size:=fun i hi z hz=>hlt z (by
   rw[(Prod.mk.injEq ..).mp hx |>.2];exact List.mem_append.2 (.inr (List.mem_flatMap.2 ⟨i,List.mem_range.2 hi,hz⟩)))
  obtain⟨l,hll,hp⟩:=zmb (P:=fun i y=>CvU W y∧W.cells? base (a.add (i*5)) 5=some [.bool y.sx,.slice y.ax y.xs.length y.cx,.bool y.sy,.slice y.ay y.ys.length y.cy,.int .u8 y.st]) len0 (fun i hlt=>by
   obtain⟨cs',hc,ht⟩:=hi i (by omega);obtain⟨y,rfl,hw⟩:=zuc ht (hPl i (by omega));exact⟨y,hw,hc⟩)
  obtain⟨b,off,spot⟩:=a;refine⟨some ⟨b,off,spot⟩,_,l,by rw[hll],⟨fun x hx=>?_,by omega,hm,fun hn=>?_⟩,fun e=>by cases e⟩
  ·obtain⟨i,hi2⟩:=List.mem_iff_getElem?.1 hx;have hil:=(List.getElem?_eq_some_iff.1 hi2).1;have:=(hp i (by omega)).1;unfold cat at this;rw[hi2] at this;exact this
  ·have hcell:∀i,i<l.length→∀(j:Nat) (u:Value),[Value.bool (cat l i).sx,.slice (cat l i).ax (cat l i).xs.length (cat l i).cx,.bool (cat l i).sy,.slice (cat l i).ay (cat l i).ys.length (cat l i).cy,.int .u8 (cat l i).st][j]?=some u→W.cell? (((⟨b,off,spot⟩:Addr).add (i*5)).add j)=some u:=by
    intro i hil j u hu;obtain⟨_,hcl,hat⟩:=World.cells?_some (hp i (by omega)).2;have hj:=(List.getElem?_eq_some_iff.1 hu).1;rw[hat j (by simpa using hj)];exact hu
   have hspot:spot=none:=by simpa [Addr.add] using World.cell?_spot (hcell 0 hn 0 _ rfl)
   subst hspot;have hc2:∀i,i<l.length→∀(j:Nat) (u:Value),[Value.bool (cat l i).sx,.slice (cat l i).ax (cat l i).xs.length (cat l i).cx,.bool (cat l i).sy,.slice (cat l i).ay (cat l i).ys.length (cat l i).cy,.int .u8 (cat l i).st][j]?=some u→W.cell? ⟨b,off+i*5+j,none⟩=some u:=by
    intro i hil j u hu;have:=hcell i hil j u hu;have hadd:(⟨b,off,none⟩:Addr).add (i*5+j)=⟨b,off+(i*5+j),none⟩:=by simp[Addr.add]
    rw[Go.Deep.add_add,hadd] at this;rw[Nat.add_assoc];exact this
   refine⟨b,off,rfl,?_,fun i hil=>⟨hc2 i hil 0 _ rfl,hc2 i hil 1 _ rfl,hc2 i hil 2 _ rfl,hc2 i hil 3 _ rfl,hc2 i hil 4 _ rfl⟩⟩;exact World.block_lt_of_cell? W _ (hc2 0 hn 0 _ rfl)
end Go.Proofs.YtfjajpnfjjdnpaaGreatDoor
