import Derived.ProofKit
import Derived.Laws.AppendOwnNone
import Derived.Test.YtfjajpnfjjdnpaaGreatDoorWClM
import Derived.Test.YtfjajpnfjjdnpaaGreatDoorLaid

set_option linter.unusedVariables false
set_option linter.unusedSimpArgs false
set_option maxRecDepth 100000
set_option maxHeartbeats 6400000
namespace Go.Proofs.YtfjajpnfjjdnpaaGreatDoor
open Go.RowKit
theorem zpe {P:Program}{f:FuncId}{fn:Func}{s:ChangeSpec}{c:OpenClaim}
    (hA:(c.wf (OpenSpec.ofChange s)&&laidOutB P&&mapsRowed P&&fn.params.all (P.readableRec ·)&&namedTie P c.named s.vars&&(c.stops==[])&&(P.stops==[])&&(c.knobs==[])&&(P.stopKnobs==[]))=true)
    (hB:(c.inPlace==P.inPlace f)=true) (hC:(c.unfollowed==P.unfollowed f)=true) (hD:(c.recurses==P.recurses f)=true) (hE:(c.named==P.varsNamed f)=true)
    (hF:((c.maps==(fn.params.toList++s.plain.varTypes P).any (P.mapsRec ·))&&(c.ifaces==(fn.params.toList++s.plain.varTypes P).any (P.ifacesRec ·))&&(c.mapsOut==P.mapsAmong fn.resultTypes.toList) &&
      (c.loops==(fn.params.toList++s.plain.varTypes P).any (P.loopsFrom ·))&&(c.wideKeys==(fn.params.toList++s.plain.varTypes P++fn.resultTypes.toList).any (P.wideKeysFrom ·)) &&
      s.vars.all (P.varReadable ·)&&fn.resultTypes.all (fun t=>P.readableRec t&&decide (t<P.types.size))&&(c.ifacesOut==fn.resultTypes.toList.any (P.ifacesRec ·))&&(c.loopsOut==fn.resultTypes.toList.any (P.loopsFrom ·)))=true)
    (hG:(c.plainKeys==P.plainKeys)=true) (hH:(c.shortTexts.isNone&&P.stopsHeard)=true) (hI:P.mayEnter=true) (hJ:(c.lifted==P.liftsFinal)=true)
    (hK:((P.make==some c.make)&&(c.kinds==(if c.domain.isEmpty then [] else fn.params.toList.map fun t=>match P.underlying t with|some (.int k)=>some k|_=>none))&&(c.pinned==c.pinnedBy) &&
      (c.veiled==(fn.params.toList++s.plain.varTypes P++fn.resultTypes.toList).any (P.veiledRec ·))&&c.veiledFits P fn.params.toList (fn.params.toList++s.plain.varTypes P++fn.resultTypes.toList))=true):joinedFacts P f fn s c=true:=by
  unfold joinedFacts;simp only[Bool.and_eq_true,and_assoc] at hA hF hH hK ⊢;obtain⟨a1,a2,a3,a4,a5,a6,a7,a8,a9⟩:=hA;obtain⟨f1,f2,f3,f4,f5,f6,f7,f8,f9⟩:=hF;obtain⟨h1,h2⟩:=hH;obtain⟨k1,k2,k3,k4,k5⟩:=hK;exact⟨a1,a2,a3,a4,a5,a6,a7,a8,a9,hB,hC,hD,hE,f1,f2,f3,f4,f5,f6,f7,f8,f9,hG,h1,h2,hI,hJ,k1,k2,k3,k4,k5⟩
end Go.Proofs.YtfjajpnfjjdnpaaGreatDoor

namespace Go.Proofs.YtfjajpnfjjdnpaaGreatDoor
open Go.RowKit Nds
theorem Tryz.infoN:(Tryz.prog.info? 70).map (fun i=>(i.zero,i.size,i.bytes))=some (some (ndv nd0),5,40):=by kernel_rfl
def ndc (x:Nd):List Value:=[.int .i64 x.lv,.int .i64 x.a,.int .i64 x.b,.int .i64 x.c,.int .i64 x.d]
def ndcs (l:List Nd):List Value:=l.flatMap ndc
theorem zmc (l:List Nd):(ndcs l).length=l.length*5:=by
 unfold ndcs
 induction l with
 | nil=>rfl
 | cons x l ih =>
  rw[List.flatMap_cons,List.length_append,ih,List.length_cons];show 5+_=_;omega
theorem zrV (l m:List Nd):ndcs (l++m)=ndcs l++ndcs m:=by
 unfold ndcs;rw[List.flatMap_append]
theorem zkO:∀(l:List Nd) (i j:Nat),i<l.length→j<5→(ndcs l)[i*5+j]?=(ndc (at_ l i))[j]?
 | [],i,_,hi,_=>by simp at hi
 | x :: l,0,j,_,hj=>by
  show(ndc x++ndcs l)[0*5+j]?=_;rw[List.getElem?_append_left (by show _<5;omega),show 0*5+j=j by omega];rfl
 | x :: l,i+1,j,hi,hj=>by
  show(ndc x++ndcs l)[(i+1)*5+j]?=_;rw[List.getElem?_append_right (by show 5≤_;omega),show(i+1)*5+j-(ndc x).length=i*5+j by show _-5=_;omega,zkO l i j (by simpa using hi) hj];rfl
theorem zrW (l:List Nd):∀u∈ndcs l,u.oneCell'=true:=fun u hu=>by
 obtain⟨x,_,hx⟩:=List.mem_flatMap.1 hu;simp only[ndc,List.mem_cons,List.not_mem_nil,or_false] at hx;rcases hx with rfl|rfl|rfl|rfl|rfl <;> rfl
theorem Ns.cells {w:World}{A:Option Addr}{c:Nat}{l:List Nd}(h:Ns w A c l){ad:Addr}(e:A=some ad):∀j u,(ndcs l)[j]?=some u→w.cell? (ad.add j)=some u:=by
 intro j u hu;have hj:=(List.getElem?_eq_some_iff.1 hu).1;rw[zmc] at hj;obtain⟨b,off,e2,_,hc⟩:=h.at_ (by omega)
 rw[e] at e2;cases e2;have hd:=hc (j / 5) (by omega);have hs:j=j / 5*5+j%5:=by omega
 rw[hs,zkO l (j / 5) (j%5) (by omega) (by omega)] at hu;obtain⟨h1,h2,h3,h4,h5⟩:=hd;have hlt:j%5<5:=Nat.mod_lt _ (by omega);have hadd:(⟨b,off,none⟩:Addr).add j=⟨b,off+j,none⟩:=by simp[Addr.add]
 rw[hadd];generalize hq:j / 5=q at *;generalize hr:j%5=r at *
 match r,hlt with
 | 0,_=>rw[show off+j=off+q*5 by omega,h1];exact hu
 | 1,_=>rw[show off+j=off+q*5+1 by omega,h2];exact hu
 | 2,_=>rw[show off+j=off+q*5+2 by omega,h3];exact hu
 | 3,_=>rw[show off+j=off+q*5+3 by omega,h4];exact hu
 | 4,_=>rw[show off+j=off+q*5+4 by omega,h5];exact hu
def OwnN (w:World)(base:Nat)(v:Value)(l:List Nd):Prop:=(∀x∈l,x.wf)∧w.ownsRow base 70 5 v l.length (ndcs l)
theorem OwnN.shape {w:World}{base:Nat}{v:Value}{l:List Nd}(h:OwnN w base v l):∃A c,v=.slice A l.length c∧Ns w A c l∧((A=none→c=0)∧∀a,A=some a→base≤a.block):=by
 rcases h.2.2 with⟨h',hn⟩|⟨g,cap,cur,h',hb,hg,hnc,hcm,hcs,htake⟩
 ·exact⟨none,0,by rw[h',hn],⟨h.1,by omega,by simp[maxLen],fun h=>by omega⟩,(fun _=>rfl),(fun a e=>by cases e)⟩
 ·refine⟨some ⟨g,0,none⟩,cap,h',⟨h.1,hnc,hcm,fun hn=>⟨g,0,rfl,?_,fun i hi=>?_⟩⟩,(fun e=>by cases e),(fun a e=>by cases e;exact hb)⟩
  ·rcases Nat.lt_or_ge g w.heap.size with hlt|hge
   ·exact hlt
   ·rw[Array.getElem?_eq_none hge] at hg;cases hg
  ·have hcell:∀j,j<5→w.cell? ⟨g,i*5+j,none⟩=(ndc (at_ l i))[j]?:=by
    intro j hj;have hlt:i*5+j<l.length*5:=by omega
    rw[cell_of_row w g (i*5+j) cur _ (0,0) hg,←zkO l i j hi hj,←htake,List.getElem?_take,if_pos hlt];simp
   rw[Nat.zero_add];exact⟨hcell 0 (by omega),hcell 1 (by omega),hcell 2 (by omega),hcell 3 (by omega),hcell 4 (by omega)⟩
theorem OwnN.start (w:World):OwnN (w.alloc (.cells #[] 70)) w.heap.size (.slice (some ⟨w.heap.size,0,none⟩) 0 0) [] :=
 ⟨by simp,World.ownsRow_made w #[] 0 (Nat.le_refl _) (by simp[maxLen]) rfl⟩
theorem zfC (w:World)(base:Nat)(v:Value)(xs ys:List Nd)(ty:TypeId)(A:Option Addr)(m c:Nat)(how:OwnN w base v xs)(hN:Ns w A c ys)(hm:ys.length=m)(hA:A=none→c=0)(hs:xs.length+m≤1000000)(hb:base≤w.heap.size) :
  ∃v' w',(Builtin.append_ #[26,26] ty #[v,.slice A m c]).run Tryz.prog w=.ok v' w'∧OwnN w' base v' (xs++ys)∧w.grownBy w' v.ownBlock∧(v'.ownBlock=v.ownBlock∨v'.ownBlock=some w.heap.size):=by
 obtain⟨i0,hi,hz0,hz1,hz2⟩:=info_parts Tryz.infoN;have hwf:∀x∈xs++ys,x.wf:=fun x hx=>by
  rcases List.mem_append.1 hx with h|h
  ·exact how.1 x h
  ·exact hN.1 x h
 cases A with
 | none =>
  have hc:=hA rfl;have hy:ys=[]:=by
   rcases Nat.eq_zero_or_pos ys.length with h|h
   ·exact List.eq_nil_of_length_eq_zero h
   ·obtain⟨b,off,e,_⟩:=hN.at_ h
    cases e
  subst hy;subst hc;subst hm;refine⟨v,w,run_append_owned_none (P:=Tryz.prog) (w:=w) base _ ty 70 i0 5 Tryz.underlying26 hi v _ _ how.2,?_,⟨rfl,rfl,rfl,Nat.le_refl _,fun _ _ _=>rfl⟩,.inl rfl⟩;rw[List.append_nil];exact how
 | some ad =>
  obtain⟨v',w',hrun,h2,h3,_,h5⟩:=run_append_own_at (P:=Tryz.prog) w base 26 ty 70 i0 (ndv nd0) 5 40 Tryz.underlying26 hi hz0 hz1 hz2 rfl (by omega) v xs.length (ndcs xs) how.2 ad m c (ndcs ys) (by rw[zmc,hm]) (hN.cells rfl) (zrW ys) (by simp only[maxLen];omega) (by omega) hb;refine⟨v',w',hrun,⟨hwf,?_⟩,h3,h5⟩;rw[zrV,List.length_append,hm];exact h2
theorem zax (w:World){ops:Array Oper}{rest:List Oper}{o:Oper}{a:Act}{Q:Exit→Act→World→Prop}(hg:o.guard=none)(s x:Operand)
  (hop:o.op=Op.call { callee:=Callee.builtin Builtin.append,args:=#[s,x],argTypes:=#[26,26] }) (base:Nat) (v:Value) (xs ys:List Nd) (A:Option Addr) (m c:Nat)
  (hs:a.eval s=v) (hx:a.eval x=.slice A m c) (how:OwnN w base v xs) (hN:Ns w A c ys) (hm:ys.length=m) (hA:A=none→c=0) (hsz:xs.length+m≤1000000) (hb:base≤w.heap.size)
  (hK:∀v' w',OwnN w' base v' (xs++ys)→w.grownBy w' v.ownBlock→(v'.ownBlock=v.ownBlock∨v'.ownBlock=some w.heap.size)→wpList Tryz.prog ops Q rest (a.put o.dst v') w') :
  wpList Tryz.prog ops Q (o :: rest) a w:=by
 refine wpList_plain hg fun K hK'=>?_;obtain⟨v',w',hrun,h1,h2,h3⟩:=zfC w base v xs ys o.type A m c how hN hm hA hsz hb;unfold Oper.wp execOp;simp only[hop,resolve,invoke,builtin,Sem.run_bind,Sem.run_pure,Result.andThen_ok,List.map_toArray,List.map_cons,List.map_nil,hs,hx,hrun];exact hK' _ _ (hK v' w' h1 h2 h3)
theorem Ns.gbr {w w':World}{A:Option Addr}{c:Nat}{l:List Nd}{row:Option Nat}(h:Ns w A c l)(hg:w.grownBy w' row)(hA:∀a,A=some a→some a.block≠row):Ns w' A c l :=
 ⟨h.1,h.2.1,h.2.2.1,fun hn=>by
  obtain⟨b,off,e,hlt,hc⟩:=h.2.2.2 hn;exact⟨b,off,e,Nat.lt_of_lt_of_le hlt hg.size,fun i hi=>(hc i hi).below (hg.block b hlt (hA _ e))⟩⟩
theorem OwnN.gbr {w w':World}{base:Nat}{v:Value}{l:List Nd}{row:Option Nat}(h:OwnN w base v l)(hg:w.grownBy w' row)(hv:v.ownBlock=none∨v.ownBlock≠row):OwnN w' base v l:=⟨h.1,h.2.kept hg hv⟩
theorem OwnN.alloc {w:World}{base:Nat}{v:Value}{l:List Nd}(h:OwnN w base v l)(o:Obj):OwnN (w.alloc o) base v l:=⟨h.1,h.2.alloc o⟩
theorem OwnN.lt {w:World}{base:Nat}{v:Value}{l:List Nd}(h:OwnN w base v l):∀k,v.ownBlock=some k→base≤k∧k<w.heap.size:=h.2.lt
def Sn (w W:World)(L:List (Option Addr × Nat × List Nd)):Prop:=Below w.heap.size w W∧∀t∈L,Ns W t.1 t.2.1 t.2.2
theorem Sn.start (w:World):Sn w w []:=⟨Below.refl _ _,by simp⟩
theorem Sn.get {w W:World}{L:List (Option Addr × Nat × List Nd)}(s:Sn w W L){A:Option Addr}{c:Nat}{l:List Nd}(h:(A,c,l)∈L):Ns W A c l:=s.2 _ h
theorem Sn.step {w W W':World}{L:List (Option Addr × Nat × List Nd)}(s:Sn w W L)(b:Below W.heap.size W W'):Sn w W' L :=
 ⟨s.1.trans (b.mono s.1.size),fun t ht=>(s.2 t ht).below b⟩
theorem Sn.add {w W:World}{L:List (Option Addr × Nat × List Nd)}(s:Sn w W L){A:Option Addr}{c:Nat}{l:List Nd}(h:Ns W A c l):Sn w W ((A,c,l) :: L) :=
 ⟨s.1,fun t ht=>by
  rcases List.mem_cons.1 ht with rfl|ht
  ·exact h
  ·exact s.2 t ht⟩
def CvR (v:Cv):Prop:=zaE v.sx v.xs∧zaE v.sy v.ys∧v.xs.length≤60000∧v.ys.length≤60000
end Go.Proofs.YtfjajpnfjjdnpaaGreatDoor

namespace Go.Proofs.YtfjajpnfjjdnpaaGreatDoor
open Go.RowKit Nds Num Go.Sort
def encC (v:Cv):List Value:=[.bool v.sx,.slice v.ax v.xs.length v.cx,.bool v.sy,.slice v.ay v.ys.length v.cy,.int .u8 v.st]
def Off (blk:Nat)(v:Cv):Prop:=(0<v.xs.length→∀a,v.ax=some a→a.block≠blk)∧(0<v.ys.length→∀a,v.ay=some a→a.block≠blk)
theorem zcF {w w':World}{blk:Nat}{A:Option Addr}{c:Nat}{xs:List Nat}(h:Us w A c xs)(hk:∀k,k<w.heap.size→k≠blk→w'.heap[k]?=w.heap[k]?)(hs:w.heap.size≤w'.heap.size)(ha:0<xs.length→∀a,A=some a→a.block≠blk):Us w' A c xs:=by
 obtain⟨h1,h2,h3,h4⟩:=h;refine⟨h1,h2,h3,fun hn=>?_⟩;obtain⟨b,off,e,hb,hc⟩:=h4 hn;have hne:b≠blk:=ha (by simpa using hn) _ e;exact⟨b,off,e,Nat.lt_of_lt_of_le hb hs,fun j u hu=>(World.cell?_of_block (a:=⟨b,off+j,none⟩) (hk b hb hne)).trans (hc j u hu)⟩
theorem zbQ {w:World}{A:Option Addr}{c:Nat}{xs:List Nat}(h:Us w A c xs)(hx:0<xs.length):∀a,A=some a→a.block<w.heap.size:=fun a e=>by
 obtain⟨b,off,e',hb,_⟩:=h.at_ hx
 rw[e] at e';cases e';exact hb
theorem gbN {w w':World}(h:Below w.heap.size w w'):w.grownBy w' none:=⟨h.os,h.tape,h.output,h.size,fun k hk _=>h.block k hk⟩
theorem zrX (v:Cv):∀x∈encC v,x.oneCell'=true:=by
 intro x hx;simp only[encC,List.mem_cons,List.not_mem_nil,or_false] at hx;rcases hx with rfl|rfl|rfl|rfl|rfl <;> rfl
theorem ziH {l:List Cv}{i:Nat}(h:i<l.length):cat l i=l[i]:=by
 unfold cat;rw[List.getElem?_eq_getElem h];rfl
theorem zmd {a b:Int}:ordI a b<0↔a<b:=by
 unfold ordI;split
 ·constructor <;> intro <;> omega
 ·split
  ·constructor <;> intro <;> omega
  ·constructor <;> intro <;> omega
theorem zdk {a b:Int}:ordI a b=0↔a=b:=by
 unfold ordI;split
 ·constructor <;> intro <;> omega
 ·split
  ·constructor <;> intro <;> omega
  ·constructor <;> intro <;> omega
end Go.Proofs.YtfjajpnfjjdnpaaGreatDoor
