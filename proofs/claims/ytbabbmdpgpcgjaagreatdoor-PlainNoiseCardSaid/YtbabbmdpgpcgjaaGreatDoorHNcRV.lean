import Derived.ProofKit
import Derived.Laws.AppendOwnNone
import Derived.Test.YtbabbmdpgpcgjaaGreatDoorHClM

set_option linter.unusedVariables false
set_option linter.unusedSimpArgs false
set_option maxRecDepth 100000
set_option maxHeartbeats 6400000
namespace Go.Proofs.YtbabbmdpgpcgjaaGreatDoor
open Go.RowKit
theorem zqk {P:Program}{f:FuncId}{fn:Func}{s:ChangeSpec}{c:OpenClaim}
    (hA:(c.wf (OpenSpec.ofChange s)&&laidOutB P&&mapsRowed P&&fn.params.all (P.readableRec ·)&&namedTie P c.named s.vars&&(c.stops==[])&&(P.stops==[])&&(c.knobs==[])&&(P.stopKnobs==[]))=true)
    (hB:(c.inPlace==P.inPlace f)=true) (hC:(c.unfollowed==P.unfollowed f)=true) (hD:(c.recurses==P.recurses f)=true) (hE:(c.named==P.varsNamed f)=true)
    (hF:((c.maps==(fn.params.toList++s.plain.varTypes P).any (P.mapsRec ·))&&(c.ifaces==(fn.params.toList++s.plain.varTypes P).any (P.ifacesRec ·))&&(c.mapsOut==P.mapsAmong fn.resultTypes.toList) &&
      (c.loops==(fn.params.toList++s.plain.varTypes P).any (P.loopsFrom ·))&&(c.wideKeys==(fn.params.toList++s.plain.varTypes P++fn.resultTypes.toList).any (P.wideKeysFrom ·)) &&
      s.vars.all (P.varReadable ·)&&fn.resultTypes.all (fun t=>P.readableRec t&&decide (t<P.types.size))&&(c.ifacesOut==fn.resultTypes.toList.any (P.ifacesRec ·))&&(c.loopsOut==fn.resultTypes.toList.any (P.loopsFrom ·)))=true)
    (hG:(c.plainKeys==P.plainKeys)=true) (hH:(c.shortTexts.isNone&&P.stopsHeard)=true) (hI:P.mayEnter=true) (hJ:(c.lifted==P.liftsFinal)=true)
    (hK:((P.make==some c.make)&&(c.kinds==(if c.domain.isEmpty then [] else fn.params.toList.map fun t=>match P.underlying t with|some (.int k)=>some k|_=>none))&&(c.pinned==c.pinnedBy) &&
      (c.veiled==(fn.params.toList++s.plain.varTypes P++fn.resultTypes.toList).any (P.veiledRec ·))&&c.veiledFits P fn.params.toList (fn.params.toList++s.plain.varTypes P++fn.resultTypes.toList))=true):joinedFacts P f fn s c=true:=by
  unfold joinedFacts;simp only[Bool.and_eq_true,and_assoc] at hA hF hH hK ⊢;obtain⟨a1,a2,a3,a4,a5,a6,a7,a8,a9⟩:=hA;obtain⟨f1,f2,f3,f4,f5,f6,f7,f8,f9⟩:=hF;obtain⟨h1,h2⟩:=hH;obtain⟨k1,k2,k3,k4,k5⟩:=hK;exact⟨a1,a2,a3,a4,a5,a6,a7,a8,a9,hB,hC,hD,hE,f1,f2,f3,f4,f5,f6,f7,f8,f9,hG,h1,h2,hI,hJ,k1,k2,k3,k4,k5⟩
end Go.Proofs.YtbabbmdpgpcgjaaGreatDoor

namespace Go.Proofs.YtbabbmdpgpcgjaaGreatDoor
open Go.RowKit Nds
theorem zql (W:World)(g:Nat)(x:Nd)(hx:x.wf)(hg:W.heap.size=g):Ns (W.alloc (.cells #[.int .i64 x.lv,.int .i64 x.a,.int .i64 x.b,.int .i64 x.c,.int .i64 x.d] 112)) (some ⟨g,0,none⟩) 1 [x]:=by
 subst hg;refine⟨by simpa using hx,by simp,by simp[maxLen],fun _=>⟨_,0,rfl,by simp,fun i hi=>?_⟩⟩;have h0:i=0:=by simpa using hi
 subst h0;exact NdAt.new W x _
theorem Tryz.infoN:(Tryz.prog.info? 112).map (fun i=>(i.zero,i.size,i.bytes))=some (some (ndv nd0),5,40):=by kernel_rfl
def ndc (x:Nd):List Value:=[.int .i64 x.lv,.int .i64 x.a,.int .i64 x.b,.int .i64 x.c,.int .i64 x.d]
def ndcs (l:List Nd):List Value:=l.flatMap ndc
theorem znj (l:List Nd):(ndcs l).length=l.length*5:=by
 unfold ndcs
 induction l with
 | nil=>rfl
 | cons x l ih =>
  rw[List.flatMap_cons,List.length_append,ih,List.length_cons];show 5+_=_;omega
theorem zto (l m:List Nd):ndcs (l++m)=ndcs l++ndcs m:=by
 unfold ndcs;rw[List.flatMap_append]
theorem zlS:∀(l:List Nd) (i j:Nat),i<l.length→j<5→(ndcs l)[i*5+j]?=(ndc (at_ l i))[j]?
 | [],i,_,hi,_=>by simp at hi
 | x :: l,0,j,_,hj=>by
  show(ndc x++ndcs l)[0*5+j]?=_;rw[List.getElem?_append_left (by show _<5;omega),show 0*5+j=j by omega];rfl
 | x :: l,i+1,j,hi,hj=>by
  show(ndc x++ndcs l)[(i+1)*5+j]?=_;rw[List.getElem?_append_right (by show 5≤_;omega),show(i+1)*5+j-(ndc x).length=i*5+j by show _-5=_;omega,zlS l i j (by simpa using hi) hj];rfl
theorem ztp (l:List Nd):∀u∈ndcs l,u.oneCell'=true:=fun u hu=>by
 obtain⟨x,_,hx⟩:=List.mem_flatMap.1 hu;simp only[ndc,List.mem_cons,List.not_mem_nil,or_false] at hx;rcases hx with rfl|rfl|rfl|rfl|rfl <;> rfl
theorem Ns.cells {w:World}{A:Option Addr}{c:Nat}{l:List Nd}(h:Ns w A c l){ad:Addr}(e:A=some ad):∀j u,(ndcs l)[j]?=some u→w.cell? (ad.add j)=some u:=by
 intro j u hu;have hj:=(List.getElem?_eq_some_iff.1 hu).1;rw[znj] at hj;obtain⟨b,off,e2,_,hc⟩:=h.at_ (by omega)
 rw[e] at e2;cases e2;have hd:=hc (j / 5) (by omega);have hs:j=j / 5*5+j%5:=by omega
 rw[hs,zlS l (j / 5) (j%5) (by omega) (by omega)] at hu;obtain⟨h1,h2,h3,h4,h5⟩:=hd;have hlt:j%5<5:=Nat.mod_lt _ (by omega);have hadd:(⟨b,off,none⟩:Addr).add j=⟨b,off+j,none⟩:=by simp[Addr.add]
 rw[hadd];generalize hq:j / 5=q at *;generalize hr:j%5=r at *
 match r,hlt with
 | 0,_=>rw[show off+j=off+q*5 by omega,h1];exact hu
 | 1,_=>rw[show off+j=off+q*5+1 by omega,h2];exact hu
 | 2,_=>rw[show off+j=off+q*5+2 by omega,h3];exact hu
 | 3,_=>rw[show off+j=off+q*5+3 by omega,h4];exact hu
 | 4,_=>rw[show off+j=off+q*5+4 by omega,h5];exact hu
def OwnN (w:World)(base:Nat)(v:Value)(l:List Nd):Prop:=(∀x∈l,x.wf)∧w.ownsRow base 112 5 v l.length (ndcs l)
theorem OwnN.shape {w:World}{base:Nat}{v:Value}{l:List Nd}(h:OwnN w base v l):∃A c,v=.slice A l.length c∧Ns w A c l∧((A=none→c=0)∧∀a,A=some a→base≤a.block):=by
 rcases h.2.2 with⟨h',hn⟩|⟨g,cap,cur,h',hb,hg,hnc,hcm,hcs,htake⟩
 ·exact⟨none,0,by rw[h',hn],⟨h.1,by omega,by simp[maxLen],fun h=>by omega⟩,(fun _=>rfl),(fun a e=>by cases e)⟩
 ·refine⟨some ⟨g,0,none⟩,cap,h',⟨h.1,hnc,hcm,fun hn=>⟨g,0,rfl,?_,fun i hi=>?_⟩⟩,(fun e=>by cases e),(fun a e=>by cases e;exact hb)⟩
  ·rcases Nat.lt_or_ge g w.heap.size with hlt|hge
   ·exact hlt
   ·rw[Array.getElem?_eq_none hge] at hg;cases hg
  ·have hcell:∀j,j<5→w.cell? ⟨g,i*5+j,none⟩=(ndc (at_ l i))[j]?:=by
    intro j hj;have hlt:i*5+j<l.length*5:=by omega
    rw[cell_of_row w g (i*5+j) cur _ (0,0) hg,←zlS l i j hi hj,←htake,List.getElem?_take,if_pos hlt];simp
   rw[Nat.zero_add];exact⟨hcell 0 (by omega),hcell 1 (by omega),hcell 2 (by omega),hcell 3 (by omega),hcell 4 (by omega)⟩
theorem zfQ (w:World)(base:Nat)(v:Value)(xs ys:List Nd)(ty:TypeId)(A:Option Addr)(m c:Nat)(how:OwnN w base v xs)(hN:Ns w A c ys)(hm:ys.length=m)(hA:A=none→c=0)(hs:xs.length+m≤1000000)(hb:base≤w.heap.size) :
  ∃v' w',(Builtin.append_ #[25,25] ty #[v,.slice A m c]).run Tryz.prog w=.ok v' w'∧OwnN w' base v' (xs++ys)∧w.grownBy w' v.ownBlock∧(v'.ownBlock=v.ownBlock∨v'.ownBlock=some w.heap.size):=by
 obtain⟨i0,hi,hz0,hz1,hz2⟩:=info_parts Tryz.infoN;have hwf:∀x∈xs++ys,x.wf:=fun x hx=>by
  rcases List.mem_append.1 hx with h|h
  ·exact how.1 x h
  ·exact hN.1 x h
 cases A with
 | none =>
  have hc:=hA rfl;have hy:ys=[]:=by
   rcases Nat.eq_zero_or_pos ys.length with h|h
   ·exact List.eq_nil_of_length_eq_zero h
   ·obtain⟨b,off,e,_⟩:=hN.at_ h
    cases e
  subst hy;subst hc;subst hm;refine⟨v,w,run_append_owned_none (P:=Tryz.prog) (w:=w) base _ ty 112 i0 5 Tryz.underlying25 hi v _ _ how.2,?_,⟨rfl,rfl,rfl,Nat.le_refl _,fun _ _ _=>rfl⟩,.inl rfl⟩;rw[List.append_nil];exact how
 | some ad =>
  obtain⟨v',w',hrun,h2,h3,_,h5⟩:=run_append_own_at (P:=Tryz.prog) w base 25 ty 112 i0 (ndv nd0) 5 40 Tryz.underlying25 hi hz0 hz1 hz2 rfl (by omega) v xs.length (ndcs xs) how.2 ad m c (ndcs ys) (by rw[znj,hm]) (hN.cells rfl) (ztp ys) (by simp only[maxLen];omega) (by omega) hb;refine⟨v',w',hrun,⟨hwf,?_⟩,h3,h5⟩;rw[zto,List.length_append,hm];exact h2
theorem zcQ {w:World}{o:Oper}{a:Act}{K:Act→World→Prop}{Q:Exit→Act→World→Prop}(s x:Operand)
  (hop:o.op=Op.call { callee:=Callee.builtin Builtin.append,args:=#[s,x],argTypes:=#[25,25] }) (base:Nat) (v:Value) (xs ys:List Nd) (A:Option Addr) (m c:Nat)
  (hs:a.eval s=v) (hx:a.eval x=.slice A m c) (how:OwnN w base v xs) (hN:Ns w A c ys) (hm:ys.length=m) (hA:A=none→c=0) (hsz:xs.length+m≤1000000) (hb:base≤w.heap.size)
  (h:∀v' w',OwnN w' base v' (xs++ys)→w.grownBy w' v.ownBlock→(v'.ownBlock=v.ownBlock∨v'.ownBlock=some w.heap.size)→K (a.put o.dst v') w'):Oper.wp Tryz.prog o a w K Q:=by
 obtain⟨v',w',hrun,h1,h2,h3⟩:=zfQ w base v xs ys o.type A m c how hN hm hA hsz hb;unfold Oper.wp execOp;simp only[hop,resolve,invoke,builtin,Sem.run_bind,Sem.run_pure,Result.andThen_ok,List.map_toArray,List.map_cons,List.map_nil,hs,hx,hrun];exact h v' w' h1 h2 h3
theorem OwnN.gbr {w w':World}{base:Nat}{v:Value}{l:List Nd}{row:Option Nat}(h:OwnN w base v l)(hg:w.grownBy w' row)(hv:v.ownBlock=none∨v.ownBlock≠row):OwnN w' base v l:=⟨h.1,h.2.kept hg hv⟩
theorem OwnN.lt {w:World}{base:Nat}{v:Value}{l:List Nd}(h:OwnN w base v l):∀k,v.ownBlock=some k→base≤k∧k<w.heap.size:=h.2.lt
def Sn (w W:World)(L:List (Option Addr × Nat × List Nd)):Prop:=Below w.heap.size w W∧∀t∈L,Ns W t.1 t.2.1 t.2.2
theorem Sn.start (w:World):Sn w w []:=⟨Below.refl _ _,by simp⟩
theorem Sn.get {w W:World}{L:List (Option Addr × Nat × List Nd)}(s:Sn w W L){A:Option Addr}{c:Nat}{l:List Nd}(h:(A,c,l)∈L):Ns W A c l:=s.2 _ h
theorem Sn.step {w W W':World}{L:List (Option Addr × Nat × List Nd)}(s:Sn w W L)(b:Below W.heap.size W W'):Sn w W' L :=
 ⟨s.1.trans (b.mono s.1.size),fun t ht=>(s.2 t ht).below b⟩
theorem Sn.add {w W:World}{L:List (Option Addr × Nat × List Nd)}(s:Sn w W L){A:Option Addr}{c:Nat}{l:List Nd}(h:Ns W A c l):Sn w W ((A,c,l) :: L) :=
 ⟨s.1,fun t ht=>by
  rcases List.mem_cons.1 ht with rfl|ht
  ·exact h
  ·exact s.2 t ht⟩
structure Ky (P:Nat→Prop)(w w':World):Prop where
 os:w'.os=w.os
 tape:w'.tape=w.tape
 output:w'.output=w.output
 size:w.heap.size≤w'.heap.size
 block:∀k,k<w.heap.size→¬ P k→w'.heap[k]?=w.heap[k]?
theorem Ky.refl (P:Nat→Prop)(w:World):Ky P w w:=⟨rfl,rfl,rfl,Nat.le_refl _,fun _ _ _=>rfl⟩
theorem Ky.trans {P Q:Nat→Prop}{a b c:World}(h:Ky P a b)(k:Ky Q b c)(hQ:∀i,i<a.heap.size→Q i→P i):Ky P a c :=
 ⟨k.os.trans h.os,k.tape.trans h.tape,k.output.trans h.output,Nat.le_trans h.size k.size,fun i hi hn=>(k.block i (Nat.lt_of_lt_of_le hi h.size) (fun hq=>hn (hQ i hi hq))).trans (h.block i hi hn)⟩
theorem Ky.gb {P:Nat→Prop}{a b c:World}{r:Option Nat}(h:Ky P a b)(k:b.grownBy c r)(hr:∀i,i<a.heap.size→r=some i→P i):Ky P a c :=
 ⟨k.os.trans h.os,k.tape.trans h.tape,k.output.trans h.output,Nat.le_trans h.size k.size,fun i hi hn=>(k.block i (Nat.lt_of_lt_of_le hi h.size) (fun hq=>hn (hr i hi hq.symm))).trans (h.block i hi hn)⟩
theorem Ky.alloc {P:Nat→Prop}{a b:World}(h:Ky P a b)(o:Obj):Ky P a (b.alloc o):=h.gb (World.grownBy_alloc b o none) (fun _ _ e=>by cases e)
theorem Ky.below {P:Nat→Prop}{a b c:World}(h:Ky P a b)(k:Below b.heap.size b c):Ky P a c :=
 ⟨k.os.trans h.os,k.tape.trans h.tape,k.output.trans h.output,Nat.le_trans h.size k.size,fun i hi hn=>(k.block i (Nat.lt_of_lt_of_le hi h.size)).trans (h.block i hi hn)⟩
theorem Ky.set {P:Nat→Prop}{a b:World}(h:Ky P a b)(p:Addr)(hp:p.block<a.heap.size→P p.block)(u:Value):Ky P a (b.setCell p u) :=
 ⟨h.os,h.tape,h.output,by simpa [World.setCell] using h.size,fun i hi hn=>(Below.heap_setCell _ _ _ _ (fun e=>hn (by subst e;exact hp hi))).trans (h.block i hi hn)⟩
theorem Ky.to {P:Nat→Prop}{a b:World}(h:Ky P a b){B:Nat}(hB:B≤a.heap.size)(hP:∀k,P k→B≤k):Below B a b :=
 ⟨h.os,h.tape,h.output,h.size,fun k hk=>h.block k (Nat.lt_of_lt_of_le hk hB) (fun hp=>Nat.not_lt.2 (hP k hp) hk)⟩
theorem Ky.nd {P:Nat→Prop}{w w':World}(h:Ky P w w'){b o:Nat}{x:Nd}(hx:NdAt w b o x)(hb:b<w.heap.size)(hp:¬ P b):NdAt w' b o x:=hx.below (h.block b hb hp)
def mix (x y:Nd)(k:Nat):Nd:=⟨x.lv,if 0<k then y.a else x.a,if 1<k then y.b else x.b,if 2<k then y.c else x.c,if 3<k then y.d else x.d⟩
theorem ztq {x y:Nd}(h:x.lv=y.lv):mix x y 4=y:=by
 unfold mix;rw[h];rfl
def zbs (w:World)(g:Nat)(x:Nd):Prop:=w.heap[g]?=some (.cells #[.int .i64 x.lv,.int .i64 x.a,.int .i64 x.b,.int .i64 x.c,.int .i64 x.d] 112)
theorem zbs.lt {w:World}{g:Nat}{x:Nd}(h:zbs w g x):g<w.heap.size:=(Array.getElem?_eq_some_iff.1 h).1
theorem zbs.at_ {w:World}{g:Nat}{x:Nd}(h:zbs w g x):NdAt w g 0 x:=by
 refine⟨?_,?_,?_,?_,?_⟩ <;> (rw[cell_of_row w g _ _ _ (0,0) h];rfl)
theorem zbs.free {w:World}{g:Nat}{x:Nd}(h:zbs w g x)(k:Nat):w.frozen? ⟨g,k,none⟩=false:=frozen_of_row w g k _ _ h
theorem zbs.new (w:World)(x:Nd):zbs (w.alloc (.cells #[.int .i64 x.lv,.int .i64 x.a,.int .i64 x.b,.int .i64 x.c,.int .i64 x.d] 112)) w.heap.size x:=heap_alloc_new w _
theorem zbs.stay {w w':World}{g:Nat}{x:Nd}(h:zbs w g x)(hb:w'.heap[g]?=w.heap[g]?):zbs w' g x:=hb.trans h
theorem zbs.setKid {w:World}{g:Nat}{x y:Nd}{k:Nat}(h:zbs w g (mix x y k))(hk:k<4){o:Nat}(ho:o=1+k){u:Int}(hu:u=y.kid k):zbs (w.setCell ⟨g,o,none⟩ (.int .i64 u)) g (mix x y (k+1)):=by
 subst ho;subst hu;refine(heap_setCell_same w g (1+k) _ _ _ h).trans ?_
 match k,hk with
 | 0,_=>rfl
 | 1,_=>rfl
 | 2,_=>rfl
 | 3,_=>rfl
def OwnD (w:World)(base g n:Nat)(ds:List Nat):Prop :=
 ds.length=n∧w.ownsRow base 3 1 (.slice (some ⟨g,0,none⟩) n n) n (ds.map fun k:Nat=>Value.int .i64 (k:Int))
theorem OwnD.cell {w:World}{base g n:Nat}{ds:List Nat}(h:OwnD w base g n ds){k:Nat}(hk:k<n):w.cell? ⟨g,k,none⟩=some (.int .i64 ((ds.getD k 0:Nat):Int)):=by
 have hl:k<ds.length:=by have:=h.1;omega
 rw[h.2.cellAt k (by omega),List.getElem?_map,List.getD_eq_getElem?_getD,List.getElem?_eq_getElem hl];rfl
theorem OwnD.free {w:World}{base g n:Nat}{ds:List Nat}(h:OwnD w base g n ds)(k:Nat):w.frozen? ⟨g,k,none⟩=false:=h.2.frozenAt k
theorem OwnD.set {w:World}{base g n:Nat}{ds:List Nat}(h:OwnD w base g n ds)(k u:Nat):OwnD (w.setCell ⟨g,k,none⟩ (.int .i64 (u:Int))) base g n (ds.set k u):=by
 refine⟨by simpa using h.1,?_⟩;rw[List.map_set];exact(h.2.stored k _).1
theorem zyK (n:Nat):(madeCells (Value.cells (.int .i64 0)) (n*1)).toList=(List.replicate n 0).map (fun k:Nat=>Value.int .i64 (k:Int)):=by
 rw[Nat.mul_one];refine List.ext_getElem (by simp[madeCells]) fun i h1 h2=>?_;simp[madeCells,Value.cells,Nat.mod_one]
theorem OwnD.made {w:World}{base g n:Nat}(h:w.ownsRow base 3 1 (.slice (some ⟨g,0,none⟩) n n) n (madeCells (Value.cells (.int .i64 0)) (n*1)).toList):OwnD w base g n (List.replicate n 0) :=
 ⟨by simp,by rw[←zyK];exact h⟩
theorem OwnD.lt {w:World}{base g n:Nat}{ds:List Nat}(h:OwnD w base g n ds):base≤g∧g<w.heap.size:=h.2.lt g rfl
theorem zcR (w:World)(p:Addr)(u:Value):w.grownBy (w.setCell p u) (some p.block) :=
 ⟨rfl,rfl,rfl,by simp[World.setCell],fun i _ hi=>Below.heap_setCell _ _ _ _ (fun e=>hi (by rw[e]))⟩
theorem zeR (w:World)(base:Nat):OwnN w base (.slice none 0 0) []:=⟨by simp,World.ownsRow_nil w base _ 5⟩
theorem zbK {v:Value}{r:Option Nat}(h:∀k,v.ownBlock=some k→r≠some k):v.ownBlock=none∨v.ownBlock≠r:=by
 cases hv:v.ownBlock with
 | none=>exact .inl rfl
 | some k=>exact .inr (fun e=>h k hv e.symm)
theorem zqm (A B:Option Addr)(c d n p:Nat)(l m:List Nd)(w:World)(h:Ns w A c l)(k:Ns w B d m)(hn:l.length=n)(hp:m.length=p) :
  Calls Tryz.prog 14 #[.agg #[.slice A n c],.agg #[.slice B p d]] w fun e w'=>e=.returned (.bool (decide (l=m)))∧Below w.heap.size w w':=by
 have hb:=((Below.refl w.heap.size w).alloc (Nat.le_refl _) (.cells #[.slice A n c] 27)).alloc (by simp) (.cells #[.slice B p d] 27);have HB:=Hh hb;have HL:=Hh (h.below hb);have HM:=Hh (k.below hb);have HN:=Hh hn;have HP:=Hh hp;obtain⟨R,hR⟩:∃R,R=decide (l=m):=⟨_,rfl⟩;rw[←hR];have HR:=Hh hR;clear hb h k hn hp hR;go_enter Tryz.func14,Tryz.ntmps14;go_wp2_with (go_at_call 34;refine(zoc _ _ _ _ _ _ l m _ HL.out HM.out HN.out HP.out).mono ?_;rintro e w1 ⟨rfl,q,rfl⟩;rw[←HR.out]);go_ret;exact⟨rfl,zaI HB.out _⟩
theorem zil (w:World):Ns w none 0 []:=⟨by simp,Nat.le_refl _,by simp[maxLen],fun h=>absurd h (Nat.lt_irrefl 0)⟩
def lenOf:Value→Nat|.slice _ n _=>n|_=>0
def SS (l:List Nd)(t:Tr)(cur:List Nd)(p:Nat):Prop:=zai cur=true∧p<cur.length∧den cur (p+1)≠.e∧shrT (den cur (p+1))=t∧(cur.length:Int)+(at_ cur p).lv≤l.length+1329
def Dn (l out:List Nd)(ds:List Nat):Prop:=∀i,i≤l.length→0<ds.getD i 0→NumT out (den l i) ((ds.getD i 0:Nat):Int)
end Go.Proofs.YtbabbmdpgpcgjaaGreatDoor
