import Derived.Test.YtikehjindobpkaaGreatGClSj

set_option linter.unusedVariables false
set_option linter.unusedSimpArgs false
set_option maxRecDepth 100000
set_option maxHeartbeats 6400000
namespace Go.Proofs.YtikehjindobpkaaGreat
open Nds
def atP (c:Cl)(x y:Int):Prop:=c.x=x∧c.y=y
instance (c:Cl) (x y:Int):Decidable (atP c x y):=by unfold atP;infer_instance
def zmT (f:Nat→Cl):Nat→Int→Int→Int
 | 0,_,_=>0
 | n+1,x,y=>if atP (f n) x y then (f n).s else zmT f n x y
theorem zes (f:Nat→Cl)(x y:Int):∀n,((∀k,k<n→¬ atP (f k) x y)∧zmT f n x y=0)∨∃k,k<n∧atP (f k) x y∧(∀j,k<j→j<n→¬ atP (f j) x y)∧zmT f n x y=(f k).s
 | 0=>.inl ⟨fun k hk=>absurd hk (Nat.not_lt_zero k),rfl⟩
 | n+1=>by
  by_cases h:atP (f n) x y
  ·exact .inr ⟨n,Nat.lt_succ_self n,h,fun j h1 h2=>by omega,if_pos h⟩
  ·rcases zes f x y n with⟨h1,h2⟩|⟨k,h1,h2,h3,h4⟩
   ·refine .inl ⟨fun k hk=>?_,(if_neg h).trans h2⟩;rcases Nat.lt_or_ge k n with hn|hn
    ·exact h1 k hn
    ·rw[show k=n by omega];exact h
   ·refine .inr ⟨k,by omega,h2,fun j hj hn=>?_,(if_neg h).trans h4⟩;rcases Nat.lt_or_ge j n with hjn|hjn
    ·exact h3 j hj hjn
    ·rw[show j=n by omega];exact h
theorem zgN (l:List Cv)(x y:Int):∀k,k≤l.length→zfp ((l.take k).map Cv.cl) x y=zmT (fun i=>(cat l i).cl) k x y
 | 0,_=>by simp[zfp,zmT]
 | k+1,hk=>by
  rw[←List.take_append_getElem (l:=l) (i:=k) (by omega),List.map_append,List.map_cons,List.map_nil,zfq,zgN l x y k (by omega),←zbP (by omega)];rfl
def zbL (l:List Cv)(o:List Nat)(i:Nat):Bool := !(decide (i+1<o.length)&&(ordC (cat l (o[i]?.getD 0)) (cat l (o[i+1]?.getD 0))==0))&&(cat l (o[i]?.getD 0)).st != 0
def zbx (l:List Cv)(o:List Nat)(k:Nat):List Cv:=((List.range k).filter (zbL l o)).map fun i=>cat l (o[i]?.getD 0)
theorem zcw (l:List Cv)(o:List Nat)(k:Nat):zbx l o (k+1)=if zbL l o k=true then zbx l o k++[cat l (o[k]?.getD 0)] else zbx l o k:=by
 unfold zbx;rw[List.range_succ,List.filter_append];by_cases h:zbL l o k=true
 ·rw[if_pos h,List.filter_cons,if_pos h,List.filter_nil,List.map_append];rfl
 ·rw[if_neg h,List.filter_cons,if_neg h,List.filter_nil,List.append_nil]
theorem zmU {l:List Cv}{o:List Nat}{n k:Nat}(hl:l.length=n)(ho:o.Perm (List.range n))(hk:k≤n){v:Cv}(h:v∈zbx l o k):v∈l:=by
 unfold zbx at h;obtain⟨i,hi,rfl⟩:=List.mem_map.1 h;have hi2:=List.mem_range.1 (List.mem_filter.1 hi).1;have hlen:o.length=n:=by rw[ho.length_eq,List.length_range]
 have hoi:o[i]?.getD 0∈o:=by rw[List.getElem?_eq_getElem (by omega)];exact List.getElem_mem _
 have:=List.mem_range.1 (ho.mem_iff.1 hoi);exact zaB (by omega)
theorem zpb {l:List Cv}{o:List Nat}{k:Nat}{v:Cv}(h:v∈zbx l o k):v.st≠0:=by
 unfold zbx at h;obtain⟨i,hi,rfl⟩:=List.mem_map.1 h;have:=(List.mem_filter.1 hi).2;unfold zbL at this;simp only[Bool.and_eq_true,bne_iff_ne] at this;exact this.2
theorem zfr (l:List Cv)(o:List Nat)(k:Nat):(zbx l o k).length≤k:=by
 unfold zbx;rw[List.length_map];exact Nat.le_trans (List.length_filter_le _ _) (by rw[List.length_range];exact Nat.le_refl _)
theorem zmV {l:List Cv}{o:List Nat}{n:Nat}(hl:l.length=n)(ho:o.Perm (List.range n))(hs:o.Pairwise (ltK l)):(zbx l o n).map Cv.cl=zau (l.map Cv.cl):=by
 have hlen:o.length=n:=by rw[ho.length_eq,List.length_range]
 have hg:∀i,i<n→o[i]?.getD 0<n:=fun i hi=>by
  have hoi:o[i]?.getD 0∈o:=by rw[List.getElem?_eq_getElem (by omega)];exact List.getElem_mem _
  exact List.mem_range.1 (ho.mem_iff.1 hoi)
 have hlt:∀i j,i<j→j<n→ltK l (o[i]?.getD 0) (o[j]?.getD 0):=fun i j hij hj=>by
  rw[List.getElem?_eq_getElem (show i<o.length by omega),List.getElem?_eq_getElem (show j<o.length by omega)];exact List.pairwise_iff_getElem.1 hs i j _ _ hij
 have hex:∀k,k<n→∃i,i<n∧o[i]?.getD 0=k:=fun k hk=>by
  obtain⟨i,hi,he⟩:=List.getElem_of_mem (ho.mem_iff.2 (List.mem_range.2 hk));exact⟨i,by omega,by rw[List.getElem?_eq_getElem hi];exact he⟩
 -- what has a later one of its place isn't kept
 have hover:∀i j,i<j→j<n→(cat l (o[i]?.getD 0)).cl.x=(cat l (o[j]?.getD 0)).cl.x→(cat l (o[i]?.getD 0)).cl.y=(cat l (o[j]?.getD 0)).cl.y→zbL l o i=false:=fun i j hij hj hx hy=>by
  have h1:=hlt i (i+1) (by omega) (by omega);have h2:ordC (cat l (o[i]?.getD 0)) (cat l (o[i+1]?.getD 0))=0:=by
   rw[zeQ];rcases Nat.lt_or_ge (i+1) j with h3|h3
   ·have h4:=hlt (i+1) j h3 hj;unfold ltK ltC at h1 h4;omega
   ·rw[show i+1=j by omega];exact⟨hx,hy⟩
  unfold zbL;rw[decide_eq_true (show i+1<o.length by omega),h2];rfl
 have hsrt:Srt ((zbx l o n).map Cv.cl):=by
  unfold zbx Srt;rw[List.map_map,List.pairwise_map];have h0:(List.range n).Pairwise (fun a b=>a<b∧b<n):=List.pairwise_iff_getElem.2 fun i j hi hj hij=>by
   rw[List.getElem_range,List.getElem_range];rw[List.length_range] at hj;exact⟨hij,hj⟩
  refine(h0.filter (zbL l o)).imp_of_mem ?_
  ·rintro a b ha hb ⟨hab,hbn⟩;have hka:=(List.mem_filter.1 ha).2;have h1:=hlt a b hab hbn;rcases h1 with h1|⟨h1,h2,-⟩
   ·exact h1
   ·rw[hover a b hab hbn h1 h2] at hka;cases hka
 have hst:∀c∈(zbx l o n).map Cv.cl,c.s≠0:=fun c hc=>by
  obtain⟨v,hv,rfl⟩:=List.mem_map.1 hc;have:=zpb hv;show((v.st:Nat):Int)≠0;omega
 obtain⟨f1,f2,f3⟩:=zbp (l.map Cv.cl);refine zdW hsrt f1 hst (fun c hc=>(f3 c hc).1) fun x y=>?_;rw[f2];have hLI:zfp (l.map Cv.cl) x y=zmT (fun i=>(cat l i).cl) n x y:=by
  have:=zgN l x y n (by omega)
  rwa [List.take_of_length_le (by omega)] at this
 rw[hLI];by_cases hin:∃i,i<n∧zbL l o i=true∧atP (cat l (o[i]?.getD 0)).cl x y
 ·obtain⟨i,hi,hk,hp⟩:=hin;have hm:(cat l (o[i]?.getD 0)).cl∈(zbx l o n).map Cv.cl:=List.mem_map.2 ⟨_,List.mem_map.2 ⟨i,List.mem_filter.2 ⟨List.mem_range.2 hi,hk⟩,rfl⟩,rfl⟩;have e1:=zgH hsrt hm;rw[hp.1,hp.2] at e1;rw[e1];rcases zes (fun i=>(cat l i).cl) x y n with⟨h1,_⟩|⟨k,h1,h2,h3,h4⟩
  ·exact absurd hp (h1 _ (hg i hi))
  ·rw[h4];obtain⟨j,hj,hjk⟩:=hex k h1;have hij:i=j:=by
    rcases Nat.lt_trichotomy i j with h5|h5|h5
    ·have:=hover i j h5 hj (by rw[hjk];rw[hp.1];exact h2.1.symm) (by rw[hjk];rw[hp.2];exact h2.2.symm);rw[this] at hk;cases hk
    ·exact h5
    ·have h6:=hlt j i h5 hi;rw[hjk] at h6;have h7:k<o[i]?.getD 0:=by
      have q1:=hp.1;have q2:=hp.2;have q3:(cat l k).cl.x=x:=h2.1;have q4:(cat l k).cl.y=y:=h2.2;unfold ltK ltC at h6;omega
     exact absurd hp (h3 _ h7 (hg i hi))
   rw[hij,hjk]
 ·have e1:lk ((zbx l o n).map Cv.cl) x y=0:=zbG fun c hc hcp=>by
   obtain⟨v,hv,rfl⟩:=List.mem_map.1 hc;unfold zbx at hv;obtain⟨i,hi,rfl⟩:=List.mem_map.1 hv;obtain⟨hi1,hi2⟩:=List.mem_filter.1 hi;exact hin ⟨i,List.mem_range.1 hi1,hi2,hcp⟩
  rw[e1];rcases zes (fun i=>(cat l i).cl) x y n with⟨_,h1⟩|⟨k,h1,h2,h3,h4⟩
  ·exact h1.symm
  ·rw[h4];obtain⟨i,hi,hik⟩:=hex k h1;by_cases hk:zbL l o i=true
   ·exact absurd ⟨i,hi,hk,by rw[hik];exact h2⟩ hin
   ·have hno:(decide (i+1<o.length)&&(ordC (cat l (o[i]?.getD 0)) (cat l (o[i+1]?.getD 0))==0))=false:=by
     cases hq:(decide (i+1<o.length)&&(ordC (cat l (o[i]?.getD 0)) (cat l (o[i+1]?.getD 0))==0))
     ·rfl
     ·simp only[Bool.and_eq_true,decide_eq_true_eq,beq_iff_eq] at hq;obtain⟨q1,q2⟩:=hq;have q3:=zeQ.1 q2;have q4:=hlt i (i+1) (by omega) (by omega);rw[hik] at q3 q4;have q5:k<o[i+1]?.getD 0:=by unfold ltK ltC at q4;omega
      refine absurd ?_ (h3 _ q5 (hg _ (by omega)));exact⟨q3.1.symm.trans h2.1,q3.2.symm.trans h2.2⟩
    unfold zbL at hk;rw[hno,hik] at hk;simp only[Bool.not_false,Bool.true_and,bne_iff_ne,ne_eq,Decidable.not_not] at hk;show(0:Int)=((cat l k).st:Int);omega
end Go.Proofs.YtikehjindobpkaaGreat

namespace Go.Proofs.YtikehjindobpkaaGreat
open Go.RowKit Nds
theorem Tryz.infoC:(Tryz.prog.info? 83).map (fun i=>(i.zero,i.size,i.bytes))=some (some (cvv cv0),5,72):=by kernel_rfl
def cvcs (l:List Cv):List Value:=l.flatMap encC
theorem zdY (l:List Cv):(cvcs l).length=l.length*5:=by
 unfold cvcs
 induction l with
 | nil=>rfl
 | cons x l ih =>
  rw[List.flatMap_cons,List.length_append,ih,List.length_cons];show 5+_=_;omega
theorem zlS (l m:List Cv):cvcs (l++m)=cvcs l++cvcs m:=by
 unfold cvcs;rw[List.flatMap_append]
theorem ziC:∀(l:List Cv) (i j:Nat),i<l.length→j<5→(cvcs l)[i*5+j]?=(encC (cat l i))[j]?
 | [],i,_,hi,_=>by simp at hi
 | x :: l,0,j,_,hj=>by
  show(encC x++cvcs l)[0*5+j]?=_;rw[List.getElem?_append_left (by show _<5;omega),show 0*5+j=j by omega];rfl
 | x :: l,i+1,j,hi,hj=>by
  show(encC x++cvcs l)[(i+1)*5+j]?=_;rw[List.getElem?_append_right (by show 5≤_;omega),show(i+1)*5+j-(encC x).length=i*5+j by show _-5=_;omega,ziC l i j (by simpa using hi) hj];rfl
theorem zry (l:List Cv):∀u∈cvcs l,u.oneCell'=true:=fun u hu=>by
 obtain⟨x,_,hx⟩:=List.mem_flatMap.1 hu;exact zlR x u hx
def OwnC (w:World)(base:Nat)(v:Value)(l:List Cv):Prop:=w.ownsRow base 83 5 v l.length (cvcs l)
theorem OwnC.shape {w:World}{base:Nat}{v:Value}{l:List Cv}(h:OwnC w base v l) :
  ∃A c,v=.slice A l.length c∧l.length≤c∧c≤maxLen∧(A=none→c=0∧l=[])∧(∀a,A=some a→∃g,a=⟨g,0,none⟩∧base≤g∧g<w.heap.size∧(∀i,i<l.length→CvAt w g (i*5) (cat l i))∧∀o,w.frozen? ⟨g,o,none⟩=false):=by
 rcases h.2 with⟨h',hn⟩|⟨g,cap,cur,h',hb,hg,hnc,hcm,hcs,htake⟩
 ·refine⟨none,0,by rw[h',hn],by omega,by simp[maxLen],fun _=>⟨rfl,List.eq_nil_of_length_eq_zero hn⟩,(fun a e=>by cases e)⟩
 ·refine⟨some ⟨g,0,none⟩,cap,h',hnc,hcm,(fun e=>by cases e),fun a e=>?_⟩;cases e;have hlt:g<w.heap.size:=by
   rcases Nat.lt_or_ge g w.heap.size with hlt|hge
   ·exact hlt
   ·rw[Array.getElem?_eq_none hge] at hg;cases hg
  refine⟨g,rfl,hb,hlt,fun i hi=>?_,fun o=>frozen_of_row _ _ _ _ _ hg⟩;have hcell:∀j,j<5→w.cell? ⟨g,i*5+j,none⟩=(encC (cat l i))[j]?:=by
   intro j hj;have hlt:i*5+j<l.length*5:=by omega
   rw[cell_of_row w g (i*5+j) cur _ (0,0) hg,←ziC l i j hi hj,←htake,List.getElem?_take,if_pos hlt];simp
  exact⟨hcell 0 (by omega),hcell 1 (by omega),hcell 2 (by omega),hcell 3 (by omega),hcell 4 (by omega)⟩
theorem OwnC.nil (w:World)(base:Nat):OwnC w base (.slice none 0 0) []:=World.ownsRow_nil w base _ 5
theorem OwnC.kept {w w':World}{base:Nat}{v:Value}{l:List Cv}{row:Option Nat}(h:OwnC w base v l)(hg:w.grownBy w' row)(hv:v.ownBlock=none∨v.ownBlock≠row):OwnC w' base v l:=World.ownsRow.kept h hg hv
theorem OwnC.alloc {w:World}{base:Nat}{v:Value}{l:List Cv}(h:OwnC w base v l)(o:Obj):OwnC (w.alloc o) base v l:=h.kept (World.grownBy_alloc w o none) (by cases v.ownBlock <;> simp)
theorem OwnC.lt {w:World}{base:Nat}{v:Value}{l:List Cv}(h:OwnC w base v l):∀k,v.ownBlock=some k→base≤k∧k<w.heap.size:=World.ownsRow.lt h
theorem OwnC.cs {w:World}{base:Nat}{v:Value}{l:List Cv}(h:OwnC w base v l)(hu:∀x∈l,CvU w x):∃A c,v=.slice A l.length c∧Cs w A c l∧(A=none→c=0)∧∀a,A=some a→base≤a.block:=by
 obtain⟨A,c,h1,h2,h3,h4,h5⟩:=h.shape;refine⟨A,c,h1,⟨hu,h2,h3,fun hn=>?_⟩,fun e=>(h4 e).1,fun a e=>?_⟩
 ·cases A with
  | none=>have:=(h4 rfl).2;subst this;exact absurd hn (Nat.lt_irrefl 0)
  | some a =>
   obtain⟨g,rfl,hg,hlt,hc,_⟩:=h5 a rfl;exact⟨g,0,rfl,hlt,fun i hi=>by rw[Nat.zero_add];exact hc i hi⟩
 ·obtain⟨g,rfl,hg,_⟩:=h5 a e;exact hg
theorem zbA (w:World)(x:Cv):∀j u,(cvcs [x])[j]?=some u→(w.alloc (.cells #[.bool x.sx,.slice x.ax x.xs.length x.cx,.bool x.sy,.slice x.ay x.ys.length x.cy,.int .u8 x.st] 83)).cell? ((⟨w.heap.size,0,none⟩:Addr).add j)=some u:=by
 intro j u hu;have hj:=(List.getElem?_eq_some_iff.1 hu).1;rw[zdY] at hj;obtain⟨h0,h1,h2,h3,h4⟩:=CvAt.new w x 83;rw[Nat.zero_add] at h1 h2 h3 h4;have hj5:j<5:=by simpa using hj
 have hadd:(⟨w.heap.size,0,none⟩:Addr).add j=⟨w.heap.size,j,none⟩:=by
  unfold Addr.add;split
  ·rename_i h;subst h;rfl
  ·simp
 rw[hadd]
 match j,hj5 with
 | 0,_=>rw[h0];exact hu
 | 1,_=>rw[h1];exact hu
 | 2,_=>rw[h2];exact hu
 | 3,_=>rw[h3];exact hu
 | 4,_=>rw[h4];exact hu
theorem zbB (w:World)(base:Nat)(v:Value)(xs ys:List Cv)(ty:TypeId)(ad:Addr)(m c:Nat)(how:OwnC w base v xs)(hN:∀j u,(cvcs ys)[j]?=some u→w.cell? (ad.add j)=some u)(hm:ys.length=m)(hs:xs.length+m≤1000000)(hb:base≤w.heap.size) :
  ∃v' w',(Builtin.append_ #[22,22] ty #[v,.slice (some ad) m c]).run Tryz.prog w=.ok v' w'∧OwnC w' base v' (xs++ys)∧w.grownBy w' v.ownBlock∧(v'.ownBlock=v.ownBlock∨v'.ownBlock=some w.heap.size):=by
 obtain⟨i0,hi,hz0,hz1,hz2⟩:=info_parts Tryz.infoC;obtain⟨v',w',hrun,h2,h3,_,h5⟩:=run_append_own_at (P:=Tryz.prog) w base 22 ty 83 i0 (cvv cv0) 5 72 Tryz.underlying22 hi hz0 hz1 hz2 rfl (by omega) v xs.length (cvcs xs) how ad m c (cvcs ys) (by rw[zdY,hm]) hN (zry ys) (by simp only[maxLen];omega) (by omega) hb;refine⟨v',w',hrun,?_,h3,h5⟩;unfold OwnC;rw[zlS,List.length_append,hm];exact h2
theorem zbh (w:World){ops:Array Oper}{rest:List Oper}{o:Oper}{a:Act}{Q:Exit→Act→World→Prop}(hg:o.guard=none)(s x:Operand)
  (hop:o.op=Op.call { callee:=Callee.builtin Builtin.append,args:=#[s,x],argTypes:=#[22,22] }) (base:Nat) (v:Value) (xs:List Cv) (y:Cv) (ad:Addr) (c:Nat)
  (hs:a.eval s=v) (hx:a.eval x=.slice (some ad) 1 c) (how:OwnC w base v xs) (hN:∀j u,(cvcs [y])[j]?=some u→w.cell? (ad.add j)=some u) (hsz:xs.length+1≤1000000) (hb:base≤w.heap.size)
  (hK:∀v' w',OwnC w' base v' (xs++[y])→w.grownBy w' v.ownBlock→(v'.ownBlock=v.ownBlock∨v'.ownBlock=some w.heap.size)→wpList Tryz.prog ops Q rest (a.put o.dst v') w') :
  wpList Tryz.prog ops Q (o :: rest) a w:=by
 refine wpList_plain hg fun K hK'=>?_;obtain⟨v',w',hrun,h1,h2,h3⟩:=zbB w base v xs [y] o.type ad 1 c how hN rfl hsz hb;unfold Oper.wp execOp;simp only[hop,resolve,invoke,builtin,Sem.run_bind,Sem.run_pure,Result.andThen_ok,List.map_toArray,List.map_cons,List.map_nil,hs,hx,hrun];exact hK' _ _ (hK v' w' h1 h2 h3)
theorem zdp {w:World}{o:Oper}{a:Act}{K:Act→World→Prop}{Q:Exit→Act→World→Prop}(s x:Operand)
  (hop:o.op=Op.call { callee:=Callee.builtin Builtin.append,args:=#[s,x],argTypes:=#[22,22] }) (base:Nat) (v:Value) (xs:List Cv) (y:Cv) (ad:Addr) (c:Nat)
  (hs:a.eval s=v) (hx:a.eval x=.slice (some ad) 1 c) (how:OwnC w base v xs) (hN:∀j u,(cvcs [y])[j]?=some u→w.cell? (ad.add j)=some u) (hsz:xs.length+1≤1000000) (hb:base≤w.heap.size)
  (h:∀v' w',OwnC w' base v' (xs++[y])→w.grownBy w' v.ownBlock→(v'.ownBlock=v.ownBlock∨v'.ownBlock=some w.heap.size)→K (a.put o.dst v') w'):Oper.wp Tryz.prog o a w K Q:=by
 obtain⟨v',w',hrun,h1,h2,h3⟩:=zbB w base v xs [y] o.type ad 1 c how hN rfl hsz hb;unfold Oper.wp execOp;simp only[hop,resolve,invoke,builtin,Sem.run_bind,Sem.run_pure,Result.andThen_ok,List.map_toArray,List.map_cons,List.map_nil,hs,hx,hrun];exact h v' w' h1 h2 h3
end Go.Proofs.YtikehjindobpkaaGreat

namespace Go.Proofs.YtikehjindobpkaaGreat
open Go.RowKit Nds Num
structure PB (w:World)(B:Nat)(x y:Bool × Option Addr × Nat × List Nat)(W:World):Prop where
 b:Below w.heap.size w W
 lw:w.heap.size≤B
 lt:B+1<W.heap.size
 x0:W.cell? ⟨B,0,none⟩=some (.bool x.1)
 x1:W.cell? ⟨B,1,none⟩=some (.slice x.2.1 x.2.2.2.length x.2.2.1)
 y0:W.cell? ⟨B+1,0,none⟩=some (.bool y.1)
 y1:W.cell? ⟨B+1,1,none⟩=some (.slice y.2.1 y.2.2.2.length y.2.2.1)
 ux:Us W x.2.1 x.2.2.1 x.2.2.2
 uy:Us W y.2.1 y.2.2.1 y.2.2.2
theorem PB.next {w:World}{B:Nat}{x y:Bool × Option Addr × Nat × List Nat}{W W1:World}(h:PB w B x y W)(k:Below W.heap.size W W1):PB w B x y W1 :=
 ⟨h.b.trans (k.mono h.b.size),h.lw,Nat.lt_of_lt_of_le h.lt k.size,(k.cell (p:=⟨B,0,none⟩) (by have:=h.lt;show B<_;omega)).trans h.x0,(k.cell (p:=⟨B,1,none⟩) (by have:=h.lt;show B<_;omega)).trans h.x1,
  (k.cell (p:=⟨B+1,0,none⟩) h.lt).trans h.y0,(k.cell (p:=⟨B+1,1,none⟩) h.lt).trans h.y1,h.ux.below k,h.uy.below k⟩
theorem PB.new (w:World)(s t:Bool)(A B:Option Addr)(c d:Nat)(xs ys:List Nat)(h:Us w A c xs)(k:Us w B d ys) :
  PB w w.heap.size (s,A,c,xs) (t,B,d,ys) ((w.alloc (.cells #[.bool s,.slice A xs.length c] 31)).alloc (.cells #[.bool t,.slice B ys.length d] 31)):=by
 obtain⟨e1,e2,e3⟩:=box2 w (.bool s) (.slice A xs.length c) (.bool t) (.slice B ys.length d) 31;exact⟨e3,Nat.le_refl _,by simp,e1.1,e1.2.1,e2.1,e2.2.1,h.below e3,k.below e3⟩
theorem zdA {a b:Int}:decide (ordI a b<0)=decide (a<b):=by
 unfold ordI;split
 ·rename_i h;rw[decide_eq_true h];rfl
 ·rename_i h;rw[decide_eq_false h];split <;> rfl
theorem zdB {a b:Int}:decide (ordI a b≥0)=decide (b≤a):=by
 unfold ordI;split
 ·rename_i h;rw[decide_eq_false (by omega),decide_eq_false (by omega)]
 ·rename_i h;rw[decide_eq_true (show b≤a by omega)];split <;> rfl
def inH (x h:Int):Bool:=decide (x<h)&&decide (-h≤x)
theorem zcx (s t_:Bool)(A B:Option Addr)(c d:Nat)(xs ys:List Nat)(w:World)(h:Us w A c xs)(k:Us w B d ys)(hl:xs.length≤60000)(kl:ys.length≤50000)(hc:zaq s xs)(kc:zaq t_ ys) :
  Calls Tryz.prog 95 #[.agg #[.bool s,.slice A xs.length c],.agg #[.bool t_,.slice B ys.length d]] w fun e w'=>e=.returned (.bool (inH (ival s xs) (ival t_ ys)))∧Below w.heap.size w w':=by
 have hcap:=h.cap;have kcap:=k.cap;obtain⟨W,hW⟩:∃W:World,W=(w.alloc (.cells #[.bool s,.slice A xs.length c] 31)).alloc (.cells #[.bool t_,.slice B ys.length d] 31):=⟨_,rfl⟩;have hP:PB w w.heap.size (s,A,c,xs) (t_,B,d,ys) W:=by rw[hW];exact PB.new w s t_ A B c d xs ys h k
 obtain⟨X,hX⟩:∃X,X=ival s xs:=⟨_,rfl⟩;obtain⟨H,hH⟩:∃H,H=ival t_ ys:=⟨_,rfl⟩;rw[←hX,←hH];have HW:=Hh hW;have st:=hP.next (zab (Below.refl _ W) 1);have HXX:=Hh hX;have HHH:=Hh hH;obtain⟨k1,k2,k3,k4⟩:W.cell? ⟨w.heap.size,0,none⟩=some (.bool s)∧W.cell? ⟨w.heap.size,1,none⟩=some (.slice A xs.length c)∧W.cell? ⟨w.heap.size+1,0,none⟩=some (.bool t_)∧W.cell? ⟨w.heap.size+1,1,none⟩=some (.slice B ys.length d):=⟨hP.x0,hP.x1,hP.y0,hP.y1⟩;have HC:=Hh hc;have KC:=Hh kc;have HL:=Hh hl;have KL:=Hh kl;rw[hW] at k1 k2 k3 k4;rw[hW] at st;clear h k hP hW hX hH hc kc;have q0:True:=trivial;by_cases hxh:X<H
 ·have HXH:=Hh hxh;obtain⟨r,hr⟩:∃r,r=ordI X H:=⟨_,rfl⟩;have t1:decide (r<0)=true:=by rw[hr,zdA];exact decide_eq_true hxh
  have HRr:=Hh hr;clear hr hxh;obtain⟨r2,hr2⟩:∃r2,r2=ordI X (-H):=⟨_,rfl⟩;have HR2:=Hh hr2;clear hr2;go_enter Tryz.func95,Tryz.ntmps95;go_wp2_with fail;go_region_held3 (fun w'=>w'.cell? ⟨w.heap.size,0,none⟩=some (.bool s)∧w'.cell? ⟨w.heap.size,1,none⟩=some (.slice A xs.length c)∧w'.cell? ⟨w.heap.size+1,0,none⟩=some (.bool t_)∧w'.cell? ⟨w.heap.size+1,1,none⟩=some (.slice B ys.length d))
   (first|go_keep|exact⟨e1,e2,e3,e4⟩)
   (first
    | (go_at_call 119;refine(zjh t_ B d ys _ (PB.uy (w:=w) (B:=w.heap.size) (x:=(s,A,c,xs)) (y:=(t_,B,d,ys)) st1) (by have:=KL.out;omega)).mono ?_;rintro e w2 ⟨A2,c2,s2,r2_,rfl,u2,q2,v2,b2⟩;have st2:=st1.next b2;have q2w:=q1;clear q1;have e1:=st2.x0;have e2:=st2.x1;have e3:=st2.y0;have e4:=st2.y1;dsimp only at e1 e2 e3 e4)
    | (have _t:=q0;go_at_call 55;clear _t;refine(zeG s t_ A B c d xs ys _ (PB.ux (w:=w) (B:=w.heap.size) (x:=(s,A,c,xs)) (y:=(t_,B,d,ys)) st) (PB.uy (w:=w) (B:=w.heap.size) (x:=(s,A,c,xs)) (y:=(t_,B,d,ys)) st) HL.out (by have:=KL.out;omega) HC.out KC.out).mono ?_;rintro e w1 ⟨rfl,b1⟩;rw[←HXX.out,←HHH.out,←HRr.out];have q1:=q0;clear q0;have st1:=st.next b1;have e1:=st1.x0;have e2:=st1.x1;have e3:=st1.y0;have e4:=st1.y1;dsimp only at e1 e2 e3 e4)
    | (have _t:=q2w;go_at_call 55;clear _t;refine(zeG s s2 A A2 c c2 xs r2_ _ (PB.ux (w:=w) (B:=w.heap.size) (x:=(s,A,c,xs)) (y:=(t_,B,d,ys)) st2) u2 HL.out (by have h1:=zbJ (s:=t_) st2.uy.1 KL.out;exact Nat.le_trans (zbo q2 v2 50000 (by rw[Int.natAbs_neg];exact h1)) (by omega)) HC.out q2).mono ?_;rintro e w3 ⟨rfl,b3⟩;rw[←HXX.out,v2,←HHH.out,←HR2.out];have st3:=st2.next b3;have e1:=st3.x0;have e2:=st3.x1;have e3:=st3.y0;have e4:=st3.y1;dsimp only at e1 e2 e3 e4))
  all_goals
   go_wp2_with fail;go_ret;refine⟨?_,st3.b⟩;unfold inH;rw[decide_eq_true HXH.out,Bool.true_and,←zdB (a:=X) (b := -H),←HR2.out];rfl
 ·obtain⟨r,hr⟩:∃r,r=ordI X H:=⟨_,rfl⟩;have t1:decide (r<0)=false:=by rw[hr,zdA];exact decide_eq_false hxh
  have HRr:=Hh hr;have HXH:=Hh hxh;clear hr hxh;go_enter Tryz.func95,Tryz.ntmps95;go_wp2_with fail;go_region_with (go_at_call 55;refine(zeG s t_ A B c d xs ys _ (PB.ux (w:=w) (B:=w.heap.size) (x:=(s,A,c,xs)) (y:=(t_,B,d,ys)) st) (PB.uy (w:=w) (B:=w.heap.size) (x:=(s,A,c,xs)) (y:=(t_,B,d,ys)) st) HL.out (by have:=KL.out;omega) HC.out KC.out).mono ?_;rintro e w1 ⟨rfl,b1⟩;rw[←HXX.out,←HHH.out,←HRr.out];have st1:=st.next b1;have e1:=st1.x0;have e2:=st1.x1;have e3:=st1.y0;have e4:=st1.y1;dsimp only at e1 e2 e3 e4)
  all_goals
   go_wp2_with fail;go_ret;refine⟨?_,st1.b⟩;unfold inH;rw[decide_eq_false (Int.not_lt.2 HXH.out),Bool.false_and];rfl
def inL (c:Cl)(lv:Nat):Bool:=inH c.x (p2 (lv-1))&&inH c.y (p2 (lv-1))
def upL (c:Cl)(lv:Nat):Nat:=if h:lv≤1329 then (if inL c lv=true then lv else upL c (lv+1)) else lv
 termination_by 1330-lv
theorem zdZ {c:Cl}{lv:Nat}(h:inL c lv=true):upL c lv=lv:=by
 by_cases h9:lv≤1329
 ·rw[upL,dif_pos h9,if_pos h]
 ·rw[upL,dif_neg h9]
theorem zgO {c:Cl}{lv:Nat}(h:¬ lv≤1329):upL c lv=lv:=by
 rw[upL,dif_neg h]
theorem zea {c:Cl}{lv:Nat}(h:lv≤1329)(h2:inL c lv=false):upL c lv=upL c (lv+1):=by
 rw[upL,dif_pos h,if_neg (by rw[h2];simp)]
def zaz (l:List Cl):Nat:=l.foldl (fun lv c=>upL c lv) 1
theorem zkG (l:List Cl)(c:Cl):zaz (l++[c])=upL c (zaz l):=by
 unfold zaz;rw[List.foldl_append];rfl
theorem zdh {l:List Cv}{k:Nat}(hk:k<l.length):zaz ((l.take (k+1)).map Cv.cl)=upL (cat l k).cl (zaz ((l.take k).map Cv.cl)):=by
 rw[←List.take_append_getElem (l:=l) (i:=k) hk,List.map_append,List.map_cons,List.map_nil,zkG,←zbP hk]
theorem zbQ {w:World}{A:Option Addr}{c:Nat}{xs:List Nat}(h:Us w A c xs){g:Nat}(hg:∀o v,w.cell? ⟨g,o,none⟩=some v→∀k,v≠.int .u32 k):0<xs.length→∀a,A=some a→a.block≠g:=fun hx a e he=>by
 obtain⟨b,off,e',hb,hc⟩:=h.at_ hx
 rw[e] at e';cases e';dsimp only at he;subst he;exact hg _ _ (hc 0 hx) _ rfl
structure HX (W:World)(g:Nat)(s:Bool)(A:Option Addr)(c:Nat)(xs:List Nat)(n:Int):Prop where
 box:W.heap[g]?=some (.cells #[.bool s,.slice A xs.length c] 31)
 us:Us W A c xs
 cn:zaq s xs
 v:ival s xs=n
 off:0<xs.length→∀a,A=some a→a.block≠g
theorem HX.lt {W:World}{g:Nat}{s:Bool}{A:Option Addr}{c:Nat}{xs:List Nat}{n:Int}(h:HX W g s A c xs n):g<W.heap.size:=(Array.getElem?_eq_some_iff.1 h.box).1
theorem HX.c0 {W:World}{g:Nat}{s:Bool}{A:Option Addr}{c:Nat}{xs:List Nat}{n:Int}(h:HX W g s A c xs n):W.cell? ⟨g,0,none⟩=some (.bool s):=by
 rw[cell_of_row W g _ _ _ _ h.box];rfl
theorem HX.c1 {W:World}{g:Nat}{s:Bool}{A:Option Addr}{c:Nat}{xs:List Nat}{n:Int}(h:HX W g s A c xs n):W.cell? ⟨g,1,none⟩=some (.slice A xs.length c):=by
 rw[cell_of_row W g _ _ _ _ h.box];rfl
theorem HX.free {W:World}{g:Nat}{s:Bool}{A:Option Addr}{c:Nat}{xs:List Nat}{n:Int}(h:HX W g s A c xs n)(k:Nat):W.frozen? ⟨g,k,none⟩=false:=frozen_of_row W g k _ _ h.box
theorem HX.next {W W1:World}{g:Nat}{s:Bool}{A:Option Addr}{c:Nat}{xs:List Nat}{n:Int}(h:HX W g s A c xs n)(k:Below W.heap.size W W1):HX W1 g s A c xs n :=
 ⟨(k.block g h.lt).trans h.box,h.us.below k,h.cn,h.v,h.off⟩
theorem zcy {W:World}{g:Nat}{s:Bool}{A:Option Addr}{n c:Nat}(h:W.heap[g]?=some (.cells #[.bool s,.slice A n c] 31)):∀o v,W.cell? ⟨g,o,none⟩=some v→∀k,v≠.int .u32 k:=fun o v hv k e=>by
 subst e;rw[cell_of_row W g _ _ _ _ h] at hv
 match o with
 | 0=>simp at hv
 | 1=>simp at hv
 | o+2=>simp at hv
theorem HX.set {W:World}{g:Nat}{s s2:Bool}{A A2:Option Addr}{c c2:Nat}{xs ys:List Nat}{n m:Int}(h:HX W g s A c xs n)(hu:Us W A2 c2 ys)(hc:zaq s2 ys)(hv:ival s2 ys=m) :
  HX ((W.setCell ⟨g,0,none⟩ (.bool s2)).setCell ⟨g,1,none⟩ (.slice A2 ys.length c2)) g s2 A2 c2 ys m:=by
 have ho:=zbQ hu (zcy h.box);have hk:∀k,k<W.heap.size→k≠g→((W.setCell ⟨g,0,none⟩ (.bool s2)).setCell ⟨g,1,none⟩ (.slice A2 ys.length c2)).heap[k]?=W.heap[k]?:=fun k _ hk =>
  (Below.heap_setCell _ _ _ _ hk).trans (Below.heap_setCell _ _ _ _ hk)
 exact⟨heap_setCell_same _ g 1 _ _ _ (heap_setCell_same W g 0 _ _ _ h.box),zbs hu hk (by simp[World.setCell]) ho,hc,hv,ho⟩
theorem zsT (n:Nat):shlI (p2 n) 1=p2 (n+1):=by
 unfold shlI;rw[if_pos (by decide),zal];show p2 n*2^1=_;omega
theorem zbY {s:Bool}{xs:List Nat}{n:Nat}(hc:zaq s xs)(hv:ival s xs=p2 n)(hn:n≤1330):xs.length≤50:=by
 refine zbo hc hv 50 ?_;unfold p2;obtain⟨M,hM⟩:∃M,M=50:=⟨_,rfl⟩;rw[←hM,show((2:Int)^n).natAbs=2^n by rw[Int.natAbs_pow];rfl,show(4294967296:Nat)=2^32 by decide,←Nat.pow_mul];exact Nat.pow_lt_pow_right (by decide) (by omega)
theorem zju (A0:Option Addr)(c0 n:Nat)(l:List Cv)(w:World)(h:Cs w A0 c0 l)(hn:l.length=n)(hR:∀v∈l,CvR v)(hn9:n≤900000) :
  Calls Tryz.prog 67 #[.slice A0 n c0] w fun e w'=>e=.returned (.int .i64 (zaz (l.map Cv.cl):Nat))∧Below w.heap.size w w':=by
 have hcap:=h.cap;rw[hn] at hcap;have HC:=Hh h;have HN:=Hh hn;have HR:=Hh hR;clear h hR hn;go_enter Tryz.func67,Tryz.ntmps67;go_wp2_with (go_at_call 54;refine(zgz 1 _ (by decide) (by decide)).mono ?_;rintro e w1 ⟨A1,c1,s1,r1,rfl,q1,k1,v1,b1⟩;have HB1:=Hh b1;have HU1:=Hh q1;have HK1:=Hh k1;have HV1:=Hh v1;clear b1 q1 k1 v1);obtain⟨g,hg⟩:∃g,g=w1.heap.size:=⟨_,rfl⟩;rw[←hg];have HG:=Hh (show w.heap.size≤g by rw[hg];exact HB1.out.size);have hx0:HX (w1.alloc (.cells #[.bool s1,.slice A1 r1.length c1] 31)) g s1 A1 c1 r1 (p2 0):=by
  rw[hg];have hb:=heap_alloc_new w1 (.cells #[.bool s1,.slice A1 r1.length c1] 31);exact⟨hb,HU1.out.below ((Below.refl _ w1).alloc (Nat.le_refl _) _),HK1.out,HV1.out,fun hx a e=>by have:=zbw HU1.out hx a e;omega⟩
 have HX0:=Hh hx0;have HB2:=Hh (HB1.out.alloc HB1.out.size (.cells #[.bool s1,.slice A1 r1.length c1] 31));clear hg hx0;go_loopw [10,3] (fun z1 z2 wr=>∃(k lv:Nat) (s:Bool) (A:Option Addr) (c:Nat) (xs:List Nat),k≤n∧z1=.int .i64 k∧z2=.int .i64 lv∧1≤lv∧lv≤1330∧zaz ((l.take k).map Cv.cl)=lv∧HX wr g s A c xs (p2 (lv-1))∧Below w.heap.size w wr) (fun z1 _ _=>n-(intOf z1).toNat)
 case atStart=>exact⟨0,1,s1,A1,c1,r1,by omega,rfl,rfl,by omega,by omega,rfl,HX0.out,HB2.out⟩
 case round =>
  obtain⟨k,lv,s,A,c,xs,hk,rfl,rfl,hl1,hl2,hlv,hx,hb⟩:=hrel;have HLV:=Hh hlv;have HXX:=Hh hx;have HBB:=Hh hb;clear hlv;by_cases hlt:k<n
  ·have i1:(k:Int)<(n:Int):=by omega
   have i2:(0:Int)≤(k:Int):=by omega
   have t1:decide ((k:Int)<(n:Int))=true:=decide_eq_true i1;obtain⟨b,off,rfl,hbl,hcl⟩:=(HC.out.below hb).at_ (by rw[HN.out];omega)
   obtain⟨c1_,c2_,c3_,c4_,c5_⟩:=hcl k (by rw[HN.out];exact hlt);have hvu:=(HC.out.below hb).1 _ (zaB (i:=k) (by rw[HN.out];exact hlt));have hvr:=HR.out _ (zaB (i:=k) (by rw[HN.out];exact hlt));obtain⟨v,hv⟩:∃v,v=cat l k:=⟨_,rfl⟩;rw[←hv] at c1_ c2_ c3_ c4_ c5_ hvu hvr;have hv1:=hvu.1.cap;have hv2:=hvu.2.1.cap;have HV:=Hh hv;have HVU:=Hh hvu;have HVR:=Hh hvr;have HCL:=Hh hcl;clear hv hvu hvr hcl hx hb;go_wp2_with fail;obtain⟨bx,hbx⟩:∃bx,bx=wr.heap.size:=⟨_,rfl⟩;rw[←hbx];have hgx:Gro wr (wr.alloc (.cells #[.bool v.sx,.slice v.ax v.xs.length v.cx,.bool v.sy,.slice v.ay v.ys.length v.cy,.int .u8 v.st] 83)):=(Gro.refl wr).alloc _;have hcv:CvAt (wr.alloc (.cells #[.bool v.sx,.slice v.ax v.xs.length v.cx,.bool v.sy,.slice v.ay v.ys.length v.cy,.int .u8 v.st] 83)) bx 0 v:=by rw[hbx];exact CvAt.new wr v _
   have hbxg:g<bx:=by rw[hbx];exact HXX.out.lt
   have hbxl:bx<(wr.alloc (.cells #[.bool v.sx,.slice v.ax v.xs.length v.cx,.bool v.sy,.slice v.ay v.ys.length v.cy,.int .u8 v.st] 83)).heap.size:=by rw[hbx];simp
   have HXA:=Hh (HXX.out.next hgx.b);have HBA:=Hh (HBB.out.trans (hgx.b.mono HBB.out.size));have HUA:=Hh (HVU.out.below hgx.b);clear hbx hgx;go_loopw [3] (fun z2 wi=>∃(lw:Nat) (s:Bool) (A:Option Addr) (c:Nat) (xs:List Nat),z2=.int .i64 lw∧1≤lw∧lw≤1330∧upL v.cl lv=upL v.cl lw∧HX wi g s A c xs (p2 (lw-1))∧CvAt wi bx 0 v∧CvU wi v∧bx<wi.heap.size∧Below w.heap.size w wi) (fun z2 _=>1330-(intOf z2).toNat)
   case atStart=>exact⟨lv,s,A,c,xs,rfl,hl1,hl2,rfl,HXA.out,hcv,HUA.out,hbxl,HBA.out⟩
   case round =>
    obtain⟨lw,s,A,c,xs,rfl,h1,h2,hup,hxi,hci,hui,hli,hbi⟩:=hrel;have HUP:=Hh hup;have HIX:=Hh hxi;have HIU:=Hh hui;have HIC:=Hh hci;have HIL:=Hh hli;have HIB:=Hh hbi;have HLN:=Hh (zbY hxi.cn hxi.v (by omega));have HGX:=Hh hbxg;obtain⟨d1,d2,d3,d4,d5⟩:=hci;have x1:=hxi.c0;have x2:=hxi.c1;have x3:=hxi.free 0;have x4:=hxi.free 1;have hxc:=hxi.us.cap;clear hup hxi hui hli hbi hcv;by_cases hL:lw≤1329
    ·have t2:decide ((lw:Int)≤1329)=true:=decide_eq_true (by omega);obtain⟨bX,hbX⟩:∃bX,bX=inH (ival v.sx v.xs) (ival s xs):=⟨_,rfl⟩;obtain⟨bY,hbY⟩:∃bY,bY=inH (ival v.sy v.ys) (ival s xs):=⟨_,rfl⟩;have HQX:=Hh hbX;have HQY:=Hh hbY;have HVX:=Hh (show bX=inH v.cl.x (p2 (lw-1)) by rw[←HIX.out.v];exact hbX);have HVY:=Hh (show bY=inH v.cl.y (p2 (lw-1)) by rw[←HIX.out.v];exact hbY);clear hbX hbY;cases bX with
     | false =>
      go_wp2_with (first
       | (go_at_call_of 95 (Value.agg #[Value.bool v.sx,Value.slice v.ax v.xs.length v.cx]);refine(zcx v.sx s v.ax A v.cx c v.xs xs _ HIU.out.1 HIX.out.us HVR.out.2.2.1 (by have:=HLN.out;omega) HVR.out.1 HIX.out.cn).mono ?_;rintro e w5 ⟨rfl,b5⟩;rw[←HQX.out];have HIX5:=Hh (HIX.out.next b5);have HIU5:=Hh (HIU.out.below b5);have HIC5:=Hh (HIC.out.below (b5.block bx HIL.out));have HIL5:=Hh (Nat.lt_of_lt_of_le HIL.out b5.size);have HIB5:=Hh (HIB.out.trans (b5.mono HIB.out.size));clear b5;obtain⟨f1,f2,f3,f4,f5⟩:=HIC5.out;have y1:=HIX5.out.c0;have y2:=HIX5.out.c1;have y3:=HIX5.out.free 0;have y4:=HIX5.out.free 1)
       | (go_at_call 96;refine(zim s A c xs 1 _ HIX5.out.us (by have:=HLN.out;omega)).mono ?_;rintro e w7 ⟨A7,c7,s7,r7,rfl,u7,k7,v7,b7⟩;have HIX7:=Hh (HIX5.out.next b7);have HU7:=Hh u7;have HK7:=Hh k7;have HV7:=Hh v7;have HIU7:=Hh (HIU5.out.below b7);have HIC7:=Hh (HIC5.out.below (b7.block bx HIL5.out));have HIL7:=Hh (Nat.lt_of_lt_of_le HIL5.out b7.size);have HIB7:=Hh (HIB5.out.trans (b7.mono HIB5.out.size));clear u7 k7 v7 b7;have g1:=HIX7.out.c0;have g2:=HIX7.out.c1;have g3:=HIX7.out.free 0;have g4:=HIX7.out.free 1))
      go_roundw
      case rel =>
       have hx7:HX ((w7.setCell ⟨g,0,none⟩ (.bool s7)).setCell ⟨g,1,none⟩ (.slice A7 r7.length c7)) g s7 A7 c7 r7 (p2 (lw+1-1)):=HIX7.out.set HU7.out HK7.out (by rw[HV7.out,HIX.out.v,zsT,show lw-1+1=lw+1-1 by omega]);have hkk:∀q,q≠g→((w7.setCell ⟨g,0,none⟩ (.bool s7)).setCell ⟨g,1,none⟩ (.slice A7 r7.length c7)).heap[q]?=w7.heap[q]?:=fun q hq=>(Below.heap_setCell _ _ _ _ hq).trans (Below.heap_setCell _ _ _ _ hq);refine⟨lw+1,s7,A7,c7,r7,by go_num,by omega,by omega,?_,hx7,HIC7.out.below (hkk bx (by have:=HGX.out;omega)),?_,by simp[World.setCell];exact HIL7.out,(HIB7.out.setCell (p:=⟨g,0,none⟩) HG.out _).setCell (p:=⟨g,1,none⟩) HG.out _⟩
       ·rw[HUP.out];exact zea hL (by unfold inL;rw[←HVX.out,←HVY.out];simp)
       ·refine zcG HIU7.out (fun q _ hq=>hkk q hq) (by simp[World.setCell]) ⟨zbQ HIU7.out.1 (zcy HIX7.out.box),zbQ HIU7.out.2.1 (zcy HIX7.out.box)⟩
      case measure=>simp[intOf];omega
     | true =>
      cases bY with
      | false =>
       go_wp2_with (first
        | (go_at_call_of 95 (Value.agg #[Value.bool v.sx,Value.slice v.ax v.xs.length v.cx]);refine(zcx v.sx s v.ax A v.cx c v.xs xs _ HIU.out.1 HIX.out.us HVR.out.2.2.1 (by have:=HLN.out;omega) HVR.out.1 HIX.out.cn).mono ?_;rintro e w5 ⟨rfl,b5⟩;rw[←HQX.out];have HIX5:=Hh (HIX.out.next b5);have HIU5:=Hh (HIU.out.below b5);have HIC5:=Hh (HIC.out.below (b5.block bx HIL.out));have HIL5:=Hh (Nat.lt_of_lt_of_le HIL.out b5.size);have HIB5:=Hh (HIB.out.trans (b5.mono HIB.out.size));clear b5;obtain⟨f1,f2,f3,f4,f5⟩:=HIC5.out;have y1:=HIX5.out.c0;have y2:=HIX5.out.c1;have y3:=HIX5.out.free 0;have y4:=HIX5.out.free 1)
        | (go_at_call_of 95 (Value.agg #[Value.bool v.sy,Value.slice v.ay v.ys.length v.cy]);refine(zcx v.sy s v.ay A v.cy c v.ys xs _ HIU5.out.2.1 HIX5.out.us HVR.out.2.2.2 (by have:=HLN.out;omega) HVR.out.2.1 HIX5.out.cn).mono ?_;rintro e w6 ⟨rfl,b6⟩;rw[←HQY.out];have HIX6:=Hh (HIX5.out.next b6);have HIU6:=Hh (HIU5.out.below b6);have HIC6:=Hh (HIC5.out.below (b6.block bx HIL5.out));have HIL6:=Hh (Nat.lt_of_lt_of_le HIL5.out b6.size);have HIB6:=Hh (HIB5.out.trans (b6.mono HIB5.out.size));clear b6;have z1:=HIX6.out.c0;have z2:=HIX6.out.c1;have z3:=HIX6.out.free 0;have z4:=HIX6.out.free 1)
        | (go_at_call 96;refine(zim s A c xs 1 _ HIX6.out.us (by have:=HLN.out;omega)).mono ?_;rintro e w7 ⟨A7,c7,s7,r7,rfl,u7,k7,v7,b7⟩;have HIX7:=Hh (HIX6.out.next b7);have HU7:=Hh u7;have HK7:=Hh k7;have HV7:=Hh v7;have HIU7:=Hh (HIU6.out.below b7);have HIC7:=Hh (HIC6.out.below (b7.block bx HIL6.out));have HIL7:=Hh (Nat.lt_of_lt_of_le HIL6.out b7.size);have HIB7:=Hh (HIB6.out.trans (b7.mono HIB6.out.size));clear u7 k7 v7 b7;have g1:=HIX7.out.c0;have g2:=HIX7.out.c1;have g3:=HIX7.out.free 0;have g4:=HIX7.out.free 1))
       go_roundw
       case rel =>
        have hx7:HX ((w7.setCell ⟨g,0,none⟩ (.bool s7)).setCell ⟨g,1,none⟩ (.slice A7 r7.length c7)) g s7 A7 c7 r7 (p2 (lw+1-1)):=HIX7.out.set HU7.out HK7.out (by rw[HV7.out,HIX.out.v,zsT,show lw-1+1=lw+1-1 by omega]);have hkk:∀q,q≠g→((w7.setCell ⟨g,0,none⟩ (.bool s7)).setCell ⟨g,1,none⟩ (.slice A7 r7.length c7)).heap[q]?=w7.heap[q]?:=fun q hq=>(Below.heap_setCell _ _ _ _ hq).trans (Below.heap_setCell _ _ _ _ hq);refine⟨lw+1,s7,A7,c7,r7,by go_num,by omega,by omega,?_,hx7,HIC7.out.below (hkk bx (by have:=HGX.out;omega)),?_,by simp[World.setCell];exact HIL7.out,(HIB7.out.setCell (p:=⟨g,0,none⟩) HG.out _).setCell (p:=⟨g,1,none⟩) HG.out _⟩
        ·rw[HUP.out];exact zea hL (by unfold inL;rw[←HVX.out,←HVY.out];simp)
        ·refine zcG HIU7.out (fun q _ hq=>hkk q hq) (by simp[World.setCell]) ⟨zbQ HIU7.out.1 (zcy HIX7.out.box),zbQ HIU7.out.2.1 (zcy HIX7.out.box)⟩
       case measure=>simp[intOf];omega
      | true =>
       go_wp2_with (first
        | (go_at_call_of 95 (Value.agg #[Value.bool v.sx,Value.slice v.ax v.xs.length v.cx]);refine(zcx v.sx s v.ax A v.cx c v.xs xs _ HIU.out.1 HIX.out.us HVR.out.2.2.1 (by have:=HLN.out;omega) HVR.out.1 HIX.out.cn).mono ?_;rintro e w5 ⟨rfl,b5⟩;rw[←HQX.out];have HIX5:=Hh (HIX.out.next b5);have HIU5:=Hh (HIU.out.below b5);have HIC5:=Hh (HIC.out.below (b5.block bx HIL.out));have HIL5:=Hh (Nat.lt_of_lt_of_le HIL.out b5.size);have HIB5:=Hh (HIB.out.trans (b5.mono HIB.out.size));clear b5;obtain⟨f1,f2,f3,f4,f5⟩:=HIC5.out;have y1:=HIX5.out.c0;have y2:=HIX5.out.c1;have y3:=HIX5.out.free 0;have y4:=HIX5.out.free 1)
        | (go_at_call_of 95 (Value.agg #[Value.bool v.sy,Value.slice v.ay v.ys.length v.cy]);refine(zcx v.sy s v.ay A v.cy c v.ys xs _ HIU5.out.2.1 HIX5.out.us HVR.out.2.2.2 (by have:=HLN.out;omega) HVR.out.2.1 HIX5.out.cn).mono ?_;rintro e w6 ⟨rfl,b6⟩;rw[←HQY.out];have HIX6:=Hh (HIX5.out.next b6);have HIU6:=Hh (HIU5.out.below b6);have HIC6:=Hh (HIC5.out.below (b6.block bx HIL5.out));have HIL6:=Hh (Nat.lt_of_lt_of_le HIL5.out b6.size);have HIB6:=Hh (HIB5.out.trans (b6.mono HIB5.out.size));clear b6;have z1:=HIX6.out.c0;have z2:=HIX6.out.c1;have z3:=HIX6.out.free 0;have z4:=HIX6.out.free 1))
       go_roundw
       case rel =>
        refine⟨k+1,lw,s,A,c,xs,by omega,by go_num,rfl,by omega,by omega,?_,HIX6.out,HIB6.out⟩;rw[zdh (by rw[HN.out];exact hlt),←HV.out,HLV.out,HUP.out];exact zdZ (by unfold inL;rw[←HVX.out,←HVY.out];rfl)
       case measure=>simp[intOf];omega
    ·have t2:decide ((lw:Int)≤1329)=false:=decide_eq_false (by omega);go_wp2_with fail;go_roundw
     case rel =>
      refine⟨k+1,lw,s,A,c,xs,by omega,by go_num,rfl,by omega,by omega,?_,HIX.out,HIB.out⟩;rw[zdh (by rw[HN.out];exact hlt),←HV.out,HLV.out,HUP.out];exact zgO hL
     case measure=>simp[intOf];omega
  ·obtain rfl:k=n:=by omega
   have t1:decide ((k:Int)<(k:Int))=false:=decide_eq_false (by omega);clear hx hb;go_wp2_with fail;go_ret;refine⟨?_,HBB.out⟩;rw[←HLV.out,List.take_of_length_le (by rw[HN.out];exact Nat.le_refl _)];rfl
theorem zbZ (n:Nat)(h:n≤1330):shlI 1 (n:Int)=p2 n:=by
 unfold shlI p2;rw[if_pos (by omega),Int.toNat_natCast,Int.one_mul]
structure WI (w:World)(v:Cv)(g h:Nat)(s:Bool)(A:Option Addr)(c:Nat)(xs:List Nat)(t:Bool)(B:Option Addr)(d:Nat)(ys:List Nat)(n:Int)(W:World):Prop where
 b:Below w.heap.size w W
 lt:w.heap.size<W.heap.size
 bv:CvAt W w.heap.size 0 v
 uv:CvU W v
 p:HX W g s A c xs n
 l:HX W h t B d ys (-n)
theorem WI.next {w:World}{v:Cv}{g h:Nat}{s:Bool}{A:Option Addr}{c:Nat}{xs:List Nat}{t:Bool}{B:Option Addr}{d:Nat}{ys:List Nat}{n:Int}{W W1:World}(k:WI w v g h s A c xs t B d ys n W)(q:Below W.heap.size W W1):WI w v g h s A c xs t B d ys n W1 :=
 ⟨k.b.trans (q.mono k.b.size),Nat.lt_of_lt_of_le k.lt q.size,k.bv.below (q.block _ k.lt),k.uv.below q,k.p.next q,k.l.next q⟩
theorem zvb (x y h:Int):(inH x h&&inH y h)=(decide (-h≤x)&&decide (x<h)&&decide (-h≤y)&&decide (y<h)):=by
 unfold inH;by_cases h1:x<h <;> by_cases h2 : -h≤x <;> by_cases h3:y<h <;> by_cases h4 : -h≤y <;> simp[h1,h2,h3,h4]
theorem zgP (v:Cv)(lv:Nat)(w:World)(h:CvU w v)(h1:v.xs.length≤60000)(h2:v.ys.length≤60000)(hl1:1≤lv)(hl2:lv≤1330) :
  Calls Tryz.prog 50 #[cvv v,.int .i64 (lv:Int)] w fun e w'=>e=.returned (.bool (inL v.cl lv))∧Below w.heap.size w w':=by
 obtain⟨m,rfl⟩:∃m,lv=m+1:=⟨lv-1,by omega⟩;have e0:(((m+1:Nat):Int))=(m:Int)+1:=by omega
 rw[e0];have hv1:=h.1.cap;have hv2:=h.2.1.cap;obtain⟨W,hW⟩:∃W:World,W=w.alloc (.cells #[.bool v.sx,.slice v.ax v.xs.length v.cx,.bool v.sy,.slice v.ay v.ys.length v.cy,.int .u8 v.st] 83):=⟨_,rfl⟩;have hb:Below w.heap.size w W:=by rw[hW];exact(Below.refl _ w).alloc (Nat.le_refl _) _
 have HW:=Hh hW;have HB:=Hh hb;have HLT:=Hh (show w.heap.size<W.heap.size by rw[hW];simp);have HCV:=Hh (show CvAt W w.heap.size 0 v by rw[hW];exact CvAt.new w v _);have HCU:=Hh (h.below hb);obtain⟨R,hR⟩:∃R,R=inL v.cl (m+1):=⟨_,rfl⟩;rw[←hR];have hR':R=(decide (-p2 m≤ival v.sx v.xs)&&decide (ival v.sx v.xs<p2 m)&&decide (-p2 m≤ival v.sy v.ys)&&decide (ival v.sy v.ys<p2 m)):=by
  rw[hR,←zvb];rfl
 have HR:=Hh hR';clear h hb e0 hR hR';obtain⟨ra,hra⟩:∃r,r=ordI (ival v.sx v.xs) (-p2 m):=⟨_,rfl⟩;obtain⟨rb,hrb⟩:∃r,r=ordI (ival v.sx v.xs) (p2 m):=⟨_,rfl⟩;obtain⟨rc,hrc⟩:∃r,r=ordI (ival v.sy v.ys) (-p2 m):=⟨_,rfl⟩;obtain⟨rd,hrd⟩:∃r,r=ordI (ival v.sy v.ys) (p2 m):=⟨_,rfl⟩;have ea:decide (ra≥0)=decide (-p2 m≤ival v.sx v.xs):=by rw[hra,zdB]
 have eb:decide (rb<0)=decide (ival v.sx v.xs<p2 m):=by rw[hrb,zdA]
 have ec:decide (rc≥0)=decide (-p2 m≤ival v.sy v.ys):=by rw[hrc,zdB]
 have ed:decide (rd<0)=decide (ival v.sy v.ys<p2 m):=by rw[hrd,zdA]
 rw[←ea,←eb,←ec,←ed] at HR;have HRA:=Hh hra;have HRB:=Hh hrb;have HRC:=Hh hrc;have HRD:=Hh hrd;clear hra hrb hrc hrd ea eb ec ed;have q0:True:=trivial;by_cases ta:ra≥0
 ·have xa:decide (ra≥0)=true:=decide_eq_true ta;by_cases tb:rb<0
  ·have xb:decide (rb<0)=true:=decide_eq_true tb;by_cases tc:rc≥0
   ·have xc:decide (rc≥0)=true:=decide_eq_true tc;rw[xa,xb,xc] at HR;clear ta tb tc;go_enter Tryz.func50,Tryz.ntmps50;go_wp2_with (first
     | (go_at_call 44;go_loud (rw[←HW.out];refine(zaS _ _).mono ?_;rintro e w5 ⟨A5,c5,s5,r5,rfl,u5,k5,v5,b5⟩;rw[zbZ m (by omega)] at v5;have U5:=Hh u5;have K5:=Hh k5;have V5:=Hh v5;have B5:=Hh b5;have hg5:=heap_alloc_new w5 (.cells #[.bool s5,.slice A5 r5.length c5] 31);have bl5:=(Below.refl w5.heap.size w5).alloc (Nat.le_refl _) (.cells #[.bool s5,.slice A5 r5.length c5] 31);have H5:=Hh (show HX (w5.alloc (.cells #[.bool s5,.slice A5 r5.length c5] 31)) w5.heap.size s5 A5 c5 r5 (p2 m) from⟨hg5,u5.below bl5,k5,v5,fun hx a e=>by have:=zbw u5 hx a e;omega⟩);have BL5:=Hh bl5;clear u5 k5 v5 b5 hg5 bl5))
     | (go_at_call 51;go_loud (refine(zbI s5 A5 c5 r5 _ H5.out.us (by have:=zbY K5.out V5.out (by omega);omega)).mono ?_;rintro e w6 ⟨A6,c6,s6,r6,rfl,u6,k6,v6,b6⟩;rw[V5.out] at v6;have hg6:=heap_alloc_new w6 (.cells #[.bool s6,.slice A6 r6.length c6] 31);have bl6:=(Below.refl w6.heap.size w6).alloc (Nat.le_refl _) (.cells #[.bool s6,.slice A6 r6.length c6] 31);have b56:=BL5.out.trans (b6.mono BL5.out.size) |>.trans (bl6.mono (Nat.le_trans BL5.out.size b6.size));have S1:=Hh (show WI w v w5.heap.size w6.heap.size s5 A5 c5 r5 s6 A6 c6 r6 (p2 m) (w6.alloc (.cells #[.bool s6,.slice A6 r6.length c6] 31)) from⟨HB.out.trans ((B5.out.mono HB.out.size).trans (b56.mono (Nat.le_trans HB.out.size B5.out.size))),Nat.lt_of_lt_of_le HLT.out (Nat.le_trans B5.out.size b56.size),(HCV.out.below (B5.out.block _ HLT.out)).below (b56.block _ (Nat.lt_of_lt_of_le HLT.out B5.out.size)),(HCU.out.below B5.out).below b56,(H5.out.next b6).next bl6,⟨hg6,u6.below bl6,k6,v6,fun hx a e=>by have:=zbw u6 hx a e;omega⟩⟩);have HL56:=Hh (And.intro (zbY K5.out V5.out (by omega)) (show r6.length≤50 from by have h3:=zbY K5.out V5.out (by omega);have h4:=zbJ (s:=s5) U5.out.1 h3;rw[V5.out] at h4;exact zbo k6 v6 50 (by rw[Int.natAbs_neg];exact h4)));clear u6 k6 v6 b6 hg6 bl6 b56;obtain⟨f1,f2,f3,f4,f5⟩:=S1.out.bv;have p1:=S1.out.p.c0;have p2_:=S1.out.p.c1;have l1:=S1.out.l.c0;have l2:=S1.out.l.c1))
     | (have _t:=q0;go_at_call 62;clear _t;go_loud (refine(zae v.sx s6 v.ax A6 v.cx c6 v.xs r6 _ S1.out.uv.1 S1.out.l.us h1 (by have:=HL56.out.2;omega)).mono ?_;rintro e w19 ⟨rfl,b9⟩;rw[S1.out.l.v,←HRA.out];have S2:=Hh (S1.out.next b9);clear b9;obtain⟨f1,f2,f3,f4,f5⟩:=S2.out.bv;have p1:=S2.out.p.c0;have p2_:=S2.out.p.c1;have l1:=S2.out.l.c0;have l2:=S2.out.l.c1;have q1:=q0;clear q0))
     | (have _t:=q1;go_at_call 62;clear _t;go_loud (refine(zae v.sx s5 v.ax A5 v.cx c5 v.xs r5 _ S2.out.uv.1 S2.out.p.us h1 (by have:=HL56.out.1;omega)).mono ?_;rintro e w29 ⟨rfl,b9⟩;rw[S2.out.p.v,←HRB.out];have S3:=Hh (S2.out.next b9);clear b9;obtain⟨f1,f2,f3,f4,f5⟩:=S3.out.bv;have p1:=S3.out.p.c0;have p2_:=S3.out.p.c1;have l1:=S3.out.l.c0;have l2:=S3.out.l.c1;have q2:=q1;clear q1))
     | (have _t:=q2;go_at_call 62;clear _t;go_loud (refine(zae v.sy s6 v.ay A6 v.cy c6 v.ys r6 _ S3.out.uv.2.1 S3.out.l.us h2 (by have:=HL56.out.2;omega)).mono ?_;rintro e w39 ⟨rfl,b9⟩;rw[S3.out.l.v,←HRC.out];have S4:=Hh (S3.out.next b9);clear b9;obtain⟨f1,f2,f3,f4,f5⟩:=S4.out.bv;have p1:=S4.out.p.c0;have p2_:=S4.out.p.c1;have l1:=S4.out.l.c0;have l2:=S4.out.l.c1;have q3:=q2;clear q2))
     | (have _t:=q3;go_at_call 62;clear _t;go_loud (refine(zae v.sy s5 v.ay A5 v.cy c5 v.ys r5 _ S4.out.uv.2.1 S4.out.p.us h2 (by have:=HL56.out.1;omega)).mono ?_;rintro e w49 ⟨rfl,b9⟩;rw[S4.out.p.v,←HRD.out];have S5:=Hh (S4.out.next b9);clear b9;obtain⟨f1,f2,f3,f4,f5⟩:=S5.out.bv;have p1:=S5.out.p.c0;have p2_:=S5.out.p.c1;have l1:=S5.out.l.c0;have l2:=S5.out.l.c1;have q4:=q3;clear q3)))
    go_ret;refine⟨?_,S5.out.b⟩;rw[HR.out];rfl
   ·have xc:decide (rc≥0)=false:=decide_eq_false tc;rw[xa,xb,xc] at HR;clear ta tb tc;go_enter Tryz.func50,Tryz.ntmps50;go_wp2_with (first
     | (go_at_call 44;go_loud (rw[←HW.out];refine(zaS _ _).mono ?_;rintro e w5 ⟨A5,c5,s5,r5,rfl,u5,k5,v5,b5⟩;rw[zbZ m (by omega)] at v5;have U5:=Hh u5;have K5:=Hh k5;have V5:=Hh v5;have B5:=Hh b5;have hg5:=heap_alloc_new w5 (.cells #[.bool s5,.slice A5 r5.length c5] 31);have bl5:=(Below.refl w5.heap.size w5).alloc (Nat.le_refl _) (.cells #[.bool s5,.slice A5 r5.length c5] 31);have H5:=Hh (show HX (w5.alloc (.cells #[.bool s5,.slice A5 r5.length c5] 31)) w5.heap.size s5 A5 c5 r5 (p2 m) from⟨hg5,u5.below bl5,k5,v5,fun hx a e=>by have:=zbw u5 hx a e;omega⟩);have BL5:=Hh bl5;clear u5 k5 v5 b5 hg5 bl5))
     | (go_at_call 51;go_loud (refine(zbI s5 A5 c5 r5 _ H5.out.us (by have:=zbY K5.out V5.out (by omega);omega)).mono ?_;rintro e w6 ⟨A6,c6,s6,r6,rfl,u6,k6,v6,b6⟩;rw[V5.out] at v6;have hg6:=heap_alloc_new w6 (.cells #[.bool s6,.slice A6 r6.length c6] 31);have bl6:=(Below.refl w6.heap.size w6).alloc (Nat.le_refl _) (.cells #[.bool s6,.slice A6 r6.length c6] 31);have b56:=BL5.out.trans (b6.mono BL5.out.size) |>.trans (bl6.mono (Nat.le_trans BL5.out.size b6.size));have S1:=Hh (show WI w v w5.heap.size w6.heap.size s5 A5 c5 r5 s6 A6 c6 r6 (p2 m) (w6.alloc (.cells #[.bool s6,.slice A6 r6.length c6] 31)) from⟨HB.out.trans ((B5.out.mono HB.out.size).trans (b56.mono (Nat.le_trans HB.out.size B5.out.size))),Nat.lt_of_lt_of_le HLT.out (Nat.le_trans B5.out.size b56.size),(HCV.out.below (B5.out.block _ HLT.out)).below (b56.block _ (Nat.lt_of_lt_of_le HLT.out B5.out.size)),(HCU.out.below B5.out).below b56,(H5.out.next b6).next bl6,⟨hg6,u6.below bl6,k6,v6,fun hx a e=>by have:=zbw u6 hx a e;omega⟩⟩);have HL56:=Hh (And.intro (zbY K5.out V5.out (by omega)) (show r6.length≤50 from by have h3:=zbY K5.out V5.out (by omega);have h4:=zbJ (s:=s5) U5.out.1 h3;rw[V5.out] at h4;exact zbo k6 v6 50 (by rw[Int.natAbs_neg];exact h4)));clear u6 k6 v6 b6 hg6 bl6 b56;obtain⟨f1,f2,f3,f4,f5⟩:=S1.out.bv;have p1:=S1.out.p.c0;have p2_:=S1.out.p.c1;have l1:=S1.out.l.c0;have l2:=S1.out.l.c1))
     | (have _t:=q0;go_at_call 62;clear _t;go_loud (refine(zae v.sx s6 v.ax A6 v.cx c6 v.xs r6 _ S1.out.uv.1 S1.out.l.us h1 (by have:=HL56.out.2;omega)).mono ?_;rintro e w19 ⟨rfl,b9⟩;rw[S1.out.l.v,←HRA.out];have S2:=Hh (S1.out.next b9);clear b9;obtain⟨f1,f2,f3,f4,f5⟩:=S2.out.bv;have p1:=S2.out.p.c0;have p2_:=S2.out.p.c1;have l1:=S2.out.l.c0;have l2:=S2.out.l.c1;have q1:=q0;clear q0))
     | (have _t:=q1;go_at_call 62;clear _t;go_loud (refine(zae v.sx s5 v.ax A5 v.cx c5 v.xs r5 _ S2.out.uv.1 S2.out.p.us h1 (by have:=HL56.out.1;omega)).mono ?_;rintro e w29 ⟨rfl,b9⟩;rw[S2.out.p.v,←HRB.out];have S3:=Hh (S2.out.next b9);clear b9;obtain⟨f1,f2,f3,f4,f5⟩:=S3.out.bv;have p1:=S3.out.p.c0;have p2_:=S3.out.p.c1;have l1:=S3.out.l.c0;have l2:=S3.out.l.c1;have q2:=q1;clear q1))
     | (have _t:=q2;go_at_call 62;clear _t;go_loud (refine(zae v.sy s6 v.ay A6 v.cy c6 v.ys r6 _ S3.out.uv.2.1 S3.out.l.us h2 (by have:=HL56.out.2;omega)).mono ?_;rintro e w39 ⟨rfl,b9⟩;rw[S3.out.l.v,←HRC.out];have S4:=Hh (S3.out.next b9);clear b9;obtain⟨f1,f2,f3,f4,f5⟩:=S4.out.bv;have p1:=S4.out.p.c0;have p2_:=S4.out.p.c1;have l1:=S4.out.l.c0;have l2:=S4.out.l.c1;have q3:=q2;clear q2)))
    go_ret;refine⟨?_,S4.out.b⟩;rw[HR.out];rfl
  ·have xb:decide (rb<0)=false:=decide_eq_false tb;rw[xa,xb] at HR;clear ta tb;go_enter Tryz.func50,Tryz.ntmps50;go_wp2_with (first
    | (go_at_call 44;go_loud (rw[←HW.out];refine(zaS _ _).mono ?_;rintro e w5 ⟨A5,c5,s5,r5,rfl,u5,k5,v5,b5⟩;rw[zbZ m (by omega)] at v5;have U5:=Hh u5;have K5:=Hh k5;have V5:=Hh v5;have B5:=Hh b5;have hg5:=heap_alloc_new w5 (.cells #[.bool s5,.slice A5 r5.length c5] 31);have bl5:=(Below.refl w5.heap.size w5).alloc (Nat.le_refl _) (.cells #[.bool s5,.slice A5 r5.length c5] 31);have H5:=Hh (show HX (w5.alloc (.cells #[.bool s5,.slice A5 r5.length c5] 31)) w5.heap.size s5 A5 c5 r5 (p2 m) from⟨hg5,u5.below bl5,k5,v5,fun hx a e=>by have:=zbw u5 hx a e;omega⟩);have BL5:=Hh bl5;clear u5 k5 v5 b5 hg5 bl5))
    | (go_at_call 51;go_loud (refine(zbI s5 A5 c5 r5 _ H5.out.us (by have:=zbY K5.out V5.out (by omega);omega)).mono ?_;rintro e w6 ⟨A6,c6,s6,r6,rfl,u6,k6,v6,b6⟩;rw[V5.out] at v6;have hg6:=heap_alloc_new w6 (.cells #[.bool s6,.slice A6 r6.length c6] 31);have bl6:=(Below.refl w6.heap.size w6).alloc (Nat.le_refl _) (.cells #[.bool s6,.slice A6 r6.length c6] 31);have b56:=BL5.out.trans (b6.mono BL5.out.size) |>.trans (bl6.mono (Nat.le_trans BL5.out.size b6.size));have S1:=Hh (show WI w v w5.heap.size w6.heap.size s5 A5 c5 r5 s6 A6 c6 r6 (p2 m) (w6.alloc (.cells #[.bool s6,.slice A6 r6.length c6] 31)) from⟨HB.out.trans ((B5.out.mono HB.out.size).trans (b56.mono (Nat.le_trans HB.out.size B5.out.size))),Nat.lt_of_lt_of_le HLT.out (Nat.le_trans B5.out.size b56.size),(HCV.out.below (B5.out.block _ HLT.out)).below (b56.block _ (Nat.lt_of_lt_of_le HLT.out B5.out.size)),(HCU.out.below B5.out).below b56,(H5.out.next b6).next bl6,⟨hg6,u6.below bl6,k6,v6,fun hx a e=>by have:=zbw u6 hx a e;omega⟩⟩);have HL56:=Hh (And.intro (zbY K5.out V5.out (by omega)) (show r6.length≤50 from by have h3:=zbY K5.out V5.out (by omega);have h4:=zbJ (s:=s5) U5.out.1 h3;rw[V5.out] at h4;exact zbo k6 v6 50 (by rw[Int.natAbs_neg];exact h4)));clear u6 k6 v6 b6 hg6 bl6 b56;obtain⟨f1,f2,f3,f4,f5⟩:=S1.out.bv;have p1:=S1.out.p.c0;have p2_:=S1.out.p.c1;have l1:=S1.out.l.c0;have l2:=S1.out.l.c1))
    | (have _t:=q0;go_at_call 62;clear _t;go_loud (refine(zae v.sx s6 v.ax A6 v.cx c6 v.xs r6 _ S1.out.uv.1 S1.out.l.us h1 (by have:=HL56.out.2;omega)).mono ?_;rintro e w19 ⟨rfl,b9⟩;rw[S1.out.l.v,←HRA.out];have S2:=Hh (S1.out.next b9);clear b9;obtain⟨f1,f2,f3,f4,f5⟩:=S2.out.bv;have p1:=S2.out.p.c0;have p2_:=S2.out.p.c1;have l1:=S2.out.l.c0;have l2:=S2.out.l.c1;have q1:=q0;clear q0))
    | (have _t:=q1;go_at_call 62;clear _t;go_loud (refine(zae v.sx s5 v.ax A5 v.cx c5 v.xs r5 _ S2.out.uv.1 S2.out.p.us h1 (by have:=HL56.out.1;omega)).mono ?_;rintro e w29 ⟨rfl,b9⟩;rw[S2.out.p.v,←HRB.out];have S3:=Hh (S2.out.next b9);clear b9;obtain⟨f1,f2,f3,f4,f5⟩:=S3.out.bv;have p1:=S3.out.p.c0;have p2_:=S3.out.p.c1;have l1:=S3.out.l.c0;have l2:=S3.out.l.c1;have q2:=q1;clear q1)))
   go_ret;refine⟨?_,S3.out.b⟩;rw[HR.out];rfl
 ·have xa:decide (ra≥0)=false:=decide_eq_false ta;rw[xa] at HR;clear ta;go_enter Tryz.func50,Tryz.ntmps50;go_wp2_with (first
   | (go_at_call 44;go_loud (rw[←HW.out];refine(zaS _ _).mono ?_;rintro e w5 ⟨A5,c5,s5,r5,rfl,u5,k5,v5,b5⟩;rw[zbZ m (by omega)] at v5;have U5:=Hh u5;have K5:=Hh k5;have V5:=Hh v5;have B5:=Hh b5;have hg5:=heap_alloc_new w5 (.cells #[.bool s5,.slice A5 r5.length c5] 31);have bl5:=(Below.refl w5.heap.size w5).alloc (Nat.le_refl _) (.cells #[.bool s5,.slice A5 r5.length c5] 31);have H5:=Hh (show HX (w5.alloc (.cells #[.bool s5,.slice A5 r5.length c5] 31)) w5.heap.size s5 A5 c5 r5 (p2 m) from⟨hg5,u5.below bl5,k5,v5,fun hx a e=>by have:=zbw u5 hx a e;omega⟩);have BL5:=Hh bl5;clear u5 k5 v5 b5 hg5 bl5))
   | (go_at_call 51;go_loud (refine(zbI s5 A5 c5 r5 _ H5.out.us (by have:=zbY K5.out V5.out (by omega);omega)).mono ?_;rintro e w6 ⟨A6,c6,s6,r6,rfl,u6,k6,v6,b6⟩;rw[V5.out] at v6;have hg6:=heap_alloc_new w6 (.cells #[.bool s6,.slice A6 r6.length c6] 31);have bl6:=(Below.refl w6.heap.size w6).alloc (Nat.le_refl _) (.cells #[.bool s6,.slice A6 r6.length c6] 31);have b56:=BL5.out.trans (b6.mono BL5.out.size) |>.trans (bl6.mono (Nat.le_trans BL5.out.size b6.size));have S1:=Hh (show WI w v w5.heap.size w6.heap.size s5 A5 c5 r5 s6 A6 c6 r6 (p2 m) (w6.alloc (.cells #[.bool s6,.slice A6 r6.length c6] 31)) from⟨HB.out.trans ((B5.out.mono HB.out.size).trans (b56.mono (Nat.le_trans HB.out.size B5.out.size))),Nat.lt_of_lt_of_le HLT.out (Nat.le_trans B5.out.size b56.size),(HCV.out.below (B5.out.block _ HLT.out)).below (b56.block _ (Nat.lt_of_lt_of_le HLT.out B5.out.size)),(HCU.out.below B5.out).below b56,(H5.out.next b6).next bl6,⟨hg6,u6.below bl6,k6,v6,fun hx a e=>by have:=zbw u6 hx a e;omega⟩⟩);have HL56:=Hh (And.intro (zbY K5.out V5.out (by omega)) (show r6.length≤50 from by have h3:=zbY K5.out V5.out (by omega);have h4:=zbJ (s:=s5) U5.out.1 h3;rw[V5.out] at h4;exact zbo k6 v6 50 (by rw[Int.natAbs_neg];exact h4)));clear u6 k6 v6 b6 hg6 bl6 b56;obtain⟨f1,f2,f3,f4,f5⟩:=S1.out.bv;have p1:=S1.out.p.c0;have p2_:=S1.out.p.c1;have l1:=S1.out.l.c0;have l2:=S1.out.l.c1))
   | (have _t:=q0;go_at_call 62;clear _t;go_loud (refine(zae v.sx s6 v.ax A6 v.cx c6 v.xs r6 _ S1.out.uv.1 S1.out.l.us h1 (by have:=HL56.out.2;omega)).mono ?_;rintro e w19 ⟨rfl,b9⟩;rw[S1.out.l.v,←HRA.out];have S2:=Hh (S1.out.next b9);clear b9;obtain⟨f1,f2,f3,f4,f5⟩:=S2.out.bv;have p1:=S2.out.p.c0;have p2_:=S2.out.p.c1;have l1:=S2.out.l.c0;have l2:=S2.out.l.c1;have q1:=q0;clear q0)))
  go_ret;refine⟨?_,S2.out.b⟩;rw[HR.out];rfl
end Go.Proofs.YtikehjindobpkaaGreat

namespace Go.Proofs.YtikehjindobpkaaGreat
open Go.RowKit Nds
theorem zfs (W:World)(g:Nat)(x:Nd)(hx:x.wf)(hg:W.heap.size=g):Ns (W.alloc (.cells #[.int .i64 x.lv,.int .i64 x.a,.int .i64 x.b,.int .i64 x.c,.int .i64 x.d] 74)) (some ⟨g,0,none⟩) 1 [x]:=by
 subst hg;refine⟨by simpa using hx,by simp,by simp[maxLen],fun _=>⟨_,0,rfl,by simp,fun i hi=>?_⟩⟩;have h0:i=0:=by simpa using hi
 subst h0;exact NdAt.new W x _
structure Ky (P:Nat→Prop)(w w':World):Prop where
 os:w'.os=w.os
 tape:w'.tape=w.tape
 output:w'.output=w.output
 size:w.heap.size≤w'.heap.size
 block:∀k,k<w.heap.size→¬ P k→w'.heap[k]?=w.heap[k]?
theorem Ky.refl (P:Nat→Prop)(w:World):Ky P w w:=⟨rfl,rfl,rfl,Nat.le_refl _,fun _ _ _=>rfl⟩
theorem Ky.trans {P Q:Nat→Prop}{a b c:World}(h:Ky P a b)(k:Ky Q b c)(hQ:∀i,i<a.heap.size→Q i→P i):Ky P a c :=
 ⟨k.os.trans h.os,k.tape.trans h.tape,k.output.trans h.output,Nat.le_trans h.size k.size,fun i hi hn=>(k.block i (Nat.lt_of_lt_of_le hi h.size) (fun hq=>hn (hQ i hi hq))).trans (h.block i hi hn)⟩
theorem Ky.gb {P:Nat→Prop}{a b c:World}{r:Option Nat}(h:Ky P a b)(k:b.grownBy c r)(hr:∀i,i<a.heap.size→r=some i→P i):Ky P a c :=
 ⟨k.os.trans h.os,k.tape.trans h.tape,k.output.trans h.output,Nat.le_trans h.size k.size,fun i hi hn=>(k.block i (Nat.lt_of_lt_of_le hi h.size) (fun hq=>hn (hr i hi hq.symm))).trans (h.block i hi hn)⟩
theorem Ky.alloc {P:Nat→Prop}{a b:World}(h:Ky P a b)(o:Obj):Ky P a (b.alloc o):=h.gb (World.grownBy_alloc b o none) (fun _ _ e=>by cases e)
theorem Ky.below {P:Nat→Prop}{a b c:World}(h:Ky P a b)(k:Below b.heap.size b c):Ky P a c :=
 ⟨k.os.trans h.os,k.tape.trans h.tape,k.output.trans h.output,Nat.le_trans h.size k.size,fun i hi hn=>(k.block i (Nat.lt_of_lt_of_le hi h.size)).trans (h.block i hi hn)⟩
theorem Ky.set {P:Nat→Prop}{a b:World}(h:Ky P a b)(p:Addr)(hp:p.block<a.heap.size→P p.block)(u:Value):Ky P a (b.setCell p u) :=
 ⟨h.os,h.tape,h.output,by simpa [World.setCell] using h.size,fun i hi hn=>(Below.heap_setCell _ _ _ _ (fun e=>hn (by subst e;exact hp hi))).trans (h.block i hi hn)⟩
theorem Ky.to {P:Nat→Prop}{a b:World}(h:Ky P a b){B:Nat}(hB:B≤a.heap.size)(hP:∀k,P k→B≤k):Below B a b :=
 ⟨h.os,h.tape,h.output,h.size,fun k hk=>h.block k (Nat.lt_of_lt_of_le hk hB) (fun hp=>Nat.not_lt.2 (hP k hp) hk)⟩
theorem Ky.nd {P:Nat→Prop}{w w':World}(h:Ky P w w'){b o:Nat}{x:Nd}(hx:NdAt w b o x)(hb:b<w.heap.size)(hp:¬ P b):NdAt w' b o x:=hx.below (h.block b hb hp)
def mix (x y:Nd)(k:Nat):Nd:=⟨x.lv,if 0<k then y.a else x.a,if 1<k then y.b else x.b,if 2<k then y.c else x.c,if 3<k then y.d else x.d⟩
theorem zgd {x y:Nd}(h:x.lv=y.lv):mix x y 4=y:=by
 unfold mix;rw[h];rfl
theorem ztX (x y:Nd)(k:Nat){i:Nat}(hi:i<4):(mix x y k).kid i=if i<k then y.kid i else x.kid i:=by
 match i,hi with
 | 0,_=>rfl
 | 1,_=>rfl
 | 2,_=>rfl
 | 3,_=>rfl
def zbc (w:World)(g:Nat)(x:Nd):Prop:=w.heap[g]?=some (.cells #[.int .i64 x.lv,.int .i64 x.a,.int .i64 x.b,.int .i64 x.c,.int .i64 x.d] 74)
theorem zbc.lt {w:World}{g:Nat}{x:Nd}(h:zbc w g x):g<w.heap.size:=(Array.getElem?_eq_some_iff.1 h).1
theorem zbc.at_ {w:World}{g:Nat}{x:Nd}(h:zbc w g x):NdAt w g 0 x:=by
 refine⟨?_,?_,?_,?_,?_⟩ <;> (rw[cell_of_row w g _ _ _ (0,0) h];rfl)
theorem zbc.free {w:World}{g:Nat}{x:Nd}(h:zbc w g x)(k:Nat):w.frozen? ⟨g,k,none⟩=false:=frozen_of_row w g k _ _ h
theorem zbc.new (w:World)(x:Nd):zbc (w.alloc (.cells #[.int .i64 x.lv,.int .i64 x.a,.int .i64 x.b,.int .i64 x.c,.int .i64 x.d] 74)) w.heap.size x:=heap_alloc_new w _
theorem zbc.stay {w w':World}{g:Nat}{x:Nd}(h:zbc w g x)(hb:w'.heap[g]?=w.heap[g]?):zbc w' g x:=hb.trans h
theorem zbc.setKid {w:World}{g:Nat}{x y:Nd}{k:Nat}(h:zbc w g (mix x y k))(hk:k<4){o:Nat}(ho:o=1+k){u:Int}(hu:u=y.kid k):zbc (w.setCell ⟨g,o,none⟩ (.int .i64 u)) g (mix x y (k+1)):=by
 subst ho;subst hu;refine(heap_setCell_same w g (1+k) _ _ _ h).trans ?_
 match k,hk with
 | 0,_=>rfl
 | 1,_=>rfl
 | 2,_=>rfl
 | 3,_=>rfl
def OwnD (w:World)(base g n:Nat)(ds:List Nat):Prop :=
 ds.length=n∧w.ownsRow base 3 1 (.slice (some ⟨g,0,none⟩) n n) n (ds.map fun k:Nat=>Value.int .i64 (k:Int))
theorem OwnD.cell {w:World}{base g n:Nat}{ds:List Nat}(h:OwnD w base g n ds){k:Nat}(hk:k<n):w.cell? ⟨g,k,none⟩=some (.int .i64 ((ds.getD k 0:Nat):Int)):=by
 have hl:k<ds.length:=by have:=h.1;omega
 rw[h.2.cellAt k (by omega),List.getElem?_map,List.getD_eq_getElem?_getD,List.getElem?_eq_getElem hl];rfl
theorem OwnD.free {w:World}{base g n:Nat}{ds:List Nat}(h:OwnD w base g n ds)(k:Nat):w.frozen? ⟨g,k,none⟩=false:=h.2.frozenAt k
theorem OwnD.set {w:World}{base g n:Nat}{ds:List Nat}(h:OwnD w base g n ds)(k u:Nat):OwnD (w.setCell ⟨g,k,none⟩ (.int .i64 (u:Int))) base g n (ds.set k u):=by
 refine⟨by simpa using h.1,?_⟩;rw[List.map_set];exact(h.2.stored k _).1
theorem zwf (n:Nat):(madeCells (Value.cells (.int .i64 0)) (n*1)).toList=(List.replicate n 0).map (fun k:Nat=>Value.int .i64 (k:Int)):=by
 rw[Nat.mul_one];refine List.ext_getElem (by simp[madeCells]) fun i h1 h2=>?_;simp[madeCells,Value.cells,Nat.mod_one]
theorem OwnD.made {w:World}{base g n:Nat}(h:w.ownsRow base 3 1 (.slice (some ⟨g,0,none⟩) n n) n (madeCells (Value.cells (.int .i64 0)) (n*1)).toList):OwnD w base g n (List.replicate n 0) :=
 ⟨by simp,by rw[←zwf];exact h⟩
theorem OwnD.lt {w:World}{base g n:Nat}{ds:List Nat}(h:OwnD w base g n ds):base≤g∧g<w.heap.size:=h.2.lt g rfl
theorem OwnD.gbr {w w':World}{base g n:Nat}{ds:List Nat}{row:Option Nat}(h:OwnD w base g n ds)(hg:w.grownBy w' row)(hv:row≠some g):OwnD w' base g n ds:=⟨h.1,h.2.kept hg (.inr (fun e=>hv e.symm))⟩
theorem zaR (w:World)(p:Addr)(u:Value):w.grownBy (w.setCell p u) (some p.block) :=
 ⟨rfl,rfl,rfl,by simp[World.setCell],fun i _ hi=>Below.heap_setCell _ _ _ _ (fun e=>hi (by rw[e]))⟩
theorem zcz (w:World)(base:Nat):OwnN w base (.slice none 0 0) []:=⟨by simp,World.ownsRow_nil w base _ 5⟩
theorem zbt {v:Value}{r:Option Nat}(h:∀k,v.ownBlock=some k→r≠some k):v.ownBlock=none∨v.ownBlock≠r:=by
 cases hv:v.ownBlock with
 | none=>exact .inl rfl
 | some k=>exact .inr (fun e=>h k hv e.symm)
theorem zmW (A:Option Addr)(c n:Nat)(l:List Nd)(p k:Nat)(w:World)(h:Ns w A c l)(hn:l.length=n)(hl:zad l=true)(hp:p<n)(hlv:1<(at_ l p).lv)(hk:k<4) :
  Calls Tryz.prog 109 #[.slice A n c,.int .i64 ((p:Int)+1),.int .i64 (k:Int)] w fun e w'=>e=.returned (.int .i64 (innK l (at_ l p) k))∧w=w':=by
 have hcap:=h.cap;rw[hn] at hcap;have hpl:p<l.length:=by omega
 obtain⟨b,off,rfl,hb,hc⟩:=h.at_ (by omega)
 have hyc:=(hc p hpl).kid hk;have hfk:=zan (zai hl hpl) hk;obtain⟨R,hR⟩:∃R,R=innK l (at_ l p) k:=⟨_,rfl⟩;rw[←hR];obtain⟨y,hy⟩:∃y,y=(at_ l p).kid k:=⟨_,rfl⟩;unfold innK at hR;rw[←hy] at hR hfk hyc;have i1:(p:Int)<(n:Int):=by omega
 have i2:(k:Int)<4:=by omega
 rcases zaO (by omega) hfk with rfl|⟨r,rfl,hr,_⟩
 ·rw[if_pos rfl] at hR;subst hR;clear hy hfk hn hl hlv hc h;go_enter Tryz.func109,Tryz.ntmps109;go_wp2_with fail;go_ret;exact⟨rfl,rfl⟩
 ·rw[if_neg (by omega),show((r:Int)+1).toNat-1=r by omega] at hR;obtain⟨k2,hk2⟩:∃k2,k2=3-k:=⟨_,rfl⟩;have hzc:=(hc r hr).kid (q:=k2) (by omega);rw[←hk2] at hR;rw[←hR] at hzc;have t1:((r:Int)+1==0)=false:=beq_eq_false_iff_ne.2 (by omega);have e3:(3:Int)-(k:Int)=(k2:Int):=by omega
  have i3:(r:Int)<(n:Int):=by omega
  have i4:(k2:Int)<4:=by omega
  have HE:=Hh e3;clear hy hfk hn hl hlv hc hk2 hR h hr;go_enter Tryz.func109,Tryz.ntmps109;go_wp2_with fail;go_ret;exact⟨rfl,rfl⟩
theorem zeR (A:Option Addr)(c n:Nat)(l:List Nd)(x:Nd)(w:World)(h:Ns w A c l)(hn:l.length=n)(hx:x.wf) :
  Calls Tryz.prog 110 #[.slice A n c,ndv x] w fun e w'=>e=.returned (.int .i64 ((fnd l x:Nat):Int))∧Below w.heap.size w w':=by
 have hcap:=h.cap;rw[hn] at hcap;have hb:=(Below.refl w.heap.size w).alloc (Nat.le_refl _) (.cells #[.int .i64 x.lv,.int .i64 x.a,.int .i64 x.b,.int .i64 x.c,.int .i64 x.d] 74);have HB:=Hh hb;have HNL:=Hh (h.below hb);have HL:=Hh hn;have HWX:=Hh hx;obtain⟨R,hR⟩:∃R,R=fnd l x:=⟨_,rfl⟩;rw[←hR];have HR:=Hh hR;have hbx:=NdAt.new w x 74;clear h hn hb hx hR;go_enter Tryz.func110,Tryz.ntmps110;go_wp2_with fail;obtain⟨f1,f2,f3,f4,f5⟩:=hbx;generalize hg:w.heap.size=g at *;generalize hW:w.alloc _=W at *;have HG:=Hh hg;clear hW hg;go_loopw [5] (fun i wr=>∃(k nd:Nat),wr=W.drewN nd∧k≤n∧i=.int .i64 k∧∀j,j<k→at_ l j≠x) (fun i _=>n-(intOf i).toNat)
 case atStart=>exact⟨0,0,rfl,by omega,rfl,fun j hj=>by omega⟩
 case round =>
  obtain⟨k,nd,rfl,hk,rfl,hall⟩:=hrel;have HA:=Hh hall;clear hall;by_cases hlt:k<n
  ·obtain⟨b,off,rfl,hb,hc⟩:=HNL.out.at_ (by rw[HL.out];omega)
   obtain⟨c1,c2,c3,c4,c5⟩:=hc k (by rw[HL.out];exact hlt);have hwy:=HNL.out.wf (i:=k) (by rw[HL.out];exact hlt);clear hc;obtain⟨y,hy⟩:∃y,y=at_ l k:=⟨_,rfl⟩
   rw[←hy] at c1 c2 c3 c4 c5 hwy;have HY:=Hh hy;have hq:=zrb y x hwy HWX.out;have i1:(k:Int)<(n:Int):=by omega
   have i2:(0:Int)≤(k:Int):=by omega
   clear hy hwy;by_cases hxy:y=x
   ·have HXY:=Hh hxy;rw[decide_eq_true hxy] at hq;clear hxy;go_wp2_with fail;go_quiet (fail);go_wp2_with fail;go_ret;refine⟨?_,zcE (by rw[HG.out];exact HB.out) _⟩;rw[HR.out,ziv (i:=k) (by rw[HL.out];exact hlt) (by rw[←HY.out];exact HXY.out) HA.out];simp
   ·have HXY:=Hh hxy;rw[decide_eq_false hxy] at hq;clear hxy;go_wp2_with fail;go_quiet (fail);go_wp2_with fail;go_roundw
    case rel =>
     refine⟨k+1,_,rfl,by omega,by go_num,fun j hj=>?_⟩;rcases Nat.lt_or_ge j k with h1|h1
     ·exact HA.out j h1
     ·rw[show j=k by omega,←HY.out];exact HXY.out
    case measure=>simp[intOf];omega
  ·go_wp2_with fail;go_ret;refine⟨?_,zcE (by rw[HG.out];exact HB.out) _⟩;rw[HR.out,ziu fun j hj=>HA.out j (by rw[HL.out] at hj;omega)];rfl
theorem zjv (A B:Option Addr)(c d n p:Nat)(l m:List Nd)(w:World)(h:Ns w A c l)(k:Ns w B d m)(hn:l.length=n)(hp:m.length=p) :
  Calls Tryz.prog 13 #[.agg #[.slice A n c],.agg #[.slice B p d]] w fun e w'=>e=.returned (.bool (decide (l=m)))∧Below w.heap.size w w':=by
 have hb:=((Below.refl w.heap.size w).alloc (Nat.le_refl _) (.cells #[.slice A n c] 26)).alloc (by simp) (.cells #[.slice B p d] 26);have HB:=Hh hb;have HL:=Hh (h.below hb);have HM:=Hh (k.below hb);have HN:=Hh hn;have HP:=Hh hp;obtain⟨R,hR⟩:∃R,R=decide (l=m):=⟨_,rfl⟩;rw[←hR];have HR:=Hh hR;clear hb h k hn hp hR;go_enter Tryz.func13,Tryz.ntmps13;go_wp2_with (go_at_call 33;refine(zmN _ _ _ _ _ _ l m _ HL.out HM.out HN.out HP.out).mono ?_;rintro e w1 ⟨rfl,q,rfl⟩;rw[←HR.out]);go_ret;exact⟨rfl,zcE HB.out _⟩
theorem zlT (A:Option Addr)(c n:Nat)(l:List Nd)(w:World)(h:Ns w A c l)(hn:l.length=n) :
  Calls Tryz.prog 80 #[.slice A n c] w fun e w'=>e=.returned (.bool (zad l))∧Below w.heap.size w w' :=
 (zow A c n l w h hn).mono fun _ _ ⟨he,hw⟩=>⟨he,zkr hw⟩
def okB (l:List Nd)(k:Int):Bool:=zad l&&decide (0≤k∧k≤(l.length:Int))
def ofQ (l:List Nd)(k:Int):List Nd:=if okB l k=true then OfL l k.toNat else []
def ofE (l:List Nd)(k:Int):Int:=if okB l k=true then 0 else 1
def RetO (l:List Nd)(k:Int)(w:World)(e:Ending)(w':World):Prop :=
 ∃A c,e=.returned (.tuple #[.agg #[.slice A (ofQ l k).length c],.int .i64 (ofE l k)])∧Ns w' A c (ofQ l k)∧(A=none→c=0)∧Below w.heap.size w w'
theorem zvc {l:List Nd}{k:Int}(h:okB l k=false):ofQ l k=[]∧ofE l k=1:=by
 unfold ofQ ofE;rw[if_neg (by rw[h];simp),if_neg (by rw[h];simp)];exact⟨rfl,rfl⟩
theorem ztY {l:List Nd}{n:Nat}(hl:zad l=true)(hn:n≤l.length):ofQ l (n:Int)=OfL l n∧ofE l (n:Int)=0:=by
 have h:okB l (n:Int)=true:=by
  unfold okB;rw[hl,decide_eq_true (by omega)];rfl
 unfold ofQ ofE;rw[if_pos h,if_pos h,Int.toNat_natCast];exact⟨rfl,rfl⟩
theorem zvd {l:List Nd}{k:Int}(h:zad l=false∨k<0∨(l.length:Int)<k):okB l k=false:=by
 unfold okB;rcases h with h|h
 ·rw[h];rfl
 ·rw[decide_eq_false (by omega),Bool.and_false]
theorem zfG (w:World):Ns w none 0 []:=⟨by simp,Nat.le_refl _,by simp[maxLen],fun h=>absurd h (Nat.lt_irrefl 0)⟩
def zwg (l:List Nd)(k:Nat)(w:World)(e:Ending)(w':World):Prop :=
 ∃v cur j,e=.returned (.tuple #[v,.int .i64 ((j:Nat):Int)])∧OwnN w' w.heap.size v cur∧zad cur=true∧j≤cur.length∧den cur j=shrT (den l k)∧cur.length≤l.length+1329∧Below w.heap.size w w'
def lenOf:Value→Nat|.slice _ n _=>n|_=>0
theorem OwnN.stays {w w':World}{base:Nat}{v:Value}{l:List Nd}(h:OwnN w base v l)(hb:Below w.heap.size w w'):OwnN w' base v l :=
 h.gbr (row:=none) ⟨hb.os,hb.tape,hb.output,hb.size,fun i hi _=>hb.block i hi⟩ (by
  cases hv:v.ownBlock
  ·exact .inl rfl
  ·exact .inr (by simp))
def SS (l:List Nd)(t:Tr)(cur:List Nd)(p:Nat):Prop:=zad cur=true∧p<cur.length∧den cur (p+1)≠.e∧shrT (den cur (p+1))=t∧(cur.length:Int)+(at_ cur p).lv≤l.length+1329
theorem SS.start {l:List Nd}(hl:zad l=true){p:Nat}(hp:p<l.length)(hne:den l (p+1)≠.e):SS l (shrT (den l (p+1))) l p:=by
 have:=zaJ (zai hl hp);exact⟨hl,hp,hne,rfl,by omega⟩
theorem SS.next {l cur:List Nd}{t:Tr}{p:Nat}(h:SS l t cur p)(hh:holT (den cur (p+1))=true):SS l t (cur++[innN cur (at_ cur p)]) cur.length:=by
 obtain⟨h1,h2,h3,h4,h5⟩:=h;obtain⟨s1,s2,s3,s4⟩:=zro h1 h2 hh;refine⟨s1,by simp,by rw[s2];exact s3,by rw[s2,s4];exact h4,?_⟩;rw[zdw];show(((cur++[_]).length:Nat):Int)+((at_ cur p).lv-1)≤_;rw[List.length_append];show((cur.length+1:Nat):Int)+_≤_;omega
theorem SS.len {l cur:List Nd}{t:Tr}{p:Nat}(h:SS l t cur p):cur.length≤l.length+1328:=by
 obtain⟨h1,h2,h3,h4,h5⟩:=h;have:=zaJ (zai h1 h2);omega
theorem zkH (A:Option Addr)(c n:Nat)(l:List Nd)(k:Nat)(w:World)(h:Ns w A c l)(hn:l.length=n)(hl:zad l=true)(hn9:n≤900000)(hA:A=none→c=0)(hk:k≤n) :
  Calls Tryz.prog 81 #[.slice A n c,.int .i64 (k:Int)] w (zwg l k w):=by
 have hcap:=h.cap;rw[hn] at hcap;have HN:=Hh h;have HL:=Hh hn;have HLL:=Hh hl;have HA:=Hh hA;have q0:True:=trivial;have hemp:=zfZ hl (n:=k) (by omega);clear h hn hl hA;by_cases he:den l k=.e
 ·have HE:=Hh he;rw[he] at hemp;have HM:=Hh (show empB l k=true from hemp);clear he hemp;go_enter Tryz.func81,Tryz.ntmps81;go_wp2_with (first
   | (have _t:=q0;at_builtin;clear _t;go_loud (refine zaD _ rfl _ _ rfl w.heap.size _ [] l A n c rfl rfl (OwnN.start _) (HN.out.below ((Below.refl _ w).alloc (Nat.le_refl _) _)) HL.out HA.out (by simp;omega) (by simp) ?_;intro v2 w2 ho2 hg2 hk2;rw[List.nil_append] at ho2;have HO:=Hh ho2;obtain⟨A2,c2,hv2,hn2,hA2,hB2⟩:=ho2.shape;rw[HL.out] at hv2;subst hv2;have HN2:=Hh hn2;have HB:=Hh (((Below.refl _ w).alloc (Nat.le_refl _) _).grown hg2 (by simp) (fun k hk=>by cases hk;exact Nat.le_refl _));clear ho2 hg2 hk2 hn2 hA2 hB2;have q1:=q0;clear q0))
   | (have _t:=q1;go_at_call 107;clear _t;go_loud (refine(zhC _ _ n l k _ HN2.out HL.out HLL.out (by omega) hk).mono ?_;rintro e w3 ⟨rfl,b3⟩;have HB3:=Hh b3;clear b3;rw[HM.out];have q2:=q1;clear q1)))
  go_ret2;refine⟨.slice A2 n c2,l,0,rfl,?_,HLL.out,Nat.zero_le _,?_,by omega,HB.out.trans (HB3.out.mono HB.out.size)⟩
  ·exact HO.out.stays HB3.out
  ·rw[zaw,HE.out,ztJ]
 ·obtain⟨p,rfl⟩:∃p,k=p+1:=⟨k-1,by have:k≠0:=fun e=>he (by rw[e];exact zaw l);omega⟩;have HM:=Hh (show empB l (p+1)=false by rw[hemp];exact zoy.2 he);have HS0:=Hh (SS.start HLL.out (by rw[HL.out];omega) he);clear he hemp;go_enter Tryz.func81,Tryz.ntmps81;go_wp2_with (first
   | (have _t:=q0;at_builtin;clear _t;go_loud (refine zaD _ rfl _ _ rfl w.heap.size _ [] l A n c rfl rfl (OwnN.start _) (HN.out.below ((Below.refl _ w).alloc (Nat.le_refl _) _)) HL.out HA.out (by simp;omega) (by simp) ?_;intro v2 w2 ho2 hg2 hk2;rw[List.nil_append] at ho2;have HO:=Hh ho2;obtain⟨A2,c2,hv2,hn2,hA2,hB2⟩:=ho2.shape;rw[HL.out] at hv2;subst hv2;have HN2:=Hh hn2;have HB:=Hh (((Below.refl _ w).alloc (Nat.le_refl _) _).grown hg2 (by simp) (fun k hk=>by cases hk;exact Nat.le_refl _));clear ho2 hg2 hk2 hn2 hA2 hB2;have q1:=q0;clear q0))
   | (have _t:=q1;go_at_call 107;clear _t;go_loud (refine(zhC _ _ n l (p+1) _ HN2.out HL.out HLL.out (by omega) hk).mono ?_;rintro e w3 ⟨rfl,b3⟩;have HB3:=Hh b3;clear b3;rw[HM.out];have q2:=q1;clear q1)))
  obtain⟨v0,hv0⟩:∃v0,v0=Value.slice A2 n c2:=⟨_,rfl⟩;have HO3:=Hh (show OwnN w3 w.heap.size v0 l by rw[hv0];exact HO.out.stays HB3.out);have HBA:=Hh (HB.out.trans (HB3.out.mono HB.out.size));rw[←hv0];clear hv0;go_loopw [6,1,7,8] (fun z1 z2 z3 z4 wr=>∃(cur:List Nd) (r:Nat) (v u1 u2:Value),v=z1∧z2=.int .i64 ((r:Int)+1)∧z3=u1∧z4=u2∧OwnN wr w.heap.size v cur∧SS l (shrT (den l (p+1))) cur r∧Below w.heap.size w wr) (fun z1 _ _ _ _=>n+2000-lenOf z1)
  case atStart=>exact⟨l,p,_,_,_,rfl,by simp,rfl,rfl,HO3.out,HS0.out,HBA.out⟩
  case round =>
   obtain⟨cur,r,v,u1,u2,rfl,rfl,rfl,rfl,how,hss,hbw⟩:=hrel;have HS:=Hh hss;have HW:=Hh how;have hlen:=hss.len;rw[HL.out] at hlen;obtain⟨A3,c3,rfl,hn3,hA3,hB3⟩:=how.shape;have HN3:=Hh hn3;have HA3:=Hh hA3;have HB4:=Hh hB3;obtain⟨g1,g2,g3,g4,g5⟩:=hss;have hhol:=zmQ g1 g2 g3;obtain⟨cn,hcn⟩:∃cn,cn=cur.length:=⟨_,rfl⟩;rw[←hcn] at g2 hlen ⊢;have HCN:=Hh hcn;have G1:=Hh g1;have G3:=Hh g3;have G4:=Hh g4;clear how hn3 hA3 hB3 g1 g3 g4 g5 hcn;cases hh:holT (den cur (r+1)) with
   | false =>
    have HH:=Hh hh;rw[hh] at hhol;have HHO:=Hh hhol;clear hh hhol;go_wp2_with (go_at_call 108;go_loud (refine(zgC _ _ cn cur (r+1) _ HN3.out HCN.out.symm G1.out (by omega) (by omega)).mono ?_;rintro e w4 ⟨rfl,b4⟩;have HB5:=Hh b4;clear b4;rw[HHO.out]));go_ret2;have hcn:=HCN.out;have hll:=HL.out;refine⟨.slice A3 cn c3,cur,r+1,rfl,?_,G1.out,by omega,?_,by omega,hbw.trans (HB5.out.mono hbw.size)⟩
    ·rw[hcn];exact HW.out.stays HB5.out
    ·rw[←G4.out,zcF HH.out]
   | true =>
    have HH:=Hh hh;rw[hh] at hhol;have HHO:=Hh hhol;have hlv:=(zsO G1.out (by rw[←HCN.out];exact g2) hh).1;clear hh hhol;obtain⟨b,off,rfl,hb,hc⟩:=HN3.out.at_ (by rw[←HCN.out];omega)
    have c1:=(hc r (by rw[←HCN.out];exact g2)).1;have HLV:=Hh hlv;have HBB:=Hh hb;obtain⟨x,hx⟩:∃x,x=at_ cur r:=⟨_,rfl⟩
    rw[←hx] at c1 hlv;have HX:=Hh hx;have hfx:=zaJ (zai G1.out (i:=r) (by rw[←HCN.out];exact g2));rw[←hx] at hfx;have i1:(r:Int)<(cn:Int):=by omega
    clear hc hb hx;go_wp2_with (go_at_call 108;go_loud (refine(zgC _ _ cn cur (r+1) _ HN3.out HCN.out.symm G1.out (by omega) (by omega)).mono ?_;rintro e w4 ⟨rfl,b4⟩;have HB5:=Hh b4;have c1:=(World.cell?_of_block (w:=wr) (a:=⟨b,off+r*5,none⟩) (b4.block b HBB.out)).trans c1;clear b4;rw[HHO.out]));have HBW4:=Hh (hbw.trans (HB5.out.mono hbw.size));have HW4:=Hh (HW.out.stays HB5.out);have HN4:=Hh (HN3.out.below HB5.out);obtain⟨g,hg⟩:∃g,g=w4.heap.size:=⟨_,rfl⟩;have hbox:zbc (w4.alloc (.cells #[.int .i64 (x.lv-1),.int .i64 0,.int .i64 0,.int .i64 0,.int .i64 0] 74)) g (mix ⟨x.lv-1,0,0,0,0⟩ (innN cur x) 0):=by rw[hg];exact zbc.new w4 ⟨x.lv-1,0,0,0,0⟩
    have HBOX:=Hh hbox;have HG5:=Hh (World.grownBy_alloc w4 (.cells #[.int .i64 (x.lv-1),.int .i64 0,.int .i64 0,.int .i64 0,.int .i64 0] 74) (some g));have HGB:=Hh (show b<g by rw[hg];exact Nat.lt_of_lt_of_le HBB.out HB5.out.size);have HGW:=Hh (show w.heap.size≤g by rw[hg];exact HBW4.out.size);have HGO:=Hh hg;rw[←hg];generalize hWW:w4.alloc _=W at *;clear hWW hg hbox c1;go_loopw [8] (fun i wq=>∃(q:Nat),q≤4∧i=.int .i64 q∧zbc wq g (mix ⟨x.lv-1,0,0,0,0⟩ (innN cur x) q)∧w4.grownBy wq (some g)) (fun i _=>4-(intOf i).toNat)
    case atStart=>exact⟨0,by omega,rfl,HBOX.out,HG5.out⟩
    case round =>
     obtain⟨q,hq,rfl,hbq,hgq⟩:=hrel;have HBQ:=Hh hbq;have HGQ:=Hh hgq;have HNQ:=Hh (HN4.out.gbr hgq (fun a ea e=>by cases ea;exact absurd (Option.some.inj e) (Nat.ne_of_lt HGB.out)));clear hbq hgq;by_cases hq4:q<4
     ·have i2:(q:Int)<4:=by omega
      have i3:(0:Int)≤(q:Int):=by omega
      have hfz:=HBQ.out.free (1+q);have hce:=HBQ.out.at_.kid hq4
      have e1:0+1+q=1+q:=by omega
      rw[e1] at hce;generalize (mix ⟨x.lv-1,0,0,0,0⟩ (innN cur x) q).kid q=z at hce;clear e1;go_wp2_with (go_at_call 109;go_loud (refine(zmW _ _ cn cur r q _ HNQ.out HCN.out.symm G1.out g2 HLV.out hq4).mono ?_;rintro e w5 ⟨rfl,rfl⟩;rw[←HX.out]));go_roundw
      case rel =>
       refine⟨q+1,by omega,by go_num,HBQ.out.setKid hq4 (by omega) (zlJ cur x hq4).symm,zrd HGQ.out (zaR _ _ _)⟩
      case measure=>simp[intOf];omega
     ·have hq5:q=4:=by omega
      subst hq5;rw[zgd (show(⟨x.lv-1,0,0,0,0⟩:Nd).lv=(innN cur x).lv from rfl)] at HBQ;obtain⟨f1,f2,f3,f4,f5⟩:=HBQ.out.at_
      have HSN:=Hh (HS.out.next HH.out);rw[←HX.out] at HSN;obtain⟨y,hy⟩:∃y,y=innN cur x:=⟨_,rfl⟩;rw[←hy] at f1 f2 f3 f4 f5 HSN;have hwy:y.wf:=by
       have h1:=(zlK G1.out (p:=r) (by rw[←HCN.out];exact g2) HLV.out G3.out).1;rw[←HX.out,←hy] at h1;exact zsP h1 (by rw[←HCN.out];omega)
      have HWY:=Hh hwy;have HOQ:=Hh (show OwnN wr w.heap.size (.slice (some ⟨b,off,none⟩) cn c3) cur by
       have h1:=HW4.out.gbr HGQ.out (.inr (fun e=>absurd (Option.some.inj e) (Nat.ne_of_lt HGB.out)));rw[HCN.out];exact h1)
      have hgs:w.heap.size≤wr.heap.size:=Nat.le_trans HBW4.out.size HGQ.out.size;clear hwy hy;go_wp2_with (at_builtin;go_loud (refine zaD _ rfl _ _ rfl w.heap.size _ cur [y] _ 1 1 rfl rfl (HOQ.out.alloc _) (zfs _ _ y HWY.out rfl) rfl (fun e=>by cases e) (by rw[←HCN.out];omega) (by simp;omega) ?_;intro v6 w6 ho6 hg6 hk6;obtain⟨A6,c6,hv6,-,-,-⟩:=ho6.shape;have HO6:=Hh ho6;have HG6:=Hh hg6;have HK6:=Hh hk6;subst hv6;clear ho6 hg6 hk6));go_roundw
      case rel =>
       refine⟨cur++[y],cur.length,.slice A6 (cur++[y]).length c6,_,_,(by simp),?_,rfl,rfl,HO6.out,HSN.out,?_⟩
       ·simp
       ·refine((HBW4.out.grown HGQ.out HBW4.out.size (fun k hk=>by cases hk;exact HGW.out)).alloc hgs _).grown HG6.out (by simp;omega) (fun k hk=>(HOQ.out.lt k hk).1)
      case measure =>
       have hcn:=HCN.out;simp[lenOf];omega
end Go.Proofs.YtikehjindobpkaaGreat
