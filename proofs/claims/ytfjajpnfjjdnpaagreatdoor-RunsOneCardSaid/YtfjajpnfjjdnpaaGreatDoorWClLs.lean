import Derived.ArgAppend
import Derived.Test.YtfjajpnfjjdnpaaGreatDoorWClTr

set_option linter.unusedVariables false
set_option linter.unusedSimpArgs false
set_option maxRecDepth 100000
set_option maxHeartbeats 6400000
namespace Go.Proofs.YtfjajpnfjjdnpaaGreatDoor
open Go.RowKit Nds Num
theorem zpo {v u:Cv}:ordC v u<0↔ltB v.cl u.cl=true:=by
 rw[ziF];unfold ordC ltC Cv.cl;dsimp only;split
 ·rename_i h;rw[zdk] at h;rw[zmd];omega
 ·rename_i h;rw[zdk] at h;rw[zmd];omega
theorem zpp {v u:Cv}:ordC v u=0↔(v.cl.x=u.cl.x∧v.cl.y=u.cl.y):=by
 unfold ordC Cv.cl;dsimp only;split
 ·rename_i h;rw[zdk] at h;rw[zdk];exact⟨fun e=>⟨e,h⟩,fun e=>e.1⟩
 ·rename_i h;rw[zdk] at h ⊢;exact⟨fun e=>absurd e h,fun e=>absurd e.2 h⟩
def insV:List Cv→Cv→List Cv
 | [],c=>[c]
 | a :: l,c=>if ordC a c<0 then a :: insV l c else if ordC a c=0 then c :: l else c :: a :: l
theorem zpq:∀(l:List Cv) (c:Cv),(insV l c).map Cv.cl=insC (l.map Cv.cl) c.cl
 | [],c=>rfl
 | a :: l,c=>by
  rw[List.map_cons];unfold insV insC;by_cases h1:ordC a c<0
  ·rw[if_pos h1,if_pos (zpo.1 h1),List.map_cons,zpq l c]
  ·rw[if_neg h1,if_neg (fun e=>h1 (zpo.2 e))];by_cases h2:ordC a c=0
   ·rw[if_pos h2,if_pos (zpp.1 h2)];rfl
   ·rw[if_neg h2,if_neg (fun e=>h2 (zpp.2 e))];rfl
theorem zml:∀{l:List Cv} {c d:Cv},d∈insV l c→d=c∨d∈l
 | [],c,d,h=>.inl (List.mem_singleton.1 h)
 | a :: l,c,d,h=>by
  unfold insV at h;split at h
  ·rcases List.mem_cons.1 h with h|h
   ·exact .inr (by simp[h])
   ·rcases zml h with h|h
    ·exact .inl h
    ·exact .inr (by simp[h])
  ·split at h
   ·rcases List.mem_cons.1 h with h|h
    ·exact .inl h
    ·exact .inr (by simp[h])
   ·rcases List.mem_cons.1 h with h|h
    ·exact .inl h
    ·exact .inr h
theorem zmm:∀(l:List Cv) (c:Cv),(insV l c).length≤l.length+1
 | [],c=>Nat.le_refl _
 | a :: l,c=>by
  unfold insV;split
  ·have:=zmm l c;simp only[List.length_cons];omega
  ·split <;> simp
theorem zpr:∀(l:List Cv) (c:Cv) (p:Nat),p≤l.length→(∀j,j<p→ordC (cat l j) c<0)→(p<l.length→¬ ordC (cat l p) c<0) →
  insV l c=(l.take p++[c])++(l.drop p).drop (if p<l.length∧ordC (cat l p) c=0 then 1 else 0)
 | [],c,p,h,_,_=>by
  obtain rfl:p=0:=by simpa using h
  rfl
 | a :: l,c,0,_,_,h3=>by
  have h4:¬ ordC a c<0:=h3 (by simp);unfold insV;rw[if_neg h4];by_cases h5:ordC a c=0
  ·rw[if_pos h5,if_pos ⟨by simp,h5⟩];rfl
  ·rw[if_neg h5,if_neg (fun e=>h5 e.2)];rfl
 | a :: l,c,p+1,h1,h2,h3=>by
  have h4:ordC a c<0:=h2 0 (by omega);have ih:=zpr l c p (by simpa using h1) (fun j hj=>h2 (j+1) (by omega)) (fun hp=>h3 (by simpa using hp));unfold insV;rw[if_pos h4,ih];have e:(p+1<(a :: l).length∧ordC (cat (a :: l) (p+1)) c=0)↔(p<l.length∧ordC (cat l p) c=0):=by
   rw[List.length_cons,Nat.add_lt_add_iff_right];rfl
  simp only[e,List.take_succ_cons,List.drop_succ_cons,List.cons_append]
def zeC (l:List Cv):List Cv:=l.foldl insV []
theorem zhP (l:List Cv)(c:Cv):zeC (l++[c])=insV (zeC l) c:=by
 unfold zeC;rw[List.foldl_append];rfl
theorem zhQ (l:List Cv):∀k,k≤l.length→(zeC (l.take k)).map Cv.cl=zdc ((l.take k).map Cv.cl)∧(∀u∈zeC (l.take k),u∈l)∧(zeC (l.take k)).length≤k:=by
 intro k
 induction k with
 | zero=>exact fun _=>⟨rfl,(fun u hu=>by cases hu),Nat.le_refl _⟩
 | succ k ih =>
  intro hk;obtain⟨i1,i2,i3⟩:=ih (by omega);rw[List.take_succ_eq_append_getElem (by omega),zhP];refine⟨?_,fun u hu=>?_,?_⟩
  ·rw[zpq,i1,List.map_append,List.map_singleton,zgB]
  ·rcases zml hu with rfl|hu
   ·exact List.getElem_mem _
   ·exact i2 u hu
  ·have:=zmm (zeC (l.take k)) l[k];omega
theorem znw (l:List Cv){k:Nat}(hk:k<l.length):zeC (l.take (k+1))=insV (zeC (l.take k)) (cat l k):=by
 rw[List.take_succ_eq_append_getElem hk,zhP,ziH hk]
theorem Cs.cut {w:World}{A:Option Addr}{c:Nat}{l:List Cv}(h:Cs w A c l)(k:Nat):Cs w A c (l.take k):=by
 refine⟨fun v hv=>h.1 v (List.mem_of_mem_take hv),Nat.le_trans (by rw[List.length_take];omega) h.2.1,h.2.2.1,fun hn=>?_⟩;rw[List.length_take] at hn;obtain⟨b,off,e,hb,hc⟩:=h.2.2.2 (by omega);refine⟨b,off,e,hb,fun i hi=>?_⟩;rw[List.length_take] at hi;have e2:cat (l.take k) i=cat l i:=by
  unfold cat;rw[List.getElem?_take,if_pos (by omega)]
 rw[e2];exact hc i (by omega)
theorem Cs.rest {w:World}{b off c:Nat}{l:List Cv}(h:Cs w (some ⟨b,off,none⟩) c l){k:Nat}(hk:k≤l.length):Cs w (some ⟨b,off+k*5,none⟩) (c-k) (l.drop k):=by
 refine⟨fun v hv=>h.1 v (List.mem_of_mem_drop hv),by have:=h.2.1;rw[List.length_drop];omega,by have:=h.2.2.1;omega,fun hn=>?_⟩;rw[List.length_drop] at hn;obtain⟨b',off',e,hb,hc⟩:=h.2.2.2 (by omega);cases e;refine⟨b,off+k*5,rfl,hb,fun i hi=>?_⟩;rw[List.length_drop] at hi;have e2:cat (l.drop k) i=cat l (k+i):=by
  unfold cat;rw[List.getElem?_drop]
 rw[e2,show off+k*5+i*5=off+(k+i)*5 by omega];exact hc (k+i) (by omega)
theorem zhr (w:World)(y:Cv)(ty:TypeId)(A:Option Addr)(p d:Nat)(xs:List Cv)(ad:Addr)(hp:xs.length=p)(hN:Cs w A d xs)(hA:A=none→p=0)(hy:∀j u,(cvcs [y])[j]?=some u→w.cell? (ad.add j)=some u)(c:Nat)(hs:p+1≤1000000) :
  ∃v' w',(Builtin.append_ #[22,22] ty #[.slice A p p,.slice (some ad) 1 c]).run Tryz.prog w=.ok v' w'∧OwnC w' w.heap.size v' (xs++[y])∧w.grownBy w' none:=by
 obtain⟨i0,hi,hz0,hz1,hz2⟩:=info_parts Tryz.infoC;subst hp;cases A with
 | none =>
  have h0:=List.eq_nil_of_length_eq_zero (hA rfl);subst h0;obtain⟨v',w',hrun,h1,h2,_⟩:=zbR w w.heap.size (.slice none 0 0) [] [y] ty ad 1 c (OwnC.nil w _) hy rfl (by simp) (Nat.le_refl _);exact⟨v',w',hrun,h1,h2⟩
 | some b =>
  obtain⟨v',w',hrun,h1,h2⟩:=run_append_arg_grows (P:=Tryz.prog) w 22 ty 78 i0 (cvv cv0) 5 72 Tryz.underlying22 hi hz0 hz1 hz2 rfl (by omega) b xs.length xs.length (cvcs xs) (zey xs) (hN.cells rfl) ad 1 c (cvcs [y]) (zey [y]) hy (by omega) (by simp only[maxLen];omega) (by omega);refine⟨v',w',hrun,?_,h2⟩;unfold OwnC;rw[zme,List.length_append];exact h1
theorem zaH {w:World}{o:Oper}{a:Act}{K:Act→World→Prop}{Q:Exit→Act→World→Prop}(s x:Operand)
  (hop:o.op=Op.call { callee:=Callee.builtin Builtin.append,args:=#[s,x],argTypes:=#[22,22] }) (y:Cv) (A:Option Addr) (p d:Nat) (xs:List Cv) (ad:Addr) (c:Nat)
  (hs:a.eval s=.slice A p p) (hx:a.eval x=.slice (some ad) 1 c) (hp:xs.length=p) (hN:Cs w A d xs) (hA:A=none→p=0) (hy:∀j u,(cvcs [y])[j]?=some u→w.cell? (ad.add j)=some u) (hsz:p+1≤1000000)
  (h:∀v' w',OwnC w' w.heap.size v' (xs++[y])→w.grownBy w' none→K (a.put o.dst v') w'):Oper.wp Tryz.prog o a w K Q:=by
 obtain⟨v',w',hrun,h1,h2⟩:=zhr w y o.type A p d xs ad hp hN hA hy c hsz;unfold Oper.wp execOp;simp only[hop,resolve,invoke,builtin,Sem.run_bind,Sem.run_pure,Result.andThen_ok,List.map_toArray,List.map_cons,List.map_nil,hs,hx,hrun];exact h v' w' h1 h2
theorem zaR {w:World}{o:Oper}{a:Act}{K:Act→World→Prop}{Q:Exit→Act→World→Prop}(s x:Operand)
  (hop:o.op=Op.call { callee:=Callee.builtin Builtin.append,args:=#[s,x],argTypes:=#[22,22] }) (base:Nat) (v:Value) (xs ys:List Cv) (A:Option Addr) (m c:Nat)
  (hs:a.eval s=v) (hx:a.eval x=.slice A m c) (how:OwnC w base v xs) (hN:Cs w A c ys) (hm:ys.length=m) (hA:A=none→c=0) (hsz:xs.length+m≤1000000) (hb:base≤w.heap.size)
  (h:∀v' w',OwnC w' base v' (xs++ys)→w.grownBy w' v.ownBlock→(v'.ownBlock=v.ownBlock∨v'.ownBlock=some w.heap.size)→K (a.put o.dst v') w'):Oper.wp Tryz.prog o a w K Q:=by
 obtain⟨v',w',hrun,h1,h2,h3⟩:=zeB w base v xs ys o.type A m c how hN hm hA hsz hb;unfold Oper.wp execOp;simp only[hop,resolve,invoke,builtin,Sem.run_bind,Sem.run_pure,Result.andThen_ok,List.map_toArray,List.map_cons,List.map_nil,hs,hx,hrun];exact h v' w' h1 h2 h3
theorem ziP (w:World)(A:Option Addr){c:Nat}(h:c≤maxLen):Cs w A c []:=⟨(fun v hv=>by cases hv),Nat.zero_le _,h,fun h0=>absurd h0 (Nat.lt_irrefl 0)⟩
theorem zcN (w:World){base:Nat}(h:base≤w.heap.size):OwnC (w.alloc (.cells #[] 78)) base (.slice (some ⟨w.heap.size,0,none⟩) 0 0) []:=World.ownsRow_made w #[] 0 h (by simp[maxLen]) rfl
theorem zps {l M:List Cv}{i p:Nat}{x:Cv}(hM:M=zeC (l.take i))(hx:x=cat l i)(hi:i<l.length)(hp:p≤M.length)(h1:∀j,j<p→ordC (cat M j) x<0)(h2:p<M.length→¬ ordC (cat M p) x<0) :
  zeC (l.take (i+1))=(M.take p++[x])++(M.drop p).drop (if p<M.length∧ordC (cat M p) x=0 then 1 else 0):=by
 rw[znw l hi,←hM,←hx];exact zpr M x p hp h1 h2
theorem zgK:∀M:List Cv,(M.filter fun u=>u.st != 0).map Cv.cl=(M.map Cv.cl).filter fun c=>c.s != 0
 | []=>rfl
 | u :: M=>by
  have e:(u.cl.s != 0)=(u.st != 0):=by
   show(((u.st:Nat):Int)!=0)=_;rw[Bool.eq_iff_iff];simp
  rw[List.map_cons,List.filter_cons,List.filter_cons,e];split
  ·rw[List.map_cons,zgK M]
  ·exact zgK M
theorem zuj {l M:List Cv}{n:Nat}(hM:M=zeC (l.take n))(hn:l.length=n):(M.filter fun u=>u.st != 0).map Cv.cl=zaP (l.map Cv.cl):=by
 subst hn;rw[zgK,hM,(zhQ l l.length (Nat.le_refl _)).1,List.take_length];rfl
theorem zkY {M:List Cv}{q:Nat}{y:Cv}(hq:q<M.length)(hy:y=cat M q):(M.take (q+1)).filter (fun u=>u.st != 0)=(M.take q).filter (fun u=>u.st != 0)++(if y.st=0 then [] else [y]):=by
 rw[List.take_succ_eq_append_getElem hq,List.filter_append,←ziH hq,←hy];congr 1;rw[List.filter_cons,List.filter_nil];by_cases h:y.st=0
 ·rw[if_pos h,if_neg (by rw[h];decide)]
 ·rw[if_neg h,if_pos (by simpa using h)]
def zwo (l:List Cv)(w:World)(e:Ending)(w':World):Prop :=
 ∃v out,e=.returned v∧out.map Cv.cl=zaP (l.map Cv.cl)∧(∀u∈out,u∈l)∧OwnC w' w.heap.size v out∧Below w.heap.size w w'
theorem znx (A:Option Addr)(c n:Nat)(l:List Cv)(w:World)(h:Cs w A c l)(hn:l.length=n)(hR:∀v∈l,CvR v)(hn9:n≤900000) :
  Calls Tryz.prog 110 #[.slice A n c] w (zwo l w):=by
 have hcap:=h.cap;rw[hn] at hcap;have HC:=Hh h;have HN:=Hh hn;have HR:=Hh hR;clear h hR hn;go_enter Tryz.func110,Tryz.ntmps110;go_wp2_with fail;go_loopw [4,3] (fun z v wr=>∃(i:Nat),i≤n∧z=.int .i64 i∧OwnC wr w.heap.size v (zeC (l.take i))∧Below w.heap.size w wr) (fun z _ _=>n-(intOf z).toNat)
 case atStart=>exact⟨0,Nat.zero_le _,rfl,OwnC.nil _ _,Below.refl _ _⟩
 case round =>
  obtain⟨i,hi,rfl,hown,hb⟩:=hrel;have HB:=Hh hb;obtain⟨hsp1,hsp2,hsp3⟩:=zhQ l i (by rw[HN.out];exact hi);obtain⟨M,hM⟩:∃M,M=zeC (l.take i):=⟨_,rfl⟩;rw[←hM] at hown hsp2 hsp3;have HM:=Hh hM;have HIN:=Hh hsp2;have HOW:=Hh hown;obtain⟨m,hm⟩:∃m,m=M.length:=⟨_,rfl⟩;have hml:m≤900000:=by omega
  have HML:=Hh hm;have hcu:∀u∈l,CvU wr u:=fun u hu=>(HC.out.1 u hu).below hb;obtain⟨D,d,rfl,hcs,hD,hge⟩:=hown.cs (fun u hu=>hcu u (hsp2 u hu));have hsh:=HOW.out.shape;have HSG:=Hh (show ∀a,D=some a→∃g,a=⟨g,0,none⟩ from by
   obtain⟨A',c',e',-,-,-,h5⟩:=hsh;cases e';exact fun a ea=>by obtain⟨g,hg,_⟩:=h5 a ea;exact⟨g,hg⟩)
  rw[←hm] at HOW ⊢;have hcap2:=hcs.cap;rw[←hm] at hcap2;have HCS:=Hh hcs;have HD:=Hh (And.intro hD hge);have HCU:=Hh hcu;clear hsp1 hsp2 hsp3 hM hown hm hcu hcs hD hge hb hsh;by_cases hlt:i<n
  ·have i1:(i:Int)<(n:Int):=by omega
   have i2:(0:Int)≤(i:Int):=by omega
   have t1:decide ((i:Int)<(n:Int))=true:=decide_eq_true i1;obtain⟨b,off,rfl,hbl,hcl⟩:=(HC.out.below HB.out).at_ (by rw[HN.out];omega)
   have hcx:=hcl i (by rw[HN.out];exact hlt);have hmx:=zda (l:=l) (i:=i) (by rw[HN.out];exact hlt);obtain⟨x,hx⟩:∃x,x=cat l i:=⟨_,rfl⟩;rw[←hx] at hcx hmx;have HXX:=Hh hx;have HXM:=Hh hmx;have hux:=HCU.out x hmx;have hrx:=HR.out x hmx;have p1:=hux.1.cap;have p2_:=hux.2.1.cap;have HCX:=Hh hcx;have HBL:=Hh hbl;have HLX:=Hh (And.intro hrx.2.2.1 hrx.2.2.2);have HUX:=Hh hux;clear hcl hcx hmx hx hrx hbl hux;go_wp2_with fail;go_loopw [5] (fun z wx=>∃p:Nat,p≤m∧z=.int .i64 p∧(∀j,j<p→ordC (cat M j) x<0)∧Below wr.heap.size wr wx) (fun z _=>m-(intOf z).toNat)
   case atStart=>exact⟨0,Nat.zero_le _,rfl,(fun j hj=>by omega),Below.refl _ _⟩
   case round =>
    obtain⟨p,hp,rfl,hall,hbb⟩:=hrel;have HA:=Hh hall;have HBB:=Hh hbb;clear hall hbb
    -- inner round
    by_cases hpm:p<m
    ·have k1:(p:Int)<(m:Int):=by omega
     have k2:(0:Int)≤(p:Int):=by omega
     have t2:decide ((p:Int)<(m:Int))=true:=decide_eq_true k1;obtain⟨g,og,rfl,hgl,hgc⟩:=(HCS.out.below HBB.out).at_ (by rw[←HML.out];omega)
     have hcy:=hgc p (by rw[←HML.out];exact hpm);have hmy:=zda (l:=M) (i:=p) (by rw[←HML.out];exact hpm);obtain⟨y,hy⟩:∃y,y=cat M p:=⟨_,rfl⟩;rw[←hy] at hcy hmy;have HYY:=Hh hy;have HCY:=Hh hcy;have hyl:=HIN.out y hmy;have HYU:=Hh ((HCU.out y hyl).below HBB.out);have hry:=HR.out y hyl;have HLY:=Hh (And.intro hry.2.2.1 hry.2.2.2);have k3:=HYU.out.1.cap;have k4:=HYU.out.2.1.cap;have HUX2:=Hh (HUX.out.below HBB.out);have hbl2:=Nat.lt_of_lt_of_le HBL.out HBB.out.size;have HCX2:=Hh (HCX.out.below (HBB.out.block b HBL.out));have HGL:=Hh (And.intro hgl hbl2);obtain⟨r,hr⟩:∃r,r=ordC y x:=⟨_,rfl⟩;have HRr:=Hh hr;have HPM:=Hh hpm;clear hgc hcy hmy hy hyl hry hr hgl hbl2 hpm;by_cases hr0:r<0
     ·have t3:decide (r<0)=true:=decide_eq_true hr0;have HR0:=Hh hr0;clear hr0;go_wp2_with fail;have st:Below wr.heap.size wr wr.drew:=zaa (Below.refl _ wr) 1;have sy:=HCY.out.below ((Below.refl _ wr:Below wr.heap.size wr wr).block g HGL.out.1);have sx:=HCX2.out.below ((Below.refl _ wr:Below wr.heap.size wr wr).block b HGL.out.2);obtain⟨e1,e2,e3,e4,e5⟩:=sy;obtain⟨f1,f2,f3,f4,f5⟩:=sx;go_region_held3 (fun w'=>w'.cell? ⟨g,og+p*5,none⟩=some (.bool y.sx)∧w'.cell? ⟨g,og+p*5+1,none⟩=some (.slice y.ax y.xs.length y.cx)∧w'.cell? ⟨g,og+p*5+2,none⟩=some (.bool y.sy)∧w'.cell? ⟨g,og+p*5+3,none⟩=some (.slice y.ay y.ys.length y.cy)∧w'.cell? ⟨g,og+p*5+4,none⟩=some (.int .u8 y.st)∧w'.cell? ⟨b,off+i*5,none⟩=some (.bool x.sx)∧w'.cell? ⟨b,off+i*5+1,none⟩=some (.slice x.ax x.xs.length x.cx)∧w'.cell? ⟨b,off+i*5+2,none⟩=some (.bool x.sy)∧w'.cell? ⟨b,off+i*5+3,none⟩=some (.slice x.ay x.ys.length x.cy)∧w'.cell? ⟨b,off+i*5+4,none⟩=some (.int .u8 x.st))
       (first|go_keep|exact⟨e1,e2,e3,e4,e5,f1,f2,f3,f4,f5⟩)
       (first|(go_at_call 154;refine(zex y x _ (HYU.out.below st) (HUX2.out.below st) HLY.out.1 HLY.out.2 HLX.out.1 HLX.out.2).mono ?_;rintro e w2 ⟨rfl,b2⟩;rw[←HRr.out];have st2:=st.trans (b2.mono st.size);clear e1 e2 e3 e4 e5 f1 f2 f3 f4 f5;obtain⟨e1,e2,e3,e4,e5⟩:=HCY.out.below (st2.block g HGL.out.1);obtain⟨f1,f2,f3,f4,f5⟩:=HCX2.out.below (st2.block b HGL.out.2)))
      all_goals
       have ST2:=Hh st2;clear st2 st b2 e1 e2 e3 e4 e5 f1 f2 f3 f4 f5;go_wp2_with fail;go_roundw
       case rel =>
        refine⟨p+1,by have:=HPM.out;omega,by go_num,fun j hj=>?_,HBB.out.trans (ST2.out.mono HBB.out.size)⟩;rcases Nat.lt_or_ge j p with h1|h1
        ·exact HA.out j h1
        ·obtain rfl:j=p:=by omega
         rw[←HYY.out,←HRr.out];exact HR0.out
       case measure=>simp[intOf];omega
     ·have t3:decide (r<0)=false:=decide_eq_false hr0;have HR0:=Hh hr0;clear hr0;go_wp2_with fail;have st:Below wr.heap.size wr wr.drew:=zaa (Below.refl _ wr) 1;have sy:=HCY.out.below ((Below.refl _ wr:Below wr.heap.size wr wr).block g HGL.out.1);have sx:=HCX2.out.below ((Below.refl _ wr:Below wr.heap.size wr wr).block b HGL.out.2);obtain⟨e1,e2,e3,e4,e5⟩:=sy;obtain⟨f1,f2,f3,f4,f5⟩:=sx;go_region_held3 (fun w'=>w'.cell? ⟨g,og+p*5,none⟩=some (.bool y.sx)∧w'.cell? ⟨g,og+p*5+1,none⟩=some (.slice y.ax y.xs.length y.cx)∧w'.cell? ⟨g,og+p*5+2,none⟩=some (.bool y.sy)∧w'.cell? ⟨g,og+p*5+3,none⟩=some (.slice y.ay y.ys.length y.cy)∧w'.cell? ⟨g,og+p*5+4,none⟩=some (.int .u8 y.st)∧w'.cell? ⟨b,off+i*5,none⟩=some (.bool x.sx)∧w'.cell? ⟨b,off+i*5+1,none⟩=some (.slice x.ax x.xs.length x.cx)∧w'.cell? ⟨b,off+i*5+2,none⟩=some (.bool x.sy)∧w'.cell? ⟨b,off+i*5+3,none⟩=some (.slice x.ay x.ys.length x.cy)∧w'.cell? ⟨b,off+i*5+4,none⟩=some (.int .u8 x.st))
       (first|go_keep|exact⟨e1,e2,e3,e4,e5,f1,f2,f3,f4,f5⟩)
       (first|(go_at_call 154;refine(zex y x _ (HYU.out.below st) (HUX2.out.below st) HLY.out.1 HLY.out.2 HLX.out.1 HLX.out.2).mono ?_;rintro e w2 ⟨rfl,b2⟩;rw[←HRr.out];have st2:=st.trans (b2.mono st.size);clear e1 e2 e3 e4 e5 f1 f2 f3 f4 f5;obtain⟨e1,e2,e3,e4,e5⟩:=HCY.out.below (st2.block g HGL.out.1);obtain⟨f1,f2,f3,f4,f5⟩:=HCX2.out.below (st2.block b HGL.out.2)))
      all_goals
       have ST2:=Hh st2;clear st2 st b2 e1 e2 e3 e4 e5 f1 f2 f3 f4 f5;by_cases hr00:r=0
       ·have HR00:=Hh hr00;have t4:(r==0)=true:=by rw[hr00];rfl
        clear hr00;go_wp2_with fail;have st:Below wr.heap.size wr w2.drew:=zaa (ST2.out) 1;have sy:=HCY.out.below ((ST2.out:Below wr.heap.size wr w2).block g HGL.out.1);have sx:=HCX2.out.below ((ST2.out:Below wr.heap.size wr w2).block b HGL.out.2);obtain⟨e1,e2,e3,e4,e5⟩:=sy;obtain⟨f1,f2,f3,f4,f5⟩:=sx;go_region_held3 (fun w'=>w'.cell? ⟨g,og+p*5,none⟩=some (.bool y.sx)∧w'.cell? ⟨g,og+p*5+1,none⟩=some (.slice y.ax y.xs.length y.cx)∧w'.cell? ⟨g,og+p*5+2,none⟩=some (.bool y.sy)∧w'.cell? ⟨g,og+p*5+3,none⟩=some (.slice y.ay y.ys.length y.cy)∧w'.cell? ⟨g,og+p*5+4,none⟩=some (.int .u8 y.st)∧w'.cell? ⟨b,off+i*5,none⟩=some (.bool x.sx)∧w'.cell? ⟨b,off+i*5+1,none⟩=some (.slice x.ax x.xs.length x.cx)∧w'.cell? ⟨b,off+i*5+2,none⟩=some (.bool x.sy)∧w'.cell? ⟨b,off+i*5+3,none⟩=some (.slice x.ay x.ys.length x.cy)∧w'.cell? ⟨b,off+i*5+4,none⟩=some (.int .u8 x.st))
         (first|go_keep|exact⟨e1,e2,e3,e4,e5,f1,f2,f3,f4,f5⟩)
         (first|(go_at_call 154;refine(zex y x _ (HYU.out.below st) (HUX2.out.below st) HLY.out.1 HLY.out.2 HLX.out.1 HLX.out.2).mono ?_;rintro e w3 ⟨rfl,b2⟩;rw[←HRr.out];have st2:=st.trans (b2.mono st.size);clear e1 e2 e3 e4 e5 f1 f2 f3 f4 f5;obtain⟨e1,e2,e3,e4,e5⟩:=HCY.out.below (st2.block g HGL.out.1);obtain⟨f1,f2,f3,f4,f5⟩:=HCX2.out.below (st2.block b HGL.out.2)))
        all_goals
         have ST3:=Hh st2;clear st2 st b2 e1 e2 e3 e4 e5 f1 f2 f3 f4 f5;have hpm:=HPM.out;have hml2:=HML.out;have CUM:=Hh (show ∀W',Below wr.heap.size wr W'→∀u∈M,CvU W' u from fun W' q u hu=>((HCU.out u (HIN.out u hu)).below HBB.out).below q);have BA:=Hh (show Below wr.heap.size wr (w3.alloc (.cells #[] 78)) from ST3.out.alloc ST3.out.size _);have HWA:=Hh (show w.heap.size≤(w3.alloc (.cells #[] 78)).heap.size from Nat.le_trans HB.out.size (Nat.le_trans HBB.out.size BA.out.size));have OA:=Hh (zcN w3 (base:=w.heap.size) (Nat.le_trans HB.out.size (Nat.le_trans HBB.out.size ST3.out.size)));have CR:=Hh ((((HCS.out.below HBB.out).below BA.out)).rest (k:=p) (by rw[←HML.out];omega));have HDL:=Hh (show(M.drop p).length=m-p by rw[List.length_drop,←HML.out]);have HTP:=Hh (show(M.take p).length=p by rw[List.length_take,←HML.out];omega);have HBL2:=Hh HGL.out.2;have HPUT:=Hh (zps HM.out HXX.out (by rw[HN.out];exact hlt) (by rw[←HML.out];omega) HA.out (fun _=>by rw[←HYY.out,←HRr.out];have:=HR0.out;omega));rw[if_pos ⟨by rw[←HML.out];exact hpm,by rw[←HYY.out,←HRr.out];exact HR00.out⟩] at HPUT;have HPD:=Hh (show p≤d by omega);have hdp:¬ d=p:=by omega
         clear hpm hml2;go_wp2_with (first
          | (at_builtin;go_loud (refine zbm _ rfl _ _ rfl w.heap.size _ [] (M.drop p) _ _ _ rfl rfl OA.out CR.out HDL.out (fun e=>by cases e) (by simp only[List.length_nil];omega) HWA.out ?_;intro v9 w9 hown9 hg9 hat9;have HO9:=Hh hown9;have B9:=Hh (BA.out.grown hg9 BA.out.size (fun q hq=>by have h1:=ST3.out.size;cases hq;exact h1));clear hg9 hat9;obtain⟨A9,c9,hv9,hcs9,hna9,-⟩:=hown9.cs (fun u hu=>CUM.out _ B9.out u (List.mem_of_mem_drop hu));rw[List.nil_append] at hcs9;rw[List.nil_append,HDL.out] at hv9;subst hv9;have hc9:=hcs9.cap;rw[HDL.out] at hc9;obtain⟨g9,o9,hA9,-,-⟩:=hcs9.at_ (by rw[HDL.out];omega);subst hA9;have CS9:=Hh hcs9;have NA9:=Hh hna9;clear hown9 hcs9 hna9)))
         ·rename_i hc1;have HR9:=Hh (show Cs w9 (some ⟨g9,o9,none⟩) 0 ((M.drop p).drop 1) by
           rw[List.drop_eq_nil_of_le (by rw[HDL.out];omega)];exact ziP _ _ (by simp[maxLen]))
          have HC1:=Hh hc1;clear hc1;have HRL:=Hh (show((M.drop p).drop 1).length=m-p-1 by rw[List.length_drop,HDL.out]);have HRN:=Hh (show(some ⟨g9,o9,none⟩:Option Addr)=none→0=0 from fun e=>by cases e);refine wp_region_noPanic ?_;refine wp_region_held (S:=fun w'=>w'.cell? ⟨b,off+i*5,none⟩=some (.bool x.sx)∧w'.cell? ⟨b,off+i*5+1,none⟩=some (.slice x.ax x.xs.length x.cx)∧w'.cell? ⟨b,off+i*5+2,none⟩=some (.bool x.sy)∧w'.cell? ⟨b,off+i*5+3,none⟩=some (.slice x.ay x.ys.length x.cy)∧w'.cell? ⟨b,off+i*5+4,none⟩=some (.int .u8 x.st)) (by kernel_rfl) ?_;obtain⟨W0,hW0⟩:∃W0:World,W0=(w9).drew:=⟨_,rfl⟩;have B0:=Hh (show Below wr.heap.size wr W0 by rw[hW0];exact zaa B9.out 1);have R0:=Hh (show Cs W0 (some ⟨g9,o9,none⟩) 0 ((M.drop p).drop 1) by rw[hW0];exact(HR9.out).below (zaa (Below.refl _ _) 1));have hS0:=HCX2.out.below (B0.out.block b HBL2.out);change wpAnyH _ _ _ _ _ _ _ _ (w9).drew;rw[←hW0];clear hW0;refine Tk1 (v:=?_) 0 hS0 ?_ ?_;rotate_left
          ·rintro w' ⟨_,_,_,_,_⟩;go_simp;first|done|with_reducible rfl|rfl|(rw[if_pos HPD.out])
          simp only[Act.put,LA];refine Tk1 (v:=?_) 1 hS0 ?_ ?_;rotate_left
          ·rintro w' ⟨_,_,_,_,_⟩;go_simp;first|done|with_reducible rfl|rfl|(rw[if_pos HPD.out])
          simp only[Act.put,LA];refine Tk1 (v:=?_) 2 hS0 ?_ ?_;rotate_left
          ·rintro w' ⟨_,_,_,_,_⟩;go_simp;first|done|with_reducible rfl|rfl|(rw[if_pos HPD.out])
          simp only[Act.put,LA];refine Tk1 (v:=?_) 3 hS0 ?_ ?_;rotate_left
          ·rintro w' ⟨_,_,_,_,_⟩;go_simp;first|done|with_reducible rfl|rfl|(rw[if_pos HPD.out])
          simp only[Act.put,LA];refine Tk1 (v:=?_) 4 hS0 ?_ ?_;rotate_left
          ·rintro w' ⟨_,_,_,_,_⟩;go_simp;first|done|with_reducible rfl|rfl|(rw[if_pos HPD.out])
          simp only[Act.put,LA];refine Tk1 (v:=?_) 5 hS0 ?_ ?_;rotate_left
          ·rintro w' ⟨_,_,_,_,_⟩;go_simp;first|done|with_reducible rfl|rfl|(rw[if_pos HPD.out])
          simp only[Act.put,LA];refine Tk1 (v:=?_) 6 hS0 ?_ ?_;rotate_left
          ·rintro w' ⟨_,_,_,_,_⟩;go_simp;first|done|with_reducible rfl|rfl|(rw[if_pos HPD.out])
          simp only[Act.put,LA];refine Tk1 (v:=?_) 7 hS0 ?_ ?_;rotate_left
          ·rintro w' ⟨_,_,_,_,_⟩;go_simp;first|done|with_reducible rfl|rfl|(rw[if_pos HPD.out])
          simp only[Act.put,LA];refine Tk1 (v:=?_) 10 hS0 ?_ ?_;rotate_left
          ·rintro w' ⟨_,_,_,_,_⟩;go_simp;first|done|with_reducible rfl|rfl|(rw[if_pos HPD.out])
          simp only[Act.put,LA];refine Rd1 8 fun K hK=>?_;go_simp;obtain⟨g1,hg1⟩:∃g,g=W0.heap.size:=⟨_,rfl⟩;obtain⟨W1,hW1⟩:∃V:World,V=W0.alloc (.cells #[.bool x.sx,.slice x.ax x.xs.length x.cx,.bool x.sy,.slice x.ay x.ys.length x.cy,.int .u8 x.st] 78):=⟨_,rfl⟩;have B1:=Hh (show Below wr.heap.size wr W1 by rw[hW1];exact B0.out.alloc B0.out.size _);have R1:=Hh (show Cs W1 (some ⟨g9,o9,none⟩) 0 ((M.drop p).drop 1) by rw[hW1];exact R0.out.below ((Below.refl _ _).alloc (Nat.le_refl _) _));have X1:=Hh (show ∀j u,(cvcs [x])[j]?=some u→W1.cell? ((⟨g1,0,none⟩:Addr).add j)=some u by rw[hW1,hg1];exact zcv W0 x);rw[←hg1,←hW1];clear hg1 hW1;refine hK.out _ _ (HCX2.out.below (B1.out.block b HBL2.out)) (fun hS1=>?_);clear hK K;refine Rd1 9 fun K hK=>?_;refine zaH (.tmp 61) (.tmp 66) rfl x (some ⟨g,og,none⟩) p d (M.take p) ⟨g1,0,none⟩ 1 rfl rfl HTP.out ((((HCS.out.below HBB.out)).below B1.out).cut p) (fun e=>by cases e) X1.out (by omega) ?_;intro v2 W2 ho hgw;simp only[Act.put,LA];have B2:=Hh (B1.out.grown hgw B1.out.size (fun q hq=>by cases hq));have R2:=Hh (R1.out.below ((Below.refl _ _).grown hgw (Nat.le_refl _) (fun q hq=>by cases hq)));have O2:=Hh (OwnC.mono ho (show w.heap.size≤W1.heap.size from Nat.le_trans HB.out.size (Nat.le_trans HBB.out.size B1.out.size)));have L2:=Hh (show ∀q,v2.ownBlock=some q→wr.heap.size≤q from fun q hq=>Nat.le_trans B1.out.size (ho.lt q hq).1);refine hK.out _ _ (HCX2.out.below (B2.out.block b HBL2.out)) (fun hS2=>?_);clear hK K ho hgw;refine Rd1 11 fun K hK=>?_;refine zaR (.tmp 67) (.tmp 68) rfl w.heap.size v2 (M.take p++[x]) ((M.drop p).drop 1) (some ⟨g9,o9,none⟩) (m-p-1) (0) rfl rfl O2.out R2.out HRL.out HRN.out (by rw[List.length_append,HTP.out,List.length_singleton];omega) (Nat.le_trans HB.out.size (Nat.le_trans HBB.out.size B2.out.size)) ?_;intro v3 W3 ho hgw hat;simp only[Act.put,LA];have B3:=Hh (B2.out.grown hgw B2.out.size (fun q hq=>L2.out q hq));have O3:=Hh ho;refine hK.out _ _ (HCX2.out.below (B3.out.block b HBL2.out)) (fun hS3=>?_);clear hK K ho hgw hat;refine Rd1 12 fun K hK=>?_;go_simp;refine hK.out _ _ (HCX2.out.below (B3.out.block b HBL2.out)) (fun hS4=>?_);clear hK K;refine wpAnyH_done (by kernel_rfl) ?_ _;refine NoPanic.normal ?_;go_wp2_with fail;go_roundw
          case rel =>
           refine⟨i+1,by omega,by go_num,?_,HB.out.trans ((HBB.out.trans (B3.out.mono HBB.out.size)).mono HB.out.size)⟩;rw[HPUT.out];exact O3.out
          case measure=>simp[intOf];omega
         ·have HR9:=Hh (show Cs w9 (some ⟨g9,o9+5,none⟩) (c9-1) ((M.drop p).drop 1) from CS9.out.rest (k:=1) (by rw[HDL.out];have:=HPM.out;omega));have HRL:=Hh (show((M.drop p).drop 1).length=m-p-1 by rw[List.length_drop,HDL.out]);have HRN:=Hh (show(some ⟨g9,o9+5,none⟩:Option Addr)=none→c9-1=0 from fun e=>by cases e);refine wp_region_noPanic ?_;refine wp_region_held (S:=fun w'=>w'.cell? ⟨b,off+i*5,none⟩=some (.bool x.sx)∧w'.cell? ⟨b,off+i*5+1,none⟩=some (.slice x.ax x.xs.length x.cx)∧w'.cell? ⟨b,off+i*5+2,none⟩=some (.bool x.sy)∧w'.cell? ⟨b,off+i*5+3,none⟩=some (.slice x.ay x.ys.length x.cy)∧w'.cell? ⟨b,off+i*5+4,none⟩=some (.int .u8 x.st)) (by kernel_rfl) ?_;obtain⟨W0,hW0⟩:∃W0:World,W0=(w9).drew:=⟨_,rfl⟩;have B0:=Hh (show Below wr.heap.size wr W0 by rw[hW0];exact zaa B9.out 1);have R0:=Hh (show Cs W0 (some ⟨g9,o9+5,none⟩) (c9-1) ((M.drop p).drop 1) by rw[hW0];exact(HR9.out).below (zaa (Below.refl _ _) 1));have hS0:=HCX2.out.below (B0.out.block b HBL2.out);change wpAnyH _ _ _ _ _ _ _ _ (w9).drew;rw[←hW0];clear hW0;refine Tk1 (v:=?_) 0 hS0 ?_ ?_;rotate_left
          ·rintro w' ⟨_,_,_,_,_⟩;go_simp;first|done|with_reducible rfl|rfl|(rw[if_pos HPD.out])
          simp only[Act.put,LA];refine Tk1 (v:=?_) 1 hS0 ?_ ?_;rotate_left
          ·rintro w' ⟨_,_,_,_,_⟩;go_simp;first|done|with_reducible rfl|rfl|(rw[if_pos HPD.out])
          simp only[Act.put,LA];refine Tk1 (v:=?_) 2 hS0 ?_ ?_;rotate_left
          ·rintro w' ⟨_,_,_,_,_⟩;go_simp;first|done|with_reducible rfl|rfl|(rw[if_pos HPD.out])
          simp only[Act.put,LA];refine Tk1 (v:=?_) 3 hS0 ?_ ?_;rotate_left
          ·rintro w' ⟨_,_,_,_,_⟩;go_simp;first|done|with_reducible rfl|rfl|(rw[if_pos HPD.out])
          simp only[Act.put,LA];refine Tk1 (v:=?_) 4 hS0 ?_ ?_;rotate_left
          ·rintro w' ⟨_,_,_,_,_⟩;go_simp;first|done|with_reducible rfl|rfl|(rw[if_pos HPD.out])
          simp only[Act.put,LA];refine Tk1 (v:=?_) 5 hS0 ?_ ?_;rotate_left
          ·rintro w' ⟨_,_,_,_,_⟩;go_simp;first|done|with_reducible rfl|rfl|(rw[if_pos HPD.out])
          simp only[Act.put,LA];refine Tk1 (v:=?_) 6 hS0 ?_ ?_;rotate_left
          ·rintro w' ⟨_,_,_,_,_⟩;go_simp;first|done|with_reducible rfl|rfl|(rw[if_pos HPD.out])
          simp only[Act.put,LA];refine Tk1 (v:=?_) 7 hS0 ?_ ?_;rotate_left
          ·rintro w' ⟨_,_,_,_,_⟩;go_simp;first|done|with_reducible rfl|rfl|(rw[if_pos HPD.out])
          simp only[Act.put,LA];refine Tk1 (v:=?_) 10 hS0 ?_ ?_;rotate_left
          ·rintro w' ⟨_,_,_,_,_⟩;go_simp;first|done|with_reducible rfl|rfl|(rw[if_pos HPD.out])
          simp only[Act.put,LA];refine Rd1 8 fun K hK=>?_;go_simp;obtain⟨g1,hg1⟩:∃g,g=W0.heap.size:=⟨_,rfl⟩;obtain⟨W1,hW1⟩:∃V:World,V=W0.alloc (.cells #[.bool x.sx,.slice x.ax x.xs.length x.cx,.bool x.sy,.slice x.ay x.ys.length x.cy,.int .u8 x.st] 78):=⟨_,rfl⟩;have B1:=Hh (show Below wr.heap.size wr W1 by rw[hW1];exact B0.out.alloc B0.out.size _);have R1:=Hh (show Cs W1 (some ⟨g9,o9+5,none⟩) (c9-1) ((M.drop p).drop 1) by rw[hW1];exact R0.out.below ((Below.refl _ _).alloc (Nat.le_refl _) _));have X1:=Hh (show ∀j u,(cvcs [x])[j]?=some u→W1.cell? ((⟨g1,0,none⟩:Addr).add j)=some u by rw[hW1,hg1];exact zcv W0 x);rw[←hg1,←hW1];clear hg1 hW1;refine hK.out _ _ (HCX2.out.below (B1.out.block b HBL2.out)) (fun hS1=>?_);clear hK K;refine Rd1 9 fun K hK=>?_;refine zaH (.tmp 61) (.tmp 66) rfl x (some ⟨g,og,none⟩) p d (M.take p) ⟨g1,0,none⟩ 1 rfl rfl HTP.out ((((HCS.out.below HBB.out)).below B1.out).cut p) (fun e=>by cases e) X1.out (by omega) ?_;intro v2 W2 ho hgw;simp only[Act.put,LA];have B2:=Hh (B1.out.grown hgw B1.out.size (fun q hq=>by cases hq));have R2:=Hh (R1.out.below ((Below.refl _ _).grown hgw (Nat.le_refl _) (fun q hq=>by cases hq)));have O2:=Hh (OwnC.mono ho (show w.heap.size≤W1.heap.size from Nat.le_trans HB.out.size (Nat.le_trans HBB.out.size B1.out.size)));have L2:=Hh (show ∀q,v2.ownBlock=some q→wr.heap.size≤q from fun q hq=>Nat.le_trans B1.out.size (ho.lt q hq).1);refine hK.out _ _ (HCX2.out.below (B2.out.block b HBL2.out)) (fun hS2=>?_);clear hK K ho hgw;refine Rd1 11 fun K hK=>?_;refine zaR (.tmp 67) (.tmp 68) rfl w.heap.size v2 (M.take p++[x]) ((M.drop p).drop 1) (some ⟨g9,o9+5,none⟩) (m-p-1) ((c9-1)) rfl rfl O2.out R2.out HRL.out HRN.out (by rw[List.length_append,HTP.out,List.length_singleton];omega) (Nat.le_trans HB.out.size (Nat.le_trans HBB.out.size B2.out.size)) ?_;intro v3 W3 ho hgw hat;simp only[Act.put,LA];have B3:=Hh (B2.out.grown hgw B2.out.size (fun q hq=>L2.out q hq));have O3:=Hh ho;refine hK.out _ _ (HCX2.out.below (B3.out.block b HBL2.out)) (fun hS3=>?_);clear hK K ho hgw hat;refine Rd1 12 fun K hK=>?_;go_simp;refine hK.out _ _ (HCX2.out.below (B3.out.block b HBL2.out)) (fun hS4=>?_);clear hK K;refine wpAnyH_done (by kernel_rfl) ?_ _;refine NoPanic.normal ?_;go_wp2_with fail;go_roundw
          case rel =>
           refine⟨i+1,by omega,by go_num,?_,HB.out.trans ((HBB.out.trans (B3.out.mono HBB.out.size)).mono HB.out.size)⟩;rw[HPUT.out];exact O3.out
          case measure=>simp[intOf];omega
       ·have HR00:=Hh hr00;have t4:(r==0)=false:=beq_eq_false_iff_ne.2 hr00;clear hr00;go_wp2_with fail;have st:Below wr.heap.size wr w2.drew:=zaa (ST2.out) 1;have sy:=HCY.out.below ((ST2.out:Below wr.heap.size wr w2).block g HGL.out.1);have sx:=HCX2.out.below ((ST2.out:Below wr.heap.size wr w2).block b HGL.out.2);obtain⟨e1,e2,e3,e4,e5⟩:=sy;obtain⟨f1,f2,f3,f4,f5⟩:=sx;go_region_held3 (fun w'=>w'.cell? ⟨g,og+p*5,none⟩=some (.bool y.sx)∧w'.cell? ⟨g,og+p*5+1,none⟩=some (.slice y.ax y.xs.length y.cx)∧w'.cell? ⟨g,og+p*5+2,none⟩=some (.bool y.sy)∧w'.cell? ⟨g,og+p*5+3,none⟩=some (.slice y.ay y.ys.length y.cy)∧w'.cell? ⟨g,og+p*5+4,none⟩=some (.int .u8 y.st)∧w'.cell? ⟨b,off+i*5,none⟩=some (.bool x.sx)∧w'.cell? ⟨b,off+i*5+1,none⟩=some (.slice x.ax x.xs.length x.cx)∧w'.cell? ⟨b,off+i*5+2,none⟩=some (.bool x.sy)∧w'.cell? ⟨b,off+i*5+3,none⟩=some (.slice x.ay x.ys.length x.cy)∧w'.cell? ⟨b,off+i*5+4,none⟩=some (.int .u8 x.st))
         (first|go_keep|exact⟨e1,e2,e3,e4,e5,f1,f2,f3,f4,f5⟩)
         (first|(go_at_call 154;refine(zex y x _ (HYU.out.below st) (HUX2.out.below st) HLY.out.1 HLY.out.2 HLX.out.1 HLX.out.2).mono ?_;rintro e w3 ⟨rfl,b2⟩;rw[←HRr.out];have st2:=st.trans (b2.mono st.size);clear e1 e2 e3 e4 e5 f1 f2 f3 f4 f5;obtain⟨e1,e2,e3,e4,e5⟩:=HCY.out.below (st2.block g HGL.out.1);obtain⟨f1,f2,f3,f4,f5⟩:=HCX2.out.below (st2.block b HGL.out.2)))
        all_goals
         have ST3:=Hh st2;clear st2 st b2 e1 e2 e3 e4 e5 f1 f2 f3 f4 f5;have hpm:=HPM.out;have hml2:=HML.out;have CUM:=Hh (show ∀W',Below wr.heap.size wr W'→∀u∈M,CvU W' u from fun W' q u hu=>((HCU.out u (HIN.out u hu)).below HBB.out).below q);have BA:=Hh (show Below wr.heap.size wr (w3.alloc (.cells #[] 78)) from ST3.out.alloc ST3.out.size _);have HWA:=Hh (show w.heap.size≤(w3.alloc (.cells #[] 78)).heap.size from Nat.le_trans HB.out.size (Nat.le_trans HBB.out.size BA.out.size));have OA:=Hh (zcN w3 (base:=w.heap.size) (Nat.le_trans HB.out.size (Nat.le_trans HBB.out.size ST3.out.size)));have CR:=Hh ((((HCS.out.below HBB.out).below BA.out)).rest (k:=p) (by rw[←HML.out];omega));have HDL:=Hh (show(M.drop p).length=m-p by rw[List.length_drop,←HML.out]);have HTP:=Hh (show(M.take p).length=p by rw[List.length_take,←HML.out];omega);have HBL2:=Hh HGL.out.2;have HPUT:=Hh (zps HM.out HXX.out (by rw[HN.out];exact hlt) (by rw[←HML.out];omega) HA.out (fun _=>by rw[←HYY.out,←HRr.out];have:=HR0.out;omega));rw[if_neg (fun e=>HR00.out (by rw[HRr.out,HYY.out];exact e.2)),List.drop_zero] at HPUT;have HPD:=Hh (show p≤d by omega);have hdp:¬ d=p:=by omega
         clear hpm hml2;go_wp2_with (first
          | (at_builtin;go_loud (refine zbm _ rfl _ _ rfl w.heap.size _ [] (M.drop p) _ _ _ rfl rfl OA.out CR.out HDL.out (fun e=>by cases e) (by simp only[List.length_nil];omega) HWA.out ?_;intro v9 w9 hown9 hg9 hat9;have HO9:=Hh hown9;have B9:=Hh (BA.out.grown hg9 BA.out.size (fun q hq=>by have h1:=ST3.out.size;cases hq;exact h1));clear hg9 hat9;obtain⟨A9,c9,hv9,hcs9,hna9,-⟩:=hown9.cs (fun u hu=>CUM.out _ B9.out u (List.mem_of_mem_drop hu));rw[List.nil_append] at hcs9;rw[List.nil_append,HDL.out] at hv9;subst hv9;have hc9:=hcs9.cap;rw[HDL.out] at hc9;have CS9:=Hh hcs9;have NA9:=Hh hna9;clear hown9 hcs9 hna9)))
         have HRL:=Hh (show(M.drop p).length=m-p by exact HDL.out);have HRN:=Hh (show(A9:Option Addr)=none→c9=0 from NA9.out);refine wp_region_noPanic ?_;refine wp_region_held (S:=fun w'=>w'.cell? ⟨b,off+i*5,none⟩=some (.bool x.sx)∧w'.cell? ⟨b,off+i*5+1,none⟩=some (.slice x.ax x.xs.length x.cx)∧w'.cell? ⟨b,off+i*5+2,none⟩=some (.bool x.sy)∧w'.cell? ⟨b,off+i*5+3,none⟩=some (.slice x.ay x.ys.length x.cy)∧w'.cell? ⟨b,off+i*5+4,none⟩=some (.int .u8 x.st)) (by kernel_rfl) ?_;obtain⟨W0,hW0⟩:∃W0:World,W0=(w9).drew:=⟨_,rfl⟩;have B0:=Hh (show Below wr.heap.size wr W0 by rw[hW0];exact zaa B9.out 1);have R0:=Hh (show Cs W0 A9 c9 (M.drop p) by rw[hW0];exact(CS9.out).below (zaa (Below.refl _ _) 1));have hS0:=HCX2.out.below (B0.out.block b HBL2.out);change wpAnyH _ _ _ _ _ _ _ _ (w9).drew;rw[←hW0];clear hW0;refine Tk1 (v:=?_) 0 hS0 ?_ ?_;rotate_left
         ·rintro w' ⟨_,_,_,_,_⟩;go_simp;first|done|with_reducible rfl|rfl|(rw[if_pos HPD.out])
         simp only[Act.put,LA];refine Tk1 (v:=?_) 1 hS0 ?_ ?_;rotate_left
         ·rintro w' ⟨_,_,_,_,_⟩;go_simp;first|done|with_reducible rfl|rfl|(rw[if_pos HPD.out])
         simp only[Act.put,LA];refine Tk1 (v:=?_) 2 hS0 ?_ ?_;rotate_left
         ·rintro w' ⟨_,_,_,_,_⟩;go_simp;first|done|with_reducible rfl|rfl|(rw[if_pos HPD.out])
         simp only[Act.put,LA];refine Tk1 (v:=?_) 3 hS0 ?_ ?_;rotate_left
         ·rintro w' ⟨_,_,_,_,_⟩;go_simp;first|done|with_reducible rfl|rfl|(rw[if_pos HPD.out])
         simp only[Act.put,LA];refine Tk1 (v:=?_) 4 hS0 ?_ ?_;rotate_left
         ·rintro w' ⟨_,_,_,_,_⟩;go_simp;first|done|with_reducible rfl|rfl|(rw[if_pos HPD.out])
         simp only[Act.put,LA];refine Tk1 (v:=?_) 5 hS0 ?_ ?_;rotate_left
         ·rintro w' ⟨_,_,_,_,_⟩;go_simp;first|done|with_reducible rfl|rfl|(rw[if_pos HPD.out])
         simp only[Act.put,LA];refine Tk1 (v:=?_) 6 hS0 ?_ ?_;rotate_left
         ·rintro w' ⟨_,_,_,_,_⟩;go_simp;first|done|with_reducible rfl|rfl|(rw[if_pos HPD.out])
         simp only[Act.put,LA];refine Tk1 (v:=?_) 7 hS0 ?_ ?_;rotate_left
         ·rintro w' ⟨_,_,_,_,_⟩;go_simp;first|done|with_reducible rfl|rfl|(rw[if_pos HPD.out])
         simp only[Act.put,LA];refine Tk1 (v:=?_) 10 hS0 ?_ ?_;rotate_left
         ·rintro w' ⟨_,_,_,_,_⟩;go_simp;first|done|with_reducible rfl|rfl|(rw[if_pos HPD.out])
         simp only[Act.put,LA];refine Rd1 8 fun K hK=>?_;go_simp;obtain⟨g1,hg1⟩:∃g,g=W0.heap.size:=⟨_,rfl⟩;obtain⟨W1,hW1⟩:∃V:World,V=W0.alloc (.cells #[.bool x.sx,.slice x.ax x.xs.length x.cx,.bool x.sy,.slice x.ay x.ys.length x.cy,.int .u8 x.st] 78):=⟨_,rfl⟩;have B1:=Hh (show Below wr.heap.size wr W1 by rw[hW1];exact B0.out.alloc B0.out.size _);have R1:=Hh (show Cs W1 A9 c9 (M.drop p) by rw[hW1];exact R0.out.below ((Below.refl _ _).alloc (Nat.le_refl _) _));have X1:=Hh (show ∀j u,(cvcs [x])[j]?=some u→W1.cell? ((⟨g1,0,none⟩:Addr).add j)=some u by rw[hW1,hg1];exact zcv W0 x);rw[←hg1,←hW1];clear hg1 hW1;refine hK.out _ _ (HCX2.out.below (B1.out.block b HBL2.out)) (fun hS1=>?_);clear hK K;refine Rd1 9 fun K hK=>?_;refine zaH (.tmp 61) (.tmp 66) rfl x (some ⟨g,og,none⟩) p d (M.take p) ⟨g1,0,none⟩ 1 rfl rfl HTP.out ((((HCS.out.below HBB.out)).below B1.out).cut p) (fun e=>by cases e) X1.out (by omega) ?_;intro v2 W2 ho hgw;simp only[Act.put,LA];have B2:=Hh (B1.out.grown hgw B1.out.size (fun q hq=>by cases hq));have R2:=Hh (R1.out.below ((Below.refl _ _).grown hgw (Nat.le_refl _) (fun q hq=>by cases hq)));have O2:=Hh (OwnC.mono ho (show w.heap.size≤W1.heap.size from Nat.le_trans HB.out.size (Nat.le_trans HBB.out.size B1.out.size)));have L2:=Hh (show ∀q,v2.ownBlock=some q→wr.heap.size≤q from fun q hq=>Nat.le_trans B1.out.size (ho.lt q hq).1);refine hK.out _ _ (HCX2.out.below (B2.out.block b HBL2.out)) (fun hS2=>?_);clear hK K ho hgw;refine Rd1 11 fun K hK=>?_;refine zaR (.tmp 67) (.tmp 68) rfl w.heap.size v2 (M.take p++[x]) (M.drop p) A9 (m-p) (c9) rfl rfl O2.out R2.out HRL.out HRN.out (by rw[List.length_append,HTP.out,List.length_singleton];omega) (Nat.le_trans HB.out.size (Nat.le_trans HBB.out.size B2.out.size)) ?_;intro v3 W3 ho hgw hat;simp only[Act.put,LA];have B3:=Hh (B2.out.grown hgw B2.out.size (fun q hq=>L2.out q hq));have O3:=Hh ho;refine hK.out _ _ (HCX2.out.below (B3.out.block b HBL2.out)) (fun hS3=>?_);clear hK K ho hgw hat;refine Rd1 12 fun K hK=>?_;go_simp;refine hK.out _ _ (HCX2.out.below (B3.out.block b HBL2.out)) (fun hS4=>?_);clear hK K;refine wpAnyH_done (by kernel_rfl) ?_ _;refine NoPanic.normal ?_;go_wp2_with fail;go_roundw
         case rel =>
          refine⟨i+1,by omega,by go_num,?_,HB.out.trans ((HBB.out.trans (B3.out.mono HBB.out.size)).mono HB.out.size)⟩;rw[HPUT.out];exact O3.out
         case measure=>simp[intOf];omega
    ·obtain rfl:p=m:=by omega
     have t2:decide ((p:Int)<(p:Int))=false:=decide_eq_false (by omega);have HUX2:=Hh (HUX.out.below HBB.out);have HBL2:=Hh (Nat.lt_of_lt_of_le HBL.out HBB.out.size);have HCX2:=Hh (HCX.out.below (HBB.out.block b HBL.out));have HTP:=Hh (show(M.take p).length=p by rw[List.length_take,←HML.out];omega);have HPUT:=Hh (zps HM.out HXX.out (by rw[HN.out];exact hlt) (by rw[←HML.out];exact Nat.le_refl _) HA.out (fun h0=>absurd h0 (by rw[←HML.out];exact Nat.lt_irrefl _)));rw[if_neg (fun e=>absurd e.1 (by rw[←HML.out];exact Nat.lt_irrefl _)),List.drop_zero,List.drop_eq_nil_of_le (by rw[←HML.out];exact Nat.le_refl _)] at HPUT;cases D with
     | none =>
      have hd0:=HD.out.1 rfl;subst hd0;have hp0:p=0:=by omega
      subst hp0;have HPD:=Hh (Nat.le_refl 0);clear hpm;go_wp2_with fail;go_quiet (fail);have bq:Below wr.heap.size wr (wr.drewN nq):=zaa (Below.refl _ wr) _;generalize wr.drewN nq=wq at bq ⊢;have BQ:=Hh bq;clear bq;go_wp2_with fail;go_quiet (fail);have bq:=zaa BQ.out nq;generalize wq.drewN nq=w3 at bq ⊢;have ST3:=Hh bq;clear bq;have BA:=Hh (show Below wr.heap.size wr (w3.alloc (.cells #[] 78)) from ST3.out.alloc ST3.out.size _);have HWA:=Hh (show w.heap.size≤(w3.alloc (.cells #[] 78)).heap.size from Nat.le_trans HB.out.size (Nat.le_trans HBB.out.size BA.out.size));have OA:=Hh (zcN w3 (base:=w.heap.size) (Nat.le_trans HB.out.size (Nat.le_trans HBB.out.size ST3.out.size)));go_wp2_with fail;have HR9:=Hh (ziP (w3.alloc (.cells #[] 78)) (some ⟨w3.heap.size,0,none⟩) (c:=0) (by simp[maxLen]));have HRL:=Hh (show([]:List Cv).length=0 from rfl);have HRN:=Hh (show(some ⟨w3.heap.size,0,none⟩:Option Addr)=none→0=0 from fun _=>rfl);refine wp_region_noPanic ?_;refine wp_region_held (S:=fun w'=>w'.cell? ⟨b,off+i*5,none⟩=some (.bool x.sx)∧w'.cell? ⟨b,off+i*5+1,none⟩=some (.slice x.ax x.xs.length x.cx)∧w'.cell? ⟨b,off+i*5+2,none⟩=some (.bool x.sy)∧w'.cell? ⟨b,off+i*5+3,none⟩=some (.slice x.ay x.ys.length x.cy)∧w'.cell? ⟨b,off+i*5+4,none⟩=some (.int .u8 x.st)) (by kernel_rfl) ?_;obtain⟨W0,hW0⟩:∃W0:World,W0=(w3.alloc (.cells #[] 78)).drew:=⟨_,rfl⟩;have B0:=Hh (show Below wr.heap.size wr W0 by rw[hW0];exact zaa BA.out 1);have R0:=Hh (show Cs W0 (some ⟨w3.heap.size,0,none⟩) 0 [] by rw[hW0];exact(HR9.out).below (zaa (Below.refl _ _) 1));have hS0:=HCX2.out.below (B0.out.block b HBL2.out);change wpAnyH _ _ _ _ _ _ _ _ (w3.alloc (.cells #[] 78)).drew;rw[←hW0];clear hW0;refine Tk1 (v:=?_) 0 hS0 ?_ ?_;rotate_left
      ·rintro w' ⟨_,_,_,_,_⟩;go_simp;first|done|with_reducible rfl|rfl|(rw[if_pos HPD.out])
      simp only[Act.put,LA];refine Tk1 (v:=?_) 1 hS0 ?_ ?_;rotate_left
      ·rintro w' ⟨_,_,_,_,_⟩;go_simp;first|done|with_reducible rfl|rfl|(rw[if_pos HPD.out])
      simp only[Act.put,LA];refine Tk1 (v:=?_) 2 hS0 ?_ ?_;rotate_left
      ·rintro w' ⟨_,_,_,_,_⟩;go_simp;first|done|with_reducible rfl|rfl|(rw[if_pos HPD.out])
      simp only[Act.put,LA];refine Tk1 (v:=?_) 3 hS0 ?_ ?_;rotate_left
      ·rintro w' ⟨_,_,_,_,_⟩;go_simp;first|done|with_reducible rfl|rfl|(rw[if_pos HPD.out])
      simp only[Act.put,LA];refine Tk1 (v:=?_) 4 hS0 ?_ ?_;rotate_left
      ·rintro w' ⟨_,_,_,_,_⟩;go_simp;first|done|with_reducible rfl|rfl|(rw[if_pos HPD.out])
      simp only[Act.put,LA];refine Tk1 (v:=?_) 5 hS0 ?_ ?_;rotate_left
      ·rintro w' ⟨_,_,_,_,_⟩;go_simp;first|done|with_reducible rfl|rfl|(rw[if_pos HPD.out])
      simp only[Act.put,LA];refine Tk1 (v:=?_) 6 hS0 ?_ ?_;rotate_left
      ·rintro w' ⟨_,_,_,_,_⟩;go_simp;first|done|with_reducible rfl|rfl|(rw[if_pos HPD.out])
      simp only[Act.put,LA];refine Tk1 (v:=?_) 7 hS0 ?_ ?_;rotate_left
      ·rintro w' ⟨_,_,_,_,_⟩;go_simp;first|done|with_reducible rfl|rfl|(rw[if_pos HPD.out])
      simp only[Act.put,LA];refine Tk1 (v:=?_) 10 hS0 ?_ ?_;rotate_left
      ·rintro w' ⟨_,_,_,_,_⟩;go_simp;first|done|with_reducible rfl|rfl|(rw[if_pos HPD.out])
      simp only[Act.put,LA];refine Rd1 8 fun K hK=>?_;go_simp;obtain⟨g1,hg1⟩:∃g,g=W0.heap.size:=⟨_,rfl⟩;obtain⟨W1,hW1⟩:∃V:World,V=W0.alloc (.cells #[.bool x.sx,.slice x.ax x.xs.length x.cx,.bool x.sy,.slice x.ay x.ys.length x.cy,.int .u8 x.st] 78):=⟨_,rfl⟩;have B1:=Hh (show Below wr.heap.size wr W1 by rw[hW1];exact B0.out.alloc B0.out.size _);have R1:=Hh (show Cs W1 (some ⟨w3.heap.size,0,none⟩) 0 [] by rw[hW1];exact R0.out.below ((Below.refl _ _).alloc (Nat.le_refl _) _));have X1:=Hh (show ∀j u,(cvcs [x])[j]?=some u→W1.cell? ((⟨g1,0,none⟩:Addr).add j)=some u by rw[hW1,hg1];exact zcv W0 x);rw[←hg1,←hW1];clear hg1 hW1;refine hK.out _ _ (HCX2.out.below (B1.out.block b HBL2.out)) (fun hS1=>?_);clear hK K;refine Rd1 9 fun K hK=>?_;refine zaH (.tmp 61) (.tmp 66) rfl x none 0 0 (M.take 0) ⟨g1,0,none⟩ 1 rfl rfl HTP.out ((((HCS.out.below HBB.out)).below B1.out).cut 0) (fun _=>rfl) X1.out (by omega) ?_;intro v2 W2 ho hgw;simp only[Act.put,LA];have B2:=Hh (B1.out.grown hgw B1.out.size (fun q hq=>by cases hq));have R2:=Hh (R1.out.below ((Below.refl _ _).grown hgw (Nat.le_refl _) (fun q hq=>by cases hq)));have O2:=Hh (OwnC.mono ho (show w.heap.size≤W1.heap.size from Nat.le_trans HB.out.size (Nat.le_trans HBB.out.size B1.out.size)));have L2:=Hh (show ∀q,v2.ownBlock=some q→wr.heap.size≤q from fun q hq=>Nat.le_trans B1.out.size (ho.lt q hq).1);refine hK.out _ _ (HCX2.out.below (B2.out.block b HBL2.out)) (fun hS2=>?_);clear hK K ho hgw;refine Rd1 11 fun K hK=>?_;refine zaR (.tmp 67) (.tmp 68) rfl w.heap.size v2 (M.take 0++[x]) [] (some ⟨w3.heap.size,0,none⟩) (0) (0) rfl rfl O2.out R2.out HRL.out HRN.out (by rw[List.length_append,HTP.out,List.length_singleton];omega) (Nat.le_trans HB.out.size (Nat.le_trans HBB.out.size B2.out.size)) ?_;intro v3 W3 ho hgw hat;simp only[Act.put,LA];have B3:=Hh (B2.out.grown hgw B2.out.size (fun q hq=>L2.out q hq));have O3:=Hh ho;refine hK.out _ _ (HCX2.out.below (B3.out.block b HBL2.out)) (fun hS3=>?_);clear hK K ho hgw hat;refine Rd1 12 fun K hK=>?_;go_simp;refine hK.out _ _ (HCX2.out.below (B3.out.block b HBL2.out)) (fun hS4=>?_);clear hK K;refine wpAnyH_done (by kernel_rfl) ?_ _;refine NoPanic.normal ?_;go_wp2_with fail;go_roundw
      case rel =>
       refine⟨i+1,by omega,by go_num,?_,HB.out.trans ((HBB.out.trans (B3.out.mono HBB.out.size)).mono HB.out.size)⟩;rw[HPUT.out];exact O3.out
      case measure=>simp[intOf];omega
     | some da =>
      obtain⟨g,rfl⟩:=HSG.out da rfl;have HPD:=Hh (show p≤d by omega);clear hpm;by_cases hdp:d=p
      ·subst hdp;go_wp2_with fail;go_quiet (fail);have bq:Below wr.heap.size wr (wr.drewN nq):=zaa (Below.refl _ wr) _;generalize wr.drewN nq=wq at bq ⊢;have BQ:=Hh bq;clear bq;go_wp2_with fail;go_quiet (fail);have bq:=zaa BQ.out nq;generalize wq.drewN nq=w3 at bq ⊢;have ST3:=Hh bq;clear bq;have BA:=Hh (show Below wr.heap.size wr (w3.alloc (.cells #[] 78)) from ST3.out.alloc ST3.out.size _);have HWA:=Hh (show w.heap.size≤(w3.alloc (.cells #[] 78)).heap.size from Nat.le_trans HB.out.size (Nat.le_trans HBB.out.size BA.out.size));have OA:=Hh (zcN w3 (base:=w.heap.size) (Nat.le_trans HB.out.size (Nat.le_trans HBB.out.size ST3.out.size)));go_wp2_with (first
        | (at_builtin;go_loud (refine zbm _ rfl _ _ rfl w.heap.size _ [] [] _ _ _ rfl rfl OA.out (ziP _ _ (by simp only[maxLen];omega)) (by simp) (fun e=>by cases e) (by simp) HWA.out ?_;intro v9 w9 hown9 hg9 hat9;have B9:=Hh (BA.out.grown hg9 BA.out.size (fun q hq=>by have h1:=ST3.out.size;cases hq;exact h1));clear hg9 hat9;obtain⟨A9,c9,hv9,hcs9,hna9,-⟩:=hown9.cs (fun u hu=>by cases hu);rw[List.nil_append] at hcs9;rw[List.nil_append,List.length_nil] at hv9;subst hv9;have hc9:=hcs9.cap;have CS9:=Hh hcs9;have NA9:=Hh hna9;clear hown9 hcs9 hna9)))
       have HRL:=Hh (show([]:List Cv).length=0 from rfl);have HRN:=Hh (show A9=none→c9=0 from NA9.out);refine wp_region_noPanic ?_;refine wp_region_held (S:=fun w'=>w'.cell? ⟨b,off+i*5,none⟩=some (.bool x.sx)∧w'.cell? ⟨b,off+i*5+1,none⟩=some (.slice x.ax x.xs.length x.cx)∧w'.cell? ⟨b,off+i*5+2,none⟩=some (.bool x.sy)∧w'.cell? ⟨b,off+i*5+3,none⟩=some (.slice x.ay x.ys.length x.cy)∧w'.cell? ⟨b,off+i*5+4,none⟩=some (.int .u8 x.st)) (by kernel_rfl) ?_;obtain⟨W0,hW0⟩:∃W0:World,W0=(w9).drew:=⟨_,rfl⟩;have B0:=Hh (show Below wr.heap.size wr W0 by rw[hW0];exact zaa B9.out 1);have R0:=Hh (show Cs W0 A9 c9 [] by rw[hW0];exact(CS9.out).below (zaa (Below.refl _ _) 1));have hS0:=HCX2.out.below (B0.out.block b HBL2.out);change wpAnyH _ _ _ _ _ _ _ _ (w9).drew;rw[←hW0];clear hW0;refine Tk1 (v:=?_) 0 hS0 ?_ ?_;rotate_left
       ·rintro w' ⟨_,_,_,_,_⟩;go_simp;first|done|with_reducible rfl|rfl|(rw[if_pos HPD.out])
       simp only[Act.put,LA];refine Tk1 (v:=?_) 1 hS0 ?_ ?_;rotate_left
       ·rintro w' ⟨_,_,_,_,_⟩;go_simp;first|done|with_reducible rfl|rfl|(rw[if_pos HPD.out])
       simp only[Act.put,LA];refine Tk1 (v:=?_) 2 hS0 ?_ ?_;rotate_left
       ·rintro w' ⟨_,_,_,_,_⟩;go_simp;first|done|with_reducible rfl|rfl|(rw[if_pos HPD.out])
       simp only[Act.put,LA];refine Tk1 (v:=?_) 3 hS0 ?_ ?_;rotate_left
       ·rintro w' ⟨_,_,_,_,_⟩;go_simp;first|done|with_reducible rfl|rfl|(rw[if_pos HPD.out])
       simp only[Act.put,LA];refine Tk1 (v:=?_) 4 hS0 ?_ ?_;rotate_left
       ·rintro w' ⟨_,_,_,_,_⟩;go_simp;first|done|with_reducible rfl|rfl|(rw[if_pos HPD.out])
       simp only[Act.put,LA];refine Tk1 (v:=?_) 5 hS0 ?_ ?_;rotate_left
       ·rintro w' ⟨_,_,_,_,_⟩;go_simp;first|done|with_reducible rfl|rfl|(rw[if_pos HPD.out])
       simp only[Act.put,LA];refine Tk1 (v:=?_) 6 hS0 ?_ ?_;rotate_left
       ·rintro w' ⟨_,_,_,_,_⟩;go_simp;first|done|with_reducible rfl|rfl|(rw[if_pos HPD.out])
       simp only[Act.put,LA];refine Tk1 (v:=?_) 7 hS0 ?_ ?_;rotate_left
       ·rintro w' ⟨_,_,_,_,_⟩;go_simp;first|done|with_reducible rfl|rfl|(rw[if_pos HPD.out])
       simp only[Act.put,LA];refine Tk1 (v:=?_) 10 hS0 ?_ ?_;rotate_left
       ·rintro w' ⟨_,_,_,_,_⟩;go_simp;first|done|with_reducible rfl|rfl|(rw[if_pos HPD.out])
       simp only[Act.put,LA];refine Rd1 8 fun K hK=>?_;go_simp;obtain⟨g1,hg1⟩:∃g,g=W0.heap.size:=⟨_,rfl⟩;obtain⟨W1,hW1⟩:∃V:World,V=W0.alloc (.cells #[.bool x.sx,.slice x.ax x.xs.length x.cx,.bool x.sy,.slice x.ay x.ys.length x.cy,.int .u8 x.st] 78):=⟨_,rfl⟩;have B1:=Hh (show Below wr.heap.size wr W1 by rw[hW1];exact B0.out.alloc B0.out.size _);have R1:=Hh (show Cs W1 A9 c9 [] by rw[hW1];exact R0.out.below ((Below.refl _ _).alloc (Nat.le_refl _) _));have X1:=Hh (show ∀j u,(cvcs [x])[j]?=some u→W1.cell? ((⟨g1,0,none⟩:Addr).add j)=some u by rw[hW1,hg1];exact zcv W0 x);rw[←hg1,←hW1];clear hg1 hW1;refine hK.out _ _ (HCX2.out.below (B1.out.block b HBL2.out)) (fun hS1=>?_);clear hK K;refine Rd1 9 fun K hK=>?_;refine zaH (.tmp 61) (.tmp 66) rfl x (some ⟨g,0,none⟩) d d (M.take d) ⟨g1,0,none⟩ 1 rfl rfl HTP.out ((((HCS.out.below HBB.out)).below B1.out).cut d) (fun e=>by cases e) X1.out (by omega) ?_;intro v2 W2 ho hgw;simp only[Act.put,LA];have B2:=Hh (B1.out.grown hgw B1.out.size (fun q hq=>by cases hq));have R2:=Hh (R1.out.below ((Below.refl _ _).grown hgw (Nat.le_refl _) (fun q hq=>by cases hq)));have O2:=Hh (OwnC.mono ho (show w.heap.size≤W1.heap.size from Nat.le_trans HB.out.size (Nat.le_trans HBB.out.size B1.out.size)));have L2:=Hh (show ∀q,v2.ownBlock=some q→wr.heap.size≤q from fun q hq=>Nat.le_trans B1.out.size (ho.lt q hq).1);refine hK.out _ _ (HCX2.out.below (B2.out.block b HBL2.out)) (fun hS2=>?_);clear hK K ho hgw;refine Rd1 11 fun K hK=>?_;refine zaR (.tmp 67) (.tmp 68) rfl w.heap.size v2 (M.take d++[x]) [] A9 (0) (c9) rfl rfl O2.out R2.out HRL.out HRN.out (by rw[List.length_append,HTP.out,List.length_singleton];omega) (Nat.le_trans HB.out.size (Nat.le_trans HBB.out.size B2.out.size)) ?_;intro v3 W3 ho hgw hat;simp only[Act.put,LA];have B3:=Hh (B2.out.grown hgw B2.out.size (fun q hq=>L2.out q hq));have O3:=Hh ho;refine hK.out _ _ (HCX2.out.below (B3.out.block b HBL2.out)) (fun hS3=>?_);clear hK K ho hgw hat;refine Rd1 12 fun K hK=>?_;go_simp;refine hK.out _ _ (HCX2.out.below (B3.out.block b HBL2.out)) (fun hS4=>?_);clear hK K;refine wpAnyH_done (by kernel_rfl) ?_ _;refine NoPanic.normal ?_;go_wp2_with fail;go_roundw
       case rel =>
        refine⟨i+1,by omega,by go_num,?_,HB.out.trans ((HBB.out.trans (B3.out.mono HBB.out.size)).mono HB.out.size)⟩;rw[HPUT.out];exact O3.out
       case measure=>simp[intOf];omega
      ·skip
       go_wp2_with fail;go_quiet (fail);have bq:Below wr.heap.size wr (wr.drewN nq):=zaa (Below.refl _ wr) _;generalize wr.drewN nq=wq at bq ⊢;have BQ:=Hh bq;clear bq;go_wp2_with fail;go_quiet (fail);have bq:=zaa BQ.out nq;generalize wq.drewN nq=w3 at bq ⊢;have ST3:=Hh bq;clear bq;have BA:=Hh (show Below wr.heap.size wr (w3.alloc (.cells #[] 78)) from ST3.out.alloc ST3.out.size _);have HWA:=Hh (show w.heap.size≤(w3.alloc (.cells #[] 78)).heap.size from Nat.le_trans HB.out.size (Nat.le_trans HBB.out.size BA.out.size));have OA:=Hh (zcN w3 (base:=w.heap.size) (Nat.le_trans HB.out.size (Nat.le_trans HBB.out.size ST3.out.size)));go_wp2_with (first
        | (at_builtin;go_loud (refine zbm _ rfl _ _ rfl w.heap.size _ [] [] _ _ _ rfl rfl OA.out (ziP _ _ (by simp only[maxLen];omega)) (by simp) (fun e=>by cases e) (by simp) HWA.out ?_;intro v9 w9 hown9 hg9 hat9;have B9:=Hh (BA.out.grown hg9 BA.out.size (fun q hq=>by have h1:=ST3.out.size;cases hq;exact h1));clear hg9 hat9;obtain⟨A9,c9,hv9,hcs9,hna9,-⟩:=hown9.cs (fun u hu=>by cases hu);rw[List.nil_append] at hcs9;rw[List.nil_append,List.length_nil] at hv9;subst hv9;have hc9:=hcs9.cap;have CS9:=Hh hcs9;have NA9:=Hh hna9;clear hown9 hcs9 hna9)))
       have HRL:=Hh (show([]:List Cv).length=0 from rfl);have HRN:=Hh (show A9=none→c9=0 from NA9.out);refine wp_region_noPanic ?_;refine wp_region_held (S:=fun w'=>w'.cell? ⟨b,off+i*5,none⟩=some (.bool x.sx)∧w'.cell? ⟨b,off+i*5+1,none⟩=some (.slice x.ax x.xs.length x.cx)∧w'.cell? ⟨b,off+i*5+2,none⟩=some (.bool x.sy)∧w'.cell? ⟨b,off+i*5+3,none⟩=some (.slice x.ay x.ys.length x.cy)∧w'.cell? ⟨b,off+i*5+4,none⟩=some (.int .u8 x.st)) (by kernel_rfl) ?_;obtain⟨W0,hW0⟩:∃W0:World,W0=(w9).drew:=⟨_,rfl⟩;have B0:=Hh (show Below wr.heap.size wr W0 by rw[hW0];exact zaa B9.out 1);have R0:=Hh (show Cs W0 A9 c9 [] by rw[hW0];exact(CS9.out).below (zaa (Below.refl _ _) 1));have hS0:=HCX2.out.below (B0.out.block b HBL2.out);change wpAnyH _ _ _ _ _ _ _ _ (w9).drew;rw[←hW0];clear hW0;refine Tk1 (v:=?_) 0 hS0 ?_ ?_;rotate_left
       ·rintro w' ⟨_,_,_,_,_⟩;go_simp;first|done|with_reducible rfl|rfl|(rw[if_pos HPD.out])
       simp only[Act.put,LA];refine Tk1 (v:=?_) 1 hS0 ?_ ?_;rotate_left
       ·rintro w' ⟨_,_,_,_,_⟩;go_simp;first|done|with_reducible rfl|rfl|(rw[if_pos HPD.out])
       simp only[Act.put,LA];refine Tk1 (v:=?_) 2 hS0 ?_ ?_;rotate_left
       ·rintro w' ⟨_,_,_,_,_⟩;go_simp;first|done|with_reducible rfl|rfl|(rw[if_pos HPD.out])
       simp only[Act.put,LA];refine Tk1 (v:=?_) 3 hS0 ?_ ?_;rotate_left
       ·rintro w' ⟨_,_,_,_,_⟩;go_simp;first|done|with_reducible rfl|rfl|(rw[if_pos HPD.out])
       simp only[Act.put,LA];refine Tk1 (v:=?_) 4 hS0 ?_ ?_;rotate_left
       ·rintro w' ⟨_,_,_,_,_⟩;go_simp;first|done|with_reducible rfl|rfl|(rw[if_pos HPD.out])
       simp only[Act.put,LA];refine Tk1 (v:=?_) 5 hS0 ?_ ?_;rotate_left
       ·rintro w' ⟨_,_,_,_,_⟩;go_simp;first|done|with_reducible rfl|rfl|(rw[if_pos HPD.out])
       simp only[Act.put,LA];refine Tk1 (v:=?_) 6 hS0 ?_ ?_;rotate_left
       ·rintro w' ⟨_,_,_,_,_⟩;go_simp;first|done|with_reducible rfl|rfl|(rw[if_pos HPD.out])
       simp only[Act.put,LA];refine Tk1 (v:=?_) 7 hS0 ?_ ?_;rotate_left
       ·rintro w' ⟨_,_,_,_,_⟩;go_simp;first|done|with_reducible rfl|rfl|(rw[if_pos HPD.out])
       simp only[Act.put,LA];refine Tk1 (v:=?_) 10 hS0 ?_ ?_;rotate_left
       ·rintro w' ⟨_,_,_,_,_⟩;go_simp;first|done|with_reducible rfl|rfl|(rw[if_pos HPD.out])
       simp only[Act.put,LA];refine Rd1 8 fun K hK=>?_;go_simp;obtain⟨g1,hg1⟩:∃g,g=W0.heap.size:=⟨_,rfl⟩;obtain⟨W1,hW1⟩:∃V:World,V=W0.alloc (.cells #[.bool x.sx,.slice x.ax x.xs.length x.cx,.bool x.sy,.slice x.ay x.ys.length x.cy,.int .u8 x.st] 78):=⟨_,rfl⟩;have B1:=Hh (show Below wr.heap.size wr W1 by rw[hW1];exact B0.out.alloc B0.out.size _);have R1:=Hh (show Cs W1 A9 c9 [] by rw[hW1];exact R0.out.below ((Below.refl _ _).alloc (Nat.le_refl _) _));have X1:=Hh (show ∀j u,(cvcs [x])[j]?=some u→W1.cell? ((⟨g1,0,none⟩:Addr).add j)=some u by rw[hW1,hg1];exact zcv W0 x);rw[←hg1,←hW1];clear hg1 hW1;refine hK.out _ _ (HCX2.out.below (B1.out.block b HBL2.out)) (fun hS1=>?_);clear hK K;refine Rd1 9 fun K hK=>?_;refine zaH (.tmp 61) (.tmp 66) rfl x (some ⟨g,0,none⟩) p d (M.take p) ⟨g1,0,none⟩ 1 rfl rfl HTP.out ((((HCS.out.below HBB.out)).below B1.out).cut p) (fun e=>by cases e) X1.out (by omega) ?_;intro v2 W2 ho hgw;simp only[Act.put,LA];have B2:=Hh (B1.out.grown hgw B1.out.size (fun q hq=>by cases hq));have R2:=Hh (R1.out.below ((Below.refl _ _).grown hgw (Nat.le_refl _) (fun q hq=>by cases hq)));have O2:=Hh (OwnC.mono ho (show w.heap.size≤W1.heap.size from Nat.le_trans HB.out.size (Nat.le_trans HBB.out.size B1.out.size)));have L2:=Hh (show ∀q,v2.ownBlock=some q→wr.heap.size≤q from fun q hq=>Nat.le_trans B1.out.size (ho.lt q hq).1);refine hK.out _ _ (HCX2.out.below (B2.out.block b HBL2.out)) (fun hS2=>?_);clear hK K ho hgw;refine Rd1 11 fun K hK=>?_;refine zaR (.tmp 67) (.tmp 68) rfl w.heap.size v2 (M.take p++[x]) [] A9 (0) (c9) rfl rfl O2.out R2.out HRL.out HRN.out (by rw[List.length_append,HTP.out,List.length_singleton];omega) (Nat.le_trans HB.out.size (Nat.le_trans HBB.out.size B2.out.size)) ?_;intro v3 W3 ho hgw hat;simp only[Act.put,LA];have B3:=Hh (B2.out.grown hgw B2.out.size (fun q hq=>L2.out q hq));have O3:=Hh ho;refine hK.out _ _ (HCX2.out.below (B3.out.block b HBL2.out)) (fun hS3=>?_);clear hK K ho hgw hat;refine Rd1 12 fun K hK=>?_;go_simp;refine hK.out _ _ (HCX2.out.below (B3.out.block b HBL2.out)) (fun hS4=>?_);clear hK K;refine wpAnyH_done (by kernel_rfl) ?_ _;refine NoPanic.normal ?_;go_wp2_with fail;go_roundw
       case rel =>
        refine⟨i+1,by omega,by go_num,?_,HB.out.trans ((HBB.out.trans (B3.out.mono HBB.out.size)).mono HB.out.size)⟩;rw[HPUT.out];exact O3.out
       case measure=>simp[intOf];omega
  -- the end
  ·obtain rfl:i=n:=by omega
   have t1:decide ((i:Int)<(i:Int))=false:=decide_eq_false (by omega);obtain⟨B,hB⟩:∃B,B=wr.heap.size:=⟨_,rfl⟩;have HBS:=Hh hB;clear hB;go_wp2_with fail;go_loopw [9,8] (fun z v wx=>∃(q:Nat),q≤m∧z=.int .i64 q∧OwnC wx B v ((M.take q).filter fun u=>u.st != 0)∧Below wr.heap.size wr wx) (fun z _ _=>m-(intOf z).toNat)
   case atStart=>exact⟨0,Nat.zero_le _,rfl,OwnC.nil _ _,Below.refl _ _⟩
   case round =>
    obtain⟨q,hq,rfl,hov,hbb⟩:=hrel;have HOV:=Hh hov;have HBB:=Hh hbb;clear hov hbb;by_cases hqm:q<m
    ·have k1:(q:Int)<(m:Int):=by omega
     have k2:(0:Int)≤(q:Int):=by omega
     have t2:decide ((q:Int)<(m:Int))=true:=decide_eq_true k1;obtain⟨g,og,rfl,hgl,hgc⟩:=(HCS.out.below HBB.out).at_ (by rw[←HML.out];omega)
     have hcy:=hgc q (by rw[←HML.out];exact hqm);have hmy:=zda (l:=M) (i:=q) (by rw[←HML.out];exact hqm);obtain⟨y,hy⟩:∃y,y=cat M q:=⟨_,rfl⟩;rw[←hy] at hcy hmy;have HNX:=Hh (zkY (by rw[←HML.out];exact hqm) hy);have HLE:=Hh (show((M.take q).filter fun u=>u.st != 0).length≤q from Nat.le_trans (List.length_filter_le _ _) (by rw[List.length_take];omega));have HYU:=Hh ((HCU.out y (HIN.out y hmy)).below HBB.out);have p3:=HYU.out.1.cap;have p4:=HYU.out.2.1.cap;obtain⟨c1,c2,c3,c4,c5⟩:=hcy;clear hy hgc hgl hqm hmy;by_cases hst:y.st=0
     ·have t3:((y.st:Int)!=0)=false:=by rw[hst];rfl
      have HST:=Hh hst;clear hst;go_wp2_with fail;go_roundw
      case rel =>
       refine⟨q+1,by omega,by go_num,?_,HBB.out⟩;rw[HNX.out,if_pos HST.out,List.append_nil];exact HOV.out
      case measure=>simp[intOf];omega
     ·have t3:((y.st:Int)!=0)=true:=by rw[bne_iff_ne];omega
      have HST:=Hh hst;have hbs:B≤wr.heap.size:=by rw[HBS.out];exact HBB.out.size
      have HBW:=Hh hbs;clear hst hbs;go_wp2_with (first
       | (at_builtin;go_loud (refine zcw _ rfl _ _ rfl B _ ((M.take q).filter fun u=>u.st != 0) y _ 1 rfl rfl (HOV.out.alloc _) (zcv _ y) (by have:=HLE.out;omega) (Nat.le_trans HBW.out (by simp)) ?_;intro v5 w5 hown5 hg5 hk5;have HO5:=Hh hown5;have HG5:=Hh hg5;clear hown5 hg5 hk5)))
      go_roundw
      case rel =>
       refine⟨q+1,by omega,by go_num,?_,((HBB.out.alloc HBB.out.size _).grown HG5.out (Nat.le_trans HBB.out.size (by simp)) (fun k hk=>by rw[←HBS.out];exact(HOV.out.lt k hk).1))⟩;rw[HNX.out,if_neg HST.out];exact HO5.out
      case measure=>simp[intOf];omega
    ·obtain rfl:q=m:=by omega
     have t2:decide ((q:Int)<(q:Int))=false:=decide_eq_false (by omega);have hfl:(M.take q).filter (fun u=>u.st != 0)=M.filter (fun u=>u.st != 0):=by rw[HML.out,List.take_length]
     have HFL:=Hh hfl;clear hfl;go_wp2_with fail;go_ret;refine⟨_,M.filter fun u=>u.st != 0,rfl,zuj HM.out HN.out,fun u hu=>HIN.out u (List.mem_filter.1 hu).1,?_,HB.out.trans (HBB.out.mono HB.out.size)⟩;rw[←HFL.out];exact OwnC.mono HOV.out (by rw[HBS.out];exact HB.out.size)
end Go.Proofs.YtfjajpnfjjdnpaaGreatDoor
