import Derived.Test.YtfjajpnfjjdnpaaGreatDoorUTrX

set_option linter.unusedVariables false
set_option linter.unusedSimpArgs false
set_option maxRecDepth 100000
set_option maxHeartbeats 6400000
namespace Go.Proofs.YtfjajpnfjjdnpaaGreatDoor
open Nds
theorem zgW {l:List Nd}(hl:zaa l=true){n:Int}(hn:kidB l 4 n=true){x y:Nat}(hx:x<8)(hy:y<8):getF 3 l n x y=zad (kidT (dens l) 4 n) x y :=
 zdy hl (m:=3) (by omega) hn (by omega) (by rw[show p2 3=8 from rfl];omega) (by omega) (by rw[show p2 3=8 from rfl];omega)
theorem zcP {c:UInt8}:∀(l:List UInt8) (i:Nat),(zaI c l).length≤i→l.getD i c=c
 | [],i,_=>by simp
 | y :: r,i,h=>by
  have e:zaI c (y :: r)=if y=c∧zaI c r=[] then [] else y :: zaI c r:=rfl
  rw[e] at h;split at h
  ·rename_i h1;cases i with
   | zero=>exact h1.1
   | succ j =>
    have:=zcP r j (by rw[h1.2];exact Nat.zero_le _);simpa using this
  ·cases i with
   | zero=>simp at h
   | succ j =>
    have:=zcP r j (by simpa using h);simpa using this
theorem zms {c:UInt8}{r s:List UInt8}(hl:r.length=s.length)(h:zaI c r=zaI c s):r=s:=by
 refine List.ext_getElem? fun i=>?_;by_cases hi:i<r.length
 ·by_cases ht:i<(zaI c r).length
  ·have e1:(zaI c r)[i]?=r[i]?:=by rw[zcL c r,List.getElem?_take,if_pos ht]
   have e2:(zaI c s)[i]?=s[i]?:=by rw[zcL c s,List.getElem?_take,if_pos (by rw[←h];exact ht)]
   rw[←e1,←e2,h]
  ·have e1:=zcP (c:=c) r i (by omega);have e2:=zcP (c:=c) s i (by rw[←h];omega);rw[List.getD_eq_getElem?_getD,List.getElem?_eq_getElem hi] at e1;rw[List.getD_eq_getElem?_getD,List.getElem?_eq_getElem (by omega)] at e2;rw[List.getElem?_eq_getElem hi,List.getElem?_eq_getElem (by omega)];exact congrArg some (show r[i]=s[i] from(show r[i]=c from e1).trans (show s[i]=c from e2).symm)
 ·rw[List.getElem?_eq_none (by omega),List.getElem?_eq_none (by omega)]
theorem zfg (l:List Nd)(n:Int):∀k,∃K,K≤k∧(zbH l n k).take (zfm l n k)=zbH l n K∧∀y,K≤y→y<k→rowL l n y=[]
 | 0=>⟨0,Nat.le_refl _,rfl,fun y h1 h2=>absurd h2 (Nat.not_lt_zero _)⟩
 | k+1=>by
  obtain⟨K,h1,h2,h3⟩:=zfg l n k;by_cases h:rowL l n k=[]
  ·refine⟨K,by omega,?_,fun y hy1 hy2=>?_⟩
   ·rw[←h2,zbc,show zfm l n (k+1)=zfm l n k from if_pos h,List.append_assoc,List.take_append_of_le_length (zgQ l n k)]
   ·rcases Nat.lt_or_ge y k with h4|h4
    ·exact h3 y hy1 h4
    ·rw[show y=k by omega];exact h
  ·refine⟨k+1,Nat.le_refl _,?_,fun y hy1 hy2=>by omega⟩;rw[show zfm l n (k+1)=(zbH l n (k+1)).length from if_neg h,List.take_length]
theorem zhJ (l:List Nd)(n:Int)(k:Nat):zbH l n k=(((List.range k).map (rowL l n)).map fun r=>r++[36]).flatten:=by
 unfold zbH;rw[List.map_map];rfl
theorem zmt {l m:List Nd}{n p:Int}(h:zcl l n=zcl m p){y:Nat}(hy:y<8):rowL l n y=rowL m p y:=by
 obtain⟨K,h1,h2,h3⟩:=zfg l n 8;obtain⟨K',k1,k2,k3⟩:=zfg m p 8;rw[←zcB,←zcB,h2,k2,zhJ,zhJ] at h;have no:∀(l:List Nd) (n:Int) (k:Nat),∀r∈(List.range k).map (rowL l n),(36:UInt8)∉r:=fun l n k r hr h36=>by
  obtain⟨y,-,rfl⟩:=List.mem_map.1 hr;rcases zep h36 with e|e <;> exact absurd e (by decide)
 have e:=zgU (no l n K) (no m p K') h;have hK:K=K':=by
  have:=congrArg List.length e;simpa using this
 subst hK;rcases Nat.lt_or_ge y K with h4|h4
 ·have e1:=congrArg (fun L=>L[y]?) e;simp only[List.getElem?_map,List.getElem?_range h4,Option.map_some] at e1;exact Option.some.inj e1
 ·rw[h3 y h4 hy,k3 y h4 hy]
theorem zks {l m:List Nd}{n p:Int}(h:zcl l n=zcl m p){x y:Nat}(hx:x<8)(hy:y<8):getF 3 l n x y=0↔getF 3 m p x y=0:=by
 have e:=zms (by rw[zeq,zeq]) (show zaI 46 (rowF l n y)=zaI 46 (rowF m p y) from zmt h hy);have e1:=congrArg (fun L=>L[x]?) e;unfold rowF at e1;simp only[List.getElem?_map,List.getElem?_range hx,Option.map_some] at e1;have e2:=Option.some.inj e1;unfold sgL at e2;split at e2
 ·rename_i h1;split at e2
  ·rename_i h2;exact⟨fun _=>h2,fun _=>h1⟩
  ·exact absurd e2 (by decide)
 ·rename_i h1;split at e2
  ·exact absurd e2 (by decide)
  ·rename_i h2;exact⟨fun h=>absurd h h1,fun h=>absurd h h2⟩
theorem znF {l m:List Nd}(hl:zaa l=true)(hm:zaa m=true){n p:Int}(hn:kidB l 4 n=true)(hp:kidB m 4 p=true)
  (h1:∀x y,0≤zad (kidT (dens l) 4 n) x y∧zad (kidT (dens l) 4 n) x y≤1) (h2:∀x y,0≤zad (kidT (dens m) 4 p) x y∧zad (kidT (dens m) 4 p) x y≤1)
  (h:zcl l n=zcl m p):kidT (dens l) 4 n=kidT (dens m) 4 p:=by
 have w1:wfT ((3:Nat):Int) (kidT (dens l) 4 n):=zfM hl (m:=3) hn;have w2:wfT ((3:Nat):Int) (kidT (dens m) 4 p):=zfM hm (m:=3) hp;refine zbS _ _ 3 w1 w2 fun x y=>?_;by_cases hin:0≤x∧x<p2 3∧0≤y∧y<p2 3
 ·obtain⟨a1,a2,a3,a4⟩:=hin;rw[show p2 3=8 from rfl] at a2 a4;have e:=zks h (x:=x.toNat) (y:=y.toNat) (by omega) (by omega);rw[zgW hl hn (by omega) (by omega),zgW hm hp (by omega) (by omega),show((x.toNat:Nat):Int)=x by omega,show((y.toNat:Nat):Int)=y by omega] at e;have b1:=h1 x y;have b2:=h2 x y;by_cases hz:zad (kidT (dens l) 4 n) x y=0
  ·rw[hz,e.1 hz]
  ·have hz2:zad (kidT (dens m) 4 p) x y≠0:=fun k=>hz (e.2 k);omega
 ·rw[zaB w1 hin,zaB w2 hin]
theorem zoh {v u:Nat}{f g:Nat→Nat}(h:brT v f=brT u g):v=u∧∀j,j<4→f j=g j:=by
 have hb:∀(v:Nat) (f:Nat→Nat),brT v f=Digs.digs v++32 :: (Digs.digs (f 0)++32 :: (Digs.digs (f 1)++32 :: (Digs.digs (f 2)++32 :: Digs.digs (f 3)))):=fun v f=>by
  unfold brT;simp
 have no:∀n,(32:UInt8)∉Digs.digs n:=fun n=>zmq (by decide) n;rw[hb,hb] at h;obtain⟨h1,h⟩:=zcN (no _) (no _) h;obtain⟨h2,h⟩:=zcN (no _) (no _) h;obtain⟨h3,h⟩:=zcN (no _) (no _) h;obtain⟨h4,h⟩:=zcN (no _) (no _) h;refine⟨zdG h1,fun j hj=>?_⟩
 match j,hj with
 | 0,_=>exact zdG h2
 | 1,_=>exact zdG h3
 | 2,_=>exact zdG h4
 | 3,_=>exact zdG h
theorem ziw {l:List Nd}{n:Int}{v:Nat}{f:Nat→Nat}:zcl l n≠brT v f:=fun h=>by
 have hm:∀x∈zcl l n,x=46∨x=42∨x=36:=fun x hx=>by
  rw[←zcB] at hx;have h1:=List.mem_of_mem_take hx;unfold zbH at h1;obtain⟨r,hr,hx2⟩:=List.mem_flatten.1 h1;obtain⟨y,-,rfl⟩:=List.mem_map.1 hr;rcases List.mem_append.1 hx2 with h2|h2
  ·rcases zep h2 with e|e
   ·exact .inl e
   ·exact .inr (.inl e)
  ·exact .inr (.inr (List.mem_singleton.1 h2))
 have h32:(32:UInt8)∈brT v f:=by unfold brT;simp
 rw[←h] at h32;rcases hm 32 h32 with e|e|e <;> exact absurd e (by decide)
theorem zmu {l:List Nd}{v:Int}{i:Nat}:(10:UInt8)∉zbd l v i:=fun h=>by
 have hb:∀(v:Nat) (f:Nat→Nat),(10:UInt8)∉brT v f:=fun v f h=>by
  unfold brT at h;simp only[List.mem_append,List.mem_singleton] at h;have no:∀n,(10:UInt8)∉Digs.digs n:=fun n=>zmq (by decide) n;rcases h with(((((((h|h)|h)|h)|h)|h)|h)|h)|h
  ·exact no _ h
  ·exact absurd h (by decide)
  ·exact no _ h
  ·exact absurd h (by decide)
  ·exact no _ h
  ·exact absurd h (by decide)
  ·exact no _ h
  ·exact absurd h (by decide)
  ·exact no _ h
 unfold zbd at h;split at h
 ·exact hb _ _ h
 ·split at h
  ·rw[←zcB] at h;have h1:=List.mem_of_mem_take h;unfold zbH at h1;obtain⟨r,hr,hx2⟩:=List.mem_flatten.1 h1;obtain⟨y,-,rfl⟩:=List.mem_map.1 hr;rcases List.mem_append.1 hx2 with h2|h2
   ·rcases zep h2 with e|e <;> exact absurd e (by decide)
   ·exact absurd (List.mem_singleton.1 h2) (by decide)
  ·exact hb _ _ h
theorem zkt {s:List UInt8}{q r:List Nd}(h:zdS s q=zdS s r):zbb q=zbb r:=by
 unfold zdS at h;have h1:=List.append_cancel_left h;have no:∀q,∀t∈zbb q,(10:UInt8)∉t:=fun q t ht=>by
  rw[zgR] at ht;obtain⟨i,-,rfl⟩:=zcO _ ht;exact zmu
 exact zgU (no q) (no r) h1
theorem zbk {l:List Nd}{v:Int}:∀{n i:Nat},i<n→¬ (Nds.at_ l i).lv<v→(zai l v n)[cntL l v i]?=some (zbd l v i)
 | 0,i,hi,_=>absurd hi (Nat.not_lt_zero i)
 | n+1,i,hi,hv=>by
  unfold zai;rcases Nat.lt_or_ge i n with h1|h1
  ·have ih:=zbk (n:=n) h1 hv;split
   ·exact ih
   ·have hlt:cntL l v i<(zai l v n).length:=(List.getElem?_eq_some_iff.1 ih).1;rw[List.getElem?_append_left hlt];exact ih
  ·obtain rfl:i=n:=by omega
   rw[if_neg hv,←zaF,List.getElem?_append_right (Nat.le_refl _),Nat.sub_self];rfl
theorem zjH {l:List Nd}{v:Int}:∀{i j:Nat},i≤j→cntL l v i≤cntL l v j
 | i,0,h=>by rw[show i=0 by omega];exact Nat.le_refl _
 | i,j+1,h=>by
  rcases Nat.lt_or_ge i (j+1) with h1|h1
  ·have ih:=zjH (l:=l) (v:=v) (i:=i) (j:=j) (by omega);have:cntL l v j≤cntL l v (j+1):=by
    show _≤if (Nds.at_ l j).lv<v then cntL l v j else cntL l v j+1
    split <;> omega
   omega
  ·rw[show i=j+1 by omega];exact Nat.le_refl _
theorem zhK {l:List Nd}{v:Int}{i:Nat}(h:¬ (Nds.at_ l i).lv<v):cntL l v (i+1)=cntL l v i+1:=if_neg h
theorem zoi {l:List Nd}{v:Int}{i j:Nat}(h:¬ (Nds.at_ l i).lv<v)(hij:i<j):cntL l v i<cntL l v j:=by
 have h1:=zjH (l:=l) (v:=v) (i:=i+1) (j:=j) (by omega);rw[zhK h] at h1;omega
theorem znG {v:Nat}{f g:Nat→Nat}(h:∀j,j<4→f j=g j):brT v f=brT v g:=by
 unfold brT;rw[h 0 (by omega),h 1 (by omega),h 2 (by omega),h 3 (by omega)]
theorem zdV {l:List Nd}(hl:zaa l=true):∀k,k≤l.length→cntL l 1 k=k
 | 0,_=>rfl
 | k+1,hk=>by
  have h1:=zaY hl (i:=k) (by omega);rw[zhK (by omega),zdV hl k (by omega)]
theorem zgX {l:List Nd}(hl:zaa l=true){i:Nat}(hi:i<l.length):zbd l 1 i=brT (Nds.at_ l i).lv.toNat fun k=>((Nds.at_ l i).kid k).toNat:=by
 have hv:=zaY hl hi;have hk:∀k,k<4→0≤(Nds.at_ l i).kid k∧(1<(Nds.at_ l i).lv→(Nds.at_ l i).kid k≤(i:Int)):=fun k hk=>by
  have h:=zag (zaf.1 hl i hi) hk;unfold kidB at h;split at h
  ·have:=of_decide_eq_true h;exact⟨this.1,fun h1=>by omega⟩
  ·have h1:=of_decide_eq_true h;rw[List.length_take] at h1;exact⟨by omega,fun _=>by omega⟩
 unfold zbd;split
 ·rename_i h1;have e:∀k,k<4→numL l 1 ((Nds.at_ l i).kid k).toNat=((Nds.at_ l i).kid k).toNat:=fun k h4=>by
   obtain⟨p,hp⟩:∃p,p=((Nds.at_ l i).kid k).toNat:=⟨_,rfl⟩;have h2:=(hk k h4).2 (by omega);rw[←hp];have hp9:p≤l.length:=by omega
   unfold numL;split
   ·omega
   ·have h3:=zaY hl (i:=p-1) (by omega);rw[if_neg (by omega),zdV hl p hp9]
  exact znG e
 ·rw[if_neg (by omega)]
theorem zmv {q r:List Nd}(hq:zaa q=true)(hr:zaa r=true)(h:zai q 1 q.length=zai r 1 r.length):q=r:=by
 have hlen:q.length=r.length:=by
  have:=congrArg List.length h
  rwa [zaF,zaF,zdV hq _ (Nat.le_refl _),zdV hr _ (Nat.le_refl _)] at this
 refine ziX hlen fun i hi=>?_;have v1:=zaY hq hi;have v2:=zaY hr (i:=i) (by omega);have e1:=zbk (l:=q) (v:=1) hi (by omega);have e2:=zbk (l:=r) (v:=1) (n:=r.length) (i:=i) (by omega) (by omega);rw[zdV hq i (by omega)] at e1;rw[zdV hr i (by omega),←h,e1] at e2;have e3:=Option.some.inj e2;rw[zgX hq hi,zgX hr (by omega)] at e3;obtain⟨h1,h2⟩:=zoh e3;have kz:∀{l:List Nd},zaa l=true→∀{i:Nat},i<l.length→∀k,k<4→0≤(Nds.at_ l i).kid k:=fun {l} hl {i} hi k hk=>by
  have h:=zag (zaf.1 hl i hi) hk;unfold kidB at h;split at h
  ·exact(of_decide_eq_true h).1
  ·have h1:=of_decide_eq_true h;omega
 have e:∀k,k<4→(Nds.at_ q i).kid k=(Nds.at_ r i).kid k:=fun k hk=>by
  have a:=kz hq hi k hk;have b:=kz hr (i:=i) (by omega) k hk;have c:=h2 k hk;omega
 exact Nd.ext' (by omega) (e 0 (by omega)) (e 1 (by omega)) (e 2 (by omega)) (e 3 (by omega))
def zpn (l:List Nd):Prop:=∀i,i<l.length→(Nds.at_ l i).lv=3→∀x y,0≤zad (den l (i+1)) x y∧zad (den l (i+1)) x y≤1
theorem zgY {l:List Nd}(hl:zaa l=true){i k:Nat}(hi:i<l.length)(hk:k<4)(hv:3<(Nds.at_ l i).lv) :
  ((Nds.at_ l i).kid k=0∧numL l 3 ((Nds.at_ l i).kid k).toNat=0)∨∃p:Nat,(Nds.at_ l i).kid k=(p:Int)+1∧p<i∧¬ (Nds.at_ l p).lv<3∧numL l 3 ((Nds.at_ l i).kid k).toNat=cntL l 3 p+1:=by
 have h:=zag (zaf.1 hl i hi) hk;unfold kidB at h;rw[if_neg (by omega)] at h;have h1:=of_decide_eq_true h;rw[List.length_take] at h1;rcases h1 with h0|⟨h2,h3,h4⟩
 ·exact .inl ⟨h0,by rw[h0];rfl⟩
 ·right;obtain⟨p,hp⟩:∃p:Nat,(Nds.at_ l i).kid k=(p:Int)+1:=⟨((Nds.at_ l i).kid k).toNat-1,by omega⟩;rw[hp] at h4;rw[show((p:Int)+1).toNat-1=p by omega,zbv (by omega)] at h4;have hv2:¬ (Nds.at_ l p).lv<3:=by omega
  refine⟨p,hp,by omega,hv2,?_⟩;rw[hp,show((p:Int)+1).toNat=p+1 by omega];unfold numL;rw[if_neg (by omega),show p+1-1=p by omega,if_neg hv2,zhK hv2]
theorem zhL {L M:List Nd}(hL:zaa L=true)(hM:zaa M=true)(bL:zpn L)(bM:zpn M)(h:zai L 3 L.length=zai M 3 M.length) :
  ∀N i j,i<L.length→j<M.length→¬ (Nds.at_ L i).lv<3→¬ (Nds.at_ M j).lv<3→cntL L 3 i=cntL M 3 j→cntL L 3 i<N→den L (i+1)=den M (j+1)
 | 0,i,j,_,_,_,_,_,hN=>absurd hN (Nat.not_lt_zero _)
 | N+1,i,j,hi,hj,vi,vj,hc,hN=>by
  have e1:=zbk (l:=L) (v:=3) hi vi;have e2:=zbk (l:=M) (v:=3) hj vj;rw[h,hc,e2] at e1;have e:=(Option.some.inj e1).symm;have kd:∀{l:List Nd} {i:Nat},kidT (dens l) 4 ((i:Int)+1)=den l (i+1):=fun {l i}=>by
   rw[zap (by omega),show((i:Int)+1).toNat=i+1 by omega]
  by_cases h3:(Nds.at_ L i).lv=3
  ·rw[zdH h3] at e;by_cases k3:(Nds.at_ M j).lv=3
   ·rw[zdH k3] at e;have n1:kidB L 4 ((i:Int)+1)=true:=by rw[zbx _ 4 i (by omega) hi];exact decide_eq_true (by omega)
    have n2:kidB M 4 ((j:Int)+1)=true:=by rw[zbx _ 4 j (by omega) hj];exact decide_eq_true (by omega)
    have:=znF hL hM n1 n2 (by rw[kd];exact bL i hi h3) (by rw[kd];exact bM j hj k3) e
    rwa [kd,kd] at this
   ·rw[show zbd M 3 j=brT (Nds.at_ M j).lv.toNat fun k=>numL M 3 ((Nds.at_ M j).kid k).toNat from if_pos (by omega)] at e;exact absurd e ziw
  ·rw[show zbd L 3 i=brT (Nds.at_ L i).lv.toNat fun k=>numL L 3 ((Nds.at_ L i).kid k).toNat from if_pos (by omega)] at e;by_cases k3:(Nds.at_ M j).lv=3
   ·rw[zdH k3] at e;exact absurd e.symm ziw
   ·rw[show zbd M 3 j=brT (Nds.at_ M j).lv.toNat fun k=>numL M 3 ((Nds.at_ M j).kid k).toNat from if_pos (by omega)] at e;obtain⟨a1,a2⟩:=zoh e;have hlv:(Nds.at_ L i).lv=(Nds.at_ M j).lv:=by omega
    rw[zak hL hi,zak hM hj];refine zfz hlv fun k hk=>?_;have b:=a2 k hk;rw[zap (by omega),zap (by omega)];rcases zgY hL hi hk (by omega) with⟨z1,z2⟩|⟨p,p1,p2,p3,p4⟩
    ·rcases zgY hM hj hk (by omega) with⟨y1,y2⟩|⟨s,s1,s2,s3,s4⟩
     ·rw[z1,y1];show den L 0=den M 0;rw[zal,zal]
     ·omega
    ·rcases zgY hM hj hk (by omega) with⟨y1,y2⟩|⟨s,s1,s2,s3,s4⟩
     ·omega
     ·rw[p1,s1,show((p:Int)+1).toNat=p+1 by omega,show((s:Int)+1).toNat=s+1 by omega];have h9:=zoi p3 p2;exact zhL hL hM bL bM h N p s (by omega) (by omega) p3 s3 (by omega) (by omega)
structure TwoQ (q L:List Nd):Prop where
 loose:zaa L=true
 leaf:zpn L
 pos:0<L.length
 root:¬ (Nds.at_ L (L.length-1)).lv<3
 cells:∀x y,zaR (den L L.length) x y=zaR (den q q.length) x y
 lines:zbb q=zai L 3 L.length
 three:∃i,i<L.length∧(Nds.at_ L i).lv=3
theorem zjI {l:List Nd}(hl:zaa l=true){i:Nat}(hi:i<l.length)(h3:(Nds.at_ l i).lv=3)(x y:Int):0≤zad (den l (i+1)) x y:=by
 have n1:kidB l 4 ((i:Int)+1)=true:=by rw[zbx _ 4 i (by omega) hi];exact decide_eq_true (by omega)
 have kd:kidT (dens l) 4 ((i:Int)+1)=den l (i+1):=by rw[zap (by omega),show((i:Int)+1).toNat=i+1 by omega]
 have w1:wfT ((3:Nat):Int) (kidT (dens l) 4 ((i:Int)+1)):=zfM hl (m:=3) n1;rw[←kd];by_cases hin:0≤x∧x<p2 3∧0≤y∧y<p2 3
 ·obtain⟨a1,a2,a3,a4⟩:=hin;rw[show p2 3=8 from rfl] at a2 a4;have h1:=zfV hl (m:=3) (n:=(i:Int)+1) (x:=((x.toNat:Nat):Int)) (y:=((y.toNat:Nat):Int)) (by omega) n1
  rwa [zgW hl n1 (by omega) (by omega),show((x.toNat:Nat):Int)=x by omega,show((y.toNat:Nat):Int)=y by omega] at h1
 ·rw[zaB w1 hin];exact Int.le_refl _
theorem zjJ {l:List Nd}(hg:zcf l):∀(m:Nat) (i:Nat),i<l.length→(Nds.at_ l i).lv=(m:Int)+3→∃j,j<l.length∧(Nds.at_ l j).lv=3
 | 0,i,hi,h=>⟨i,hi,by omega⟩
 | m+1,i,hi,h=>by
  have hne:=(hg.2 i hi).1;rw[zak hg.1 hi] at hne;have h1:¬ ∀k,k<4→kidT (dens l) (Nds.at_ l i).lv ((Nds.at_ l i).kid k)=.e:=fun hk=>hne ((zdX _ _).2 hk);have h2:∃k,k<4∧(Nds.at_ l i).kid k≠0:=Classical.byContradiction fun hc=>h1 fun k hk=>by
   have h0:(Nds.at_ l i).kid k=0:=Classical.byContradiction fun h0=>hc ⟨k,hk,h0⟩;rw[h0,zap (by omega)];exact zal l
  obtain⟨k,hk,h0⟩:=h2;have h:=zag (zaf.1 hg.1 i hi) hk;unfold kidB at h;rw[if_neg (by omega)] at h;have h3:=of_decide_eq_true h;rw[List.length_take] at h3;rcases h3 with h3|⟨h4,h5,h6⟩
  ·exact absurd h3 h0
  ·rw[zbv (by omega)] at h6;exact zjJ hg m (((Nds.at_ l i).kid k).toNat-1) (by omega) (by omega)
theorem zjK {q:List Nd}(hq:QS q)(hm:zaq q≤1)(h0:q≠[]):∃L,TwoQ q L:=by
 have hl:=hq.1;have hqd:=hq.quad;have hn:0<q.length:=List.length_pos_iff.2 h0;have hv:=zaY hl (i:=q.length-1) (by omega);by_cases hs:(Nds.at_ q (q.length-1)).lv<3
 ·obtain⟨s1,s2,s3⟩:=zfW hqd h0 hm hs;obtain⟨m,hm1⟩:∃m:Nat,(Nds.at_ q (q.length-1)).lv=(m:Int)+1:=⟨(Nds.at_ q (q.length-1)).lv.toNat-1,by omega⟩;obtain⟨d,hd⟩:∃d,d=3-(Nds.at_ q (q.length-1)).lv.toNat:=⟨_,rfl⟩;have hgq:zaP 3 q=zfk d q:=by
   unfold zaP;rw[if_neg (by omega),hd]
  obtain⟨g1,-⟩:=zdA d hl hn hm1 (by omega);have hlow:=zgV d (l:=q) (fun i hi=>by
   rcases zja hqd h0 hi with e|⟨h2,-⟩
   ·rw[show i=q.length-1 by omega];exact Int.le_refl _
   ·omega) (by omega)
  rw[←hgq] at hlow g1;have hroot:(Nds.at_ (zaP 3 q) ((zaP 3 q).length-1)).lv=3:=by rw[g1.lv];omega
  refine⟨zaP 3 q,g1.loose,fun i hi h3 x y=>⟨zjI g1.loose hi h3 x y,?_⟩,s1,by omega,g1.cells,?_,⟨_,by omega,hroot⟩⟩
  ·have hi2:i+1=(zaP 3 q).length:=by
    rcases Nat.lt_or_ge (i+1) (zaP 3 q).length with h4|h4
    ·have:=hlow i h4;omega
    ·omega
   have hw:=zcx g1.loose i hi;rw[h3] at hw;have h5:=g1.cells (x-p2 2) (y-p2 2);rw[←hi2,zgH (m:=2) hw,show x-p2 2+p2 2=x by omega,show y-p2 2+p2 2=y by omega] at h5;rw[h5];have h6:=zlY q (x-p2 2) (y-p2 2);unfold getQ at h6;omega
  ·unfold zbb;rw[if_pos hm]
 ·have hT:=zhI hl (fun h=>hs h.2.2);have hV:VQ q=3:=if_pos hm;rw[hV] at hT;have hg:zcf q:=by
   have h1:=zmY hl (Nat.le_refl q.length)
   rwa [hq.2] at h1
  obtain⟨m,hm1⟩:∃m:Nat,(Nds.at_ q (q.length-1)).lv=(m:Int)+3:=⟨(Nds.at_ q (q.length-1)).lv.toNat-3,by omega⟩;refine⟨q,hl,fun i hi h3 x y=>⟨zjI hl hi h3 x y,?_⟩,hn,hs,fun _ _=>rfl,hT,zjJ hg m _ (by omega) hm1⟩;have h4:den q (i+1)∈dens q:=by
   unfold den;rw[List.getD_eq_getElem?_getD,List.getElem?_eq_getElem (by rw[zbJ];omega)];exact List.getElem_mem _
  have:=(zlX q _ h4).cell (zeY q) x y;omega
theorem znH {s:List UInt8}{q r:List Nd}(hq:QS q)(hr:QS r)(h:zdS s q=zdS s r):q=r:=by
 have hT:=zkt h;have nil_of:∀{q:List Nd},QS q→zbb q=[]→q=[]:=fun {q} hq e=>Classical.byContradiction fun h0=>by
  have hn:0<q.length:=List.length_pos_iff.2 h0;by_cases hm:zaq q≤1
  ·obtain⟨L,k⟩:=zjK hq hm h0;rw[k.lines] at e;have:=zbk (l:=L) (v:=3) (n:=L.length) (i:=L.length-1) (by have:=k.pos;omega) k.root;rw[e] at this;simp at this
  ·have h1:zbb q=zai q 1 q.length:=if_neg hm;have hv:=zaY hq.1 (i:=0) hn;have:=zbk (l:=q) (v:=1) (n:=q.length) (i:=0) hn (by omega);rw[←h1,e] at this;simp at this
 by_cases q0:q=[]
 ·subst q0;exact(nil_of hr (hT.symm.trans rfl)).symm
 by_cases r0:r=[]
 ·subst r0;exact nil_of hq (hT.trans rfl)
 have mixed:∀{q r:List Nd},QS q→QS r→q≠[]→zaq q≤1→¬ zaq r≤1→zbb q=zbb r→False:=fun {q r} hq hr q0 hm hm2 e=>by
  obtain⟨L,k⟩:=zjK hq hm q0;obtain⟨i,hi,h3⟩:=k.three;have e1:=zbk (l:=L) (v:=3) hi (by omega);rw[←k.lines,e,show zbb r=zai r 1 r.length from if_neg hm2,zdH h3] at e1;obtain⟨j,hj,e2⟩:=zcO _ (List.mem_of_getElem? e1);rw[zgX hr.1 hj] at e2;exact ziw e2
 by_cases hm:zaq q≤1
 ·by_cases hm2:zaq r≤1
  ·obtain⟨L,k⟩:=zjK hq hm q0;obtain⟨M,j⟩:=zjK hr hm2 r0;have hlines:zai L 3 L.length=zai M 3 M.length:=by rw[←k.lines,←j.lines,hT]
   have kp:=k.pos;have jp:=j.pos;have hc:cntL L 3 (L.length-1)=cntL M 3 (M.length-1):=by
    have h1:=congrArg List.length hlines;rw[zaF,zaF] at h1;have h2:=zhK k.root;have h3:=zhK j.root;rw[show L.length-1+1=L.length by omega] at h2;rw[show M.length-1+1=M.length by omega] at h3;omega
   have hd:=zhL k.loose j.loose k.leaf j.leaf hlines _ (L.length-1) (M.length-1) (by omega) (by omega) k.root j.root hc (Nat.lt_succ_self _);rw[show L.length-1+1=L.length by omega,show M.length-1+1=M.length by omega] at hd;exact zpJ hq hr fun x y=>by rw[←k.cells,←j.cells,hd]
  ·exact(mixed hq hr q0 hm hm2 hT).elim
 ·by_cases hm2:zaq r≤1
  ·exact(mixed hr hq r0 hm2 hm hT.symm).elim
  ·rw[show zbb q=zai q 1 q.length from if_neg hm,show zbb r=zai r 1 r.length from if_neg hm2] at hT;exact zmv hq.1 hr.1 hT
theorem znI {q:List Nd}(hq:QS q):(zbb q).length≤q.length∧(0<(zdk q)→zdk q<3→zaq q≤1→(zbb q).length=1)∧(0<q.length↔0<(zbb q).length):=by
 by_cases h0:q=[]
 ·subst h0;exact⟨Nat.le_refl _,fun h=>absurd h (by decide),by decide⟩
 ·have hn:0<q.length:=List.length_pos_iff.2 h0;have hlz:zdk q=(Nds.at_ q (q.length-1)).lv:=if_neg h0;rw[hlz];by_cases hs:zaq q≤1∧q≠[]∧(Nds.at_ q (q.length-1)).lv<3
  ·obtain⟨s1,s2,s3⟩:=zfW hq.quad h0 hs.1 hs.2.2;rw[s3];exact⟨hn,fun _ _ _=>rfl,⟨fun _=>Nat.one_pos,fun _=>hn⟩⟩
  ·have hT:=zhI hq.1 hs;have hle:(zbb q).length≤q.length:=by rw[hT,zaF];exact zfa _ _ _
   refine⟨hle,fun h1 h2 h3=>absurd ⟨h3,h0,h2⟩ hs,⟨fun _=>?_,fun _=>hn⟩⟩;rw[hT,zaF];have hroot:¬ (Nds.at_ q (q.length-1)).lv<VQ q:=by
    have hv:=zaY hq.1 (i:=q.length-1) (by omega);unfold VQ;split
    ·rename_i h1;exact fun h2=>hs ⟨h1,h0,h2⟩
    ·omega
   have:=zoi hroot (show q.length-1<q.length by omega);omega
end Go.Proofs.YtfjajpnfjjdnpaaGreatDoor

namespace Go.Proofs.YtfjajpnfjjdnpaaGreatDoor
open Go.RowKit Num Nds Txt
theorem zoj (l:List Nd)(k:Int):QS (ofQ l k):=by
 unfold ofQ;split
 ·rename_i h;unfold okB at h;rw[Bool.and_eq_true,decide_eq_true_iff] at h;exact zpH h.1 (by omega)
 ·exact zpI
abbrev Tb (w W:World)(gq gp g h:Nat)(A B:Option Addr)(c d n m:Nat)(q p:List Nd):Prop:=Sx w W [(gq,.cells #[.slice A n c] 28),(gp,.cells #[.slice B m d] 28),(g,.cells #[.string zaj,.slice A n c] 30),(h,.cells #[.string zaj,.slice B m d] 30)] [] [(A,c,q),(B,d,p)]
theorem zaw {w W:World}{gq gp:Nat}{A B:Option Addr}{c d n m:Nat}{K:List (Nat × Obj)}{Q:List (Option Addr × Nat × List Nd)}(h:Sx w W ((gq,.cells #[.slice A n c] 28) :: (gp,.cells #[.slice B m d] 28) :: K) [] Q):W.cell? ⟨gq,0,none⟩=some (.slice A n c)∧W.cell? ⟨gp,0,none⟩=some (.slice B m d) :=
 ⟨zar (h.bx 0 _ _ rfl),zar (h.bx 1 _ _ rfl)⟩
def putP (W:World)(g:Nat)(s:ByteArray)(A:Option Addr)(n c:Nat):World:=(W.setCell ⟨g,0,none⟩ (.string s)).setCell ⟨g,1,none⟩ (.slice A n c)
abbrev zP:Obj:=.cells #[.string ⟨#[]⟩,.slice none 0 0] 30
theorem zes {W:World}{g:Nat}(h:W.heap[g]?=some zP):W.cell? ⟨g,0,none⟩=some (.string ⟨#[]⟩)∧W.cell? ⟨g,1,none⟩=some (.slice none 0 0)∧W.frozen? ⟨g,0,none⟩=false∧W.frozen? ⟨g,1,none⟩=false :=
 ⟨(zav h).1,(zav h).2,frozen_of_row W g 0 _ _ h,frozen_of_row W g 1 _ _ h⟩
theorem zet {W:World}{g k:Nat}(hk:k≠g)(s:ByteArray)(A:Option Addr)(n c:Nat):(putP W g s A n c).heap[k]?=W.heap[k]?:=(Below.heap_setCell _ _ _ _ hk).trans (Below.heap_setCell _ _ _ _ hk)
theorem zmw {W:World}{g:Nat}(h:W.heap[g]?=some zP)(s:ByteArray)(A:Option Addr)(n c:Nat):(putP W g s A n c).heap[g]?=some (.cells #[.string s,.slice A n c] 30) :=
 heap_setCell_same _ g 1 _ _ _ (heap_setCell_same W g 0 _ _ _ h)
theorem zbt {B:Nat}{w W:World}(h:Below B w W){g:Nat}(hg:B≤g)(s:ByteArray)(A:Option Addr)(n c:Nat):Below B w (putP W g s A n c):=(h.setCell (p:=⟨g,0,none⟩) hg _).setCell (p:=⟨g,1,none⟩) hg _
theorem znJ {w F:World}{K:List (Nat × Obj)}{Q:List (Option Addr × Nat × List Nd)}(k:Sx w F K [] Q){g h:Nat}{x y:Obj}(x1:F.heap[g]?=some x)(x2:F.heap[h]?=some y):Sx w F (K++[(g,x)]++[(h,y)]) [] Q:=by
 refine⟨k.b,fun i z o hi=>?_,k.gs,k.qs⟩;rcases zgL hi with hi|hi
 ·rcases zgL hi with hi|hi
  ·exact k.bx i z o hi
  ·obtain⟨rfl,rfl⟩:=Prod.mk.inj hi;exact x1
 ·obtain⟨rfl,rfl⟩:=Prod.mk.inj hi;exact x2
theorem zjL {w S W:World}{K:List (Nat × Obj)}{Q:List (Option Addr × Nat × List Nd)}(hs:Sx w S K [] Q)(hb:Below S.heap.size S W){g h:Nat}(hg:S.heap.size≤g)(hh:S.heap.size≤h)(hne:g≠h)(zg:W.heap[g]?=some zP)(zh:W.heap[h]?=some zP)(s:ByteArray)(A B:Option Addr)(n c m d:Nat) :
  Sx w (putP (putP W g s A n c) h s B m d) (K++[(g,.cells #[.string s,.slice A n c] 30)]++[(h,.cells #[.string s,.slice B m d] 30)]) [] Q:=by
 have hB:Below S.heap.size S (putP (putP W g s A n c) h s B m d):=zbt (zbt hb hg s A n c) hh s B m d;have z2:(putP W g s A n c).heap[h]?=some zP:=(zet hne.symm s A n c).trans zh;have x1:(putP (putP W g s A n c) h s B m d).heap[g]?=some (.cells #[.string s,.slice A n c] 30):=(zet hne s B m d).trans (zmw zg s A n c);have x2:(putP (putP W g s A n c) h s B m d).heap[h]?=some (.cells #[.string s,.slice B m d] 30):=zmw z2 s B m d;generalize putP (putP W g s A n c) h s B m d=F at hB x1 x2 ⊢;have k:=hs.next hB;exact znJ k x1 x2
theorem zhM (V:World):Below V.heap.size V ((V.alloc zP).alloc zP)∧((V.alloc zP).alloc zP).heap[V.heap.size]?=some zP∧((V.alloc zP).alloc zP).heap[V.heap.size+1]?=some zP∧V.heap.size≤V.heap.size∧V.heap.size≤V.heap.size+1∧V.heap.size≠V.heap.size+1:=by
 have b1:=(Below.refl V.heap.size V).alloc (Nat.le_refl _) zP;have b2:=b1.alloc b1.size zP;have e:=heap_alloc_new V zP;have e2:=heap_alloc_new (V.alloc zP) zP;rw[World.size_alloc] at e2;exact⟨b2,(((Below.refl (V.alloc zP).heap.size (V.alloc zP)).alloc (Nat.le_refl _) zP).block _ (zdC e)).trans e,e2,Nat.le_refl _,Nat.le_succ _,Nat.ne_of_lt (Nat.lt_succ_self _)⟩
theorem zpo (A0 A1:Option Addr)(c0 c1 n0 n1:Nat)(l0 l1:List Nd)(tw:Bool)(w:World)(hN0:Ns w A0 c0 l0)(hN1:Ns w A1 c1 l1)(hA0:A0=none→c0=0)(hA1:A1=none→c1=0)(hn0:l0.length=n0)(hn1:l1.length=n1)(T:TabP w)
  (h0:n0≤40) (h1:n1≤40) (e0:okB l0 (n0:Int)=true) (e1:okB l1 (n1:Int)=true) :
  Calls Tryz.prog 11 #[.slice A0 n0 c0,.slice A1 n1 c1,.bool tw] w fun e w'=>e=.returned (.bool true)∧Below w.heap.size w w':=by
 obtain⟨q,hq⟩:∃q,q=ofQ l0 (n0:Int):=⟨_,rfl⟩;obtain⟨p,hp⟩:∃p,p=ofQ l1 (n1:Int):=⟨_,rfl⟩;have qq:QS q:=by rw[hq];exact zoj _ _
 have qp:QS p:=by rw[hp];exact zoj _ _
 have lq:q.length≤1400:=by rw[hq];have:=zie l0 (n0:Int);omega
 have lp:p.length≤1400:=by rw[hp];have:=zie l1 (n1:Int);omega
 have E0:=Hh (show ofE l0 (n0:Int)=0 from if_pos e0);have E1:=Hh (show ofE l1 (n1:Int)=0 from if_pos e1);obtain⟨n,hn⟩:∃n,q.length=n:=⟨_,rfl⟩;obtain⟨m,hm⟩:∃m,p.length=m:=⟨_,rfl⟩;rw[hn] at lq;rw[hm] at lp;have HQ:=Hh hq;have HP:=Hh hp;have QQ:=Hh qq;have QP:=Hh qp;have HN:=Hh hn;have HM:=Hh hm;have M0:=Hh hN0;have M1:=Hh hN1;have L0:=Hh hn0;have L1:=Hh hn1;have HT:=Hh T;have Z0:=Hh hA0;have Z1:=Hh hA1;have t0:decide ((n0:Int)>40)=false:=decide_eq_false (by omega);have t1:decide ((n1:Int)>40)=false:=decide_eq_false (by omega);have t2:decide (40<n0)=false:=decide_eq_false (by omega);have t3:decide (40<n1)=false:=decide_eq_false (by omega);have q0:True:=trivial;clear hN0 hN1 hA0 hA1 hn0 hn1 T e0 e1 hq hp qq qp hn hm;go_enter Tryz.func11,Tryz.ntmps11;rw[show(⟨#[97]⟩:ByteArray)=zaj from rfl];go_upto_region 9 with(first
  | (have _t:=q0;go_at_call 37;clear _t;go_loud (refine(zcm _ HT.out).mono ?_;rintro e w1 ⟨rfl,b_⟩;have SS:=Hh ((Sx.start w).next b_);have M0:=Hh (M0.out.below b_);have M1:=Hh (M1.out.below b_);clear b_;have q1:=q0;clear q0))
  | (have _t:=q1;go_at_call 46;clear _t;go_loud (refine(zhr A0 c0 n0 l0 _ q n 0 _ M0.out L0.out (by omega) Z0.out HQ.out.symm HN.out E0.out).mono ?_;rintro e w2 ⟨A,c,rfl,n5,a5,b5⟩;have AQ:=Hh a5;have hal:=(b5.alloc b5.size (.cells #[.slice A n c] 28));have M1:=Hh (M1.out.below hal);have hcn:=n5.cap;rw[HN.out] at hcn;have SS:=Hh (((SS.out.next b5).addQ n5).box (.cells #[.slice A n c] 28));have u0:=zar (SS.out.bx 0 _ _ rfl);clear a5 n5 b5 hal;have q2:=q1;clear q1))
  | (have _t:=q2;go_at_call 46;clear _t;go_loud (refine(zhr A1 c1 n1 l1 _ p m 0 _ M1.out L1.out (by omega) Z1.out HP.out.symm HM.out E1.out).mono ?_;rintro e w3 ⟨B,d,rfl,n5,a5,b5⟩;have AP:=Hh a5;have hcm:=n5.cap;rw[HM.out] at hcm;have SS:=Hh (((SS.out.next b5).addQ n5).box (.cells #[.slice B m d] 28));clear u0;have u0:=zar (SS.out.bx 0 _ _ rfl);have v0:=zar (SS.out.bx 1 _ _ rfl);clear a5 n5 b5;have q3:=q2;clear q2)))
 clear M0 M1 L0 L1 Z0 Z1 E0 E1 t0 t1 t2 t3 q3;obtain⟨W,hW⟩:∃W:World,W=w3.alloc (.cells #[.slice B m d] 28):=⟨_,rfl⟩;rw[←hW] at SS u0 v0 ⊢;obtain⟨gq,hgq⟩:∃g,g=w2.heap.size:=⟨_,rfl⟩;rw[←hgq] at SS u0 ⊢;obtain⟨gp,hgp⟩:∃g,g=w3.heap.size:=⟨_,rfl⟩;rw[←hgp] at SS v0 ⊢;clear hW hgq hgp;go_cut [11,12] from 49 to 52 (fun s11 s12 wx=>∃g h,s11=.pointer (some ⟨g,0,none⟩)∧s12=.pointer (some ⟨h,0,none⟩)∧Tb w wx gq gp g h A B c d n m q p)
 case first =>
  refine wp_region_noPanic ?_;refine wp_region_held (S:=fun w'=>w'.cell? ⟨gq,0,none⟩=some (.slice A n c)∧w'.cell? ⟨gp,0,none⟩=some (.slice B m d)) (by kernel_rfl) ?_;change wpAnyH _ _ _ _ _ _ _ _ (W.drewN 1);have SD:=Hh (SS.out.next (zab (Below.refl _ _) 1));generalize W.drewN 1=V at *;clear u0 v0 SS;have hS0:=zaw SD.out;refine Tk1 (v:=?_) 0 hS0 ?_ ?_;rotate_left
  ·rintro w' ⟨_,_⟩;go_simp;first|done|with_reducible rfl|rfl
  simp only[Act.put,LA];refine Tk1 (v:=?_) 1 hS0 ?_ ?_;rotate_left
  ·rintro w' ⟨_,_⟩;go_simp;first|done|with_reducible rfl|rfl
  simp only[Act.put,LA];refine Tk1 (v:=?_) 2 hS0 ?_ ?_;rotate_left
  ·rintro w' ⟨_,_⟩;go_simp;first|done|with_reducible rfl|rfl
  simp only[Act.put,LA];refine Tk1 (v:=?_) 3 hS0 ?_ ?_;rotate_left
  ·rintro w' ⟨_,_⟩;go_simp;first|done|with_reducible rfl|rfl
  simp only[Act.put,LA];refine Rd2 4 5 (fun K hK=>?_) fun K hK=>?_
  ·go_simp;have b1:=(Below.refl V.heap.size V).alloc (Nat.le_refl _) zP;refine hK.out _ _ (zaw (SD.out.next b1)) (fun _=>?_);clear hK K;refine Rd1 5 fun K hK=>?_;go_simp;obtain⟨b2,z1,z2,hg,hh,hne⟩:=zhM V;refine hK.out _ _ (zaw (SD.out.next b2)) (fun _=>?_);clear hK K b1;obtain⟨g2,hg2⟩:∃g,g=V.heap.size+1:=⟨_,rfl⟩;rw[←hg2] at z2 hh hne ⊢;obtain⟨g1,hg1⟩:∃g,g=V.heap.size:=⟨_,rfl⟩;have hg9:V.heap.size≤g1:=by omega
   rw[←hg1] at z1 hne ⊢;clear hg hg1 hg2;generalize (V.alloc zP).alloc zP=F at b2 z1 z2 ⊢;have hZ:=Hh (zjL SD.out b2 hg9 hh hne z1 z2 zaj A B n c m d);have bA:=Hh (zbt b2 hg9 zaj A n c);have bZ:=Hh (zbt bA.out hh zaj B m d);have zB:=Hh ((zet hne.symm zaj A n c).trans z2);obtain⟨d0,d1,f0,f1⟩:=zes z1;clear z1 z2;refine Rd1 6 fun K hK=>?_;go_simp;have hS3:=zaw (SD.out.next bA.out);dsimp only[putP] at hS3;refine hK.out _ _ hS3 (fun _=>?_);clear hK K d0 d1 f0 f1 hS3;change wpAnyH _ _ _ _ _ _ _ _ (putP F g1 zaj A n c);generalize putP F g1 zaj A n c=F2 at *;obtain⟨d0,d1,f0,f1⟩:=zes zB.out;refine Rd1 7 fun K hK=>?_;go_simp;have hS4:=zaw (SD.out.next bZ.out);dsimp only[putP] at hS4;refine hK.out _ _ hS4 (fun _=>?_);clear hK K d0 d1 f0 f1 hS4;refine wpAnyH_done (by kernel_rfl) ?_ _;refine NoPanic.normal ?_;go_wp2_with fail;go_meet;exact⟨g1,g2,rfl,rfl,hZ.out⟩
  ·go_simp;have b1:=(Below.refl V.heap.size V).alloc (Nat.le_refl _) zP;refine hK.out _ _ (zaw (SD.out.next b1)) (fun _=>?_);clear hK K;refine Rd1 4 fun K hK=>?_;go_simp;obtain⟨b2,z1,z2,hg,hh,hne⟩:=zhM V;refine hK.out _ _ (zaw (SD.out.next b2)) (fun _=>?_);clear hK K b1;obtain⟨g2,hg2⟩:∃g,g=V.heap.size+1:=⟨_,rfl⟩;rw[←hg2] at z2 hh hne ⊢;obtain⟨g1,hg1⟩:∃g,g=V.heap.size:=⟨_,rfl⟩;have hg9:V.heap.size≤g1:=by omega
   rw[←hg1] at z1 hne ⊢;clear hg hg1 hg2;generalize (V.alloc zP).alloc zP=F at b2 z1 z2 ⊢;have hZ:=Hh (zjL SD.out b2 hh hg9 hne.symm z2 z1 zaj A B n c m d);have bA:=Hh (zbt b2 hh zaj A n c);have bZ:=Hh (zbt bA.out hg9 zaj B m d);have zB:=Hh ((zet hne zaj A n c).trans z1);obtain⟨d0,d1,f0,f1⟩:=zes z2;clear z1 z2;refine Rd1 6 fun K hK=>?_;go_simp;have hS3:=zaw (SD.out.next bA.out);dsimp only[putP] at hS3;refine hK.out _ _ hS3 (fun _=>?_);clear hK K d0 d1 f0 f1 hS3;change wpAnyH _ _ _ _ _ _ _ _ (putP F g2 zaj A n c);generalize putP F g2 zaj A n c=F2 at *;obtain⟨d0,d1,f0,f1⟩:=zes zB.out;refine Rd1 7 fun K hK=>?_;go_simp;have hS4:=zaw (SD.out.next bZ.out);dsimp only[putP] at hS4;refine hK.out _ _ hS4 (fun _=>?_);clear hK K d0 d1 f0 f1 hS4;refine wpAnyH_done (by kernel_rfl) ?_ _;refine NoPanic.normal ?_;go_wp2_with fail;go_meet;exact⟨g2,g1,rfl,rfl,hZ.out⟩
 case rest =>
  obtain⟨g,h,rfl,rfl,hT⟩:=hcut;have MQ:=Hh (show mayP zaj q=true from Bool.and_eq_true_iff.2 ⟨by kernel_rfl,QQ.out.quad⟩);have MP:=Hh (show mayP zaj p=true from Bool.and_eq_true_iff.2 ⟨by kernel_rfl,QP.out.quad⟩);obtain⟨f1_,f2_,f3_⟩:=znI QQ.out;obtain⟨ta,hta⟩:∃t:ByteArray,t=⟨(zdS zaj.data.toList q).toArray⟩:=⟨_,rfl⟩;obtain⟨tb,htb⟩:∃t:ByteArray,t=⟨(zdS zaj.data.toList p).toArray⟩:=⟨_,rfl⟩;obtain⟨R,hR⟩:∃R,R=decide (q=p):=⟨_,rfl⟩;have y1:(ta.toList==tb.toList)=R:=by
   rw[hta,htb,hR,zpR];exact decide_eq_decide.2 ⟨fun h=>znH QQ.out QP.out h,fun h=>by rw[h]⟩
  have y2:(R==R)=true:=beq_self_eq_true R;obtain⟨k,hk⟩:∃k,k=(zbb q).length:=⟨_,rfl⟩;obtain⟨v,hv⟩:∃v,v=zdk q:=⟨_,rfl⟩;obtain⟨M,hM⟩:∃M,M=zaq q%256:=⟨_,rfl⟩;have hM2:=hM;rw[zhG QQ.out.1] at hM2;rw[←hk,HN.out] at f1_;rw[←hk,←hv,←hM2] at f2_;rw[←hk,HN.out] at f3_;have y3:decide ((k:Int)≤(n:Int))=true:=decide_eq_true (by omega);have y4:decide (k≤n)=true:=decide_eq_true f1_;obtain⟨z,hz⟩:∃z,z=decide (0<n):=⟨_,rfl⟩;have y5:decide (0<n)=z:=hz.symm;have y6:decide (0<k)=z:=by rw[hz];exact decide_eq_decide.2 f3_.symm
  have y7:decide ((n:Int)>0)=z:=by rw[hz];exact decide_eq_decide.2 (by omega)
  have y8:decide ((k:Int)>0)=z:=by rw[←y6];exact decide_eq_decide.2 (by omega)
  have y9:(z==z)=true:=beq_self_eq_true z;obtain⟨b1,hb1⟩:∃b,b=decide (v>0):=⟨_,rfl⟩;obtain⟨b2,hb2⟩:∃b,b=decide (v<3):=⟨_,rfl⟩;obtain⟨b3,hb3⟩:∃b,b=decide (M≤1):=⟨_,rfl⟩;have y10:b1=true→b2=true→b3=true→k=1:=fun a b c=>f2_ (of_decide_eq_true (hb1.symm.trans a)) (of_decide_eq_true (hb2.symm.trans b)) (of_decide_eq_true (hb3.symm.trans c));have x1:=hb1.symm;have x2:=hb2.symm;have x3:=hb3.symm;have HK:=Hh hk;have HV:=Hh hv;have HMM:=Hh hM;have HR:=Hh hR;have Hta:=Hh hta;have Htb:=Hh htb;have HY:=Hh y10;have SS:=Hh hT;clear u0 v0 f1_ f2_ f3_ hta htb hR hk hv hM hM2 hz hb1 hb2 hb3 y10 hT;obtain⟨u0,v0⟩:=zaw SS.out;obtain⟨d0,d1⟩:=zav (SS.out.bx 2 _ _ rfl);obtain⟨f0,f1⟩:=zav (SS.out.bx 3 _ _ rfl);have q4:True:=trivial;go_upto_region 13 with(first
   | (have _t:=q4;go_at_call 38;clear _t;go_loud (refine(zdF A c n zaj q _ (by decide) (SS.out.qs 0 _ _ _ rfl) HN.out (by omega) AQ.out (zat HT.out SS.out.b)).mono ?_;rintro e w5 ⟨he,b_⟩;rw[MQ.out,if_pos rfl,←Hta.out] at he;subst he;have SS:=Hh (SS.out.next b_);clear b_ u0 v0 d0 d1 f0 f1;obtain⟨u0,v0⟩:=zaw SS.out;obtain⟨d0,d1⟩:=zav (SS.out.bx 2 _ _ rfl);obtain⟨f0,f1⟩:=zav (SS.out.bx 3 _ _ rfl);have q5:=q4;clear q4))
   | (have _t:=q5;go_at_call 38;clear _t;go_loud (refine(zdF B d m zaj p _ (by decide) (SS.out.qs 1 _ _ _ rfl) HM.out (by omega) AP.out (zat HT.out SS.out.b)).mono ?_;rintro e w6 ⟨he,b_⟩;rw[MP.out,if_pos rfl,←Htb.out] at he;subst he;have SS:=Hh (SS.out.next b_);clear b_ u0 v0 d0 d1 f0 f1;obtain⟨u0,v0⟩:=zaw SS.out;obtain⟨d0,d1⟩:=zav (SS.out.bx 2 _ _ rfl);obtain⟨f0,f1⟩:=zav (SS.out.bx 3 _ _ rfl);have q6:=q5;clear q5))
   | (have _t:=q6;go_at_call 40;clear _t;go_loud (refine(zdE A c n q _ (SS.out.qs 0 _ _ _ rfl) HN.out (by omega) QQ.out.1 AQ.out).mono ?_;rintro e w7 ⟨rfl,b_⟩;rw[←HK.out];have SS:=Hh (SS.out.next b_);clear b_ u0 v0 d0 d1 f0 f1;obtain⟨u0,v0⟩:=zaw SS.out;obtain⟨d0,d1⟩:=zav (SS.out.bx 2 _ _ rfl);obtain⟨f0,f1⟩:=zav (SS.out.bx 3 _ _ rfl);have q7:=q6;clear q6)))
  clear d0 d1 f0 f1;cases b1 <;> cases b2 <;> cases b3
  all_goals (
   have y11:=HY.out
   first
    | (have y12:((k:Int)==1)=true:=by rw[y11 rfl rfl rfl];rfl)
    | skip
   clear y11;go_wp2_with (first
    | (go_at_call 21;go_loud (refine(zkc A c n q _ (SS.out.qs 0 _ _ _ rfl) HN.out).mono ?_;rintro e w8 ⟨rfl,b_⟩;rw[←HV.out];have SS:=Hh (SS.out.next b_);clear b_ u0 v0;obtain⟨u0,v0⟩:=zaw SS.out))
    | (go_at_call 47;go_loud (refine(znt A c n q _ (SS.out.qs 0 _ _ _ rfl) HN.out).mono ?_;rintro e w9 ⟨rfl,b_⟩;rw[←HMM.out];have SS:=Hh (SS.out.next b_);clear b_ u0 v0;obtain⟨u0,v0⟩:=zaw SS.out))
    | (go_at_call 25;go_loud (refine(zlq A B c d n m q p _ (SS.out.qs 0 _ _ _ rfl) (SS.out.qs 1 _ _ _ rfl) HN.out HM.out).mono ?_;rintro e w10 ⟨rfl,b_⟩;rw[←HR.out];have SS:=Hh (SS.out.next b_);clear b_ u0 v0;obtain⟨u0,v0⟩:=zaw SS.out)))
   go_ret;exact⟨rfl,SS.out.b⟩)
theorem zpp (A0 A1:Option Addr)(c0 c1 n0 n1:Nat)(l0 l1:List Nd)(tw:Bool)(w:World)(hN0:Ns w A0 c0 l0)(hN1:Ns w A1 c1 l1)(hA0:A0=none→c0=0)(hA1:A1=none→c1=0)(hn0:l0.length=n0)(hn1:l1.length=n1)(T:TabP w)
  (hno:40<n0∨40<n1∨okB l0 (n0:Int)=false∨okB l1 (n1:Int)=false) :
  Calls Tryz.prog 11 #[.slice A0 n0 c0,.slice A1 n1 c1,.bool tw] w fun e w'=>e=.returned (.bool true)∧Below w.heap.size w w':=by
 have M0:=Hh hN0;have M1:=Hh hN1;have L0:=Hh hn0;have L1:=Hh hn1;have HT:=Hh T;have Z0:=Hh hA0;have Z1:=Hh hA1;by_cases h0:40<n0
 ·have t0:decide ((n0:Int)>40)=true:=decide_eq_true (by omega);have t2:decide (40<n0)=true:=decide_eq_true h0;clear hN0 hN1 hA0 hA1 hn0 hn1 T h0 hno;go_enter Tryz.func11,Tryz.ntmps11;go_wp2_with (go_at_call 37;go_loud (refine(zcm _ HT.out).mono ?_;rintro e w1 ⟨rfl,b_⟩;have SS:=Hh ((Sx.start w).next b_);have M0:=Hh (M0.out.below b_);have M1:=Hh (M1.out.below b_);clear b_));go_ret;exact⟨rfl,SS.out.b⟩
 have t0:decide ((n0:Int)>40)=false:=decide_eq_false (by omega);have t2:decide (40<n0)=false:=decide_eq_false h0;by_cases h1:40<n1
 ·have t1:decide ((n1:Int)>40)=true:=decide_eq_true (by omega);have t3:decide (40<n1)=true:=decide_eq_true h1;clear hN0 hN1 hA0 hA1 hn0 hn1 T h0 h1 hno;go_enter Tryz.func11,Tryz.ntmps11;go_wp2_with (go_at_call 37;go_loud (refine(zcm _ HT.out).mono ?_;rintro e w1 ⟨rfl,b_⟩;have SS:=Hh ((Sx.start w).next b_);have M0:=Hh (M0.out.below b_);have M1:=Hh (M1.out.below b_);clear b_));go_ret;exact⟨rfl,SS.out.b⟩
 have t1:decide ((n1:Int)>40)=false:=decide_eq_false (by omega);have t3:decide (40<n1)=false:=decide_eq_false h1;have hoff:∀(l:List Nd) (k:Int),ofE l k=0∨ofE l k=1:=fun l k=>by
  unfold ofE;split
  ·exact .inl rfl
  ·exact .inr rfl
 obtain⟨q,hq⟩:∃q,q=ofQ l0 (n0:Int):=⟨_,rfl⟩;obtain⟨p,hp⟩:∃p,p=ofQ l1 (n1:Int):=⟨_,rfl⟩;obtain⟨n,hn⟩:∃n,q.length=n:=⟨_,rfl⟩;obtain⟨m,hm⟩:∃m,p.length=m:=⟨_,rfl⟩;obtain⟨x,hx⟩:∃x,ofE l0 (n0:Int)=x:=⟨_,rfl⟩;obtain⟨y,hy⟩:∃y,ofE l1 (n1:Int)=y:=⟨_,rfl⟩;have hxy:(x=1∧(y=0∨y=1))∨(x=0∧y=1):=by
  rw[←hx,←hy];have h2:ofE l0 (n0:Int)=1∨ofE l1 (n1:Int)=1:=by
   rcases hno with h|h|h|h
   ·exact absurd h h0
   ·exact absurd h h1
   ·exact .inl (if_neg (by rw[h];exact Bool.false_ne_true))
   ·exact .inr (if_neg (by rw[h];exact Bool.false_ne_true))
  have h3:=hoff l0 (n0:Int);have h4:=hoff l1 (n1:Int);omega
 have HQ:=Hh hq;have HP:=Hh hp;have HN:=Hh hn;have HM:=Hh hm;have E0:=Hh hx;have E1:=Hh hy;have q0:True:=trivial;clear hN0 hN1 hA0 hA1 hn0 hn1 T hq hp hn hm hx hy hno hoff;rcases hxy with⟨rfl,rfl|rfl⟩|⟨rfl,rfl⟩
 all_goals (
  go_enter Tryz.func11,Tryz.ntmps11;go_wp2_with (first
   | (have _t:=q0;go_at_call 37;clear _t;go_loud (refine(zcm _ HT.out).mono ?_;rintro e w1 ⟨rfl,b_⟩;have SS:=Hh ((Sx.start w).next b_);have M0:=Hh (M0.out.below b_);have M1:=Hh (M1.out.below b_);clear b_;have q1:=q0;clear q0))
   | (have _t:=q1;go_at_call 46;clear _t;go_loud (refine(zhr A0 c0 n0 l0 _ q n _ _ M0.out L0.out (by omega) Z0.out HQ.out.symm HN.out E0.out).mono ?_;rintro e w2 ⟨A,c,rfl,n5,a5,b5⟩;have hal:=(b5.alloc b5.size (.cells #[.slice A n c] 28));have M1:=Hh (M1.out.below hal);have SS:=Hh ((SS.out.next b5).box (.cells #[.slice A n c] 28));clear a5 n5 b5 hal;have q2:=q1;clear q1))
   | (have _t:=q2;go_at_call 46;clear _t;go_loud (refine(zhr A1 c1 n1 l1 _ p m _ _ M1.out L1.out (by omega) Z1.out HP.out.symm HM.out E1.out).mono ?_;rintro e w3 ⟨B,d,rfl,n5,a5,b5⟩;have SS:=Hh ((SS.out.next b5).box (.cells #[.slice B m d] 28));clear a5 n5 b5;have q3:=q2;clear q2)))
  go_ret;exact⟨rfl,SS.out.b⟩)
theorem znK (A0 A1:Option Addr)(c0 c1:Nat)(l0 l1:List Nd)(tw:Bool)(w:World)(hN0:Ns w A0 c0 l0)(hN1:Ns w A1 c1 l1)(hA0:A0=none→c0=0)(hA1:A1=none→c1=0)(T:TabP w) :
  Calls Tryz.prog 11 #[.slice A0 l0.length c0,.slice A1 l1.length c1,.bool tw] w fun e w'=>e=.returned (.bool true)∧Below w.heap.size w w':=by
 by_cases h:40<l0.length∨40<l1.length∨okB l0 (l0.length:Int)=false∨okB l1 (l1.length:Int)=false
 ·exact zpp A0 A1 c0 c1 _ _ l0 l1 tw w hN0 hN1 hA0 hA1 rfl rfl T h
 ·refine zpo A0 A1 c0 c1 _ _ l0 l1 tw w hN0 hN1 hA0 hA1 rfl rfl T (by omega) (by omega) ?_ ?_
  ·exact Bool.of_not_eq_false fun h2=>h (.inr (.inr (.inl h2)))
  ·exact Bool.of_not_eq_false fun h2=>h (.inr (.inr (.inr h2)))
end Go.Proofs.YtfjajpnfjjdnpaaGreatDoor
