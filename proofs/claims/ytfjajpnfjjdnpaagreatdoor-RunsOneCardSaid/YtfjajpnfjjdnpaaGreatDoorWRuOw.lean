import Derived.Test.YtfjajpnfjjdnpaaGreatDoorWRuLr

set_option linter.unusedVariables false
set_option linter.unusedSimpArgs false
set_option maxRecDepth 100000
set_option maxHeartbeats 6400000
namespace Go.Proofs.YtfjajpnfjjdnpaaGreatDoor
open Go.RowKit Num Nds Txt
theorem zsR {r s:List UInt8}(hl:r.length=s.length)(h:zah r=zah s):r=s:=by
 refine List.ext_getElem? fun i=>?_;by_cases hi:i<r.length
 ·by_cases ht:i<(zah r).length
  ·have e1:(zah r)[i]?=r[i]?:=by rw[zdH r,List.getElem?_take,if_pos ht]
   have e2:(zah s)[i]?=s[i]?:=by rw[zdH s,List.getElem?_take,if_pos (by rw[←h];exact ht)]
   rw[←e1,←e2,h]
  ·have e1:=zcT r i (by omega);have e2:=zcT s i (by rw[←h];omega);rw[List.getD_eq_getElem?_getD,List.getElem?_eq_getElem hi] at e1;rw[List.getD_eq_getElem?_getD,List.getElem?_eq_getElem (by omega)] at e2;rw[List.getElem?_eq_getElem hi,List.getElem?_eq_getElem (by omega)];exact congrArg some (show r[i]=s[i] from(show r[i]=0 from e1).trans (show s[i]=0 from e2).symm)
 ·rw[List.getElem?_eq_none (by omega),List.getElem?_eq_none (by omega)]
theorem zuL {b:Bool}{L M:List (List UInt8)}(F:Nat):∀f,f≤F→∀k j,j<k→gapT b L f k j++[[33]]=gapT b M f k j++[[33]]→∀i,k≤i→i<k+f→zah (tat L i)=zah (tat M i):=by
 induction F with
 | zero=>exact fun f hf k j hj h i h1 h2=>by omega
 | succ F ih =>
  intro f hf k j hj h i h1 h2;have h33:zee [33]=true:=rfl;rcases zcn (b:=b) (L:=L) f k j with⟨a1,a2⟩|⟨y,g,a1,a2,a3,a4,a5⟩
  ·rcases zcn (b:=b) (L:=M) f k j with⟨c1,c2⟩|⟨z,g2,c1,c2,c3,c4,c5⟩
   ·rw[a2 i h1 h2,c2 i h1 h2]
   ·rw[a1,c5] at h;have h3:[33]=tokR (z-j) [36]:=(List.cons.inj (show[33] :: []=tokR (z-j) [36] :: (zbe b (zah (tat M z))++gapT b M g2 (z+1) z++[[33]]) from h)).1;rw[zfy] at h3;have h4:=congrArg List.getLast? h3;rw[List.getLast?_append] at h4;cases h4
  ·rcases zcn (b:=b) (L:=M) f k j with⟨c1,c2⟩|⟨z,g2,c1,c2,c3,c4,c5⟩
   ·rw[c1,a5] at h;have h3:tokR (y-j) [36]=[33]:=(List.cons.inj (show tokR (y-j) [36] :: (zbe b (zah (tat L y))++gapT b L g (y+1) y++[[33]])=[33] :: [] from h)).1;rw[zfy] at h3;have h4:=congrArg List.getLast? h3;rw[List.getLast?_append] at h4;cases h4
   ·rw[a5,c5] at h;obtain⟨e1,e2⟩:=List.cons.inj (show tokR (y-j) [36] :: (zbe b (zah (tat L y))++gapT b L g (y+1) y++[[33]])=tokR (z-j) [36] :: (zbe b (zah (tat M z))++gapT b M g2 (z+1) z++[[33]]) from h);have e3:=(zjl zhk zhk e1).1;obtain rfl:y=z:=by omega
    obtain rfl:g=g2:=by omega
    rw[List.append_assoc,List.append_assoc] at e2;have key:zah (tat L y)=zah (tat M y)∧gapT b L g (y+1) y++[[33]]=gapT b M g (y+1) y++[[33]]:=by
     have m1:=zeQ (b:=b) _ (zah (tat L y)) (Nat.le_refl _);have m2:=zeQ (b:=b) _ (zah (tat M y)) (Nat.le_refl _);obtain⟨x,X,hx,hxm⟩:∃x X,gapT b L g (y+1) y++[[33]]=x :: X∧zee x=true:=by
      rcases zcn (b:=b) (L:=L) g (y+1) y with⟨u1,-⟩|⟨y2,g3,-,-,-,-,u5⟩
      ·exact⟨[33],[],by rw[u1];rfl,rfl⟩
      ·exact⟨_,_,by rw[u5];rfl,zef _⟩
     obtain⟨x',X',hx',hxm'⟩:∃x X,gapT b M g (y+1) y++[[33]]=x :: X∧zee x=true:=by
      rcases zcn (b:=b) (L:=M) g (y+1) y with⟨u1,-⟩|⟨y2,g3,-,-,-,-,u5⟩
      ·exact⟨[33],[],by rw[u1];rfl,rfl⟩
      ·exact⟨_,_,by rw[u5];rfl,zef _⟩
     rw[hx,hx'] at e2;obtain⟨q1,q2,q3⟩:=zfq m1 m2 hxm hxm' e2;exact⟨zlq _ (Nat.le_refl _) q1,by rw[hx,hx',q2,q3]⟩
    rcases Nat.lt_trichotomy i y with hi|hi|hi
    ·rw[a3 i h1 hi,c3 i h1 hi]
    ·rw[hi];exact key.1
    ·exact ih g (by omega) (y+1) y (by omega) key.2 i (by omega) (by omega)
theorem zuM {L:List (List UInt8)}(h:twoR L=true){k i:Nat}{v:UInt8}(hk:k<L.length)(hi:(tat L k)[i]?=some v):v.toNat≤1:=by
 unfold twoR at h;have h1:=List.all_eq_true.1 h _ (zgZ hk);have h2:=List.all_eq_true.1 h1 _ (List.mem_of_getElem? hi);exact of_decide_eq_true h2
theorem znY {L M:List (List UInt8)}{wide:Nat}(hl:L.length=M.length)(hL:∀i,i<L.length→(tat L i).length=wide)(hM:∀i,i<M.length→(tat M i).length=wide)
  (h0:0<L.length→zah (tat L 0)≠[]) (k0:0<M.length→zah (tat M 0)≠[]) (h:zas L=zas M):L=M:=by
 rcases Nat.eq_zero_or_pos L.length with hz|hz
 ·exact(List.length_eq_zero_iff.1 hz).trans (List.length_eq_zero_iff.1 (hl.symm.trans hz)).symm
 ·obtain⟨f,hf⟩:∃f,0+1+f=L.length:=⟨L.length-1,by omega⟩;have e1:=zhj (L:=L) (y:=0) (fun j hj=>by omega) (h0 hz) hf;have e2:=zhj (L:=M) (y:=0) (fun j hj=>by omega) (k0 (by omega)) (hf.trans hl);have hfst:∀{N:List (List UInt8)} {r:List UInt8},r≠[]→∃X,zbe (twoR N) r=tokR (runN r) (sgnR (twoR N) (r.headD 0).toNat) :: X:=fun {N r} hr=>⟨_,zaS _ hr⟩;have hone:∀{N:List (List UInt8)},0<N.length→zah (tat N 0)≠[]→twoR N=true→((zah (tat N 0)).headD 0).toNat≤1:=fun {N} hn hr ht=>by
   refine zuM ht (i:=0) hn ?_;have h1:=List.length_pos_iff.2 hr;have h3:(zah (tat N 0))[0]?=(tat N 0)[0]?:=by
    rw[zdH (tat N 0),List.getElem?_take,if_pos h1]
   rw[←h3];cases hq:zah (tat N 0) with
   | nil=>exact absurd hq hr
   | cons x l=>rfl
  have htw:twoR L=twoR M:=by
   obtain⟨X,hX⟩:=hfst (N:=L) (h0 hz);obtain⟨Y,hY⟩:=hfst (N:=M) (k0 (by omega));rw[e1,e2,hX,hY] at h;have e3:=(List.cons.inj (show _ :: (X++_++_)=_ :: (Y++_++_) from h)).1;have e4:=(zjl (zdr _ (zbK _)).1 (zdr _ (zbK _)).1 e3).2;cases hA:twoR L with
   | true =>
    cases hB:twoR M with
    | true=>rfl
    | false =>
     rw[hA,hB] at e4;exact absurd e4 (zqZ (hone hz (h0 hz) hA) (zbK _))
   | false =>
    cases hB:twoR M with
    | false=>rfl
    | true =>
     rw[hA,hB] at e4;exact absurd e4.symm (zqZ (hone (by omega) (k0 (by omega)) hB) (zbK _))
  rw[e1,e2,←htw,List.append_assoc,List.append_assoc] at h;have m1:=zeQ (b:=twoR L) _ (zah (tat L 0)) (Nat.le_refl _);have m2:=zeQ (b:=twoR L) _ (zah (tat M 0)) (Nat.le_refl _);have hmk:∀N:List (List UInt8),∃x X,gapT (twoR L) N f (0+1) 0++[[33]]=x :: X∧zee x=true:=fun N=>by
   rcases zcn (b:=twoR L) (L:=N) f (0+1) 0 with⟨u1,-⟩|⟨y2,g3,-,-,-,-,u5⟩
   ·exact⟨[33],[],by rw[u1];rfl,rfl⟩
   ·exact⟨_,_,by rw[u5];rfl,zef _⟩
  obtain⟨x,X,hx,hxm⟩:=hmk L;obtain⟨y,Y,hy,hym⟩:=hmk M;rw[hx,hy] at h;obtain⟨q1,q2,q3⟩:=zfq m1 m2 hxm hym h;have r0:=zlq _ (Nat.le_refl _) q1;have rest:=zuL (b:=twoR L) (L:=L) (M:=M) f f (Nat.le_refl _) (0+1) 0 (by omega) (by rw[hx,hy,q2,q3]);refine zsB hl fun i hi=>?_;refine zsR ((hL i hi).trans (hM i (by omega)).symm) ?_;rcases Nat.eq_zero_or_pos i with rfl|hp
  ·exact r0
  ·exact rest i (by omega) (by omega)
theorem zhm {c:UInt8}(h:Digs.isd c=false)(n:Nat):c∉Digs.digs n:=fun k=>by
 have:=Digs.digs_isd n c k;rw[h] at this;cases this
theorem zmV {n m:Nat}(e:Digs.digs n=Digs.digs m):n=m:=by rw[←Digs.num_digs n,e,Digs.num_digs]
theorem zrb {n:Nat}{s:List UInt8}(h:(10:UInt8)∉s):(10:UInt8)∉tokR n s:=fun k=>by
 rw[zfy] at k;rcases List.mem_append.1 k with k|k
 ·exact absurd (zge _ k) (by decide)
 ·exact h k
theorem zuN (b:Bool){v:Nat}(hv:v≤255):(10:UInt8)∉sgnR b v:=by
 have k2:∀b:Bool,∀i:Fin 256,(sgnR b i.1).contains 10=false:=by decide +kernel
 have k3:=k2 b ⟨v,by omega⟩;intro h;have h2:=List.contains_iff_mem.2 h;rw[k3] at h2;cases h2
theorem zlr (b:Bool):∀(m:Nat) (r:List UInt8),r.length≤m→∀t∈zbe b r,(10:UInt8)∉t
 | 0,r,h,t,ht=>by
  have e:r=[]:=List.eq_nil_of_length_eq_zero (by omega);rw[e] at ht;cases ht
 | m+1,r,h,t,ht=>by
  by_cases h0:r=[]
  ·rw[h0] at ht;cases ht
  ·have h1:=zbY h0;rw[zaS b h0] at ht;rcases List.mem_cons.1 ht with rfl|ht
   ·exact zrb (zuN b (zbK r))
   ·exact zlr b m _ (by rw[List.length_drop];omega) t ht
theorem zgf {b:Bool}{L:List (List UInt8)}:∀k,∀t∈(tokK b L k).1,(10:UInt8)∉t
 | 0,t,ht=>by cases ht
 | k+1,t,ht=>by
  by_cases h0:zah (tat L k)=[]
  ·rw[zbx h0] at ht;exact zgf k t ht
  ·cases hj:(tokK b L k).2 with
   | none =>
    rw[zbZ h0 hj] at ht;rcases List.mem_append.1 ht with ht|ht
    ·exact zgf k t ht
    ·exact zlr b _ _ (Nat.le_refl _) t ht
   | some j =>
    rw[zcl h0 hj] at ht;rcases List.mem_append.1 ht with ht|ht
    ·rcases List.mem_append.1 ht with ht|ht
     ·exact zgf k t ht
     ·rw[List.mem_singleton.1 ht];exact zrb (by decide)
    ·exact zlr b _ _ (Nat.le_refl _) t ht
theorem zfr (L:List (List UInt8)):∀t∈zas L,(10:UInt8)∉t:=fun t ht=>by
 unfold zas at ht;rcases List.mem_append.1 ht with ht|ht
 ·exact zgf _ t ht
 ·rw[List.mem_singleton.1 ht]
  decide
theorem zrc {rule:List UInt8}{X Y X' Y':Int}{L M:List (List UInt8)}(hL4:∀t∈zas L,t.length≤4)(hM4:∀t∈zas M,t.length≤4)(h:zcR rule X Y L=zcR rule X' Y' M) :
  X=X'∧Y=Y'∧zcp L=zcp M∧L.length=M.length∧zas L=zas M:=by
 unfold zcR at h;simp only[List.append_assoc,List.append_cancel_left_eq,List.singleton_append] at h;obtain⟨e1,h⟩:=zdK (zeN (by decide) (by decide) _) (zeN (by decide) (by decide) _) h;obtain⟨e2,h⟩:=zdK (zeN (by decide) (by decide) _) (zeN (by decide) (by decide) _) h;simp only[List.append_eq,List.append_assoc] at h;have h:=List.append_cancel_left h;obtain⟨e3,h⟩:=zdK (c:=44) (zhm (by decide) _) (zhm (by decide) _) (show Digs.digs (zcp L)++44 :: ([32,121,32,61,32]++_)=Digs.digs (zcp M)++44 :: ([32,121,32,61,32]++_) from h);have h:=List.append_cancel_left h;obtain⟨e4,h⟩:=zdK (c:=44) (zhm (by decide) _) (zhm (by decide) _) (show Digs.digs L.length++44 :: ([32,114,117,108,101,32,61,32]++_)=Digs.digs M.length++44 :: ([32,114,117,108,101,32,61,32]++_) from h);have h:=List.append_cancel_left h;have h:=List.append_cancel_left h;have h:=(List.cons.inj h).2;exact⟨zki e1,zki e2,zmV e3,zmV e4,zlp (znX hL4 (zfr L) hM4 (zfr M) h)⟩
def stL (p:Nat × Nat)(c:UInt8):Nat × Nat:=if c=10 then (p.1+1,0) else (p.1,p.2+1)
def zhn:Nat × Nat→List UInt8→Prop
 | p,[]=>p.2=0∧2<p.1
 | p,c :: r=>(1<(stL p c).1→(stL p c).2≤70)∧zhn (stL p c) r
theorem zeR:∀(r:List UInt8) (l n:Nat) (s:List UInt8),(10:UInt8)∉r→(1<l→n+r.length≤70)→zhn (l+1,0) s→zhn (l,n) (r++10 :: s)
 | [],l,n,s,_,_,h=>⟨fun _=>Nat.zero_le _,h⟩
 | c :: r,l,n,s,hc,hn,h=>by
  have h1:c≠10:=fun e=>hc (by rw[e];exact List.mem_cons_self);have e:stL (l,n) c=(l,n+1):=if_neg h1;refine⟨fun h2=>?_,?_⟩
  ·rw[e] at h2 ⊢;have:=hn h2;rw[List.length_cons] at this;show n+1≤70;omega
  ·rw[e];refine zeR r l (n+1) s (fun h2=>hc (List.mem_cons_of_mem _ h2)) (fun h2=>?_) h;have:=hn h2;rw[List.length_cons] at this;omega
theorem zii:∀(R:List (List UInt8)) (l:Nat),1<l→(R=[]→2<l)→(∀r∈R,r.length≤70∧(10:UInt8)∉r)→zhn (l,0) ((R.map fun r=>r++[10]).flatten)
 | [],l,_,h,_=>⟨rfl,h rfl⟩
 | r :: R,l,hl,h,hr=>by
  obtain⟨h1,h2⟩:=hr r List.mem_cons_self;rw[List.map_cons,List.flatten_cons,List.append_assoc];exact zeR r l 0 _ h2 (fun _=>by omega) (zii R (l+1) (by omega) (fun _=>by omega) fun x hx=>hr x (List.mem_cons_of_mem _ hx))
theorem zrd {X Y:Int}{L:List (List UInt8)}(h4:∀t∈zas L,t.length≤4):zhn (0,0) (zcR [97] X Y L):=by
 obtain⟨R,e,hne,hr,-⟩:=zed h4 (zfr L);have e2:zcR [97] X Y L=(zqH++zdM X++[44]++zdM Y)++10 :: ((zqI++Digs.digs (zcp L)++zqJ++Digs.digs L.length++zqK++[97])++10 :: (R.map fun r=>r++[10]).flatten):=by
  unfold zcR;rw[e];simp only[List.append_assoc,List.singleton_append,List.cons_append,List.nil_append]
 have hz:∀z:Int,(10:UInt8)∉zdM z:=fun z=>zeN (by decide) (by decide) z;have hd:∀n:Nat,(10:UInt8)∉Digs.digs n:=fun n=>zhm (by decide) n;have h1:(10:UInt8)∉zqH:=by decide
 have h2:(10:UInt8)∉zqI:=by decide
 have h3:(10:UInt8)∉zqJ:=by decide
 have h5:(10:UInt8)∉zqK:=by decide
 rw[e2];refine zeR _ 0 0 _ (fun h=>?_) (fun h=>by omega) (zeR _ 1 0 _ (fun h=>?_) (fun h=>by omega) (zii R 2 (by omega) (fun h=>absurd h hne) hr))
 ·simp only[List.mem_append,List.mem_singleton] at h;rcases h with((h|h)|h)|h
  ·exact h1 h
  ·exact hz _ h
  ·exact absurd h (by decide)
  ·exact hz _ h
 ·simp only[List.mem_append,List.mem_singleton] at h;rcases h with((((h|h)|h)|h)|h)|h
  ·exact h2 h
  ·exact hd _ h
  ·exact h3 h
  ·exact hd _ h
  ·exact h5 h
  ·exact absurd h (by decide)
theorem zre {q:List Nd}{n:Nat}{box X Y:Int}{L:List (List UInt8)}(hg:zaq q)(hn:q.length=n)(g:GoI q n box 0 X Y L):0<L.length→zah (tat L 0)≠[]:=by
 subst hn;rcases g with⟨-,h0,-⟩|⟨-,ok,X',Y',V,H,b,h1⟩
 ·omega
 ·obtain⟨hb,h2,h3⟩:=b.boxp hg;rcases h1 with⟨-,h0,-⟩|⟨-,-,rfl,rfl,rfl⟩
  ·omega
  ·intro hpos htr;rw[zdp] at hpos;rcases hb with⟨-,-,-,-,h0⟩|⟨hw,hh,k,a,hk⟩
   ·omega
   ·obtain⟨-,-,⟨x,y,hc,hy⟩,-⟩:=a.touch hk;have b1:=a.cell hk hc;obtain⟨i,hi⟩:∃i:Nat,x=X+(i:Int):=⟨(x-X).toNat,by omega⟩;have hi2:i<V.toNat:=by omega
    rw[zkb _ hpos] at htr;have e1:=zcT _ i (show(zah (strM (picM (den q q.length) X Y) 0 V.toNat)).length≤i by rw[htr];exact Nat.zero_le _);have e2:=zhY (fun r c=>zjb hg.1 X Y r c) (wide:=V.toNat) (high:=H.toNat) (k:=0) (i:=i) hpos hi2;rw[zqg (zja _ hpos) (ziZ _ hi2)] at e2;rw[List.getD_eq_getElem?_getD,ziZ _ hi2] at e1;have e3:UInt8.ofNat (picM (den q q.length) X Y ((0:Nat):Int) i).toNat=0:=e1;rw[e3] at e2;apply hc;have e4:picM (den q q.length) X Y ((0:Nat):Int) i=zaz (den q q.length) x y:=by
     unfold picM;rw[hi,hy,show Y+((0:Nat):Int)=Y by omega]
    rw[←e4,←e2];rfl
structure RnQ (l:List Cl)(q:List Nd)(n:Nat)(X Y:Int)(L:List (List UInt8)):Prop where
 hq:zaX (zaP l) q
 hn:q.length=n
 gi:GoI q n 60 0 X Y L
section
variable {l l':List Cl} {q q':List Nd} {n n':Nat} {X Y X' Y' er:Int} {L L':List (List UInt8)}
theorem zls (g:GoI q n 60 0 X Y L):(∀r∈L,r.length≤99)∧L.length≤99:=by
 rcases g with⟨-,h0,-⟩|⟨-,ok,X',Y',V,H,b,h1⟩
 ·omega
 ·rcases h1 with⟨-,h0,-⟩|⟨h2,-,-,-,rfl⟩
  ·omega
  ·rw[zdp];refine⟨fun r hr=>?_,by omega⟩;obtain⟨j,-,rfl⟩:=List.mem_map.1 hr;rw[zcA];omega
theorem RnQ.few (k:RnQ l q n X Y L):(∀r∈L,r.length≤99)∧L.length≤99:=zls k.gi
theorem RnQ.four (k:RnQ l q n X Y L):∀t∈zas L,t.length≤4:=zcS k.few.1 k.few.2
theorem RnQ.text (k:RnQ l q n X Y L)(k':RnQ l' q' n' X' Y' L')(s:List UInt8):zcR s X Y L=zcR s X' Y' L'↔q=q':=by
 constructor
 ·intro e;obtain⟨rfl,rfl,hw,hl,ht⟩:=zrc k.four k'.four e;have g1:=zha k.hq.good k.hn k.gi;have g2:=zha k'.hq.good k'.hn k'.gi;have hL:L=L':=znY (wide:=zcp L) hl (fun i hi=>g1.2.1 _ (zgZ hi)) (fun i hi=>(g2.2.1 _ (zgZ hi)).trans hw.symm) (zre k.hq.good k.hn k.gi) (zre k'.hq.good k'.hn k'.gi) ht;subst hL;have ec:zcy q=zcy q':=g1.1.symm.trans g2.1;have e1:zcy q=zaP l:=k.hq.cells (zdm l) fun c hc=>((zbC l).2.2 c hc).1;have e2:zcy q'=zaP l':=k'.hq.cells (zdm l') fun c hc=>((zbC l').2.2 c hc).1;exact zhN k.hq k'.hq fun x y=>by rw[←e1,←e2,ec]
 ·rintro rfl;have h1:=k.gi;have h2:=k'.gi;rw[←k.hn] at h1;rw[←k'.hn] at h2;obtain⟨-,rfl,rfl,rfl⟩:=h1.one h2;rfl
theorem zty (hq:zaX (zaP l) q)(hn:q.length=n)(hE:ExpP 4 q n 60):∃X Y L,RnQ l q n X Y L:=by
 subst hn;rcases hE with h0|⟨⟨X,Y,V,H,ok,b,h1,h2⟩,-⟩
 ·omega
 ·exact⟨X,Y,zcP (picM (den q q.length) X Y) V.toNat H.toNat,hq,rfl,.inr ⟨by omega,ok,X,Y,V,H,b,.inr ⟨⟨h1,h2⟩,rfl,rfl,rfl,rfl⟩⟩⟩
theorem RnQ.fc (k:RnQ l q n X Y L)(hE:ExpP 4 q n 60){T:List UInt8}(g:FcI zaC q n 60 0 er T):er=0∧T=zcR [97] X Y L:=by
 refine g.one ⟨X,Y,L,.inr ⟨rfl,⟨fun h=>?_,fun _=>.inl ⟨rfl,hE⟩⟩,k.gi⟩,.inr ⟨rfl,rfl⟩⟩;rw[show mayP zaC q=true from by unfold mayP;rw[k.hq.quad,show zcH zaC.data.toList=true by kernel_rfl];rfl,show zeb 60 0=true from rfl,Bool.and_true,Bool.and_true] at h;cases h
theorem zkk {z:Int}(m:Nat)(h : -p2 m≤z∧z≤p2 m):(zdM z).length≤m+2:=by
 have h2:(p2 m:Int)=((2^m:Nat):Int):=by unfold p2;rw[Int.natCast_pow];rfl
 have h3:z.natAbs<10^(m+1):=by
  have h4:(2:Nat)^m≤10^m:=Nat.pow_le_pow_left (by omega) m;have h5:(10:Nat)^(m+1)=10^m*10:=Nat.pow_succ 10 m;have h6:0<(10:Nat)^m:=Nat.pow_pos (by omega);omega
 have h7:=Digs.digs_length_le h3 (by omega);unfold zdM Digs.text;split
 ·rw[List.length_cons];omega
 ·omega
theorem RnQ.size (k:RnQ l q n X Y L):(zcR [97] X Y L).length≤700000:=by
 have g:=zha k.hq.good k.hn k.gi;have hX:=zkk (z:=X) 1328 (by omega);have hY:=zkk (z:=Y) 1328 (by omega);have hl:=k.few.2;have hw:zcp L≤99:=by
  rcases Nat.eq_zero_or_pos L.length with h0|h0
  ·rw[List.length_eq_zero_iff.1 h0,zqs];omega
  ·rw[←g.2.1 _ (zgZ h0)];exact k.few.1 _ (zgZ h0)
 have h1:=zdI (n:=zcp L) (by omega);have h2:=zdI (n:=L.length) (by omega);have h3:=zqQ k.four (by have:=zfo k.few.1 k.few.2;omega);have e1:zqH.length≤100:=by decide
 have e2:zqI.length≤100:=by decide
 have e3:zqJ.length≤100:=by decide
 have e4:zqK.length≤100:=by decide
 unfold zcR;simp only[List.length_append,List.length_cons,List.length_nil];omega
theorem RnQ.good (k:RnQ l q n X Y L):zhn (0,0) (zcR [97] X Y L):=zrd k.four
end
theorem zuO (l k:Nat):stL (l,k) 10=(l+1,0):=if_pos rfl
theorem zvT {c:UInt8}(h:c≠10)(l k:Nat):stL (l,k) c=(l,k+1):=if_neg h
theorem zuP {p:Nat × Nat}{T:List UInt8}{i:Nat}{c:UInt8}(h:zhn p (T.drop i))(hc:T[i]?=some c):(1<(stL p c).1→(stL p c).2≤70)∧zhn (stL p c) (T.drop (i+1)):=by
 have hi:i<T.length:=(List.getElem?_eq_some_iff.1 hc).1;have e:T.drop i=c :: T.drop (i+1):=by
  rw[List.drop_eq_getElem_cons hi];rw[List.getElem?_eq_getElem hi] at hc;rw[Option.some.inj hc]
 rw[e] at h;exact h
theorem zsS {p:Nat × Nat}{T:List UInt8}(h:zhn p (T.drop T.length)):p.2=0∧2<p.1:=by
 rw[List.drop_length] at h;exact h
theorem zsT (A0 B0:Option Addr)(k0 j0 n0 m0_:Nat)(l k:List Cv)(mo:Bool)(w:World)(h:Cs w A0 k0 l)(hn:l.length=n0)(h2:Cs w B0 j0 k)(hm:k.length=m0_) :
  Calls Tryz.prog 7 #[.slice A0 n0 k0,.slice B0 m0_ j0,.bool mo] w fun e w'=>e=.returned (.bool true)∧Below w.heap.size w w':=by
 have hcap:=h.cap;rw[hn] at hcap;have hcap2:=h2.cap;rw[hm] at hcap2;have HC:=Hh h;have HD:=Hh h2;have HL:=Hh hn;have HK:=Hh hm;have q0:True:=trivial;clear h hn h2 hm;go_enter Tryz.func7,Tryz.ntmps7;rw[show(⟨#[97]⟩:ByteArray)=zaC from rfl];go_upto_region 6 with(first
  | (have _t:=q0;go_at_call 29;clear _t;go_loud (refine(zln _).mono ?_;rintro e w1 ⟨rfl,b_⟩;have SS:=Hh ((Sx.start w).next b_);have HC:=Hh (HC.out.below b_);have HD:=Hh (HD.out.below b_);clear b_;have q1:=q0;clear q0))
  | (have _t:=q1;go_at_call 13;clear _t;go_loud (refine(zjd A0 k0 n0 60 zaC l _ (by decide) (HC.out.below ((Below.refl w1.heap.size w1).alloc (Nat.le_refl _) (.cells #[.int .i64 60,.int .i64 0] 24))) HL.out (by omega)).mono ?_;rintro e w2 ⟨A,c,n,q,ok,rfl,l5,n5,-,b5,hok,hq0,hq1⟩;rw[show zcH zaC.data.toList=true by kernel_rfl,Bool.and_true];have HQ:=Hh (zmG (by omega) l5 hok hq0 hq1);have hcn:=n5.cap;rw[l5] at hcn;have HN:=Hh l5;have HQ1:=Hh hq1;have hal:=(Below.refl w1.heap.size w1).alloc (Nat.le_refl _) (.cells #[.int .i64 60,.int .i64 0] 24);have HD:=Hh (HD.out.below (hal.trans (b5.mono hal.size)));have SS:=Hh ((((SS.out.box (.cells #[.int .i64 60,.int .i64 0] 24)).next b5).addQ n5).box (.cells #[.string zaC,.slice A n c] 30));clear l5 n5 b5 hq0 hq1 hok hal;have q2:=q1;clear q1))
  | (have _t:=q2;go_at_call 13;clear _t;go_loud (refine(zjd B0 j0 m0_ 60 zaC k _ (by decide) (HD.out.below ((Below.refl w2.heap.size w2).alloc (Nat.le_refl _) (.cells #[.string zaC,.slice A n c] 30))) HK.out (by omega)).mono ?_;rintro e w3 ⟨B,d,m,p,ok2,rfl,l5,n5,-,b5,hok,hq0,hq1⟩;rw[show zcH zaC.data.toList=true by kernel_rfl,Bool.and_true];have HP:=Hh (zmG (by omega) l5 hok hq0 hq1);have hcm:=n5.cap;rw[l5] at hcm;have HM:=Hh l5;have HP1:=Hh hq1;have SS:=Hh (((SS.out.next b5).addQ n5).box (.cells #[.string zaC,.slice B m d] 30));obtain⟨m0,m1⟩:=zaZ (SS.out.bx 0 _ _ rfl);obtain⟨c0,c1⟩:=zak (SS.out.bx 1 _ _ rfl);obtain⟨d0,d1⟩:=zak (SS.out.bx 2 _ _ rfl);clear l5 n5 b5 hq0 hq1 hok;have q3:=q2;clear q2)))
 cases ok with
 | false =>
  go_wp2_with fail;go_ret;exact⟨rfl,SS.out.b⟩
 | true =>
  cases ok2 with
  | false =>
   go_wp2_with fail;go_ret;exact⟨rfl,SS.out.b⟩
  | true =>
   have HQL:=Hh (HQ1.out rfl);have HPL:=Hh (HP1.out rfl);have HG:=Hh HQL.out.good;have HH:=Hh HPL.out.good;by_cases hE1:ExpP 4 q n 60
   ·have HE1:=Hh hE1;clear hE1;by_cases hE2:ExpP 4 p m 60
    ·have HE2:=Hh hE2;clear hE2;obtain⟨X,Y,L,fq⟩:=zty HQL.out HN.out HE1.out;obtain⟨X',Y',L',fp⟩:=zty HPL.out HM.out HE2.out;have FQ:=Hh fq;have FP:=Hh fp;clear fq fp;go_wp2_with (first
      | (have _t:=q3;go_at_call 22;clear _t;go_loud (refine(zbN A c n zaC q 4 60 0 _ (SS.out.qs 0 _ _ _ rfl) HN.out HQ.out.1 HG.out (by omega) (by omega)).mono ?_;rintro e w4 ⟨b,rfl,hb,-,b_⟩;obtain rfl:b=true:=hb.2 HE1.out;clear hb;have SS:=Hh (SS.out.next b_);clear c0 c1 d0 d1 m0 m1 b_;obtain⟨m0,m1⟩:=zaZ (SS.out.bx 0 _ _ rfl);obtain⟨c0,c1⟩:=zak (SS.out.bx 1 _ _ rfl);obtain⟨d0,d1⟩:=zak (SS.out.bx 2 _ _ rfl);have q4:=q3;clear q3))
      | (have _t:=q4;go_at_call 22;clear _t;go_loud (refine(zbN B d m zaC p 4 60 0 _ (SS.out.qs 1 _ _ _ rfl) HM.out HP.out.1 HH.out (by omega) (by omega)).mono ?_;rintro e w5 ⟨b,rfl,hb,-,b_⟩;obtain rfl:b=true:=hb.2 HE2.out;clear hb;have SS:=Hh (SS.out.next b_);clear c0 c1 d0 d1 m0 m1 b_;obtain⟨m0,m1⟩:=zaZ (SS.out.bx 0 _ _ rfl);obtain⟨c0,c1⟩:=zak (SS.out.bx 1 _ _ rfl);obtain⟨d0,d1⟩:=zak (SS.out.bx 2 _ _ rfl);have q5:=q4;clear q4))
      | (have _t:=q5;go_at_call 30;clear _t;go_loud (refine(zdJ A c n zaC q 60 0 _ (by decide) (SS.out.qs 0 _ _ _ rfl) HN.out HQ.out.1 (by omega) (fun X Y L _ g=>zls g)).mono ?_;rintro e x5 ⟨e5,T5,rfl,h_,b_⟩;obtain⟨rfl,g_⟩:=FQ.out.fc HE1.out h_;obtain⟨ta,hta⟩:∃t:ByteArray,t=⟨T5.toArray⟩:=⟨_,rfl⟩;rw[←hta];have Hta:=Hh (hta.trans (congrArg (fun T=>(⟨List.toArray T⟩:ByteArray)) g_));clear h_ g_ hta;have SS:=Hh (SS.out.next b_);clear c0 c1 d0 d1 m0 m1 b_;obtain⟨m0,m1⟩:=zaZ (SS.out.bx 0 _ _ rfl);obtain⟨c0,c1⟩:=zak (SS.out.bx 1 _ _ rfl);obtain⟨d0,d1⟩:=zak (SS.out.bx 2 _ _ rfl);have q6:=q5;clear q5))
      | (have _t:=q6;go_at_call 30;clear _t;go_loud (refine(zdJ B d m zaC p 60 0 _ (by decide) (SS.out.qs 1 _ _ _ rfl) HM.out HP.out.1 (by omega) (fun X Y L _ g=>zls g)).mono ?_;rintro e x6 ⟨e6,T6,rfl,h_,b_⟩;obtain⟨rfl,g_⟩:=FP.out.fc HE2.out h_;obtain⟨tb,htb⟩:∃t:ByteArray,t=⟨T6.toArray⟩:=⟨_,rfl⟩;rw[←htb];have Htb:=Hh (htb.trans (congrArg (fun T=>(⟨List.toArray T⟩:ByteArray)) g_));clear h_ g_ htb;have SS:=Hh (SS.out.next b_);clear c0 c1 d0 d1 m0 m1 b_;obtain⟨m0,m1⟩:=zaZ (SS.out.bx 0 _ _ rfl);obtain⟨c0,c1⟩:=zak (SS.out.bx 1 _ _ rfl);obtain⟨d0,d1⟩:=zak (SS.out.bx 2 _ _ rfl);have q7:=q6;clear q6))
      | (have _t:=q7;go_at_call 24;clear _t;go_loud (refine(znM A B c d n m zaC zaC q p _ (SS.out.qs 0 _ _ _ rfl) (SS.out.qs 1 _ _ _ rfl) HN.out HM.out).mono ?_;rintro e x13 ⟨rfl,b_⟩;rw[show(decide (zaC=zaC)&&decide (q=p))=decide (q=p) by(rw[decide_eq_true (rfl:zaC=zaC)];rfl)];have SS:=Hh (SS.out.next b_);clear c0 c1 d0 d1 m0 m1 b_;obtain⟨m0,m1⟩:=zaZ (SS.out.bx 0 _ _ rfl);obtain⟨c0,c1⟩:=zak (SS.out.bx 1 _ _ rfl);obtain⟨d0,d1⟩:=zak (SS.out.bx 2 _ _ rfl);obtain⟨R,hR⟩:∃R,R=decide (q=p):=⟨_,rfl⟩;rw[←hR];have y1:(ta.toList==tb.toList)=R:=(by rw[Hta.out,Htb.out,hR,zvL];exact decide_eq_decide.2 (FQ.out.text FP.out _));have y4:(R != R)=false:=(by cases R <;> rfl);clear hR;have q8:=q7;clear q7)))
     obtain⟨T,hT⟩:∃T,T=zcR [97] X Y L:=⟨_,rfl⟩;have htd:ta.data.toList=T:=by rw[Hta.out,hT]
     have hgood:zhn (0,0) T:=by rw[hT];exact FQ.out.good
     have hTs:ta.size≤700000:=by rw[←zaU,htd,hT];exact FQ.out.size
     have hTl:T.length=ta.size:=by rw[←htd,zaU]
     have HTD:=Hh htd;have HTL:=Hh hTl;have HGO:=Hh hgood;clear hT htd hgood hTl y1 y4 c0 c1 d0 d1 m0 m1 q8 FQ FP Hta Htb HQ HP HN HM HQL HPL HG HH HE1 HE2 HQ1 HP1 HC HD HL HK hcap hcap2 hcn hcm;go_loopw [18,17,16] (fun z1 z2 z3 wr=>∃(i l k:Nat),z1=.int .i64 i∧z2=.int .i64 l∧z3=.int .i64 k∧i≤ta.size∧l≤i∧k≤i∧zhn (l,k) (T.drop i)∧Below w.heap.size w wr) (fun z1 _ _ _=>ta.size-(intOf z1).toNat)
     case atStart=>exact⟨0,0,0,rfl,rfl,rfl,Nat.zero_le _,Nat.zero_le _,Nat.zero_le _,HGO.out,SS.out.b⟩
     case round =>
      obtain⟨i,l,k,rfl,rfl,rfl,hi,hl,hk,hg,hb⟩:=hrel;have HB:=Hh hb;have HGD:=Hh hg;clear hb hg SS;by_cases hlt:i<ta.size
      ·obtain⟨v,hv⟩:∃v:Nat,v=(ta[i]'hlt).toNat:=⟨_,rfl⟩;have hvb:(ta[i]'hlt).toNat=v:=hv.symm;have hat:T[i]?=some (ta[i]'hlt):=by rw[←HTD.out];exact zeg hlt
       have hgd:=zuP HGD.out hat;have j1:decide ((i:Int)<(ta.size:Int))=true:=decide_eq_true (by omega);have x0:(0:Int)≤(i:Int):=by omega
       have x1:(i:Int)<(ta.size:Int):=by omega
       have w1_:IntKind.i64.wrap ((i:Int)+1)=(i:Int)+1:=IntWalk.i64_in _ (by omega);have w2_:IntKind.i64.wrap ((l:Int)+1)=(l:Int)+1:=IntWalk.i64_in _ (by omega);have w3_:IntKind.i64.wrap ((k:Int)+1)=(k:Int)+1:=IntWalk.i64_in _ (by omega);have HLT:=Hh hlt;have HHI:=Hh (And.intro hl hk);by_cases h10:v=10
       ·have hc:ta[i]'hlt=10:=UInt8.toNat_inj.1 (by rw[←hv,h10];rfl);rw[hc,zuO] at hgd;have HGD2:=Hh hgd.2;have t1:((v:Int)==10)=true:=by rw[h10];rfl
        obtain⟨b,hb⟩:∃b,b=decide ((l:Int)+1>1):=⟨_,rfl⟩;have t2:=hb.symm;clear hv hat hgd hb hl hk hc h10 HGD;cases b
        all_goals (
         go_wp2_with fail;go_roundw
         case rel=>exact⟨i+1,l+1,0,by go_num,by go_num,rfl,HLT.out,by have:=HHI.out.1;omega,Nat.zero_le _,HGD2.out,HB.out⟩
         case measure=>have:=HLT.out;simp[intOf];omega)
       ·have hc:ta[i]'hlt≠10:=fun e=>h10 (by rw[hv,e];rfl);rw[zvT hc] at hgd;have HGD2:=Hh hgd.2;have t1:((v:Int)==10)=false:=beq_eq_false_iff_ne.2 (by omega);by_cases hl1:1<l
        ·have t2:decide ((l:Int)>1)=true:=decide_eq_true (by omega);have h70:k+1≤70:=hgd.1 hl1;have t3:decide ((k:Int)+1>70)=false:=decide_eq_false (by omega);clear hv hat hgd hl hk hc h10 HGD;go_wp2_with fail;go_roundw
         case rel=>exact⟨i+1,l,k+1,by go_num,rfl,by go_num,HLT.out,by have:=HHI.out.1;omega,by have:=HHI.out.2;omega,HGD2.out,HB.out⟩
         case measure=>have:=HLT.out;simp[intOf];omega
        ·have t2:decide ((l:Int)>1)=false:=decide_eq_false (by omega);clear hv hat hgd hl hk hc h10 HGD;go_wp2_with fail;go_roundw
         case rel=>exact⟨i+1,l,k+1,by go_num,rfl,by go_num,HLT.out,by have:=HHI.out.1;omega,by have:=HHI.out.2;omega,HGD2.out,HB.out⟩
         case measure=>have:=HLT.out;simp[intOf];omega
      ·have e:i=T.length:=by rw[HTL.out];omega
       obtain⟨e1,e2⟩:=zsS (by rw[←e];exact HGD.out);have t9:decide ((i:Int)<(ta.size:Int))=false:=decide_eq_false (by omega);have e1':k=0:=e1;have e2':2<l:=e2;have t2:((k:Int)==0)=true:=by rw[e1'];rfl
       have t3:decide ((l:Int)>2)=true:=decide_eq_true (by omega);have t10:decide (i<ta.size)=false:=decide_eq_false hlt;have t11:(i<ta.size)=False:=eq_false hlt;clear e e1 e2 HGD hlt e1' e2' hl hk hi;go_wp2_with fail;go_ret;exact⟨rfl,HB.out⟩
    ·have HE2:=Hh hE2;clear hE2;go_wp2_with (first
      | (have _t:=q3;go_at_call 22;clear _t;go_loud (refine(zbN A c n zaC q 4 60 0 _ (SS.out.qs 0 _ _ _ rfl) HN.out HQ.out.1 HG.out (by omega) (by omega)).mono ?_;rintro e w4 ⟨b,rfl,hb,-,b_⟩;obtain rfl:b=true:=hb.2 HE1.out;clear hb;have SS:=Hh (SS.out.next b_);clear c0 c1 d0 d1 m0 m1 b_;obtain⟨m0,m1⟩:=zaZ (SS.out.bx 0 _ _ rfl);obtain⟨c0,c1⟩:=zak (SS.out.bx 1 _ _ rfl);obtain⟨d0,d1⟩:=zak (SS.out.bx 2 _ _ rfl);have q4:=q3;clear q3))
      | (have _t:=q4;go_at_call 22;clear _t;go_loud (refine(zbN B d m zaC p 4 60 0 _ (SS.out.qs 1 _ _ _ rfl) HM.out HP.out.1 HH.out (by omega) (by omega)).mono ?_;rintro e w5 ⟨b,rfl,hb,-,b_⟩;obtain rfl:b=false:=Bool.eq_false_iff.2 (fun h=>HE2.out (hb.1 h));clear hb;have SS:=Hh (SS.out.next b_);clear c0 c1 d0 d1 m0 m1 b_;obtain⟨m0,m1⟩:=zaZ (SS.out.bx 0 _ _ rfl);obtain⟨c0,c1⟩:=zak (SS.out.bx 1 _ _ rfl);obtain⟨d0,d1⟩:=zak (SS.out.bx 2 _ _ rfl);have q5:=q4;clear q4)))
     go_ret;exact⟨rfl,SS.out.b⟩
   ·have HE1:=Hh hE1;clear hE1;go_wp2_with (first
     | (have _t:=q3;go_at_call 22;clear _t;go_loud (refine(zbN A c n zaC q 4 60 0 _ (SS.out.qs 0 _ _ _ rfl) HN.out HQ.out.1 HG.out (by omega) (by omega)).mono ?_;rintro e w4 ⟨b,rfl,hb,-,b_⟩;obtain rfl:b=false:=Bool.eq_false_iff.2 (fun h=>HE1.out (hb.1 h));clear hb;have SS:=Hh (SS.out.next b_);clear c0 c1 d0 d1 m0 m1 b_;obtain⟨m0,m1⟩:=zaZ (SS.out.bx 0 _ _ rfl);obtain⟨c0,c1⟩:=zak (SS.out.bx 1 _ _ rfl);obtain⟨d0,d1⟩:=zak (SS.out.bx 2 _ _ rfl);have q4:=q3;clear q3)))
    go_ret;exact⟨rfl,SS.out.b⟩
theorem zsU (A0 B0:Option Addr)(k0 j0:Nat)(l k:List Cv)(mo:Bool)(w:World)(h:Cs w A0 k0 l)(h2:Cs w B0 j0 k) :
  Calls Tryz.prog 7 #[.slice A0 l.length k0,.slice B0 k.length j0,.bool mo] w fun e w'=>e=.returned (.bool true)∧Below w.heap.size w w':=zsT A0 B0 k0 j0 _ _ l k mo w h rfl h2 rfl
end Go.Proofs.YtfjajpnfjjdnpaaGreatDoor
