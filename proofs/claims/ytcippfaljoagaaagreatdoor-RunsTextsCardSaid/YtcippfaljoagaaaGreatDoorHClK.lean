import Derived.Test.YtcippfaljoagaaaGreatDoorHNcRS

set_option linter.unusedVariables false
set_option linter.unusedSimpArgs false
set_option maxRecDepth 100000
set_option maxHeartbeats 6400000
namespace Go.Proofs.YtcippfaljoagaaaGreatDoor
open Go.RowKit Nds
def Dn (l out:List Nd)(ds:List Nat):Prop:=∀i,i≤l.length→0<ds.getD i 0→NumT out (den l i) ((ds.getD i 0:Nat):Int)
theorem Dn.pre {l out m:List Nd}{ds:List Nat}(h:Dn l out ds)(hp:out <+: m):Dn l m ds:=fun i hi h0=>zoB hp (h i hi h0)
theorem Dn.set {l out:List Nd}{ds:List Nat}(h:Dn l out ds){j u:Nat}(hu:NumT out (den l j) (u:Int)):Dn l out (ds.set j u):=by
 intro i hi h0;by_cases e:i=j
 ·subst e;by_cases hl:i<ds.length
  ·rw[List.getD_eq_getElem?_getD,List.getElem?_set_self hl];exact hu
  ·rw[List.set_eq_of_length_le (by omega)] at h0 ⊢;exact h i hi h0
 ·rw[List.getD_eq_getElem?_getD,List.getElem?_set_ne (fun e2=>e e2.symm),←List.getD_eq_getElem?_getD] at h0 ⊢;exact h i hi h0
def RetV (l:List Nd)(j:Nat)(out:List Nd)(base g n:Nat)(v:Value)(w:World)(e:Ending)(w':World):Prop :=
 ∃v' ds',e=.returned (.tuple #[v',.slice (some ⟨g,0,none⟩) (n+1) (n+1),.int .i64 (enc (den l j) out).2])∧OwnN w' base v' (enc (den l j) out).1∧OwnD w' base g (n+1) ds'∧Dn l (enc (den l j) out).1 ds' ∧
  v'.ownBlock≠some g∧(∀k,v'.ownBlock=some k→v.ownBlock=some k∨w.heap.size≤k)∧Ky (fun k=>k=g∨v.ownBlock=some k) w w'
theorem Ky.ns {P:Nat→Prop}{w w':World}(h:Ky P w w'){A:Option Addr}{c:Nat}{l:List Nd}(hn:Ns w A c l)(hp:∀a,A=some a→¬ P a.block):Ns w' A c l :=
 ⟨hn.1,hn.2.1,hn.2.2.1,fun h0=>by
  obtain⟨b,off,e,hlt,hc⟩:=hn.2.2.2 h0;exact⟨b,off,e,Nat.lt_of_lt_of_le hlt h.size,fun i hi=>(hc i hi).below (h.block b hlt (hp _ e))⟩⟩
theorem Ky.cell {P:Nat→Prop}{w w':World}(h:Ky P w w'){a:Addr}{u:Value}(hc:w.cell? a=some u)(hp:¬ P a.block):w'.cell? a=some u :=
 (World.cell?_of_block (w:=w) (h.block a.block (World.block_lt_of_cell? w a hc) hp)).trans hc
theorem zuW {l:List Nd}(h:zac l=true){p:Nat}(hp:p<l.length){out:List Nd}(hi:InvT l out)(hl9:l.length≤1000000):(topN (kT l (at_ l p)) out (at_ l p).lv).wf:=by
 have hv:=zap (zaf h hp);have key:∀i,i<4→in64 (numK (kT l (at_ l p)) out i):=by
  intro i hi4;have h1:=zfV h hp hi i (by omega);have h2:=zfV h hp hi (i+1) (by omega);have hs:=zbA _ _ _ (ztA h hp hi4) h1.1;have:=(zoD (out:=outK (kT l (at_ l p)) out (i+1)) h2.1.1 hv.1 (ztA h hp hi4) hs.num).1;exact zeH this (by have:=h2.len;omega)
 exact⟨⟨by show _≤(at_ l p).lv;omega,by show(at_ l p).lv≤_;omega⟩,key 0 (by omega),key 1 (by omega),key 2 (by omega),key 3 (by omega)⟩
theorem zro {out:List Nd}{x:Nd}(h:fnd out x=0):add out x=(out++[x],out.length+1):=by
 unfold add;rw[if_pos h]
theorem zrp {out:List Nd}{x:Nd}{k:Nat}(h:fnd out x=k+1):add out x=(out,k+1):=by
 unfold add;rw[if_neg (by omega),h]
theorem zvU {l:List Nd}{x:Nd}(hx:fitB l x=true)(h1:x.lv≠1){i:Nat}(hi:i<4):∃r:Nat,r≤l.length∧kT l x i=den l r∧x.kid i=(r:Int):=by
 unfold kT;rw[zaF h1];rcases zaA h1 (zak hx hi) with e|⟨q,e,hq,_⟩
 ·exact⟨0,Nat.zero_le _,by rw[e];rfl,by rw[e];rfl⟩
 ·exact⟨q+1,by omega,by rw[e,show((q:Int)+1).toNat=q+1 by omega],by omega⟩
theorem ziz {l out o4 o5:List Nd}{y:Nd}{p k base g n:Nat}{v v6:Value}{w w6:World}{ds1:List Nat}{u:Int}(hspec:EncT u (den l (p+1)) out (enc (den l (p+1)) out))(hv2:enc (den l (p+1)) out=((add o4 y).1,((add o4 y).2:Int)))(had:add o4 y=(o5,k))(hpre:o4 <+: o5)
  (h1:OwnN w6 base v6 o5) (h2:OwnD w6 base g (n+1) ds1) (h3:Dn l o4 ds1) (h4:v6.ownBlock≠some g) (h5:∀k,v6.ownBlock=some k→v.ownBlock=some k∨w.heap.size≤k) (h6:Ky (fun k=>k=g∨v.ownBlock=some k) w w6) :
  RetV l (p+1) out base g n v w (.returned (.tuple #[v6,.slice (some ⟨g,0,none⟩) (n+1) (n+1),.int .i64 (k:Int)])) (w6.setCell ⟨g,p+1,none⟩ (.int .i64 (k:Int))):=by
 have hn:=hspec.num;rw[hv2,had] at hn;unfold RetV;rw[hv2,had];exact⟨v6,ds1.set (p+1) k,rfl,h1.gbr (zbJ _ _ _) (.inr h4),h2.set _ _,(h3.pre hpre).set hn,h4,h5,h6.set _ (fun _=>.inl rfl) _⟩
theorem zrq (x:Nd)(q:Nat):mix x x q=x:=by
 unfold mix;simp only[ite_self]
theorem zvV {P:Nat→Prop}{w w':World}(h:Ky P w w')(n:Nat):Ky P w (w'.drewN n):=⟨h.os,h.tape,h.output,h.size,h.block⟩
theorem zlZ (A:Option Addr)(c n E base g:Nat)(l:List Nd)(hl:zac l=true)(hn:l.length=n)(hn9:n≤990000)(j:Nat)(out:List Nd)(ds:List Nat)(v:Value)(w:World)(hj:j≤n)(he:(den l j).isE=true)(hcap:n≤c∧c≤9223372036854775807)
  (hdn:Dn l out ds) (hcs:∀i,i≤n→w.cell? ⟨E,i,none⟩=some (.bool (empB l i))) (how:OwnN w base v out) (hod:OwnD w base g (n+1) ds) (hvg:v.ownBlock≠some g) :
  Calls Tryz.prog 153 #[.slice A n c,.slice (some ⟨E,0,none⟩) (n+1) (n+1),.int .i64 (j:Int),v,.slice (some ⟨g,0,none⟩) (n+1) (n+1)] w (RetV l j out base g n v w):=by
 have hec:=hcs j hj;rw[zeG hl (by omega),he] at hec;have HO:=Hh how;have HD:=Hh hod;have HDN:=Hh hdn;have HVG:=Hh hvg;have HEE:=Hh he;have i1:(j:Int)<(n:Int)+1:=by omega
 have i0:(0:Int)≤(j:Int):=by omega
 obtain⟨R,hR⟩:∃R,R=RetV l j out base g n v w:=⟨_,rfl⟩;rw[←hR];have HR:=Hh hR;clear hcs how hod hdn hvg hR hl hn he;go_enter Tryz.func153,Tryz.ntmps153;go_wp2_with fail;go_ret3;rw[HR.out];unfold RetV;rw[zbW.1 HEE.out];exact⟨v,ds,rfl,HO.out,HD.out,HDN.out,HVG.out,fun k hk=>.inl hk,Ky.refl _ _⟩
theorem zkN (A:Option Addr)(c n E base g:Nat)(l:List Nd)(hl:zac l=true)(hn:l.length=n)(hn9:n≤990000)(j d:Nat)(out:List Nd)(ds:List Nat)(v:Value)(w:World)(hj:j≤n)(he:(den l j).isE=false)(hcap:n≤c∧c≤9223372036854775807)
  (hinv:InvT l out) (hdn:Dn l out ds) (hcs:∀i,i≤n→w.cell? ⟨E,i,none⟩=some (.bool (empB l i))) (how:OwnN w base v out) (hod:OwnD w base g (n+1) ds) (hvg:v.ownBlock≠some g) (hd:d=ds.getD j 0) (hd0:0<d) :
  Calls Tryz.prog 153 #[.slice A n c,.slice (some ⟨E,0,none⟩) (n+1) (n+1),.int .i64 (j:Int),v,.slice (some ⟨g,0,none⟩) (n+1) (n+1)] w (RetV l j out base g n v w):=by
 have hec:=hcs j hj;rw[zeG hl (by omega),he] at hec;have hcd:=hod.cell (k:=j) (by omega);rw[←hd] at hcd;have hnum:=hdn j (by omega) (by omega);rw[←hd] at hnum;have HM:=Hh (zfU hinv.1 _ _ hnum);have HO:=Hh how;have HD:=Hh hod;have HDN:=Hh hdn;have HVG:=Hh hvg;have i1:(j:Int)<(n:Int)+1:=by omega
 have i0:(0:Int)≤(j:Int):=by omega
 have t1:decide ((0:Int)<(d:Int))=true:=decide_eq_true (by omega);obtain⟨R,hR⟩:∃R,R=RetV l j out base g n v w:=⟨_,rfl⟩;rw[←hR];have HR:=Hh hR;clear hcs how hod hdn hvg hR hl hn he hinv hd hnum;go_enter Tryz.func153,Tryz.ntmps153;go_wp2_with fail;go_quiet (fail);go_wp2_with fail;go_ret3;rw[HR.out];unfold RetV;rw[HM.out];exact⟨v,ds,rfl,HO.out,HD.out,HDN.out,HVG.out,fun k hk=>.inl hk,zvV (Ky.refl _ _) _⟩
theorem zhE (A:Option Addr)(c n E base g:Nat)(l:List Nd)(hl:zac l=true)(hn:l.length=n)(hn9:n≤990000)(hA:∀a,A=some a→a.block<base)(hE:E≠g)(hg:base≤g) :
  ∀(m j:Nat) (out:List Nd) (ds:List Nat) (v:Value) (w:World),j≤n→(0<j→(at_ l (j-1)).lv≤m)→InvT l out→Dn l out ds→Ns w A c l→(∀i,i≤n→w.cell? ⟨E,i,none⟩=some (.bool (empB l i))) →
   OwnN w base v out→OwnD w base g (n+1) ds→v.ownBlock≠some g→v.ownBlock≠some E→base≤w.heap.size →
  Calls Tryz.prog 153 #[.slice A n c,.slice (some ⟨E,0,none⟩) (n+1) (n+1),.int .i64 (j:Int),v,.slice (some ⟨g,0,none⟩) (n+1) (n+1)] w (RetV l j out base g n v w):=by
 have HLL:=Hh hl;have HL:=Hh hn;have HA:=Hh hA;have HE:=Hh hE;have HG:=Hh hg;clear hl hn hA hE hg;intro m
 induction m with
 | zero =>
  intro j out ds v w hj hm hinv hdn hN hcs how hod hvg hve hbase;have hcap:=hN.cap;rw[HL.out] at hcap;have hj0:j=0:=by
   rcases Nat.eq_zero_or_pos j with h|h
   ·exact h
   ·have:=hm h;have:=zap (zaf HLL.out (i:=j-1) (by rw[HL.out];omega));omega
  exact zlZ A c n E base g l HLL.out HL.out hn9 j out ds v w hj (by rw[hj0,zav];rfl) hcap hdn hcs how hod hvg
 | succ m ih =>
  intro j out ds v w hj hm hinv hdn hN hcs how hod hvg hve hbase;have hcap:=hN.cap;rw[HL.out] at hcap;obtain⟨d,hd⟩:∃d,d=ds.getD j 0:=⟨_,rfl⟩;cases he:(den l j).isE with
  | true=>exact zlZ A c n E base g l HLL.out HL.out hn9 j out ds v w hj he hcap hdn hcs how hod hvg
  | false =>
   by_cases hd0:0<d
   ·exact zkN A c n E base g l HLL.out HL.out hn9 j d out ds v w hj he hcap hinv hdn hcs how hod hvg hd hd0
   ·have hec:=hcs j hj;rw[zeG HLL.out (by rw[HL.out];exact hj),he] at hec;have hcd:=hod.cell (k:=j) (by omega);have hd00:ds.getD j 0=0:=by omega
    rw[hd00] at hcd;have hj0:j≠0:=fun e=>by rw[e,zav] at he;cases he
    obtain⟨p,rfl⟩:∃p,j=p+1:=⟨j-1,by omega⟩;have hpl:p<l.length:=by rw[HL.out];omega
    obtain⟨b,off,rfl,hb,hc⟩:=hN.at_ (by omega)
    obtain⟨c1,c2,c3,c4,c5⟩:=hc p hpl;have hfx:=Hh (zaf HLL.out hpl);have hkf:=Hh (zai.1 HLL.out p hpl);have hv2:=zjv HLL.out hpl out;rw[if_neg (by rw[he];simp)] at hv2;have hspec:=zbA _ _ out (zbz HLL.out p hpl) hinv.1;have hwy:=zuW HLL.out hpl hinv (by rw[HL.out];omega);have hiv:=zfV HLL.out hpl hinv;have hpre:=zrc HLL.out hpl hinv;have htone:=fun h=>ztz (l:=l) (x:=at_ l p) h out;have hkone:=fun h=>zoG (l:=l) (x:=at_ l p) h out;have hlvm:(at_ l p).lv≤(m:Int)+1:=by
     have:=hm (by omega);rw[show p+1-1=p by omega] at this
     exact_mod_cast this
    obtain⟨x,hx⟩:∃x,x=at_ l p:=⟨_,rfl⟩
    rw[←hx] at c1 c2 c3 c4 c5 hfx hkf hv2 hwy hiv hpre htone hkone hlvm;obtain⟨y,hy⟩:∃y,y=topN (kT l x) out x.lv:=⟨_,rfl⟩;rw[←hy] at hv2 hwy htone;have HY:=Hh hy;have HX:=Hh hx;have HV2:=Hh hv2;have HSP:=Hh hspec;have HWY:=Hh hwy;have HIV:=Hh hiv;have HPRE:=Hh hpre;have HT1:=Hh htone;have HK1:=Hh hkone;have HNW:=Hh hN;have HCS:=Hh hcs;have HO:=Hh how;have HD:=Hh hod;have HDN:=Hh hdn;have HVG:=Hh hvg;have HVE:=Hh hve;have HES:=Hh (World.block_lt_of_cell? w _ (hcs 0 (Nat.zero_le _)));have i1:(p:Int)+1<(n:Int)+1:=by omega
    have i3:(p:Int)<(n:Int):=by omega
    have hxv:=zap hfx.out;obtain⟨R,hR⟩:∃R,R=RetV l (p+1) out base g n v w:=⟨_,rfl⟩;rw[←hR];have HR:=Hh hR;have HNB:=Hh (zbo.new w x);have HBB:=Hh hb;rw[show((p+1:Nat):Int)=(p:Int)+1 by omega];clear hN hcs how hod hinv hdn hvg hve hd hR hd0 hd00 hc hj0 he hv2 hspec hwy hiv hpre htone hkone hy hx hb hm;go_enter Tryz.func153,Tryz.ntmps153;go_wp2_with fail;obtain⟨gx,hgx⟩:∃gx,gx=w.heap.size:=⟨_,rfl⟩;have HK0:=Hh (show Ky (fun k=>k=g∨v.ownBlock=some k) w (w.alloc (.cells #[.int .i64 x.lv,.int .i64 x.a,.int .i64 x.b,.int .i64 x.c,.int .i64 x.d] 95)) from(Ky.refl _ _).alloc _);have HO0:=Hh (HO.out.alloc (.cells #[.int .i64 x.lv,.int .i64 x.a,.int .i64 x.b,.int .i64 x.c,.int .i64 x.d] 95));have HD0:=Hh (HD.out.gbr (World.grownBy_alloc w (.cells #[.int .i64 x.lv,.int .i64 x.a,.int .i64 x.b,.int .i64 x.c,.int .i64 x.d] 95) none) (by simp));have HNB0:=Hh (show zbo (w.alloc (.cells #[.int .i64 x.lv,.int .i64 x.a,.int .i64 x.b,.int .i64 x.c,.int .i64 x.d] 95)) gx (mix x y 0) by rw[hgx];exact HNB.out);have HVX:=Hh (show v.ownBlock≠some gx from fun e=>by have:=(HO.out.lt gx e).2;omega);have HGX:=Hh (show g≠gx by have:=HD.out.lt.2;omega);have HGW:=Hh hgx;rw[←hgx];generalize hWW:w.alloc _=W at *;clear hWW hgx c1 c2 c3 c4 c5 hec hcd;go_loopw [14,3,4] (fun z1 z2 z3 wr=>∃(q:Nat) (v1:Value) (ds1:List Nat),q≤4∧z1=.int .i64 q∧v1=z2∧z3=.slice (some ⟨g,0,none⟩) (n+1) (n+1)∧OwnN wr base v1 (outK (kT l x) out q)∧OwnD wr base g (n+1) ds1∧Dn l (outK (kT l x) out q) ds1 ∧
     v1.ownBlock≠some g∧v1.ownBlock≠some gx∧(∀k,v1.ownBlock=some k→v.ownBlock=some k∨w.heap.size≤k)∧zbo wr gx (mix x y q)∧Ky (fun k=>k=g∨v.ownBlock=some k) w wr) (fun z1 _ _ _=>4-(intOf z1).toNat)
    case atStart=>exact⟨0,_,ds,by omega,rfl,rfl,rfl,HO0.out,HD0.out,HDN.out,HVG.out,HVX.out,fun k hk=>.inl hk,HNB0.out,HK0.out⟩
    case round =>
     obtain⟨q,v1,ds1,hq,rfl,rfl,rfl,h1,h2,h3,h4,h5,h6,h7,h8⟩:=hrel;have H1:=Hh h1;have H2:=Hh h2;have H3:=Hh h3;have H4:=Hh h4;have H5:=Hh h5;have H6:=Hh h6;have H7:=Hh h7;have H8:=Hh h8;have f1:wr.cell? ⟨gx,0,none⟩=some (.int .i64 x.lv):=h7.at_.1
     have hbs:base≤wr.heap.size:=Nat.le_trans hbase h8.size;by_cases hgo:q<4∧1<x.lv
     ·obtain⟨hq4,hlv⟩:=hgo;have i4:(q:Int)<4:=by omega
      have t2:decide (1<x.lv)=true:=decide_eq_true hlv;have hyc:=h7.at_.kid hq4
      rw[ztF _ _ _ hq4,if_neg (Nat.lt_irrefl _)] at hyc;have hne:x.lv≠1:=by omega
      obtain⟨r,hr,hkT,hkr⟩:=zvU hfx.out hne hq4;have hrp:r≤p:=by
       rcases zaA hne (zak hkf.out hq4) with e|⟨t,e,ht,_⟩
       ·omega
       ·have:=List.length_take_le p l;omega
      have hrlv:0<r→(at_ l (r-1)).lv≤(m:Int):=by
       intro h0;rcases zaA hne (zak hkf.out hq4) with e|⟨t,e,ht,htl⟩
       ·omega
       ·have hle:=List.length_take_le p l;rw[zbU (by omega)] at htl;rw[show r-1=t by omega];omega
      rw[hkr] at hyc;have hstep:outK (kT l x) out (q+1)=(enc (den l r) (outK (kT l x) out q)).1:=by
       show(enc (kT l x q) _).1=_;rw[hkT]
      have hnum:y.kid q=(enc (den l r) (outK (kT l x) out q)).2:=by
       rw[HY.out,zir _ _ _ hq4];show(enc (kT l x q) _).2=_;rw[hkT]
      have HST:=Hh hstep;have HNU:=Hh hnum;have hNr:=Hh (H8.out.ns HNW.out (fun a ea hp=>by
       cases ea;have hbb:b<base:=HA.out _ rfl;rcases hp with e|e
       ·have:=HG.out;have e2:b=g:=e;omega
       ·have:=(HO.out.lt b e).1;omega))
      have hEr:=Hh (show ∀i,i≤n→wr.cell? ⟨E,i,none⟩=some (.bool (empB l i)) from fun i hi=>H8.out.cell (HCS.out i hi) (fun hp=>by
       rcases hp with e|e
       ·exact HE.out e
       ·exact HVE.out e))
      have hve1:=Hh (show v1.ownBlock≠some E from fun e=>(H6.out E e).elim HVE.out (fun e2=>Nat.not_lt.2 e2 HES.out));have hrn:r≤n:=by rw[←HL.out];exact hr
      have HIQ:=Hh (HIV.out q hq);have HRL:=Hh hrlv;clear h1 h2 h3 h4 h5 h6 h7 h8 hstep hnum hlv hkT hkr hr hrlv hne;go_wp2_with (go_at_call 153;go_loud (refine(ih r _ ds1 v1 _ hrn HRL.out HIQ.out H3.out hNr.out hEr.out H1.out H2.out H4.out hve1.out hbs).mono ?_;rintro e w1 ⟨v2,ds2,rfl,r1,r2,r3,r4,r5,r6⟩;have R1:=Hh r1;have R2:=Hh r2;have R3:=Hh r3;have R4:=Hh r4;have R5:=Hh r5;have R6:=Hh r6;have hbx1:=Hh (H7.out.stay (r6.block gx H7.out.lt (fun hp=>by rcases hp with e|e;exact HGX.out e.symm;exact H5.out e)));clear r1 r2 r3 r4 r5 r6;have fz:=hbx1.out.free (1+q);have cz:=hbx1.out.at_.kid hq4;rw[show 0+1+q=1+q by omega] at cz));go_roundw
      case rel =>
       refine⟨q+1,v2,ds2,by omega,by go_num,rfl,rfl,?_,?_,by rw[HST.out];exact R3.out,R4.out,?_,?_,?_,?_⟩
       ·rw[HST.out];exact R1.out.gbr (zbJ _ _ _) (.inr (fun e=>by
         rcases R5.out gx e with e2|e2
         ·exact H5.out e2
         ·exact absurd H7.out.lt (Nat.not_lt.2 e2)))
       ·exact R2.out.gbr (zbJ _ _ _) (fun e=>HGX.out (Option.some.inj e).symm)
       ·intro e;rcases R5.out gx e with e2|e2
        ·exact H5.out e2
        ·exact absurd H7.out.lt (Nat.not_lt.2 e2)
       ·intro k hk;rcases R5.out k hk with e2|e2
        ·exact H6.out k e2
        ·exact .inr (Nat.le_trans H8.out.size e2)
       ·exact hbx1.out.setKid hq4 (by omega) HNU.out.symm
       ·refine(H8.out.trans R6.out (fun k hk hp=>?_)).set _ (fun h=>?_) _
        ·rcases hp with e|e
         ·exact .inl e
         ·rcases H6.out k e with e2|e2
          ·exact .inr e2
          ·omega
        ·exact absurd (show gx<w.heap.size from h) (by rw[HGW.out];exact Nat.lt_irrefl _)
      case measure=>simp[intOf];omega
     ·have hfin:mix x y q=y∧outK (kT l x) out q=outK (kT l x) out 4:=by
       by_cases h4:q=4
       ·subst h4;exact⟨ziy (by rw[HY.out];rfl),rfl⟩
       ·have h1:x.lv=1:=by omega
        refine⟨?_,by rw[HK1.out h1,HK1.out h1]⟩;rw[HT1.out h1];exact zrq x q
      have hpre4:=HPRE.out 4 (Nat.le_refl _);have hinv4:=HIV.out 4 (Nat.le_refl _);rw[hfin.1] at h7;rw[hfin.2] at h1 h3;have hv2:=HV2.out;obtain⟨o4,ho4⟩:∃o4,o4=outK (kT l x) out 4:=⟨_,rfl⟩;rw[←ho4] at h1 h3 hpre4 hinv4 hv2;obtain⟨A1,cc1,hv1,hn1,hA1,hB1⟩:=h1.shape;have ho4l:=hinv4.len;rw[HL.out] at ho4l;obtain⟨on,hon⟩:∃on,on=o4.length:=⟨_,rfl⟩;rw[←hon] at hv1 ho4l;subst hv1;have HON:=Hh hon;have Q1:=Hh h1;have Q2:=Hh h2;have Q3:=Hh h3;have Q7:=Hh h7;have QN:=Hh hn1;have QV:=Hh hv2;have QP:=Hh hpre4;clear f1;obtain⟨f1,f2,f3,f4,f5⟩:=h7.at_
      have hylv:y.lv=x.lv:=by rw[HY.out];rfl
      have HYL:=Hh hylv;have hcase:(q<4∧¬ 1<x.lv)∨¬ q<4:=by omega
      have hoc:=hn1.cap;clear h1 h2 h3 h4 h5 h6 h7 h8 hn1 hA1 hB1 hfin hpre4 hinv4 hv2 ho4 hon hylv hgo H1 H2 H3 H7;rcases zeE o4 y with⟨hf,_⟩|⟨fi,_,_,hf⟩
      ·have HF:=Hh hf;have HAD:=Hh (zro hf);clear hf;rcases hcase with⟨hq4,hlv⟩|hq4
       ·have i4:(q:Int)<4:=by omega
        have t2:decide (1<y.lv)=false:=decide_eq_false (by rw[HYL.out];exact hlv);clear hlv;go_wp2_with (first
         | (go_at_call 200;go_loud (refine(zeK _ _ on o4 y _ QN.out HON.out.symm HWY.out).mono ?_;rintro e w5 ⟨rfl,b5⟩;have B5:=Hh b5;obtain⟨d1,d2,d3,d4,d5⟩:=Q7.out.at_.below (b5.block gx Q7.out.lt);rw[HF.out];have R2:=Hh (Q2.out.gbr (row:=Option.none) ⟨b5.os,b5.tape,b5.output,b5.size,fun i hi _=>b5.block i hi⟩ (by simp));have R1:=Hh (Q1.out.stays b5);clear b5))
         | (at_builtin;go_loud (refine zaC _ rfl _ _ rfl base _ o4 [y] _ 1 1 rfl rfl (R1.out.alloc _) (zix _ _ y HWY.out rfl) rfl (fun e=>by cases e) (by rw[←HON.out];omega) (by simp;have:=B5.out.size;omega) ?_;intro v6 w6 ho6 hg6 hk6;obtain⟨A6,c6,hv6,-,-,-⟩:=ho6.shape;have HO6:=Hh ho6;have HG6:=Hh (show World.grownBy _ w6 (Value.slice A1 on cc1).ownBlock from hg6);have HK6:=Hh (show v6.ownBlock=(Value.slice A1 on cc1).ownBlock∨v6.ownBlock=some (w5.alloc _).heap.size from hk6);have R6:=Hh ((R2.out.gbr (World.grownBy_alloc w5 _ Option.none) (by simp)).gbr hg6 H4.out);have cz:=R6.out.cell (k:=p+1) (by omega);have fz:=R6.out.free (p+1);subst hv6;clear ho6 hg6 hk6)))
        go_ret3;rw[HR.out];have hws:w.heap.size≤w5.heap.size:=Nat.le_trans H8.out.size B5.out.size;have hgl:=R2.out.lt.2;have hky:=((H8.out.below B5.out).alloc _).gb HG6.out (fun i hi e=>(H6.out i e).elim .inr (fun e2=>by omega));refine cast ?_ (ziz (k:=o4.length+1) HSP.out QV.out HAD.out (List.prefix_append _ _) HO6.out R6.out Q3.out ?_ ?_ hky)
        ·simp
        ·intro e;rcases HK6.out with e2|e2
         ·exact H4.out (e2.symm.trans e)
         ·rw[e2] at e;simp at e;omega
        ·intro k hk;rcases HK6.out with e2|e2
         ·exact H6.out k (e2.symm.trans hk)
         ·rw[e2] at hk;simp at hk;exact .inr (by omega)
       ·obtain rfl:q=4:=by omega
        clear hq4 hq;go_wp2_with (first
         | (go_at_call 200;go_loud (refine(zeK _ _ on o4 y _ QN.out HON.out.symm HWY.out).mono ?_;rintro e w5 ⟨rfl,b5⟩;have B5:=Hh b5;obtain⟨d1,d2,d3,d4,d5⟩:=Q7.out.at_.below (b5.block gx Q7.out.lt);rw[HF.out];have R2:=Hh (Q2.out.gbr (row:=Option.none) ⟨b5.os,b5.tape,b5.output,b5.size,fun i hi _=>b5.block i hi⟩ (by simp));have R1:=Hh (Q1.out.stays b5);clear b5))
         | (at_builtin;go_loud (refine zaC _ rfl _ _ rfl base _ o4 [y] _ 1 1 rfl rfl (R1.out.alloc _) (zix _ _ y HWY.out rfl) rfl (fun e=>by cases e) (by rw[←HON.out];omega) (by simp;have:=B5.out.size;omega) ?_;intro v6 w6 ho6 hg6 hk6;obtain⟨A6,c6,hv6,-,-,-⟩:=ho6.shape;have HO6:=Hh ho6;have HG6:=Hh (show World.grownBy _ w6 (Value.slice A1 on cc1).ownBlock from hg6);have HK6:=Hh (show v6.ownBlock=(Value.slice A1 on cc1).ownBlock∨v6.ownBlock=some (w5.alloc _).heap.size from hk6);have R6:=Hh ((R2.out.gbr (World.grownBy_alloc w5 _ Option.none) (by simp)).gbr hg6 H4.out);have cz:=R6.out.cell (k:=p+1) (by omega);have fz:=R6.out.free (p+1);subst hv6;clear ho6 hg6 hk6)))
        go_ret3;rw[HR.out];have hws:w.heap.size≤w5.heap.size:=Nat.le_trans H8.out.size B5.out.size;have hgl:=R2.out.lt.2;have hky:=((H8.out.below B5.out).alloc _).gb HG6.out (fun i hi e=>(H6.out i e).elim .inr (fun e2=>by omega));refine cast ?_ (ziz (k:=o4.length+1) HSP.out QV.out HAD.out (List.prefix_append _ _) HO6.out R6.out Q3.out ?_ ?_ hky)
        ·simp
        ·intro e;rcases HK6.out with e2|e2
         ·exact H4.out (e2.symm.trans e)
         ·rw[e2] at e;simp at e;omega
        ·intro k hk;rcases HK6.out with e2|e2
         ·exact H6.out k (e2.symm.trans hk)
         ·rw[e2] at hk;simp at hk;exact .inr (by omega)
      ·have HF:=Hh hf;have HAD:=Hh (zrp hf);clear hf;have t3:((fi:Int)+1==0)=false:=beq_eq_false_iff_ne.2 (by omega);have t4:(((fi+1:Nat):Int)==0)=false:=beq_eq_false_iff_ne.2 (by omega);rcases hcase with⟨hq4,hlv⟩|hq4
       ·have i4:(q:Int)<4:=by omega
        have t2:decide (1<y.lv)=false:=decide_eq_false (by rw[HYL.out];exact hlv);clear hlv;go_wp2_with (first
         | (go_at_call 200;go_loud (refine(zeK _ _ on o4 y _ QN.out HON.out.symm HWY.out).mono ?_;rintro e w5 ⟨rfl,b5⟩;have B5:=Hh b5;rw[HF.out];have R2:=Hh (Q2.out.gbr (row:=Option.none) ⟨b5.os,b5.tape,b5.output,b5.size,fun i hi _=>b5.block i hi⟩ (by simp));have R1:=Hh (Q1.out.stays b5);have cz:=R2.out.cell (k:=p+1) (by omega);have fz:=R2.out.free (p+1);clear b5)))
        go_ret3;rw[HR.out];refine cast ?_ (ziz (k:=fi+1) HSP.out QV.out HAD.out (List.prefix_refl _) R1.out R2.out Q3.out H4.out ?_ (H8.out.below B5.out))
        ·simp
        ·exact H6.out
       ·obtain rfl:q=4:=by omega
        clear hq4 hq;go_wp2_with (first
         | (go_at_call 200;go_loud (refine(zeK _ _ on o4 y _ QN.out HON.out.symm HWY.out).mono ?_;rintro e w5 ⟨rfl,b5⟩;have B5:=Hh b5;rw[HF.out];have R2:=Hh (Q2.out.gbr (row:=Option.none) ⟨b5.os,b5.tape,b5.output,b5.size,fun i hi _=>b5.block i hi⟩ (by simp));have R1:=Hh (Q1.out.stays b5);have cz:=R2.out.cell (k:=p+1) (by omega);have fz:=R2.out.free (p+1);clear b5)))
        go_ret3;rw[HR.out];refine cast ?_ (ziz (k:=fi+1) HSP.out QV.out HAD.out (List.prefix_refl _) R1.out R2.out Q3.out H4.out ?_ (H8.out.below B5.out))
        ·simp
        ·exact H6.out
theorem zab {w:World}{g:Nat}{u:Value}{t:TypeId}(h:w.heap[g]?=some (.cells #[u] t)):w.cell? ⟨g,0,none⟩=some u:=by
 rw[cell_of_row w g _ _ _ _ h];rfl
theorem zbP {w:World}{g:Nat}{u:Value}{t:TypeId}(h:w.heap[g]?=some (.cells #[u] t)):w.frozen? ⟨g,0,none⟩=false:=frozen_of_row w g 0 _ _ h
theorem zsE (A:Option Addr)(c n:Nat)(l:List Nd)(k:Int)(w:World)(h:Ns w A c l)(hn:l.length=n)(hno:zac l=false∨k<0∨(n:Int)<k) :
  Calls Tryz.prog 121 #[.slice A n c,.int .i64 k] w (RetO l k w):=by
 have hcap:=h.cap;rw[hn] at hcap;have hR:=zuU (zuV (by rw[hn];exact hno));obtain⟨R,hRR⟩:∃R,R=RetO l k w:=⟨_,rfl⟩;rw[←hRR];have HR:=Hh hRR;have HQ:=Hh hR;have hb:=(Below.refl w.heap.size w).alloc (Nat.le_refl _) (.cells #[.slice none 0 0] 28);have HB:=Hh hb;have HN:=Hh (h.below hb);have HL:=Hh hn;have hgc:(w.alloc (.cells #[.slice none 0 0] 28)).heap[w.heap.size]?=some (.cells #[.slice none 0 0] 28):=heap_alloc_new w _;have HGC:=Hh hgc;have hlt:w.heap.size<(w.alloc (.cells #[.slice none 0 0] 28)).heap.size:=by simp
 have HLT:=Hh hlt;have hcases:zac l=false∨(zac l=true∧k<0)∨(zac l=true∧0≤k∧(n:Int)<k):=by
  cases hq:zac l
  ·exact .inl rfl
  ·rcases hno with h|h
   ·rw[hq] at h;cases h
   ·rcases h with h|h
    ·exact .inr (.inl ⟨rfl,h⟩)
    ·by_cases h0:k<0
     ·exact .inr (.inl ⟨rfl,h0⟩)
     ·exact .inr (.inr ⟨rfl,by omega,h⟩)
 clear h hn hno hb hgc hlt hR hRR;rcases hcases with hq|⟨hq,h0⟩|⟨hq,h0,h1⟩
 all_goals
  have HLL:=Hh hq;clear hq;go_enter Tryz.func121,Tryz.ntmps121;go_wp2_with (go_at_call 55;go_loud (refine(zlX _ _ n l _ HN.out HL.out).mono ?_;rintro e w1 ⟨rfl,b1⟩;have HB1:=Hh b1;have hcg:=(b1.block w.heap.size HLT.out).trans HGC.out;have cg:=zab hcg;have fg:=zbP hcg;clear b1 hcg;rw[HLL.out]));have e1:=World.cell?_setCell_same _ _ (.slice none 0 0) cg;refine bodyPost_ret (v:=.tuple #[.agg #[.slice none 0 0],.int .i64 1]) (by simp[results,Tryz.results121,go_sem,e1]) rfl ?_;rw[HR.out];refine⟨none,0,?_,?_,fun _=>rfl,(HB.out.trans (HB1.out.mono HB.out.size)).setCell (Nat.le_refl _) _⟩
  ·rw[HQ.out.1,HQ.out.2];rfl
  ·rw[HQ.out.1];exact zlY _
theorem zdz {P:Program}{w:World}{o:Oper}{a:Act}{K:Act→World→Prop}{Q:Exit→Act→World→Prop}
  (l c:Operand) (t:TypeId) (hop:o.op=Op.makeSlice t l c)
  (base:Nat) (e:TypeId) (i:TypeInfo) (z:Value) (size:Nat) (h1:P.underlying t=some (.slice e)) (h2:P.info? e=some i) (h3:i.zero=some z) (h4:i.size=size)
  (kl kc:IntKind) (L C:Int) (n:Nat) (hl:a.eval l=.int kl L) (hc:a.eval c=.int kc C) (hL:L=(n:Int)) (hC:C=(n:Int)) (b2:i.bytes*n≤281474976710656) (b3:n≤maxLen) (b4:base≤w.heap.size)
  (hK:∀w',w'.ownsRow base e size (.slice (some ⟨w.heap.size,0,none⟩) n n) n (madeCells z.cells (n*size)).toList→w.grownBy w' none→K (a.put o.dst (.slice (some ⟨w.heap.size,0,none⟩) n n)) w') :
  Oper.wp P o a w K Q:=by
 obtain⟨w',hrun,r1,r2⟩:=run_make_full (P:=P) w base t e i z size h1 h2 h3 h4 kl kc n b2 b3 b4;subst hL;subst hC;unfold Oper.wp;simp[execOp,hop,hl,hc,hrun,Result.andThen];exact hK w' r1 r2
theorem zsF (l:List Nd)(n:Nat):Dn l [] (List.replicate n 0):=by
 intro i hi h0;exfalso;rw[List.getD_eq_getElem?_getD,List.getElem?_replicate] at h0;split at h0 <;> simp at h0
theorem ztH (A:Option Addr)(c n k:Nat)(l:List Nd)(w:World)(h:Ns w A c l)(hn:l.length=n)(hn9:n≤900000)(hl:zac l=true)(hk:k≤n)(hA:A=none→c=0) :
  Calls Tryz.prog 121 #[.slice A n c,.int .i64 (k:Int)] w (RetO l (k:Int) w):=by
 have hcap:=h.cap;rw[hn] at hcap;have HQ:=Hh (ztG hl (n:=k) (by omega));obtain⟨i0,hi,hz0,hz1,hz2⟩:=info_parts Tryz.infoI;have HI:=Hh (And.intro hi (And.intro hz0 (And.intro hz1 hz2)));obtain⟨R,hRR⟩:∃R,R=RetO l (k:Int) w:=⟨_,rfl⟩;rw[←hRR];have HR:=Hh hRR;have hb:=(Below.refl w.heap.size w).alloc (Nat.le_refl _) (.cells #[.slice none 0 0] 28);have HB:=Hh hb;have HN:=Hh (h.below hb);have HL:=Hh hn;have HLL:=Hh hl;have HA:=Hh hA;have hgc:(w.alloc (.cells #[.slice none 0 0] 28)).heap[w.heap.size]?=some (.cells #[.slice none 0 0] 28):=heap_alloc_new w _;have HGC:=Hh hgc;have hlt:w.heap.size<(w.alloc (.cells #[.slice none 0 0] 28)).heap.size:=by simp
 have HLT:=Hh hlt;have t0:decide ((k:Int)<0)=false:=decide_eq_false (by omega);have t1:decide ((n:Int)<(k:Int))=false:=decide_eq_false (by omega);clear h hn hb hgc hlt hRR hi hz0 hz1 hz2 hA hl;go_enter Tryz.func121,Tryz.ntmps121;go_wp2_with (first
  | (go_at_call 55;go_loud (refine(zlX _ _ n l _ HN.out HL.out).mono ?_;rintro e w1 ⟨rfl,b1⟩;have HB1:=Hh b1;have HN1:=Hh (HN.out.below b1);clear b1;rw[HLL.out]))
  | (go_at_call 152;go_loud (refine(zkM _ _ n l k _ HN1.out HL.out HLL.out hn9 HA.out hk).mono ?_;rintro e w3 ⟨v2,cur,j,rfl,s1,s2,s3,s4,s5,s6⟩;obtain⟨A2,c2,hv2,hn2,_,hA2⟩:=s1.shape;have HV2:=Hh hv2;have HN2':=Hh hn2;have HO2:=Hh s1;have HCL:=Hh s2;have HJ:=Hh s3;have HJD:=Hh s4;have HCN':=Hh s5;have HB3:=Hh s6;clear hv2 hn2 hA2 s1 s2 s3 s4 s5 s6)))
 have hv2:=HV2.out;obtain⟨cn,hcn⟩:∃cn,cn=cur.length:=⟨_,rfl⟩;rw[←hcn] at hv2;subst hv2;have HCN:=Hh hcn;have hcn9:cn≤901329:=by have:=HCN'.out;have:=HL.out;omega
 have hc2:=HN2'.out.cap;rw[←hcn] at hc2;have HBW3:=Hh (HB.out.trans ((HB1.out.trans (HB3.out.mono HB1.out.size)).mono HB.out.size));have HGQ3:=Hh ((HB3.out.block w.heap.size (Nat.lt_of_lt_of_le HLT.out HB1.out.size)).trans ((HB1.out.block w.heap.size HLT.out).trans HGC.out));clear hcn;refine wp_region_noPanic ?_;refine wp_region_held (S:=fun _=>True) (by kernel_rfl) ?_;obtain⟨W0,hW0⟩:∃W0:World,W0=w3.drew:=⟨_,rfl⟩;have HN2:=Hh (show Ns W0 A2 c2 cur by rw[hW0];exact HN2'.out.drew);have HBW:=Hh (show Below w.heap.size w W0 by rw[hW0];exact Below.drew HBW3.out);have HGQ:=Hh (show W0.heap[w.heap.size]?=some (.cells #[.slice none 0 0] 28) by rw[hW0];exact HGQ3.out);have HLQ:=Hh (show w.heap.size<W0.heap.size from(Array.getElem?_eq_some_iff.1 HGQ.out).1);have HA2:=Hh (show ∀a,A2=some a→a.block<W0.heap.size from fun a ea=>by rw[hW0];exact(HO2.out.lt a.block (by rw[ea];rfl)).2);have HLV:=Hh (show 0<j→(at_ cur (j-1)).lv≤((1329:Nat):Int) from fun h0=>(zap (zaf HCL.out (by have:=HJ.out;omega))).2);have B0:=Hh (Below.refl W0.heap.size W0);have e0:IntKind.i64.wrap ((cn:Int)+1)=(cn:Int)+1:=IntWalk.i64_in _ (by omega);change wpAnyH _ _ _ _ _ _ _ _ w3.drew;rw[←hW0];clear hW0;refine Tk1 (v:=?_) 0 trivial ?_ ?_;rotate_left
 ·rintro w' _;go_simp;first|done|with_reducible rfl|rfl
 simp only[Act.put,LA];refine Tk1 (v:=?_) 1 trivial ?_ ?_;rotate_left
 ·rintro w' _;go_simp;first|done|with_reducible rfl|rfl
 simp only[Act.put,LA];refine Tk1 (v:=?_) 3 trivial ?_ ?_;rotate_left
 ·rintro w' _;go_simp;first|done|with_reducible rfl|rfl
 simp only[Act.put,LA];refine Tk1 (v:=?_) 4 trivial ?_ ?_;rotate_left
 ·rintro w' _;go_simp;first|done|with_reducible rfl|rfl
 simp only[Act.put,LA];refine Tk1 (v:=?_) 5 trivial ?_ ?_;rotate_left
 ·rintro w' _;go_simp;first|done|with_reducible rfl|rfl
 simp only[Act.put,LA];refine Tk1 (v:=?_) 6 trivial ?_ ?_;rotate_left
 ·rintro w' _;go_simp;first|done|with_reducible rfl|rfl
 simp only[Act.put,LA];refine Rd2 2 7 (fun K hK=>?_) fun K hK=>?_
 ·go_simp;refine(zcm A2 c2 cn cur _ (HN2.out.below B0.out) HCN.out.symm HCL.out (by omega)).mono ?_;rintro e W4 ⟨E,rfl,x1,x2,x3,x4⟩;dsimp only;have B4:=Hh (B0.out.trans (x4.mono B0.out.size));have HE1:=Hh x1;have HE3:=Hh x3;have HE4:=Hh x4;have HE2:=Hh x2;refine hK.out _ _ trivial (fun _=>?_);clear hK K x1 x2 x3 x4;refine Rd1 7 fun K hK=>?_;rw[if_pos (by rfl)];refine zdz (.tmp 38) (.tmp 38) 96 rfl W0.heap.size 3 i0 _ 1 Tryz.underlying96 HI.out.1 HI.out.2.1 HI.out.2.2.1 .i64 .i64 _ _ (cn+1) rfl rfl (by omega) (by omega) (by rw[HI.out.2.2.2];omega) (by unfold maxLen;omega) B4.out.size ?_;intro W5 own grow;simp only[Act.put,LA];have B5:=Hh (B4.out.grown grow B4.out.size (fun k hk=>by cases hk));have OD:=Hh (OwnD.made own);have GR:=Hh grow;refine hK.out _ _ trivial (fun _=>?_);clear hK K own grow;have HEG:=Hh (show E≠W4.heap.size by have:=HE2.out;omega);have HGB:=Hh (show W0.heap.size≤W4.heap.size from B4.out.size);have HEC:=Hh (show ∀i,i≤cn→W5.cell? ⟨E,i,none⟩=some (.bool (empB cur i)) from fun i hi=>(World.cell?_of_block (w:=W4) (GR.out.block E HE2.out (by simp))).trans (HE3.out i hi));have HNV:=Hh (HN2.out.below B5.out);have hsz:=B5.out.size;refine Rd1 8 fun K hK=>?_;go_simp;refine(zhE A2 c2 cn E W0.heap.size _ cur HCL.out HCN.out.symm (by omega) HA2.out HEG.out HGB.out 1329 j [] (List.replicate (cn+1) 0) (.slice none 0 0) _ (by rw[HCN.out];exact HJ.out) HLV.out (zkI _) (zsF _ _) HNV.out HEC.out (zgG _ _) OD.out (by simp[Value.ownBlock]) (by simp[Value.ownBlock]) hsz).mono ?_;rintro e W7 ⟨v7,ds7,rfl,z1,z2,z3,z4,z5,z6⟩;dsimp only;obtain⟨A7,c7,hv7,hn7,hA7,hA7b⟩:=z1.shape;have hA7bb:=Hh hA7b;clear hA7b;obtain⟨qn,hqn⟩:∃qn,qn=(enc (den cur j) []).1.length:=⟨_,rfl⟩;rw[←hqn] at hv7;subst hv7;have HQN:=Hh hqn;have B7:=Hh (B5.out.trans (z6.to hsz (fun k hk=>by
   rcases hk with h|h
   ·subst h;exact HGB.out
   ·simp[Value.ownBlock] at h)))
  have HN7:=Hh hn7;have HA7:=Hh hA7;refine hK.out _ _ trivial (fun _=>?_);clear hK K z1 z2 z3 z4 z5 z6 hn7 hA7 hqn;refine Tk1 (v:=?_) 9 trivial ?_ ?_;rotate_left
  ·rintro w' _;go_simp;first|done|with_reducible rfl|rfl
  simp only[Act.put,LA];refine Tk1 (v:=?_) 10 trivial ?_ ?_;rotate_left
  ·rintro w' _;go_simp;first|done|with_reducible rfl|rfl
  simp only[Act.put,LA];refine Tk1 (v:=?_) 11 trivial ?_ ?_;rotate_left
  ·rintro w' _;go_simp;first|done|with_reducible rfl|rfl
  simp only[Act.put,LA];refine Tk1 (v:=?_) 12 trivial ?_ ?_;rotate_left
  ·rintro w' _;go_simp;first|done|with_reducible rfl|rfl
  simp only[Act.put,LA];refine Tk1 (v:=?_) 13 trivial ?_ ?_;rotate_left
  ·rintro w' _;go_simp;first|done|with_reducible rfl|rfl
  simp only[Act.put,LA];refine Tk1 (v:=?_) 14 trivial ?_ ?_;rotate_left
  ·rintro w' _;go_simp;first|done|with_reducible rfl|rfl
  simp only[Act.put,LA];refine Tk1 (v:=?_) 15 trivial ?_ ?_;rotate_left
  ·rintro w' _;go_simp;first|done|with_reducible rfl|rfl
  simp only[Act.put,LA];refine wpAnyH_done (by kernel_rfl) ?_ _;refine NoPanic.normal ?_;have hc7:=(B7.out.block _ HLQ.out).trans HGQ.out;have cg:=zab hc7;have fg:=zbP hc7;clear hc7;go_wp2_with fail;have e1:=World.cell?_setCell_same _ _ (.slice A7 qn c7) cg;refine bodyPost_ret (v:=.tuple #[.agg #[.slice A7 qn c7],.int .i64 0]) (by simp[results,Tryz.results121,go_sem,e1]) rfl ?_;rw[HR.out];have hq7:(enc (den cur j) []).1=ofQ l (k:Int):=by rw[HJD.out,HQ.out.1];rfl
  have hqn:=HQN.out;rw[hq7] at hqn HN7;have hA7b:=hA7bb.out;refine⟨A7,c7,?_,?_,HA7.out,(HBW.out.trans (B7.out.mono HBW.out.size)).setCell (Nat.le_refl _) _⟩
  ·rw[HQ.out.2,hqn]
  ·exact HN7.out.gbr (zbJ _ _ _) (fun a ea e=>by have h1:=hA7b a ea;have h2:=HLQ.out;have h3:a.block=w.heap.size:=Option.some.inj e;omega)
 ·rw[if_pos (by rfl)];refine zdz (.tmp 38) (.tmp 38) 96 rfl W0.heap.size 3 i0 _ 1 Tryz.underlying96 HI.out.1 HI.out.2.1 HI.out.2.2.1 .i64 .i64 _ _ (cn+1) rfl rfl (by omega) (by omega) (by rw[HI.out.2.2.2];omega) (by unfold maxLen;omega) B0.out.size ?_;intro W4 own grow;simp only[Act.put,LA];have B4:=Hh (B0.out.grown grow B0.out.size (fun k hk=>by cases hk));have OD:=Hh (OwnD.made own);have GR:=Hh grow;refine hK.out _ _ trivial (fun _=>?_);clear hK K own grow;refine Rd1 2 fun K hK=>?_;go_simp;refine(zcm A2 c2 cn cur _ (HN2.out.below B4.out) HCN.out.symm HCL.out (by omega)).mono ?_;rintro e W5 ⟨E,rfl,x1,x2,x3,x4⟩;dsimp only;have B5:=Hh (B4.out.trans (x4.mono B4.out.size));have HE1:=Hh x1;have HE3:=Hh x3;have HE4:=Hh x4;have HE2:=Hh x2;refine hK.out _ _ trivial (fun _=>?_);clear hK K x1 x2 x3 x4;have HEG:=Hh (show E≠W0.heap.size by have:=HE1.out;have:=OD.out.lt.2;omega);have HGB:=Hh (Nat.le_refl W0.heap.size);have HEC:=Hh HE3.out;have OD:=Hh (show OwnD W5 W0.heap.size W0.heap.size (cn+1) (List.replicate (cn+1) 0) from OD.out.gbr (row:=none) ⟨HE4.out.os,HE4.out.tape,HE4.out.output,HE4.out.size,fun i hi _=>HE4.out.block i hi⟩ (by simp));have HNV:=Hh (HN2.out.below B5.out);have hsz:=B5.out.size;refine Rd1 8 fun K hK=>?_;go_simp;refine(zhE A2 c2 cn E W0.heap.size _ cur HCL.out HCN.out.symm (by omega) HA2.out HEG.out HGB.out 1329 j [] (List.replicate (cn+1) 0) (.slice none 0 0) _ (by rw[HCN.out];exact HJ.out) HLV.out (zkI _) (zsF _ _) HNV.out HEC.out (zgG _ _) OD.out (by simp[Value.ownBlock]) (by simp[Value.ownBlock]) hsz).mono ?_;rintro e W7 ⟨v7,ds7,rfl,z1,z2,z3,z4,z5,z6⟩;dsimp only;obtain⟨A7,c7,hv7,hn7,hA7,hA7b⟩:=z1.shape;have hA7bb:=Hh hA7b;clear hA7b;obtain⟨qn,hqn⟩:∃qn,qn=(enc (den cur j) []).1.length:=⟨_,rfl⟩;rw[←hqn] at hv7;subst hv7;have HQN:=Hh hqn;have B7:=Hh (B5.out.trans (z6.to hsz (fun k hk=>by
   rcases hk with h|h
   ·subst h;exact HGB.out
   ·simp[Value.ownBlock] at h)))
  have HN7:=Hh hn7;have HA7:=Hh hA7;refine hK.out _ _ trivial (fun _=>?_);clear hK K z1 z2 z3 z4 z5 z6 hn7 hA7 hqn;refine Tk1 (v:=?_) 9 trivial ?_ ?_;rotate_left
  ·rintro w' _;go_simp;first|done|with_reducible rfl|rfl
  simp only[Act.put,LA];refine Tk1 (v:=?_) 10 trivial ?_ ?_;rotate_left
  ·rintro w' _;go_simp;first|done|with_reducible rfl|rfl
  simp only[Act.put,LA];refine Tk1 (v:=?_) 11 trivial ?_ ?_;rotate_left
  ·rintro w' _;go_simp;first|done|with_reducible rfl|rfl
  simp only[Act.put,LA];refine Tk1 (v:=?_) 12 trivial ?_ ?_;rotate_left
  ·rintro w' _;go_simp;first|done|with_reducible rfl|rfl
  simp only[Act.put,LA];refine Tk1 (v:=?_) 13 trivial ?_ ?_;rotate_left
  ·rintro w' _;go_simp;first|done|with_reducible rfl|rfl
  simp only[Act.put,LA];refine Tk1 (v:=?_) 14 trivial ?_ ?_;rotate_left
  ·rintro w' _;go_simp;first|done|with_reducible rfl|rfl
  simp only[Act.put,LA];refine Tk1 (v:=?_) 15 trivial ?_ ?_;rotate_left
  ·rintro w' _;go_simp;first|done|with_reducible rfl|rfl
  simp only[Act.put,LA];refine wpAnyH_done (by kernel_rfl) ?_ _;refine NoPanic.normal ?_;have hc7:=(B7.out.block _ HLQ.out).trans HGQ.out;have cg:=zab hc7;have fg:=zbP hc7;clear hc7;go_wp2_with fail;have e1:=World.cell?_setCell_same _ _ (.slice A7 qn c7) cg;refine bodyPost_ret (v:=.tuple #[.agg #[.slice A7 qn c7],.int .i64 0]) (by simp[results,Tryz.results121,go_sem,e1]) rfl ?_;rw[HR.out];have hq7:(enc (den cur j) []).1=ofQ l (k:Int):=by rw[HJD.out,HQ.out.1];rfl
  have hqn:=HQN.out;rw[hq7] at hqn HN7;have hA7b:=hA7bb.out;refine⟨A7,c7,?_,?_,HA7.out,(HBW.out.trans (B7.out.mono HBW.out.size)).setCell (Nat.le_refl _) _⟩
  ·rw[HQ.out.2,hqn]
  ·exact HN7.out.gbr (zbJ _ _ _) (fun a ea e=>by have h1:=hA7b a ea;have h2:=HLQ.out;have h3:a.block=w.heap.size:=Option.some.inj e;omega)
theorem ztI (A:Option Addr)(c n:Nat)(l:List Nd)(k:Int)(w:World)(h:Ns w A c l)(hn:l.length=n)(hn9:n≤900000)(hA:A=none→c=0) :
  Calls Tryz.prog 121 #[.slice A n c,.int .i64 k] w (RetO l k w):=by
 cases hl:zac l with
 | false=>exact zsE A c n l k w h hn (.inl hl)
 | true =>
  by_cases hk:0≤k∧k≤(n:Int)
  ·obtain⟨j,rfl⟩:∃j:Nat,k=j:=⟨k.toNat,by omega⟩;exact ztH A c n j l w h hn hn9 hl (by omega) hA
  ·exact zsE A c n l k w h hn (.inr (by omega))
def CvR (v:Cv):Prop:=zaO v.sx v.xs∧zaO v.sy v.ys∧v.xs.length≤60000∧v.ys.length≤60000
end Go.Proofs.YtcippfaljoagaaaGreatDoor
