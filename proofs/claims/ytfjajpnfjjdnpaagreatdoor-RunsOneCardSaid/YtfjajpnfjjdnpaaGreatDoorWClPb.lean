import Derived.Test.YtfjajpnfjjdnpaaGreatDoorWNcRA

set_option linter.unusedVariables false
set_option linter.unusedSimpArgs false
set_option maxRecDepth 100000
set_option maxHeartbeats 6400000
namespace Go.Proofs.YtfjajpnfjjdnpaaGreatDoor
open Go.RowKit Nds
def zwj (l:List Nd)(k:Nat)(w:World)(e:Ending)(w':World):Prop :=
 ∃v cur j,e=.returned (.tuple #[v,.int .i64 ((j:Nat):Int)])∧OwnN w' w.heap.size v cur∧zac cur=true∧j≤cur.length∧den cur j=shrT (den l k)∧cur.length≤l.length+1329∧Below w.heap.size w w'
def lenOf:Value→Nat|.slice _ n _=>n|_=>0
theorem OwnN.stays {w w':World}{base:Nat}{v:Value}{l:List Nd}(h:OwnN w base v l)(hb:Below w.heap.size w w'):OwnN w' base v l :=
 h.gbr (row:=none) ⟨hb.os,hb.tape,hb.output,hb.size,fun i hi _=>hb.block i hi⟩ (by
  cases hv:v.ownBlock
  ·exact .inl rfl
  ·exact .inr (by simp))
def SS (l:List Nd)(t:Tr)(cur:List Nd)(p:Nat):Prop:=zac cur=true∧p<cur.length∧den cur (p+1)≠.e∧shrT (den cur (p+1))=t∧(cur.length:Int)+(at_ cur p).lv≤l.length+1329
theorem SS.start {l:List Nd}(hl:zac l=true){p:Nat}(hp:p<l.length)(hne:den l (p+1)≠.e):SS l (shrT (den l (p+1))) l p:=by
 have:=zap (zad hl hp);exact⟨hl,hp,hne,rfl,by omega⟩
theorem SS.next {l cur:List Nd}{t:Tr}{p:Nat}(h:SS l t cur p)(hh:holT (den cur (p+1))=true):SS l t (cur++[innN cur (at_ cur p)]) cur.length:=by
 obtain⟨h1,h2,h3,h4,h5⟩:=h;obtain⟨s1,s2,s3,s4⟩:=zrS h1 h2 hh;refine⟨s1,by simp,by rw[s2];exact s3,by rw[s2,s4];exact h4,?_⟩;rw[zfc];show(((cur++[_]).length:Nat):Int)+((at_ cur p).lv-1)≤_;rw[List.length_append];show((cur.length+1:Nat):Int)+_≤_;omega
theorem SS.len {l cur:List Nd}{t:Tr}{p:Nat}(h:SS l t cur p):cur.length≤l.length+1328:=by
 obtain⟨h1,h2,h3,h4,h5⟩:=h;have:=zap (zad h1 h2);omega
theorem zkS (A:Option Addr)(c n:Nat)(l:List Nd)(k:Nat)(w:World)(h:Ns w A c l)(hn:l.length=n)(hl:zac l=true)(hn9:n≤900000)(hA:A=none→c=0)(hk:k≤n) :
  Calls Tryz.prog 92 #[.slice A n c,.int .i64 (k:Int)] w (zwj l k w):=by
 have hcap:=h.cap;rw[hn] at hcap;have HN:=Hh h;have HL:=Hh hn;have HLL:=Hh hl;have HA:=Hh hA;have q0:True:=trivial;have hemp:=zdB hl (n:=k) (by omega);clear h hn hl hA;by_cases he:den l k=.e
 ·have HE:=Hh he;rw[he] at hemp;have HM:=Hh (show empB l k=true from hemp);clear he hemp;go_enter Tryz.func92,Tryz.ntmps92;go_wp2_with (first
   | (have _t:=q0;at_builtin;clear _t;go_loud (refine zax _ rfl _ _ rfl w.heap.size _ [] l A n c rfl rfl (OwnN.start _) (HN.out.below ((Below.refl _ w).alloc (Nat.le_refl _) _)) HL.out HA.out (by simp;omega) (by simp) ?_;intro v2 w2 ho2 hg2 hk2;rw[List.nil_append] at ho2;have HO:=Hh ho2;obtain⟨A2,c2,hv2,hn2,hA2,hB2⟩:=ho2.shape;rw[HL.out] at hv2;subst hv2;have HN2:=Hh hn2;have HB:=Hh (((Below.refl _ w).alloc (Nat.le_refl _) _).grown hg2 (by simp) (fun k hk=>by cases hk;exact Nat.le_refl _));clear ho2 hg2 hk2 hn2 hA2 hB2;have q1:=q0;clear q0))
   | (have _t:=q1;go_at_call 45;clear _t;go_loud (refine(zhE _ _ n l k _ HN2.out HL.out HLL.out (by omega) hk).mono ?_;rintro e w3 ⟨rfl,b3⟩;have HB3:=Hh b3;clear b3;rw[HM.out];have q2:=q1;clear q1)))
  go_ret2;refine⟨.slice A2 n c2,l,0,rfl,?_,HLL.out,Nat.zero_le _,?_,by omega,HB.out.trans (HB3.out.mono HB.out.size)⟩
  ·exact HO.out.stays HB3.out
  ·rw[zav,HE.out,ztU]
 ·obtain⟨p,rfl⟩:∃p,k=p+1:=⟨k-1,by have:k≠0:=fun e=>he (by rw[e];exact zav l);omega⟩;have HM:=Hh (show empB l (p+1)=false by rw[hemp];exact ztb.2 he);have HS0:=Hh (SS.start HLL.out (by rw[HL.out];omega) he);clear he hemp;go_enter Tryz.func92,Tryz.ntmps92;go_wp2_with (first
   | (have _t:=q0;at_builtin;clear _t;go_loud (refine zax _ rfl _ _ rfl w.heap.size _ [] l A n c rfl rfl (OwnN.start _) (HN.out.below ((Below.refl _ w).alloc (Nat.le_refl _) _)) HL.out HA.out (by simp;omega) (by simp) ?_;intro v2 w2 ho2 hg2 hk2;rw[List.nil_append] at ho2;have HO:=Hh ho2;obtain⟨A2,c2,hv2,hn2,hA2,hB2⟩:=ho2.shape;rw[HL.out] at hv2;subst hv2;have HN2:=Hh hn2;have HB:=Hh (((Below.refl _ w).alloc (Nat.le_refl _) _).grown hg2 (by simp) (fun k hk=>by cases hk;exact Nat.le_refl _));clear ho2 hg2 hk2 hn2 hA2 hB2;have q1:=q0;clear q0))
   | (have _t:=q1;go_at_call 45;clear _t;go_loud (refine(zhE _ _ n l (p+1) _ HN2.out HL.out HLL.out (by omega) hk).mono ?_;rintro e w3 ⟨rfl,b3⟩;have HB3:=Hh b3;clear b3;rw[HM.out];have q2:=q1;clear q1)))
  obtain⟨v0,hv0⟩:∃v0,v0=Value.slice A2 n c2:=⟨_,rfl⟩;have HO3:=Hh (show OwnN w3 w.heap.size v0 l by rw[hv0];exact HO.out.stays HB3.out);have HBA:=Hh (HB.out.trans (HB3.out.mono HB.out.size));rw[←hv0];clear hv0;go_loopw [6,1,7,8] (fun z1 z2 z3 z4 wr=>∃(cur:List Nd) (r:Nat) (v u1 u2:Value),v=z1∧z2=.int .i64 ((r:Int)+1)∧z3=u1∧z4=u2∧OwnN wr w.heap.size v cur∧SS l (shrT (den l (p+1))) cur r∧Below w.heap.size w wr) (fun z1 _ _ _ _=>n+2000-lenOf z1)
  case atStart=>exact⟨l,p,_,_,_,rfl,by simp,rfl,rfl,HO3.out,HS0.out,HBA.out⟩
  case round =>
   obtain⟨cur,r,v,u1,u2,rfl,rfl,rfl,rfl,how,hss,hbw⟩:=hrel;have HS:=Hh hss;have HW:=Hh how;have hlen:=hss.len;rw[HL.out] at hlen;obtain⟨A3,c3,rfl,hn3,hA3,hB3⟩:=how.shape;have HN3:=Hh hn3;have HA3:=Hh hA3;have HB4:=Hh hB3;obtain⟨g1,g2,g3,g4,g5⟩:=hss;have hhol:=zhI g1 g2 g3;obtain⟨cn,hcn⟩:∃cn,cn=cur.length:=⟨_,rfl⟩;rw[←hcn] at g2 hlen ⊢;have HCN:=Hh hcn;have G1:=Hh g1;have G3:=Hh g3;have G4:=Hh g4;clear how hn3 hA3 hB3 g1 g3 g4 g5 hcn;cases hh:holT (den cur (r+1)) with
   | false =>
    have HH:=Hh hh;rw[hh] at hhol;have HHO:=Hh hhol;clear hh hhol;go_wp2_with (go_at_call 62;go_loud (refine(zgx _ _ cn cur (r+1) _ HN3.out HCN.out.symm G1.out (by omega) (by omega)).mono ?_;rintro e w4 ⟨rfl,b4⟩;have HB5:=Hh b4;clear b4;rw[HHO.out]));go_ret2;have hcn:=HCN.out;have hll:=HL.out;refine⟨.slice A3 cn c3,cur,r+1,rfl,?_,G1.out,by omega,?_,by omega,hbw.trans (HB5.out.mono hbw.size)⟩
    ·rw[hcn];exact HW.out.stays HB5.out
    ·rw[←G4.out,zct HH.out]
   | true =>
    have HH:=Hh hh;rw[hh] at hhol;have HHO:=Hh hhol;have hlv:=(zti G1.out (by rw[←HCN.out];exact g2) hh).1;clear hh hhol;obtain⟨b,off,rfl,hb,hc⟩:=HN3.out.at_ (by rw[←HCN.out];omega)
    have c1:=(hc r (by rw[←HCN.out];exact g2)).1;have HLV:=Hh hlv;have HBB:=Hh hb;obtain⟨x,hx⟩:∃x,x=at_ cur r:=⟨_,rfl⟩
    rw[←hx] at c1 hlv;have HX:=Hh hx;have hfx:=zap (zad G1.out (i:=r) (by rw[←HCN.out];exact g2));rw[←hx] at hfx;have i1:(r:Int)<(cn:Int):=by omega
    clear hc hb hx;go_wp2_with (go_at_call 62;go_loud (refine(zgx _ _ cn cur (r+1) _ HN3.out HCN.out.symm G1.out (by omega) (by omega)).mono ?_;rintro e w4 ⟨rfl,b4⟩;have HB5:=Hh b4;have c1:=(World.cell?_of_block (w:=wr) (a:=⟨b,off+r*5,none⟩) (b4.block b HBB.out)).trans c1;clear b4;rw[HHO.out]));have HBW4:=Hh (hbw.trans (HB5.out.mono hbw.size));have HW4:=Hh (HW.out.stays HB5.out);have HN4:=Hh (HN3.out.below HB5.out);obtain⟨g,hg⟩:∃g,g=w4.heap.size:=⟨_,rfl⟩;have hbox:zbk (w4.alloc (.cells #[.int .i64 (x.lv-1),.int .i64 0,.int .i64 0,.int .i64 0,.int .i64 0] 70)) g (mix ⟨x.lv-1,0,0,0,0⟩ (innN cur x) 0):=by rw[hg];exact zbk.new w4 ⟨x.lv-1,0,0,0,0⟩
    have HBOX:=Hh hbox;have HG5:=Hh (World.grownBy_alloc w4 (.cells #[.int .i64 (x.lv-1),.int .i64 0,.int .i64 0,.int .i64 0,.int .i64 0] 70) (some g));have HGB:=Hh (show b<g by rw[hg];exact Nat.lt_of_lt_of_le HBB.out HB5.out.size);have HGW:=Hh (show w.heap.size≤g by rw[hg];exact HBW4.out.size);have HGO:=Hh hg;rw[←hg];generalize hWW:w4.alloc _=W at *;clear hWW hg hbox c1;go_loopw [8] (fun i wq=>∃(q:Nat),q≤4∧i=.int .i64 q∧zbk wq g (mix ⟨x.lv-1,0,0,0,0⟩ (innN cur x) q)∧w4.grownBy wq (some g)) (fun i _=>4-(intOf i).toNat)
    case atStart=>exact⟨0,by omega,rfl,HBOX.out,HG5.out⟩
    case round =>
     obtain⟨q,hq,rfl,hbq,hgq⟩:=hrel;have HBQ:=Hh hbq;have HGQ:=Hh hgq;have HNQ:=Hh (HN4.out.gbr hgq (fun a ea e=>by cases ea;exact absurd (Option.some.inj e) (Nat.ne_of_lt HGB.out)));clear hbq hgq;by_cases hq4:q<4
     ·have i2:(q:Int)<4:=by omega
      have i3:(0:Int)≤(q:Int):=by omega
      have hfz:=HBQ.out.free (1+q);have hce:=HBQ.out.at_.kid hq4
      have e1:0+1+q=1+q:=by omega
      rw[e1] at hce;generalize (mix ⟨x.lv-1,0,0,0,0⟩ (innN cur x) q).kid q=z at hce;clear e1;go_wp2_with (go_at_call 141;go_loud (refine(znt _ _ cn cur r q _ HNQ.out HCN.out.symm G1.out g2 HLV.out hq4).mono ?_;rintro e w5 ⟨rfl,rfl⟩;rw[←HX.out]));go_roundw
      case rel =>
       refine⟨q+1,by omega,by go_num,HBQ.out.setKid hq4 (by omega) (zlZ cur x hq4).symm,zaW HGQ.out (zbD _ _ _)⟩
      case measure=>simp[intOf];omega
     ·have hq5:q=4:=by omega
      subst hq5;rw[ziM (show(⟨x.lv-1,0,0,0,0⟩:Nd).lv=(innN cur x).lv from rfl)] at HBQ;obtain⟨f1,f2,f3,f4,f5⟩:=HBQ.out.at_
      have HSN:=Hh (HS.out.next HH.out);rw[←HX.out] at HSN;obtain⟨y,hy⟩:∃y,y=innN cur x:=⟨_,rfl⟩;rw[←hy] at f1 f2 f3 f4 f5 HSN;have hwy:y.wf:=by
       have h1:=(zma G1.out (p:=r) (by rw[←HCN.out];exact g2) HLV.out G3.out).1;rw[←HX.out,←hy] at h1;exact zvk h1 (by rw[←HCN.out];omega)
      have HWY:=Hh hwy;have HOQ:=Hh (show OwnN wr w.heap.size (.slice (some ⟨b,off,none⟩) cn c3) cur by
       have h1:=HW4.out.gbr HGQ.out (.inr (fun e=>absurd (Option.some.inj e) (Nat.ne_of_lt HGB.out)));rw[HCN.out];exact h1)
      have hgs:w.heap.size≤wr.heap.size:=Nat.le_trans HBW4.out.size HGQ.out.size;clear hwy hy;go_wp2_with (at_builtin;go_loud (refine zax _ rfl _ _ rfl w.heap.size _ cur [y] _ 1 1 rfl rfl (HOQ.out.alloc _) (ziL _ _ y HWY.out rfl) rfl (fun e=>by cases e) (by rw[←HCN.out];omega) (by simp;omega) ?_;intro v6 w6 ho6 hg6 hk6;obtain⟨A6,c6,hv6,-,-,-⟩:=ho6.shape;have HO6:=Hh ho6;have HG6:=Hh hg6;have HK6:=Hh hk6;subst hv6;clear ho6 hg6 hk6));go_roundw
      case rel =>
       refine⟨cur++[y],cur.length,.slice A6 (cur++[y]).length c6,_,_,(by simp),?_,rfl,rfl,HO6.out,HSN.out,?_⟩
       ·simp
       ·refine((HBW4.out.grown HGQ.out HBW4.out.size (fun k hk=>by cases hk;exact HGW.out)).alloc hgs _).grown HG6.out (by simp;omega) (fun k hk=>(HOQ.out.lt k hk).1)
      case measure =>
       have hcn:=HCN.out;simp[lenOf];omega
def Dn (l out:List Nd)(ds:List Nat):Prop:=∀i,i≤l.length→0<ds.getD i 0→NumT out (den l i) ((ds.getD i 0:Nat):Int)
theorem Dn.pre {l out m:List Nd}{ds:List Nat}(h:Dn l out ds)(hp:out <+: m):Dn l m ds:=fun i hi h0=>zoP hp (h i hi h0)
theorem Dn.set {l out:List Nd}{ds:List Nat}(h:Dn l out ds){j u:Nat}(hu:NumT out (den l j) (u:Int)):Dn l out (ds.set j u):=by
 intro i hi h0;by_cases e:i=j
 ·subst e;by_cases hl:i<ds.length
  ·rw[List.getD_eq_getElem?_getD,List.getElem?_set_self hl];exact hu
  ·rw[List.set_eq_of_length_le (by omega)] at h0 ⊢;exact h i hi h0
 ·rw[List.getD_eq_getElem?_getD,List.getElem?_set_ne (fun e2=>e e2.symm),←List.getD_eq_getElem?_getD] at h0 ⊢;exact h i hi h0
def RetV (l:List Nd)(j:Nat)(out:List Nd)(base g n:Nat)(v:Value)(w:World)(e:Ending)(w':World):Prop :=
 ∃v' ds',e=.returned (.tuple #[v',.slice (some ⟨g,0,none⟩) (n+1) (n+1),.int .i64 (enc (den l j) out).2])∧OwnN w' base v' (enc (den l j) out).1∧OwnD w' base g (n+1) ds'∧Dn l (enc (den l j) out).1 ds' ∧
  v'.ownBlock≠some g∧(∀k,v'.ownBlock=some k→v.ownBlock=some k∨w.heap.size≤k)∧Ky (fun k=>k=g∨v.ownBlock=some k) w w'
theorem Ky.ns {P:Nat→Prop}{w w':World}(h:Ky P w w'){A:Option Addr}{c:Nat}{l:List Nd}(hn:Ns w A c l)(hp:∀a,A=some a→¬ P a.block):Ns w' A c l :=
 ⟨hn.1,hn.2.1,hn.2.2.1,fun h0=>by
  obtain⟨b,off,e,hlt,hc⟩:=hn.2.2.2 h0;exact⟨b,off,e,Nat.lt_of_lt_of_le hlt h.size,fun i hi=>(hc i hi).below (h.block b hlt (hp _ e))⟩⟩
theorem Ky.cell {P:Nat→Prop}{w w':World}(h:Ky P w w'){a:Addr}{u:Value}(hc:w.cell? a=some u)(hp:¬ P a.block):w'.cell? a=some u :=
 (World.cell?_of_block (w:=w) (h.block a.block (World.block_lt_of_cell? w a hc) hp)).trans hc
theorem zvo {l:List Nd}(h:zac l=true){p:Nat}(hp:p<l.length){out:List Nd}(hi:InvT l out)(hl9:l.length≤1000000):(topN (kT l (at_ l p)) out (at_ l p).lv).wf:=by
 have hv:=zap (zad h hp);have key:∀i,i<4→in64 (numK (kT l (at_ l p)) out i):=by
  intro i hi4;have h1:=zfQ h hp hi i (by omega);have h2:=zfQ h hp hi (i+1) (by omega);have hs:=zbc _ _ _ (ztY h hp hi4) h1.1;have:=(zoR (out:=outK (kT l (at_ l p)) out (i+1)) h2.1.1 hv.1 (ztY h hp hi4) hs.num).1;exact zev this (by have:=h2.len;omega)
 exact⟨⟨by show _≤(at_ l p).lv;omega,by show(at_ l p).lv≤_;omega⟩,key 0 (by omega),key 1 (by omega),key 2 (by omega),key 3 (by omega)⟩
theorem zrZ {out:List Nd}{x:Nd}(h:fnd out x=0):add out x=(out++[x],out.length+1):=by
 unfold add;rw[if_pos h]
theorem zsa {out:List Nd}{x:Nd}{k:Nat}(h:fnd out x=k+1):add out x=(out,k+1):=by
 unfold add;rw[if_neg (by omega),h]
theorem zwk {l:List Nd}{x:Nd}(hx:fitB l x=true)(h1:x.lv≠1){i:Nat}(hi:i<4):∃r:Nat,r≤l.length∧kT l x i=den l r∧x.kid i=(r:Int):=by
 unfold kT;rw[zaB h1];rcases zaA h1 (zaj hx hi) with e|⟨q,e,hq,_⟩
 ·exact⟨0,Nat.zero_le _,by rw[e];rfl,by rw[e];rfl⟩
 ·exact⟨q+1,by omega,by rw[e,show((q:Int)+1).toNat=q+1 by omega],by omega⟩
theorem ziN {l out o4 o5:List Nd}{y:Nd}{p k base g n:Nat}{v v6:Value}{w w6:World}{ds1:List Nat}{u:Int}(hspec:EncT u (den l (p+1)) out (enc (den l (p+1)) out))(hv2:enc (den l (p+1)) out=((add o4 y).1,((add o4 y).2:Int)))(had:add o4 y=(o5,k))(hpre:o4 <+: o5)
  (h1:OwnN w6 base v6 o5) (h2:OwnD w6 base g (n+1) ds1) (h3:Dn l o4 ds1) (h4:v6.ownBlock≠some g) (h5:∀k,v6.ownBlock=some k→v.ownBlock=some k∨w.heap.size≤k) (h6:Ky (fun k=>k=g∨v.ownBlock=some k) w w6) :
  RetV l (p+1) out base g n v w (.returned (.tuple #[v6,.slice (some ⟨g,0,none⟩) (n+1) (n+1),.int .i64 (k:Int)])) (w6.setCell ⟨g,p+1,none⟩ (.int .i64 (k:Int))):=by
 have hn:=hspec.num;rw[hv2,had] at hn;unfold RetV;rw[hv2,had];exact⟨v6,ds1.set (p+1) k,rfl,h1.gbr (zbD _ _ _) (.inr h4),h2.set _ _,(h3.pre hpre).set hn,h4,h5,h6.set _ (fun _=>.inl rfl) _⟩
theorem zsb (x:Nd)(q:Nat):mix x x q=x:=by
 unfold mix;simp only[ite_self]
theorem zwl {P:Nat→Prop}{w w':World}(h:Ky P w w')(n:Nat):Ky P w (w'.drewN n):=⟨h.os,h.tape,h.output,h.size,h.block⟩
theorem zmh (A:Option Addr)(c n E base g:Nat)(l:List Nd)(hl:zac l=true)(hn:l.length=n)(hn9:n≤990000)(j:Nat)(out:List Nd)(ds:List Nat)(v:Value)(w:World)(hj:j≤n)(he:(den l j).isE=true)(hcap:n≤c∧c≤9223372036854775807)
  (hdn:Dn l out ds) (hcs:∀i,i≤n→w.cell? ⟨E,i,none⟩=some (.bool (empB l i))) (how:OwnN w base v out) (hod:OwnD w base g (n+1) ds) (hvg:v.ownBlock≠some g) :
  Calls Tryz.prog 93 #[.slice A n c,.slice (some ⟨E,0,none⟩) (n+1) (n+1),.int .i64 (j:Int),v,.slice (some ⟨g,0,none⟩) (n+1) (n+1)] w (RetV l j out base g n v w):=by
 have hec:=hcs j hj;rw[zdB hl (by omega),he] at hec;have HO:=Hh how;have HD:=Hh hod;have HDN:=Hh hdn;have HVG:=Hh hvg;have HEE:=Hh he;have i1:(j:Int)<(n:Int)+1:=by omega
 have i0:(0:Int)≤(j:Int):=by omega
 obtain⟨R,hR⟩:∃R,R=RetV l j out base g n v w:=⟨_,rfl⟩;rw[←hR];have HR:=Hh hR;clear hcs how hod hdn hvg hR hl hn he;go_enter Tryz.func93,Tryz.ntmps93;go_wp2_with fail;go_ret3;rw[HR.out];unfold RetV;rw[zbP.1 HEE.out];exact⟨v,ds,rfl,HO.out,HD.out,HDN.out,HVG.out,fun k hk=>.inl hk,Ky.refl _ _⟩
theorem zkT (A:Option Addr)(c n E base g:Nat)(l:List Nd)(hl:zac l=true)(hn:l.length=n)(hn9:n≤990000)(j d:Nat)(out:List Nd)(ds:List Nat)(v:Value)(w:World)(hj:j≤n)(he:(den l j).isE=false)(hcap:n≤c∧c≤9223372036854775807)
  (hinv:InvT l out) (hdn:Dn l out ds) (hcs:∀i,i≤n→w.cell? ⟨E,i,none⟩=some (.bool (empB l i))) (how:OwnN w base v out) (hod:OwnD w base g (n+1) ds) (hvg:v.ownBlock≠some g) (hd:d=ds.getD j 0) (hd0:0<d) :
  Calls Tryz.prog 93 #[.slice A n c,.slice (some ⟨E,0,none⟩) (n+1) (n+1),.int .i64 (j:Int),v,.slice (some ⟨g,0,none⟩) (n+1) (n+1)] w (RetV l j out base g n v w):=by
 have hec:=hcs j hj;rw[zdB hl (by omega),he] at hec;have hcd:=hod.cell (k:=j) (by omega);rw[←hd] at hcd;have hnum:=hdn j (by omega) (by omega);rw[←hd] at hnum;have HM:=Hh (zfP hinv.1 _ _ hnum);have HO:=Hh how;have HD:=Hh hod;have HDN:=Hh hdn;have HVG:=Hh hvg;have i1:(j:Int)<(n:Int)+1:=by omega
 have i0:(0:Int)≤(j:Int):=by omega
 have t1:decide ((0:Int)<(d:Int))=true:=decide_eq_true (by omega);obtain⟨R,hR⟩:∃R,R=RetV l j out base g n v w:=⟨_,rfl⟩;rw[←hR];have HR:=Hh hR;clear hcs how hod hdn hvg hR hl hn he hinv hd hnum;go_enter Tryz.func93,Tryz.ntmps93;go_wp2_with fail;go_quiet (fail);go_wp2_with fail;go_ret3;rw[HR.out];unfold RetV;rw[HM.out];exact⟨v,ds,rfl,HO.out,HD.out,HDN.out,HVG.out,fun k hk=>.inl hk,zwl (Ky.refl _ _) _⟩
theorem zhM (A:Option Addr)(c n E base g:Nat)(l:List Nd)(hl:zac l=true)(hn:l.length=n)(hn9:n≤990000)(hA:∀a,A=some a→a.block<base)(hE:E≠g)(hg:base≤g) :
  ∀(m j:Nat) (out:List Nd) (ds:List Nat) (v:Value) (w:World),j≤n→(0<j→(at_ l (j-1)).lv≤m)→InvT l out→Dn l out ds→Ns w A c l→(∀i,i≤n→w.cell? ⟨E,i,none⟩=some (.bool (empB l i))) →
   OwnN w base v out→OwnD w base g (n+1) ds→v.ownBlock≠some g→v.ownBlock≠some E→base≤w.heap.size →
  Calls Tryz.prog 93 #[.slice A n c,.slice (some ⟨E,0,none⟩) (n+1) (n+1),.int .i64 (j:Int),v,.slice (some ⟨g,0,none⟩) (n+1) (n+1)] w (RetV l j out base g n v w):=by
 have HLL:=Hh hl;have HL:=Hh hn;have HA:=Hh hA;have HE:=Hh hE;have HG:=Hh hg;clear hl hn hA hE hg;intro m
 induction m with
 | zero =>
  intro j out ds v w hj hm hinv hdn hN hcs how hod hvg hve hbase;have hcap:=hN.cap;rw[HL.out] at hcap;have hj0:j=0:=by
   rcases Nat.eq_zero_or_pos j with h|h
   ·exact h
   ·have:=hm h;have:=zap (zad HLL.out (i:=j-1) (by rw[HL.out];omega));omega
  exact zmh A c n E base g l HLL.out HL.out hn9 j out ds v w hj (by rw[hj0,zav];rfl) hcap hdn hcs how hod hvg
 | succ m ih =>
  intro j out ds v w hj hm hinv hdn hN hcs how hod hvg hve hbase;have hcap:=hN.cap;rw[HL.out] at hcap;obtain⟨d,hd⟩:∃d,d=ds.getD j 0:=⟨_,rfl⟩;cases he:(den l j).isE with
  | true=>exact zmh A c n E base g l HLL.out HL.out hn9 j out ds v w hj he hcap hdn hcs how hod hvg
  | false =>
   by_cases hd0:0<d
   ·exact zkT A c n E base g l HLL.out HL.out hn9 j d out ds v w hj he hcap hinv hdn hcs how hod hvg hd hd0
   ·have hec:=hcs j hj;rw[zdB HLL.out (by rw[HL.out];exact hj),he] at hec;have hcd:=hod.cell (k:=j) (by omega);have hd00:ds.getD j 0=0:=by omega
    rw[hd00] at hcd;have hj0:j≠0:=fun e=>by rw[e,zav] at he;cases he
    obtain⟨p,rfl⟩:∃p,j=p+1:=⟨j-1,by omega⟩;have hpl:p<l.length:=by rw[HL.out];omega
    obtain⟨b,off,rfl,hb,hc⟩:=hN.at_ (by omega)
    obtain⟨c1,c2,c3,c4,c5⟩:=hc p hpl;have hfx:=Hh (zad HLL.out hpl);have hkf:=Hh (zai.1 HLL.out p hpl);have hv2:=zjJ HLL.out hpl out;rw[if_neg (by rw[he];simp)] at hv2;have hspec:=zbc _ _ out (zbv HLL.out p hpl) hinv.1;have hwy:=zvo HLL.out hpl hinv (by rw[HL.out];omega);have hiv:=zfQ HLL.out hpl hinv;have hpre:=zrR HLL.out hpl hinv;have htone:=fun h=>ztX (l:=l) (x:=at_ l p) h out;have hkone:=fun h=>zoV (l:=l) (x:=at_ l p) h out;have hlvm:(at_ l p).lv≤(m:Int)+1:=by
     have:=hm (by omega);rw[show p+1-1=p by omega] at this
     exact_mod_cast this
    obtain⟨x,hx⟩:∃x,x=at_ l p:=⟨_,rfl⟩
    rw[←hx] at c1 c2 c3 c4 c5 hfx hkf hv2 hwy hiv hpre htone hkone hlvm;obtain⟨y,hy⟩:∃y,y=topN (kT l x) out x.lv:=⟨_,rfl⟩;rw[←hy] at hv2 hwy htone;have HY:=Hh hy;have HX:=Hh hx;have HV2:=Hh hv2;have HSP:=Hh hspec;have HWY:=Hh hwy;have HIV:=Hh hiv;have HPRE:=Hh hpre;have HT1:=Hh htone;have HK1:=Hh hkone;have HNW:=Hh hN;have HCS:=Hh hcs;have HO:=Hh how;have HD:=Hh hod;have HDN:=Hh hdn;have HVG:=Hh hvg;have HVE:=Hh hve;have HES:=Hh (World.block_lt_of_cell? w _ (hcs 0 (Nat.zero_le _)));have i1:(p:Int)+1<(n:Int)+1:=by omega
    have i3:(p:Int)<(n:Int):=by omega
    have hxv:=zap hfx.out;obtain⟨R,hR⟩:∃R,R=RetV l (p+1) out base g n v w:=⟨_,rfl⟩;rw[←hR];have HR:=Hh hR;have HNB:=Hh (zbk.new w x);have HBB:=Hh hb;rw[show((p+1:Nat):Int)=(p:Int)+1 by omega];clear hN hcs how hod hinv hdn hvg hve hd hR hd0 hd00 hc hj0 he hv2 hspec hwy hiv hpre htone hkone hy hx hb hm;go_enter Tryz.func93,Tryz.ntmps93;go_wp2_with fail;obtain⟨gx,hgx⟩:∃gx,gx=w.heap.size:=⟨_,rfl⟩;have HK0:=Hh (show Ky (fun k=>k=g∨v.ownBlock=some k) w (w.alloc (.cells #[.int .i64 x.lv,.int .i64 x.a,.int .i64 x.b,.int .i64 x.c,.int .i64 x.d] 70)) from(Ky.refl _ _).alloc _);have HO0:=Hh (HO.out.alloc (.cells #[.int .i64 x.lv,.int .i64 x.a,.int .i64 x.b,.int .i64 x.c,.int .i64 x.d] 70));have HD0:=Hh (HD.out.gbr (World.grownBy_alloc w (.cells #[.int .i64 x.lv,.int .i64 x.a,.int .i64 x.b,.int .i64 x.c,.int .i64 x.d] 70) none) (by simp));have HNB0:=Hh (show zbk (w.alloc (.cells #[.int .i64 x.lv,.int .i64 x.a,.int .i64 x.b,.int .i64 x.c,.int .i64 x.d] 70)) gx (mix x y 0) by rw[hgx];exact HNB.out);have HVX:=Hh (show v.ownBlock≠some gx from fun e=>by have:=(HO.out.lt gx e).2;omega);have HGX:=Hh (show g≠gx by have:=HD.out.lt.2;omega);have HGW:=Hh hgx;rw[←hgx];generalize hWW:w.alloc _=W at *;clear hWW hgx c1 c2 c3 c4 c5 hec hcd;go_loopw [14,3,4] (fun z1 z2 z3 wr=>∃(q:Nat) (v1:Value) (ds1:List Nat),q≤4∧z1=.int .i64 q∧v1=z2∧z3=.slice (some ⟨g,0,none⟩) (n+1) (n+1)∧OwnN wr base v1 (outK (kT l x) out q)∧OwnD wr base g (n+1) ds1∧Dn l (outK (kT l x) out q) ds1 ∧
     v1.ownBlock≠some g∧v1.ownBlock≠some gx∧(∀k,v1.ownBlock=some k→v.ownBlock=some k∨w.heap.size≤k)∧zbk wr gx (mix x y q)∧Ky (fun k=>k=g∨v.ownBlock=some k) w wr) (fun z1 _ _ _=>4-(intOf z1).toNat)
    case atStart=>exact⟨0,_,ds,by omega,rfl,rfl,rfl,HO0.out,HD0.out,HDN.out,HVG.out,HVX.out,fun k hk=>.inl hk,HNB0.out,HK0.out⟩
    case round =>
     obtain⟨q,v1,ds1,hq,rfl,rfl,rfl,h1,h2,h3,h4,h5,h6,h7,h8⟩:=hrel;have H1:=Hh h1;have H2:=Hh h2;have H3:=Hh h3;have H4:=Hh h4;have H5:=Hh h5;have H6:=Hh h6;have H7:=Hh h7;have H8:=Hh h8;have f1:wr.cell? ⟨gx,0,none⟩=some (.int .i64 x.lv):=h7.at_.1
     have hbs:base≤wr.heap.size:=Nat.le_trans hbase h8.size;by_cases hgo:q<4∧1<x.lv
     ·obtain⟨hq4,hlv⟩:=hgo;have i4:(q:Int)<4:=by omega
      have t2:decide (1<x.lv)=true:=decide_eq_true hlv;have hyc:=h7.at_.kid hq4
      rw[zud _ _ _ hq4,if_neg (Nat.lt_irrefl _)] at hyc;have hne:x.lv≠1:=by omega
      obtain⟨r,hr,hkT,hkr⟩:=zwk hfx.out hne hq4;have hrp:r≤p:=by
       rcases zaA hne (zaj hkf.out hq4) with e|⟨t,e,ht,_⟩
       ·omega
       ·have:=List.length_take_le p l;omega
      have hrlv:0<r→(at_ l (r-1)).lv≤(m:Int):=by
       intro h0;rcases zaA hne (zaj hkf.out hq4) with e|⟨t,e,ht,htl⟩
       ·omega
       ·have hle:=List.length_take_le p l;rw[zcD (by omega)] at htl;rw[show r-1=t by omega];omega
      rw[hkr] at hyc;have hstep:outK (kT l x) out (q+1)=(enc (den l r) (outK (kT l x) out q)).1:=by
       show(enc (kT l x q) _).1=_;rw[hkT]
      have hnum:y.kid q=(enc (den l r) (outK (kT l x) out q)).2:=by
       rw[HY.out,ziB _ _ _ hq4];show(enc (kT l x q) _).2=_;rw[hkT]
      have HST:=Hh hstep;have HNU:=Hh hnum;have hNr:=Hh (H8.out.ns HNW.out (fun a ea hp=>by
       cases ea;have hbb:b<base:=HA.out _ rfl;rcases hp with e|e
       ·have:=HG.out;have e2:b=g:=e;omega
       ·have:=(HO.out.lt b e).1;omega))
      have hEr:=Hh (show ∀i,i≤n→wr.cell? ⟨E,i,none⟩=some (.bool (empB l i)) from fun i hi=>H8.out.cell (HCS.out i hi) (fun hp=>by
       rcases hp with e|e
       ·exact HE.out e
       ·exact HVE.out e))
      have hve1:=Hh (show v1.ownBlock≠some E from fun e=>(H6.out E e).elim HVE.out (fun e2=>Nat.not_lt.2 e2 HES.out));have hrn:r≤n:=by rw[←HL.out];exact hr
      have HIQ:=Hh (HIV.out q hq);have HRL:=Hh hrlv;clear h1 h2 h3 h4 h5 h6 h7 h8 hstep hnum hlv hkT hkr hr hrlv hne;go_wp2_with (go_at_call 93;go_loud (refine(ih r _ ds1 v1 _ hrn HRL.out HIQ.out H3.out hNr.out hEr.out H1.out H2.out H4.out hve1.out hbs).mono ?_;rintro e w1 ⟨v2,ds2,rfl,r1,r2,r3,r4,r5,r6⟩;have R1:=Hh r1;have R2:=Hh r2;have R3:=Hh r3;have R4:=Hh r4;have R5:=Hh r5;have R6:=Hh r6;have hbx1:=Hh (H7.out.stay (r6.block gx H7.out.lt (fun hp=>by rcases hp with e|e;exact HGX.out e.symm;exact H5.out e)));clear r1 r2 r3 r4 r5 r6;have fz:=hbx1.out.free (1+q);have cz:=hbx1.out.at_.kid hq4;rw[show 0+1+q=1+q by omega] at cz));go_roundw
      case rel =>
       refine⟨q+1,v2,ds2,by omega,by go_num,rfl,rfl,?_,?_,by rw[HST.out];exact R3.out,R4.out,?_,?_,?_,?_⟩
       ·rw[HST.out];exact R1.out.gbr (zbD _ _ _) (.inr (fun e=>by
         rcases R5.out gx e with e2|e2
         ·exact H5.out e2
         ·exact absurd H7.out.lt (Nat.not_lt.2 e2)))
       ·exact R2.out.gbr (zbD _ _ _) (fun e=>HGX.out (Option.some.inj e).symm)
       ·intro e;rcases R5.out gx e with e2|e2
        ·exact H5.out e2
        ·exact absurd H7.out.lt (Nat.not_lt.2 e2)
       ·intro k hk;rcases R5.out k hk with e2|e2
        ·exact H6.out k e2
        ·exact .inr (Nat.le_trans H8.out.size e2)
       ·exact hbx1.out.setKid hq4 (by omega) HNU.out.symm
       ·refine(H8.out.trans R6.out (fun k hk hp=>?_)).set _ (fun h=>?_) _
        ·rcases hp with e|e
         ·exact .inl e
         ·rcases H6.out k e with e2|e2
          ·exact .inr e2
          ·omega
        ·exact absurd (show gx<w.heap.size from h) (by rw[HGW.out];exact Nat.lt_irrefl _)
      case measure=>simp[intOf];omega
     ·have hfin:mix x y q=y∧outK (kT l x) out q=outK (kT l x) out 4:=by
       by_cases h4:q=4
       ·subst h4;exact⟨ziM (by rw[HY.out];rfl),rfl⟩
       ·have h1:x.lv=1:=by omega
        refine⟨?_,by rw[HK1.out h1,HK1.out h1]⟩;rw[HT1.out h1];exact zsb x q
      have hpre4:=HPRE.out 4 (Nat.le_refl _);have hinv4:=HIV.out 4 (Nat.le_refl _);rw[hfin.1] at h7;rw[hfin.2] at h1 h3;have hv2:=HV2.out;obtain⟨o4,ho4⟩:∃o4,o4=outK (kT l x) out 4:=⟨_,rfl⟩;rw[←ho4] at h1 h3 hpre4 hinv4 hv2;obtain⟨A1,cc1,hv1,hn1,hA1,hB1⟩:=h1.shape;have ho4l:=hinv4.len;rw[HL.out] at ho4l;obtain⟨on,hon⟩:∃on,on=o4.length:=⟨_,rfl⟩;rw[←hon] at hv1 ho4l;subst hv1;have HON:=Hh hon;have Q1:=Hh h1;have Q2:=Hh h2;have Q3:=Hh h3;have Q7:=Hh h7;have QN:=Hh hn1;have QV:=Hh hv2;have QP:=Hh hpre4;clear f1;obtain⟨f1,f2,f3,f4,f5⟩:=h7.at_
      have hylv:y.lv=x.lv:=by rw[HY.out];rfl
      have HYL:=Hh hylv;have hcase:(q<4∧¬ 1<x.lv)∨¬ q<4:=by omega
      have hoc:=hn1.cap;clear h1 h2 h3 h4 h5 h6 h7 h8 hn1 hA1 hB1 hfin hpre4 hinv4 hv2 ho4 hon hylv hgo H1 H2 H3 H7;rcases zet o4 y with⟨hf,_⟩|⟨fi,_,_,hf⟩
      ·have HF:=Hh hf;have HAD:=Hh (zrZ hf);clear hf;rcases hcase with⟨hq4,hlv⟩|hq4
       ·have i4:(q:Int)<4:=by omega
        have t2:decide (1<y.lv)=false:=decide_eq_false (by rw[HYL.out];exact hlv);clear hlv;go_wp2_with (first
         | (go_at_call 142;go_loud (refine(zez _ _ on o4 y _ QN.out HON.out.symm HWY.out).mono ?_;rintro e w5 ⟨rfl,b5⟩;have B5:=Hh b5;obtain⟨d1,d2,d3,d4,d5⟩:=Q7.out.at_.below (b5.block gx Q7.out.lt);rw[HF.out];have R2:=Hh (Q2.out.gbr (row:=Option.none) ⟨b5.os,b5.tape,b5.output,b5.size,fun i hi _=>b5.block i hi⟩ (by simp));have R1:=Hh (Q1.out.stays b5);clear b5))
         | (at_builtin;go_loud (refine zax _ rfl _ _ rfl base _ o4 [y] _ 1 1 rfl rfl (R1.out.alloc _) (ziL _ _ y HWY.out rfl) rfl (fun e=>by cases e) (by rw[←HON.out];omega) (by simp;have:=B5.out.size;omega) ?_;intro v6 w6 ho6 hg6 hk6;obtain⟨A6,c6,hv6,-,-,-⟩:=ho6.shape;have HO6:=Hh ho6;have HG6:=Hh (show World.grownBy _ w6 (Value.slice A1 on cc1).ownBlock from hg6);have HK6:=Hh (show v6.ownBlock=(Value.slice A1 on cc1).ownBlock∨v6.ownBlock=some (w5.alloc _).heap.size from hk6);have R6:=Hh ((R2.out.gbr (World.grownBy_alloc w5 _ Option.none) (by simp)).gbr hg6 H4.out);have cz:=R6.out.cell (k:=p+1) (by omega);have fz:=R6.out.free (p+1);subst hv6;clear ho6 hg6 hk6)))
        go_ret3;rw[HR.out];have hws:w.heap.size≤w5.heap.size:=Nat.le_trans H8.out.size B5.out.size;have hgl:=R2.out.lt.2;have hky:=((H8.out.below B5.out).alloc _).gb HG6.out (fun i hi e=>(H6.out i e).elim .inr (fun e2=>by omega));refine cast ?_ (ziN (k:=o4.length+1) HSP.out QV.out HAD.out (List.prefix_append _ _) HO6.out R6.out Q3.out ?_ ?_ hky)
        ·simp
        ·intro e;rcases HK6.out with e2|e2
         ·exact H4.out (e2.symm.trans e)
         ·rw[e2] at e;simp at e;omega
        ·intro k hk;rcases HK6.out with e2|e2
         ·exact H6.out k (e2.symm.trans hk)
         ·rw[e2] at hk;simp at hk;exact .inr (by omega)
       ·obtain rfl:q=4:=by omega
        clear hq4 hq;go_wp2_with (first
         | (go_at_call 142;go_loud (refine(zez _ _ on o4 y _ QN.out HON.out.symm HWY.out).mono ?_;rintro e w5 ⟨rfl,b5⟩;have B5:=Hh b5;obtain⟨d1,d2,d3,d4,d5⟩:=Q7.out.at_.below (b5.block gx Q7.out.lt);rw[HF.out];have R2:=Hh (Q2.out.gbr (row:=Option.none) ⟨b5.os,b5.tape,b5.output,b5.size,fun i hi _=>b5.block i hi⟩ (by simp));have R1:=Hh (Q1.out.stays b5);clear b5))
         | (at_builtin;go_loud (refine zax _ rfl _ _ rfl base _ o4 [y] _ 1 1 rfl rfl (R1.out.alloc _) (ziL _ _ y HWY.out rfl) rfl (fun e=>by cases e) (by rw[←HON.out];omega) (by simp;have:=B5.out.size;omega) ?_;intro v6 w6 ho6 hg6 hk6;obtain⟨A6,c6,hv6,-,-,-⟩:=ho6.shape;have HO6:=Hh ho6;have HG6:=Hh (show World.grownBy _ w6 (Value.slice A1 on cc1).ownBlock from hg6);have HK6:=Hh (show v6.ownBlock=(Value.slice A1 on cc1).ownBlock∨v6.ownBlock=some (w5.alloc _).heap.size from hk6);have R6:=Hh ((R2.out.gbr (World.grownBy_alloc w5 _ Option.none) (by simp)).gbr hg6 H4.out);have cz:=R6.out.cell (k:=p+1) (by omega);have fz:=R6.out.free (p+1);subst hv6;clear ho6 hg6 hk6)))
        go_ret3;rw[HR.out];have hws:w.heap.size≤w5.heap.size:=Nat.le_trans H8.out.size B5.out.size;have hgl:=R2.out.lt.2;have hky:=((H8.out.below B5.out).alloc _).gb HG6.out (fun i hi e=>(H6.out i e).elim .inr (fun e2=>by omega));refine cast ?_ (ziN (k:=o4.length+1) HSP.out QV.out HAD.out (List.prefix_append _ _) HO6.out R6.out Q3.out ?_ ?_ hky)
        ·simp
        ·intro e;rcases HK6.out with e2|e2
         ·exact H4.out (e2.symm.trans e)
         ·rw[e2] at e;simp at e;omega
        ·intro k hk;rcases HK6.out with e2|e2
         ·exact H6.out k (e2.symm.trans hk)
         ·rw[e2] at hk;simp at hk;exact .inr (by omega)
      ·have HF:=Hh hf;have HAD:=Hh (zsa hf);clear hf;have t3:((fi:Int)+1==0)=false:=beq_eq_false_iff_ne.2 (by omega);have t4:(((fi+1:Nat):Int)==0)=false:=beq_eq_false_iff_ne.2 (by omega);rcases hcase with⟨hq4,hlv⟩|hq4
       ·have i4:(q:Int)<4:=by omega
        have t2:decide (1<y.lv)=false:=decide_eq_false (by rw[HYL.out];exact hlv);clear hlv;go_wp2_with (first
         | (go_at_call 142;go_loud (refine(zez _ _ on o4 y _ QN.out HON.out.symm HWY.out).mono ?_;rintro e w5 ⟨rfl,b5⟩;have B5:=Hh b5;rw[HF.out];have R2:=Hh (Q2.out.gbr (row:=Option.none) ⟨b5.os,b5.tape,b5.output,b5.size,fun i hi _=>b5.block i hi⟩ (by simp));have R1:=Hh (Q1.out.stays b5);have cz:=R2.out.cell (k:=p+1) (by omega);have fz:=R2.out.free (p+1);clear b5)))
        go_ret3;rw[HR.out];refine cast ?_ (ziN (k:=fi+1) HSP.out QV.out HAD.out (List.prefix_refl _) R1.out R2.out Q3.out H4.out ?_ (H8.out.below B5.out))
        ·simp
        ·exact H6.out
       ·obtain rfl:q=4:=by omega
        clear hq4 hq;go_wp2_with (first
         | (go_at_call 142;go_loud (refine(zez _ _ on o4 y _ QN.out HON.out.symm HWY.out).mono ?_;rintro e w5 ⟨rfl,b5⟩;have B5:=Hh b5;rw[HF.out];have R2:=Hh (Q2.out.gbr (row:=Option.none) ⟨b5.os,b5.tape,b5.output,b5.size,fun i hi _=>b5.block i hi⟩ (by simp));have R1:=Hh (Q1.out.stays b5);have cz:=R2.out.cell (k:=p+1) (by omega);have fz:=R2.out.free (p+1);clear b5)))
        go_ret3;rw[HR.out];refine cast ?_ (ziN (k:=fi+1) HSP.out QV.out HAD.out (List.prefix_refl _) R1.out R2.out Q3.out H4.out ?_ (H8.out.below B5.out))
        ·simp
        ·exact H6.out
theorem ztm {a b c:World}{g:Nat}(h:a.grownBy b (some g))(k:b.grownBy c (some g)):a.grownBy c (some g) :=
 ⟨k.os.trans h.os,k.tape.trans h.tape,k.output.trans h.output,Nat.le_trans h.size k.size,fun i hi hne=>(k.block i (Nat.lt_of_lt_of_le hi h.size) hne).trans (h.block i hi hne)⟩
theorem zfT (w:World)(g o:Nat)(a:Value):w.grownBy (w.setCell ⟨g,o,none⟩ a) (some g) :=
 ⟨rfl,rfl,rfl,by simp[World.setCell],fun i _ hi=>Below.heap_setCell _ _ _ _ (fun e=>hi (by rw[e]))⟩
structure Gv where
 s:Bool
 a:Option Addr
 c:Nat
 xs:List Nat
def gv0:Gv:=⟨false,none,0,[]⟩
def gat (l:List Gv)(i:Nat):Gv:=l[i]?.getD gv0
def encG (v:Gv):List Value:=[.bool v.s,.slice v.a v.xs.length v.c]
abbrev gvv (v:Gv):Value:=.agg #[.bool v.s,.slice v.a v.xs.length v.c]
theorem Tryz.infoG:(Tryz.prog.info? 48).map (fun i=>(i.zero,i.size,i.bytes))=some (some (gvv gv0),2,32):=by kernel_rfl
def gvcs (l:List Gv):List Value:=l.flatMap encG
theorem zsc (l:List Gv):(gvcs l).length=l.length*2:=by
 unfold gvcs
 induction l with
 | nil=>rfl
 | cons x l ih =>
  rw[List.flatMap_cons,List.length_append,ih,List.length_cons];show 2+_=_;omega
theorem zkU:∀(l:List Gv) (i j:Nat),i<l.length→j<2→(gvcs l)[i*2+j]?=(encG (gat l i))[j]?
 | [],i,_,hi,_=>by simp at hi
 | x :: l,0,j,_,hj=>by
  show(encG x++gvcs l)[0*2+j]?=_;rw[List.getElem?_append_left (by show _<2;omega),show 0*2+j=j by omega];rfl
 | x :: l,i+1,j,hi,hj=>by
  show(encG x++gvcs l)[(i+1)*2+j]?=_;rw[List.getElem?_append_right (by show 2≤_;omega),show(i+1)*2+j-(encG x).length=i*2+j by show _-2=_;omega,zkU l i j (by simpa using hi) hj];rfl
theorem zmi:∀(L:List Gv) (i:Nat) (v:Gv),i<L.length→gvcs (L.set i v)=((gvcs L).set (i*2) (.bool v.s)).set (i*2+1) (.slice v.a v.xs.length v.c)
 | [],i,v,h=>by simp at h
 | x :: L,0,v,h=>rfl
 | x :: L,i+1,v,h=>by
  have ih:=zmi L i v (by simpa using h);show encG x++gvcs (L.set i v)=_;rw[ih];show _=((encG x++gvcs L).set ((i+1)*2) _).set ((i+1)*2+1) _;have e:∀(l:List Value) (k:Nat) (u:Value),(encG x++l).set ((i+1)*2+k) u=encG x++l.set (i*2+k) u:=fun l k u=>by
   rw[List.set_append_right _ _ (by show 2≤_;omega)];congr 2;show(i+1)*2+k-2=_;omega
  have e0:∀(l:List Value) (u:Value),(encG x++l).set ((i+1)*2) u=encG x++l.set (i*2) u:=fun l u=>e l 0 u;rw[e0,e]
def OwnG (w:World)(base g n:Nat)(l:List Gv):Prop:=l.length=n∧w.ownsRow base 48 2 (.slice (some ⟨g,0,none⟩) n n) n (gvcs l)
theorem OwnG.row {w:World}{base g n:Nat}{l:List Gv}(h:OwnG w base g n l):base≤g∧g<w.heap.size∧(∀i,i<n→w.cell? ⟨g,i*2,none⟩=some (.bool (gat l i).s)∧w.cell? ⟨g,i*2+1,none⟩=some (.slice (gat l i).a (gat l i).xs.length (gat l i).c))∧(∀o,w.frozen? ⟨g,o,none⟩=false)∧(∀o v,w.cell? ⟨g,o,none⟩=some v→∀k,v≠.int .u32 k):=by
 obtain⟨hn,h⟩:=h;rcases h.2 with⟨h',_⟩|⟨g',cap,cur,h',hb,hg,hnc,hcm,hcs,htake⟩
 ·cases h'
 ·cases h';have hlt:g<w.heap.size:=by
   rcases Nat.lt_or_ge g w.heap.size with hlt|hge
   ·exact hlt
   ·rw[Array.getElem?_eq_none hge] at hg;cases hg
  have hcell:∀i,i<n→∀j,j<2→w.cell? ⟨g,i*2+j,none⟩=(encG (gat l i))[j]?:=by
   intro i hi j hj;have hlt:i*2+j<n*2:=by omega
   rw[cell_of_row w g (i*2+j) cur _ (0,0) hg,←zkU l i j (by omega) hj,←htake,List.getElem?_take,if_pos hlt];simp
  refine⟨hb,hlt,fun i hi=>⟨hcell i hi 0 (by omega),hcell i hi 1 (by omega)⟩,fun o=>frozen_of_row _ _ _ _ _ hg,?_⟩;intro o v hv k e;subst e;rw[cell_of_row w g o cur _ (0,0) hg] at hv;have ho:o<n*2:=by
   have:=(Array.getElem?_eq_some_iff.1 hv).1;omega
  have h2:(gvcs l)[o]?=some (.int .u32 k):=by
   rw[←htake,List.getElem?_take,if_pos ho,Array.getElem?_toList];exact hv
  have h3:(Value.int .u32 k)∈gvcs l:=List.mem_of_getElem? h2;obtain⟨x,_,hx⟩:=List.mem_flatMap.1 h3;simp[encG] at hx
theorem OwnG.kept {w w':World}{base g n:Nat}{l:List Gv}(h:OwnG w base g n l){row:Option Nat}(hg:w.grownBy w' row)(hv:row≠some g):OwnG w' base g n l :=
 ⟨h.1,World.ownsRow.kept h.2 hg (.inr fun e=>hv e.symm)⟩
theorem OwnG.next {w w':World}{base g n:Nat}{l:List Gv}(h:OwnG w base g n l)(hb:Below w.heap.size w w'):OwnG w' base g n l:=h.kept (gbN hb) (by simp)
theorem OwnG.put {w:World}{base g n:Nat}{L:List Gv}(h:OwnG w base g n L){i:Nat}(hi:i<n)(v:Gv) :
  OwnG ((w.setCell ⟨g,i*2,none⟩ (.bool v.s)).setCell ⟨g,i*2+1,none⟩ (.slice v.a v.xs.length v.c)) base g n (L.set i v):=by
 refine⟨by rw[List.length_set];exact h.1,?_⟩;rw[zmi L i v (by rw[h.1];exact hi)];exact((h.2.stored (i*2) (.bool v.s)).1.stored (i*2+1) (.slice v.a v.xs.length v.c)).1
theorem zwm (n:Nat):(madeCells (gvv gv0).cells (n*2)).toList=gvcs (List.replicate n gv0):=by
 refine List.ext_getElem? fun t=>?_;by_cases ht:t<n*2
 ·obtain⟨i,j,rfl,hj⟩:∃i j,t=i*2+j∧j<2:=⟨t / 2,t%2,by omega,by omega⟩;rw[zkU _ i j (by rw[List.length_replicate];omega) hj];have e1:gat (List.replicate n gv0) i=gv0:=by
   unfold gat;rw[List.getElem?_replicate,if_pos (by omega)];rfl
  rw[e1];simp only[madeCells,Array.getElem?_toList]
  match j,hj with
  | 0,_ =>
   simp only[Nat.add_zero] at ht ⊢;simp[ht,gv0,encG,Value.cells,show i*2%2=0 by omega]
  | 1,_=>simp[ht,gv0,encG,Value.cells,show(i*2+1)%2=1 by omega]
 ·rw[List.getElem?_eq_none (by rw[Array.length_toList,size_madeCells];omega),List.getElem?_eq_none (by rw[zsc,List.length_replicate];omega)]
theorem OwnG.made {w:World}{base g n:Nat}(h:w.ownsRow base 48 2 (.slice (some ⟨g,0,none⟩) n n) n (madeCells (gvv gv0).cells (n*2)).toList):OwnG w base g n (List.replicate n gv0) :=
 ⟨List.length_replicate,by rw[←zwm];exact h⟩
theorem zjK {L:List Gv}{i:Nat}(h:i<L.length)(u:Gv):gat (L.set i u) i=u:=by
 unfold gat;rw[List.getElem?_set,if_pos rfl,if_pos h];rfl
theorem znu {L:List Gv}{i j:Nat}(h:i≠j)(u:Gv):gat (L.set i u) j=gat L j:=by
 unfold gat;rw[List.getElem?_set,if_neg h]
structure GIn (W:World)(v:Gv)(m:Int):Prop where
 us:Us W v.a v.c v.xs
 cn:zaE v.s v.xs
 v:ival v.s v.xs=m
theorem GIn.next {W W1:World}{v:Gv}{m:Int}(h:GIn W v m)(k:Below W.heap.size W W1):GIn W1 v m:=⟨h.us.below k,h.cn,h.v⟩
theorem GIn.over {W W1:World}{v:Gv}{m:Int}{g:Nat}(h:GIn W v m)(hg:∀o v,W.cell? ⟨g,o,none⟩=some v→∀k,v≠.int .u32 k)(hk:W.grownBy W1 (some g)):GIn W1 v m :=
 ⟨zcF h.us (fun q h1 h2=>hk.block q h1 (fun e=>h2 (by cases e;rfl))) hk.size (zdS h.us hg),h.cn,h.v⟩
end Go.Proofs.YtfjajpnfjjdnpaaGreatDoor

namespace Go.Proofs.YtfjajpnfjjdnpaaGreatDoor
open Nds
def zci:Tr→Int→Int→List Cl
 | .e,_,_=>[]
 | .s k,X,Y=>[⟨X,Y,k⟩]
 | .n v a b c d,X,Y=>zci a X Y++zci b (X+p2 (v.toNat-1)) Y++zci c X (Y+p2 (v.toNat-1))++zci d (X+p2 (v.toNat-1)) (Y+p2 (v.toNat-1))
def zaG:Tr→Nat
 | .e=>0
 | .s _=>1
 | .n _ a b c d=>zaG a+zaG b+zaG c+zaG d
theorem zdl:∀(t:Tr) (X Y:Int),(zci t X Y).length=zaG t
 | .e,_,_=>rfl
 | .s k,_,_=>rfl
 | .n v a b c d,X,Y=>by
  show(zci a X Y++zci b (X+p2 (v.toNat-1)) Y++zci c X (Y+p2 (v.toNat-1))++zci d (X+p2 (v.toNat-1)) (Y+p2 (v.toNat-1))).length=zaG a+zaG b+zaG c+zaG d;rw[List.length_append,List.length_append,List.length_append,zdl a,zdl b,zdl c,zdl d]
theorem zph:∀(l m:List Cl) (x y:Int),lk (l++m) x y=if (∃c∈l,c.x=x∧c.y=y) then lk l x y else lk m x y
 | [],m,x,y=>by
  rw[if_neg (by rintro⟨c,hc,_⟩;cases hc)];rfl
 | a :: l,m,x,y=>by
  show(if a.x=x∧a.y=y then a.s else lk (l++m) x y)=if _ then (if a.x=x∧a.y=y then a.s else lk l x y) else _
  by_cases ha:a.x=x∧a.y=y
  ·rw[if_pos ha,if_pos ⟨a,by simp,ha⟩,if_pos ha]
  ·rw[if_neg ha,zph l m x y];by_cases hl:∃c∈l,c.x=x∧c.y=y
   ·obtain⟨c,hc,h⟩:=hl;rw[if_pos ⟨c,hc,h⟩,if_pos ⟨c,by simp[hc],h⟩,if_neg ha]
   ·rw[if_neg hl,if_neg];rintro⟨c,hc,h⟩;rcases List.mem_cons.1 hc with rfl|hc
    ·exact ha h
    ·exact hl ⟨c,hc,h⟩
theorem zgI {X Y h:Int}{l m:List Cl}(hl:∀c∈l,sqB X Y h c=true)(hm:∀c∈m,sqB X Y h c=false)(x y:Int):lk (l++m) x y=lk l x y+lk m x y:=by
 rw[zph];by_cases he:∃c∈l,c.x=x∧c.y=y
 ·rw[if_pos he];obtain⟨c,hc,h1⟩:=he;have h2:=zbf.1 (hl c hc);rw[zcg (l:=m) (fun d hd e=>by
   have h3:=hm d hd;have h4:sqB X Y h d=true:=zbf.2 (by rw[e.1,e.2,←h1.1,←h1.2];exact h2);rw[h4] at h3;cases h3)]
  omega
 ·rw[if_neg he,zcg (l:=l) (fun d hd e=>he ⟨d,hd,e⟩)];omega
theorem zcM:∀(t:Tr) (n:Nat) (X Y:Int),wfT (n:Int) t→Fine (zci t X Y)∧(∀c∈zci t X Y,sqB X Y (p2 n) c=true)∧∀x y,lk (zci t X Y) x y=zae t (x-X) (y-Y)
 | .e,_,_,_,_=>⟨⟨fun c hc=>absurd hc (List.not_mem_nil),List.Pairwise.nil⟩,fun c hc=>absurd hc (List.not_mem_nil),fun x y=>rfl⟩
 | .s k,n,X,Y,hw=>by
  have hn:(n:Int)=0:=hw.1;have:n=0:=by omega
  subst this;refine⟨⟨fun c hc=>?_,List.pairwise_singleton _ _⟩,fun c hc=>?_,fun x y=>?_⟩
  ·rw[List.mem_singleton.1 hc];exact⟨hw.2.1,hw.2.2⟩
  ·rw[List.mem_singleton.1 hc,zbf,zfd];show X≤X∧X<X+1∧Y≤Y∧Y<Y+1;omega
  ·show(if X=x∧Y=y then k else 0)=if x-X=0∧y-Y=0 then k else 0
   by_cases h:X=x∧Y=y
   ·rw[if_pos h,if_pos (by omega)]
   ·rw[if_neg h,if_neg (by omega)]
 | .n v a b c d,n,X,Y,hw=>by
  obtain⟨m,rfl,rfl,ha,hb,hc,hd,_⟩:=wf_n hw;have hp:=zar m;have ep:=zau m;obtain⟨fa,sa,ka⟩:=zcM a m X Y ha;obtain⟨fb,sb,kb⟩:=zcM b m (X+p2 m) Y hb;obtain⟨fc,sc,kc⟩:=zcM c m X (Y+p2 m) hc;obtain⟨fd,sd,kd⟩:=zcM d m (X+p2 m) (Y+p2 m) hd;have e:((m:Int)+1).toNat-1=m:=by omega
  have el:zci (.n ((m:Int)+1) a b c d) X Y=zci a X Y++zci b (X+p2 m) Y++zci c X (Y+p2 m)++zci d (X+p2 m) (Y+p2 m):=by
   show zci a X Y++zci b (X+p2 (((m:Int)+1).toNat-1)) Y++zci c X (Y+p2 (((m:Int)+1).toNat-1))++zci d (X+p2 (((m:Int)+1).toNat-1)) (Y+p2 (((m:Int)+1).toNat-1))=_;rw[e]
  rw[el];have apart:∀{l1 l2:List Cl} {X1 Y1 X2 Y2:Int},(∀c∈l1,sqB X1 Y1 (p2 m) c=true)→(∀c∈l2,sqB X2 Y2 (p2 m) c=true)→(X1+p2 m≤X2∨X2+p2 m≤X1∨Y1+p2 m≤Y2∨Y2+p2 m≤Y1)→∀c∈l1,∀d∈l2,¬ (c.x=d.x∧c.y=d.y):=fun h1 h2 h3 c hc d hd e=>by
   have a1:=zbf.1 (h1 c hc);have a2:=zbf.1 (h2 d hd);omega
  have outOf:∀{l2:List Cl} {X1 Y1 X2 Y2:Int},(∀c∈l2,sqB X2 Y2 (p2 m) c=true)→(X1+p2 m≤X2∨X2+p2 m≤X1∨Y1+p2 m≤Y2∨Y2+p2 m≤Y1)→∀c∈l2,sqB X1 Y1 (p2 m) c=false:=fun h2 h3 c hc=>by
   have a2:=zbf.1 (h2 c hc);cases hq:sqB _ _ (p2 m) c
   ·rfl
   ·have:=zbf.1 hq;omega
  refine⟨⟨fun q hq=>?_,?_⟩,fun q hq=>?_,fun x y=>?_⟩
  ·rcases List.mem_append.1 hq with hq|hq
   ·rcases List.mem_append.1 hq with hq|hq
    ·rcases List.mem_append.1 hq with hq|hq
     ·exact fa.1 q hq
     ·exact fb.1 q hq
    ·exact fc.1 q hq
   ·exact fd.1 q hq
  ·rw[List.pairwise_append,List.pairwise_append,List.pairwise_append];refine⟨⟨⟨fa.2,fb.2,apart sa sb (by omega)⟩,fc.2,fun q hq=>?_⟩,fd.2,fun q hq=>?_⟩
   ·rcases List.mem_append.1 hq with hq|hq
    ·exact apart sa sc (by omega) q hq
    ·exact apart sb sc (by omega) q hq
   ·rcases List.mem_append.1 hq with hq|hq
    ·rcases List.mem_append.1 hq with hq|hq
     ·exact apart sa sd (by omega) q hq
     ·exact apart sb sd (by omega) q hq
    ·exact apart sc sd (by omega) q hq
  ·rw[zbf,zau];rcases List.mem_append.1 hq with hq|hq
   ·rcases List.mem_append.1 hq with hq|hq
    ·rcases List.mem_append.1 hq with hq|hq
     ·have:=zbf.1 (sa q hq);omega
     ·have:=zbf.1 (sb q hq);omega
    ·have:=zbf.1 (sc q hq);omega
   ·have:=zbf.1 (sd q hq);omega
  ·rw[List.append_assoc,List.append_assoc,zgI sa (fun q hq=>by
    rcases List.mem_append.1 hq with hq|hq
    ·exact outOf sb (by omega) q hq
    ·rcases List.mem_append.1 hq with hq|hq
     ·exact outOf sc (by omega) q hq
     ·exact outOf sd (by omega) q hq),zgI sb (fun q hq=>by
    rcases List.mem_append.1 hq with hq|hq
    ·exact outOf sc (by omega) q hq
    ·exact outOf sd (by omega) q hq),zgI sc (fun q hq=>outOf sd (by omega) q hq),ka,kb,kc,kd,zcf ha hb hc hd]
   rw[show x-(X+p2 m)=x-X-p2 m by omega,show y-(Y+p2 m)=y-Y-p2 m by omega];omega
theorem zjL:∀{l:List Cl} {x y:Int},lk l x y≠0→∃c∈l,c.x=x∧c.y=y∧c.s=lk l x y
 | [],_,_,h=>absurd rfl h
 | c :: l,x,y,h=>by
  by_cases hc:c.x=x∧c.y=y
  ·exact⟨c,by simp,hc.1,hc.2,by unfold lk;rw[if_pos hc]⟩
  ·have e:lk (c :: l) x y=lk l x y:=by
    conv=>lhs;unfold lk
    rw[if_neg hc]
   rw[e] at h ⊢;obtain⟨d,hd,h1⟩:=zjL h;exact⟨d,by simp[hd],h1⟩
theorem zpi:∀{l:List Cl},l.Pairwise (fun a b=>¬ (a.x=b.x∧a.y=b.y))→∀{c:Cl},c∈l→lk l c.x c.y=c.s
 | a :: l,h,c,hc=>by
  obtain⟨h1,h2⟩:=List.pairwise_cons.1 h;unfold lk;rcases List.mem_cons.1 hc with rfl|hc
  ·rw[if_pos ⟨rfl,rfl⟩]
  ·rw[if_neg (h1 c hc),zpi h2 hc]
theorem zpj {l m:List Cl}(hl:Fine l)(hm:Fine m)(h:∀x y,lk l x y=lk m x y):l.Perm m:=by
 have nd:∀{l:List Cl},Fine l→l.Nodup:=fun h=>h.2.imp fun {a b} h e=>h ⟨congrArg Cl.x e,congrArg Cl.y e⟩;have key:∀{l m:List Cl} {c:Cl},Fine l→Fine m→(∀x y,lk l x y=lk m x y)→c∈l→c∈m:=fun {l m c} hl hm h hc=>by
  have h1:=zpi hl.2 hc;rw[h] at h1;have h0:=(hl.1 c hc).1;obtain⟨d,hd,e1,e2,e3⟩:=zjL (l:=m) (x:=c.x) (y:=c.y) (by rw[h1];omega);have:c=d:=Cl.ext' e1.symm e2.symm (by rw[e3,h1]);rw[this];exact hd
 exact(List.perm_ext_iff_of_nodup (nd hl) (nd hm)).2 fun c=>⟨key hl hm h,key hm hl fun x y=>(h x y).symm⟩
theorem zfv {l:List Cl}(h:l.Pairwise (fun a b=>¬ (a.x=b.x∧a.y=b.y)))(x y:Int):ziG l x y=lk l x y:=by
 suffices hk:∀k,k≤l.length→ziG (l.take k) x y=lk (l.take k) x y by
  have:=hk l.length (Nat.le_refl _)
  rwa [List.take_of_length_le (Nat.le_refl _)] at this
 intro k
 induction k with
 | zero=>exact fun _=>rfl
 | succ k ih =>
  intro hk;rw[List.take_succ_eq_append_getElem (by omega),zhL,ih (by omega),zph];have hp:∀d∈l.take k,¬ (d.x=l[k].x∧d.y=l[k].y):=fun d hd=>by
   obtain⟨i,hi,rfl⟩:=List.getElem_of_mem hd;rw[List.length_take] at hi;rw[List.getElem_take];exact List.pairwise_iff_getElem.1 h i k _ _ (by omega)
  by_cases hc:l[k].x=x∧l[k].y=y
  ·rw[if_pos hc,if_neg (fun⟨d,hd,e⟩=>hp d hd ⟨e.1.trans hc.1.symm,e.2.trans hc.2.symm⟩)];unfold lk;rw[if_pos hc]
  ·rw[if_neg hc];by_cases hd:∃d∈l.take k,d.x=x∧d.y=y
   ·rw[if_pos hd]
   ·rw[if_neg hd,zcg fun d hd' e=>hd ⟨d,hd',e⟩];unfold lk;rw[if_neg hc];rfl
theorem zdm (l:List Cl):Srt (zaP l):=(zbC l).1
theorem zmj (l:List Cl)(x y:Int):lk (zaP l) x y=ziG l x y:=(zbC l).2.1 x y
theorem zfe {l:List Cl}(h:∀c∈l,0≤c.s∧c.s≤255):Fine (zaP l) :=
 zrU (zdm l) fun c hc=>by
  obtain⟨h1,h2⟩:=(zbC l).2.2 c hc;have:=h c h2;omega
theorem zpk {l:List Cl}(h:Fine l):(zaP l).length=l.length :=
 (zpj (zfe fun c hc=>by have:=h.1 c hc;omega) h fun x y=>by rw[zmj,zfv h.2]).length_eq
def zaX (L:List Cl)(out:List Nd):Prop :=
 ∃(t:Tr) (n:Nat),wfT (n:Int) t∧(∀k,t≠.s k)∧holT t=false∧out=(enc t []).1∧∀x y,zaz t x y=lk L x y
theorem zhN {L M:List Cl}{a b:List Nd}(h:zaX L a)(k:zaX M b)(e:∀x y,lk L x y=lk M x y):a=b:=by
 obtain⟨t,n,h1,h2,h3,rfl,h5⟩:=h;obtain⟨u,m,k1,k2,k3,rfl,k5⟩:=k;rw[zoZ h1 k1 h2 k2 h3 k3 fun x y=>by rw[h5,k5,e]]
theorem ztn {t:Tr}{v:Int}(hw:wfT v t)(hs:∀k,t≠.s k):∃q:Nat,wfT (q:Int) t:=by
 cases t with
 | e=>exact⟨0,trivial⟩
 | s k=>exact absurd rfl (hs k)
 | n u a b c d =>
  have h1:=hw.1;have h2:=hw.2.1;exact⟨v.toNat,by rwa [show((v.toNat:Nat):Int)=v by omega]⟩
theorem zhO {l:List Nd}(hl:zac l=true){n:Nat}(hn:n≤l.length){L:List Cl}(h:∀x y,zaz (den l n) x y=lk L x y):zaX L (OfL l n):=by
 obtain⟨v,h1,h2,h3⟩:=zrP hl hn;obtain⟨q,hq⟩:=ztn h1 h2;obtain⟨u,hu⟩:=zkH hl hn;obtain⟨p,hp⟩:=ztn hu (fun k=>zjH);exact⟨_,q,hq,h2,h3,rfl,fun x y=>by rw[zoY hp];exact h x y⟩
theorem zaX.good {L:List Cl}{out:List Nd}(h:zaX L out):zaq out:=by
 obtain⟨t,n,h1,h2,h3,rfl,h5⟩:=h;exact(zbc _ _ [] h1 zcu).good
theorem zaX.quad {L:List Cl}{out:List Nd}(h:zaX L out):zeZ out=true:=by
 obtain⟨t,n,h1,h2,h3,rfl,h5⟩:=h;exact zjI h1 h2 h3
theorem zaX.den {L:List Cl}{out:List Nd}(h:zaX L out)(x y:Int):zaz (den out out.length) x y=lk L x y:=by
 obtain⟨t,n,h1,h2,h3,rfl,h5⟩:=h;rw[←h5];by_cases he:t=.e
 ·subst he;show zaz (Nds.den [] 0) x y=_;rw[zav]
 ·rw[(ziD h1 he h2).2.2]
def zpl (l:List Nd):List Cl:=zci (den l l.length) (-(p2 ((at_ l (l.length-1)).lv.toNat-1))) (-(p2 ((at_ l (l.length-1)).lv.toNat-1)))
theorem zeA {l:List Nd}(hl:zac l=true):Fine (zpl l)∧∀x y,lk (zpl l) x y=zaz (den l l.length) x y:=by
 unfold zpl;rcases Nat.eq_zero_or_pos l.length with h0|h0
 ·rw[h0,zav];exact⟨⟨fun c hc=>absurd hc (List.not_mem_nil),List.Pairwise.nil⟩,fun x y=>rfl⟩
 ·obtain⟨p,hp⟩:∃p,l.length=p+1:=⟨l.length-1,by omega⟩;rw[hp,Nat.add_sub_cancel];have hw:=zbv hl p (by omega);have hv:=zap (zad hl (i:=p) (by omega));obtain⟨n,hn⟩:∃n:Nat,(at_ l p).lv=(n:Int):=⟨_,(Int.toNat_of_nonneg (by omega)).symm⟩;rw[hn] at hw ⊢;rw[Int.toNat_natCast];obtain⟨h1,h2,h3⟩:=zcM (den l (p+1)) n (-(p2 (n-1))) (-(p2 (n-1))) hw;refine⟨h1,fun x y=>?_⟩;rw[h3];unfold zaz;generalize den l (p+1)=t at hw;cases t with
  | e=>rfl
  | s k =>
   have:=hw.1;omega
  | n v a b c d =>
   have e:v=(n:Int):=hw.1.symm;subst e;show zae _ _ _=zae _ (x+p2 ((n:Int).toNat-1)) (y+p2 ((n:Int).toNat-1));rw[Int.toNat_natCast,show x - -(p2 (n-1))=x+p2 (n-1) by omega,show y - -(p2 (n-1))=y+p2 (n-1) by omega]
def zcy (l:List Nd):List Cl:=zaP (zpl l)
theorem ziO {l:List Nd}(hl:zac l=true)(x y:Int):lk (zcy l) x y=zaz (den l l.length) x y:=by
 unfold zcy;rw[zmj,zfv (zeA hl).1.2,(zeA hl).2]
theorem zjM (l:List Nd):Srt (zcy l):=zdm _
theorem znv {l:List Nd}(hl:zac l=true):Fine (zcy l):=zfe fun c hc=>by
 have:=(zeA hl).1.1 c hc;omega
theorem zpm {l:List Nd}(hl:zac l=true):(zcy l).length=zaG (den l l.length):=by
 unfold zcy;rw[zpk (zeA hl).1];unfold zpl;exact zdl _ _ _
theorem zaX.cells {L:List Cl}{out:List Nd}(h:zaX L out)(hs:Srt L)(h0:∀c∈L,c.s≠0):zcy out=L :=
 zfS (zjM out) hs (fun c hc=>by have:=(znv h.good.1).1 c hc;omega) h0 fun x y=>by rw[ziO h.good.1,h.den]
theorem zgJ {l:List Nd}(hl:zac l=true):zaX (zcy l) (OfL l l.length):=zhO hl (Nat.le_refl _) fun x y=>(ziO hl x y).symm
end Go.Proofs.YtfjajpnfjjdnpaaGreatDoor

namespace Go.Proofs.YtfjajpnfjjdnpaaGreatDoor
open Go.RowKit Num
def FrU (B:Nat)(A:Option Addr):Prop:=∀a,A=some a→B≤a.block
def zdL (n:Int)(w:World)(e:Ending)(w':World):Prop :=
 ∃A c s rs,e=.returned (.agg #[.bool s,.slice A rs.length c])∧Us w' A c rs∧zaE s rs∧ival s rs=n∧Below w.heap.size w w'∧FrU w.heap.size A
theorem zdL.box {w w1:World}{g:Nat}{A A0:Option Addr}{c n0 c0:Nat}{s s0:Bool}{rs:List Nat}{n:Int}(hg:w.heap.size≤g)(hb:Box w1 g (.bool s0) (.slice A0 n0 c0))(q:Us w1 A c rs)(k:zaE s rs)(v:ival s rs=n)(b:Below w.heap.size w w1)(f:FrU w.heap.size A) :
  zdL n w (.returned (.agg #[.bool s,.slice A rs.length c])) ((w1.setCell ⟨g,0,none⟩ (.bool s)).setCell ⟨g,1,none⟩ (.slice A rs.length c)) :=
 ⟨A,c,s,rs,rfl,q.boxed hb _ _,k,v,(b.setCell (p:=⟨g,0,none⟩) hg _).setCell (p:=⟨g,1,none⟩) hg _,f⟩
end Go.Proofs.YtfjajpnfjjdnpaaGreatDoor
