import Derived.Test.YtikehjindobpkaaGreatGNcRS
import Derived.Test.YtikehjindobpkaaGreatLay0

set_option linter.unusedVariables false
set_option linter.unusedSimpArgs false
set_option maxRecDepth 100000
set_option maxHeartbeats 6400000
namespace Go.Proofs.YtikehjindobpkaaGreat
open Go.RowKit Nds
def Dn (l out:List Nd)(ds:List Nat):Prop:=∀i,i≤l.length→0<ds.getD i 0→NumT out (den l i) ((ds.getD i 0:Nat):Int)
theorem Dn.pre {l out m:List Nd}{ds:List Nat}(h:Dn l out ds)(hp:out <+: m):Dn l m ds:=fun i hi h0=>num_pre hp (h i hi h0)
theorem Dn.set {l out:List Nd}{ds:List Nat}(h:Dn l out ds){j u:Nat}(hu:NumT out (den l j) (u:Int)):Dn l out (ds.set j u):=by
 intro i hi h0
 by_cases e:i=j
 ·subst e;by_cases hl:i<ds.length
  ·rw[List.getD_eq_getElem?_getD,List.getElem?_set_self hl];exact hu
  ·rw[List.set_eq_of_length_le (by omega)] at h0 ⊢;exact h i hi h0
 ·rw[List.getD_eq_getElem?_getD,List.getElem?_set_ne (fun e2=>e e2.symm),←List.getD_eq_getElem?_getD] at h0 ⊢;exact h i hi h0
def RetV (l:List Nd)(j:Nat)(out:List Nd)(base g n:Nat)(v:Value)(w:World)(e:Ending)(w':World):Prop :=
 ∃v' ds',e=.returned (.tuple #[v',.slice (some ⟨g,0,none⟩) (n+1) (n+1),.int .i64 (enc (den l j) out).2])∧OwnN w' base v' (enc (den l j) out).1∧OwnD w' base g (n+1) ds'∧Dn l (enc (den l j) out).1 ds' ∧
  v'.ownBlock≠some g∧(∀k,v'.ownBlock=some k→v.ownBlock=some k∨w.heap.size≤k)∧Ky (fun k=>k=g∨v.ownBlock=some k) w w'
theorem Ky.ns {P:Nat→Prop}{w w':World}(h:Ky P w w'){A:Option Addr}{c:Nat}{l:List Nd}(hn:Ns w A c l)(hp:∀a,A=some a→¬ P a.block):Ns w' A c l :=
 ⟨hn.1,hn.2.1,hn.2.2.1,fun h0=>by
  obtain⟨b,off,e,hlt,hc⟩:=hn.2.2.2 h0
  exact⟨b,off,e,Nat.lt_of_lt_of_le hlt h.size,fun i hi=>(hc i hi).below (h.block b hlt (hp _ e))⟩⟩
theorem Ky.cell {P:Nat→Prop}{w w':World}(h:Ky P w w'){a:Addr}{u:Value}(hc:w.cell? a=some u)(hp:¬ P a.block):w'.cell? a=some u :=
 (World.cell?_of_block (w:=w) (h.block a.block (World.block_lt_of_cell? w a hc) hp)).trans hc
theorem top_wf {l:List Nd}(h:looseB l=true){p:Nat}(hp:p<l.length){out:List Nd}(hi:InvT l out)(hl9:l.length≤1000000):(topN (kT l (at_ l p)) out (at_ l p).lv).wf:=by
 have hv:=fit_lv (loose_fit h hp)
 have key:∀i,i<4→in64 (numK (kT l (at_ l p)) out i):=by
  intro i hi4
  have h1:=inv_outK h hp hi i (by omega)
  have h2:=inv_outK h hp hi (i+1) (by omega)
  have hs:=enc_spec _ _ _ (kT_wf h hp hi4) h1.1
  have:=(kid_num (out:=outK (kT l (at_ l p)) out (i+1)) h2.1.1 hv.1 (kT_wf h hp hi4) hs.num).1
  exact kid_in64 this (by have:=h2.len;omega)
 exact⟨⟨by show _≤(at_ l p).lv;omega,by show(at_ l p).lv≤_;omega⟩,key 0 (by omega),key 1 (by omega),key 2 (by omega),key 3 (by omega)⟩
theorem add_none {out:List Nd}{x:Nd}(h:fnd out x=0):add out x=(out++[x],out.length+1):=by
 unfold add
 rw[if_pos h]
theorem add_some {out:List Nd}{x:Nd}{k:Nat}(h:fnd out x=k+1):add out x=(out,k+1):=by
 unfold add
 rw[if_neg (by omega),h]
theorem kT_up {l:List Nd}{x:Nd}(hx:fitB l x=true)(h1:x.lv≠1){i:Nat}(hi:i<4):∃r:Nat,r≤l.length∧kT l x i=den l r∧x.kid i=(r:Int):=by
 unfold kT
 rw[kidT_den h1]
 rcases kid_up h1 (fit_kid hx hi) with e|⟨q,e,hq,_⟩
 ·exact⟨0,Nat.zero_le _,by rw[e];rfl,by rw[e];rfl⟩
 ·exact⟨q+1,by omega,by rw[e,show((q:Int)+1).toNat=q+1 by omega],by omega⟩
theorem retV_of {l out o4 o5:List Nd}{y:Nd}{p k base g n:Nat}{v v6:Value}{w w6:World}{ds1:List Nat}{u:Int}(hspec:EncT u (den l (p+1)) out (enc (den l (p+1)) out))(hv2:enc (den l (p+1)) out=((add o4 y).1,((add o4 y).2:Int)))(had:add o4 y=(o5,k))(hpre:o4 <+: o5)
  (h1:OwnN w6 base v6 o5) (h2:OwnD w6 base g (n+1) ds1) (h3:Dn l o4 ds1) (h4:v6.ownBlock≠some g) (h5:∀k,v6.ownBlock=some k→v.ownBlock=some k∨w.heap.size≤k) (h6:Ky (fun k=>k=g∨v.ownBlock=some k) w w6) :
  RetV l (p+1) out base g n v w (.returned (.tuple #[v6,.slice (some ⟨g,0,none⟩) (n+1) (n+1),.int .i64 (k:Int)])) (w6.setCell ⟨g,p+1,none⟩ (.int .i64 (k:Int))):=by
 have hn:=hspec.num
 rw[hv2,had] at hn
 unfold RetV
 rw[hv2,had]
 exact⟨v6,ds1.set (p+1) k,rfl,h1.gbr (gb_setCell _ _ _) (.inr h4),h2.set _ _,(h3.pre hpre).set hn,h4,h5,h6.set _ (fun _=>.inl rfl) _⟩
theorem mix_self (x:Nd)(q:Nat):mix x x q=x:=by
 unfold mix
 simp only[ite_self]
theorem drop3 {P:Nat→Prop}{w w':World}(h:Ky P w w')(n:Nat):Ky P w (w'.drewN n):=⟨h.os,h.tape,h.output,h.size,h.block⟩
theorem rvisit_e (A:Option Addr)(c n E base g:Nat)(l:List Nd)(hl:looseB l=true)(hn:l.length=n)(hn9:n≤990000)(j:Nat)(out:List Nd)(ds:List Nat)(v:Value)(w:World)(hj:j≤n)(he:(den l j).isE=true)(hcap:n≤c∧c≤9223372036854775807)
  (hdn:Dn l out ds) (hcs:∀i,i≤n→w.cell? ⟨E,i,none⟩=some (.bool (empB l i))) (how:OwnN w base v out) (hod:OwnD w base g (n+1) ds) (hvg:v.ownBlock≠some g) :
  Calls Tryz.prog 82 #[.slice A n c,.slice (some ⟨E,0,none⟩) (n+1) (n+1),.int .i64 (j:Int),v,.slice (some ⟨g,0,none⟩) (n+1) (n+1)] w (RetV l j out base g n v w):=by
 have hec:=hcs j hj
 rw[empB_den hl (by omega),he] at hec
 have HO:=Lib.hid how
 have HD:=Lib.hid hod
 have HDN:=Lib.hid hdn
 have HVG:=Lib.hid hvg
 have HEE:=Lib.hid he
 have i1:(j:Int)<(n:Int)+1:=by omega
 have i0:(0:Int)≤(j:Int):=by omega
 obtain⟨R,hR⟩:∃R,R=RetV l j out base g n v w:=⟨_,rfl⟩
 rw[←hR]
 have HR:=Lib.hid hR
 clear hcs how hod hdn hvg hR hl hn he
 go_enter Tryz.func82,Tryz.ntmps82
 go_wp2_with fail
 go_ret3
 rw[HR.out]
 unfold RetV
 rw[isE_iff.1 HEE.out]
 exact⟨v,ds,rfl,HO.out,HD.out,HDN.out,HVG.out,fun k hk=>.inl hk,Ky.refl _ _⟩
theorem rvisit_done (A:Option Addr)(c n E base g:Nat)(l:List Nd)(hl:looseB l=true)(hn:l.length=n)(hn9:n≤990000)(j d:Nat)(out:List Nd)(ds:List Nat)(v:Value)(w:World)(hj:j≤n)(he:(den l j).isE=false)(hcap:n≤c∧c≤9223372036854775807)
  (hinv:InvT l out) (hdn:Dn l out ds) (hcs:∀i,i≤n→w.cell? ⟨E,i,none⟩=some (.bool (empB l i))) (how:OwnN w base v out) (hod:OwnD w base g (n+1) ds) (hvg:v.ownBlock≠some g) (hd:d=ds.getD j 0) (hd0:0<d) :
  Calls Tryz.prog 82 #[.slice A n c,.slice (some ⟨E,0,none⟩) (n+1) (n+1),.int .i64 (j:Int),v,.slice (some ⟨g,0,none⟩) (n+1) (n+1)] w (RetV l j out base g n v w):=by
 have hec:=hcs j hj
 rw[empB_den hl (by omega),he] at hec
 have hcd:=hod.cell (k:=j) (by omega)
 rw[←hd] at hcd
 have hnum:=hdn j (by omega) (by omega)
 rw[←hd] at hnum
 have HM:=Lib.hid (enc_memo hinv.1 _ _ hnum)
 have HO:=Lib.hid how
 have HD:=Lib.hid hod
 have HDN:=Lib.hid hdn
 have HVG:=Lib.hid hvg
 have i1:(j:Int)<(n:Int)+1:=by omega
 have i0:(0:Int)≤(j:Int):=by omega
 have t1:decide ((0:Int)<(d:Int))=true:=decide_eq_true (by omega)
 obtain⟨R,hR⟩:∃R,R=RetV l j out base g n v w:=⟨_,rfl⟩
 rw[←hR]
 have HR:=Lib.hid hR
 clear hcs how hod hdn hvg hR hl hn he hinv hd hnum
 go_enter Tryz.func82,Tryz.ntmps82
 go_wp2_with fail
 go_quiet (fail)
 go_wp2_with fail
 go_ret3
 rw[HR.out]
 unfold RetV
 rw[HM.out]
 exact⟨v,ds,rfl,HO.out,HD.out,HDN.out,HVG.out,fun k hk=>.inl hk,drop3 (Ky.refl _ _) _⟩
theorem rvisit_rec (A:Option Addr)(c n E base g:Nat)(l:List Nd)(hl:looseB l=true)(hn:l.length=n)(hn9:n≤990000)(hA:∀a,A=some a→a.block<base)(hE:E≠g)(hg:base≤g) :
  ∀(m j:Nat) (out:List Nd) (ds:List Nat) (v:Value) (w:World),j≤n→(0<j→(at_ l (j-1)).lv≤m)→InvT l out→Dn l out ds→Ns w A c l→(∀i,i≤n→w.cell? ⟨E,i,none⟩=some (.bool (empB l i))) →
   OwnN w base v out→OwnD w base g (n+1) ds→v.ownBlock≠some g→v.ownBlock≠some E→base≤w.heap.size →
  Calls Tryz.prog 82 #[.slice A n c,.slice (some ⟨E,0,none⟩) (n+1) (n+1),.int .i64 (j:Int),v,.slice (some ⟨g,0,none⟩) (n+1) (n+1)] w (RetV l j out base g n v w):=by
 have HLL:=Lib.hid hl
 have HL:=Lib.hid hn
 have HA:=Lib.hid hA
 have HE:=Lib.hid hE
 have HG:=Lib.hid hg
 clear hl hn hA hE hg
 intro m
 induction m with
 | zero =>
  intro j out ds v w hj hm hinv hdn hN hcs how hod hvg hve hbase
  have hcap:=hN.cap
  rw[HL.out] at hcap;have hj0:j=0:=by
   rcases Nat.eq_zero_or_pos j with h|h
   ·exact h
   ·have:=hm h
    have:=fit_lv (loose_fit HLL.out (i:=j-1) (by rw[HL.out];omega))
    omega
  exact rvisit_e A c n E base g l HLL.out HL.out hn9 j out ds v w hj (by rw[hj0,den_zero];rfl) hcap hdn hcs how hod hvg
 | succ m ih =>
  intro j out ds v w hj hm hinv hdn hN hcs how hod hvg hve hbase
  have hcap:=hN.cap
  rw[HL.out] at hcap;obtain⟨d,hd⟩:∃d,d=ds.getD j 0:=⟨_,rfl⟩
  cases he:(den l j).isE with
  | true=>exact rvisit_e A c n E base g l HLL.out HL.out hn9 j out ds v w hj he hcap hdn hcs how hod hvg
  | false =>
   by_cases hd0:0<d
   ·exact rvisit_done A c n E base g l HLL.out HL.out hn9 j d out ds v w hj he hcap hinv hdn hcs how hod hvg hd hd0
   ·have hec:=hcs j hj
    rw[empB_den HLL.out (by rw[HL.out];exact hj),he] at hec
    have hcd:=hod.cell (k:=j) (by omega)
    have hd00:ds.getD j 0=0:=by omega
    rw[hd00] at hcd;have hj0:j≠0:=fun e=>by rw[e,den_zero] at he;cases he
    obtain⟨p,rfl⟩:∃p,j=p+1:=⟨j-1,by omega⟩
    have hpl:p<l.length:=by rw[HL.out];omega
    obtain⟨b,off,rfl,hb,hc⟩:=hN.at_ (by omega)
    obtain⟨c1,c2,c3,c4,c5⟩:=hc p hpl
    have hfx:=Lib.hid (loose_fit HLL.out hpl)
    have hkf:=Lib.hid (loose_iff.1 HLL.out p hpl)
    have hv2:=enc_visit HLL.out hpl out
    rw[if_neg (by rw[he];simp)] at hv2
    have hspec:=enc_spec _ _ out (wf_den HLL.out p hpl) hinv.1
    have hwy:=top_wf HLL.out hpl hinv (by rw[HL.out];omega)
    have hiv:=inv_outK HLL.out hpl hinv
    have hpre:=outK_pre HLL.out hpl hinv
    have htone:=fun h=>top_one (l:=l) (x:=at_ l p) h out
    have hkone:=fun h=>kT_one (l:=l) (x:=at_ l p) h out
    have hlvm:(at_ l p).lv≤(m:Int)+1:=by
     have:=hm (by omega)
     rw[show p+1-1=p by omega] at this
     exact_mod_cast this
    obtain⟨x,hx⟩:∃x,x=at_ l p:=⟨_,rfl⟩
    rw[←hx] at c1 c2 c3 c4 c5 hfx hkf hv2 hwy hiv hpre htone hkone hlvm;obtain⟨y,hy⟩:∃y,y=topN (kT l x) out x.lv:=⟨_,rfl⟩
    rw[←hy] at hv2 hwy htone;have HY:=Lib.hid hy;have HX:=Lib.hid hx;have HV2:=Lib.hid hv2;have HSP:=Lib.hid hspec;have HWY:=Lib.hid hwy;have HIV:=Lib.hid hiv;have HPRE:=Lib.hid hpre;have HT1:=Lib.hid htone;have HK1:=Lib.hid hkone;have HNW:=Lib.hid hN;have HCS:=Lib.hid hcs;have HO:=Lib.hid how;have HD:=Lib.hid hod;have HDN:=Lib.hid hdn;have HVG:=Lib.hid hvg;have HVE:=Lib.hid hve;have HES:=Lib.hid (World.block_lt_of_cell? w _ (hcs 0 (Nat.zero_le _)))
    have i1:(p:Int)+1<(n:Int)+1:=by omega
    have i3:(p:Int)<(n:Int):=by omega
    have hxv:=fit_lv hfx.out
    obtain⟨R,hR⟩:∃R,R=RetV l (p+1) out base g n v w:=⟨_,rfl⟩
    rw[←hR];have HR:=Lib.hid hR;have HNB:=Lib.hid (NdBox.new w x)
    have HBB:=Lib.hid hb;rw[show((p+1:Nat):Int)=(p:Int)+1 by omega];clear hN hcs how hod hinv hdn hvg hve hd hR hd0 hd00 hc hj0 he hv2 hspec hwy hiv hpre htone hkone hy hx hb hm
    go_enter Tryz.func82,Tryz.ntmps82
    go_wp2_with fail
    obtain⟨gx,hgx⟩:∃gx,gx=w.heap.size:=⟨_,rfl⟩
    have HK0:=Lib.hid (show Ky (fun k=>k=g∨v.ownBlock=some k) w (w.alloc (.cells #[.int .i64 x.lv,.int .i64 x.a,.int .i64 x.b,.int .i64 x.c,.int .i64 x.d] 74)) from(Ky.refl _ _).alloc _)
    have HO0:=Lib.hid (HO.out.alloc (.cells #[.int .i64 x.lv,.int .i64 x.a,.int .i64 x.b,.int .i64 x.c,.int .i64 x.d] 74))
    have HD0:=Lib.hid (HD.out.gbr (World.grownBy_alloc w (.cells #[.int .i64 x.lv,.int .i64 x.a,.int .i64 x.b,.int .i64 x.c,.int .i64 x.d] 74) none) (by simp))
    have HNB0:=Lib.hid (show NdBox (w.alloc (.cells #[.int .i64 x.lv,.int .i64 x.a,.int .i64 x.b,.int .i64 x.c,.int .i64 x.d] 74)) gx (mix x y 0) by rw[hgx];exact HNB.out)
    have HVX:=Lib.hid (show v.ownBlock≠some gx from fun e=>by have:=(HO.out.lt gx e).2;omega)
    have HGX:=Lib.hid (show g≠gx by have:=HD.out.lt.2;omega)
    have HGW:=Lib.hid hgx;rw[←hgx]
    generalize hWW:w.alloc _=W at *
    clear hWW hgx c1 c2 c3 c4 c5 hec hcd
    go_loopw [14,3,4] (fun z1 z2 z3 wr=>∃(q:Nat) (v1:Value) (ds1:List Nat),q≤4∧z1=.int .i64 q∧v1=z2∧z3=.slice (some ⟨g,0,none⟩) (n+1) (n+1)∧OwnN wr base v1 (outK (kT l x) out q)∧OwnD wr base g (n+1) ds1∧Dn l (outK (kT l x) out q) ds1 ∧
     v1.ownBlock≠some g∧v1.ownBlock≠some gx∧(∀k,v1.ownBlock=some k→v.ownBlock=some k∨w.heap.size≤k)∧NdBox wr gx (mix x y q)∧Ky (fun k=>k=g∨v.ownBlock=some k) w wr) (fun z1 _ _ _=>4-(intOf z1).toNat)
    case atStart=>exact⟨0,_,ds,by omega,rfl,rfl,rfl,HO0.out,HD0.out,HDN.out,HVG.out,HVX.out,fun k hk=>.inl hk,HNB0.out,HK0.out⟩
    case round =>
     obtain⟨q,v1,ds1,hq,rfl,rfl,rfl,h1,h2,h3,h4,h5,h6,h7,h8⟩:=hrel
     have H1:=Lib.hid h1;have H2:=Lib.hid h2;have H3:=Lib.hid h3;have H4:=Lib.hid h4;have H5:=Lib.hid h5;have H6:=Lib.hid h6;have H7:=Lib.hid h7;have H8:=Lib.hid h8;have f1:wr.cell? ⟨gx,0,none⟩=some (.int .i64 x.lv):=h7.at_.1
     have hbs:base≤wr.heap.size:=Nat.le_trans hbase h8.size
     by_cases hgo:q<4∧1<x.lv
     ·obtain⟨hq4,hlv⟩:=hgo
      have i4:(q:Int)<4:=by omega
      have t2:decide (1<x.lv)=true:=decide_eq_true hlv
      have hyc:=h7.at_.kid hq4
      rw[mix_kid _ _ _ hq4,if_neg (Nat.lt_irrefl _)] at hyc;have hne:x.lv≠1:=by omega
      obtain⟨r,hr,hkT,hkr⟩:=kT_up hfx.out hne hq4
      have hrp:r≤p:=by
       rcases kid_up hne (fit_kid hkf.out hq4) with e|⟨t,e,ht,_⟩
       ·omega
       ·have:=List.length_take_le p l
        omega
      have hrlv:0<r→(at_ l (r-1)).lv≤(m:Int):=by
       intro h0
       rcases kid_up hne (fit_kid hkf.out hq4) with e|⟨t,e,ht,htl⟩
       ·omega
       ·have hle:=List.length_take_le p l
        rw[at_take (by omega)] at htl;rw[show r-1=t by omega];omega
      rw[hkr] at hyc;have hstep:outK (kT l x) out (q+1)=(enc (den l r) (outK (kT l x) out q)).1:=by
       show(enc (kT l x q) _).1=_
       rw[hkT]
      have hnum:y.kid q=(enc (den l r) (outK (kT l x) out q)).2:=by
       rw[HY.out,topN_kid _ _ _ hq4];show(enc (kT l x q) _).2=_
       rw[hkT]
      have HST:=Lib.hid hstep;have HNU:=Lib.hid hnum;have hNr:=Lib.hid (H8.out.ns HNW.out (fun a ea hp=>by
       cases ea
       have hbb:b<base:=HA.out _ rfl
       rcases hp with e|e
       ·have:=HG.out
        have e2:b=g:=e
        omega
       ·have:=(HO.out.lt b e).1
        omega))
      have hEr:=Lib.hid (show ∀i,i≤n→wr.cell? ⟨E,i,none⟩=some (.bool (empB l i)) from fun i hi=>H8.out.cell (HCS.out i hi) (fun hp=>by
       rcases hp with e|e
       ·exact HE.out e
       ·exact HVE.out e))
      have hve1:=Lib.hid (show v1.ownBlock≠some E from fun e=>(H6.out E e).elim HVE.out (fun e2=>Nat.not_lt.2 e2 HES.out))
      have hrn:r≤n:=by rw[←HL.out];exact hr
      have HIQ:=Lib.hid (HIV.out q hq)
      have HRL:=Lib.hid hrlv;clear h1 h2 h3 h4 h5 h6 h7 h8 hstep hnum hlv hkT hkr hr hrlv hne;go_wp2_with (go_at_call 82;go_loud (refine(ih r _ ds1 v1 _ hrn HRL.out HIQ.out H3.out hNr.out hEr.out H1.out H2.out H4.out hve1.out hbs).mono ?_;rintro e w1 ⟨v2,ds2,rfl,r1,r2,r3,r4,r5,r6⟩;have R1:=Lib.hid r1;have R2:=Lib.hid r2;have R3:=Lib.hid r3;have R4:=Lib.hid r4;have R5:=Lib.hid r5;have R6:=Lib.hid r6;have hbx1:=Lib.hid (H7.out.stay (r6.block gx H7.out.lt (fun hp=>by rcases hp with e|e;exact HGX.out e.symm;exact H5.out e)));clear r1 r2 r3 r4 r5 r6;have fz:=hbx1.out.free (1+q);have cz:=hbx1.out.at_.kid hq4;rw[show 0+1+q=1+q by omega] at cz))
      go_roundw
      case rel =>
       refine⟨q+1,v2,ds2,by omega,by go_num,rfl,rfl,?_,?_,by rw[HST.out];exact R3.out,R4.out,?_,?_,?_,?_⟩
       ·rw[HST.out];exact R1.out.gbr (gb_setCell _ _ _) (.inr (fun e=>by
         rcases R5.out gx e with e2|e2
         ·exact H5.out e2
         ·exact absurd H7.out.lt (Nat.not_lt.2 e2)))
       ·exact R2.out.gbr (gb_setCell _ _ _) (fun e=>HGX.out (Option.some.inj e).symm)
       ·intro e
        rcases R5.out gx e with e2|e2
        ·exact H5.out e2
        ·exact absurd H7.out.lt (Nat.not_lt.2 e2)
       ·intro k hk
        rcases R5.out k hk with e2|e2
        ·exact H6.out k e2
        ·exact .inr (Nat.le_trans H8.out.size e2)
       ·exact hbx1.out.setKid hq4 (by omega) HNU.out.symm
       ·refine(H8.out.trans R6.out (fun k hk hp=>?_)).set _ (fun h=>?_) _
        ·rcases hp with e|e
         ·exact .inl e
         ·rcases H6.out k e with e2|e2
          ·exact .inr e2
          ·omega
        ·exact absurd (show gx<w.heap.size from h) (by rw[HGW.out];exact Nat.lt_irrefl _)
      case measure=>simp[intOf];omega
     ·have hfin:mix x y q=y∧outK (kT l x) out q=outK (kT l x) out 4:=by
       by_cases h4:q=4
       ·subst h4;exact⟨mix_four (by rw[HY.out];rfl),rfl⟩
       ·have h1:x.lv=1:=by omega
        refine⟨?_,by rw[HK1.out h1,HK1.out h1]⟩
        rw[HT1.out h1];exact mix_self x q
      have hpre4:=HPRE.out 4 (Nat.le_refl _)
      have hinv4:=HIV.out 4 (Nat.le_refl _)
      rw[hfin.1] at h7;rw[hfin.2] at h1 h3;have hv2:=HV2.out
      obtain⟨o4,ho4⟩:∃o4,o4=outK (kT l x) out 4:=⟨_,rfl⟩
      rw[←ho4] at h1 h3 hpre4 hinv4 hv2;obtain⟨A1,cc1,hv1,hn1,hA1,hB1⟩:=h1.shape
      have ho4l:=hinv4.len
      rw[HL.out] at ho4l;obtain⟨on,hon⟩:∃on,on=o4.length:=⟨_,rfl⟩
      rw[←hon] at hv1 ho4l;subst hv1;have HON:=Lib.hid hon;have Q1:=Lib.hid h1;have Q2:=Lib.hid h2;have Q3:=Lib.hid h3;have Q7:=Lib.hid h7;have QN:=Lib.hid hn1;have QV:=Lib.hid hv2;have QP:=Lib.hid hpre4;clear f1;obtain⟨f1,f2,f3,f4,f5⟩:=h7.at_
      have hylv:y.lv=x.lv:=by rw[HY.out];rfl
      have HYL:=Lib.hid hylv;have hcase:(q<4∧¬ 1<x.lv)∨¬ q<4:=by omega
      have hoc:=hn1.cap
      clear h1 h2 h3 h4 h5 h6 h7 h8 hn1 hA1 hB1 hfin hpre4 hinv4 hv2 ho4 hon hylv hgo H1 H2 H3 H7;rcases fnd_cases o4 y with⟨hf,_⟩|⟨fi,_,_,hf⟩
      ·have HF:=Lib.hid hf;have HAD:=Lib.hid (add_none hf)
       clear hf;rcases hcase with⟨hq4,hlv⟩|hq4
       ·have i4:(q:Int)<4:=by omega
        have t2:decide (1<y.lv)=false:=decide_eq_false (by rw[HYL.out];exact hlv)
        clear hlv;go_wp2_with (first
         | (go_at_call 110;go_loud (refine(rfind_any _ _ on o4 y _ QN.out HON.out.symm HWY.out).mono ?_;rintro e w5 ⟨rfl,b5⟩;have B5:=Lib.hid b5;obtain⟨d1,d2,d3,d4,d5⟩:=Q7.out.at_.below (b5.block gx Q7.out.lt);rw[HF.out];have R2:=Lib.hid (Q2.out.gbr (row:=Option.none) ⟨b5.os,b5.tape,b5.output,b5.size,fun i hi _=>b5.block i hi⟩ (by simp));have R1:=Lib.hid (Q1.out.stays b5);clear b5))
         | (at_builtin;go_loud (refine wpList_append_nodes _ rfl _ _ rfl base _ o4 [y] _ 1 1 rfl rfl (R1.out.alloc _) (ns_lit1 _ _ y HWY.out rfl) rfl (fun e=>by cases e) (by rw[←HON.out];omega) (by simp;have:=B5.out.size;omega) ?_;intro v6 w6 ho6 hg6 hk6;obtain⟨A6,c6,hv6,-,-,-⟩:=ho6.shape;have HO6:=Lib.hid ho6;have HG6:=Lib.hid (show World.grownBy _ w6 (Value.slice A1 on cc1).ownBlock from hg6);have HK6:=Lib.hid (show v6.ownBlock=(Value.slice A1 on cc1).ownBlock∨v6.ownBlock=some (w5.alloc _).heap.size from hk6);have R6:=Lib.hid ((R2.out.gbr (World.grownBy_alloc w5 _ Option.none) (by simp)).gbr hg6 H4.out);have cz:=R6.out.cell (k:=p+1) (by omega);have fz:=R6.out.free (p+1);subst hv6;clear ho6 hg6 hk6)))
        go_ret3
        rw[HR.out];have hws:w.heap.size≤w5.heap.size:=Nat.le_trans H8.out.size B5.out.size
        have hgl:=R2.out.lt.2
        have hky:=((H8.out.below B5.out).alloc _).gb HG6.out (fun i hi e=>(H6.out i e).elim .inr (fun e2=>by omega))
        refine cast ?_ (retV_of (k:=o4.length+1) HSP.out QV.out HAD.out (List.prefix_append _ _) HO6.out R6.out Q3.out ?_ ?_ hky)
        ·simp
        ·intro e
         rcases HK6.out with e2|e2
         ·exact H4.out (e2.symm.trans e)
         ·rw[e2] at e;simp at e
          omega
        ·intro k hk
         rcases HK6.out with e2|e2
         ·exact H6.out k (e2.symm.trans hk)
         ·rw[e2] at hk;simp at hk
          exact .inr (by omega)
       ·obtain rfl:q=4:=by omega
        clear hq4 hq;go_wp2_with (first
         | (go_at_call 110;go_loud (refine(rfind_any _ _ on o4 y _ QN.out HON.out.symm HWY.out).mono ?_;rintro e w5 ⟨rfl,b5⟩;have B5:=Lib.hid b5;obtain⟨d1,d2,d3,d4,d5⟩:=Q7.out.at_.below (b5.block gx Q7.out.lt);rw[HF.out];have R2:=Lib.hid (Q2.out.gbr (row:=Option.none) ⟨b5.os,b5.tape,b5.output,b5.size,fun i hi _=>b5.block i hi⟩ (by simp));have R1:=Lib.hid (Q1.out.stays b5);clear b5))
         | (at_builtin;go_loud (refine wpList_append_nodes _ rfl _ _ rfl base _ o4 [y] _ 1 1 rfl rfl (R1.out.alloc _) (ns_lit1 _ _ y HWY.out rfl) rfl (fun e=>by cases e) (by rw[←HON.out];omega) (by simp;have:=B5.out.size;omega) ?_;intro v6 w6 ho6 hg6 hk6;obtain⟨A6,c6,hv6,-,-,-⟩:=ho6.shape;have HO6:=Lib.hid ho6;have HG6:=Lib.hid (show World.grownBy _ w6 (Value.slice A1 on cc1).ownBlock from hg6);have HK6:=Lib.hid (show v6.ownBlock=(Value.slice A1 on cc1).ownBlock∨v6.ownBlock=some (w5.alloc _).heap.size from hk6);have R6:=Lib.hid ((R2.out.gbr (World.grownBy_alloc w5 _ Option.none) (by simp)).gbr hg6 H4.out);have cz:=R6.out.cell (k:=p+1) (by omega);have fz:=R6.out.free (p+1);subst hv6;clear ho6 hg6 hk6)))
        go_ret3
        rw[HR.out];have hws:w.heap.size≤w5.heap.size:=Nat.le_trans H8.out.size B5.out.size
        have hgl:=R2.out.lt.2
        have hky:=((H8.out.below B5.out).alloc _).gb HG6.out (fun i hi e=>(H6.out i e).elim .inr (fun e2=>by omega))
        refine cast ?_ (retV_of (k:=o4.length+1) HSP.out QV.out HAD.out (List.prefix_append _ _) HO6.out R6.out Q3.out ?_ ?_ hky)
        ·simp
        ·intro e
         rcases HK6.out with e2|e2
         ·exact H4.out (e2.symm.trans e)
         ·rw[e2] at e;simp at e
          omega
        ·intro k hk
         rcases HK6.out with e2|e2
         ·exact H6.out k (e2.symm.trans hk)
         ·rw[e2] at hk;simp at hk
          exact .inr (by omega)
      ·have HF:=Lib.hid hf;have HAD:=Lib.hid (add_some hf)
       clear hf;have t3:((fi:Int)+1==0)=false:=beq_eq_false_iff_ne.2 (by omega)
       have t4:(((fi+1:Nat):Int)==0)=false:=beq_eq_false_iff_ne.2 (by omega)
       rcases hcase with⟨hq4,hlv⟩|hq4
       ·have i4:(q:Int)<4:=by omega
        have t2:decide (1<y.lv)=false:=decide_eq_false (by rw[HYL.out];exact hlv)
        clear hlv;go_wp2_with (first
         | (go_at_call 110;go_loud (refine(rfind_any _ _ on o4 y _ QN.out HON.out.symm HWY.out).mono ?_;rintro e w5 ⟨rfl,b5⟩;have B5:=Lib.hid b5;rw[HF.out];have R2:=Lib.hid (Q2.out.gbr (row:=Option.none) ⟨b5.os,b5.tape,b5.output,b5.size,fun i hi _=>b5.block i hi⟩ (by simp));have R1:=Lib.hid (Q1.out.stays b5);have cz:=R2.out.cell (k:=p+1) (by omega);have fz:=R2.out.free (p+1);clear b5)))
        go_ret3
        rw[HR.out];refine cast ?_ (retV_of (k:=fi+1) HSP.out QV.out HAD.out (List.prefix_refl _) R1.out R2.out Q3.out H4.out ?_ (H8.out.below B5.out))
        ·simp
        ·exact H6.out
       ·obtain rfl:q=4:=by omega
        clear hq4 hq;go_wp2_with (first
         | (go_at_call 110;go_loud (refine(rfind_any _ _ on o4 y _ QN.out HON.out.symm HWY.out).mono ?_;rintro e w5 ⟨rfl,b5⟩;have B5:=Lib.hid b5;rw[HF.out];have R2:=Lib.hid (Q2.out.gbr (row:=Option.none) ⟨b5.os,b5.tape,b5.output,b5.size,fun i hi _=>b5.block i hi⟩ (by simp));have R1:=Lib.hid (Q1.out.stays b5);have cz:=R2.out.cell (k:=p+1) (by omega);have fz:=R2.out.free (p+1);clear b5)))
        go_ret3
        rw[HR.out];refine cast ?_ (retV_of (k:=fi+1) HSP.out QV.out HAD.out (List.prefix_refl _) R1.out R2.out Q3.out H4.out ?_ (H8.out.below B5.out))
        ·simp
        ·exact H6.out
theorem one_cell {w:World}{g:Nat}{u:Value}{t:TypeId}(h:w.heap[g]?=some (.cells #[u] t)):w.cell? ⟨g,0,none⟩=some u:=by
 rw[cell_of_row w g _ _ _ _ h]
 rfl
theorem one_free {w:World}{g:Nat}{u:Value}{t:TypeId}(h:w.heap[g]?=some (.cells #[u] t)):w.frozen? ⟨g,0,none⟩=false:=frozen_of_row w g 0 _ _ h
theorem rof_no (A:Option Addr)(c n:Nat)(l:List Nd)(k:Int)(w:World)(h:Ns w A c l)(hn:l.length=n)(hno:looseB l=false∨k<0∨(n:Int)<k) :
  Calls Tryz.prog 53 #[.slice A n c,.int .i64 k] w (RetO l k w):=by
 have hcap:=h.cap
 rw[hn] at hcap
 have hR:=ofQ_no (okB_no (by rw[hn];exact hno))
 obtain⟨R,hRR⟩:∃R,R=RetO l k w:=⟨_,rfl⟩
 rw[←hRR]
 have HR:=Lib.hid hRR
 have HQ:=Lib.hid hR
 have hb:=(Below.refl w.heap.size w).alloc (Nat.le_refl _) (.cells #[.slice none 0 0] 26)
 have HB:=Lib.hid hb
 have HN:=Lib.hid (h.below hb)
 have HL:=Lib.hid hn
 have hgc:(w.alloc (.cells #[.slice none 0 0] 26)).heap[w.heap.size]?=some (.cells #[.slice none 0 0] 26):=heap_alloc_new w _
 have HGC:=Lib.hid hgc
 have hlt:w.heap.size<(w.alloc (.cells #[.slice none 0 0] 26)).heap.size:=by simp
 have HLT:=Lib.hid hlt
 have hcases:looseB l=false∨(looseB l=true∧k<0)∨(looseB l=true∧0≤k∧(n:Int)<k):=by
  cases hq:looseB l
  ·exact .inl rfl
  ·rcases hno with h|h
   ·rw[hq] at h;cases h
   ·rcases h with h|h
    ·exact .inr (.inl ⟨rfl,h⟩)
    ·by_cases h0:k<0
     ·exact .inr (.inl ⟨rfl,h0⟩)
     ·exact .inr (.inr ⟨rfl,by omega,h⟩)
 clear h hn hno hb hgc hlt hR hRR
 rcases hcases with hq|⟨hq,h0⟩|⟨hq,h0,h1⟩
 all_goals
  have HLL:=Lib.hid hq;clear hq
  go_enter Tryz.func53,Tryz.ntmps53
  go_wp2_with (go_at_call 80;go_loud (refine(rloose_b _ _ n l _ HN.out HL.out).mono ?_;rintro e w1 ⟨rfl,b1⟩;have HB1:=Lib.hid b1;have hcg:=(b1.block w.heap.size HLT.out).trans HGC.out;have cg:=one_cell hcg;have fg:=one_free hcg;clear b1 hcg;rw[HLL.out]))
  have e1:=World.cell?_setCell_same _ _ (.slice none 0 0) cg
  refine bodyPost_ret (v:=.tuple #[.agg #[.slice none 0 0],.int .i64 1]) (by simp[results,Tryz.results53,go_sem,e1]) rfl ?_
  rw[HR.out];refine⟨none,0,?_,?_,fun _=>rfl,(HB.out.trans (HB1.out.mono HB.out.size)).setCell (Nat.le_refl _) _⟩
  ·rw[HQ.out.1,HQ.out.2]
   rfl
  ·rw[HQ.out.1];exact ns_nil _
theorem noper_make_full {P:Program}{w:World}{o:Oper}{a:Act}{K:Act→World→Prop}{Q:Exit→Act→World→Prop}
  (l c:Operand) (t:TypeId) (hop:o.op=Op.makeSlice t l c)
  (base:Nat) (e:TypeId) (i:TypeInfo) (z:Value) (size:Nat) (h1:P.underlying t=some (.slice e)) (h2:P.info? e=some i) (h3:i.zero=some z) (h4:i.size=size)
  (kl kc:IntKind) (L C:Int) (n:Nat) (hl:a.eval l=.int kl L) (hc:a.eval c=.int kc C) (hL:L=(n:Int)) (hC:C=(n:Int)) (b2:i.bytes*n≤281474976710656) (b3:n≤maxLen) (b4:base≤w.heap.size)
  (hK:∀w',w'.ownsRow base e size (.slice (some ⟨w.heap.size,0,none⟩) n n) n (madeCells z.cells (n*size)).toList→w.grownBy w' none→K (a.put o.dst (.slice (some ⟨w.heap.size,0,none⟩) n n)) w') :
  Oper.wp P o a w K Q:=by
 obtain⟨w',hrun,r1,r2⟩:=run_make_full (P:=P) w base t e i z size h1 h2 h3 h4 kl kc n b2 b3 b4
 subst hL
 subst hC
 unfold Oper.wp
 simp[execOp,hop,hl,hc,hrun,Result.andThen]
 exact hK w' r1 r2
theorem dn_nil (l:List Nd)(n:Nat):Dn l [] (List.replicate n 0):=by
 intro i hi h0
 exfalso
 rw[List.getD_eq_getElem?_getD,List.getElem?_replicate] at h0
 split at h0 <;> simp at h0
theorem rof_yes (A:Option Addr)(c n k:Nat)(l:List Nd)(w:World)(h:Ns w A c l)(hn:l.length=n)(hn9:n≤900000)(hl:looseB l=true)(hk:k≤n)(hA:A=none→c=0) :
  Calls Tryz.prog 53 #[.slice A n c,.int .i64 (k:Int)] w (RetO l (k:Int) w):=by
 have hcap:=h.cap
 rw[hn] at hcap
 have HQ:=Lib.hid (ofQ_yes hl (n:=k) (by omega))
 obtain⟨i0,hi,hz0,hz1,hz2⟩:=info_parts Tryz.infoI
 have HI:=Lib.hid (And.intro hi (And.intro hz0 (And.intro hz1 hz2)))
 obtain⟨R,hRR⟩:∃R,R=RetO l (k:Int) w:=⟨_,rfl⟩
 rw[←hRR]
 have HR:=Lib.hid hRR
 have hb:=(Below.refl w.heap.size w).alloc (Nat.le_refl _) (.cells #[.slice none 0 0] 26)
 have HB:=Lib.hid hb
 have HN:=Lib.hid (h.below hb)
 have HL:=Lib.hid hn
 have HLL:=Lib.hid hl
 have HA:=Lib.hid hA
 have hgc:(w.alloc (.cells #[.slice none 0 0] 26)).heap[w.heap.size]?=some (.cells #[.slice none 0 0] 26):=heap_alloc_new w _
 have HGC:=Lib.hid hgc
 have hlt:w.heap.size<(w.alloc (.cells #[.slice none 0 0] 26)).heap.size:=by simp
 have HLT:=Lib.hid hlt
 have t0:decide ((k:Int)<0)=false:=decide_eq_false (by omega)
 have t1:decide ((n:Int)<(k:Int))=false:=decide_eq_false (by omega)
 clear h hn hb hgc hlt hRR hi hz0 hz1 hz2 hA hl
 go_enter Tryz.func53,Tryz.ntmps53
 go_wp2_with (first
  | (go_at_call 80;go_loud (refine(rloose_b _ _ n l _ HN.out HL.out).mono ?_;rintro e w1 ⟨rfl,b1⟩;have HB1:=Lib.hid b1;have HN1:=Lib.hid (HN.out.below b1);clear b1;rw[HLL.out]))
  | (go_at_call 81;go_loud (refine(rshrink_any _ _ n l k _ HN1.out HL.out HLL.out hn9 HA.out hk).mono ?_;rintro e w3 ⟨v2,cur,j,rfl,s1,s2,s3,s4,s5,s6⟩;obtain⟨A2,c2,hv2,hn2,_,hA2⟩:=s1.shape;have HV2:=Lib.hid hv2;have HN2':=Lib.hid hn2;have HO2:=Lib.hid s1;have HCL:=Lib.hid s2;have HJ:=Lib.hid s3;have HJD:=Lib.hid s4;have HCN':=Lib.hid s5;have HB3:=Lib.hid s6;clear hv2 hn2 hA2 s1 s2 s3 s4 s5 s6)))
 have hv2:=HV2.out
 obtain⟨cn,hcn⟩:∃cn,cn=cur.length:=⟨_,rfl⟩
 rw[←hcn] at hv2
 subst hv2
 have HCN:=Lib.hid hcn
 have hcn9:cn≤901329:=by have:=HCN'.out;have:=HL.out;omega
 have hc2:=HN2'.out.cap
 rw[←hcn] at hc2
 have HBW3:=Lib.hid (HB.out.trans ((HB1.out.trans (HB3.out.mono HB1.out.size)).mono HB.out.size))
 have HGQ3:=Lib.hid ((HB3.out.block w.heap.size (Nat.lt_of_lt_of_le HLT.out HB1.out.size)).trans ((HB1.out.block w.heap.size HLT.out).trans HGC.out))
 clear hcn
 refine wp_region_noPanic ?_
 refine wp_region_held (S:=fun _=>True) (by kernel_rfl) ?_
 obtain⟨W0,hW0⟩:∃W0:World,W0=w3.drew:=⟨_,rfl⟩
 have HN2:=Lib.hid (show Ns W0 A2 c2 cur by rw[hW0];exact HN2'.out.drew)
 have HBW:=Lib.hid (show Below w.heap.size w W0 by rw[hW0];exact Below.drew HBW3.out)
 have HGQ:=Lib.hid (show W0.heap[w.heap.size]?=some (.cells #[.slice none 0 0] 26) by rw[hW0];exact HGQ3.out)
 have HLQ:=Lib.hid (show w.heap.size<W0.heap.size from(Array.getElem?_eq_some_iff.1 HGQ.out).1)
 have HA2:=Lib.hid (show ∀a,A2=some a→a.block<W0.heap.size from fun a ea=>by rw[hW0];exact(HO2.out.lt a.block (by rw[ea];rfl)).2)
 have HLV:=Lib.hid (show 0<j→(at_ cur (j-1)).lv≤((1329:Nat):Int) from fun h0=>(fit_lv (loose_fit HCL.out (by have:=HJ.out;omega))).2)
 have B0:=Lib.hid (Below.refl W0.heap.size W0)
 have e0:IntKind.i64.wrap ((cn:Int)+1)=(cn:Int)+1:=IntWalk.i64_in _ (by omega)
 change wpAnyH _ _ _ _ _ _ _ _ w3.drew
 rw[←hW0]
 clear hW0
 refine wpAnyH_take (i:=0) (v:=?_) rfl (by kernel_rfl) (by kernel_rfl) (by kernel_rfl) (fun _ _ _ h=>h) (Or.inl ⟨by rfl,?_⟩) trivial ?_
 rotate_left
 ·rintro w' _
  go_simp
  first|done|with_reducible rfl|rfl
 simp only[Act.put,LA]
 refine wpAnyH_take (i:=1) (v:=?_) rfl (by kernel_rfl) (by kernel_rfl) (by kernel_rfl) (fun _ _ _ h=>h) (Or.inl ⟨by rfl,?_⟩) trivial ?_
 rotate_left
 ·rintro w' _
  go_simp
  first|done|with_reducible rfl|rfl
 simp only[Act.put,LA]
 refine wpAnyH_take (i:=3) (v:=?_) rfl (by kernel_rfl) (by kernel_rfl) (by kernel_rfl) (fun _ _ _ h=>h) (Or.inl ⟨by rfl,?_⟩) trivial ?_
 rotate_left
 ·rintro w' _
  go_simp
  first|done|with_reducible rfl|rfl
 simp only[Act.put,LA]
 refine wpAnyH_take (i:=4) (v:=?_) rfl (by kernel_rfl) (by kernel_rfl) (by kernel_rfl) (fun _ _ _ h=>h) (Or.inl ⟨by rfl,?_⟩) trivial ?_
 rotate_left
 ·rintro w' _
  go_simp
  first|done|with_reducible rfl|rfl
 simp only[Act.put,LA]
 refine wpAnyH_take (i:=5) (v:=?_) rfl (by kernel_rfl) (by kernel_rfl) (by kernel_rfl) (fun _ _ _ h=>h) (Or.inl ⟨by rfl,?_⟩) trivial ?_
 rotate_left
 ·rintro w' _
  go_simp
  first|done|with_reducible rfl|rfl
 simp only[Act.put,LA]
 refine wpAnyH_take (i:=6) (v:=?_) rfl (by kernel_rfl) (by kernel_rfl) (by kernel_rfl) (fun _ _ _ h=>h) (Or.inl ⟨by rfl,?_⟩) trivial ?_
 rotate_left
 ·rintro w' _
  go_simp
  first|done|with_reducible rfl|rfl
 simp only[Act.put,LA]
 refine wpAnyH_ready (rs:=[2,7]) (by kernel_rfl) (by simp) (AllReadyH.cons rfl (fun K hK=>?_) (AllReadyH.cons rfl (fun K hK=>?_) AllReadyH.nil))
 ·go_simp
  refine(empties_any A2 c2 cn cur _ (HN2.out.below B0.out) HCN.out.symm HCL.out (by omega)).mono ?_
  rintro e W4 ⟨E,rfl,x1,x2,x3,x4⟩
  dsimp only
  have B4:=Lib.hid (B0.out.trans (x4.mono B0.out.size))
  have HE1:=Lib.hid x1;have HE3:=Lib.hid x3;have HE4:=Lib.hid x4;have HE2:=Lib.hid x2;refine hK.out _ _ trivial (fun _=>?_)
  clear hK K x1 x2 x3 x4;refine wpAnyH_ready (rs:=[7]) (by kernel_rfl) (by simp) (AllReadyH.cons rfl (fun K hK=>?_) AllReadyH.nil)
  rw[if_pos (by rfl)];refine noper_make_full (.tmp 38) (.tmp 38) 118 rfl W0.heap.size 3 i0 _ 1 Tryz.underlying118 HI.out.1 HI.out.2.1 HI.out.2.2.1 .i64 .i64 _ _ (cn+1) rfl rfl (by omega) (by omega) (by rw[HI.out.2.2.2];omega) (by unfold maxLen;omega) B4.out.size ?_
  intro W5 own grow
  simp only[Act.put,LA]
  have B5:=Lib.hid (B4.out.grown grow B4.out.size (fun k hk=>by cases hk))
  have OD:=Lib.hid (OwnD.made own)
  have GR:=Lib.hid grow;refine hK.out _ _ trivial (fun _=>?_)
  clear hK K own grow;have HEG:=Lib.hid (show E≠W4.heap.size by have:=HE2.out;omega)
  have HGB:=Lib.hid (show W0.heap.size≤W4.heap.size from B4.out.size)
  have HEC:=Lib.hid (show ∀i,i≤cn→W5.cell? ⟨E,i,none⟩=some (.bool (empB cur i)) from fun i hi=>(World.cell?_of_block (w:=W4) (GR.out.block E HE2.out (by simp))).trans (HE3.out i hi))
  have HNV:=Lib.hid (HN2.out.below B5.out)
  have hsz:=B5.out.size
  refine wpAnyH_ready (rs:=[8]) (by kernel_rfl) (by simp) (AllReadyH.cons rfl (fun K hK=>?_) AllReadyH.nil)
  go_simp
  refine(rvisit_rec A2 c2 cn E W0.heap.size _ cur HCL.out HCN.out.symm (by omega) HA2.out HEG.out HGB.out 1329 j [] (List.replicate (cn+1) 0) (.slice none 0 0) _ (by rw[HCN.out];exact HJ.out) HLV.out (inv_nil _) (dn_nil _ _) HNV.out HEC.out (ownN_none _ _) OD.out (by simp[Value.ownBlock]) (by simp[Value.ownBlock]) hsz).mono ?_
  rintro e W7 ⟨v7,ds7,rfl,z1,z2,z3,z4,z5,z6⟩
  dsimp only
  obtain⟨A7,c7,hv7,hn7,hA7,hA7b⟩:=z1.shape
  have hA7bb:=Lib.hid hA7b;clear hA7b;obtain⟨qn,hqn⟩:∃qn,qn=(enc (den cur j) []).1.length:=⟨_,rfl⟩
  rw[←hqn] at hv7;subst hv7;have HQN:=Lib.hid hqn;have B7:=Lib.hid (B5.out.trans (z6.to hsz (fun k hk=>by
   rcases hk with h|h
   ·subst h;exact HGB.out
   ·simp[Value.ownBlock] at h)))
  have HN7:=Lib.hid hn7;have HA7:=Lib.hid hA7;refine hK.out _ _ trivial (fun _=>?_)
  clear hK K z1 z2 z3 z4 z5 z6 hn7 hA7 hqn;refine wpAnyH_take (i:=9) (v:=?_) rfl (by kernel_rfl) (by kernel_rfl) (by kernel_rfl) (fun _ _ _ h=>h) (Or.inl ⟨by rfl,?_⟩) trivial ?_
  rotate_left
  ·rintro w' _
   go_simp
   first|done|with_reducible rfl|rfl
  simp only[Act.put,LA]
  refine wpAnyH_take (i:=10) (v:=?_) rfl (by kernel_rfl) (by kernel_rfl) (by kernel_rfl) (fun _ _ _ h=>h) (Or.inl ⟨by rfl,?_⟩) trivial ?_
  rotate_left
  ·rintro w' _
   go_simp
   first|done|with_reducible rfl|rfl
  simp only[Act.put,LA]
  refine wpAnyH_take (i:=11) (v:=?_) rfl (by kernel_rfl) (by kernel_rfl) (by kernel_rfl) (fun _ _ _ h=>h) (Or.inl ⟨by rfl,?_⟩) trivial ?_
  rotate_left
  ·rintro w' _
   go_simp
   first|done|with_reducible rfl|rfl
  simp only[Act.put,LA]
  refine wpAnyH_take (i:=12) (v:=?_) rfl (by kernel_rfl) (by kernel_rfl) (by kernel_rfl) (fun _ _ _ h=>h) (Or.inl ⟨by rfl,?_⟩) trivial ?_
  rotate_left
  ·rintro w' _
   go_simp
   first|done|with_reducible rfl|rfl
  simp only[Act.put,LA]
  refine wpAnyH_take (i:=13) (v:=?_) rfl (by kernel_rfl) (by kernel_rfl) (by kernel_rfl) (fun _ _ _ h=>h) (Or.inl ⟨by rfl,?_⟩) trivial ?_
  rotate_left
  ·rintro w' _
   go_simp
   first|done|with_reducible rfl|rfl
  simp only[Act.put,LA]
  refine wpAnyH_take (i:=14) (v:=?_) rfl (by kernel_rfl) (by kernel_rfl) (by kernel_rfl) (fun _ _ _ h=>h) (Or.inl ⟨by rfl,?_⟩) trivial ?_
  rotate_left
  ·rintro w' _
   go_simp
   first|done|with_reducible rfl|rfl
  simp only[Act.put,LA]
  refine wpAnyH_take (i:=15) (v:=?_) rfl (by kernel_rfl) (by kernel_rfl) (by kernel_rfl) (fun _ _ _ h=>h) (Or.inl ⟨by rfl,?_⟩) trivial ?_
  rotate_left
  ·rintro w' _
   go_simp
   first|done|with_reducible rfl|rfl
  simp only[Act.put,LA]
  refine wpAnyH_done (by kernel_rfl) ?_ _
  refine NoPanic.normal ?_
  have hc7:=(B7.out.block _ HLQ.out).trans HGQ.out
  have cg:=one_cell hc7
  have fg:=one_free hc7
  clear hc7;go_wp2_with fail
  have e1:=World.cell?_setCell_same _ _ (.slice A7 qn c7) cg
  refine bodyPost_ret (v:=.tuple #[.agg #[.slice A7 qn c7],.int .i64 0]) (by simp[results,Tryz.results53,go_sem,e1]) rfl ?_
  rw[HR.out];have hq7:(enc (den cur j) []).1=ofQ l (k:Int):=by rw[HJD.out,HQ.out.1];rfl
  have hqn:=HQN.out
  rw[hq7] at hqn HN7;have hA7b:=hA7bb.out
  refine⟨A7,c7,?_,?_,HA7.out,(HBW.out.trans (B7.out.mono HBW.out.size)).setCell (Nat.le_refl _) _⟩
  ·rw[HQ.out.2,hqn]
  ·exact HN7.out.gbr (gb_setCell _ _ _) (fun a ea e=>by have h1:=hA7b a ea;have h2:=HLQ.out;have h3:a.block=w.heap.size:=Option.some.inj e;omega)
 ·rw[if_pos (by rfl)];refine noper_make_full (.tmp 38) (.tmp 38) 118 rfl W0.heap.size 3 i0 _ 1 Tryz.underlying118 HI.out.1 HI.out.2.1 HI.out.2.2.1 .i64 .i64 _ _ (cn+1) rfl rfl (by omega) (by omega) (by rw[HI.out.2.2.2];omega) (by unfold maxLen;omega) B0.out.size ?_
  intro W4 own grow
  simp only[Act.put,LA]
  have B4:=Lib.hid (B0.out.grown grow B0.out.size (fun k hk=>by cases hk))
  have OD:=Lib.hid (OwnD.made own)
  have GR:=Lib.hid grow;refine hK.out _ _ trivial (fun _=>?_)
  clear hK K own grow;refine wpAnyH_ready (rs:=[2]) (by kernel_rfl) (by simp) (AllReadyH.cons rfl (fun K hK=>?_) AllReadyH.nil)
  go_simp
  refine(empties_any A2 c2 cn cur _ (HN2.out.below B4.out) HCN.out.symm HCL.out (by omega)).mono ?_
  rintro e W5 ⟨E,rfl,x1,x2,x3,x4⟩
  dsimp only
  have B5:=Lib.hid (B4.out.trans (x4.mono B4.out.size))
  have HE1:=Lib.hid x1;have HE3:=Lib.hid x3;have HE4:=Lib.hid x4;have HE2:=Lib.hid x2;refine hK.out _ _ trivial (fun _=>?_)
  clear hK K x1 x2 x3 x4;have HEG:=Lib.hid (show E≠W0.heap.size by have:=HE1.out;have:=OD.out.lt.2;omega)
  have HGB:=Lib.hid (Nat.le_refl W0.heap.size)
  have HEC:=Lib.hid HE3.out;have OD:=Lib.hid (show OwnD W5 W0.heap.size W0.heap.size (cn+1) (List.replicate (cn+1) 0) from OD.out.gbr (row:=none) ⟨HE4.out.os,HE4.out.tape,HE4.out.output,HE4.out.size,fun i hi _=>HE4.out.block i hi⟩ (by simp))
  have HNV:=Lib.hid (HN2.out.below B5.out)
  have hsz:=B5.out.size
  refine wpAnyH_ready (rs:=[8]) (by kernel_rfl) (by simp) (AllReadyH.cons rfl (fun K hK=>?_) AllReadyH.nil)
  go_simp
  refine(rvisit_rec A2 c2 cn E W0.heap.size _ cur HCL.out HCN.out.symm (by omega) HA2.out HEG.out HGB.out 1329 j [] (List.replicate (cn+1) 0) (.slice none 0 0) _ (by rw[HCN.out];exact HJ.out) HLV.out (inv_nil _) (dn_nil _ _) HNV.out HEC.out (ownN_none _ _) OD.out (by simp[Value.ownBlock]) (by simp[Value.ownBlock]) hsz).mono ?_
  rintro e W7 ⟨v7,ds7,rfl,z1,z2,z3,z4,z5,z6⟩
  dsimp only
  obtain⟨A7,c7,hv7,hn7,hA7,hA7b⟩:=z1.shape
  have hA7bb:=Lib.hid hA7b;clear hA7b;obtain⟨qn,hqn⟩:∃qn,qn=(enc (den cur j) []).1.length:=⟨_,rfl⟩
  rw[←hqn] at hv7;subst hv7;have HQN:=Lib.hid hqn;have B7:=Lib.hid (B5.out.trans (z6.to hsz (fun k hk=>by
   rcases hk with h|h
   ·subst h;exact HGB.out
   ·simp[Value.ownBlock] at h)))
  have HN7:=Lib.hid hn7;have HA7:=Lib.hid hA7;refine hK.out _ _ trivial (fun _=>?_)
  clear hK K z1 z2 z3 z4 z5 z6 hn7 hA7 hqn;refine wpAnyH_take (i:=9) (v:=?_) rfl (by kernel_rfl) (by kernel_rfl) (by kernel_rfl) (fun _ _ _ h=>h) (Or.inl ⟨by rfl,?_⟩) trivial ?_
  rotate_left
  ·rintro w' _
   go_simp
   first|done|with_reducible rfl|rfl
  simp only[Act.put,LA]
  refine wpAnyH_take (i:=10) (v:=?_) rfl (by kernel_rfl) (by kernel_rfl) (by kernel_rfl) (fun _ _ _ h=>h) (Or.inl ⟨by rfl,?_⟩) trivial ?_
  rotate_left
  ·rintro w' _
   go_simp
   first|done|with_reducible rfl|rfl
  simp only[Act.put,LA]
  refine wpAnyH_take (i:=11) (v:=?_) rfl (by kernel_rfl) (by kernel_rfl) (by kernel_rfl) (fun _ _ _ h=>h) (Or.inl ⟨by rfl,?_⟩) trivial ?_
  rotate_left
  ·rintro w' _
   go_simp
   first|done|with_reducible rfl|rfl
  simp only[Act.put,LA]
  refine wpAnyH_take (i:=12) (v:=?_) rfl (by kernel_rfl) (by kernel_rfl) (by kernel_rfl) (fun _ _ _ h=>h) (Or.inl ⟨by rfl,?_⟩) trivial ?_
  rotate_left
  ·rintro w' _
   go_simp
   first|done|with_reducible rfl|rfl
  simp only[Act.put,LA]
  refine wpAnyH_take (i:=13) (v:=?_) rfl (by kernel_rfl) (by kernel_rfl) (by kernel_rfl) (fun _ _ _ h=>h) (Or.inl ⟨by rfl,?_⟩) trivial ?_
  rotate_left
  ·rintro w' _
   go_simp
   first|done|with_reducible rfl|rfl
  simp only[Act.put,LA]
  refine wpAnyH_take (i:=14) (v:=?_) rfl (by kernel_rfl) (by kernel_rfl) (by kernel_rfl) (fun _ _ _ h=>h) (Or.inl ⟨by rfl,?_⟩) trivial ?_
  rotate_left
  ·rintro w' _
   go_simp
   first|done|with_reducible rfl|rfl
  simp only[Act.put,LA]
  refine wpAnyH_take (i:=15) (v:=?_) rfl (by kernel_rfl) (by kernel_rfl) (by kernel_rfl) (fun _ _ _ h=>h) (Or.inl ⟨by rfl,?_⟩) trivial ?_
  rotate_left
  ·rintro w' _
   go_simp
   first|done|with_reducible rfl|rfl
  simp only[Act.put,LA]
  refine wpAnyH_done (by kernel_rfl) ?_ _
  refine NoPanic.normal ?_
  have hc7:=(B7.out.block _ HLQ.out).trans HGQ.out
  have cg:=one_cell hc7
  have fg:=one_free hc7
  clear hc7;go_wp2_with fail
  have e1:=World.cell?_setCell_same _ _ (.slice A7 qn c7) cg
  refine bodyPost_ret (v:=.tuple #[.agg #[.slice A7 qn c7],.int .i64 0]) (by simp[results,Tryz.results53,go_sem,e1]) rfl ?_
  rw[HR.out];have hq7:(enc (den cur j) []).1=ofQ l (k:Int):=by rw[HJD.out,HQ.out.1];rfl
  have hqn:=HQN.out
  rw[hq7] at hqn HN7;have hA7b:=hA7bb.out
  refine⟨A7,c7,?_,?_,HA7.out,(HBW.out.trans (B7.out.mono HBW.out.size)).setCell (Nat.le_refl _) _⟩
  ·rw[HQ.out.2,hqn]
  ·exact HN7.out.gbr (gb_setCell _ _ _) (fun a ea e=>by have h1:=hA7b a ea;have h2:=HLQ.out;have h3:a.block=w.heap.size:=Option.some.inj e;omega)
theorem rof_any (A:Option Addr)(c n:Nat)(l:List Nd)(k:Int)(w:World)(h:Ns w A c l)(hn:l.length=n)(hn9:n≤900000)(hA:A=none→c=0) :
  Calls Tryz.prog 53 #[.slice A n c,.int .i64 k] w (RetO l k w):=by
 cases hl:looseB l with
 | false=>exact rof_no A c n l k w h hn (.inl hl)
 | true =>
  by_cases hk:0≤k∧k≤(n:Int)
  ·obtain⟨j,rfl⟩:∃j:Nat,k=j:=⟨k.toNat,by omega⟩
   exact rof_yes A c n j l w h hn hn9 hl (by omega) hA
  ·exact rof_no A c n l k w h hn (.inr (by omega))
end Go.Proofs.YtikehjindobpkaaGreat

namespace Go.Proofs.YtikehjindobpkaaGreat.Nds
open Num
def prtN (a b:Nat):Nat:=blen (a ^^^ b)
theorem blen_le_iff (n k:Nat):blen n≤k↔n<2^k:=by
 constructor
 ·intro h
  exact Nat.lt_of_lt_of_le (lt_blen n) (Nat.pow_le_pow_right (by decide) h)
 ·intro h
  by_cases h0:n=0
  ·subst h0;show blen 0≤k;unfold blen;simp
  ·have h1:=blen_ge h0
   rcases Nat.lt_or_ge k (blen n) with h2|h2
   ·have:=Nat.pow_le_pow_right (n:=2) (by decide) (show k≤blen n-1 by omega)
    omega
   ·exact h2
theorem xor_zero {a b:Nat}(h:a ^^^ b=0):a=b:=by
 refine Nat.eq_of_testBit_eq fun i=>?_
 have:=congrArg (fun n=>n.testBit i) h
 simp only[Nat.testBit_xor,Nat.zero_testBit] at this
 cases h1:a.testBit i <;> cases h2:b.testBit i <;> simp_all
theorem part_le (a b k:Nat):prtN a b≤k↔a / 2^k=b / 2^k:=by
 unfold prtN
 rw[blen_le_iff]
 have e1:(a ^^^ b)<2^k↔(a ^^^ b) / 2^k=0:=by
  rw[Nat.div_eq_zero_iff];have:=Nat.two_pow_pos k
  constructor
  ·intro h;exact .inr h
  ·rintro(h|h)
   ·omega
   ·exact h
 rw[e1,←Nat.shiftRight_eq_div_pow,Nat.shiftRight_xor_distrib,Nat.shiftRight_eq_div_pow,Nat.shiftRight_eq_div_pow]
 constructor
 ·exact xor_zero
 ·intro h
  rw[h,Nat.xor_self]
theorem part_zero (a b:Nat):prtN a b=0↔a=b:=by
 have:=part_le a b 0
 simp only[Nat.le_zero,Nat.pow_zero,Nat.div_one] at this
 exact this
theorem part_half {a b:Nat}(h:a≠b):prtN a b=prtN (a / 2) (b / 2)+1:=by
 have e:∀k,prtN a b≤k+1↔prtN (a / 2) (b / 2)≤k:=fun k=>by
  rw[part_le,part_le,Nat.div_div_eq_div_mul,Nat.div_div_eq_div_mul,Nat.pow_succ,Nat.mul_comm (2^k) 2]
 have h0:prtN a b≠0:=fun e=>h ((part_zero a b).1 e)
 have h1:=(e (prtN a b-1)).1 (by omega)
 have h2:=(e (prtN (a / 2) (b / 2))).2 (Nat.le_refl _)
 omega
def zq (x y:Nat):Nat:=if h:x=0∧y=0 then 0 else 4*zq (x / 2) (y / 2)+x%2+2*(y%2)
 termination_by x+y
 decreasing_by omega
theorem zq_step (x y:Nat):zq x y=4*zq (x / 2) (y / 2)+x%2+2*(y%2):=by
 by_cases h:x=0∧y=0
 ·obtain⟨rfl,rfl⟩:=h
  have e:zq 0 0=0:=by rw[zq];simp
  rw[show 0 / 2=0 from rfl,e]
 ·conv=>lhs;rw[zq]
  rw[dif_neg h]
theorem zq_inj:∀(n x y u v:Nat),x+y+u+v≤n→zq x y=zq u v→x=u∧y=v
 | 0,x,y,u,v,hn,_=>by omega
 | n+1,x,y,u,v,hn,h=>by
  rw[zq_step x y,zq_step u v] at h;by_cases h0:x+y+u+v=0
  ·omega
  ·have:=zq_inj n (x / 2) (y / 2) (u / 2) (v / 2) (by omega) (by omega)
   omega
theorem zq_eq {x y u v:Nat}(h:zq x y=zq u v):x=u∧y=v:=zq_inj _ x y u v (Nat.le_refl _) h
def aheadZ (ax ay bx bY:Nat):Prop:=if prtN ay bY<prtN ax bx then ax<bx else ay<bY
theorem ahead_zq:∀(n ax ay bx bY:Nat),ax+ay+bx+bY≤n→(aheadZ ax ay bx bY↔zq ax ay<zq bx bY)
 | 0,ax,ay,bx,bY,hn=>by
  obtain⟨rfl,rfl,rfl,rfl⟩:ax=0∧ay=0∧bx=0∧bY=0:=by omega
  unfold aheadZ;simp
 | n+1,ax,ay,bx,bY,hn=>by
  have sa:=zq_step ax ay
  have sb:=zq_step bx bY
  unfold aheadZ;by_cases hs:ax / 2=bx / 2∧ay / 2=bY / 2
  ·rw[hs.1,hs.2] at sa;by_cases hy:ay=bY
   ·have py:prtN ay bY=0:=(part_zero _ _).2 hy
    by_cases hx:ax=bx
    ·have px:prtN ax bx=0:=(part_zero _ _).2 hx
     rw[px,py,if_neg (Nat.lt_irrefl 0),hx,hy];omega
    ·have px:prtN ax bx≠0:=fun e=>hx ((part_zero _ _).1 e)
     rw[if_pos (by omega)];omega
   ·have py:=part_half hy
    have py0:prtN (ay / 2) (bY / 2)=0:=(part_zero _ _).2 hs.2
    have px:prtN ax bx≤1:=by
     by_cases hx:ax=bx
     ·have:=(part_zero _ _).2 hx;omega
     ·have h1:=part_half hx
      have h2:prtN (ax / 2) (bx / 2)=0:=(part_zero _ _).2 hs.1
      omega
    rw[if_neg (by omega)];omega
  ·have ih:=ahead_zq n (ax / 2) (ay / 2) (bx / 2) (bY / 2) (by
    rcases Nat.eq_zero_or_pos (ax+ay+bx+bY) with h0|h0
    ·exact absurd ⟨by omega,by omega⟩ hs
    ·omega)
   have hz:zq (ax / 2) (ay / 2)≠zq (bx / 2) (bY / 2):=fun e=>hs (zq_eq e)
   have hcmp:zq ax ay<zq bx bY↔zq (ax / 2) (ay / 2)<zq (bx / 2) (bY / 2):=by omega
   rw[hcmp,←ih];unfold aheadZ;by_cases hy:ay=bY
   ·have hy2:ay / 2=bY / 2:=by omega
    have hx2:ax / 2≠bx / 2:=fun e=>hs ⟨e,hy2⟩
    have hx:ax≠bx:=fun e=>hx2 (by omega)
    have p1:=part_half hx
    have p2:prtN ay bY=0:=(part_zero _ _).2 hy
    have p3:prtN (ay / 2) (bY / 2)=0:=(part_zero _ _).2 hy2
    have p4:prtN (ax / 2) (bx / 2)≠0:=fun e=>hx2 ((part_zero _ _).1 e)
    rw[if_pos (by omega),if_pos (by omega)];omega
   ·have py:=part_half hy
    by_cases hx:ax=bx
    ·have px:prtN ax bx=0:=(part_zero _ _).2 hx
     have hx2:ax / 2=bx / 2:=by omega
     have px2:prtN (ax / 2) (bx / 2)=0:=(part_zero _ _).2 hx2
     have hy2:ay / 2≠bY / 2:=fun e=>hs ⟨hx2,e⟩
     rw[if_neg (by omega),if_neg (by omega)];omega
    ·have px:=part_half hx
     by_cases hc:prtN (ay / 2) (bY / 2)<prtN (ax / 2) (bx / 2)
     ·rw[if_pos (by omega),if_pos hc];have hx2:ax / 2≠bx / 2:=fun e=>by have:=(part_zero _ _).2 e;omega
      omega
     ·rw[if_neg (by omega),if_neg hc];have hy2:ay / 2≠bY / 2:=fun e=>by
       have h1:=(part_zero _ _).2 e
       have h2:ax / 2=bx / 2:=(part_zero _ _).1 (by omega)
       exact hs ⟨h2,e⟩
      omega
theorem ahead_iff (ax ay bx bY:Nat):aheadZ ax ay bx bY↔zq ax ay<zq bx bY:=ahead_zq _ ax ay bx bY (Nat.le_refl _)
def qtr (m x y:Nat):Nat:=x / 2^m%2+2*(y / 2^m%2)
theorem qtr_lt (m x y:Nat):qtr m x y<4:=by unfold qtr;omega
theorem zq_div:∀(m x y:Nat),zq x y / 4^m=zq (x / 2^m) (y / 2^m)
 | 0,x,y=>by simp
 | m+1,x,y=>by
  have h:=zq_div m (x / 2) (y / 2)
  rw[Nat.pow_succ,Nat.mul_comm (4^m) 4,←Nat.div_div_eq_div_mul,show zq x y / 4=zq (x / 2) (y / 2) by have:=zq_step x y;omega,h,Nat.div_div_eq_div_mul,Nat.div_div_eq_div_mul,Nat.pow_succ,Nat.mul_comm (2^m) 2]
theorem qtr_mono {m ax ay bx bY:Nat}(hx:ax / 2^(m+1)=bx / 2^(m+1))(hy:ay / 2^(m+1)=bY / 2^(m+1))(h:zq ax ay≤zq bx bY):qtr m ax ay≤qtr m bx bY:=by
 have h1:=Nat.div_le_div_right (c:=4^m) h
 rw[zq_div,zq_div,zq_step (ax / 2^m),zq_step (bx / 2^m)] at h1
 rw[Nat.pow_succ,←Nat.div_div_eq_div_mul,←Nat.div_div_eq_div_mul] at hx hy
 rw[hx,hy] at h1
 unfold qtr
 omega
theorem part_limb {xs ys:List Nat}(hx:Dig xs)(hy:Dig ys){i:Nat}(he:∀j,i<j→xs[j]?.getD 0=ys[j]?.getD 0)(hn:xs[i]?.getD 0≠ys[i]?.getD 0) :
  prtN (val xs) (val ys)=32*i+blen (xs[i]?.getD 0 ^^^ ys[i]?.getD 0):=by
 obtain⟨u,hu⟩:∃u,u=xs[i]?.getD 0 ^^^ ys[i]?.getD 0:=⟨_,rfl⟩
 have hu0:u≠0:=fun e=>hn (xor_zero (hu.symm.trans e))
 have hL:=lt_blen u
 have hG:=blen_ge hu0
 have hb0:blen u≠0:=fun e=>by rw[e] at hL;simp at hL;exact hu0 hL
 have hb32:blen u≤32:=by
  rw[blen_le_iff,hu];exact Nat.xor_lt_two_pow (n:=32) (hx.getD _) (hy.getD _)
 rw[←hu]
 unfold prtN
 have hbit:∀k,(val xs ^^^ val ys).testBit k=((xs[k / 32]?.getD 0).testBit (k%32)!=(ys[k / 32]?.getD 0).testBit (k%32)):=fun k=>by
  rw[Nat.testBit_xor,val_testBit hx,val_testBit hy]
 refine blen_eq ?_ (.inr ?_)
 ·refine Nat.lt_pow_two_of_testBit _ fun k hk=>?_
  rw[hbit];rcases Nat.lt_or_ge i (k / 32) with h1|h1
  ·rw[he _ h1];simp
  ·have h2:k / 32=i:=by omega
   rw[h2];have h3:u.testBit (k%32)=false:=Nat.testBit_lt_two_pow (Nat.lt_of_lt_of_le hL (Nat.pow_le_pow_right (by decide) (by omega)))
   rw[hu,Nat.testBit_xor] at h3;exact h3
 ·refine Nat.ge_two_pow_of_testBit (i:=32*i+blen u-1) ?_
  rw[hbit];have h2:(32*i+blen u-1) / 32=i:=by omega
  have h3:(32*i+blen u-1)%32=blen u-1:=by omega
  rw[h2,h3];have h4:u.testBit (blen u-1)=true:=by
   have h5:u / 2^(blen u-1)=1:=by
    have h6:u<2^(blen u-1)*2:=by rw[←Nat.pow_succ,show(blen u-1).succ=blen u by omega];exact hL
    have h7:=Nat.div_lt_of_lt_mul h6
    have h8:=(Nat.one_le_div_iff (Nat.two_pow_pos _)).2 hG
    omega
   rw[Nat.testBit_eq_decide_div_mod_eq,h5]
   rfl
  rw[hu,Nat.testBit_xor,←hu] at h4;exact h4
theorem part_none {xs ys:List Nat}(hx:Dig xs)(hy:Dig ys)(he:∀j:Nat,xs[j]?.getD 0=ys[j]?.getD 0):prtN (val xs) (val ys)=0:=by
 rw[part_zero]
 refine Nat.eq_of_testBit_eq fun k=>?_
 rw[val_testBit hx,val_testBit hy,he]
end Go.Proofs.YtikehjindobpkaaGreat.Nds

namespace Go.Proofs.YtikehjindobpkaaGreat
open Go.RowKit Go.Shelf Num
attribute [local go_sem] Oper.semAt_some
structure Gro (w w':World):Prop where
 b:Below w.heap.size w w'
 d:w.drawn≤w'.drawn
theorem Gro.refl (w:World):Gro w w:=⟨Below.refl _ _,Nat.le_refl _⟩
theorem Gro.trans {a b c:World}(h:Gro a b)(k:Gro b c):Gro a c:=⟨h.b.trans (k.b.mono h.b.size),Nat.le_trans h.d k.d⟩
theorem Gro.alloc {a w:World}(h:Gro a w)(o:Obj):Gro a (w.alloc o):=h.trans ⟨(Below.refl _ w).alloc (Nat.le_refl _) o,Nat.le_refl _⟩
theorem Gro.drewN {a w:World}(h:Gro a w)(n:Nat):Gro a (w.drewN n):=h.trans ⟨below_drewN (Below.refl _ _) n,Nat.le_add_right _ _⟩
structure Marks {β:Type}(B:Nat)(I:β→World→Prop):Prop where
 lay:∀s W (o:Obj),I s W→o.isCells=false→I s (W.alloc o)
 put:∀s W l (o o':Obj),I s W→B≤l→W.heap[l]?=some o→o.isCells=false→I s (W.putObj l o')
theorem Marks.of_own {β:Type}{B:Nat}{I:β→World→Prop}(h:Own I):Marks B I :=
 ⟨fun s W o hs ho=>h s W _ none hs (World.grownBy_alloc W o none) (fun r e=>by cases e),fun s W l o o' hs hB hl ho=>h s W _ (some l) hs (grownBy_putObj' W l o') (fun r e=>by cases e;exact⟨o,hl,ho⟩)⟩
theorem Marks.and {β:Type}{B:Nat}{I I':β→World→Prop}(h:Marks B I)(k:Marks B I'):Marks B (fun s W=>I s W∧I' s W) :=
 ⟨fun s W o hs ho=>⟨h.lay s W o hs.1 ho,k.lay s W o hs.2 ho⟩,fun s W l o o' hs hB hl ho=>⟨h.put s W l o o' hs.1 hB hl ho,k.put s W l o o' hs.2 hB hl ho⟩⟩
theorem Gro.put {a W:World}(h:Gro a W){l:Nat}{o:Obj}(o':Obj)(hl:a.heap.size≤l)(ho:W.heap[l]?=some o):Gro a (W.putObj l o') :=
 ⟨h.b.grown (grownBy_putObj' W l o') h.b.size (fun k e=>by cases e;exact hl),h.d⟩
theorem Gro.setCell {a W:World}(h:Gro a W){p:Addr}(hp:a.heap.size≤p.block)(u:Value):Gro a (W.setCell p u):=⟨h.b.setCell hp u,h.d⟩
theorem Marks.gro {β:Type}{B:Nat}{w:World}(hB:w.heap.size≤B):Marks B (fun(_:β) W=>Gro w W) :=
 ⟨fun s W o hs _=>hs.alloc o,fun s W l o o' hs hl ho _=>hs.put o' (Nat.le_trans hB hl) ho⟩
theorem back_free (Bs n₀ cap:Nat)(A:Option Addr)(xs:List Nat)(hd:Dig xs)(hlen:xs.length≤1000000)(w0 w:World)(hBs:Bs<w.heap.size)(hn₀:n₀≤w.heap.size)
  (hc:w.cell? ⟨Bs,0,none⟩=some (.slice A xs.length cap)) (hU:Us w0 A cap xs) (h00:w0.heap.size=n₀) (hb0:Below n₀ w0 w)
  (l:Nat) (J Jx:List (Item xs.length)→World→Prop) (W:World) (hW:Below w.heap.size w W)
  (hY:∀pre x W,J pre W→pre.length<xs.length→YieldAt Fence.wide 2 Tryz.prog l (itemE x) W fun e W' =>
   (e=.returned (.bool true)∧J (pre++[x]) W'∧BackK n₀ Bs W W')∨(e=.returned (.bool false)∧Jx (pre++[x]) W')) (h0:J [] W) :
  CallsIn Fence.wide 3 Tryz.prog 131 #[.func (.yield l) #[] #[],.pointer (some ⟨Bs,0,none⟩)] W fun e W'=>(∃v,e=.returned v) ∧
   ((∃ys,ys=its xs hd xs.length∧J ys W')∨(∃pre,(∃k,k≤xs.length∧pre=its xs hd k)∧Jx pre W')):=by
 have hc':=(hW.cell (p:=⟨Bs,0,none⟩) hBs).trans hc
 rcases Nat.eq_zero_or_pos xs.length with hz|hz
 ·rw[hz] at hc';refine(back1_nil_in Fence.wide 3 trivial rfl l Bs cap A W hc' (fun W'=>J [] W') h0).mono fun e W' ⟨he,hj⟩=>⟨he,.inl ⟨_,rfl,?_⟩⟩
  rw[hz];exact hj
 ·obtain⟨b,off,rfl,hb,hcs⟩:=hU.at_ hz
  rw[h00] at hb;exact back1_in Fence.wide 3 trivial rfl (by decide) l Bs n₀ b off cap xs hd hlen hb J Jx hY W hc' (fun j hj=>((hb0.trans (hW.mono hn₀)).cell (p:=⟨b,off+j,none⟩) hb).trans (hcs j hj)) h0
def RoundEnd (n₀ Bs:Nat){β:Type}(I Ix:List β→World→Prop)(xs:List β)(W:World):Exit→Act→World→Prop
 | .normal,_,W'=>KeepsOthers W W'∧BackK n₀ Bs W W'∧I xs W'
 | .ret,_,W'=>KeepsOthers W W'∧Ix xs W'
 | _,_,_=>False
theorem range_free {g:Operand}{ps:Array Tmp}{assign body:Code}{Q:Exit→Act→World→Prop}{a:Act}{w:World}
    (Bs n₀ cap:Nat) (A:Option Addr) (xs:List Nat) (hd:Dig xs) (hlen:xs.length≤1000000) (w0:World)
    (hg:a.eval g=.func (.func 131) #[] #[.pointer (some ⟨Bs,0,none⟩)])
    (hBs:Bs<w.heap.size) (hn₀:n₀≤w.heap.size) (hc:w.cell? ⟨Bs,0,none⟩=some (.slice A xs.length cap)) (hU:Us w0 A cap xs) (h00:w0.heap.size=n₀) (hb0:Below n₀ w0 w)
    (hps:ps.size=2) (I Ix:List (Item xs.length)→World→Prop) (hI:Marks w.heap.size I) (hX:Marks w.heap.size Ix) (h0:I [] w) (a₁:Item xs.length→Act)
    (hassign:∀(l:Nat) (x:Item xs.length) (W:World) (K:Act→World→Prop),K (a₁ x) W →
      assign.wpIn (Fence.wide.inRound l) 2 Tryz.prog (Exit.then K (fun _ _ _=>False)) { tmps:=(ps.zip (itemE x)).foldl (fun t (p,v)=>t.setIfInBounds p v) a.tmps,defers:=[] } W)
    (hbody:∀(l:Nat) (pre:List (Item xs.length)) (x:Item xs.length) (W:World),I pre W→pre.length<xs.length→body.wpIn (Fence.wide.inRound l) 2 Tryz.prog (RoundEnd n₀ Bs I Ix (pre++[x]) W) (a₁ x) W)
    (hdone:∀(D:Nat) (ys:List (Item xs.length)) (W:World),w.heap.size≤D→ys=its xs hd xs.length→I ys W→W.heap[D]?=some (.deferred (some []))→Q .normal { a with defers:={ target:=.collected D,args:=#[] } :: a.defers } W)
    (hstop:∀(D:Nat) (pre:List (Item xs.length)) (W:World),w.heap.size≤D→(∃k,k≤xs.length∧pre=its xs hd k)→Ix pre W→W.heap[D]?=some (.deferred (some []))→Code.ret.wpIn Fence.wide 4 Tryz.prog Q { a with defers:={ target:=.collected D,args:=#[] } :: a.defers } W) :
    (Code.rangeFunc g ps assign body).wpIn Fence.wide 4 Tryz.prog Q a w:=by
  refine wpIn_rangeFunc fun fn hfn=>?_
  let mark:Obj:=.deferred (some [])
  let rec0:Loop:={ state:=.ready,pending:=none,fn:=fn,tmps:=a.tmps,params:=ps,assign:=assign,body:=body,defers:=w.heap.size }
  obtain⟨V,hV⟩:∃V,(w.alloc mark).alloc (.loop rec0)=V:=⟨_,rfl⟩
  have hsV:V.heap.size=w.heap.size+2:=by rw[←hV];simp
  have hmk:V.heap[w.heap.size]?=some mark:=by
    rw[←hV];exact(Below.heap_alloc _ _ _ (by simp)).trans (World.alloc_heap_new w _)
  have hlp:V.heap[w.heap.size+1]?=some (.loop rec0):=by
    have:=World.alloc_heap_new (w.alloc mark) (.loop rec0)
    rw[World.size_alloc] at this;rw[←hV];exact this
  have hIV:I [] V:=by rw[←hV];exact hI.lay _ _ _ (hI.lay _ _ _ h0 rfl) rfl
  have hbV:Below w.heap.size w V:=by rw[←hV];exact((Below.refl _ w).alloc (Nat.le_refl _) _).alloc (by simp) _
  refine⟨w.heap.size+1,[{ target:=.collected w.heap.size,args:=#[] }],V,{ target:=.fn (.func 131) #[.pointer (some ⟨Bs,0,none⟩)],args:=#[.func (.yield (w.heap.size+1)) #[] #[]] },V,131,
    #[.func (.yield (w.heap.size+1)) #[] #[],.pointer (some ⟨Bs,0,none⟩)],V,?_,?_,fun _ _=>trivial,?_,(fun _=>by decide),?_⟩
  · rw[←hV];exact run_enterLoop_outer _ _ _ _ _
  · simp only[resolve,hg]
    simp[go_sem]
  · have eg:∀args w,(callFunc 131 args).run Tryz.prog w=.ok (.enter 131 args) w:=enters_of Tryz.func131 (by kernel_rfl) rfl
    simp[invoke,go_sem,eg]
  · have both:∀(W W':World) (r r':Loop),W.heap[w.heap.size+1]?=some (.loop r)→W'=W.putObj (w.heap.size+1) (.loop r')→W.heap[w.heap.size]?=some mark →
        W'.heap[w.heap.size+1]?=some (.loop r')∧W'.heap[w.heap.size]?=some mark:=fun W W' r r' h1 h2 h3=>by
      subst h2;exact⟨World.putObj_heap_same (Array.getElem?_eq_some_iff.1 h1).1,(World.putObj_heap_other (by omega)).trans h3⟩
    refine(back_free Bs n₀ cap A xs hd hlen w0 w hBs hn₀ hc hU h00 hb0 (w.heap.size+1)
      (fun pre W=>I pre W∧W.heap[w.heap.size+1]?=some (.loop rec0)∧W.heap[w.heap.size]?=some mark)
      (fun pre W=>Ix pre W∧W.heap[w.heap.size+1]?=some (.loop { rec0 with state:=.done,pending:=some .ret })∧W.heap[w.heap.size]?=some mark)
      V hbV ?_ ⟨hIV,hlp,hmk⟩).mono ?_
    · rintro pre x W ⟨hi,hl,hk⟩ hlen
      refine⟨fn,_,assign,body,run_yield (P:=Tryz.prog) (args:=itemE x) hl (by rw[show rec0.params=ps from rfl,hps];rfl),roundIn_of_wpIn hfn (hassign _ x W _ ?_)⟩
      obtain⟨h1,h2⟩:=both W _ rec0 { rec0 with state:=.busy } hl rfl hk
      refine⟨_,run_beginRound hl rfl,wpIn_mono (hbody _ pre x _ (hI.put _ _ _ _ _ hi (by omega) hl rfl) hlen) ?_⟩
      rintro e a3 W3 hp
      have s2:=BackK.b (n₀:=n₀) (Bs:=Bs) hn₀ hBs W (w.heap.size+1) (.loop rec0) (.loop { rec0 with state:=.busy }) (by omega) hl rfl rfl
      cases e with
      | normal =>
        obtain⟨k3,b3,i3⟩:=hp
        have l3:=k3.same _ _ h1 rfl
        obtain⟨h4,h5⟩:=both W3 _ { rec0 with state:=.busy } rec0 l3 rfl (k3.same _ _ h2 rfl)
        exact⟨_,_,run_endRound (P:=Tryz.prog) none l3,.inl ⟨rfl,⟨hI.put _ _ _ _ _ i3 (by omega) l3 rfl,h4,h5⟩,(s2.trans b3).trans (BackK.b hn₀ hBs W3 (w.heap.size+1) _ _ (by omega) l3 rfl rfl)⟩⟩
      | ret =>
        obtain⟨k3,i3⟩:=hp
        have l3:=k3.same _ _ h1 rfl
        obtain⟨h4,h5⟩:=both W3 _ { rec0 with state:=.busy } { rec0 with state:=.done,pending:=some .ret } l3 rfl (k3.same _ _ h2 rfl)
        exact⟨_,_,run_endRound (P:=Tryz.prog) (some .ret) l3,.inr ⟨rfl,hX.put _ _ _ _ _ i3 (by omega) l3 rfl,h4,h5⟩⟩
      | exit id=>exact hp.elim
      | goto t=>exact hp.elim
      | panic ch=>exact hp.elim
      | outgrown=>exact hp.elim
    · rintro e W2 ⟨⟨v,rfl⟩,(⟨ys,hS,hi,hl,hk⟩|⟨pre,hSp,hi,hl,hk⟩)⟩
      · exact⟨none,_,run_endLoop (P:=Tryz.prog) hl (by simp[rec0]),hdone _ ys _ (Nat.le_refl _) hS (hI.put _ _ _ _ _ hi (by omega) hl rfl) ((World.putObj_heap_other (by omega)).trans hk)⟩
      · exact⟨some .ret,_,run_endLoop (P:=Tryz.prog) hl (by simp),hstop _ pre _ (Nat.le_refl _) hSp (hX.put _ _ _ _ _ hi (by omega) hl rfl) ((World.putObj_heap_other (by omega)).trans hk)⟩
def trimJ (A:Option Addr)(c B0:Nat)(xs:List Nat)(w:World)(pre:List (Item xs.length))(W:World):Prop :=
 ((∀y∈pre,y.1.2=0)∧W.cell? ⟨B0,0,none⟩=some (.slice A xs.length c)∧W.cell? ⟨B0+1,0,none⟩=some (.slice none 0 0)∧W.frozen? ⟨B0+1,0,none⟩=false)∧Gro w W
def trimY (A:Option Addr)(c B0:Nat)(xs:List Nat)(w:World)(pre:List (Item xs.length))(W:World):Prop :=
 (∃p x,pre=p++[x]∧(∀y∈p,y.1.2=0)∧x.1.2≠0∧W.cell? ⟨B0+1,0,none⟩=some (.slice A (x.1.1+1) c))∧Gro w W
def RetTG (A:Option Addr)(c:Nat)(xs:List Nat)(w:World)(e:Ending)(w':World):Prop :=
 ∃A' c' rs,e=.returned (.slice A' rs.length c')∧(∀W,Us W A c xs→Us W A' c' rs)∧Canon rs∧val rs=val xs∧rs.length≤xs.length∧Gro w w'
theorem trim_gro (A:Option Addr)(c:Nat)(xs:List Nat)(w:World)(h:Us w A c xs)(hl:xs.length≤1000000) :
  Calls Tryz.prog 111 #[.slice A xs.length c] w (RetTG A c xs w):=by
 refine(callsIn_wide (n:=4)).1 ?_
 have hd:=h.1
 obtain⟨hcap1,hcap2⟩:=h.cap
 have HH:=Lib.hid h
 clear h
 refine callsIn_of_wp_marks Tryz.func111 rfl trivial ?_ rfl
 simp only[Tryz.ntmps111,List.size_toArray,List.length_cons,List.length_nil,Nat.reduceAdd,Nat.reduceSub,Array.replicate_succ,Array.replicate_zero,List.push_toArray,List.append_toArray,List.nil_append,List.cons_append]
 gi_wp2_with (refine⟨trivial,?_⟩;gi_at_call 112;refine(callsIn_wide.2 (back_any _ _ _ _)).mono ?_;rintro e w' ⟨rfl,rfl⟩)
 have c0:=cell_new_l w (.slice A xs.length c) 29
 have c1:=cell_new_l (w.alloc (.cells #[.slice A xs.length c] 29)) (.slice none 0 0) 29
 have c2:=cell_new_l ((w.alloc (.cells #[.slice A xs.length c] 29)).alloc (.cells #[.slice none 0 0] 29)) (.slice A xs.length c) 29
 simp only[World.size_alloc] at c1 c2
 have hG0:Gro w (((w.alloc (.cells #[.slice A xs.length c] 29)).alloc (.cells #[.slice none 0 0] 29)).alloc (.cells #[.slice A xs.length c] 29)):=(((Gro.refl w).alloc _).alloc _).alloc _
 refine range_free (w.heap.size+1+1) w.heap.size c A xs hd hl w rfl (by simp) (by simp;omega) c2.1 HH.out rfl hG0.b rfl
  (trimJ A c w.heap.size xs w) (trimY A c w.heap.size xs w)
  (Marks.and (Marks.of_own (fun s A B row hs hg hr=>⟨hs.1,cell_kept hs.2.1 hg hr,cell_kept hs.2.2.1 hg hr,(frozen_kept hs.2.2.1 hg hr).trans hs.2.2.2⟩)) (Marks.gro (by simp;omega)))
  (Marks.and (Marks.of_own (fun s A B row hs hg hr=>by obtain⟨p,x,e1,e2,e3,e4⟩:=hs;exact⟨p,x,e1,e2,e3,cell_kept e4 hg hr⟩)) (Marks.gro (by simp;omega)))
  ⟨⟨by simp,cell_alloc_l _ (cell_alloc_l _ c0.1),cell_alloc_l _ c1.1,frozen_alloc_l _ c1.1 c1.2⟩,hG0⟩
  (fun x=>{ tmps:=#[.slice A xs.length c,.pointer (some ⟨w.heap.size,0,none⟩),.pointer (some ⟨w.heap.size+1,0,none⟩),.int .i64 (x.1.1:Int),.int .u32 (x.1.2:Int),.slice A xs.length c,.func (.func 131) #[] #[.pointer (some ⟨w.heap.size+1+1,0,none⟩)],.int .i64 (x.1.1:Int),.int .u32 (x.1.2:Int),undef,undef,undef,undef,undef,undef],defers:=[] }) ?assign ?body ?done ?stop
 case assign =>
  intro l x W K hK
  unfold itemE
  gi_wp2
  exact hK
 case body =>
  rintro l pre x W ⟨⟨hz,hca,hcr,hfr⟩,hB⟩ hpre
  obtain⟨⟨i,y⟩,hxi⟩:=x
  have hi':i<xs.length:=hxi.1 (by omega)
  have hy:y<4294967296:=hxi.2
  dsimp only
  have HZ:=Lib.hid hz;have HB:=Lib.hid hB;clear hz hB c0 c1 c2 hG0;by_cases hy0:y=0
  ·subst hy0
   gi_wp2
   refine⟨KeepsOthers.refl _,BackK.refl _ _ _,⟨fun z hz=>?_,hca,hcr,hfr⟩,HB.out⟩
   rcases List.mem_append.1 hz with hz|hz
   ·exact HZ.out z hz
   ·simp only[List.mem_singleton] at hz;subst hz;rfl
  ·have t1:((y:Int)!=0)=true:=by rw[bne_iff_ne];omega
   have hic:(i:Int)+1≤(c:Int):=by omega
   gi_wp2
   refine⟨KeepsOthers.setCell _ _ _,⟨pre,_,rfl,HZ.out,hy0,World.cell?_setCell_same' _ _ _ (by rw[hcr];rfl)⟩,HB.out.setCell (p:=⟨w.heap.size+1,0,none⟩) (by simp) _⟩
 case done =>
  rintro D ys W hD rfl ⟨⟨hz,hca,hcr,hfr⟩,hB⟩ hK
  have hv:=trim_none hz
  have HZ:=Lib.hid hz;have HB:=Lib.hid hB;have HV:=Lib.hid hv;clear hz hB hv c0 c1 c2 hG0
  gi_wp2
  have hK':=(KeepsOthers.setCell W ⟨w.heap.size+1,0,none⟩ (.slice none 0 0)).same D _ hK rfl
  refine⟨by simp,.inl ⟨_,_,rfl,run_takeDeferred hK',?_⟩⟩
  have hc5:=cell_kept (World.cell?_setCell_same' W ⟨w.heap.size+1,0,none⟩ (.slice none 0 0) (by rw[hcr];rfl)) (grownBy_putObj' _ D (.deferred none)) (fun r e=>by cases e;exact⟨_,hK',rfl⟩)
  refine⟨.slice none 0 0,?_,none,0,[],rfl,fun W _=>Us.nil W,canon_nil,by rw[HV.out];rfl,Nat.zero_le _,(HB.out.setCell (p:=⟨w.heap.size+1,0,none⟩) (by simp) _).put (.deferred none) (by simp at hD;omega) hK'⟩
  simp[results,Tryz.f111,go_sem,hc5]
 case stop =>
  rintro D pre W hD ⟨k,hk,hpre⟩ ⟨⟨p,x,e1,e2,e3,hcr⟩,hB⟩ hK
  obtain⟨g1,g2,g3,g4⟩:=trim_some hk (e1.symm.trans hpre) e2 e3
  have HB:=Lib.hid hB;clear hB e1 e2 hpre c0 c1 c2 hG0
  gi_wp2
  refine⟨by simp,.inl ⟨_,_,rfl,run_takeDeferred hK,?_⟩⟩
  have hc5:=cell_kept hcr (grownBy_putObj' _ D (.deferred none)) (fun r e=>by cases e;exact⟨_,hK,rfl⟩)
  refine⟨.slice A (x.1.1+1) c,?_,A,c,xs.take (x.1.1+1),?_,fun W hW=>hW.take (by omega),g3,g4,by rw[List.length_take];omega,HB.out.put (.deferred none) (by simp at hD;omega) hK⟩
  ·simp[results,Tryz.f111,go_sem,hc5]
  ·rw[List.length_take,Nat.min_eq_left (by omega)]
end Go.Proofs.YtikehjindobpkaaGreat

namespace Go.Proofs.YtikehjindobpkaaGreat
open Go.RowKit Go.Shelf Num Nds
attribute [local go_sem] Oper.semAt_some
def CmpCutG (B0 n m:Nat)(w:World)(s0:Value)(wx:World):Prop :=
 ∃A c ra B d rb,s0=.slice A ra.length c∧wx.cell? ⟨B0,0,none⟩=some (.slice B rb.length d)∧wx.cell? ⟨B0+1,0,none⟩=some (.int .i64 0)∧wx.frozen? ⟨B0+1,0,none⟩=false ∧
  Us wx A c ra∧Us wx B d rb∧Canon ra∧Canon rb∧val ra=n∧val rb=m∧ra.length≤1000000∧rb.length≤1000000∧Gro w wx
structure CmpStG (w W0:World)(v:Value)(W:World):Prop where
 size:W0.heap.size=w.heap.size+2
 cell:W.cell? ⟨w.heap.size,0,none⟩=some v
 free:W.frozen? ⟨w.heap.size,0,none⟩=false
 cellR:W.cell? ⟨w.heap.size+1,0,none⟩=some (.int .i64 0)
 freeR:W.frozen? ⟨w.heap.size+1,0,none⟩=false
 b:Gro W0 W
 base:Gro w W0
theorem CmpStG.next {w W0 W W1:World}{v:Value}(h:CmpStG w W0 v W)(hg:Gro W W1):CmpStG w W0 v W1 :=
 have l0:=lt_of_cell h.cell
 have l1:=lt_of_cell h.cellR
 have hb:=hg.b
 ⟨h.size,(hb.cell (p:=⟨w.heap.size,0,none⟩) l0).trans h.cell,(hb.frozen (p:=⟨w.heap.size,0,none⟩) l0).trans h.free,(hb.cell (p:=⟨w.heap.size+1,0,none⟩) l1).trans h.cellR,(hb.frozen (p:=⟨w.heap.size+1,0,none⟩) l1).trans h.freeR,
  h.b.trans hg,h.base⟩
theorem cmp_endG {w W0 w2:World}{v:Value}{A B A1 A2:Option Addr}{c d c1 c2:Nat}{xs ys r1 r2:List Nat}(h:Us w A c xs)(k:Us w B d ys)(st:CmpStG w W0 v w2)
  (h1:(∀W,Us W A c xs→Us W A1 c1 r1)∧Canon r1∧val r1=val xs∧r1.length≤xs.length) (h2:(∀W,Us W B d ys→Us W A2 c2 r2)∧Canon r2∧val r2=val ys∧r2.length≤ys.length)
  (hx:xs.length≤1000000) (hy:ys.length≤1000000) :
  CmpCutG w.heap.size (val xs) (val ys) w (.slice A1 r1.length c1) (w2.setCell ⟨w.heap.size,0,none⟩ (.slice A2 r2.length c2)):=by
 have hb:Gro w (w2.setCell ⟨w.heap.size,0,none⟩ (.slice A2 r2.length c2)):=(st.base.trans st.b).setCell (p:=⟨w.heap.size,0,none⟩) (Nat.le_refl _) _
 refine⟨A1,c1,r1,A2,c2,r2,rfl,World.cell?_setCell_same' _ _ _ (by rw[st.cell];rfl),?_,?_,h1.1 _ (h.below hb.b),h2.1 _ (k.below hb.b),h1.2.1,h2.2.1,h1.2.2.1,h2.2.2.1,by omega,by omega,hb⟩
 ·rw[World.cell?_setCell_other _ _ _ _ (by simp)];exact st.cellR
 ·rw[World.frozen?_setCell];exact st.freeR
def cmpJ (xs ys:List Nat)(w:World)(pre:List (Item xs.length))(W:World):Prop :=
 ((∀y∈pre,y.1.2=ys[y.1.1]?.getD 0))∧Gro w W
def cmpY (B1:Nat)(xs ys:List Nat)(w:World)(pre:List (Item xs.length))(W:World):Prop :=
 (∃p x,pre=p++[x]∧(∀y∈p,y.1.2=ys[y.1.1]?.getD 0)∧x.1.2≠ys[x.1.1]?.getD 0∧W.cell? ⟨B1,0,none⟩=some (.int .i64 (cmpN x.1.2 (ys[x.1.1]?.getD 0))))∧Gro w W
theorem cmp_gro (A B:Option Addr)(c d:Nat)(xs ys:List Nat)(w:World)(h:Us w A c xs)(k:Us w B d ys)(hx:xs.length≤1000000)(hy:ys.length≤1000000) :
    Calls Tryz.prog 86 #[.slice A xs.length c,.slice B ys.length d] w fun e w'=>e=.returned (.int .i64 (cmpN (val xs) (val ys)))∧Gro w w':=by
  have H1:=Lib.hid h;have H2:=Lib.hid k;clear h k;refine calls_of_wide Tryz.func86 rfl ?_
  simp only[Tryz.ntmps86,List.size_toArray,List.length_cons,List.length_nil,Nat.reduceAdd,Nat.reduceSub,Array.replicate_succ,Array.replicate_zero,List.push_toArray,List.append_toArray,List.nil_append,List.cons_append]
  go_upto_region 1 with fail
  go_cut [0] from 7 to 10 (fun s0 wx=>CmpCutG w.heap.size (val xs) (val ys) w s0 wx)
  case first =>
    have c0:=cell_new_l w (.slice B ys.length d) 29
    have c1:=cell_new_l (w.alloc (.cells #[.slice B ys.length d] 29)) (.int .i64 0) 3
    simp only[World.size_alloc] at c1
    obtain⟨W0,hW0⟩:∃W0,(w.alloc (.cells #[.slice B ys.length d] 29)).alloc (.cells #[.int .i64 0] 3)=W0:=⟨_,rfl⟩
    have st:CmpStG w W0 (.slice B ys.length d) W0.drew:=by
      rw[←hW0];exact⟨by simp,cell_alloc_l _ c0.1,frozen_alloc_l _ c0.1 c0.2,c1.1,c1.2,(Gro.refl _).drewN 1,((Gro.refl w).alloc _).alloc _⟩
    have uA:=H1.out.below st.base.b
    have uB:=H2.out.below st.base.b
    have cB:=st.cell
    have fB:=st.free
    rw[hW0];clear hW0 c0 c1;have UA:=Lib.hid uA;have UB:=Lib.hid uB;clear uA uB;refine wp_normalOnly ?_
    go_region_with (first
      | (go_at_call_of 111 (Value.slice A xs.length c);refine(trim_gro A c xs _ (UA.out.below (CmpStG.b (by assumption)).b) hx).mono ?_;rintro e w1 ⟨A1,c1,r1,rfl,u1,k1,v1,l1,b1⟩;have st1:=CmpStG.next (by assumption) b1;have cB1:=st1.cell;have fB1:=st1.free;have U1:=Lib.hid (And.intro u1 (And.intro k1 (And.intro v1 l1)));clear u1 k1 v1 l1)
      | (go_at_call_of 111 (Value.slice B ys.length d);refine(trim_gro B d ys _ (UB.out.below (CmpStG.b (by assumption)).b) hy).mono ?_;rintro e w2 ⟨A2,c2,r2,rfl,u2,k2,v2,l2,b2⟩;have st2:=CmpStG.next (by assumption) b2;have cB2:=st2.cell;have fB2:=st2.free;have U2:=Lib.hid (And.intro u2 (And.intro k2 (And.intro v2 l2)));clear u2 k2 v2 l2))
    all_goals
      unfold NormalOnly;go_wp2_with fail
      go_meet
      exact cmp_endG H1.out H2.out st2 U1.out U2.out hx hy
  case rest =>
    obtain⟨A1,cc1,ra,B1,d1,rb,rfl,hcB,hcR,hfR,uA,uB,kA,kB,vA,vB,lA,lB,hbw⟩:=hcut
    have UA:=Lib.hid uA;have UB:=Lib.hid uB;have hd:=uA.1
    have HV:=Lib.hid (And.intro vA vB)
    have HBW:=Lib.hid hbw;have hsz:=lt_of_cell hcR
    dsimp only at hsz
    clear uA uB vA vB H1 H2 hx hy hbw;by_cases hl:ra.length=rb.length
    · have t1:((ra.length:Int)!=(rb.length:Int))=false:=by rw[bne_eq_false_iff_eq];omega
      have HL:=Lib.hid hl;clear hl;go_wp2_with (go_at_call 112;refine(back_any _ _ _ _).mono ?_;rintro e w' ⟨rfl,rfl⟩)
      have c1:=cell_new_l wc (.slice A1 ra.length cc1) 29
      have hG0:Gro wc (wc.alloc (.cells #[.slice A1 ra.length cc1] 29)):=(Gro.refl wc).alloc _
      have hle:=HBW.out.b.size
      refine wpIn_wide.1 (range_free wc.heap.size wc.heap.size cc1 A1 ra hd lA wc rfl (by simp) (by simp) c1.1 UA.out rfl hG0.b rfl
        (cmpJ ra rb wc) (cmpY (w.heap.size+1) ra rb w)
        (Marks.and ⟨fun s W o hs _=>hs,fun s W l o o' hs _ _ _=>hs⟩ (Marks.gro (by simp)))
        (Marks.and (Marks.of_own (fun s A B row hs hg hr=>by obtain⟨p,x,e1,e2,e3,e4⟩:=hs;exact⟨p,x,e1,e2,e3,cell_kept e4 hg hr⟩)) (Marks.gro (by simp;omega)))
        ⟨by simp,hG0⟩
        (fun x=>{ tmps:=#[.slice A1 ra.length cc1,.slice B ys.length d,undef,.pointer (some ⟨w.heap.size,0,none⟩),.pointer (some ⟨w.heap.size+1,0,none⟩),.int .i64 (x.1.1:Int),.int .u32 (x.1.2:Int),u7,u8,u9,u10,.slice A1 ra.length cc1,.int .i64 (ra.length:Int),.slice B1 rb.length d1,.int .i64 (rb.length:Int),.bool false,undef,undef,undef,undef,undef,.slice A1 ra.length cc1,
          .func (.func 131) #[] #[.pointer (some ⟨wc.heap.size,0,none⟩)],.int .i64 (x.1.1:Int),.int .u32 (x.1.2:Int),undef,undef,undef,undef,undef,undef,undef,undef,undef,undef,undef,undef],defers:=[] }) ?assign ?body ?done ?stop)
      case assign =>
        intro l x W K hK
        unfold itemE
        gi_wp2
        exact hK
      case body =>
        rintro l pre x W ⟨hz,hB⟩ hpre
        obtain⟨⟨i,y⟩,hxi⟩:=x
        have hi':i<ra.length:=hxi.1 (by omega)
        have hy:y<4294967296:=hxi.2
        dsimp only
        have eB:=(hB.b.cell (p:=⟨w.heap.size,0,none⟩) (by show w.heap.size<_;omega)).trans hcB
        have eR:=(hB.b.cell (p:=⟨w.heap.size+1,0,none⟩) hsz).trans hcR
        have gR:=(hB.b.frozen (p:=⟨w.heap.size+1,0,none⟩) hsz).trans hfR
        have hi2:i<rb.length:=by rw[←HL.out];exact hi'
        obtain⟨b2,off2,hA2,hb2,hc2⟩:=UB.out.at_ (show 0<rb.length by omega)
        have e2:=(hB.b.cell (p:=⟨b2,off2+i,none⟩) hb2).trans (hc2 i hi2)
        rw[hA2] at eB;have HZ:=Lib.hid hz;have HB:=Lib.hid hB;obtain⟨z,hzz⟩:∃z,z=rb[i]?.getD 0:=⟨_,rfl⟩
        rw[←hzz] at e2;have HZZ:=Lib.hid hzz;clear hz hB c1 hG0 hcB hcR hfR hc2 hA2 hzz t1;by_cases hy0:y=z
        · subst hy0
          have t2:((y:Int)!=(y:Int))=false:=by simp
          gi_wp2
          refine⟨KeepsOthers.refl _,BackK.refl _ _ _,fun q hq=>?_,HB.out⟩
          rcases List.mem_append.1 hq with hq|hq
          · exact HZ.out q hq
          · simp only[List.mem_singleton] at hq;subst hq;exact HZZ.out
        · have t2:((y:Int)!=(z:Int))=true:=by rw[bne_iff_ne];omega
          gi_wp2_with (refine⟨trivial,?_⟩;gi_at_call 113;refine(CallsIn.inRound l (callsIn_wide.2 (cmpU32_any y z _))).mono ?_;rintro e w' ⟨rfl,rfl⟩)
          refine⟨KeepsOthers.setCell _ _ _,⟨pre,_,rfl,HZ.out,?_,?_⟩,(HBW.out.trans HB.out).setCell (p:=⟨w.heap.size+1,0,none⟩) (by simp) _⟩
          · show y≠rb[i]?.getD 0
            rw[←HZZ.out];exact hy0
          · show _=some (Value.int .i64 (cmpN y (rb[i]?.getD 0)))
            rw[←HZZ.out];exact World.cell?_setCell_same' _ _ _ (by rw[eR];rfl)
      case done =>
        rintro D zs W hD rfl ⟨hz,hB⟩ hK
        have hv:=cmp_same HL.out (cmp_none hz)
        have eR:=(hB.b.cell (p:=⟨w.heap.size+1,0,none⟩) hsz).trans hcR
        have gR:=(hB.b.frozen (p:=⟨w.heap.size+1,0,none⟩) hsz).trans hfR
        have HB:=Lib.hid hB;have HV2:=Lib.hid hv;clear hz hB hv c1 hG0 hcB hcR hfR t1
        go_wp2
        have hK':=(KeepsOthers.setCell W ⟨w.heap.size+1,0,none⟩ (.int .i64 0)).same D _ hK rfl
        refine⟨by simp,.inl ⟨_,_,rfl,run_takeDeferred hK',?_⟩⟩
        have hc5:=cell_kept (World.cell?_setCell_same' W ⟨w.heap.size+1,0,none⟩ (.int .i64 0) (by rw[eR];rfl)) (grownBy_putObj' _ D (.deferred none)) (fun r e=>by cases e;exact⟨_,hK',rfl⟩)
        refine⟨.int .i64 0,?_,?_,((HBW.out.trans HB.out).setCell (p:=⟨w.heap.size+1,0,none⟩) (by simp) _).put (.deferred none) (by simp at hD;omega) hK'⟩
        · simp[results,Tryz.f86,go_sem,hc5]
        · rw[←HV.out.1,←HV.out.2,HV2.out]
          simp[cmpN]
      case stop =>
        rintro D pre W hD ⟨k,hk,hpre⟩ ⟨⟨p,x,e1,e2,e3,hcr⟩,hB⟩ hK
        obtain⟨g1,g2,g3⟩:=cmp_some hk (e1.symm.trans hpre) e2
        have g4:=cmp_at hd UB.out.1 HL.out g1 g3 (by rw[←g2];exact e3)
        rw[←g2] at g4;have G4:=Lib.hid g4;have HB:=Lib.hid hB;clear hB e1 e2 hpre c1 hG0 g4 g2 g3 hcB hcR hfR t1
        gi_wp2
        refine⟨by simp,.inl ⟨_,_,rfl,run_takeDeferred hK,?_⟩⟩
        have hc5:=cell_kept hcr (grownBy_putObj' _ D (.deferred none)) (fun r e=>by cases e;exact⟨_,hK,rfl⟩)
        refine⟨.int .i64 (cmpN x.1.2 (rb[x.1.1]?.getD 0)),?_,?_,HB.out.put (.deferred none) (by simp at hD;omega) hK⟩
        · simp[results,Tryz.f86,go_sem,hc5]
        · rw[←HV.out.1,←HV.out.2,G4.out]
    · have t1:((ra.length:Int)!=(rb.length:Int))=true:=by rw[bne_iff_ne];omega
      go_wp2_with (go_at_call 94;refine(cmpInt_any _ _ _).mono ?_;rintro e w' ⟨rfl,rfl⟩)
      have hc5:=World.cell?_setCell_same' wc ⟨w.heap.size+1,0,none⟩ (.int .i64 (cmpZ (ra.length:Int) (rb.length:Int))) (by rw[hcR];rfl)
      refine⟨.int .i64 (cmpZ (ra.length:Int) (rb.length:Int)),?_,?_,HBW.out.setCell (p:=⟨w.heap.size+1,0,none⟩) (by simp) _⟩
      · simp[results,Tryz.f86,go_sem,hc5]
      · rw[←HV.out.1,←HV.out.2]
        congr 2
        unfold cmpN cmpZ;rcases Nat.lt_or_ge ra.length rb.length with hlt|hge
        · rw[if_pos (lt_of_len hd kB hlt),if_pos (by omega)]
        · have:=lt_of_len UB.out.1 kA (show rb.length<ra.length by omega)
          rw[if_neg (by omega),if_neg (by omega),if_neg (by omega),if_neg (by omega)]
theorem bcmp_gro (s t:Bool)(A B:Option Addr)(c d:Nat)(xs ys:List Nat)(w:World)(h:Us w A c xs)(k:Us w B d ys)(hl:xs.length≤60000)(kl:ys.length≤60000)(hc:CanonI s xs)(kc:CanonI t ys) :
  Calls Tryz.prog 55 #[.agg #[.bool s,.slice A xs.length c],.agg #[.bool t,.slice B ys.length d]] w fun e w'=>e=.returned (.int .i64 (ordI (ival s xs) (ival t ys)))∧Gro w w':=by
 have hcap:=h.cap
 have kcap:=k.cap
 have hB:Gro w ((w.alloc (.cells #[.bool s,.slice A xs.length c] 31)).alloc (.cells #[.bool t,.slice B ys.length d] 31)):=((Gro.refl w).alloc _).alloc _
 have HB:=Lib.hid hB
 have H1:=Lib.hid (h.below HB.out.b)
 have H2:=Lib.hid (k.below HB.out.b)
 obtain⟨z,hz⟩:∃z,z=ordI (ival s xs) (ival t ys):=⟨_,rfl⟩
 rw[←hz]
 have HZ:=Lib.hid hz
 clear h k hB hz
 cases s <;> cases t
 ·go_enter Tryz.func55,Tryz.ntmps55
  go_wp2_with (go_at_call 86;refine(cmp_gro _ _ _ _ xs ys _ H1.out H2.out (by omega) (by omega)).mono ?_;rintro e w1 ⟨rfl,b⟩;rw[cmp_pp,←HZ.out])
  go_ret
  exact⟨rfl,HB.out.trans b⟩
 ·go_enter Tryz.func55,Tryz.ntmps55
  go_wp2_with fail
  go_ret
  refine⟨ret_int ?_,HB.out⟩
  rw[HZ.out];have:=kc.2 rfl
  have h2:val ys≠0:=fun e=>this (canon_zero kc.1 e)
  unfold ordI ival;simp only[if_true,Bool.false_eq_true,if_false]
  rw[if_neg (by omega),if_neg (by omega)]
 ·go_enter Tryz.func55,Tryz.ntmps55
  go_wp2_with fail
  go_ret
  refine⟨ret_int ?_,HB.out⟩
  rw[HZ.out];have:=hc.2 rfl
  have h2:val xs≠0:=fun e=>this (canon_zero hc.1 e)
  unfold ordI ival;simp only[if_true,Bool.false_eq_true,if_false]
  rw[if_pos (by omega)]
 ·go_enter Tryz.func55,Tryz.ntmps55
  go_wp2_with (go_at_call 86;refine(cmp_gro _ _ _ _ ys xs _ H2.out H1.out (by omega) (by omega)).mono ?_;rintro e w1 ⟨rfl,b⟩;rw[cmp_nn,←HZ.out])
  go_ret
  exact⟨rfl,HB.out.trans b⟩
end Go.Proofs.YtikehjindobpkaaGreat

namespace Go.Proofs.YtikehjindobpkaaGreat
open Go.RowKit Nds
def CvR (v:Cv):Prop:=CanonI v.sx v.xs∧CanonI v.sy v.ys∧v.xs.length≤60000∧v.ys.length≤60000
theorem byPlace_gro (v u:Cv)(w:World)(h:CvU w v)(k:CvU w u)(hr:CvR v)(kr:CvR u) :
  Calls Tryz.prog 93 #[cvv v,cvv u] w fun e w'=>e=.returned (.int .i64 (ordC v u))∧Gro w w':=by
 have hv1:=h.1.cap
 have hv2:=h.2.1.cap
 have hu1:=k.1.cap
 have hu2:=k.2.1.cap
 obtain⟨W,hW⟩:∃W:World,W=(w.alloc (.cells #[.bool v.sx,.slice v.ax v.xs.length v.cx,.bool v.sy,.slice v.ay v.ys.length v.cy,.int .u8 v.st] 83)).alloc (.cells #[.bool u.sx,.slice u.ax u.xs.length u.cx,.bool u.sy,.slice u.ay u.ys.length u.cy,.int .u8 u.st] 83):=⟨_,rfl⟩
 have hg:Gro w W:=by rw[hW];exact((Gro.refl w).alloc _).alloc _
 have HG:=Lib.hid hg
 have HV:=Lib.hid (h.below hg.b)
 have HU:=Lib.hid (k.below hg.b)
 have hbx:CvAt W w.heap.size 0 v:=by
  rw[hW];exact(CvAt.new w v _).below (Below.heap_alloc _ _ _ (by simp))
 have hby:CvAt W (w.heap.size+1) 0 u:=by
  rw[hW];have h1:=CvAt.new (w.alloc (.cells #[.bool v.sx,.slice v.ax v.xs.length v.cx,.bool v.sy,.slice v.ay v.ys.length v.cy,.int .u8 v.st] 83)) u 83
  rwa [show(w.alloc (.cells #[.bool v.sx,.slice v.ax v.xs.length v.cx,.bool v.sy,.slice v.ay v.ys.length v.cy,.int .u8 v.st] 83)).heap.size=w.heap.size+1 by simp] at h1
 have HBX:=Lib.hid hbx
 have HBY:=Lib.hid hby
 have HLT:=Lib.hid (show w.heap.size+1<W.heap.size by rw[hW];simp)
 have HVR:=Lib.hid hr
 have HUR:=Lib.hid kr
 have q0:True:=trivial
 obtain⟨R,hR⟩:∃R,R=ordC v u:=⟨_,rfl⟩
 rw[←hR]
 have HR:=Lib.hid hR
 have HW:=Lib.hid hW
 by_cases hy:ordI (ival v.sy v.ys) (ival u.sy u.ys)=0
 ·have HY:=Lib.hid hy;clear h k hg hbx hby hW hR hy hr kr
  go_enter Tryz.func93,Tryz.ntmps93
  go_wp2_with (first
   | (have _t:=q0;go_at_call 55;clear _t;go_loud (rw[←HW.out];refine(bcmp_gro _ _ _ _ _ _ _ _ _ HV.out.2.1 HU.out.2.1 HVR.out.2.2.2 HUR.out.2.2.2 HVR.out.2.1 HUR.out.2.1).mono ?_;rintro e w1 ⟨rfl,b1⟩;rw[HY.out];have HB1:=Lib.hid b1;have HV1:=Lib.hid (HV.out.below b1.b);have HU1:=Lib.hid (HU.out.below b1.b);obtain⟨c1,c2,-,-,-⟩:=HBX.out.below (b1.b.block w.heap.size (by have:=HLT.out;omega));obtain⟨d1,d2,-,-,-⟩:=HBY.out.below (b1.b.block (w.heap.size+1) HLT.out);clear b1;have q1:=q0;clear q0))
   | (have _t:=q1;go_at_call 55;clear _t;go_loud (refine(bcmp_gro _ _ _ _ _ _ _ _ _ HV1.out.1 HU1.out.1 HVR.out.2.2.1 HUR.out.2.2.1 HVR.out.1 HUR.out.1).mono ?_;rintro e w2 ⟨rfl,b2⟩;have HB2:=Lib.hid b2;clear b2;have q2:=q1;clear q1)))
  go_ret
  refine⟨?_,HG.out.trans (HB1.out.trans HB2.out)⟩
  rw[HR.out];unfold ordC;rw[if_pos HY.out]
  rfl
 ·obtain⟨r,hr'⟩:∃r,r=ordI (ival v.sy v.ys) (ival u.sy u.ys):=⟨_,rfl⟩
  rw[←hr'] at hy;have HRY:=Lib.hid hr';have HNE:=Lib.hid hy;have t1:(r != 0)=true:=by rw[bne_iff_ne];exact hy
  clear h k hg hbx hby hW hR hy hr' hr kr
  go_enter Tryz.func93,Tryz.ntmps93
  go_wp2_with (go_at_call 55;go_loud (rw[←HW.out];refine(bcmp_gro _ _ _ _ _ _ _ _ _ HV.out.2.1 HU.out.2.1 HVR.out.2.2.2 HUR.out.2.2.2 HVR.out.2.1 HUR.out.2.1).mono ?_;rintro e w1 ⟨rfl,b1⟩;rw[←HRY.out];have HB1:=Lib.hid b1;clear b1))
  go_ret
  refine⟨?_,HG.out.trans HB1.out⟩
  rw[HR.out];unfold ordC;rw[←HRY.out,if_neg HNE.out]
  rfl
end Go.Proofs.YtikehjindobpkaaGreat

namespace Go.Proofs.YtikehjindobpkaaGreat
open Go.RowKit Nds Num
theorem at32_gro (s:Bool)(A:Option Addr)(c:Nat)(xs:List Nat)(i:Nat)(w:World)(h:Us w A c xs)(hl:xs.length≤60000) :
  Calls Tryz.prog 157 #[.agg #[.bool s,.slice A xs.length c],.int .i64 (i:Int)] w fun e w'=>e=.returned (.int .u32 (xs[i]?.getD 0:Nat))∧Gro w w':=by
 have hcap:=h.cap
 obtain⟨x,hx⟩:∃x,x=xs[i]?.getD 0:=⟨_,rfl⟩
 have hg:Gro w (w.alloc (.cells #[.bool s,.slice A xs.length c] 31)):=(Gro.refl w).alloc _
 have hb:=hg.b
 by_cases hlt:i<xs.length
 ·obtain⟨b,off,rfl,hbw,hc⟩:=h.at_ (by omega)
  have hck:=(hb.cell (p:=⟨b,off+i,none⟩) hbw).trans (hc i hlt)
  rw[←hx] at hck ⊢;have HG:=Lib.hid hg;have i1:(i:Int)<(xs.length:Int):=by omega
  have i2:(0:Int)≤(i:Int):=by omega
  have i3:decide ((i:Int)<(xs.length:Int))=true:=decide_eq_true i1
  clear hc h hx hg hb
  go_enter Tryz.func157,Tryz.ntmps157
  go_wp2
  go_ret
  exact⟨rfl,HG.out⟩
 ·rw[List.getElem?_eq_none (by omega)] at hx ⊢;have i3:decide ((i:Int)<(xs.length:Int))=false:=decide_eq_false (by omega)
  have HG:=Lib.hid hg;clear h hx hg hb
  go_enter Tryz.func157,Tryz.ntmps157
  go_wp2
  go_ret
  exact⟨rfl,HG.out⟩
structure TwoB (w:World)(B:Nat)(x y:Bool × Option Addr × Nat × List Nat)(W:World):Prop where
 g:Gro w W
 lt:B+1<W.heap.size
 x0:W.cell? ⟨B,0,none⟩=some (.bool x.1)
 x1:W.cell? ⟨B,1,none⟩=some (.slice x.2.1 x.2.2.2.length x.2.2.1)
 y0:W.cell? ⟨B+1,0,none⟩=some (.bool y.1)
 y1:W.cell? ⟨B+1,1,none⟩=some (.slice y.2.1 y.2.2.2.length y.2.2.1)
 ux:Us W x.2.1 x.2.2.1 x.2.2.2
 uy:Us W y.2.1 y.2.2.1 y.2.2.2
theorem TwoB.next {w:World}{B:Nat}{x y:Bool × Option Addr × Nat × List Nat}{W W1:World}(h:TwoB w B x y W)(k:Gro W W1):TwoB w B x y W1 :=
 ⟨h.g.trans k,Nat.lt_of_lt_of_le h.lt k.b.size,(k.b.cell (p:=⟨B,0,none⟩) (by have:=h.lt;show B<_;omega)).trans h.x0,(k.b.cell (p:=⟨B,1,none⟩) (by have:=h.lt;show B<_;omega)).trans h.x1,
  (k.b.cell (p:=⟨B+1,0,none⟩) h.lt).trans h.y0,(k.b.cell (p:=⟨B+1,1,none⟩) h.lt).trans h.y1,h.ux.below k.b,h.uy.below k.b⟩
theorem TwoB.drew {w:World}{B:Nat}{x y:Bool × Option Addr × Nat × List Nat}{W:World}(h:TwoB w B x y W):TwoB w B x y W.drew:=h.next ((Gro.refl W).drewN 1)
theorem parting_gro (s t_:Bool)(A B:Option Addr)(c d:Nat)(xs ys:List Nat)(w:World)(h:Us w A c xs)(k:Us w B d ys)(hl:xs.length≤60000)(kl:ys.length≤60000) :
  Calls Tryz.prog 125 #[.agg #[.bool s,.slice A xs.length c],.agg #[.bool t_,.slice B ys.length d]] w fun e w'=>e=.returned (.int .i64 (prtN (val xs) (val ys):Nat))∧Gro w w':=by
 have hcap:=h.cap
 have kcap:=k.cap
 have hdx:=h.1
 have hdy:=k.1
 obtain⟨W,hW⟩:∃W:World,W=(w.alloc (.cells #[.bool s,.slice A xs.length c] 31)).alloc (.cells #[.bool t_,.slice B ys.length d] 31):=⟨_,rfl⟩
 have hg:Gro w W:=by rw[hW];exact((Gro.refl w).alloc _).alloc _
 have hP:TwoB w w.heap.size (s,A,c,xs) (t_,B,d,ys) W:=by
  obtain⟨e1,e2,_⟩:=box2 w (.bool s) (.slice A xs.length c) (.bool t_) (.slice B ys.length d) 31
  rw[←hW] at e1 e2;exact⟨hg,by rw[hW];simp,e1.1,e1.2.1,e2.1,e2.2.1,h.below hg.b,k.below hg.b⟩
 obtain⟨R,hR⟩:∃R,R=prtN (val xs) (val ys):=⟨_,rfl⟩
 rw[←hR]
 have HR:=Lib.hid hR
 have HW:=Lib.hid hW
 have HP:=Lib.hid hP
 have HD:=Lib.hid (And.intro hdx hdy)
 clear h k hg hP hW hR hdx hdy
 have q0:True:=trivial
 go_enter Tryz.func125,Tryz.ntmps125
 go_wp2_with fail
 go_loopw [5] (fun i wr=>∃(k:Nat) (t:Int),TwoB w w.heap.size (s,A,c,xs) (t_,B,d,ys) wr∧t=(k:Int)-1∧k≤60000∧i=.int .i64 t∧∀j,k≤j→xs[j]?.getD 0=ys[j]?.getD 0)
  (fun i _=>(intOf i+1).toNat)
 case atStart =>
  refine⟨Nat.max xs.length ys.length,_,by rw[←HW.out];exact HP.out,rfl,Nat.max_le.2 ⟨hl,kl⟩,?_,fun j hj=>?_⟩
  ·congr 1
   rw[show(Nat.max xs.length ys.length)=max xs.length ys.length from rfl];omega
  ·have h1:=Nat.le_trans (Nat.le_max_left xs.length ys.length) hj
   have h2:=Nat.le_trans (Nat.le_max_right xs.length ys.length) hj
   rw[List.getElem?_eq_none h1,List.getElem?_eq_none h2]
 case round =>
  obtain⟨k,t,hPr,ht,hk,rfl,hall⟩:=hrel
  have HA:=Lib.hid hall;clear hall;by_cases hp:0<k
  ·obtain⟨p,rfl⟩:∃p,k=p+1:=⟨k-1,by omega⟩
   obtain rfl:t=(p:Int):=by omega
   clear ht hp;obtain⟨x,hx⟩:∃x,x=xs[p]?.getD 0:=⟨_,rfl⟩
   obtain⟨y,hy⟩:∃y,y=ys[p]?.getD 0:=⟨_,rfl⟩
   have hx9:x<4294967296:=by rw[hx];exact HD.out.1.getD _
   have hy9:y<4294967296:=by rw[hy];exact HD.out.2.getD _
   have HX:=Lib.hid hx;have HY:=Lib.hid hy;clear hx hy;have st:=hPr.drew
   have c1:=hPr.x0
   have c2:=hPr.x1
   have c3:=hPr.y0
   have c4:=hPr.y1
   dsimp only at c1 c2 c3 c4
   have HPR:=Lib.hid hPr;clear hPr;have i2:(0:Int)≤(p:Int):=by omega
   have i1:decide ((p:Int)≥0)=true:=decide_eq_true (by omega)
   obtain⟨u,hu⟩:∃u,u=x ^^^ y:=⟨_,rfl⟩
   have e0:bits .xor .u32 (x:Int) (y:Int)=(u:Int):=by rw[u32_xor_nat _ _ hx9 hy9,hu]
   have hu9:u<4294967296:=by rw[hu];exact Nat.xor_lt_two_pow (n:=32) hx9 hy9
   have hb9:blen u≤32:=(blen_le_iff u 32).2 hu9
   have HU:=Lib.hid hu;clear hu;go_wp2_with fail
   go_region_with (first
    | (go_at_call_of 157 (Value.agg #[Value.bool s,Value.slice A xs.length c]);refine(at32_gro s A c xs p _ (TwoB.ux (w:=w) (B:=w.heap.size) (x:=(s,A,c,xs)) (y:=(t_,B,d,ys)) (by assumption)) hl).mono ?_;rintro e w1 ⟨rfl,b1⟩;rw[←HX.out];have st1:=TwoB.next (w:=w) (B:=w.heap.size) (x:=(s,A,c,xs)) (y:=(t_,B,d,ys)) (by assumption) b1;have k1:=st1.x0;have k2:=st1.x1;have k3:=st1.y0;have k4:=st1.y1;dsimp only at k1 k2 k3 k4)
    | (go_at_call_of 157 (Value.agg #[Value.bool t_,Value.slice B ys.length d]);refine(at32_gro t_ B d ys p _ (TwoB.uy (w:=w) (B:=w.heap.size) (x:=(s,A,c,xs)) (y:=(t_,B,d,ys)) (by assumption)) kl).mono ?_;rintro e w2 ⟨rfl,b2⟩;rw[←HY.out];have st2:=TwoB.next (w:=w) (B:=w.heap.size) (x:=(s,A,c,xs)) (y:=(t_,B,d,ys)) (by assumption) b2;have k1:=st2.x0;have k2:=st2.x1;have k3:=st2.y0;have k4:=st2.y1;dsimp only at k1 k2 k3 k4))
   all_goals

    by_cases he:u=0
    ·have hxy:x=y:=xor_zero (HU.out.symm.trans he)
     subst he;go_wp2_with fail
     go_roundw
     case rel =>
      refine⟨p,(p:Int)-1,by first|exact st1|exact st2,rfl,by omega,by go_num,fun j hj=>?_⟩
      rcases Nat.lt_or_ge p j with h1|h1
      ·exact HA.out j h1
      ·rw[show j=p by omega,←HX.out,←HY.out,hxy]
     case measure=>simp[intOf] <;> omega
    ·have t1:((u:Int)!=0)=true:=by rw[bne_iff_ne];omega
     have HNE:=Lib.hid he;clear he;go_wp2_with (go_at_call 146;refine(len32_any u _ hu9).mono ?_;rintro e w3 ⟨rfl,rfl⟩)
     go_ret
     refine⟨ret_int ?_,by first|exact st1.g|exact st2.g⟩
     rw[HR.out,part_limb HD.out.1 HD.out.2 (i:=p) (fun j hj=>HA.out j hj) (by rw[←HX.out,←HY.out];exact fun e=>HNE.out (by rw[HU.out,e,Nat.xor_self])),←HX.out,←HY.out,←HU.out]
     go_num
  ·obtain rfl:k=0:=by omega
   obtain rfl:t = -1:=by omega
   clear ht hp hk;have HPR:=Lib.hid hPr;clear hPr;go_wp2_with fail
   go_ret
   refine⟨?_,HPR.out.g⟩
   rw[HR.out,part_none HD.out.1 HD.out.2 (fun j=>HA.out j (Nat.zero_le _))]
   rfl
end Go.Proofs.YtikehjindobpkaaGreat
