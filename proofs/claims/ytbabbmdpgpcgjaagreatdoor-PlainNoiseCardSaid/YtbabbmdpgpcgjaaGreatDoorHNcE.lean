import Derived.Test.YtbabbmdpgpcgjaaGreatDoorHNdRLoose

set_option linter.unusedVariables false
set_option linter.unusedSimpArgs false
set_option maxRecDepth 100000
set_option maxHeartbeats 6400000
namespace Go.Proofs.YtbabbmdpgpcgjaaGreatDoor
open Go.RowKit Nds
theorem Tryz.infoT:(Tryz.prog.info? 4).map (fun i=>(i.zero,i.size,i.bytes))=some (some (.bool false),1,1):=by kernel_rfl
def OwnT (w:World)(base g n:Nat)(bs:List Bool):Prop :=
 bs.length=n∧w.ownsRow base 4 1 (.slice (some ⟨g,0,none⟩) n n) n (bs.map Value.bool)
theorem OwnT.cell {w:World}{base g n:Nat}{bs:List Bool}(h:OwnT w base g n bs){k:Nat}(hk:k<n):w.cell? ⟨g,k,none⟩=some (.bool (bs.getD k false)):=by
 have hl:k<bs.length:=by have:=h.1;omega
 rw[h.2.cellAt k (by omega),List.getElem?_map,List.getD_eq_getElem?_getD,List.getElem?_eq_getElem hl];rfl
theorem OwnT.free {w:World}{base g n:Nat}{bs:List Bool}(h:OwnT w base g n bs)(k:Nat):w.frozen? ⟨g,k,none⟩=false:=h.2.frozenAt k
theorem OwnT.set {w:World}{base g n:Nat}{bs:List Bool}(h:OwnT w base g n bs)(k:Nat)(u:Bool):OwnT (w.setCell ⟨g,k,none⟩ (.bool u)) base g n (bs.set k u):=by
 refine⟨by simpa using h.1,?_⟩;rw[List.map_set];exact(h.2.stored k _).1
theorem zyH (n:Nat):(madeCells (Value.cells (.bool false)) (n*1)).toList=(List.replicate n false).map Value.bool:=by
 rw[Nat.mul_one];refine List.ext_getElem (by simp[madeCells]) fun i h1 h2=>?_;simp[madeCells,Value.cells,Nat.mod_one]
theorem OwnT.made {w:World}{base g n:Nat}(h:w.ownsRow base 4 1 (.slice (some ⟨g,0,none⟩) n n) n (madeCells (Value.cells (.bool false)) (n*1)).toList):OwnT w base g n (List.replicate n false) :=
 ⟨by simp,by rw[←zyH];exact h⟩
theorem OwnT.lt {w:World}{base g n:Nat}{bs:List Bool}(h:OwnT w base g n bs):g<w.heap.size:=(h.2.lt g rfl).2
def zyI (l:List Nd)(n:Nat)(w:World)(e:Ending)(w':World):Prop :=
 ∃g,e=.returned (.slice (some ⟨g,0,none⟩) (n+1) (n+1))∧w.heap.size≤g∧g<w'.heap.size∧(∀j,j≤n→w'.cell? ⟨g,j,none⟩=some (.bool (empB l j)))∧Below w.heap.size w w'
def zeo (x:Nd)(p:Int→Bool):Nat→Bool
 | 0=>true
 | q+1=>zeo x p q&&p (x.kid q)
theorem zte (x:Nd)(p:Int→Bool):zeo x p 4=x.each p:=by
 unfold Nd.each;show((((true&&p x.a)&&p x.b)&&p x.c)&&p x.d)=_;rw[Bool.true_and]
def kidE (es:List Bool)(v c:Int):Bool:=c==0||(decide (1<v)&&es.getD c.toNat false)
theorem zgQ (A:Option Addr)(c n:Nat)(l:List Nd)(w:World)(h:Ns w A c l)(hn:l.length=n)(hl:zai l=true)(hn9:n≤1000000) :
  Calls Tryz.prog 113 #[.slice A n c] w (zyI l n w):=by
 have hcap:=h.cap;rw[hn] at hcap;obtain⟨i0,hi,hz0,hz1,hz2⟩:=info_parts Tryz.infoT;have HI:=Hh (And.intro hi (And.intro hz0 (And.intro hz1 hz2)));have HN:=Hh h;have HL:=Hh hn;have HLL:=Hh hl;clear h hn hl hi hz0 hz1 hz2;go_enter Tryz.func113,Tryz.ntmps113;go_wp2_with (first
   | (at_make;refine wpList_make_full _ rfl _ _ 163 rfl w.heap.size 4 i0 _ 1 Tryz.underlying163 HI.out.1 HI.out.2.1 HI.out.2.2.1 .i64 .i64 _ _ (n+1) rfl rfl (by omega) (by omega) (by rw[HI.out.2.2.2];omega) (by unfold maxLen;omega) (Nat.le_refl _) ?_;intro w0 hown0 hgrow0;have own0:=OwnT.made hown0;have ec:=own0.cell (k:=0) (by omega);have fc:=own0.free 0;have OW:=Hh own0;have GW:=Hh hgrow0;clear hown0 hgrow0 own0))
 have HG0:=Hh (show Below w.heap.size w (w0.setCell ⟨w.heap.size,0,none⟩ (.bool true)) from((Below.refl _ _).grown GW.out (Nat.le_refl _) (fun k hk=>by cases hk)).setCell (Nat.le_refl _) _);have HO0:=Hh (OW.out.set 0 true);have HT0:=Hh (show((List.replicate (n+1) false).set 0 true).take (0+1)=emps (l.take 0) by simp[List.replicate_succ,emps]);clear ec fc;obtain⟨g,hg⟩:∃g,g=w.heap.size:=⟨_,rfl⟩;have HG:=Hh hg;rw[←hg] at HG0 HO0 ⊢;generalize hW:w0.setCell _ _=W at *;clear hW;go_loopw [4,5,6,7] (fun i z1 z2 z3 wr=>∃(k:Nat) (v1 v2 v3:Value) (bs:List Bool),k≤n∧i=.int .i64 k∧z1=v1∧z2=v2∧z3=v3∧OwnT wr g g (n+1) bs∧bs.take (k+1)=emps (l.take k)∧Below g w wr) (fun i _ _ _ _=>n-(intOf i).toNat)
 case atStart=>exact⟨0,_,_,_,_,by omega,rfl,rfl,rfl,rfl,HO0.out,HT0.out,HG0.out⟩
 case round =>
  obtain⟨k,v1,v2,v3,bs,hk,rfl,rfl,rfl,rfl,hown,htk,hbw⟩:=hrel;have HO:=Hh hown;have HT:=Hh htk;clear hown htk;by_cases hlt:k<n
  ·obtain⟨b,off,rfl,hb,hc⟩:=HN.out.at_ (by rw[HL.out];omega)
   have hck:=(hc k (by rw[HL.out];exact hlt)).below (hbw.block b (by rw[HG.out];exact hb));have HCK:=Hh hck;have hkl:k<l.length:=by rw[HL.out];exact hlt
   have hfx:=Hh (zan.1 HLL.out k hkl);obtain⟨c1,-,-,-,-⟩:=id hck;have HKL:=Hh hkl;clear hc hck hkl;obtain⟨x,hx⟩:∃x,x=at_ l k:=⟨_,rfl⟩
   rw[←hx] at c1 hfx HCK;have HX:=Hh hx;have hxv:=zaH hfx.out;have i1:(k:Int)<(n:Int):=by omega
   clear hx hg;go_wp2_with fail;obtain⟨wo,hwo⟩:∃wo:World,wo=wr:=⟨_,rfl⟩;subst hwo;go_loop [6,5,7] (fun i z y=>∃(q:Nat) (v:Value),q≤4∧i=.int .i64 q∧y=v∧z=.bool (zeo x (kidE (emps (l.take k)) x.lv) q)) (fun i _ _=>4-(intOf i).toNat)
   case atStart=>exact⟨0,_,by omega,rfl,rfl,rfl⟩
   case round =>
    obtain⟨q,v,hq,rfl,rfl,rfl⟩:=hrel;by_cases hq4:q<4
    ·have hy:=HCK.out.kid hq4;have hfk:=zav hfx.out hq4;obtain⟨y,hye⟩:∃y,y=x.kid q:=⟨_,rfl⟩;rw[←hye] at hy hfk;have HY:=Hh hye;have i2:(q:Int)<4:=by omega
     clear hye;cases hbb:zeo x (kidE (emps (l.take k)) x.lv) q with
     | false =>
      have HB:=Hh hbb;clear hbb;go_wp2_with fail;go_round
      case rel =>
       refine⟨q+1,_,by omega,by go_num,rfl,?_⟩;show _=Value.bool (zeo x (kidE (emps (l.take k)) x.lv) q&&kidE (emps (l.take k)) x.lv (x.kid q));rw[HB.out,Bool.false_and]
      case measure=>simp[intOf];omega
     | true =>
      have HB:=Hh hbb;clear hbb;by_cases hy0:y=0
      ·subst hy0;have HV:=Hh (show kidE (emps (l.take k)) x.lv 0=true from rfl);clear hfk;go_wp2_with fail;go_round
       case rel =>
        refine⟨q+1,_,by omega,by go_num,rfl,?_⟩;show _=Value.bool (zeo x (kidE (emps (l.take k)) x.lv) q&&kidE (emps (l.take k)) x.lv (x.kid q));rw[HB.out,←HY.out,HV.out];rfl
       case measure=>simp[intOf];omega
      ·have t1:(y==0)=false:=beq_eq_false_iff_ne.2 hy0;by_cases hv1:x.lv=1
       ·have HV:=Hh (show kidE (emps (l.take k)) x.lv y=false by unfold kidE;rw[t1,decide_eq_false (by omega)];rfl);have t2:decide (1<x.lv)=false:=decide_eq_false (by omega);clear hfk hy0 hv1;go_wp2_with fail;go_round
        case rel =>
         refine⟨q+1,_,by omega,by go_num,rfl,?_⟩;show _=Value.bool (zeo x (kidE (emps (l.take k)) x.lv) q&&kidE (emps (l.take k)) x.lv (x.kid q));rw[HB.out,←HY.out,HV.out];rfl
        case measure=>simp[intOf];omega
       ·have t2:decide (1<x.lv)=true:=decide_eq_true (by omega);rcases zbc hv1 hfk with h0|⟨p,rfl,hp,_⟩
        ·exact absurd h0 hy0
        ·have hpk:p<k:=Nat.lt_of_lt_of_le hp (List.length_take_le _ _);have e1:bs.getD (p+1) false=(emps (l.take k)).getD (p+1) false:=by
          rw[←HT.out,List.getD_eq_getElem?_getD,List.getD_eq_getElem?_getD,List.getElem?_take,if_pos (by omega)]
         have ec:=HO.out.cell (k:=p+1) (by omega);rw[e1] at ec;have HV:=Hh (show kidE (emps (l.take k)) x.lv ((p:Int)+1)=(emps (l.take k)).getD (p+1) false by
          unfold kidE;rw[t1,t2,show((p:Int)+1).toNat=p+1 by omega];rfl)
         have i3:(p:Int)+1<(n:Int)+1:=by omega
         clear hfk hy0 hv1 hp e1;generalize hz:(emps (l.take k)).getD (p+1) false=z at *;clear hz;cases z with
         | true =>
          go_wp2_with fail;go_round
          case rel =>
           refine⟨q+1,_,by omega,by go_num,rfl,?_⟩;show _=Value.bool (zeo x (kidE (emps (l.take k)) x.lv) q&&kidE (emps (l.take k)) x.lv (x.kid q));rw[HB.out,←HY.out,HV.out];rfl
          case measure=>simp[intOf];omega
         | false =>
          go_wp2_with fail;go_round
          case rel =>
           refine⟨q+1,_,by omega,by go_num,rfl,?_⟩;show _=Value.bool (zeo x (kidE (emps (l.take k)) x.lv) q&&kidE (emps (l.take k)) x.lv (x.kid q));rw[HB.out,←HY.out,HV.out];rfl
          case measure=>simp[intOf];omega
    ·have hq5:q=4:=by omega
     have HE:=Hh (show zeo x (kidE (emps (l.take k)) x.lv) q=zeu (emps (l.take k)) x by rw[hq5,zte];rfl);have fc:=HO.out.free (k+1);have ec:=HO.out.cell (k:=k+1) (by omega);have HS:=Hh (HO.out.set (k+1) (zeu (emps (l.take k)) x));rw[HE.out];clear hq5;go_wp2_with fail;go_roundw
     case rel =>
      refine⟨k+1,_,_,_,_,by omega,by go_num,rfl,rfl,rfl,HS.out,?_,hbw.setCell (Nat.le_refl _) _⟩;have hlen:=HO.out.1;rw[zdb HKL.out,zdz,←HX.out,←HT.out,List.take_succ_eq_append_getElem (by simp;omega)];congr 1
      ·rw[List.take_set_of_le (by omega)]
      ·rw[List.getElem_set_self]
     case measure=>simp[intOf];omega
  ·have hkn:k=n:=by omega
   have HKN:=Hh hkn;have hgl:=HO.out.lt;clear hkn hg;go_wp2_with fail;go_ret;refine⟨g,rfl,by rw[HG.out];exact Nat.le_refl _,hgl,fun j hj=>?_,by rw[←HG.out];exact hbw⟩;rw[HO.out.cell (k:=j) (by omega)];unfold empB;have e1:=HT.out;rw[HKN.out,List.take_of_length_le (by rw[HO.out.1];omega),List.take_of_length_le (by rw[HL.out];omega)] at e1;rw[e1]
theorem zxz {x:Nd}{k q:Nat}(hk:k<4)(hq:q<4):(rim x k).kid q=if q+k=3 then 0 else x.kid q:=by
 match k,q,hk,hq with
 | 0,0,_,_=>rfl
 | 0,1,_,_=>rfl
 | 0,2,_,_=>rfl
 | 0,3,_,_=>rfl
 | 1,0,_,_=>rfl
 | 1,1,_,_=>rfl
 | 1,2,_,_=>rfl
 | 1,3,_,_=>rfl
 | 2,0,_,_=>rfl
 | 2,1,_,_=>rfl
 | 2,2,_,_=>rfl
 | 2,3,_,_=>rfl
 | 3,0,_,_=>rfl
 | 3,1,_,_=>rfl
 | 3,2,_,_=>rfl
 | 3,3,_,_=>rfl
theorem zii {l:List Nd}{z:Nd}{k q:Nat}(hk:k<4)(hq:q<4)(h:kidE (emps l) z.lv ((rim z k).kid q)=false):zbk l (rim z k)=false:=by
 unfold zbk zeu;exact zvR hq (by rw[zvd];exact h)
theorem zlI {l:List Nd}{z:Nd}{k:Nat}(h:∀q,q<4→kidE (emps l) z.lv ((rim z k).kid q)=true):zbk l (rim z k)=true:=by
 unfold zbk zeu;exact zbM.2 fun q hq=>by rw[zvd];exact h q hq
theorem zgR (A:Option Addr)(c n:Nat)(l:List Nd)(k:Nat)(w:World)(h:Ns w A c l)(hn:l.length=n)(hl:zai l=true)(hn9:n≤1000000)(hk:k≤n) :
  Calls Tryz.prog 115 #[.slice A n c,.int .i64 (k:Int)] w fun e w'=>e=.returned (.bool (zcI l k))∧Below w.heap.size w w':=by
 have hcap:=h.cap;rw[hn] at hcap;have HN:=Hh h;have HL:=Hh hn;clear h hn;rcases(show k=0∨∃m,k=m+1 by cases k with|zero=>exact .inl rfl|succ m=>exact .inr ⟨m,rfl⟩) with rfl|⟨m,rfl⟩
 ·rw[show zcI l 0=false by unfold zcI;rw[decide_eq_false (by omega)];rfl];go_enter Tryz.func115,Tryz.ntmps115;go_wp2_with fail;go_ret;exact⟨rfl,Below.refl _ _⟩
 ·have hml:m<l.length:=by rw[HL.out];omega
  obtain⟨R,hR⟩:∃R,R=zcI l (m+1):=⟨_,rfl⟩;rw[←hR];have HR:=Hh hR;clear hR;obtain⟨b,off,rfl,hb,hc⟩:=HN.out.at_ (by omega)
  have hck:=hc m hml;obtain⟨c1,-,-,-,-⟩:=id hck;have HCK:=Hh hck;have hfx:=Hh (zan.1 hl m hml);have HC:=Hh hc;have HLL:=Hh hl;have HML:=Hh hml;have i1:(m:Int)<(n:Int):=by omega
  clear hc hl hml hck;obtain⟨x,hx⟩:∃x,x=at_ l m:=⟨_,rfl⟩
  rw[←hx] at c1 hfx HCK;have HX:=Hh hx;have hxv:=zaH hfx.out;have t1:(((m+1:Nat):Int)==0)=false:=beq_eq_false_iff_ne.2 (by omega);have e1:(((m+1:Nat):Int))=(m:Int)+1:=by omega
  rw[e1] at t1 ⊢;clear hx e1;by_cases h2:x.lv<2
  ·have hr:R=false:=by
    rw[HR.out];unfold zcI;rw[decide_eq_false (by rw[show m+1-1=m by omega,←HX.out];omega)];rfl
   subst hr;go_enter Tryz.func115,Tryz.ntmps115;go_wp2_with fail;go_ret;exact⟨rfl,Below.refl _ _⟩
  ·have hr:R=(List.range 4).all fun i=>decide (x.kid i=0)||zbk l (rim (at_ l ((x.kid i).toNat-1)) i):=by
    rw[HR.out];unfold zcI;rw[show m+1-1=m by omega,←HX.out,decide_eq_true (by omega)];rfl
   have HR2:=Hh hr;clear hr HR;go_enter Tryz.func115,Tryz.ntmps115;go_wp2_with (go_at_call 113;refine(zgQ _ _ n l _ HN.out HL.out HLL.out hn9).mono ?_;rintro e w1 ⟨g,rfl,hg1,hg2,hg3,hbw⟩;have HE:=Hh hg3;clear hg3;have HB:=Hh hbw;clear hbw);have c1':=(HB.out.cell (p:=⟨b,off+m*5,none⟩) hb).trans c1;have HCK1:=Hh (HCK.out.below (HB.out.block b hb));have HC1:=Hh (show ∀i,i<l.length→NdAt w1 b (off+i*5) (at_ l i) from fun i hi=>(HC.out i hi).below (HB.out.block b hb));clear c1;go_loop [6,7,8,9] (fun i z1 z2 z3=>∃(k:Nat) (v1 v2 v3:Value),k≤4∧i=.int .i64 k∧z1=v1∧z2=v2∧z3=v3∧(∀j,j<k→(decide (x.kid j=0)||zbk l (rim (at_ l ((x.kid j).toNat-1)) j))=true)) (fun i _ _ _=>4-(intOf i).toNat)
   case atStart=>exact⟨0,_,_,_,by omega,rfl,rfl,rfl,rfl,fun j hj=>by omega⟩
   case round =>
    obtain⟨k,v1,v2,v3,hk4,rfl,rfl,rfl,rfl,hall⟩:=hrel;have HA:=Hh hall;clear hall;by_cases hlt:k<4
    ·have hy:=HCK1.out.kid hlt;have hfk:=zmZ (zav hfx.out hlt);obtain⟨y,hye⟩:∃y,y=x.kid k:=⟨_,rfl⟩;rw[←hye] at hy hfk;have HY:=Hh hye;have i2:(k:Int)<4:=by omega
     have i0:(0:Int)≤(k:Int):=by omega
     clear hye;rcases zbc (by omega) hfk with rfl|⟨p,rfl,hp,hpl⟩
     ·clear hfk;go_wp2_with fail;refine wp_loop_rounds 1 ?_;rw[rounds_succ];go_wp2_with fail;go_round
      case rel =>
       refine⟨k+1,_,_,_,by omega,by go_num,rfl,rfl,rfl,fun j hj=>?_⟩;rcases Nat.lt_or_ge j k with h3|h3
       ·exact HA.out j h3
       ·rw[show j=k by omega,←HY.out];rfl
      case measure=>simp[intOf];omega
     ·have hpn:p<n:=by rw[←HL.out];exact hp
      have HCP:=Hh (HC1.out p hp);have hfz:=Hh (zaq HLL.out hp);clear hfk;obtain⟨z,hz⟩:∃z,z=at_ l p:=⟨_,rfl⟩
      rw[←hz] at hfz HCP hpl;have HZ:=Hh hz;have hzv:=zaH hfz.out;have i3:(p:Int)<(n:Int):=by omega
      have i4:(0:Int)<(p:Int)+1:=by omega
      have e5:rim (at_ l ((x.kid k).toNat-1)) k=rim z k:=by rw[←HY.out,show((p:Int)+1).toNat-1=p by omega,HZ.out]
      have E5:=Hh e5;clear hz e5;go_wp2_with fail;go_loop [8,9] (fun i z3=>∃(q:Nat) (v3:Value),q≤4∧i=.int .i64 q∧z3=v3∧(∀j,j<q→kidE (emps l) z.lv ((rim z k).kid j)=true)) (fun i _=>4-(intOf i).toNat)
      case atStart=>exact⟨0,_,by omega,rfl,rfl,fun j hj=>by omega⟩
      case round =>
       obtain⟨q,v3,hq4,rfl,rfl,hkq⟩:=hrel;have HQ:=Hh hkq;clear hkq;by_cases hqlt:q<4
       ·have hgc:=HCP.out.kid hqlt;have hfg:=zav hfz.out hqlt;have hrk:=zxz (x:=z) hlt hqlt;obtain⟨u,hu⟩:∃u,u=z.kid q:=⟨_,rfl⟩;rw[←hu] at hgc hfg hrk;have HRK:=Hh hrk;have j0:(0:Int)≤(q:Int):=by omega
        have j1:(q:Int)<4:=by omega
        clear hu hrk;by_cases h3:q+k=3
        ·have t2:((q:Int)!=3-(k:Int))=false:=by rw[show(q:Int)=3-(k:Int) by omega];simp
         have HV:=Hh (show kidE (emps l) z.lv ((rim z k).kid q)=true by rw[HRK.out,if_pos h3];rfl);clear hfg h3;go_wp2_with fail;go_round
         case rel =>
          refine⟨q+1,_,by omega,by go_num,rfl,fun j hj=>?_⟩;rcases Nat.lt_or_ge j q with h4|h4
          ·exact HQ.out j h4
          ·rw[show j=q by omega];exact HV.out
         case measure=>simp[intOf];omega
        ·have t2:((q:Int)!=3-(k:Int))=true:=by rw[bne_iff_ne];omega
         by_cases hx2:x.lv=2
         ·have t3:(x.lv==2)=true:=by rw[beq_iff_eq];exact hx2
          have t4:decide (2<x.lv)=false:=decide_eq_false (by omega);by_cases hu0:u=0
          ·subst hu0;have HV:=Hh (show kidE (emps l) z.lv ((rim z k).kid q)=true by rw[HRK.out,if_neg h3];rfl);clear hfg h3 hx2;go_wp2_with fail;go_round
           case rel =>
            refine⟨q+1,_,by omega,by go_num,rfl,fun j hj=>?_⟩;rcases Nat.lt_or_ge j q with h4|h4
            ·exact HQ.out j h4
            ·rw[show j=q by omega];exact HV.out
           case measure=>simp[intOf];omega
          ·have t5:(u != 0)=true:=by rw[bne_iff_ne];exact hu0
           have HV:=Hh (show kidE (emps l) z.lv ((rim z k).kid q)=false by rw[HRK.out,if_neg h3];unfold kidE;rw[beq_eq_false_iff_ne.2 hu0,decide_eq_false (by omega)];rfl);clear hfg h3 hx2 hu0;go_wp2_with fail;go_ret;refine⟨nd_b ?_,HB.out⟩;rw[HR2.out];refine zpV (k:=k) hlt ?_;rw[E5.out,zii hlt hqlt HV.out,Bool.or_false];exact decide_eq_false (by rw[←HY.out];omega)
         ·have t3:(x.lv==2)=false:=beq_eq_false_iff_ne.2 hx2;have t4:decide (2<x.lv)=true:=decide_eq_true (by omega);have hv1:1<z.lv:=by omega
          have hup:∃r:Nat,u=(r:Int)∧r≤n:=by
           rcases zbc (by omega) hfg with e|⟨r,e,hr,_⟩
           ·exact⟨0,by rw[e];rfl,by omega⟩
           ·exact⟨r+1,by rw[e];omega,by rw[HL.out] at hr;omega⟩
          obtain⟨r,rfl,hrn⟩:=hup;have hec:=HE.out r hrn;have j2:(r:Int)<(n:Int)+1:=by omega
          have HV:=Hh (show kidE (emps l) z.lv ((rim z k).kid q)=empB l r by
           rw[HRK.out,if_neg h3];unfold kidE;rw[decide_eq_true hv1,Bool.true_and,Int.toNat_natCast];by_cases hr0:r=0
           ·rw[hr0,zpQ];rfl
           ·rw[beq_eq_false_iff_ne.2 (by omega),Bool.false_or];rfl)
          clear hfg h3 hx2;cases hz:empB l r with
          | true =>
           have HZZ:=Hh hz;rw[hz] at hec;clear hz;go_wp2_with fail;go_round
           case rel =>
            refine⟨q+1,_,by omega,by go_num,rfl,fun j hj=>?_⟩;rcases Nat.lt_or_ge j q with h4|h4
            ·exact HQ.out j h4
            ·rw[show j=q by omega,HV.out];exact HZZ.out
           case measure=>simp[intOf];omega
          | false =>
           have HZZ:=Hh hz;rw[hz] at hec;clear hz;go_wp2_with fail;go_ret;refine⟨nd_b ?_,HB.out⟩;rw[HR2.out];refine zpV (k:=k) hlt ?_;rw[E5.out,zii hlt hqlt (HV.out.trans HZZ.out),Bool.or_false];exact decide_eq_false (by rw[←HY.out];omega)
       ·go_wp2_with fail;go_round
        case rel =>
         refine⟨k+1,_,_,_,by omega,by go_num,rfl,rfl,rfl,fun j hj=>?_⟩;rcases Nat.lt_or_ge j k with h3|h3
         ·exact HA.out j h3
         ·rw[show j=k by omega,E5.out,zlI (fun i hi=>HQ.out i (by omega)),Bool.or_true]
        case measure=>simp[intOf];omega
    ·go_wp2_with fail;go_ret;refine⟨nd_b ?_,HB.out⟩;rw[HR2.out];exact ztb fun j hj=>HA.out j (by omega)
theorem Tryz.infoI:(Tryz.prog.info? 3).map (fun i=>(i.zero,i.size,i.bytes))=some (some (.int .i64 0),1,8):=by kernel_rfl
def OwnI (w:World)(base:Nat)(v:Value)(xs:List Nat):Prop:=w.ownsRow base 3 1 v xs.length (xs.map fun k:Nat=>Value.int .i64 (k:Int))
theorem OwnI.shape {w:World}{base:Nat}{v:Value}{xs:List Nat}(h:OwnI w base v xs):∃A c,v=.slice A xs.length c∧xs.length≤c∧c≤9223372036854775807 ∧
  (0<xs.length→∃g,A=some ⟨g,0,none⟩∧∀j,j<xs.length→w.cell? ⟨g,j,none⟩=some (.int .i64 ((xs.getD j 0:Nat):Int))):=by
 rcases h.2 with⟨h',hn⟩|⟨g,cap,cur,h',hb,hg,hnc,hcm,hcs,htake⟩
 ·exact⟨none,0,by rw[h',hn],by omega,by omega,fun h=>by omega⟩
 ·simp only[maxLen] at hcm;refine⟨some ⟨g,0,none⟩,cap,h',hnc,by omega,fun _=>⟨g,rfl,fun j hj=>?_⟩⟩;subst h';rw[h.cellAt j (by omega),List.getElem?_map,List.getD_eq_getElem?_getD,List.getElem?_eq_getElem hj];rfl
theorem OwnI.nil (w:World)(base:Nat):OwnI w base (.slice none 0 0) []:=World.ownsRow_nil w base _ 1
theorem zpW {w:World}{base:Nat}{v:Value}{xs:List Nat}(h:OwnI w base v xs):∀k,v.ownBlock=some k→base≤k:=fun k hk=>(h.lt k hk).1
def RetL (out:List Nat)(base:Nat)(w:World)(e:Ending)(w':World):Prop:=∃v,e=.returned v∧OwnI w' base v out∧Below base w w'
def zbD (l:List Nd)(m:Nat)(x:Nd)(out:List Nat)(q:Nat):List Nat:=if 1<x.lv then zdf (endL l m) x out q else out
theorem zvU (A:Option Addr)(c n base:Nat)(l:List Nd)(hl:zai l=true)(hn:l.length=n)(hn9:n≤1000000)(hA:∀a,A=some a→a.block<base):∀(m p:Nat) (out:List Nat) (v:Value) (w:World),
  p<n→(at_ l p).lv≤m→out.Nodup→(∀x∈out,0<x∧x≤l.length)→Ns w A c l→OwnI w base v out→base≤w.heap.size →
  Calls Tryz.prog 116 #[.slice A n c,.int .i64 ((p:Int)+1),v] w (RetL (endL l m (p+1) out) base w):=by
 have HLL:=Hh hl;have HL:=Hh hn;have HA:=Hh hA;clear hl hn hA;intro m
 induction m with
 | zero =>
  intro p out v w hp hm;have:=zaH (zan.1 HLL.out p (by rw[HL.out];exact hp));omega
 | succ m ih =>
  intro p out v w hp hm hnd hin hN hown hbase;have hcap:=hN.cap;rw[HL.out] at hcap;have hol:out.length≤n:=by rw[←HL.out];exact zeL _ _ hnd hin
  have hpl:p<l.length:=by rw[HL.out];exact hp
  obtain⟨A2,c2,rfl,hc2,hc3,hread⟩:=hown.shape;have HN:=Hh hN;have HO:=Hh hown;have HND:=Hh hnd;have HIN:=Hh hin;have HRD:=Hh hread;have HPL:=Hh hpl;obtain⟨b,off,rfl,hb,hc⟩:=hN.at_ (by omega)
  have hbb:b<base:=HA.out _ rfl;have hck:=hc p hpl;have HCK:=Hh hck;have hfx:=Hh (zan.1 HLL.out p hpl);have i1:(p:Int)<(n:Int):=by omega
  clear hN hown hnd hin hread hpl hc hck;obtain⟨x,hx⟩:∃x,x=at_ l p:=⟨_,rfl⟩
  rw[←hx] at hfx HCK hm;have HX:=Hh hx;have hxv:=zaH hfx.out;clear hx;obtain⟨R,hR⟩:∃R,R=endL l (m+1) (p+1) out:=⟨_,rfl⟩;rw[←hR];have HR:=Hh hR;clear hR;obtain⟨i0,hi,hz0,hz1,hz2⟩:=info_parts Tryz.infoI;have HI:=Hh (And.intro hi (And.intro hz0 (And.intro hz1 hz2)));clear hi hz0 hz1 hz2;obtain⟨ol,hol2⟩:∃ol,ol=out.length:=⟨_,rfl⟩;rw[←hol2] at hol hc2 ⊢;have HOL:=Hh hol2;clear hol2;go_enter Tryz.func116,Tryz.ntmps116;go_wp2_with fail;go_loop [7] (fun i=>∃(k:Nat),k≤ol∧i=.int .i64 k∧∀j,j<k→out.getD j 0≠p+1) (fun i=>ol-(intOf i).toNat)
  case atStart=>exact⟨0,by omega,rfl,fun j hj=>by omega⟩
  case round =>
   obtain⟨k,hk,rfl,hne⟩:=hrel;have HNE:=Hh hne;clear hne;by_cases hlt:k<ol
   ·obtain⟨g,rfl,hcs⟩:=HRD.out (by rw[←HOL.out];omega);have ce:=hcs k (by rw[←HOL.out];exact hlt);clear hcs;obtain⟨u,hu⟩:∃u:Nat,u=out.getD k 0:=⟨_,rfl⟩;rw[←hu] at ce;have HU:=Hh hu;have i2:(k:Int)<(ol:Int):=by omega
    clear hu;by_cases hup:u=p+1
    ·have t1:((u:Int)==(p:Int)+1)=true:=by rw[hup];simp
     have HUP:=Hh hup;clear hup;go_wp2_with fail;refine bodyPost_ret (v:=.slice (some ⟨g,0,none⟩) ol c2) (by simp[results,Tryz.results116,go_sem]) rfl ⟨_,by rw[HOL.out],?_,Below.refl _ _⟩;have hmem:p+1∈out:=by
      rw[←HUP.out,HU.out,List.getD_eq_getElem?_getD,List.getElem?_eq_getElem (by rw[←HOL.out];exact hlt)];exact List.getElem_mem _
     rw[HR.out,zlG hmem];exact HO.out
    ·have t1:((u:Int)==(p:Int)+1)=false:=beq_eq_false_iff_ne.2 (by omega);have HUP:=Hh hup;clear hup;go_wp2_with fail;go_round
     case rel =>
      refine⟨k+1,by omega,by go_num,fun j hj=>?_⟩;rcases Nat.lt_or_ge j k with h1|h1
      ·exact HNE.out j h1
      ·rw[show j=k by omega,←HU.out];exact HUP.out
     case measure=>simp[intOf];omega
   ·have hnot:p+1∉out:=by
     intro hm2;obtain⟨j,hj⟩:=List.mem_iff_getElem?.1 hm2;have hjl:=(List.getElem?_eq_some_iff.1 hj).1;refine HNE.out j (by rw[←HOL.out] at hjl;omega) ?_;rw[List.getD_eq_getElem?_getD,hj];rfl
    have HNT:=Hh hnot;clear hnot;go_wp2_with fail;obtain⟨v0,hv0⟩:∃v0,v0=Value.slice A2 ol c2:=⟨_,rfl⟩;have HO2:=Hh (show OwnI w base v0 out by rw[hv0,HOL.out];exact HO.out);rw[←hv0];clear hv0;go_loopw [8,2] (fun i z wr=>∃(q:Nat) (v:Value),q≤4∧i=.int .i64 q∧v=z∧OwnI wr base v (zbD l m x out q)∧Below base w wr) (fun i _ _=>4-(intOf i).toNat)
    case atStart =>
     refine⟨0,_,by omega,rfl,rfl,?_,Below.refl _ _⟩;unfold zbD;split <;> exact HO2.out
    case round =>
     obtain⟨q,v,hq,rfl,rfl,how,hbw⟩:=hrel;have HW:=Hh how;clear how;have hckr:=HCK.out.below (hbw.block b hbb);have c1:=hckr.1;by_cases hq4:q<4
     ·have i3:(q:Int)<4:=by omega
      by_cases hlv:1<x.lv
      ·have t2:decide (1<x.lv)=true:=decide_eq_true hlv;have hyc:=hckr.kid hq4;have hfk:=zav hfx.out hq4;obtain⟨y,hy⟩:∃y,y=x.kid q:=⟨_,rfl⟩;rw[←hy] at hyc hfk;have HY:=Hh hy;clear hy hckr;rcases zbc (by omega) hfk with rfl|⟨r,rfl,hr,hrl⟩
       ·have HS:=Hh (show zbD l m x out (q+1)=zbD l m x out q by
         unfold zbD;rw[if_pos hlv,if_pos hlv];show zel _ _ _=_;unfold zel;rw[←HY.out,if_neg (by omega)])
        clear hfk hlv;go_wp2_with fail;go_roundw
        case rel=>exact⟨q+1,_,by omega,by go_num,rfl,by rw[HS.out];exact HW.out,hbw⟩
        case measure=>simp[intOf];omega
       ·have t3:decide ((0:Int)<(r:Int)+1)=true:=decide_eq_true (by omega);have hrp:r<p:=Nat.lt_of_lt_of_le hr (List.length_take_le _ _);have hr2:(at_ l r).lv≤(m:Int):=by
         rw[zda hrp] at hrl;omega
        have HS:=Hh (show zbD l m x out (q+1)=endL l m (r+1) (zbD l m x out q) by
         unfold zbD;rw[if_pos hlv,if_pos hlv];show zel _ _ _=_;unfold zel;rw[←HY.out,if_pos (by omega),show((r:Int)+1).toNat=r+1 by omega])
        have hfn:(zbD l m x out q).Nodup∧∀y∈zbD l m x out q,0<y∧y≤l.length:=by
         unfold zbD;rw[if_pos hlv];have hx1:x=at_ l (p+1-1):=HX.out
         refine⟨zlH HLL.out (n:=p+1) (by omega) (by have:=HPL.out;omega) (by rw[←hx1];exact hlv) HND.out hx1 q hq,fun y hy=>?_⟩;rw[hx1] at hy;rcases zkl HLL.out (n:=p+1) (by omega) (by have:=HPL.out;omega) (by rw[←hx1];exact hlv) q hq y hy with h|h
         ·exact HIN.out y h
         ·exact⟨h.1,by have:=HPL.out;omega⟩
        have HFN:=Hh hfn;have HNr:=Hh (show Ns wr (some ⟨b,off,none⟩) c l from HN.out.belowB HA.out hbw);have hbr:base≤wr.heap.size:=Nat.le_trans hbase hbw.size;clear hfk hlv hr hrl hfn;go_wp2_with (go_at_call 116;refine(ih r _ v _ (by omega) hr2 HFN.out.1 HFN.out.2 HNr.out HW.out hbr).mono ?_;rintro e w1 ⟨v1,rfl,ho1,hb1⟩;have HO1:=Hh ho1;have HB1:=Hh hb1;clear ho1 hb1);go_roundw
        case rel=>exact⟨q+1,_,by omega,by go_num,rfl,by rw[HS.out];exact HO1.out,hbw.trans HB1.out⟩
        case measure=>simp[intOf];omega
      ·have t2:decide (1<x.lv)=false:=decide_eq_false hlv;have HS:=Hh (show zbD l m x out (q+1)=zbD l m x out q by
        unfold zbD;rw[if_neg hlv,if_neg hlv])
       clear hlv hckr;go_wp2_with fail;go_roundw
       case rel=>exact⟨q+1,_,by omega,by go_num,rfl,by rw[HS.out];exact HW.out,hbw⟩
       case measure=>simp[intOf];omega
     ·have hq5:q=4:=by omega
      have HE:=Hh (show R=zbD l m x out q++[p+1] by
       rw[HR.out,hq5];unfold endL zbD;rw[if_neg HNT.out,show p+1-1=p by omega,←HX.out])
      have hfl:(zbD l m x out q).length+1≤n:=by
       have h1:=zpT HLL.out (m:=m+1) (n:=p+1) (out:=out) (by omega) (by have:=HPL.out;omega) HND.out HIN.out;rw[←HR.out,HE.out,List.length_append,HL.out] at h1;simpa using h1
      have hob:=zpW HW.out;have HOB:=Hh hob;have hbr:base≤wr.heap.size:=Nat.le_trans hbase hbw.size;obtain⟨fl,hfl2⟩:∃fl,fl=(zbD l m x out q).length:=⟨_,rfl⟩;have HFL:=Hh hfl2;rw[←hfl2] at hfl;have how:wr.ownsRow base 3 1 v fl ((zbD l m x out q).map fun k:Nat=>Value.int .i64 (k:Int)):=by rw[hfl2];exact HW.out
      have HW2:=Hh how;clear hq5 hob hckr hfl2 how;go_wp2_with (at_builtin;refine wpList_append_own_at _ rfl _ _ 95 rfl base 3 i0 (.int .i64 0) 1 8 Tryz.underlying95 HI.out.1 HI.out.2.1 HI.out.2.2.1 HI.out.2.2.2 rfl (by decide) _ _ _ rfl (HW2.out.alloc _) ⟨_,0,none⟩ 1 1 [.int .i64 ((p:Int)+1)] rfl rfl (cell_one_new _ _ _) (by simp[Value.oneCell']) (by simp only[maxLen];omega) (by omega) (by simp;omega) ?_;intro v2 w3 ho3 hg3 hn3 hk3;have HO3:=Hh ho3;have HG3:=Hh hg3;clear ho3 hg3 hn3 hk3);go_ret;refine⟨v2,rfl,?_,(hbw.alloc hbr _).grown HG3.out (by simp;omega) HOB.out⟩;rw[HE.out];unfold OwnI;rw[List.map_append,List.length_append,←HFL.out];exact HO3.out
theorem zjd {l:List Nd}(hne:l≠[])(hl:zai l=true):zfr l=true↔(zcI l l.length=false∧(∀i,i<l.length→empB l (i+1)=false∧at_ l i∉l.take i)∧endL l 1329 l.length []=upto l.length):=by
 have hpos:0<l.length:=List.length_pos_iff.2 hne;have hv:=(zaH (zan.1 hl (l.length-1) (by omega))).2;have hw:=zvc hl 1329 l.length 0 hpos (Nat.le_refl _) hv hpos;have h0:upto 0=[]:=rfl;rw[h0] at hw;unfold zfr;rw[decide_eq_false hne,hl];simp only[Bool.false_or,Bool.true_and,Bool.and_eq_true,Bool.not_eq_true',decide_eq_true_iff];constructor
 ·rintro⟨hd,hh,hwk⟩;have hd':=zmN.1 hd;refine⟨hh,fun i hi=>⟨?_,(hd' i hi).2⟩,?_⟩
  ·rw[zpS hl hi];exact zsS hl (fun j hj=>(hd' j hj).1) i hi
  ·rcases hw with⟨_,h2⟩|⟨h1,_⟩
   ·exact h2
   ·rw[h1] at hwk;cases hwk
 ·rintro⟨hh,hd,he⟩;refine⟨zmN.2 fun i hi=>⟨?_,(hd i hi).2⟩,hh,?_⟩
  ·cases hz:(at_ l i).each (· == 0)
   ·rfl
   ·have h1:=(hd i hi).1;rw[zpS hl hi,zsR hz] at h1;cases h1
  ·rcases hw with⟨h1,_⟩|⟨_,h2⟩
   ·exact h1
   ·exact absurd (by rw[he];exact List.prefix_rfl) (h2 l.length)
theorem zcP {l:List Nd}(hne:l≠[])(hl:zai l=true)(h:¬ (zcI l l.length=false∧(∀i,i<l.length→empB l (i+1)=false∧at_ l i∉l.take i)∧endL l 1329 l.length []=upto l.length)):zfr l=false:=by
 cases hq:zfr l
 ·rfl
 ·exact absurd ((zjd hne hl).1 hq) h
theorem zlJ {l:List Nd}{k:Nat}(hk:k<l.length)(h:∀j,j<k→at_ l k≠at_ l j):at_ l k∉l.take k:=by
 intro hm;obtain⟨j,hj⟩:=List.mem_iff_getElem?.1 hm;have hjl:=(List.getElem?_eq_some_iff.1 hj).1;rw[List.length_take] at hjl;refine h j (by omega) ?_;rw[←zda (l:=l) (k:=k) (i:=j) (by omega)]
 conv=>rhs;unfold at_
 rw[hj];rfl
theorem zxA (A:Option Addr)(c n base:Nat)(l:List Nd)(w:World)(h:Ns w A c l)(hl:zai l=true)(hn:l.length=n)(hn9:n≤1000000)(h0:0<n)(hA:∀a,A=some a→a.block<base)(hb:base≤w.heap.size) :
  Calls Tryz.prog 116 #[.slice A n c,.int .i64 (n:Int),.slice none 0 0] w (RetL (endL l 1329 n []) base w):=by
 obtain⟨p,rfl⟩:∃p,n=p+1:=⟨n-1,by omega⟩;have hv:=(zaH (zan.1 hl p (by omega))).2;have:=zvU A c (p+1) base l hl hn hn9 hA 1329 p [] (.slice none 0 0) w (by omega) hv List.nodup_nil (by simp) h (OwnI.nil w base) hb;rw[show((p+1:Nat):Int)=(p:Int)+1 by omega];exact this
theorem zlK (A:Option Addr)(c n:Nat)(l:List Nd)(w:World)(h:Ns w A c l)(hn:l.length=n)(hn9:n≤1000000) :
  Calls Tryz.prog 83 #[.agg #[.slice A n c]] w fun e w'=>e=.returned (.bool (zfr l))∧Below w.heap.size w w':=by
 have hcap:=h.cap;rw[hn] at hcap;obtain⟨R,hR⟩:∃R,R=zfr l:=⟨_,rfl⟩;rw[←hR];have HR:=Hh hR;have HL:=Hh hn;have HB:=Hh ((Below.refl w.heap.size w).alloc (Nat.le_refl _) (.cells #[.slice A n c] 27));have HN0:=Hh h;have HN:=Hh (h.below HB.out);clear hR hn h;by_cases h0:n=0
 ·have hr:R=true:=by
   rw[HR.out];unfold zfr;rw[decide_eq_true (List.eq_nil_of_length_eq_zero (HL.out.trans h0))];rfl
  subst hr;have t1:((n:Int)==0)=true:=by rw[h0];rfl
  have H0:=Hh h0;clear h0;go_enter Tryz.func83,Tryz.ntmps83;go_wp2_with fail;go_ret;exact⟨rfl,HB.out⟩
 ·have t1:((n:Int)==0)=false:=beq_eq_false_iff_ne.2 (by omega);have hne:l≠[]:=fun e=>h0 (by rw[←HL.out,e];rfl);have HNE:=Hh hne;have h0':0<n:=by omega
  clear hne h0;cases q1:zai l with
  | false =>
   have Q1:=Hh q1;have hr:R=false:=by
    rw[HR.out];unfold zfr;rw[decide_eq_false HNE.out,q1];rfl
   subst hr;clear q1;go_enter Tryz.func83,Tryz.ntmps83;go_wp2_with (go_at_call 110;refine(zgP _ _ _ l _ HN.out HL.out).mono ?_;rintro e w1 ⟨rfl,m1,rfl⟩;rw[Q1.out]);go_ret;exact⟨rfl,zaI HB.out _⟩
  | true =>
   have Q1:=Hh q1;clear q1;cases q3:zcI l n with
   | true =>
    have Q3:=Hh q3;have hr:R=false:=by
     rw[HR.out];refine zcP HNE.out Q1.out (fun h=>?_);have:=h.1;rw[HL.out,Q3.out] at this;cases this
    subst hr;clear q3;go_enter Tryz.func83,Tryz.ntmps83;go_wp2_with (first
     | (go_at_call 110;refine(zgP _ _ _ l _ HN.out HL.out).mono ?_;rintro e w1 ⟨rfl,m1,rfl⟩;rw[Q1.out])
     | (go_at_call 115;refine(zgR _ _ _ l _ _ (Ns.drewN HN.out _) HL.out Q1.out hn9 (Nat.le_refl _)).mono ?_;rintro e w2 ⟨rfl,b2⟩;have B2:=Hh b2;clear b2;rw[Q3.out]))
    go_ret;have z1:=zaI HB.out m1;exact⟨rfl,z1.trans (B2.out.mono z1.size)⟩
   | false =>
    have Q3:=Hh q3;clear q3;go_enter Tryz.func83,Tryz.ntmps83;go_wp2_with (first
     | (go_at_call 110;refine(zgP _ _ _ l _ HN.out HL.out).mono ?_;rintro e w1 ⟨rfl,m1,rfl⟩;rw[Q1.out])
     | (go_at_call 115;refine(zgR _ _ _ l _ _ (Ns.drewN HN.out _) HL.out Q1.out hn9 (Nat.le_refl _)).mono ?_;rintro e w2 ⟨rfl,b2⟩;have B2:=Hh b2;have N2:=Hh ((Ns.drewN HN.out m1).below b2);clear b2;rw[Q3.out])
     | (go_at_call 113;refine(zgQ _ _ _ l _ N2.out HL.out Q1.out hn9).mono ?_;rintro e w3 ⟨g,rfl,hg1,hg2,hg3,hb3⟩;have HE:=Hh hg3;have B3:=Hh hb3;have N3:=Hh (N2.out.below hb3);clear hg3 hb3))
    have z1:=zaI HB.out m1;have z2:=z1.trans (B2.out.mono z1.size);have hb3:=z2.trans (B3.out.mono z2.size);have HB3:=Hh hb3;clear z1 z2 hb3;have HNb:=Hh (show ∀a,A=some a→a.block<w.heap.size from fun a e=>by
     obtain⟨b,off,e2,hb,_⟩:=HN0.out.at_ (by rw[HL.out];omega)
     rw[e2] at e;cases e;exact hb)
    go_loopw [5,6] (fun i z wr=>∃(k nd:Nat) (v:Value),wr=w3.drewN nd∧k≤n∧i=.int .i64 k∧z=v∧∀j,j<k→empB l (j+1)=false∧at_ l j∉l.take j) (fun i _ _=>n-(intOf i).toNat)
    case atStart=>exact⟨0,0,_,rfl,by omega,rfl,rfl,fun j hj=>by omega⟩
    case round =>
     obtain⟨k,nd,v,rfl,hk,rfl,rfl,hall⟩:=hrel;have HA:=Hh hall;clear hall;by_cases hlt:k<n
     ·have hkl:k<l.length:=by rw[HL.out];exact hlt
      obtain⟨b,off,hAe,hb,hc⟩:=N3.out.at_ (by omega)
      subst hAe;obtain⟨c1,c2,c3,c4,c5⟩:=hc k hkl;have HC:=Hh hc;have hec:=HE.out (k+1) (by omega);have hwx:=N3.out.wf hkl;have HKL:=Hh hkl;have i1:(k:Int)<(n:Int):=by omega
      have i2:(k:Int)+1<(n:Int)+1:=by omega
      have i0:(0:Int)≤(k:Int):=by omega
      clear hc hkl;obtain⟨x,hx⟩:∃x,x=at_ l k:=⟨_,rfl⟩
      rw[←hx] at c1 c2 c3 c4 c5 hwx;have HX:=Hh hx;have HWX:=Hh hwx;clear hx hwx;cases hz:empB l (k+1) with
      | true =>
       have HZ:=Hh hz;rw[hz] at hec;clear hz;go_wp2_with fail;go_ret;refine⟨nd_b ?_,zaI HB3.out _⟩;rw[HR.out];refine(zcP HNE.out Q1.out (fun h=>?_)).symm;have:=(h.2.1 k HKL.out).1;rw[HZ.out] at this;cases this
      | false =>
       have HZ:=Hh hz;rw[hz] at hec;clear hz;go_wp2_with fail;obtain⟨wo,hwo⟩:∃wo:World,wo=w3.drewN nd:=⟨_,rfl⟩;have c1':wo.cell? ⟨b,off+k*5,none⟩=some (.int .i64 x.lv):=by rw[hwo];exact c1
       have c2':wo.cell? ⟨b,off+k*5+1,none⟩=some (.int .i64 x.a):=by rw[hwo];exact c2
       have c3':wo.cell? ⟨b,off+k*5+2,none⟩=some (.int .i64 x.b):=by rw[hwo];exact c3
       have c4':wo.cell? ⟨b,off+k*5+3,none⟩=some (.int .i64 x.c):=by rw[hwo];exact c4
       have c5':wo.cell? ⟨b,off+k*5+4,none⟩=some (.int .i64 x.d):=by rw[hwo];exact c5
       have HC2:=Hh (show ∀i,i<l.length→NdAt wo b (off+i*5) (at_ l i) from fun i hi=>by rw[hwo];exact HC.out i hi);have HW:=Hh hwo;rw[←hwo];clear hwo c1 c2 c3 c4 c5 hec;go_loopw [6] (fun i wr=>∃(q m:Nat),wr=wo.drewN m∧q≤k∧i=.int .i64 q∧∀j,j<q→at_ l k≠at_ l j) (fun i _=>k-(intOf i).toNat)
       case atStart=>exact⟨0,0,rfl,by omega,rfl,fun j hj=>by omega⟩
       case round =>
        obtain⟨q,m,rfl,hq,rfl,hdis⟩:=hrel;have HD:=Hh hdis;clear hdis;by_cases hqk:q<k
        ·obtain⟨d1,d2,d3,d4,d5⟩:=HC2.out q (by have:=HKL.out;omega);have hwy:=N3.out.wf (i:=q) (by have:=HKL.out;omega);obtain⟨y,hy⟩:∃y,y=at_ l q:=⟨_,rfl⟩
         rw[←hy] at d1 d2 d3 d4 d5 hwy;have HY:=Hh hy;have hq2:=zsZ x y HWX.out hwy;have j1:(q:Int)<(k:Int):=by omega
         have j0:(0:Int)≤(q:Int):=by omega
         have j2:(q:Int)<(n:Int):=by omega
         clear hy hwy;by_cases hxy:x=y
         ·have HXY:=Hh hxy;rw[decide_eq_true hxy] at hq2;clear hxy;go_wp2_with fail;go_quiet (fail);go_wp2_with fail;go_ret;refine⟨nd_b ?_,?_⟩
          ·rw[HR.out];refine(zcP HNE.out Q1.out (fun h=>?_)).symm;refine(h.2.1 k HKL.out).2 ?_;rw[←HX.out,HXY.out,HY.out,←zda (l:=l) (k:=k) (i:=q) hqk];exact zpt (by rw[List.length_take];have:=HKL.out;omega)
          ·rw[HW.out];exact zaI (zaI (zaI HB3.out _) _) _
         ·have HXY:=Hh hxy;rw[decide_eq_false hxy] at hq2;clear hxy;go_wp2_with fail;go_quiet (fail);go_wp2_with fail;go_roundw
          case rel =>
           refine⟨q+1,_,rfl,by omega,by go_num,fun j hj=>?_⟩;rcases Nat.lt_or_ge j q with h4|h4
           ·exact HD.out j h4
           ·rw[show j=q by omega,←HX.out,←HY.out];exact HXY.out
          case measure=>simp[intOf];omega
        ·go_wp2_with fail;go_roundw
         case rel =>
          refine⟨k+1,_,_,by rw[HW.out,World.drewN_drewN],by omega,by go_num,rfl,fun j hj=>?_⟩;rcases Nat.lt_or_ge j k with h4|h4
          ·exact HA.out j h4
          ·rw[show j=k by omega];exact⟨HZ.out,zlJ HKL.out fun j hj=>HD.out j (by omega)⟩
         case measure=>simp[intOf];omega
     ·have hkn:k=n:=by omega
      have HKN:=Hh hkn;clear hkn;have hbr:w.heap.size≤(w3.drewN nd).heap.size:=HB3.out.size;obtain⟨O,hO⟩:∃O,O=endL l 1329 n []:=⟨_,rfl⟩;have HO:=Hh hO;have hol:O.length≤n:=by
       rw[hO,←HL.out];exact zpT Q1.out (by rw[HL.out];exact h0') (Nat.le_refl _) List.nodup_nil (by simp)
      clear hO;go_wp2_with (go_at_call 116;refine(zxA _ _ _ w.heap.size l _ (Ns.drewN N3.out _) Q1.out HL.out hn9 h0' HNb.out hbr).mono ?_;rintro e w4 ⟨v4,rfl,ho4,hb4⟩;rw[←HO.out] at ho4;obtain⟨A4,c4,rfl,hcc,hcd,hrd⟩:=ho4.shape;have HRD:=Hh hrd;have HB4:=Hh hb4;clear hrd hb4 ho4);obtain⟨ol,hol2⟩:∃ol,ol=O.length:=⟨_,rfl⟩;rw[←hol2] at hol hcc ⊢;have HOL:=Hh hol2;clear hol2;have HFIN:=Hh (show Below w.heap.size w w4 from(zaI HB3.out nd).trans HB4.out);go_loop [8] (fun i=>∃(q:Nat),q≤ol∧i=.int .i64 q∧∀j,j<q→O.getD j 0=j+1) (fun i=>ol-(intOf i).toNat)
      case atStart=>exact⟨0,by omega,rfl,fun j hj=>by omega⟩
      case round =>
       obtain⟨q,hq,rfl,heq⟩:=hrel;have HEQ:=Hh heq;clear heq;by_cases hqo:q<ol
       ·obtain⟨g4,rfl,hcs⟩:=HRD.out (by rw[←HOL.out];omega);have ce:=hcs q (by rw[←HOL.out];exact hqo);clear hcs;obtain⟨u,hu⟩:∃u:Nat,u=O.getD q 0:=⟨_,rfl⟩;rw[←hu] at ce;have HU:=Hh hu;have j1:(q:Int)<(ol:Int):=by omega
        clear hu;by_cases huq:u=q+1
        ·have t2:((u:Int)!=(q:Int)+1)=false:=by rw[huq];simp
         have HUQ:=Hh huq;clear huq;go_wp2_with fail;go_round
         case rel =>
          refine⟨q+1,by omega,by go_num,fun j hj=>?_⟩;rcases Nat.lt_or_ge j q with h4|h4
          ·exact HEQ.out j h4
          ·rw[show j=q by omega,←HU.out];exact HUQ.out
         case measure=>simp[intOf];omega
        ·have t2:((u:Int)!=(q:Int)+1)=true:=by rw[bne_iff_ne];omega
         have HUQ:=Hh huq;clear huq;go_wp2_with fail;go_ret;refine⟨nd_b ?_,HFIN.out⟩;rw[HR.out];refine(zcP HNE.out Q1.out (fun h=>?_)).symm;have h2:=h.2.2;rw[HL.out,←HO.out] at h2;have h3:=HU.out;rw[h2,List.getD_eq_getElem?_getD,zja (by have:=HOL.out;rw[h2,zcA] at this;omega)] at h3;exact HUQ.out (by rw[h3];show 1+q=q+1;omega)
       ·have hqo2:q=ol:=by omega
        have HQO:=Hh hqo2;clear hqo2;by_cases hon:ol=n
        ·have t2:((ol:Int)==(n:Int))=true:=by rw[hon];simp
         have HON:=Hh hon;clear hon;go_wp2_with fail;go_ret;refine⟨nd_b ?_,HFIN.out⟩;rw[HR.out];refine((zjd HNE.out Q1.out).2 ⟨by rw[HL.out];exact Q3.out,fun i hi=>HA.out i (by rw[HKN.out,←HL.out];exact hi),?_⟩).symm;rw[HL.out,←HO.out];refine List.ext_getElem (by rw[zcA,←HOL.out,HON.out]) fun i h1 h2=>?_;have h3:=HEQ.out i (by rw[HQO.out,HOL.out];exact h1);rw[List.getD_eq_getElem?_getD,List.getElem?_eq_getElem h1] at h3;have h4:=zja (e:=n) (i:=i) (by rw[zcA] at h2;exact h2);rw[List.getElem?_eq_getElem h2] at h4;rw[Option.some.inj h4];show O[i]=1+i;have h5:O[i]=i+1:=h3;omega
        ·have t2:((ol:Int)==(n:Int))=false:=beq_eq_false_iff_ne.2 (by omega);have HON:=Hh hon;clear hon;go_wp2_with fail;go_ret;refine⟨nd_b ?_,HFIN.out⟩;rw[HR.out];refine(zcP HNE.out Q1.out (fun h=>?_)).symm;have h2:=h.2.2;rw[HL.out,←HO.out] at h2;exact HON.out (by rw[HOL.out,h2,zcA])
end Go.Proofs.YtbabbmdpgpcgjaaGreatDoor

namespace Go.Proofs.YtbabbmdpgpcgjaaGreatDoor
open Nds
theorem zoe {l:List Nd}(hq:zfr l=true):zai l=true:=by
 by_cases hne:l=[]
 ·subst hne;rfl
 ·unfold zfr at hq;rw[decide_eq_false hne,Bool.false_or,Bool.and_eq_true] at hq;exact hq.1
end Go.Proofs.YtbabbmdpgpcgjaaGreatDoor

namespace Go.Proofs.YtbabbmdpgpcgjaaGreatDoor.Nds
inductive Tr where
 | e:Tr
 | s (k:Int):Tr
 | n (lv:Int) (a b c d:Tr):Tr
def Tr.isE (t:Tr):Bool:=match t with|.e=>true|_=>false
def Tr.lv (t:Tr):Int:=match t with|.n v _ _ _ _=>v|_=>0
def Tr.q (t:Tr)(i:Nat):Tr:=match t with
 | .n _ a b c d=>(match i with|0=>a|1=>b|2=>c|_=>d)
 | _=>.e
theorem zje {t:Tr}:t.isE=true↔t=.e:=by
 cases t <;> simp[Tr.isE]
theorem zve {t:Tr}:t.isE=false↔t≠.e:=by
 cases t <;> simp[Tr.isE]
def allE (a b c d:Tr):Bool:=a.isE&&b.isE&&c.isE&&d.isE
def mk (v:Int)(a b c d:Tr):Tr:=if allE a b c d=true then .e else .n v a b c d
theorem zgf {a b c d:Tr}:allE a b c d=true↔a=.e∧b=.e∧c=.e∧d=.e:=by
 unfold allE;simp only[Bool.and_eq_true,zje,and_assoc]
theorem mk_q (v:Int)(a b c d:Tr)(i:Nat):(mk v a b c d).q i=(Tr.n v a b c d).q i:=by
 unfold mk;split
 ·rename_i h;obtain⟨rfl,rfl,rfl,rfl⟩:=zgf.1 h
  match i with
  | 0=>rfl
  | 1=>rfl
  | 2=>rfl
  | _+3=>rfl
 ·rfl
theorem zpX (v:Int)(a b c d:Tr):(mk v a b c d).isE=allE a b c d:=by
 unfold mk;cases h:allE a b c d <;> rfl
theorem zyJ {v:Int}{a b c d:Tr}(h:mk v a b c d≠.e):(mk v a b c d).lv=v:=by
 unfold mk at h ⊢;split
 ·rename_i h2;rw[if_pos h2] at h;exact absurd rfl h
 ·rfl
theorem zxB {v:Int}{a b c d:Tr}(h:mk v a b c d≠.e):mk v a b c d=.n v a b c d:=by
 unfold mk at h ⊢;split
 ·rename_i h2;rw[if_pos h2] at h;exact absurd rfl h
 ·rfl
theorem zgS {P:Tr→Prop}(he:P .e)(hs:∀k,P (.s k))(hn:∀v a b c d,(∀i,i<4→P ((Tr.n v a b c d).q i))→P (.n v a b c d)):∀t,P t
 | .e=>he
 | .s k=>hs k
 | .n v a b c d=>hn v a b c d fun i hi=>match i,hi with
  | 0,_=>zgS he hs hn a
  | 1,_=>zgS he hs hn b
  | 2,_=>zgS he hs hn c
  | 3,_=>zgS he hs hn d
def st (k:Int):Tr:=if k=0 then .e else .s k
def kidT (ts:List Tr)(v k:Int):Tr:=if v=1 then st k else ts.getD k.toNat .e
def norm (ts:List Tr)(x:Nd):Tr:=mk x.lv (kidT ts x.lv x.a) (kidT ts x.lv x.b) (kidT ts x.lv x.c) (kidT ts x.lv x.d)
theorem zvf (ts:List Tr)(x:Nd){i:Nat}(hi:i<4):(norm ts x).q i=kidT ts x.lv (x.kid i):=by
 unfold norm;rw[mk_q]
 match i,hi with
 | 0,_=>rfl
 | 1,_=>rfl
 | 2,_=>rfl
 | 3,_=>rfl
theorem zpY {ts:List Tr}{x:Nd}(h:norm ts x≠.e):(norm ts x).lv=x.lv:=zyJ h
theorem ztf (ts:List Tr)(x:Nd):(norm ts x).isE=x.each fun k=>(kidT ts x.lv k).isE:=by
 unfold norm;rw[zpX];rfl
theorem zof {ts us:List Tr}{x y:Nd}(hv:x.lv=y.lv)(h:∀i,i<4→kidT ts x.lv (x.kid i)=kidT us y.lv (y.kid i)):norm ts x=norm us y:=by
 have h0:=h 0 (by omega);have h1:=h 1 (by omega);have h2:=h 2 (by omega);have h3:=h 3 (by omega);unfold norm;show mk _ (kidT ts x.lv (x.kid 0)) (kidT ts x.lv (x.kid 1)) (kidT ts x.lv (x.kid 2)) (kidT ts x.lv (x.kid 3))=mk _ (kidT us y.lv (y.kid 0)) (kidT us y.lv (y.kid 1)) (kidT us y.lv (y.kid 2)) (kidT us y.lv (y.kid 3));rw[h0,h1,h2,h3,hv]
theorem zpZ (ts:List Tr)(x:Nd):norm ts x=.e∨∃a b c d,norm ts x=.n x.lv a b c d:=by
 unfold norm mk;split
 ·exact .inl rfl
 ·exact .inr ⟨_,_,_,_,rfl⟩
def dens (l:List Nd):List Tr:=l.foldl (fun ts x=>ts++[norm ts x]) [.e]
def den (l:List Nd)(n:Nat):Tr:=(dens l).getD n .e
theorem zdA (l:List Nd)(x:Nd):dens (l++[x])=dens l++[norm (dens l) x]:=by
 unfold dens;rw[List.foldl_append];rfl
theorem zdg (l:List Nd):(dens l).length=l.length+1:=by
 suffices h:∀k,k≤l.length→(dens (l.take k)).length=k+1 by
  have:=h l.length (Nat.le_refl _)
  rwa [List.take_of_length_le (Nat.le_refl _)] at this
 intro k
 induction k with
 | zero=>intro _;rfl
 | succ k ih =>
  intro hk;rw[zdb (by omega),zdA,List.length_append,ih (by omega)];rfl
theorem zqa (l:List Nd):∀k,k≤l.length→dens (l.take k)=(dens l).take (k+1):=by
 suffices h:∀d k,k+d=l.length→dens (l.take k)=(dens l).take (k+1) from fun k hk=>h (l.length-k) k (by omega)
 intro d
 induction d with
 | zero =>
  intro k hk;rw[List.take_of_length_le (by omega),List.take_of_length_le (by rw[zdg];omega)]
 | succ d ih =>
  intro k hk;have h:=ih (k+1) (by omega);rw[zdb (by omega),zdA] at h;have hl:(dens (l.take k)).length=k+1:=by rw[zdg,List.length_take];omega
  have:=congrArg (List.take (k+1)) h;rw[List.take_append_of_le_length (by omega),List.take_of_length_le (by omega),List.take_take] at this;rw[this];congr 1;omega
theorem zjf {l:List Nd}{k n:Nat}(hk:k≤l.length)(hn:n≤k):den (l.take k) n=den l n:=by
 unfold den;rw[zqa l k hk,List.getD_eq_getElem?_getD,List.getD_eq_getElem?_getD,List.getElem?_take,if_pos (by omega)]
theorem zqb {l m:List Nd}{n:Nat}(hn:n≤l.length):den (l++m) n=den l n:=by
 have h:=zjf (l:=l++m) (k:=l.length) (n:=n) (by simp) hn;rw[List.take_left] at h;exact h.symm
theorem zlL {l m:List Nd}{n:Nat}(h:l <+: m)(hn:n≤l.length):den m n=den l n:=by
 obtain⟨r,rfl⟩:=h;exact zqb hn
theorem zbd (l:List Nd):den l 0=.e:=by
 have h:=zjf (l:=l) (k:=0) (n:=0) (by omega) (by omega);rw[←h];rfl
theorem zjg (l:List Nd)(x:Nd):den (l++[x]) (l.length+1)=norm (dens l) x:=by
 unfold den;rw[zdA,List.getD_eq_getElem?_getD,List.getElem?_append_right (by rw[zdg];omega),zdg,Nat.sub_self];rfl
theorem zvg {l:List Nd}{i:Nat}(hi:i<l.length):den l (i+1)=norm (dens (l.take i)) (at_ l i):=by
 have h:=zjf (l:=l) (k:=i+1) (n:=i+1) (by omega) (Nat.le_refl _);rw[←h,zdb hi];have hl:(l.take i).length=i:=by rw[List.length_take];omega
 have:=zjg (l.take i) (at_ l i)
 rwa [hl] at this
theorem zvV {ts:List Tr}{v k:Int}(h:v≠1):kidT ts v k=ts.getD k.toNat .e:=by
 unfold kidT;rw[if_neg h]
theorem zaY {l:List Nd}{v k:Int}(h:v≠1):kidT (dens l) v k=den l k.toNat:=zvV h
theorem zdh {ts:List Tr}{k:Int}:kidT ts 1 k=st k:=rfl
theorem ztg {l m:List Nd}(h:l <+: m){v k:Int}(hk:kidB l v k=true):kidT (dens m) v k=kidT (dens l) v k:=by
 by_cases hv:v=1
 ·subst hv;rfl
 ·rw[zaY hv,zaY hv];rcases zbc hv hk with rfl|⟨p,rfl,hp,_⟩
  ·rw[show(0:Int).toNat=0 from rfl,zbd,zbd]
  ·rw[show((p:Int)+1).toNat=p+1 by omega];exact zlL h (by omega)
theorem zth {l m:List Nd}(h:l <+: m){x:Nd}(hx:fitB l x=true):norm (dens m) x=norm (dens l) x :=
 zof rfl fun i hi=>ztg h (zav hx hi)
theorem zbR {l:List Nd}(h:zai l=true){i:Nat}(hi:i<l.length):den l (i+1)=norm (dens l) (at_ l i):=by
 rw[zvg hi];exact(zth (List.take_prefix i l) (zan.1 h i hi)).symm
theorem znc (l:List Nd)(n:Nat):den l n=.e∨∃v a b c d,den l n=.n v a b c d:=by
 by_cases h0:n=0
 ·subst h0;exact .inl (zbd l)
 ·by_cases hn:n≤l.length
  ·obtain⟨i,rfl⟩:∃i,n=i+1:=⟨n-1,by omega⟩;rw[zvg (by omega)];rcases zpZ (dens (l.take i)) (at_ l i) with h|⟨a,b,c,d,h⟩
   ·exact .inl h
   ·exact .inr ⟨_,_,_,_,_,h⟩
  ·refine .inl ?_;unfold den;rw[List.getD_eq_getElem?_getD,List.getElem?_eq_none (by rw[zdg];omega)];rfl
def wfT:Int→Tr→Prop
 | _,.e=>True
 | v,.s k=>v=0∧1≤k∧k≤255
 | v,.n u a b c d=>v=u∧1≤u∧u≤1329∧wfT (u-1) a∧wfT (u-1) b∧wfT (u-1) c∧wfT (u-1) d∧allE a b c d=false
theorem wf_q {v:Int}{t:Tr}(h:wfT v t)(i:Nat):wfT (v-1) (t.q i):=by
 cases t with
 | e=>exact trivial
 | s k=>exact trivial
 | n u a b c d =>
  obtain⟨rfl,_,_,h0,h1,h2,h3,_⟩:=h
  match i with
  | 0=>exact h0
  | 1=>exact h1
  | 2=>exact h2
  | _+3=>exact h3
theorem zxC {v:Int}{t:Tr}(h:wfT v t)(hn:t.lv≠0):t.lv=v∧1≤v∧v≤1329:=by
 cases t with
 | e=>exact absurd rfl hn
 | s k=>exact absurd rfl hn
 | n u a b c d =>
  obtain⟨rfl,h1,h2,_⟩:=h;exact⟨rfl,h1,h2⟩
theorem zvW {v:Int}{a b c d:Tr}(hv:1≤v∧v≤1329)(h0:wfT (v-1) a)(h1:wfT (v-1) b)(h2:wfT (v-1) c)(h3:wfT (v-1) d):wfT v (mk v a b c d):=by
 unfold mk;split
 ·exact trivial
 ·rename_i h;exact⟨rfl,hv.1,hv.2,h0,h1,h2,h3,by simpa using h⟩
theorem zxD {k:Int}(h:0≤k∧k≤255):wfT 0 (st k):=by
 unfold st;split
 ·exact trivial
 ·exact⟨rfl,by omega,h.2⟩
theorem zbY {l:List Nd}(h:zai l=true):∀i,i<l.length→wfT (at_ l i).lv (den l (i+1)):=by
 intro i
 induction i using Nat.strongRecOn with
 | _ i ih =>
  intro hi;have hf:=zan.1 h i hi;have hv:=zaH hf;rw[zbR h hi];have key:∀j,j<4→wfT ((at_ l i).lv-1) (kidT (dens l) (at_ l i).lv ((at_ l i).kid j)):=by
   intro j hj;have hk:=zav hf hj;by_cases h1:(at_ l i).lv=1
   ·rw[h1] at hk ⊢;rw[zdh];unfold kidB at hk;rw[if_pos rfl,decide_eq_true_iff] at hk;exact zxD hk
   ·rw[zaY h1];rcases zbc h1 hk with e|⟨p,e,hp,hl⟩
    ·rw[e,show(0:Int).toNat=0 from rfl,zbd];exact trivial
    ·have hpi:p<i:=Nat.lt_of_lt_of_le hp (List.length_take_le _ _);rw[e,show((p:Int)+1).toNat=p+1 by omega,←hl,zda hpi];exact ih p hpi (by omega)
  exact zvW hv (key 0 (by omega)) (key 1 (by omega)) (key 2 (by omega)) (key 3 (by omega))
def holT (t:Tr):Bool:=decide (1<t.lv)&&(List.range 4).all fun i=>(List.range 4).all fun j=>j+i==3||((t.q i).q j).isE
def innT (t:Tr):Tr:=mk (t.lv-1) ((t.q 0).q 3) ((t.q 1).q 2) ((t.q 2).q 1) ((t.q 3).q 0)
theorem zcJ {t:Tr}:holT t=true↔1<t.lv∧∀i,i<4→∀j,j<4→j+i≠3→(t.q i).q j=.e:=by
 unfold holT;rw[Bool.and_eq_true,decide_eq_true_iff,List.all_eq_true];refine and_congr_right fun _=>⟨fun h i hi j hj hne=>?_,fun h i hi=>List.all_eq_true.2 fun j hj=>?_⟩
 ·have:=List.all_eq_true.1 (h i (List.mem_range.2 hi)) j (List.mem_range.2 hj);rw[Bool.or_eq_true,beq_iff_eq] at this;exact zje.1 (this.resolve_left hne)
 ·rw[Bool.or_eq_true,beq_iff_eq];by_cases hne:j+i=3
  ·exact .inl hne
  ·exact .inr (zje.2 (h i (List.mem_range.1 hi) j (List.mem_range.1 hj) hne))
theorem zkn (t:Tr):innT t=.e∨(innT t).lv=t.lv-1:=by
 unfold innT mk;split
 ·exact .inl rfl
 ·exact .inr rfl
theorem zqc {v:Int}{t:Tr}(h:wfT v t)(hh:holT t=true):wfT (v-1) (innT t):=by
 have h1:=(zcJ.1 hh).1;obtain⟨e,h2,h3⟩:=zxC h (by omega);unfold innT;rw[e];exact zvW (by omega) (wf_q (wf_q h 0) 3) (wf_q (wf_q h 1) 2) (wf_q (wf_q h 2) 1) (wf_q (wf_q h 3) 0)
theorem znd {v u:Int}{a b c d:Tr}(h:wfT v (.n u a b c d)):∃i,i<4∧(Tr.n u a b c d).q i≠.e:=by
 obtain⟨rfl,_,_,_,_,_,_,h4⟩:=h;refine Classical.byContradiction fun hn=>?_;have key:∀i,i<4→(Tr.n v a b c d).q i=.e:=fun i hi=>Classical.byContradiction fun h=>hn ⟨i,hi,h⟩;have h5:allE a b c d=true:=zgf.2 ⟨key 0 (by omega),key 1 (by omega),key 2 (by omega),key 3 (by omega)⟩;rw[h5] at h4;cases h4
theorem zvh {v:Int}{t:Tr}(h:wfT v t)(hh:holT t=true):innT t≠.e:=by
 intro he;obtain⟨h1,h2⟩:=zcJ.1 hh;cases t with
 | e=>exact absurd h1 (by simp[Tr.lv])
 | s k=>exact absurd h1 (by simp[Tr.lv])
 | n u a b c d =>
  have hu:1<u:=h1;obtain⟨i,hi,hne⟩:=znd h;have hw:=wf_q h i;have hq:=h2 i hi;unfold innT at he;have hall:=zgf.1 (show allE _ _ _ _=true from(zpX _ _ _ _ _).symm.trans (zje.2 he));have hi3:((Tr.n u a b c d).q i).q (3-i)=.e:=by
   match i,hi with
   | 0,_=>exact hall.1
   | 1,_=>exact hall.2.1
   | 2,_=>exact hall.2.2.1
   | 3,_=>exact hall.2.2.2
  obtain⟨rfl,_⟩:=h;cases ht:(Tr.n v a b c d).q i with
  | e=>exact hne ht
  | s k =>
   rw[ht] at hw;have:=hw.1;omega
  | n u2 a2 b2 c2 d2 =>
   rw[ht] at hw hq hi3;obtain⟨j,hj,hj2⟩:=znd hw;by_cases hji:j+i=3
   ·rw[show 3-i=j by omega] at hi3;exact hj2 hi3
   ·exact hj2 (hq j hj hji)
def shrF:Nat→Tr→Tr
 | 0,t=>t
 | m+1,t=>if holT t=true then shrF m (innT t) else t
def shrT (t:Tr):Tr:=shrF t.lv.toNat t
theorem zgT {t:Tr}(h:holT t=false)(m:Nat):shrF m t=t:=by
 cases m with
 | zero=>rfl
 | succ m =>
  unfold shrF;rw[if_neg (by rw[h];simp)]
theorem zeN {t:Tr}(h:holT t=false):shrT t=t:=zgT h _
theorem zxE:holT .e=false:=rfl
theorem zne {t:Tr}(h:holT t=true):shrT t=shrT (innT t):=by
 have h1:=(zcJ.1 h).1;obtain⟨m,hm⟩:∃m,t.lv.toNat=m+1:=⟨t.lv.toNat-1,by omega⟩;unfold shrT;rw[hm];show(if holT t=true then shrF m (innT t) else t)=_;rw[if_pos h];rcases zkn t with e|e
 ·rw[e,zgT zxE,zgT zxE]
 ·rw[e,show(t.lv-1).toNat=m by omega]
theorem shr_all {P:Tr→Prop}{v:Int}{t:Tr}(hw:wfT v t)(hP:∀(v:Int) (t:Tr),wfT v t→holT t=false→P t):P (shrT t):=by
 suffices h:∀(m:Nat) (v:Int) (t:Tr),t.lv.toNat≤m→wfT v t→P (shrT t) from h _ v t (Nat.le_refl _) hw
 intro m
 induction m with
 | zero =>
  intro v t hm hw;have:holT t=false:=by
   cases hq:holT t
   ·rfl
   ·have:=(zcJ.1 hq).1;omega
  rw[zeN this];exact hP v t hw this
 | succ m ih =>
  intro v t hm hw;cases hq:holT t with
  | false =>
   rw[zeN hq];exact hP v t hw hq
  | true =>
   rw[zne hq];have h1:=(zcJ.1 hq).1;refine ih (v-1) _ ?_ (zqc hw hq);rcases zkn t with e|e
   ·rw[e];exact Nat.zero_le _
   ·rw[e];omega
theorem zti {v:Int}{t:Tr}(hw:wfT v t):holT (shrT t)=false:=shr_all hw fun _ _ _ h=>h
theorem zxF {v:Int}{t:Tr}(hw:wfT v t):∃u,wfT u (shrT t):=shr_all (P:=fun t=>∃u,wfT u t) hw fun v _ h _=>⟨v,h⟩
end Go.Proofs.YtbabbmdpgpcgjaaGreatDoor.Nds

namespace Go.Proofs.YtbabbmdpgpcgjaaGreatDoor.Nds
def zlM (out:List Nd)(x:Nd):Nat→Nat
 | 0=>0
 | k+1=>if zlM out x k=0 then (if at_ out k=x then k+1 else 0) else zlM out x k
def fnd (out:List Nd)(x:Nd):Nat:=zlM out x out.length
theorem zfs {out:List Nd}{x:Nd}:∀k,(∀j,j<k→at_ out j≠x)→zlM out x k=0
 | 0,_=>rfl
 | k+1,h=>by
  unfold zlM;rw[if_pos (zfs k fun j hj=>h j (by omega)),if_neg (h k (by omega))]
theorem zij {out:List Nd}{x:Nd}{i:Nat}(he:at_ out i=x)(hn:∀j,j<i→at_ out j≠x):∀k,i<k→zlM out x k=i+1
 | 0,h=>by omega
 | k+1,h=>by
  unfold zlM;by_cases hk:i<k
  ·rw[zij he hn k hk,if_neg (by omega)]
  ·have e:i=k:=by omega
   subst e;rw[if_pos (zfs i hn),if_pos he]
theorem znf {out:List Nd}{x:Nd}(h:∀j,j<out.length→at_ out j≠x):fnd out x=0:=zfs _ h
theorem zng {out:List Nd}{x:Nd}{i:Nat}(hi:i<out.length)(he:at_ out i=x)(hn:∀j,j<i→at_ out j≠x):fnd out x=i+1:=zij he hn _ hi
theorem zeO (out:List Nd)(x:Nd):(fnd out x=0∧∀j,j<out.length→at_ out j≠x)∨∃i,i<out.length∧at_ out i=x∧fnd out x=i+1:=by
 suffices h:∀k,k≤out.length→(∀j,j<k→at_ out j≠x)∨∃i,i<k∧at_ out i=x∧∀j,j<i→at_ out j≠x by
  rcases h out.length (Nat.le_refl _) with h|⟨i,hi,he,hn⟩
  ·exact .inl ⟨znf h,h⟩
  ·exact .inr ⟨i,hi,he,zng hi he hn⟩
 intro k
 induction k with
 | zero=>exact fun _=>.inl fun j hj=>by omega
 | succ k ih =>
  intro hk;rcases ih (by omega) with h|⟨i,hi,h⟩
  ·by_cases he:at_ out k=x
   ·exact .inr ⟨k,by omega,he,h⟩
   ·refine .inl fun j hj=>?_;rcases Nat.lt_or_ge j k with h1|h1
    ·exact h j h1
    ·rw[show j=k by omega];exact he
  ·exact .inr ⟨i,by omega,h⟩
def add (out:List Nd)(x:Nd):List Nd × Nat:=if fnd out x=0 then (out++[x],out.length+1) else (out,fnd out x)
def enc:Tr→List Nd→List Nd × Int
 | .e,out=>(out,0)
 | .s k,out=>(out,k)
 | .n v a b c d,out =>
  let r0:=enc a out
  let r1:=enc b r0.1
  let r2:=enc c r1.1
  let r3:=enc d r2.1
  let r:=add r3.1 ⟨v,r0.2,r1.2,r2.2,r3.2⟩
  (r.1,(r.2:Int))
def outK (f:Nat→Tr)(out:List Nd):Nat→List Nd
 | 0=>out
 | k+1=>(enc (f k) (outK f out k)).1
def numK (f:Nat→Tr)(out:List Nd)(k:Nat):Int:=(enc (f k) (outK f out k)).2
def topN (f:Nat→Tr)(out:List Nd)(v:Int):Nd:=⟨v,numK f out 0,numK f out 1,numK f out 2,numK f out 3⟩
theorem zog (v:Int)(a b c d:Tr)(out:List Nd):enc (.n v a b c d) out=((add (outK (Tr.n v a b c d).q out 4) (topN (Tr.n v a b c d).q out v)).1,((add (outK (Tr.n v a b c d).q out 4) (topN (Tr.n v a b c d).q out v)).2:Int)):=rfl
theorem zjh (f:Nat→Tr)(out:List Nd)(v:Int){i:Nat}(hi:i<4):(topN f out v).kid i=numK f out i:=by
 match i,hi with
 | 0,_=>rfl
 | 1,_=>rfl
 | 2,_=>rfl
 | 3,_=>rfl
def zas (out:List Nd):Prop:=zai out=true∧∀i,i<out.length→den out (i+1)≠.e∧∀j,j<i→at_ out j≠at_ out i
theorem zdZ:zas []:=⟨rfl,fun i hi=>absurd hi (Nat.not_lt_zero i)⟩
def NumT (out:List Nd)(t:Tr)(k:Int):Prop:=match t with
 | .e=>k=0
 | .s m=>k=m
 | .n .. => 1≤k∧k≤out.length∧den out k.toNat=t
theorem zvX {out m:List Nd}(h:out <+: m){t:Tr}{k:Int}(hn:NumT out t k):NumT m t k:=by
 cases t with
 | e=>exact hn
 | s _=>exact hn
 | n v a b c d =>
  obtain⟨h1,h2,h3⟩:=hn;have:=h.length_le;exact⟨h1,by omega,by rw[zlL h (by omega)];exact h3⟩
theorem zvY {out:List Nd}(hg:zas out){v k:Int}(hk:kidB out v k=true):NumT out (kidT (dens out) v k) k:=by
 by_cases hv:v=1
 ·subst hv;rw[zdh];unfold st;split
  ·assumption
  ·rfl
 ·rw[zaY hv];rcases zbc hv hk with rfl|⟨p,rfl,hp,_⟩
  ·rw[show(0:Int).toNat=0 from rfl,zbd];rfl
  ·rw[show((p:Int)+1).toNat=p+1 by omega];rcases znc out (p+1) with h|⟨v,a,b,c,d,h⟩
   ·exact absurd h (hg.2 p hp).1
   ·rw[h];exact⟨by omega,by omega,by rw[show((p:Int)+1).toNat=p+1 by omega];exact h⟩
theorem znh {out:List Nd}(hg:zas out){i:Nat}(hi:i<out.length):fnd out (at_ out i)=i+1:=zng hi rfl (hg.2 i hi).2
theorem ztj {out:List Nd}(hg:zas out):∀(t:Tr) (k:Int),NumT out t k→enc t out=(out,k):=by
 refine zgS ?_ ?_ ?_
 ·intro k h;cases h;rfl
 ·intro m k h;cases h;rfl
 ·intro v a b c d ih k h;obtain⟨h1,h2,h3⟩:=h;obtain⟨p,rfl⟩:∃p:Nat,k=(p:Int)+1:=⟨k.toNat-1,by omega⟩;have hp:p<out.length:=by omega
  rw[show((p:Int)+1).toNat=p+1 by omega,zbR hg.1 hp] at h3;have hf:=zaq hg.1 hp;have hv:(at_ out p).lv=v:=by
   have:=zpY (ts:=dens out) (x:=at_ out p) (by rw[h3];simp);rw[h3] at this;exact this.symm
  have hq:∀i,i<4→NumT out ((Tr.n v a b c d).q i) ((at_ out p).kid i):=by
   intro i hi;rw[←h3,zvf _ _ hi];exact zvY hg (zav hf hi)
  have hk:∀i,i≤4→outK (Tr.n v a b c d).q out i=out:=by
   intro i
   induction i with
   | zero=>exact fun _=>rfl
   | succ i ih2 =>
    intro hi;show(enc _ (outK _ out i)).1=out;rw[ih2 (by omega),ih i (by omega) _ (hq i (by omega))]
  have hn:∀i,i<4→numK (Tr.n v a b c d).q out i=(at_ out p).kid i:=by
   intro i hi;unfold numK;rw[hk i (by omega),ih i hi _ (hq i hi)]
  have ht:topN (Tr.n v a b c d).q out v=at_ out p:=by
   unfold topN;rw[hn 0 (by omega),hn 1 (by omega),hn 2 (by omega),hn 3 (by omega),←hv];rfl
  rw[zog,hk 4 (by omega),ht];unfold add;rw[znh hg hp,if_neg (by omega)];simp
theorem zoh {l:List Nd}{x:Nd}(h:zai l=true)(hx:fitB l x=true):zai (l++[x])=true:=by
 rw[zan] at h ⊢;intro i hi;simp only[List.length_append,List.length_cons,List.length_nil] at hi;rcases Nat.lt_or_ge i l.length with h1|h1
 ·have e1:at_ (l++[x]) i=at_ l i:=by
   unfold at_;rw[List.getElem?_append_left h1]
  rw[e1,List.take_append_of_le_length (by omega)];exact h i h1
 ·have e:i=l.length:=by omega
  subst e;have e1:at_ (l++[x]) l.length=x:=by
   unfold at_;rw[List.getElem?_append_right (Nat.le_refl _),Nat.sub_self]
   rfl
  rw[e1,List.take_left];exact hx
theorem zgU {l m:List Nd}{i:Nat}(h:i<l.length):at_ (l++m) i=at_ l i:=by
 unfold at_
 rw[List.getElem?_append_left h]
theorem zgV (l:List Nd)(x:Nd):at_ (l++[x]) l.length=x:=by
 unfold at_
 rw[List.getElem?_append_right (Nat.le_refl _),Nat.sub_self];rfl
theorem zvi {l m:List Nd}(hp:l <+: m){i:Nat}(h:i<l.length):at_ m i=at_ l i:=by
 obtain⟨r,rfl⟩:=hp;exact zgU h
theorem zvZ {out:List Nd}(hl:zai out=true){v:Int}(hv:1≤v){t:Tr}{k:Int}(hw:wfT (v-1) t)(hn:NumT out t k):kidB out v k=true∧kidT (dens out) v k=t:=by
 cases t with
 | e =>
  have hk:k=0:=hn;subst hk;refine⟨?_,?_⟩
  ·unfold kidB;split
   ·exact decide_eq_true (by omega)
   ·exact decide_eq_true (.inl rfl)
  ·unfold kidT;split
   ·rfl
   ·exact zbd out
 | s m =>
  have hk:k=m:=hn;subst hk;obtain⟨h1,h2,h3⟩:=hw;have e:v=1:=by omega
  subst e;refine⟨?_,?_⟩
  ·unfold kidB;rw[if_pos rfl];exact decide_eq_true (by omega)
  ·rw[zdh];unfold st;rw[if_neg (by omega)]
 | n u a b c d =>
  obtain⟨h1,h2,h3⟩:=hn;obtain⟨p,rfl⟩:∃p:Nat,k=(p:Int)+1:=⟨k.toNat-1,by omega⟩;rw[show((p:Int)+1).toNat=p+1 by omega] at h3;obtain⟨hu,hu1,_⟩:=hw;have hne:v≠1:=by omega
  have hlv:(at_ out p).lv=v-1:=by
   rw[zbR hl (by omega)] at h3;have:=zpY (ts:=dens out) (x:=at_ out p) (by rw[h3];simp);rw[h3] at this;rw[←this];exact hu.symm
  refine⟨?_,?_⟩
  ·unfold kidB;rw[if_neg hne];exact decide_eq_true (.inr ⟨by omega,by omega,by rw[show((p:Int)+1).toNat-1=p by omega];exact hlv⟩)
  ·rw[zaY hne,show((p:Int)+1).toNat=p+1 by omega];exact h3
structure EncT (v:Int)(t:Tr)(out:List Nd)(r:List Nd × Int):Prop where
 good:zas r.1
 pre:out <+: r.1
 num:NumT r.1 t r.2
 lvs:∀i,out.length≤i→i<r.1.length→(at_ r.1 i).lv≤v
structure EncK (v:Int)(f:Nat→Tr)(out:List Nd)(k:Nat):Prop where
 good:zas (outK f out k)
 pre:out <+: outK f out k
 num:∀i,i<k→NumT (outK f out k) (f i) (numK f out i)
 lvs:∀i,out.length≤i→i<(outK f out k).length→(at_ (outK f out k) i).lv≤v
theorem zgW {v:Int}{f:Nat→Tr}{out:List Nd}(hg:zas out)(h:∀i,i<4→∀o,zas o→EncT v (f i) o (enc (f i) o)):∀k,k≤4→EncK v f out k:=by
 intro k
 induction k with
 | zero=>exact fun _=>⟨hg,List.prefix_refl _,fun i hi=>absurd hi (Nat.not_lt_zero i),fun i h1 h2=>absurd h2 (Nat.not_lt.2 h1)⟩
 | succ k ih =>
  intro hk;have i1:=ih (by omega);have i2:=h k (by omega) _ i1.good;refine⟨i2.good,i1.pre.trans i2.pre,fun i hi=>?_,fun i h1 h2=>?_⟩
  ·rcases Nat.lt_or_ge i k with h1|h1
   ·exact zvX i2.pre (i1.num i h1)
   ·have e:i=k:=by omega
    subst e;exact i2.num
  ·rcases Nat.lt_or_ge i (outK f out k).length with h3|h3
   ·rw[show at_ (outK f out (k+1)) i=at_ (outK f out k) i from zvi i2.pre h3];exact i1.lvs i h1 h3
   ·exact i2.lvs i h3 h2
theorem zvj {v:Int}{a b c d:Tr}{out:List Nd}(hw:wfT v (.n v a b c d))(h:EncK (v-1) (Tr.n v a b c d).q out 4) :
  fitB (outK (Tr.n v a b c d).q out 4) (topN (Tr.n v a b c d).q out v)=true∧norm (dens (outK (Tr.n v a b c d).q out 4)) (topN (Tr.n v a b c d).q out v)=.n v a b c d:=by
 have hv:1≤v∧v≤1329:=⟨hw.2.1,hw.2.2.1⟩;have key:∀i,i<4→kidB (outK (Tr.n v a b c d).q out 4) v (numK (Tr.n v a b c d).q out i)=true∧kidT (dens (outK (Tr.n v a b c d).q out 4)) v (numK (Tr.n v a b c d).q out i)=(Tr.n v a b c d).q i :=
  fun i hi=>zvZ h.good.1 hv.1 (wf_q hw i) (h.num i hi)
 refine⟨?_,?_⟩
 ·unfold fitB;rw[Bool.and_eq_true,zbM];exact⟨decide_eq_true hv,fun i hi=>by rw[zjh _ _ _ hi];exact(key i hi).1⟩
 ·show mk v (kidT _ v (numK _ out 0)) (kidT _ v (numK _ out 1)) (kidT _ v (numK _ out 2)) (kidT _ v (numK _ out 3))=_;rw[(key 0 (by omega)).2,(key 1 (by omega)).2,(key 2 (by omega)).2,(key 3 (by omega)).2];have hall:allE a b c d=false:=hw.2.2.2.2.2.2.2;unfold mk;show(if allE a b c d=true then Tr.e else Tr.n v a b c d)=_;rw[if_neg (by rw[hall];simp)]
theorem zqd {out:List Nd}{x:Nd}(hg:zas out)(hx:fitB out x=true)(hn:norm (dens out) x≠.e)(hf:∀j,j<out.length→at_ out j≠x):zas (out++[x]):=by
 refine⟨zoh hg.1 hx,fun i hi=>?_⟩;simp only[List.length_append,List.length_cons,List.length_nil] at hi;rcases Nat.lt_or_ge i out.length with h1|h1
 ·rw[zqb (by omega),zgU h1];exact⟨(hg.2 i h1).1,fun j hj=>by rw[zgU (by omega)];exact(hg.2 i h1).2 j hj⟩
 ·have e:i=out.length:=by omega
  subst e;rw[zjg,zgV];exact⟨hn,fun j hj=>by rw[zgU hj];exact hf j hj⟩
theorem zce:∀(t:Tr) (v:Int) (out:List Nd),wfT v t→zas out→EncT v t out (enc t out):=by
 refine zgS ?_ ?_ ?_
 ·exact fun v out _ hg=>⟨hg,List.prefix_refl _,rfl,fun i h1 h2=>absurd h2 (Nat.not_lt.2 h1)⟩
 ·exact fun k v out _ hg=>⟨hg,List.prefix_refl _,rfl,fun i h1 h2=>absurd h2 (Nat.not_lt.2 h1)⟩
 ·intro u a b c d ih v out hw hg;have hu:v=u:=hw.1;subst hu;have hk:=zgW (v:=v-1) (f:=(Tr.n v a b c d).q) hg (fun i hi o ho=>ih i hi (v-1) o (wf_q hw i) ho) 4 (Nat.le_refl _);obtain⟨hfit,hnorm⟩:=zvj hw hk;rw[zog];obtain⟨o4,ho4⟩:∃o4,o4=outK (Tr.n v a b c d).q out 4:=⟨_,rfl⟩;obtain⟨x,hx⟩:∃x,x=topN (Tr.n v a b c d).q out v:=⟨_,rfl⟩;have hxv:x.lv=v:=by rw[hx];rfl
  obtain⟨kg,kp,_,kl⟩:=hk;rw[←ho4] at kg kp kl hfit hnorm ⊢;rw[←hx] at hfit hnorm ⊢;have hne:norm (dens o4) x≠.e:=by rw[hnorm];simp
  unfold add;rcases zeO o4 x with⟨e,hf⟩|⟨i,hi,he,e⟩
  ·rw[e,if_pos rfl];refine⟨zqd kg hfit hne hf,kp.trans (List.prefix_append _ _),?_,fun i h1 h2=>?_⟩
   ·refine⟨by simp;omega,by simp,?_⟩;show den (o4++[x]) ((o4.length+1:Nat):Int).toNat=_;rw[Int.toNat_natCast,zjg,hnorm]
   ·simp only[List.length_append,List.length_cons,List.length_nil] at h2;show(at_ (o4++[x]) i).lv≤v;rcases Nat.lt_or_ge i o4.length with h3|h3
    ·rw[zgU h3];have:=kl i h1 h3;omega
    ·rw[show i=o4.length by omega,zgV,hxv];exact Int.le_refl _
  ·rw[e,if_neg (by omega)];refine⟨kg,kp,?_,fun i h1 h2=>Int.le_trans (kl i h1 h2) (by omega)⟩;refine⟨by simp;omega,by simp;omega,?_⟩;show den o4 ((i+1:Nat):Int).toNat=_;rw[Int.toNat_natCast,zbR kg.1 hi,he,hnorm]
theorem zwa {L:List Nd}:∀(t:Tr) (v:Int) (out:List Nd) (m:Nat),wfT v t→zas out→(enc t out).1 <+: L→v≤m→t≠.e→(∀k,t≠.s k) →
  endL L m (enc t out).2.toNat (upto out.length)=upto (enc t out).1.length:=by
 refine zgS ?_ ?_ ?_
 ·exact fun v out m _ _ _ _ h _=>absurd rfl h
 ·exact fun k v out m _ _ _ _ _ h=>absurd rfl (h k)
 ·intro u a b c d ih v out m hw hg hpre hm _ _;have hu:v=u:=hw.1;subst hu;have hspec:=zce (.n v a b c d) v out hw hg;obtain⟨n1,n2,n3⟩:=hspec.num;by_cases hk:(enc (.n v a b c d) out).2≤out.length
  ·have hnum:NumT out (.n v a b c d) (enc (.n v a b c d) out).2:=⟨n1,hk,by rw[←zlL hspec.pre (by omega)];exact n3⟩;have hmem:=ztj hg _ _ hnum;have e1:(enc (.n v a b c d) out).1=out:=by rw[hmem]
   rw[e1,zlG (zdY.2 ⟨by omega,by omega⟩)]
  ·have hkk:=zgW (v:=v-1) (f:=(Tr.n v a b c d).q) hg (fun i hi o ho=>zce _ (v-1) o (wf_q hw i) ho);have h4:=hkk 4 (Nat.le_refl _);have hv1:1≤v:=hw.2.1;rw[zog] at hk hpre ⊢;obtain⟨o4,ho4⟩:∃o4,o4=outK (Tr.n v a b c d).q out 4:=⟨_,rfl⟩;obtain⟨x,hx⟩:∃x,x=topN (Tr.n v a b c d).q out v:=⟨_,rfl⟩;have hxv:x.lv=v:=by rw[hx];rfl
   rw[←ho4,←hx] at hk hpre ⊢;have hadd:add o4 x=(o4++[x],o4.length+1):=by
    rcases zeO o4 x with⟨e,hf⟩|⟨i,hi,he,e⟩
    ·unfold add;rw[if_pos e]
    ·exfalso;unfold add at hk;rw[if_neg (by omega),e] at hk;simp only at hk;have:=h4.lvs i (by omega) (by rw[←ho4];exact hi);rw[←ho4,he,hxv] at this;omega
   rw[hadd] at hk hpre ⊢;simp only at hk hpre ⊢;rw[Int.toNat_natCast];obtain⟨m,rfl⟩:∃m',m=m'+1:=⟨m-1,by omega⟩;have hnot:o4.length+1∉upto out.length:=fun h=>by
    have:=(zdY.1 h).2;omega
   have hatx:at_ L (o4.length+1-1)=x:=by
    rw[show o4.length+1-1=o4.length by omega,zvi hpre (by simp),zgV]
   unfold endL;rw[if_neg hnot,hatx,hxv];have hlen:(o4++[x]).length=o4.length+1:=by simp
   rw[hlen,←zgM];congr 1;have hpre4:o4 <+: L:=(List.prefix_append _ _).trans hpre;by_cases hlv:1<v
   ·rw[if_pos hlv];have key:∀j,j≤4→zdf (endL L m) x (upto out.length) j=upto (outK (Tr.n v a b c d).q out j).length:=by
     intro j
     induction j with
     | zero=>exact fun _=>rfl
     | succ j ihj =>
      intro hj;show zel (endL L m) (zdf (endL L m) x (upto out.length) j) (x.kid j)=_;rw[ihj (by omega),hx,zjh _ _ _ (by omega)];have hkj:=hkk j (by omega);have hkj1:=hkk (j+1) hj;have hwj:=wf_q hw j;show zel _ _ (enc ((Tr.n v a b c d).q j) (outK (Tr.n v a b c d).q out j)).2=upto (enc ((Tr.n v a b c d).q j) (outK (Tr.n v a b c d).q out j)).1.length;have hpj:(enc ((Tr.n v a b c d).q j) (outK (Tr.n v a b c d).q out j)).1 <+: L:=by
       have key2:∀i,i≤4→∀j,j≤i→outK (Tr.n v a b c d).q out j <+: outK (Tr.n v a b c d).q out i:=by
        intro i
        induction i with
        | zero=>intro _ j hj;rw[show j=0 by omega];exact List.prefix_refl _
        | succ i ih2 =>
         intro hi j hj;rcases Nat.lt_or_ge j (i+1) with h1|h1
         ·exact(ih2 (by omega) j (by omega)).trans (zce _ (v-1) _ (wf_q hw i) (hkk i (by omega)).good).pre
         ·rw[show j=i+1 by omega];exact List.prefix_refl _
       have:=key2 4 (Nat.le_refl _) (j+1) hj;rw[←ho4] at this;exact this.trans hpre4
      have hsp:=zce ((Tr.n v a b c d).q j) (v-1) _ hwj hkj.good;have hih:=ih j (by omega) (v-1) _ m hwj hkj.good hpj (by omega);cases ht:(Tr.n v a b c d).q j with
      | e =>
       unfold zel;rw[if_neg (by simp[enc])];rfl
      | s k =>
       rw[ht] at hwj;have:=hwj.1;omega
      | n u2 a2 b2 c2 d2 =>
       rw[ht] at hih hsp;have h1:=hsp.num.1;unfold zel;rw[if_pos (by omega)];exact hih (by simp) (by simp)
    rw[key 4 (Nat.le_refl _),←ho4]
   ·rw[if_neg hlv];have hv:v=1:=by omega
    have key:∀j,j≤4→outK (Tr.n v a b c d).q out j=out:=by
     intro j
     induction j with
     | zero=>exact fun _=>rfl
     | succ j ihj =>
      intro hj;show(enc ((Tr.n v a b c d).q j) (outK (Tr.n v a b c d).q out j)).1=out;rw[ihj (by omega)];have hwj:=wf_q hw j;cases ht:(Tr.n v a b c d).q j with
      | e=>rfl
      | s k=>rfl
      | n u2 a2 b2 c2 d2 =>
       rw[ht] at hwj;obtain⟨h1,h2,_⟩:=hwj;omega
    rw[ho4,key 4 (Nat.le_refl _)]
end Go.Proofs.YtbabbmdpgpcgjaaGreatDoor.Nds
