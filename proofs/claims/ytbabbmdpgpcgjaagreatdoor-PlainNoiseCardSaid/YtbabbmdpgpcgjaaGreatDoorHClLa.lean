import Derived.Test.YtbabbmdpgpcgjaaGreatDoorHClQ

set_option linter.unusedVariables false
set_option linter.unusedSimpArgs false
set_option maxRecDepth 100000
set_option maxHeartbeats 6400000
namespace Go.Proofs.YtbabbmdpgpcgjaaGreatDoor
open Go.RowKit Nds Num Go.Shelf
theorem OwnC.mono {w:World}{base base':Nat}{v:Value}{l:List Cv}(h:OwnC w base v l)(hb:base'≤base):OwnC w base' v l:=by
 refine⟨h.1,?_⟩;rcases h.2 with h|⟨g,cap,cur,e,hb',rest⟩
 ·exact .inl h
 ·exact .inr ⟨g,cap,cur,e,by omega,rest⟩
def zwi (l:List Cv)(w:World)(e:Ending)(w':World):Prop :=
 ∃v out,e=.returned v∧out.map Cv.cl=zaR (l.map Cv.cl)∧(∀x∈out,x∈l)∧OwnC w' w.heap.size v out∧out.length≤l.length∧Below w.heap.size w w'
theorem zkx (A:Option Addr)(c n:Nat)(l:List Cv)(w:World)(h:Cs w A c l)(hn:l.length=n)(hR:∀v∈l,CvR v)(h0:0<n)(hn9:n≤900000) :
  Calls Tryz.prog 99 #[.slice A n c] w (zwi l w):=by
 have hcap:=h.cap;rw[hn] at hcap;obtain⟨W,hW⟩:∃W:World,W=w.alloc (.cells #[.slice A n c] 35):=⟨_,rfl⟩;have hb:Below w.heap.size w W:=by rw[hW];exact(Below.refl _ w).alloc (Nat.le_refl _) _
 have hsz:W.heap.size=w.heap.size+1:=by rw[hW];simp
 have hbx:=zaA w (.slice A n c) 35;rw[←hW] at hbx;obtain⟨i0,hi,hz0,hz1,hz2⟩:=info_parts Tryz.infoI;have HI:=Hh (And.intro hi (And.intro hz0 (And.intro hz1 hz2)));have HN:=Hh hn;have HR:=Hh hR;have HW:=Hh hW;have HB:=Hh hb;have HSZ:=Hh hsz;have HC:=Hh h;have HBX:=Hh hbx;obtain⟨b1,b2⟩:=hbx;rw[hW] at b1 b2;clear h hi hz0 hz1 hz2 hR hW hb hsz;go_enter Tryz.func99,Tryz.ntmps99;go_wp2_with (first
  | (at_make;go_loud (rw[←HW.out];refine wpList_make_full _ rfl _ _ 95 rfl w.heap.size 3 i0 _ 1 Tryz.underlying95 HI.out.1 HI.out.2.1 HI.out.2.2.1 .i64 .i64 _ _ n rfl rfl (by omega) (by omega) (by rw[HI.out.2.2.2];omega) (by unfold maxLen;omega) HB.out.size ?_;intro w0 own grow)))
 obtain⟨g,hg⟩:∃g,g=W.heap.size:=⟨_,rfl⟩;rw[←hg] at own;rw[←hg];have HGE:=Hh (hg.trans HSZ.out);have od:=OwnD.made own;have HB0:=Hh (HB.out.grown grow HB.out.size (fun k hk=>by cases hk));have hbx0:=grow.cell HBX.out.1 (by simp);clear own hg;have HGR:=Hh grow;clear grow;go_loopw [14] (fun z1 wr=>∃(q:Nat) (ds:List Nat),q≤n∧z1=.int .i64 q∧OwnD wr w.heap.size g n ds∧(∀j,j<q→ds.getD j 0=j)∧wr.cell? ⟨w.heap.size,0,none⟩=some (.slice A n c)∧Below w.heap.size w wr) (fun z1 _=>n-(intOf z1).toNat)
 case atStart=>exact⟨0,_,by omega,rfl,od,fun j hj=>by omega,hbx0,HB0.out⟩
 case round =>
  obtain⟨q,ds,hq,rfl,hod,hds,hbw,hbb⟩:=hrel;have HQ:=Hh hds;have HOD:=Hh hod;have HBB:=Hh hbb;have HBW:=Hh hbw;clear hds hbb od;by_cases hlt:q<n
  ·have i1:(q:Int)<(n:Int):=by omega
   have i2:(0:Int)≤(q:Int):=by omega
   have t1:decide ((q:Int)<(n:Int))=true:=decide_eq_true i1;have cc:=hod.cell hlt;have cf:=hod.free q;clear hod;go_wp2_with fail;go_roundw
   case rel =>
    refine⟨q+1,ds.set q q,by omega,by go_num,HOD.out.set q q,fun j hj=>?_,?_,?_⟩
    ·rw[List.getD_eq_getElem?_getD,List.getElem?_set];by_cases hjq:q=j
     ·subst hjq;rw[if_pos rfl,if_pos (by rw[HOD.out.1];exact hlt)];rfl
     ·rw[if_neg hjq,←List.getD_eq_getElem?_getD];exact HQ.out j (by omega)
    ·rw[World.cell?_setCell_other _ _ _ _ (by simp;have:=HGE.out;omega)];exact HBW.out
    ·exact HBB.out.setCell (p:=⟨g,q,none⟩) (by show w.heap.size≤g;have:=HGE.out;omega) _
   case measure=>simp[intOf];omega
  ·obtain rfl:q=n:=by omega
   have t1:decide ((q:Int)<(q:Int))=false:=decide_eq_false (by omega);have hso:=zqx w.heap.size A c q l wr hbw (HC.out.below HBB.out) HN.out HR.out g q h0 (by omega) HOD.out.lt.2 (by have:=HGE.out;omega) (fun a ea e=>by obtain⟨b',off',e',hb',_⟩:=HC.out.at_ (by rw[HN.out];exact h0);rw[ea] at e';cases e';have:=HGE.out;dsimp only at e;omega)
    (fun v hv=>zxH (HC.out.1 v hv) (by have:=HGE.out;omega))
    (fun i hi=>by have:=HOD.out.cell hi;rwa [HQ.out i hi] at this) HOD.out.free
   have HSO:=Hh hso;clear hso hod hbw;go_wp2_with (go_at_call 133;go_loud (refine HSO.out.mono ?_;rintro e w2 ⟨rfl,o,hperm,hsrt,hoc,hg2⟩));have HPM:=Hh hperm;have HSR:=Hh hsrt;have HLO:=Hh (show o.length=q by rw[hperm.length_eq,List.length_range]);have hbx2:=hg2.cell HBW.out (by intro e;have h1:=HGE.out;have h2:=Option.some.inj e;dsimp only at h2;omega);have hb2:Below w.heap.size w w2:=HBB.out.grown hg2 HBB.out.size (fun k e=>by have h1:=HGE.out;have h2:=Option.some.inj e;omega);have hs2:w.heap.size+2≤w2.heap.size:=by have h1:=HGE.out;have h2:=HOD.out.lt.2;have h3:=hg2.size;omega
   have HB2:=Hh hb2;have HS2:=Hh hs2;have HOC2:=Hh hoc;have HBX2:=Hh hbx2;clear hperm hsrt hoc hg2 hbx2 hb2 hs2;have hlo9:∀i,i<q→o[i]?.getD 0<q:=fun i hi=>by
    have hoi:o[i]?.getD 0∈o:=by rw[List.getElem?_eq_getElem (by rw[HLO.out];omega)];exact List.getElem_mem _
    exact List.mem_range.1 (HPM.out.mem_iff.1 hoi)
   have HLO9:=Hh hlo9;clear hlo9;go_loopw [27,5] (fun z1 z2 wr=>∃(p:Nat),p≤q∧z1=.int .i64 p∧OwnC wr (w.heap.size+2) z2 (zbp l o p)∧(∀i,i<q→wr.cell? ⟨g,i,none⟩=some (.int .i64 ((o[i]?.getD 0:Nat):Int)))∧wr.cell? ⟨w.heap.size,0,none⟩=some (.slice A q c)∧Below w.heap.size w wr∧w.heap.size+2≤wr.heap.size) (fun z1 _ _=>q-(intOf z1).toNat)
   case atStart=>exact⟨0,by omega,rfl,OwnC.nil _ _,HOC2.out,HBX2.out,HB2.out,HS2.out⟩
   case round =>
    obtain⟨p,hp,rfl,hown,hoc,hbw,hbb,hsw⟩:=hrel;have HOW:=Hh hown;have HOC:=Hh hoc;have HBW':=Hh hbw;have HBB':=Hh hbb;have HSW:=Hh hsw;by_cases hlt:p<q
    ·have i1:(p:Int)<(q:Int):=by omega
     have i2:(0:Int)≤(p:Int):=by omega
     have t1:decide ((p:Int)<(q:Int))=true:=decide_eq_true i1;obtain⟨b,off,hAe,hbl,hcl⟩:=(HC.out.below hbb).at_ (by rw[HN.out];exact h0)
     subst hAe;obtain⟨a,ha⟩:∃a,a=o[p]?.getD 0:=⟨_,rfl⟩;have ha9:a<q:=by rw[ha];exact HLO9.out p hlt
     have oc1:=hoc p hlt;rw[←ha] at oc1;have HOA:=Hh ha;obtain⟨c1,c2,c3,c4,c5⟩:=hcl a (by rw[HN.out];exact ha9);obtain⟨x,hx⟩:∃x,x=cat l a:=⟨_,rfl⟩;rw[←hx] at c1 c2 c3 c4 c5;have HX:=Hh hx;have HXU:=Hh (show CvU wr x by rw[hx];exact(HC.out.below hbb).1 _ (zaZ (by rw[HN.out];exact ha9)));have HXR:=Hh (show CvR x by rw[hx];exact HR.out _ (zaZ (by rw[HN.out];exact ha9)));have hx1:=HXU.out.1.cap;have hx2:=HXU.out.2.1.cap;have a1:(0:Int)≤(a:Int):=by omega
     have a2:(a:Int)<(q:Int):=by omega
     have HCV:=Hh (show CvAt wr b (off+a*5) x from⟨c1,c2,c3,c4,c5⟩);have HCL:=Hh hcl;have HLb:=Hh hbl;have HLG:=Hh (zag oc1);have HLB:=Hh (zag hbw);have jw:IntKind.i64.wrap ((p:Int)+1)=(p:Int)+1:=by simp[IntKind.wrap,IntKind.bits,IntKind.signed];omega
     by_cases hlast:p+1<q
     ·obtain⟨e,he⟩:∃e,e=o[p+1]?.getD 0:=⟨_,rfl⟩;have he9:e<q:=by rw[he];exact HLO9.out _ hlast
      have oc2:=hoc (p+1) hlast;rw[←he] at oc2;have HOE:=Hh he;obtain⟨d1,d2,d3,d4,d5⟩:=hcl e (by rw[HN.out];exact he9);obtain⟨y,hy⟩:∃y,y=cat l e:=⟨_,rfl⟩;rw[←hy] at d1 d2 d3 d4 d5;have HY:=Hh hy;have HYU:=Hh (show CvU wr y by rw[hy];exact(HC.out.below hbb).1 _ (zaZ (by rw[HN.out];exact he9)));have HYR:=Hh (show CvR y by rw[hy];exact HR.out _ (zaZ (by rw[HN.out];exact he9)));have hy1:=HYU.out.1.cap;have hy2:=HYU.out.2.1.cap;have b1:(0:Int)≤(e:Int):=by omega
      have b2':(e:Int)<(q:Int):=by omega
      have j1:(0:Int)≤(p:Int)+1:=by omega
      have j2:(p:Int)+1<(q:Int):=by omega
      have j3:decide ((p:Int)+1<(q:Int))=true:=decide_eq_true j2;have HCY:=Hh (show CvAt wr b (off+e*5) y from⟨d1,d2,d3,d4,d5⟩);have HO2:=Hh oc2;obtain⟨r,hr⟩:∃r,r=ordC x y:=⟨_,rfl⟩;have HRr:=Hh hr;have st:Gro wr wr.drew:=(Gro.refl wr).drewN 1;clear hx ha hy he hr hcl hoc hown hbb hsw;by_cases hz:r=0
      ·subst hz;have HKP:=Hh (show zby l o p=false by
        unfold zby;rw[←HOA.out,←HX.out,←HOE.out,←HY.out,←HRr.out,decide_eq_true (show p+1<o.length by rw[HLO.out];exact hlast)];rfl)
       go_wp2_with fail;go_region_held3 (fun w'=>w'.cell? ⟨w.heap.size,0,none⟩=some (.slice (some ⟨b,off,none⟩) q c)∧w'.cell? ⟨g,p+1,none⟩=some (.int .i64 (e:Int))∧(w'.cell? ⟨b,off+a*5,none⟩=some (.bool x.sx)∧w'.cell? ⟨b,off+a*5+1,none⟩=some (.slice x.ax x.xs.length x.cx)∧w'.cell? ⟨b,off+a*5+2,none⟩=some (.bool x.sy)∧w'.cell? ⟨b,off+a*5+3,none⟩=some (.slice x.ay x.ys.length x.cy)∧w'.cell? ⟨b,off+a*5+4,none⟩=some (.int .u8 x.st))∧(w'.cell? ⟨b,off+e*5,none⟩=some (.bool y.sx)∧w'.cell? ⟨b,off+e*5+1,none⟩=some (.slice y.ax y.xs.length y.cx)∧w'.cell? ⟨b,off+e*5+2,none⟩=some (.bool y.sy)∧w'.cell? ⟨b,off+e*5+3,none⟩=some (.slice y.ay y.ys.length y.cy)∧w'.cell? ⟨b,off+e*5+4,none⟩=some (.int .u8 y.st)))
        (first|go_keep|exact⟨k0,k9,⟨e1,e2,e3,e4,e5⟩,⟨f1,f2,f3,f4,f5⟩⟩)
        (first|(go_at_call 135;refine(zdj x y _ (HXU.out.below st.b) (HYU.out.below st.b) HXR.out HYR.out).mono ?_;rintro e w1 ⟨rfl,g1⟩;rw[←HRr.out];have k0:=((st.trans g1).b.cell (p:=⟨w.heap.size,0,none⟩) HLB.out).trans HBW'.out;have k9:=((st.trans g1).b.cell (p:=⟨g,p+1,none⟩) HLG.out).trans HO2.out;obtain⟨e1,e2,e3,e4,e5⟩:=HCV.out.below ((st.trans g1).b.block b HLb.out);obtain⟨f1,f2,f3,f4,f5⟩:=HCY.out.below ((st.trans g1).b.block b HLb.out)))
       all_goals
        have HG1:=Hh (st.trans g1);go_wp2_with fail;go_roundw
        case rel =>
         refine⟨p+1,by omega,by go_num,?_,?_,?_,?_,?_⟩
         ·rw[zcs,if_neg (by rw[HKP.out];simp)];exact(HOW.out.kept (gbN HG1.out.b) (zbK (fun k hk e=>by cases e)))
         ·exact fun j hj=>(HG1.out.b.cell (p:=⟨g,j,none⟩) HLG.out).trans (HOC.out j hj)
         ·exact(HG1.out.b.cell (p:=⟨w.heap.size,0,none⟩) HLB.out).trans HBW'.out
         ·exact HBB'.out.trans (HG1.out.b.mono HBB'.out.size)
         ·exact Nat.le_trans HSW.out HG1.out.b.size
        case measure=>simp[intOf];omega
      ·have t2:(r==0)=false:=by rw[beq_eq_false_iff_ne];exact hz
       have HNO:=Hh (show(decide (p+1<o.length)&&(ordC (cat l a) (cat l (o[p+1]?.getD 0))==0))=false by rw[←HX.out,←HOE.out,←HY.out,←HRr.out,t2,Bool.and_false]);clear hz;go_wp2_with fail;go_region_held3 (fun w'=>w'.cell? ⟨w.heap.size,0,none⟩=some (.slice (some ⟨b,off,none⟩) q c)∧w'.cell? ⟨g,p+1,none⟩=some (.int .i64 (e:Int))∧(w'.cell? ⟨b,off+a*5,none⟩=some (.bool x.sx)∧w'.cell? ⟨b,off+a*5+1,none⟩=some (.slice x.ax x.xs.length x.cx)∧w'.cell? ⟨b,off+a*5+2,none⟩=some (.bool x.sy)∧w'.cell? ⟨b,off+a*5+3,none⟩=some (.slice x.ay x.ys.length x.cy)∧w'.cell? ⟨b,off+a*5+4,none⟩=some (.int .u8 x.st))∧(w'.cell? ⟨b,off+e*5,none⟩=some (.bool y.sx)∧w'.cell? ⟨b,off+e*5+1,none⟩=some (.slice y.ax y.xs.length y.cx)∧w'.cell? ⟨b,off+e*5+2,none⟩=some (.bool y.sy)∧w'.cell? ⟨b,off+e*5+3,none⟩=some (.slice y.ay y.ys.length y.cy)∧w'.cell? ⟨b,off+e*5+4,none⟩=some (.int .u8 y.st)))
        (first|go_keep|exact⟨k0,k9,⟨e1,e2,e3,e4,e5⟩,⟨f1,f2,f3,f4,f5⟩⟩)
        (first|(go_at_call 135;refine(zdj x y _ (HXU.out.below st.b) (HYU.out.below st.b) HXR.out HYR.out).mono ?_;rintro e w1 ⟨rfl,g1⟩;rw[←HRr.out];have k0:=((st.trans g1).b.cell (p:=⟨w.heap.size,0,none⟩) HLB.out).trans HBW'.out;have k9:=((st.trans g1).b.cell (p:=⟨g,p+1,none⟩) HLG.out).trans HO2.out;obtain⟨e1,e2,e3,e4,e5⟩:=HCV.out.below ((st.trans g1).b.block b HLb.out);obtain⟨f1,f2,f3,f4,f5⟩:=HCY.out.below ((st.trans g1).b.block b HLb.out)))
       all_goals
        have HG1:=Hh (st.trans g1);have k0:=(HG1.out.b.cell (p:=⟨w.heap.size,0,none⟩) HLB.out).trans HBW'.out;obtain⟨e1,e2,e3,e4,e5⟩:=HCV.out.below (HG1.out.b.block b HLb.out);by_cases hst:x.st=0
        ·have t3:((x.st:Int)!=0)=false:=by rw[bne_eq_false_iff_eq];omega
         have HKP:=Hh (show zby l o p=false by unfold zby;rw[←HOA.out,←HX.out,hst];simp);go_wp2_with fail;go_roundw
         case rel =>
          refine⟨p+1,by omega,by go_num,?_,?_,?_,?_,?_⟩
          ·rw[zcs,if_neg (by rw[HKP.out];simp)];exact(HOW.out.kept (gbN HG1.out.b) (zbK (fun k hk e=>by cases e)))
          ·exact fun j hj=>(HG1.out.b.cell (p:=⟨g,j,none⟩) HLG.out).trans (HOC.out j hj)
          ·exact(HG1.out.b.cell (p:=⟨w.heap.size,0,none⟩) HLB.out).trans HBW'.out
          ·exact HBB'.out.trans (HG1.out.b.mono HBB'.out.size)
          ·exact Nat.le_trans HSW.out HG1.out.b.size
         case measure=>simp[intOf];omega
        ·have t3:((x.st:Int)!=0)=true:=by rw[bne_iff_ne];omega
         have HKP:=Hh (show zby l o p=true by unfold zby;rw[←HOA.out,HNO.out,←HX.out,bne_iff_ne.2 hst];rfl);go_wp2_with (at_builtin;go_loud (refine zcC _ rfl _ _ rfl (w.heap.size+2) _ (zbp l o p) x _ 1 rfl rfl ((HOW.out.kept (gbN HG1.out.b) (zbK (fun k hk e=>by cases e))).alloc _) (zjm _ x) (by have:=zfw l o p;omega) (by have h1:=HSW.out;have h2:=HG1.out.b.size;simp;omega) ?_;intro v5 w5 hown5 hg5 hk5;have HO5:=Hh hown5;have HG5:=Hh hg5;clear hown5 hg5 hk5));go_roundw
         case rel =>
          have HB5:Below (w.heap.size+2) wr w5:=((HG1.out.b.mono HSW.out).alloc (Nat.le_trans HSW.out HG1.out.b.size) _).grown HG5.out (by simp;have:=HSW.out;have:=HG1.out.b.size;omega) (fun k hk=>(HOW.out.lt k hk).1);refine⟨p+1,by omega,by go_num,?_,?_,?_,?_,?_⟩
          ·rw[zcs,if_pos HKP.out,←HOA.out,←HX.out];exact HO5.out
          ·exact fun j hj=>(HB5.cell (p:=⟨g,j,none⟩) (by show g<_;have:=HGE.out;omega)).trans (HOC.out j hj)
          ·exact(HB5.cell (p:=⟨w.heap.size,0,none⟩) (by show w.heap.size<_;omega)).trans HBW'.out
          ·exact HBB'.out.trans (HB5.mono (by omega))
          ·exact Nat.le_trans HSW.out HB5.size
         case measure=>simp[intOf];omega
     ·have j3:decide ((p:Int)+1<(q:Int))=false:=decide_eq_false (by omega);have HNO:=Hh (show(decide (p+1<o.length)&&(ordC (cat l a) (cat l (o[p+1]?.getD 0))==0))=false by rw[decide_eq_false (show ¬ p+1<o.length by rw[HLO.out];exact hlast),Bool.false_and]);clear hx ha hcl hoc hown hbb hsw;go_wp2_with fail;go_quiet (fail);have g0:Gro wr (wr.drewN nq):=(Gro.refl wr).drewN nq;have HG1:=Hh g0;have k0:=(HG1.out.b.cell (p:=⟨w.heap.size,0,none⟩) HLB.out).trans HBW'.out;obtain⟨e1,e2,e3,e4,e5⟩:=HCV.out.below (HG1.out.b.block b HLb.out);by_cases hst:x.st=0
      ·have t3:((x.st:Int)!=0)=false:=by rw[bne_eq_false_iff_eq];omega
       have HKP:=Hh (show zby l o p=false by unfold zby;rw[←HOA.out,←HX.out,hst];simp);go_wp2_with fail;go_roundw
       case rel =>
        refine⟨p+1,by omega,by go_num,?_,?_,?_,?_,?_⟩
        ·rw[zcs,if_neg (by rw[HKP.out];simp)];exact(HOW.out.kept (gbN HG1.out.b) (zbK (fun k hk e=>by cases e)))
        ·exact fun j hj=>(HG1.out.b.cell (p:=⟨g,j,none⟩) HLG.out).trans (HOC.out j hj)
        ·exact(HG1.out.b.cell (p:=⟨w.heap.size,0,none⟩) HLB.out).trans HBW'.out
        ·exact HBB'.out.trans (HG1.out.b.mono HBB'.out.size)
        ·exact Nat.le_trans HSW.out HG1.out.b.size
       case measure=>simp[intOf];omega
      ·have t3:((x.st:Int)!=0)=true:=by rw[bne_iff_ne];omega
       have HKP:=Hh (show zby l o p=true by unfold zby;rw[←HOA.out,HNO.out,←HX.out,bne_iff_ne.2 hst];rfl);go_wp2_with (at_builtin;go_loud (refine zcC _ rfl _ _ rfl (w.heap.size+2) _ (zbp l o p) x _ 1 rfl rfl ((HOW.out.kept (gbN HG1.out.b) (zbK (fun k hk e=>by cases e))).alloc _) (zjm _ x) (by have:=zfw l o p;omega) (by have h1:=HSW.out;have h2:=HG1.out.b.size;simp;omega) ?_;intro v5 w5 hown5 hg5 hk5;have HO5:=Hh hown5;have HG5:=Hh hg5;clear hown5 hg5 hk5));go_roundw
       case rel =>
        have HB5:Below (w.heap.size+2) wr w5:=((HG1.out.b.mono HSW.out).alloc (Nat.le_trans HSW.out HG1.out.b.size) _).grown HG5.out (by simp;have:=HSW.out;have:=HG1.out.b.size;omega) (fun k hk=>(HOW.out.lt k hk).1);refine⟨p+1,by omega,by go_num,?_,?_,?_,?_,?_⟩
        ·rw[zcs,if_pos HKP.out,←HOA.out,←HX.out];exact HO5.out
        ·exact fun j hj=>(HB5.cell (p:=⟨g,j,none⟩) (by show g<_;have:=HGE.out;omega)).trans (HOC.out j hj)
        ·exact(HB5.cell (p:=⟨w.heap.size,0,none⟩) (by show w.heap.size<_;omega)).trans HBW'.out
        ·exact HBB'.out.trans (HB5.mono (by omega))
        ·exact Nat.le_trans HSW.out HB5.size
       case measure=>simp[intOf];omega
    ·obtain rfl:p=q:=by omega
     have t1:decide ((p:Int)<(p:Int))=false:=decide_eq_false (by omega);clear hown hoc hbw hbb hsw;go_wp2_with fail;go_ret;refine⟨_,zbp l o p,rfl,zon HN.out HPM.out HSR.out,fun v hv=>zom HN.out HPM.out (Nat.le_refl _) hv,HOW.out.mono (by omega),by rw[HN.out];exact zfw l o p,HBB'.out⟩
end Go.Proofs.YtbabbmdpgpcgjaaGreatDoor
