import Derived.Test.YtfjajpnfjjdnpaaGreatDoorTLkRq
import Derived.Test.YtfjajpnfjjdnpaaGreatDoorTClRm

set_option linter.unusedVariables false
set_option linter.unusedSimpArgs false
set_option maxRecDepth 100000
set_option maxHeartbeats 6400000
namespace Go.Proofs.YtfjajpnfjjdnpaaGreatDoor
open Go.RowKit Num Nds
theorem zep {W:World}{g:Nat}{o:Obj}(h:W.heap[g]?=some o):g<W.heap.size:=(Array.getElem?_eq_some_iff.1 h).1
end Go.Proofs.YtfjajpnfjjdnpaaGreatDoor

namespace Go.Proofs.YtfjajpnfjjdnpaaGreatDoor
open Go.RowKit Nds
theorem zlP (l:List Nd)(t:Nd):∀k,l <+: (wdK l t k).1
 | 0=>List.prefix_refl _
 | k+1=>by
  have:=zlP l t k;by_cases h:t.kid k=0
  ·rw[zbx h];exact this
  ·rw[zby h];exact this.trans (List.prefix_append _ _)
theorem at_pre {l m:List Nd}(h:l <+: m){i:Nat}(hi:i<l.length):at_ m i=at_ l i:=by
 obtain⟨r,rfl⟩:=h;unfold Nds.at_
 rw[List.getElem?_append_left hi]
theorem zjy {w:World}{base m:Nat}{v:Value}{l g:List Nd}(h:OwnN w base v l)(hp:g <+: l)(hm:m<g.length) :
  ∃c b off,v=.slice (some ⟨b,off,none⟩) l.length c∧NdAt w b (off+m*5) (at_ g m)∧l.length≤c∧c≤9223372036854775807:=by
 obtain⟨A,c,hv,hns,-,-⟩:=h.shape;have hle:=hp.length_le;have hcap:=hns.cap;obtain⟨b,off,rfl,-,hc⟩:=hns.at_ (by omega)
 refine⟨c,b,off,hv,?_,hcap.1,hcap.2⟩;rw[←at_pre hp hm];exact hc m (by omega)
theorem znz (A:Option Addr)(c n lv:Nat)(q:List Nd)(w:World)(h:Ns w A c q)(hn:q.length=n)(hn9:n≤800000)(hl:zaa q=true)(hlv:lv≤1329)(hA:A=none→c=0) :
  Calls Tryz.prog 133 #[.agg #[.slice A n c],.int .i64 (lv:Int)] w fun e w'=>∃v,e=.returned (.tuple #[v,.int .i64 ((zaT lv q).length:Nat)])∧OwnN w' w.heap.size v (zaT lv q)∧Below w.heap.size w w':=by
 have hcap:=h.cap;rw[hn] at hcap;have hb:=(Below.refl w.heap.size w).alloc (Nat.le_refl _) (.cells #[.slice A n c] 28);have hb2:=hb.alloc hb.size (.cells #[] 70);have HB:=Hh hb2;have HST:=Hh (show OwnN ((w.alloc (.cells #[.slice A n c] 28)).alloc (.cells #[] 70)) w.heap.size (.slice (some ⟨w.heap.size+1,0,none⟩) 0 0) [] by
  have h1:=OwnN.start_at (w:=w.alloc (.cells #[.slice A n c] 28)) (base:=w.heap.size) (by simp)
  rwa [World.size_alloc] at h1)
 have HN:=Hh (h.below hb2);have HA:=Hh hA;have HL:=Hh hn;have HLL:=Hh hl;obtain⟨R,hR⟩:∃R,R=zaT lv q:=⟨_,rfl⟩;rw[←hR];have HR:=Hh hR;have t9:decide ((lv:Int)>1329)=false:=decide_eq_false (by omega);have t8:decide ((1329:Int)<(lv:Int))=false:=t9;rcases Nat.eq_zero_or_pos n with h0|h0
 ·subst h0;have HZ:=Hh (show R=[] by rw[hR];unfold zaT;rw[if_pos hn]);have HQ:=Hh (List.eq_nil_of_length_eq_zero hn);clear h hb hb2 hA hn hl hR;go_enter Tryz.func133,Tryz.ntmps133;go_wp2_with (at_builtin;go_loud (refine zac _ rfl _ _ rfl w.heap.size _ [] q A 0 c rfl rfl HST.out HN.out HL.out HA.out (by simp only[List.length_nil];omega) HB.out.size ?_;intro v2 w2 ho2 hg2 hk2;rw[List.nil_append] at ho2;obtain⟨A1,c1,hv,-,-,-⟩:=ho2.shape;rw[HL.out] at hv;subst hv;have HO:=Hh ho2;have HB1:=Hh (HB.out.grown hg2 HB.out.size (fun k hk=>by cases hk;simp));clear ho2 hg2 hk2));go_ret2;refine⟨_,by rw[HZ.out];rfl,?_,HB1.out⟩;rw[HZ.out,←HQ.out];exact HO.out
 ·obtain⟨p,rfl⟩:∃p,n=p+1:=⟨n-1,by omega⟩;have HS:=Hh (GrS.start hl hlv hn);have t7:((p:Int)+1==0)=false:=beq_eq_false_iff_ne.2 (by omega);clear h hb hb2 hA hn hl hR;go_enter Tryz.func133,Tryz.ntmps133;go_wp2_with (at_builtin;go_loud (refine zac _ rfl _ _ rfl w.heap.size _ [] q A (p+1) c rfl rfl HST.out HN.out HL.out HA.out (by simp only[List.length_nil];omega) HB.out.size ?_;intro v2 w2 ho2 hg2 hk2;rw[List.nil_append] at ho2;obtain⟨A1,c1,hv,-,-,-⟩:=ho2.shape;rw[HL.out] at hv;subst hv;have HO:=Hh ho2;have HB1:=Hh (HB.out.grown hg2 HB.out.size (fun k hk=>by cases hk;simp));clear ho2 hg2 hk2));go_loopw [6,7,8,9,10,11] (fun z6 z7 z8 z9 z10 z11 wr=>∃(d m:Nat) (g:List Nd) (v u8 u9 u10 u11:Value),v=z6∧z7=.int .i64 ((m:Int)+1)∧z8=u8∧z9=u9∧z10=u10∧z11=u11∧OwnN wr w.heap.size v g∧Below w.heap.size w wr∧GrS lv q d m g) (fun z6 _ _ _ _ _ _=>p+10000-lenOf z6)
  case atStart=>exact⟨_,_,_,_,_,_,_,_,rfl,rfl,rfl,rfl,rfl,rfl,HO.out,HB1.out,HS.out⟩
  case round =>
   obtain⟨d,m,g,v,u8,u9,u10,u11,rfl,rfl,rfl,rfl,rfl,rfl,how,hbw,hgs⟩:=hrel;have hmg:m<g.length:=by rw[hgs.size];omega
   obtain⟨c2,g2,off,hv2,hnd,hcp,hcp9⟩:=zjy how (List.prefix_refl g) hmg;rw[hgs.size] at hv2 hcp;subst hv2;have hcl:=hnd.1;have hm9:m≤880000:=by have:=hgs.len;have:=HL.out;omega
   obtain⟨t,ht⟩:∃t,t=at_ g m:=⟨_,rfl⟩
   rw[←ht] at hcl;have HOW:=Hh how;have HBW:=Hh hbw;have HGS:=Hh hgs;have HT:=Hh ht;have HMG:=Hh hmg;have hfit:=zad hgs.loose hmg;rw[←ht] at hfit;have HV:=Hh (zam hfit);have HTW:=Hh (zlo hfit (by rw[hgs.size];omega));have i1:(m:Int)<(m:Int)+1:=by omega
   cases d with
   | zero =>
    have t1:decide (t.lv<(lv:Int))=false:=decide_eq_false (by have:=hgs.low;rw[ht];omega);have HG:=Hh (show g=R by rw[HR.out];exact hgs.same);clear how hbw hgs ht hnd hmg hfit;go_wp2_with fail;go_ret2;refine⟨_,?_,by rw[←HG.out];exact HOW.out,HBW.out⟩;rw[←HG.out,HGS.out.size];rfl
   | succ d =>
    have hup:=hgs.up (by omega);rw[←ht] at hup;have t1:decide (t.lv<(lv:Int))=true:=decide_eq_true (by omega);have hv1:=(zam hfit).1;have hv9:t.lv≤1328:=by omega
    obtain⟨m2,hn2,hm2,hm25⟩:=hgs.next hlv;have HN2:=Hh hn2;have HWF:=Hh (show zcw g=(wdK g t 4).1++[(wdK g t 4).2] by unfold zcw;rw[hgs.size,Nat.add_sub_cancel,←ht]);obtain⟨gw,hgw⟩:∃gw,gw=wr.heap.size:=⟨_,rfl⟩;obtain⟨W,hW⟩:∃W:World,W=wr.alloc (.cells #[.int .i64 (t.lv+1),.int .i64 0,.int .i64 0,.int .i64 0,.int .i64 0] 70):=⟨_,rfl⟩;have HBX:=Hh (show zat W gw (wdK g t 0).2 by rw[hW,hgw];exact zat.new wr ⟨t.lv+1,0,0,0,0⟩);have HOW1:=Hh (show OwnN W w.heap.size (.slice (some ⟨g2,off,none⟩) (m+1) c2) (wdK g t 0).1 by rw[hW];exact how.alloc _);have HBB:=Hh (show Below w.heap.size w W by rw[hW];exact hbw.alloc hbw.size _);have HAP:=Hh (show ∀k,(Value.slice (some ⟨g2,off,none⟩) (m+1) c2).ownBlock=some k→k≠gw from fun k hk=>by have:=(how.lt k hk).2;omega);have HGG:=Hh (show w.heap.size≤gw by rw[hgw];exact hbw.size);have HW:=Hh hW;clear how hbw hgs ht hnd hmg hfit hup hn2 hW;go_wp2_with fail;rw[←HW.out,←hgw];clear hgw hcl;go_loopw [9,6,10,11] (fun z1 z2 z3 z4 ws=>∃(j:Nat) (v u3 u4:Value),j≤4∧z1=.int .i64 j∧v=z2∧z3=u3∧z4=u4∧OwnN ws w.heap.size v (wdK g t j).1∧zat ws gw (wdK g t j).2∧Below w.heap.size w ws∧(∀k,v.ownBlock=some k→k≠gw)) (fun z1 _ _ _ _=>4-(intOf z1).toNat)
    case atStart=>exact⟨0,_,_,_,by omega,rfl,rfl,rfl,rfl,HOW1.out,HBX.out,HBB.out,HAP.out⟩
    case round =>
     obtain⟨j,v,u3,u4,hj,rfl,rfl,rfl,rfl,how,hbx,hbw,hap⟩:=hrel;have hlen:=zgI g t j;have hmore:=zgJ g t j;have hxw:=zlB (l:=g) HV.out (by rw[HGS.out.size];omega) j hj;obtain⟨c5,g5,off5,hv5,hnd5,hcp5,hcq5⟩:=zjy how (zlP g t j) HMG.out;rw[←HT.out] at hnd5;obtain⟨G,hG⟩:∃G,G=(wdK g t j).1:=⟨_,rfl⟩;obtain⟨x,hx⟩:∃x,x=(wdK g t j).2:=⟨_,rfl⟩;obtain⟨M,hM⟩:∃M,M=G.length:=⟨_,rfl⟩;rw[←hG] at how hlen hmore hv5 hcp5;rw[←hx] at hbx hxw;rw[←hM] at hlen hmore hv5 hcp5;rw[HGS.out.size] at hlen hmore;subst hv5;have HO:=Hh how;have HX:=Hh hbx;have HB2:=Hh hbw;have HP:=Hh hap;have HM:=Hh hM;have HG:=Hh hG;have HXX:=Hh hx;have HXW:=Hh hxw;have hso:w.heap.size≤wr.heap.size:=hbw.size;have HBS:=Hh hso;have HGLT:=Hh hbx.lt;obtain⟨d1,d2,d3,d4,d5⟩:=hnd5;have i3:(m:Int)<(M:Int):=by omega
     clear how hbx hbw hap hM hG hx hxw hso;by_cases hj4:j<4
     ·obtain⟨y,hy⟩:∃y,y=t.kid j:=⟨_,rfl⟩;have HY:=Hh hy;have HYW:=Hh (show in64 y by rw[hy];exact HTW.out.kid j);have HCW:=Hh (show ∀k,(chK ⟨t.lv,0,0,0,0⟩ k y).wf from fun k=>zlA (x:=⟨t.lv,0,0,0,0⟩) ⟨HTW.out.1,zbl,zbl,zbl,zbl⟩ k HYW.out);have hj4':j=0∨j=1∨j=2∨j=3:=by omega
      rcases hj4' with rfl|rfl|rfl|rfl
      ·rw[show t.a=y from HY.out.symm] at d2;by_cases hy0:y=0
       ·subst hy0;have HS':=Hh (zbx (l:=g) (t:=t) (k:=0) HY.out.symm);clear hy;go_wp2_with fail;go_roundw
        case rel=>exact⟨1,_,_,_,by omega,by go_num,rfl,rfl,rfl,by rw[HS'.out,←HG.out];exact HO.out,by rw[HS'.out,←HXX.out];exact HX.out,HB2.out,HP.out⟩
        case measure=>simp[intOf];try omega
       ·have t2:(y==0)=false:=beq_eq_false_iff_ne.2 hy0;have HS':=Hh (show wdK g t 1=(G++[(chK ⟨t.lv,0,0,0,0⟩ 3 y)],chK x 0 ((M:Int)+1)) by
         have h:=zby (l:=g) (t:=t) (k:=0) (by rw[←HY.out];exact hy0);rw[←HG.out,←HXX.out,←HM.out,←HY.out,show((M+1:Nat):Int)=(M:Int)+1 by omega] at h;exact h)
        clear hy;go_wp2_with (at_builtin;go_loud (refine zac _ rfl _ _ rfl w.heap.size _ G [(chK ⟨t.lv,0,0,0,0⟩ 3 y)] _ 1 1 rfl rfl ((HO.out.alloc _).alloc _) (zba _ _ (chK ⟨t.lv,0,0,0,0⟩ 3 y) (HCW.out 3) (by simp)) rfl (fun e=>by cases e) (by rw[←HM.out];omega) (by have:=HBS.out;simp;omega) ?_;intro v6 w6 ho6 hg6 hk6;obtain⟨A6,c6,hv6,-,-,-⟩:=ho6.shape;rw[List.length_append,←HM.out,List.length_singleton] at hv6;subst hv6;have hx6:=HX.out.grow2 hg6 (fun e=>HP.out gw e.symm rfl);have HX6:=Hh hx6;have HO6:=Hh ho6;have HB6:=Hh ((((HB2.out.alloc HBS.out _).alloc (by have:=HBS.out;simp;omega) _)).grown hg6 (by have:=HBS.out;simp;omega) (fun k hk=>(HO.out.lt k hk).1));have HK6:=Hh (zbT hk6);obtain⟨x0,x1,x2,x3,x4⟩:=hx6.cells;have z1:=hx6.free 1;clear ho6 hg6 hk6 hx6));go_roundw
        case rel =>
         refine⟨1,_,_,_,by omega,by go_num,rfl,rfl,rfl,?_,?_,?_,?_⟩
         ·rw[HS'.out];exact HO6.out.gbr (zan _ _ _) (zbZ fun k hk e=>by have h1:=Option.some.inj e;exact(zaq (a:=gw) (b:=gw) (fun k hk=>⟨HP.out k hk,HP.out k hk⟩) HK6.out ⟨HGLT.out,HGLT.out⟩ k hk).1 h1.symm)
         ·rw[HS'.out];exact HX6.out.chK (k:=0) (by omega) rfl _
         ·exact HB6.out.setCell (by have:=HGG.out;show w.heap.size≤gw;omega) _
         ·exact fun k hk=>(zaq (a:=gw) (b:=gw) (fun k hk=>⟨HP.out k hk,HP.out k hk⟩) HK6.out ⟨HGLT.out,HGLT.out⟩ k hk).1
        case measure=>simp[intOf];try omega
      ·rw[show t.b=y from HY.out.symm] at d3;by_cases hy0:y=0
       ·subst hy0;have HS':=Hh (zbx (l:=g) (t:=t) (k:=1) HY.out.symm);clear hy;go_wp2_with fail;go_roundw
        case rel=>exact⟨2,_,_,_,by omega,by go_num,rfl,rfl,rfl,by rw[HS'.out,←HG.out];exact HO.out,by rw[HS'.out,←HXX.out];exact HX.out,HB2.out,HP.out⟩
        case measure=>simp[intOf];try omega
       ·have t2:(y==0)=false:=beq_eq_false_iff_ne.2 hy0;have HS':=Hh (show wdK g t 2=(G++[(chK ⟨t.lv,0,0,0,0⟩ 2 y)],chK x 1 ((M:Int)+1)) by
         have h:=zby (l:=g) (t:=t) (k:=1) (by rw[←HY.out];exact hy0);rw[←HG.out,←HXX.out,←HM.out,←HY.out,show((M+1:Nat):Int)=(M:Int)+1 by omega] at h;exact h)
        clear hy;go_wp2_with (at_builtin;go_loud (refine zac _ rfl _ _ rfl w.heap.size _ G [(chK ⟨t.lv,0,0,0,0⟩ 2 y)] _ 1 1 rfl rfl ((HO.out.alloc _).alloc _) (zba _ _ (chK ⟨t.lv,0,0,0,0⟩ 2 y) (HCW.out 2) (by simp)) rfl (fun e=>by cases e) (by rw[←HM.out];omega) (by have:=HBS.out;simp;omega) ?_;intro v6 w6 ho6 hg6 hk6;obtain⟨A6,c6,hv6,-,-,-⟩:=ho6.shape;rw[List.length_append,←HM.out,List.length_singleton] at hv6;subst hv6;have hx6:=HX.out.grow2 hg6 (fun e=>HP.out gw e.symm rfl);have HX6:=Hh hx6;have HO6:=Hh ho6;have HB6:=Hh ((((HB2.out.alloc HBS.out _).alloc (by have:=HBS.out;simp;omega) _)).grown hg6 (by have:=HBS.out;simp;omega) (fun k hk=>(HO.out.lt k hk).1));have HK6:=Hh (zbT hk6);obtain⟨x0,x1,x2,x3,x4⟩:=hx6.cells;have z1:=hx6.free 2;clear ho6 hg6 hk6 hx6));go_roundw
        case rel =>
         refine⟨2,_,_,_,by omega,by go_num,rfl,rfl,rfl,?_,?_,?_,?_⟩
         ·rw[HS'.out];exact HO6.out.gbr (zan _ _ _) (zbZ fun k hk e=>by have h1:=Option.some.inj e;exact(zaq (a:=gw) (b:=gw) (fun k hk=>⟨HP.out k hk,HP.out k hk⟩) HK6.out ⟨HGLT.out,HGLT.out⟩ k hk).1 h1.symm)
         ·rw[HS'.out];exact HX6.out.chK (k:=1) (by omega) rfl _
         ·exact HB6.out.setCell (by have:=HGG.out;show w.heap.size≤gw;omega) _
         ·exact fun k hk=>(zaq (a:=gw) (b:=gw) (fun k hk=>⟨HP.out k hk,HP.out k hk⟩) HK6.out ⟨HGLT.out,HGLT.out⟩ k hk).1
        case measure=>simp[intOf];try omega
      ·rw[show t.c=y from HY.out.symm] at d4;by_cases hy0:y=0
       ·subst hy0;have HS':=Hh (zbx (l:=g) (t:=t) (k:=2) HY.out.symm);clear hy;go_wp2_with fail;go_roundw
        case rel=>exact⟨3,_,_,_,by omega,by go_num,rfl,rfl,rfl,by rw[HS'.out,←HG.out];exact HO.out,by rw[HS'.out,←HXX.out];exact HX.out,HB2.out,HP.out⟩
        case measure=>simp[intOf];try omega
       ·have t2:(y==0)=false:=beq_eq_false_iff_ne.2 hy0;have HS':=Hh (show wdK g t 3=(G++[(chK ⟨t.lv,0,0,0,0⟩ 1 y)],chK x 2 ((M:Int)+1)) by
         have h:=zby (l:=g) (t:=t) (k:=2) (by rw[←HY.out];exact hy0);rw[←HG.out,←HXX.out,←HM.out,←HY.out,show((M+1:Nat):Int)=(M:Int)+1 by omega] at h;exact h)
        clear hy;go_wp2_with (at_builtin;go_loud (refine zac _ rfl _ _ rfl w.heap.size _ G [(chK ⟨t.lv,0,0,0,0⟩ 1 y)] _ 1 1 rfl rfl ((HO.out.alloc _).alloc _) (zba _ _ (chK ⟨t.lv,0,0,0,0⟩ 1 y) (HCW.out 1) (by simp)) rfl (fun e=>by cases e) (by rw[←HM.out];omega) (by have:=HBS.out;simp;omega) ?_;intro v6 w6 ho6 hg6 hk6;obtain⟨A6,c6,hv6,-,-,-⟩:=ho6.shape;rw[List.length_append,←HM.out,List.length_singleton] at hv6;subst hv6;have hx6:=HX.out.grow2 hg6 (fun e=>HP.out gw e.symm rfl);have HX6:=Hh hx6;have HO6:=Hh ho6;have HB6:=Hh ((((HB2.out.alloc HBS.out _).alloc (by have:=HBS.out;simp;omega) _)).grown hg6 (by have:=HBS.out;simp;omega) (fun k hk=>(HO.out.lt k hk).1));have HK6:=Hh (zbT hk6);obtain⟨x0,x1,x2,x3,x4⟩:=hx6.cells;have z1:=hx6.free 3;clear ho6 hg6 hk6 hx6));go_roundw
        case rel =>
         refine⟨3,_,_,_,by omega,by go_num,rfl,rfl,rfl,?_,?_,?_,?_⟩
         ·rw[HS'.out];exact HO6.out.gbr (zan _ _ _) (zbZ fun k hk e=>by have h1:=Option.some.inj e;exact(zaq (a:=gw) (b:=gw) (fun k hk=>⟨HP.out k hk,HP.out k hk⟩) HK6.out ⟨HGLT.out,HGLT.out⟩ k hk).1 h1.symm)
         ·rw[HS'.out];exact HX6.out.chK (k:=2) (by omega) rfl _
         ·exact HB6.out.setCell (by have:=HGG.out;show w.heap.size≤gw;omega) _
         ·exact fun k hk=>(zaq (a:=gw) (b:=gw) (fun k hk=>⟨HP.out k hk,HP.out k hk⟩) HK6.out ⟨HGLT.out,HGLT.out⟩ k hk).1
        case measure=>simp[intOf];try omega
      ·rw[show t.d=y from HY.out.symm] at d5;by_cases hy0:y=0
       ·subst hy0;have HS':=Hh (zbx (l:=g) (t:=t) (k:=3) HY.out.symm);clear hy;go_wp2_with fail;go_roundw
        case rel=>exact⟨4,_,_,_,by omega,by go_num,rfl,rfl,rfl,by rw[HS'.out,←HG.out];exact HO.out,by rw[HS'.out,←HXX.out];exact HX.out,HB2.out,HP.out⟩
        case measure=>simp[intOf];try omega
       ·have t2:(y==0)=false:=beq_eq_false_iff_ne.2 hy0;have HS':=Hh (show wdK g t 4=(G++[(chK ⟨t.lv,0,0,0,0⟩ 0 y)],chK x 3 ((M:Int)+1)) by
         have h:=zby (l:=g) (t:=t) (k:=3) (by rw[←HY.out];exact hy0);rw[←HG.out,←HXX.out,←HM.out,←HY.out,show((M+1:Nat):Int)=(M:Int)+1 by omega] at h;exact h)
        clear hy;go_wp2_with (at_builtin;go_loud (refine zac _ rfl _ _ rfl w.heap.size _ G [(chK ⟨t.lv,0,0,0,0⟩ 0 y)] _ 1 1 rfl rfl ((HO.out.alloc _).alloc _) (zba _ _ (chK ⟨t.lv,0,0,0,0⟩ 0 y) (HCW.out 0) (by simp)) rfl (fun e=>by cases e) (by rw[←HM.out];omega) (by have:=HBS.out;simp;omega) ?_;intro v6 w6 ho6 hg6 hk6;obtain⟨A6,c6,hv6,-,-,-⟩:=ho6.shape;rw[List.length_append,←HM.out,List.length_singleton] at hv6;subst hv6;have hx6:=HX.out.grow2 hg6 (fun e=>HP.out gw e.symm rfl);have HX6:=Hh hx6;have HO6:=Hh ho6;have HB6:=Hh ((((HB2.out.alloc HBS.out _).alloc (by have:=HBS.out;simp;omega) _)).grown hg6 (by have:=HBS.out;simp;omega) (fun k hk=>(HO.out.lt k hk).1));have HK6:=Hh (zbT hk6);obtain⟨x0,x1,x2,x3,x4⟩:=hx6.cells;have z1:=hx6.free 4;clear ho6 hg6 hk6 hx6));go_roundw
        case rel =>
         refine⟨4,_,_,_,by omega,by go_num,rfl,rfl,rfl,?_,?_,?_,?_⟩
         ·rw[HS'.out];exact HO6.out.gbr (zan _ _ _) (zbZ fun k hk e=>by have h1:=Option.some.inj e;exact(zaq (a:=gw) (b:=gw) (fun k hk=>⟨HP.out k hk,HP.out k hk⟩) HK6.out ⟨HGLT.out,HGLT.out⟩ k hk).1 h1.symm)
         ·rw[HS'.out];exact HX6.out.chK (k:=3) (by omega) rfl _
         ·exact HB6.out.setCell (by have:=HGG.out;show w.heap.size≤gw;omega) _
         ·exact fun k hk=>(zaq (a:=gw) (b:=gw) (fun k hk=>⟨HP.out k hk,HP.out k hk⟩) HK6.out ⟨HGLT.out,HGLT.out⟩ k hk).1
        case measure=>simp[intOf];try omega
     ·have hj5:j=4:=by omega
      subst hj5;obtain⟨x0,x1,x2,x3,x4⟩:=HX.out.cells;go_wp2_with (at_builtin;go_loud (refine zac _ rfl _ _ rfl w.heap.size _ G [x] _ 1 1 rfl rfl (HO.out.alloc _) (zba _ _ x HXW.out rfl) rfl (fun e=>by cases e) (by rw[←HM.out];omega) (by have:=HBS.out;simp;omega) ?_;intro v6 w6 ho6 hg6 hk6;obtain⟨A6,c6,hv6,-,-,-⟩:=ho6.shape;rw[List.length_append,←HM.out,List.length_singleton] at hv6;subst hv6;have HO6:=Hh ho6;have HB6:=Hh ((HB2.out.alloc HBS.out _).grown hg6 (by have:=HBS.out;simp;omega) (fun k hk=>(HO.out.lt k hk).1));clear ho6 hg6 hk6));have HMM:=Hh (show m2=M by have h1:=HN2.out.size;rw[HWF.out,←HG.out,List.length_append,←HM.out,List.length_singleton] at h1;omega);go_roundw
      case rel=>exact⟨d,M,zcw g,_,_,_,_,_,rfl,rfl,rfl,rfl,rfl,rfl,by rw[HWF.out,←HG.out,←HXX.out];exact HO6.out,HB6.out,by rw[←HMM.out];exact HN2.out⟩
      case measure =>
       have h3:=HN2.out.len;have h4:=HL.out;have h5:=HMM.out;show p+10000-(M+1)<p+10000-(m+1);omega
end Go.Proofs.YtfjajpnfjjdnpaaGreatDoor
