import Derived.Test.YtfjajpnfjjdnpaaGreatDoorWClPg
import Derived.Test.YtfjajpnfjjdnpaaGreatDoorWClPl
import Derived.Test.YtfjajpnfjjdnpaaGreatDoorWClLs

set_option linter.unusedVariables false
set_option linter.unusedSimpArgs false
set_option maxRecDepth 100000
set_option maxHeartbeats 6400000
namespace Go.Proofs.YtfjajpnfjjdnpaaGreatDoor
open Nds
theorem znB {L:List Cl}{m:Nat}(hL:Fine L)(h9:m≤1328)(hin:∀c∈L,inL c (m+1)=true) :
  okB (zay (m+1) [] (-p2 m) (-p2 m) L).1 (zay (m+1) [] (-p2 m) (-p2 m) L).2=true∧zaX L (ofQ (zay (m+1) [] (-p2 m) (-p2 m) L).1 (zay (m+1) [] (-p2 m) (-p2 m) L).2):=by
 have hsq:∀c∈L,sqB (-p2 m) (-p2 m) (p2 (m+1)) c=true:=fun c hc=>by
  have h1:=hin c hc;unfold inL inH at h1;simp only[Nat.add_sub_cancel,Bool.and_eq_true,decide_eq_true_iff] at h1;have h2:=zau m;exact zbf.2 (by omega)
 have hp:=zcL (m+1) [] (-p2 m) (-p2 m) L (by omega) rfl hL hsq;obtain⟨r,hr⟩:∃r,r=zay (m+1) [] (-p2 m) (-p2 m) L:=⟨_,rfl⟩;rw[←hr] at hp ⊢;have hne:(((m+1:Nat)):Int)+1≠1:=by omega
 have hk:0≤r.2∧r.2≤(r.1.length:Int):=by
  rcases zaA hne hp.kid with e|⟨q,e,hq,_⟩
  ·rw[e];omega
  ·rw[e];omega
 have hok:okB r.1 r.2=true:=by
  unfold okB;rw[hp.loose,decide_eq_true hk];rfl
 refine⟨hok,?_⟩;unfold ofQ;rw[if_pos hok];refine zhO hp.loose (by omega) fun x y=>?_;have hw:=hp.wf;have hc:=hp.cells (x+p2 m) (y+p2 m);rw[zaB hne] at hw hc;rw[show x+p2 m + -p2 m=x by omega,show y+p2 m + -p2 m=y by omega] at hc;rw[←hc];generalize den r.1 r.2.toNat=t at hw;cases t with
 | e=>rfl
 | s k =>
  have:=hw.1;omega
 | n v a b c d =>
  have e:(((m+1:Nat)):Int)=v:=hw.1;subst e;show zae _ _ _=_;rw[show(Tr.n ((m+1:Nat):Int) a b c d).lv.toNat-1=m from by show(((m+1:Nat)):Int).toNat-1=m;omega]
end Go.Proofs.YtfjajpnfjjdnpaaGreatDoor

namespace Go.Proofs.YtfjajpnfjjdnpaaGreatDoor
open Go.RowKit Nds Num
theorem Ns.boxed {w:World}{A A0:Option Addr}{c n0 c0 g:Nat}{l:List Nd}{u:Value}{t:TypeId}(h:Ns w A c l)(hb:w.heap[g]?=some (.cells #[.slice A0 n0 c0] t)):Ns (w.setCell ⟨g,0,none⟩ u) A c l :=
 ⟨h.1,h.2.1,h.2.2.1,fun h0=>by
  obtain⟨b,off,e,hlt,hc⟩:=h.2.2.2 h0;have hne:b≠g:=fun e2=>by
   subst e2;have h1:=(hc 0 h0).1;rw[cell_of_row w b _ _ _ (0,0) hb] at h1;rcases off with _|off
   ·simp at h1
   ·simp at h1
  exact⟨b,off,e,by simpa [World.setCell] using hlt,fun i hi=>(hc i hi).below (Below.heap_setCell w ⟨g,0,none⟩ u b hne)⟩⟩
def zvz (l:List Cv)(w:World)(e:Ending)(w':World):Prop :=
 ∃A' c' qn q er,e=.returned (.tuple #[.agg #[.slice A' qn c'],.int .i64 er])∧q.length=qn∧Ns w' A' c' q∧(A'=none→c'=0)∧Below w.heap.size w w' ∧
  (l.all okC=false→er=1∧q=[])∧(l.all okC=true→(1329<zcx (zaP (l.map Cv.cl))→er=4∧q=[])∧(zcx (zaP (l.map Cv.cl))≤1329→er=0∧zaX (zaP (l.map Cv.cl)) q))
theorem zpz {l:List Cv}{w0 wr w5:World}{x:Cv}(hbb:Below w0.heap.size w0 wr)(hb5:Below wr.heap.size wr w5)(hx:x∈l)(hok:okC x=false) :
  zvz l w0 (.returned (.tuple #[.agg #[.slice none 0 0],.int .i64 1])) (w5.setCell ⟨w0.heap.size,0,none⟩ (.slice none 0 0)):=by
 refine⟨none,0,0,[],1,rfl,rfl,zmg _,fun _=>rfl,(hbb.trans (hb5.mono hbb.size)).setCell (Nat.le_refl _) _,fun _=>⟨rfl,rfl⟩,fun h=>?_⟩;have:=List.all_eq_true.1 h x hx;rw[hok] at this;cases this
theorem zup (A:Option Addr)(c n:Nat)(l:List Cv)(w:World)(h:Cs w A c l)(hn:l.length=n)(hn9:n≤600)(hln:∀v∈l,v.xs.length≤60000∧v.ys.length≤60000) :
  Calls Tryz.prog 96 #[.slice A n c] w (zvz l w):=by
 have hcap:=h.cap;rw[hn] at hcap;obtain⟨W,hW⟩:∃W:World,W=w.alloc (.cells #[.slice none 0 0] 28):=⟨_,rfl⟩;have hb:Below w.heap.size w W:=by rw[hW];exact(Below.refl _ w).alloc (Nat.le_refl _) _
 have hq:W.heap[w.heap.size]?=some (.cells #[.slice none 0 0] 28):=by rw[hW];exact heap_alloc_new w _
 have HWL:=Hh (show w.heap.size<W.heap.size by rw[hW];simp);have HC:=Hh h;have HN:=Hh hn;have HL:=Hh hln;have HW:=Hh hW;have HB:=Hh hb;have HQ:=Hh hq;clear h hn hln hW hb hq;go_enter Tryz.func96,Tryz.ntmps96;go_wp2_with fail;go_loopw [4] (fun z wr=>∃(k:Nat),k≤n∧z=.int .i64 k∧(∀j,j<k→okC (cat l j)=true)∧Below w.heap.size w wr∧wr.heap[w.heap.size]?=some (.cells #[.slice none 0 0] 28)) (fun z _=>n-(intOf z).toNat)
 case atStart=>exact⟨0,by omega,rfl,fun j hj=>by omega,by rw[←HW.out];exact HB.out,by rw[←HW.out];exact HQ.out⟩
 case round =>
  obtain⟨k,hk,rfl,hall,hbb,hqq⟩:=hrel;have HAL:=Hh hall;have HBB:=Hh hbb;have HQQ:=Hh hqq;have g0:=zab hqq;have g1:=zbJ hqq;by_cases hlt:k<n
  ·have i1:(k:Int)<(n:Int):=by omega
   have i2:(0:Int)≤(k:Int):=by omega
   have t1:decide ((k:Int)<(n:Int))=true:=decide_eq_true i1;obtain⟨b,off,rfl,hbl,hcl⟩:=(HC.out.below hbb).at_ (by rw[HN.out];omega)
   have hcv:=hcl k (by rw[HN.out];exact hlt);have hxl:=zda (l:=l) (i:=k) (by rw[HN.out];exact hlt);have hxu:=(HC.out.below hbb).1 _ hxl;have hln:=HL.out _ hxl;obtain⟨x,hx⟩:∃x,x=cat l k:=⟨_,rfl⟩;rw[←hx] at hcv hxu hln hxl;have HCV:=Hh hcv;obtain⟨c1_,c2_,c3_,c4_,c5_⟩:=hcv;have hv1:=hxu.1.cap;have hv2:=hxu.2.1.cap;have HXX:=Hh hx;have HXL:=Hh hxl;have HLN:=Hh hln;have HXU:=Hh hxu;have hgl:=zao g0;dsimp only at hgl;obtain⟨rX,hrX⟩:∃r,r=zdO x.sx x.xs:=⟨_,rfl⟩;obtain⟨rY,hrY⟩:∃r,r=zdO x.sy x.ys:=⟨_,rfl⟩;have HRX:=Hh hrX;have HRY:=Hh hrY;have HOK:=Hh (show okC x=(rX&&rY) by unfold okC;rw[←hrX,←hrY]);clear hx hxl hxu hcl hrX hrY hbb hqq hln;cases rX with
   | false =>
    go_wp2_with (go_at_call 77;go_loud (refine(zcc x.sx x.ax x.cx x.xs _ HXU.out.1 HLN.out.1).mono ?_;rintro e w5 ⟨rfl,b5⟩;rw[←HRX.out];have HB5:=Hh b5;have q0:=zab ((b5.block w.heap.size hgl).trans HQQ.out);have q1:=zbJ ((b5.block w.heap.size hgl).trans HQQ.out);clear b5));have e1:=World.cell?_setCell_same _ _ (.slice none 0 0) q0;exact bodyPost_ret (v:=.tuple #[.agg #[.slice none 0 0],.int .i64 1]) (by simp[results,Tryz.results96,go_sem,e1]) rfl (zpz HBB.out HB5.out HXL.out (HOK.out.trans rfl))
   | true =>
    have sX:=Hh True.intro;cases rY with
    | false =>
     go_wp2_with (first
      | (have _t:=sX;go_at_call 77;clear _t;go_loud (clear sX;have sY:=Hh True.intro;refine(zcc x.sx x.ax x.cx x.xs _ HXU.out.1 HLN.out.1).mono ?_;rintro e w5 ⟨rfl,b5⟩;rw[←HRX.out];have HB5:=Hh b5;have HXU5:=Hh (HXU.out.below b5);obtain⟨k0_,k1_,k2_,k3_,k4_⟩:=HCV.out.below (b5.block b (World.block_lt_of_cell? wr _ HCV.out.1));clear b5))
      | (have _t:=sY;go_at_call 77;clear _t;go_loud (clear sY;refine(zcc x.sy x.ay x.cy x.ys _ HXU5.out.2.1 HLN.out.2).mono ?_;rintro e w6 ⟨rfl,b6⟩;rw[←HRY.out];have HB6:=Hh (HB5.out.trans (b6.mono HB5.out.size));have q0:=zab ((HB6.out.block w.heap.size hgl).trans HQQ.out);have q1:=zbJ ((HB6.out.block w.heap.size hgl).trans HQQ.out);clear b6)))
     have e1:=World.cell?_setCell_same _ _ (.slice none 0 0) q0;exact bodyPost_ret (v:=.tuple #[.agg #[.slice none 0 0],.int .i64 1]) (by simp[results,Tryz.results96,go_sem,e1]) rfl (zpz HBB.out HB6.out HXL.out (HOK.out.trans rfl))
    | true =>
     go_wp2_with (first
      | (have _t:=sX;go_at_call 77;clear _t;go_loud (clear sX;have sY:=Hh True.intro;refine(zcc x.sx x.ax x.cx x.xs _ HXU.out.1 HLN.out.1).mono ?_;rintro e w5 ⟨rfl,b5⟩;rw[←HRX.out];have HB5:=Hh b5;have HXU5:=Hh (HXU.out.below b5);obtain⟨k0_,k1_,k2_,k3_,k4_⟩:=HCV.out.below (b5.block b (World.block_lt_of_cell? wr _ HCV.out.1));clear b5))
      | (have _t:=sY;go_at_call 77;clear _t;go_loud (clear sY;refine(zcc x.sy x.ay x.cy x.ys _ HXU5.out.2.1 HLN.out.2).mono ?_;rintro e w6 ⟨rfl,b6⟩;rw[←HRY.out];have HB6:=Hh (HB5.out.trans (b6.mono HB5.out.size));clear b6)))
     go_roundw
     case rel=>exact⟨k+1,by omega,by go_num,fun j hj=>by
      rcases Nat.lt_or_ge j k with h|h
      ·exact HAL.out j h
      ·have:j=k:=by omega
       subst this;rw[←HXX.out,HOK.out];rfl,HBB.out.trans (HB6.out.mono HBB.out.size),(HB6.out.block w.heap.size hgl).trans HQQ.out⟩
     case measure=>simp[intOf];omega
  ·obtain rfl:k=n:=by omega
   have t1:decide ((k:Int)<(k:Int))=false:=decide_eq_false (by omega);have hok:l.all okC=true:=List.all_eq_true.2 fun v hv=>by
    obtain⟨j,hj,rfl⟩:=List.getElem_of_mem hv;have:=hall j (by have:=HN.out;omega)
    rwa [ziH hj] at this
   have hR:∀v∈l,CvR v:=fun v hv=>by
    have h1:=List.all_eq_true.1 hok v hv;unfold okC at h1;obtain⟨h2,h3⟩:=Bool.and_eq_true_iff.1 h1;exact⟨zcz h2,zcz h3,HL.out v hv⟩
   have HR:=Hh hR;have HOKL:=Hh hok;have HST:=Hh (show ∀u∈l,u.st≤255 from fun u hu=>(HC.out.1 u hu).2.2);clear hR hok hall hbb hqq;have hgl:=zao g0;dsimp only at hgl;clear g0 g1;obtain⟨wo,hwo⟩:∃wo,wo=wr:=⟨_,rfl⟩;subst hwo;go_wp2_with (go_at_call 110;go_loud (refine(znx A c k l _ (HC.out.below HBB.out) HN.out HR.out (by omega)).mono ?_;rintro e w5 ⟨v5,M,rfl,ml5,in5,o5,b5⟩;obtain⟨A5,c5,hv5,cs5,-,-⟩:=o5.cs (fun u hu=>((HC.out.below HBB.out).below b5).1 u (in5 u hu));obtain⟨p,hp⟩:∃p,M.length=p:=⟨_,rfl⟩;rw[hp] at hv5;subst hv5;have cp5:=cs5.cap;rw[hp] at cp5;have hp9:=(show p≤600 by have h1:=congrArg List.length ml5;rw[List.length_map] at h1;have h2:=zmp (l.map Cv.cl);rw[List.length_map,HN.out] at h2;omega);have HPL:=Hh hp;have CS5:=Hh cs5;have IN5:=Hh in5;have ML5:=Hh ml5;have B5:=Hh b5;have Q5:=Hh ((b5.block w.heap.size hgl).trans HQQ.out);clear ml5 in5 o5 b5 cs5 hp));go_loopw [7,6] (fun z z6 wr=>∃(i lv:Nat),i≤p∧z=.int .i64 i∧z6=.int .i64 lv∧lv=zcx ((M.take i).map Cv.cl)∧1≤lv∧lv≤1330∧Below w5.heap.size w5 wr) (fun z _ _=>p-(intOf z).toNat)
   case atStart=>exact⟨0,1,by omega,rfl,rfl,rfl,by omega,by omega,Below.refl _ _⟩
   case round =>
    obtain⟨i,lv,hi,rfl,rfl,hlv,hl1,hl2,hbr⟩:=hrel;have HLV:=Hh hlv;have HBR:=Hh hbr;clear hlv hbr;by_cases hip:i<p
    ·have t2:decide ((i:Int)<(p:Int))=true:=decide_eq_true (by omega);have j1:(0:Int)≤(i:Int):=by omega
     have j2:(i:Int)<(p:Int):=by omega
     obtain⟨wi,hwi⟩:∃wi,wi=wr:=⟨_,rfl⟩;subst hwi;obtain⟨x,hx⟩:∃x,x=cat M i:=⟨_,rfl⟩;have hxm:x∈M:=by rw[hx];exact zda (by rw[HPL.out];exact hip)
     have HXM:=Hh hxm;have HX_:=Hh hx;have hxr:=HR.out x (IN5.out x hxm);have HXR:=Hh hxr;obtain⟨b,off,rfl,hb5,hcl5⟩:=CS5.out.at_ (by rw[HPL.out];omega)
     have hcv:=hcl5 i (by rw[HPL.out];exact hip);rw[←hx] at hcv;have HCV:=Hh hcv;clear hx hxm hxr hcl5 hcv;go_wp2_with fail;go_loopw [6] (fun z wq=>∃(lw:Nat),z=.int .i64 lw∧lv≤lw∧lw≤1330∧upL x.cl lw=upL x.cl lv∧Below w5.heap.size w5 wq) (fun z _=>1331-(intOf z).toNat)
     case atStart=>exact⟨lv,rfl,Nat.le_refl _,hl2,rfl,HBR.out⟩
     case round =>
      obtain⟨lw,rfl,hw1,hw2,hup,hbq⟩:=hrel;have HUP:=Hh hup;have HBQ:=Hh hbq;obtain⟨f1,f2,f3,f4,f5⟩:=HCV.out.below (hbq.block b (World.block_lt_of_cell? w5 _ HCV.out.1));have hxu:=(CS5.out.below hbq).1 x HXM.out;have HXU:=Hh hxu;have hv1:=hxu.1.cap;have hv2:=hxu.2.1.cap;clear hup hbq hxu;by_cases h9:lw≤1329
      ·have t3:decide ((lw:Int)≤1329)=true:=decide_eq_true (by omega);have t33:decide (lw≤1329)=true:=decide_eq_true h9;obtain⟨bw,hbw⟩:∃bw,bw=inL x.cl lw:=⟨_,rfl⟩;have HBW:=Hh hbw;clear hbw;cases bw with
       | true =>
        go_wp2_with (go_at_call 144;go_loud (refine(zgG x lw _ HXU.out HXR.out.2.2.1 HXR.out.2.2.2 (by omega) (by omega)).mono ?_;rintro e w7 ⟨rfl,b7⟩;rw[←HBW.out];have B7:=Hh (HBQ.out.trans (b7.mono HBQ.out.size));clear b7));go_roundw
        case rel =>
         refine⟨i+1,lw,by omega,by go_num,rfl,?_,by omega,by omega,B7.out⟩;rw[zgE (by rw[HPL.out];exact hip),←HX_.out,←HLV.out,←HUP.out,ziJ HBW.out.symm]
        case measure=>simp[intOf];omega
       | false =>
        go_wp2_with (go_at_call 144;go_loud (refine(zgG x lw _ HXU.out HXR.out.2.2.1 HXR.out.2.2.2 (by omega) (by omega)).mono ?_;rintro e w7 ⟨rfl,b7⟩;rw[←HBW.out];have B7:=Hh (HBQ.out.trans (b7.mono HBQ.out.size));clear b7));go_roundw
        case rel =>
         refine⟨lw+1,by go_num,by omega,by omega,?_,B7.out⟩;rw[←HUP.out,ziK h9 HBW.out.symm]
        case measure=>simp[intOf];omega
      ·have t3:decide ((lw:Int)≤1329)=false:=decide_eq_false (by omega);have t33:decide (lw≤1329)=false:=decide_eq_false h9;clear f1 f2 f3 f4 f5;go_wp2_with fail;go_roundw
       case rel =>
        refine⟨i+1,lw,by omega,by go_num,rfl,?_,by omega,by omega,HBQ.out⟩;rw[zgE (by rw[HPL.out];exact hip),←HX_.out,←HLV.out,←HUP.out,zkQ h9]
       case measure=>simp[intOf];omega
    ·obtain rfl:i=p:=by omega
     have t2:decide ((i:Int)<(i:Int))=false:=decide_eq_false (by omega);have hlv:=HLV.out;rw[List.take_of_length_le (by rw[HPL.out];exact Nat.le_refl _),ML5.out] at hlv;have HLV:=Hh hlv;have HQ6:=Hh ((HBR.out.block w.heap.size (Nat.lt_of_lt_of_le hgl B5.out.size)).trans Q5.out);have q0:=zab HQ6.out;have q1:=zbJ HQ6.out;have HBW:=Hh ((HBB.out.trans (B5.out.mono HBB.out.size)).trans (HBR.out.mono (Nat.le_trans HBB.out.size B5.out.size)));clear hlv;by_cases hbig:1329<lv
     ·have t3:decide ((lv:Int)>1329)=true:=decide_eq_true (by omega);have t4:decide (1329<(lv:Int))=true:=t3;have t5:decide (1329<lv)=true:=decide_eq_true hbig;go_wp2_with fail;have e1:=World.cell?_setCell_same _ _ (.slice none 0 0) q0;refine bodyPost_ret (v:=.tuple #[.agg #[.slice none 0 0],.int .i64 4]) (by simp[results,Tryz.results96,go_sem,e1]) rfl ?_;refine⟨none,0,0,[],4,rfl,rfl,zmg _,fun _=>rfl,HBW.out.setCell (Nat.le_refl _) _,fun h=>?_,fun _=>⟨fun _=>⟨rfl,rfl⟩,fun h=>?_⟩⟩
      ·rw[HOKL.out] at h;cases h
      ·have:=HLV.out;omega
     ·have t3:decide ((lv:Int)>1329)=false:=decide_eq_false (by omega);have t4:decide (1329<(lv:Int))=false:=t3;have t5:decide (1329<lv)=false:=decide_eq_false hbig;obtain⟨m,hm⟩:∃m,lv=m+1:=⟨lv-1,by omega⟩;subst hm;have hm9:m≤1328:=by omega
      have em:(((m+1:Nat)):Int)=(m:Int)+1:=by omega
      rw[em] at t3 t4 ⊢;have hq1:=zaM (show m+1≤1329 by omega);have hq2:=zar m;have hq3:=zau m;have hq4:p2 1330=p2 1329+p2 1329:=zau 1329;have HPM:=Hh (show -p2 1330≤p2 m∧p2 m≤p2 1330 from⟨by omega,by omega⟩);have HPC:=Hh (show -p2 1329 ≤ -p2 m∧-p2 m+p2 (m+1)≤p2 1329 from⟨by omega,by omega⟩);have CS6:=Hh (CS5.out.below HBR.out);clear hq1 hq2 hq3 hq4 em hbig;have hfine:Fine (M.map Cv.cl):=by
       rw[ML5.out];exact zfe fun c hc=>by
        obtain⟨u,hu,rfl⟩:=List.mem_map.1 hc;have h1:=HST.out u hu;show 0≤(u.st:Int)∧(u.st:Int)≤255;omega
      have hpq:=znB hfine hm9 (fun c hc=>by
       obtain⟨u,hu,rfl⟩:=List.mem_map.1 hc;exact zwn ML5.out HLV.out (by omega) hu)
      have hpl:=zbl (m+1) [] (-p2 m) (-p2 m) (M.map Cv.cl);rw[List.length_nil,Nat.zero_add,List.length_map,HPL.out] at hpl;have hmul:(m+1)*i≤1329*600:=Nat.mul_le_mul (by omega) hp9;obtain⟨N,hN⟩:∃N,N=(zay (m+1) [] (-p2 m) (-p2 m) (M.map Cv.cl)).1:=⟨_,rfl⟩;obtain⟨r,hr⟩:∃r,r=(zay (m+1) [] (-p2 m) (-p2 m) (M.map Cv.cl)).2:=⟨_,rfl⟩;rw[←hN,←hr] at hpq;rw[←hN] at hpl;obtain⟨nn,hnn⟩:∃nn,N.length=nn:=⟨_,rfl⟩;have hnn9:nn≤797400:=by omega
      obtain⟨q,hq⟩:∃q,q=ofQ N r:=⟨_,rfl⟩;have HQL:=Hh (zui N r);have HOE:=Hh (show ofE N r=0 by unfold ofE;rw[if_pos hpq.1]);have HQO:=Hh (show zaX (zaP (l.map Cv.cl)) q by rw[hq,←ML5.out];exact hpq.2);have HRB:=Hh (show 0≤r∧r≤(nn:Int) by
       have h1:=hpq.1;unfold okB at h1;rw[Bool.and_eq_true,decide_eq_true_iff,hnn] at h1;exact h1.2)
      have HNN:=Hh hnn;have HN_:=Hh hN;have HR_:=Hh hr;have HQ_:=Hh hq;clear hN hr hq hnn hpq hpl hmul hfine;go_wp2_with (first
       | (go_at_call 109;go_loud (refine(zbL _ _).mono ?_;rintro e w9 ⟨A9,c9,s9,r9,rfl,u9,k9,v9,b9⟩;rw[zdT m (by omega)] at v9;have L9:=Hh (zbn k9 v9 HPM.out.1 HPM.out.2);have hcap9:=u9.cap;have U9:=Hh u9;have V9:=Hh v9;have B9:=Hh b9;clear u9 k9 v9 b9))
       | (go_at_call 108;go_loud (refine(zbB s9 A9 c9 r9 _ U9.out (by have:=L9.out;omega)).mono ?_;rintro e w10 ⟨A0,c0,s0,r0,rfl,u0,k0,v0,b0⟩;rw[V9.out] at v0;have hcap0:=u0.cap;have U0:=Hh u0;have K0:=Hh k0;have V0:=Hh v0;have B0:=Hh (B9.out.trans (b0.mono B9.out.size));have BL:=Hh ((Below.refl w10.heap.size w10).alloc (Nat.le_refl _) (.cells #[.bool s0,.slice A0 r0.length c0] 48));have hx:=(show HX (w10.alloc (.cells #[.bool s0,.slice A0 r0.length c0] 48)) w10.heap.size s0 A0 c0 r0 (-p2 m) from⟨heap_alloc_new w10 _,U0.out.below BL.out,K0.out,V0.out,fun h0 a ea=>by have:=zbQ U0.out h0 a ea;omega⟩);have x0:=hx.c0;have x1:=hx.c1;have HXX:=Hh hx;clear hx u0 k0 v0 b0))
       | (go_at_call 145;go_loud (refine(znA w10.heap.size m [] (.slice none 0 0) s0 A0 c0 r0 s0 A0 c0 r0 (-p2 m) (-p2 m) _ _ i M _ hm9 (zgH _ _) (by simp) HXX.out.us HXX.out.us HXX.out.cn HXX.out.cn HXX.out.v HXX.out.v HPC.out.1 HPC.out.2 HPC.out.1 HPC.out.2 ((CS6.out.below B0.out).below BL.out) HPL.out (fun u hu=>HR.out u (IN5.out u hu)) ⟨(fun q h=>by simp[Value.ownBlock] at h),(fun h0 a ea=>⟨zbQ HXX.out.us h0 a ea,by simp[Value.ownBlock]⟩),(fun h0 a ea=>⟨zbQ HXX.out.us h0 a ea,by simp[Value.ownBlock]⟩),(fun u hu=>⟨fun h0 a ea=>⟨zbQ (((CS6.out.below B0.out).below BL.out).1 u hu).1 h0 a ea,by simp[Value.ownBlock]⟩,fun h0 a ea=>⟨zbQ (((CS6.out.below B0.out).below BL.out).1 u hu).2.1 h0 a ea,by simp[Value.ownBlock]⟩⟩),(fun h0 a ea=>⟨by obtain⟨b8,o8,e8,h8,-⟩:=((CS6.out.below B0.out).below BL.out).at_ h0;rw[ea] at e8;cases e8;exact h8,by simp[Value.ownBlock]⟩)⟩ (by have h1:(m+1)*i≤1329*600:=Nat.mul_le_mul (by omega) hp9;simp;omega)).mono ?_;rintro e w11 ⟨v11,rfl,o11,-,ky11⟩;rw[←HN_.out] at o11;rw[←HR_.out];obtain⟨A11,c11,hv11,ns11,na11,-⟩:=o11.shape;rw[HNN.out] at hv11;subst hv11;have cp11:=ns11.cap;rw[HNN.out] at cp11;have NS11:=Hh ns11;have NA11:=Hh na11;have B11:=Hh ((B0.out.trans (BL.out.mono B0.out.size)).trans ((ky11.to (Nat.le_refl _) (fun q h=>by simp[Value.ownBlock] at h)).mono (Nat.le_trans B0.out.size BL.out.size)));clear o11 ns11 na11 ky11))
       | (go_at_call 46;go_loud (refine(zvs A11 c11 nn N r q q.length 0 _ NS11.out HNN.out (by omega) NA11.out HQ_.out.symm rfl HOE.out).mono ?_;rintro e w12 ⟨A12,c12,rfl,n12,a12,b12⟩;have hc12:=n12.cap;have N12:=Hh n12;have A12':=Hh a12;have B12:=Hh (B11.out.trans (b12.mono B11.out.size));have Q12:=Hh ((B12.out.block w.heap.size (Array.getElem?_eq_some_iff.1 HQ6.out).1).trans HQ6.out);have q2:=zab Q12.out;have q3:=zbJ Q12.out;clear n12 a12 b12 q0 q1)))
      have e1:=World.cell?_setCell_same _ _ (.slice A12 q.length c12) q2;refine bodyPost_ret (v:=.tuple #[.agg #[.slice A12 q.length c12],.int .i64 0]) (by simp[results,Tryz.results96,go_sem,e1]) rfl ?_;refine⟨A12,c12,_,q,0,rfl,rfl,N12.out.boxed Q12.out,A12'.out,(HBW.out.trans (B12.out.mono HBW.out.size)).setCell (Nat.le_refl _) _,fun h=>?_,fun _=>⟨fun h=>?_,fun _=>⟨rfl,HQO.out⟩⟩⟩
      ·rw[HOKL.out] at h;cases h
      ·have:=HLV.out;omega
end Go.Proofs.YtfjajpnfjjdnpaaGreatDoor

namespace Go.Proofs.YtfjajpnfjjdnpaaGreatDoor
open Go.RowKit Num
def inI (x:Int):Bool:=decide (-9223372036854775808≤x∧x≤9223372036854775807)
def outI (x:Int):Int:=if inI x=true then x else 0
theorem zpA {x:Int}(h : -9223372036854775808≤x∧x≤9223372036854775807):inI x=true∧outI x=x:=by
 have:inI x=true:=decide_eq_true h;exact⟨this,by unfold outI;rw[if_pos this]⟩
theorem zpB {x:Int}(h:¬ (-9223372036854775808≤x∧x≤9223372036854775807)):inI x=false∧outI x=0:=by
 have:inI x=false:=decide_eq_false h;exact⟨this,by unfold outI;rw[this];rfl⟩
theorem ziT (n:Int)(w:World) :
  Calls Tryz.prog 209 #[.int .i64 n,.bool true] w fun e w'=>e=.returned (.tuple #[.int .i64 n,.bool true])∧w=w':=by
 go_enter Tryz.func209,Tryz.ntmps209;go_wp2;go_ret2;exact⟨rfl,rfl⟩
theorem zpC (n:Int)(w:World) :
  Calls Tryz.prog 209 #[.int .i64 n,.bool false] w fun e w'=>e=.returned (.tuple #[.int .i64 0,.bool false])∧w=w':=by
 go_enter Tryz.func209,Tryz.ntmps209;go_wp2;go_ret2;exact⟨rfl,rfl⟩
theorem zmr (v:Nat)(w:World) :
  Calls Tryz.prog 209 #[.int .i64 (wrap64 (v:Int)),.bool (decide ((v:Int)≤9223372036854775807))] w fun e w'=>e=.returned (.tuple #[.int .i64 (outI v),.bool (inI v)])∧w=w':=by
 by_cases h:(v:Int)≤9223372036854775807
 ·obtain⟨h1,h2⟩:=zpA (x:=v) ⟨by omega,h⟩;rw[decide_eq_true h,h1,h2,IntWalk.wrap64_in _ ⟨by omega,h⟩];exact ziT _ w
 ·obtain⟨h1,h2⟩:=zpB (x:=v) (by omega);rw[decide_eq_false h,h1,h2];exact zpC _ w
theorem zms (v:Nat)(w:World) :
  Calls Tryz.prog 209 #[.int .i64 (wrap64 (-wrap64 (v:Int))),.bool (decide ((v:Int)≤9223372036854775808))] w fun e w'=>e=.returned (.tuple #[.int .i64 (outI (-v)),.bool (inI (-v))])∧w=w':=by
 by_cases h:(v:Int)≤9223372036854775808
 ·obtain⟨h1,h2⟩:=zpA (x := -v) ⟨by omega,by omega⟩;have e:wrap64 (-wrap64 (v:Int)) = -v:=by unfold wrap64;omega
  rw[decide_eq_true h,h1,h2,e];exact ziT _ w
 ·obtain⟨h1,h2⟩:=zpB (x := -v) (by omega);rw[decide_eq_false h,h1,h2];exact zpC _ w
theorem zgN (a:Nat)(ha:a<4294967296):bits .or .u64 0 (a:Int)=(a:Int):=by
 have e:=u64_or_nat 0 a (by decide) (by omega);rw[Nat.zero_or] at e;exact e
theorem znC (a b:Nat)(ha:a<4294967296)(hb:b<4294967296):bits .or .u64 (bits .or .u64 0 (a:Int)) ((b:Int)*4294967296)=((val [a,b]:Nat):Int):=by
 have e:=u64_or_nat a (b*4294967296) (by omega) (by omega);rw[zgN a ha,show((b:Int)*4294967296)=((b*4294967296:Nat):Int) by simp,e];rw[Nat.or_comm,nat_join 32 _ _ (by simp) ha];simp only[val];omega
theorem zsh (s:Bool)(A:Option Addr)(c:Nat)(a b:Nat)(w:World)(h:Us w A c [a,b]) :
  Calls Tryz.prog 163 #[.agg #[.bool s,.slice A 2 c]] w fun e w'=>e=.returned (.tuple #[.int .i64 (outI (ival s [a,b])),.bool (inI (ival s [a,b]))])∧Below w.heap.size w w':=by
 obtain⟨hX,hB⟩:=box1 w (.bool s) (.slice A 2 c) 48;have h1:=h.below hB;obtain⟨g,off,rfl,hg,hc⟩:=h1.at_ (by simp)
 have c0:=hc 0 (by simp);have c1:=hc 1 (by simp);simp only[List.getElem?_cons_zero,List.getElem?_cons_succ,Option.getD_some,Nat.add_zero] at c0 c1;have ha:=h.1.head;have hb:=h.1.tail.head;have HB:=Hh hB;clear hc h h1 hX hB;unfold ival;have HE:=Hh (znC a b ha hb);generalize val [a,b]=v at *;go_enter Tryz.func163,Tryz.ntmps163;go_wp2_with fail;refine wp_loop_rounds 3 ?_;rw[rounds_succ];go_wp2_with fail;rw[rounds_succ];go_wp2_with fail;rw[rounds_succ];cases s
 ·go_wp2_with (go_at_call 209;rw[HE.out];refine(zmr v _).mono ?_;rintro e w' ⟨rfl,rfl⟩);go_ret2;exact⟨rfl,HB.out⟩
 ·go_wp2_with (go_at_call 209;rw[HE.out];refine(zms v _).mono ?_;rintro e w' ⟨rfl,rfl⟩);go_ret2;exact⟨rfl,HB.out⟩
theorem zsi (s:Bool)(A:Option Addr)(c:Nat)(a:Nat)(w:World)(h:Us w A c [a]) :
  Calls Tryz.prog 163 #[.agg #[.bool s,.slice A 1 c]] w fun e w'=>e=.returned (.tuple #[.int .i64 (outI (ival s [a])),.bool (inI (ival s [a]))])∧Below w.heap.size w w':=by
 obtain⟨hX,hB⟩:=box1 w (.bool s) (.slice A 1 c) 48;have h1:=h.below hB;obtain⟨g,off,rfl,hg,hc⟩:=h1.at_ (by simp)
 have c0:=hc 0 (by simp);simp only[List.getElem?_cons_zero,List.getElem?_cons_succ,Option.getD_some,Nat.add_zero] at c0;have ha:=h.1.head;have HB:=Hh hB;clear hc h h1 hX hB;have ev:val [a]=a:=by simp[val]
 unfold ival;rw[ev];have HE:=Hh (zgN a ha);clear ev;go_enter Tryz.func163,Tryz.ntmps163;go_wp2_with fail;refine wp_loop_rounds 2 ?_;rw[rounds_succ];go_wp2_with fail;rw[rounds_succ];cases s
 ·go_wp2_with (go_at_call 209;rw[HE.out];refine(zmr a _).mono ?_;rintro e w' ⟨rfl,rfl⟩);go_ret2;exact⟨rfl,HB.out⟩
 ·go_wp2_with (go_at_call 209;rw[HE.out];refine(zms a _).mono ?_;rintro e w' ⟨rfl,rfl⟩);go_ret2;exact⟨rfl,HB.out⟩
theorem zpD (s:Bool)(A:Option Addr)(c:Nat)(w:World) :
  Calls Tryz.prog 163 #[.agg #[.bool s,.slice A 0 c]] w fun e w'=>e=.returned (.tuple #[.int .i64 (outI 0),.bool (inI 0)])∧Below w.heap.size w w':=by
 obtain⟨hX,hB⟩:=box1 w (.bool s) (.slice A 0 c) 48;have HB:=Hh hB;clear hX hB;go_enter Tryz.func163,Tryz.ntmps163;go_wp2_with fail;refine wp_loop_rounds 1 ?_;rw[rounds_succ];cases s
 all_goals
  go_wp2_with (go_at_call 209;refine(ziT 0 _).mono ?_;rintro e w' ⟨rfl,rfl⟩);go_ret2;exact⟨rfl,HB.out⟩
theorem zpE (s:Bool)(A:Option Addr)(c n:Nat)(w:World)(hn:2<n)(hc:n≤9223372036854775807) :
  Calls Tryz.prog 163 #[.agg #[.bool s,.slice A n c]] w fun e w'=>e=.returned (.tuple #[.int .i64 0,.bool false])∧Below w.heap.size w w':=by
 obtain⟨hX,hB⟩:=box1 w (.bool s) (.slice A n c) 48;have HB:=Hh hB;clear hX hB;go_enter Tryz.func163,Tryz.ntmps163;go_wp2_with fail;go_ret2;exact⟨rfl,HB.out⟩
theorem zmt (s:Bool)(A:Option Addr)(c:Nat)(xs:List Nat)(w:World)(h:Us w A c xs)(hc:zaI xs) :
  Calls Tryz.prog 163 #[.agg #[.bool s,.slice A xs.length c]] w fun e w'=>e=.returned (.tuple #[.int .i64 (outI (ival s xs)),.bool (inI (ival s xs))])∧Below w.heap.size w w':=by
 rcases xs with _|⟨a,_|⟨b,_|⟨d,r⟩⟩⟩
 ·rw[zfG];exact zpD s A c w
 ·exact zsi s A c a w h
 ·exact zsh s A c a b w h
 ·have hge:=zfD hc (by simp);have h2:(4294967296:Nat)^2≤4294967296^((a :: b :: d :: r).length-1):=Nat.pow_le_pow_right (by decide) (by simp);have hv:=zfK s (a :: b :: d :: r);obtain⟨h1,h2⟩:=zpB (x:=ival s (a :: b :: d :: r)) (by omega);rw[h1,h2];exact zpE s A c _ w (by simp) (by have:=h.cap;omega)
end Go.Proofs.YtfjajpnfjjdnpaaGreatDoor

namespace Go.Proofs.YtfjajpnfjjdnpaaGreatDoor
open Go.RowKit Nds Num
theorem ziU (w:World)(g o p:Nat)(a b:Value):w.grownBy ((w.setCell ⟨g,o,none⟩ a).setCell ⟨g,p,none⟩ b) (some g):=ztm (zfT w g o a) (zfT _ g p b)
end Go.Proofs.YtfjajpnfjjdnpaaGreatDoor
