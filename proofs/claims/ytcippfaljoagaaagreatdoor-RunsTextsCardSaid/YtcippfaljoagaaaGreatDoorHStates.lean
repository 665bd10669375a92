import Derived.Test.YtcippfaljoagaaaGreatDoorHClLa

set_option linter.unusedVariables false
set_option linter.unusedSimpArgs false
set_option maxRecDepth 100000
set_option maxHeartbeats 6400000
namespace Go.Proofs.YtcippfaljoagaaaGreatDoor
open Go.RowKit Nds Num
def zvX (l:List Cv)(w:World)(e:Ending)(w':World):Prop :=
 ∃v out,e=.returned v∧out.map Cv.cl=zbC (l.map Cv.cl)∧(∀u∈out,u∈l)∧OwnC w' w.heap.size v out∧Below w.heap.size w w'
theorem znn (A:Option Addr)(c n:Nat)(l:List Cv)(w:World)(h:Cs w A c l)(hn:l.length=n)(hR:∀v∈l,CvR v)(hn9:n≤900000) :
  Calls Tryz.prog 98 #[.slice A n c] w (zvX l w):=by
 have hcap:=h.cap;rw[hn] at hcap;have HC:=Hh h;have HN:=Hh hn;have HR:=Hh hR;clear h hR hn;go_enter Tryz.func98,Tryz.ntmps98;go_wp2_with fail;go_loopw [4,3] (fun z v wr=>∃(i:Nat),i≤n∧z=.int .i64 i∧OwnC wr w.heap.size v (zeN (l.take i))∧Below w.heap.size w wr) (fun z _ _=>n-(intOf z).toNat)
 case atStart=>exact⟨0,Nat.zero_le _,rfl,OwnC.nil _ _,Below.refl _ _⟩
 case round =>
  obtain⟨i,hi,rfl,hown,hb⟩:=hrel;have HB:=Hh hb;obtain⟨hsp1,hsp2,hsp3⟩:=zhG l i (by rw[HN.out];exact hi);obtain⟨M,hM⟩:∃M,M=zeN (l.take i):=⟨_,rfl⟩;rw[←hM] at hown hsp2 hsp3;have HM:=Hh hM;have HIN:=Hh hsp2;have HOW:=Hh hown;obtain⟨m,hm⟩:∃m,m=M.length:=⟨_,rfl⟩;have hml:m≤900000:=by omega
  have HML:=Hh hm;have hcu:∀u∈l,CvU wr u:=fun u hu=>(HC.out.1 u hu).below hb;obtain⟨D,d,rfl,hcs,hD,hge⟩:=hown.cs (fun u hu=>hcu u (hsp2 u hu));have hsh:=HOW.out.shape;have HSG:=Hh (show ∀a,D=some a→∃g,a=⟨g,0,none⟩ from by
   obtain⟨A',c',e',-,-,-,h5⟩:=hsh;cases e';exact fun a ea=>by obtain⟨g,hg,_⟩:=h5 a ea;exact⟨g,hg⟩)
  rw[←hm] at HOW ⊢;have hcap2:=hcs.cap;rw[←hm] at hcap2;have HCS:=Hh hcs;have HD:=Hh (And.intro hD hge);have HCU:=Hh hcu;clear hsp1 hsp2 hsp3 hM hown hm hcu hcs hD hge hb hsh;by_cases hlt:i<n
  ·have i1:(i:Int)<(n:Int):=by omega
   have i2:(0:Int)≤(i:Int):=by omega
   have t1:decide ((i:Int)<(n:Int))=true:=decide_eq_true i1;obtain⟨b,off,rfl,hbl,hcl⟩:=(HC.out.below HB.out).at_ (by rw[HN.out];omega)
   have hcx:=hcl i (by rw[HN.out];exact hlt);have hmx:=zdj (l:=l) (i:=i) (by rw[HN.out];exact hlt);obtain⟨x,hx⟩:∃x,x=cat l i:=⟨_,rfl⟩;rw[←hx] at hcx hmx;have HXX:=Hh hx;have HXM:=Hh hmx;have hux:=HCU.out x hmx;have hrx:=HR.out x hmx;have p1:=hux.1.cap;have p2_:=hux.2.1.cap;have HCX:=Hh hcx;have HBL:=Hh hbl;have HLX:=Hh (And.intro hrx.2.2.1 hrx.2.2.2);have HUX:=Hh hux;clear hcl hcx hmx hx hrx hbl hux;go_wp2_with fail;go_loopw [5] (fun z wx=>∃p:Nat,p≤m∧z=.int .i64 p∧(∀j,j<p→ordC (cat M j) x<0)∧Below wr.heap.size wr wx) (fun z _=>m-(intOf z).toNat)
   case atStart=>exact⟨0,Nat.zero_le _,rfl,(fun j hj=>by omega),Below.refl _ _⟩
   case round =>
    obtain⟨p,hp,rfl,hall,hbb⟩:=hrel;have HA:=Hh hall;have HBB:=Hh hbb;clear hall hbb
    -- inner round
    by_cases hpm:p<m
    ·have k1:(p:Int)<(m:Int):=by omega
     have k2:(0:Int)≤(p:Int):=by omega
     have t2:decide ((p:Int)<(m:Int))=true:=decide_eq_true k1;obtain⟨g,og,rfl,hgl,hgc⟩:=(HCS.out.below HBB.out).at_ (by rw[←HML.out];omega)
     have hcy:=hgc p (by rw[←HML.out];exact hpm);have hmy:=zdj (l:=M) (i:=p) (by rw[←HML.out];exact hpm);obtain⟨y,hy⟩:∃y,y=cat M p:=⟨_,rfl⟩;rw[←hy] at hcy hmy;have HYY:=Hh hy;have HCY:=Hh hcy;have hyl:=HIN.out y hmy;have HYU:=Hh ((HCU.out y hyl).below HBB.out);have hry:=HR.out y hyl;have HLY:=Hh (And.intro hry.2.2.1 hry.2.2.2);have k3:=HYU.out.1.cap;have k4:=HYU.out.2.1.cap;have HUX2:=Hh (HUX.out.below HBB.out);have hbl2:=Nat.lt_of_lt_of_le HBL.out HBB.out.size;have HCX2:=Hh (HCX.out.below (HBB.out.block b HBL.out));have HGL:=Hh (And.intro hgl hbl2);obtain⟨r,hr⟩:∃r,r=ordC y x:=⟨_,rfl⟩;have HRr:=Hh hr;have HPM:=Hh hpm;clear hgc hcy hmy hy hyl hry hr hgl hbl2 hpm;by_cases hr0:r<0
     ·have t3:decide (r<0)=true:=decide_eq_true hr0;have HR0:=Hh hr0;clear hr0;go_wp2_with fail;have st:Below wr.heap.size wr wr.drew:=zaa (Below.refl _ wr) 1;have sy:=HCY.out.below ((Below.refl _ wr:Below wr.heap.size wr wr).block g HGL.out.1);have sx:=HCX2.out.below ((Below.refl _ wr:Below wr.heap.size wr wr).block b HGL.out.2);obtain⟨e1,e2,e3,e4,e5⟩:=sy;obtain⟨f1,f2,f3,f4,f5⟩:=sx;go_region_held3 (fun w'=>w'.cell? ⟨g,og+p*5,none⟩=some (.bool y.sx)∧w'.cell? ⟨g,og+p*5+1,none⟩=some (.slice y.ax y.xs.length y.cx)∧w'.cell? ⟨g,og+p*5+2,none⟩=some (.bool y.sy)∧w'.cell? ⟨g,og+p*5+3,none⟩=some (.slice y.ay y.ys.length y.cy)∧w'.cell? ⟨g,og+p*5+4,none⟩=some (.int .u8 y.st)∧w'.cell? ⟨b,off+i*5,none⟩=some (.bool x.sx)∧w'.cell? ⟨b,off+i*5+1,none⟩=some (.slice x.ax x.xs.length x.cx)∧w'.cell? ⟨b,off+i*5+2,none⟩=some (.bool x.sy)∧w'.cell? ⟨b,off+i*5+3,none⟩=some (.slice x.ay x.ys.length x.cy)∧w'.cell? ⟨b,off+i*5+4,none⟩=some (.int .u8 x.st))
       (first|go_keep|exact⟨e1,e2,e3,e4,e5,f1,f2,f3,f4,f5⟩)
       (first|(go_at_call 131;refine(zeJ y x _ (HYU.out.below st) (HUX2.out.below st) HLY.out.1 HLY.out.2 HLX.out.1 HLX.out.2).mono ?_;rintro e w2 ⟨rfl,b2⟩;rw[←HRr.out];have st2:=st.trans (b2.mono st.size);clear e1 e2 e3 e4 e5 f1 f2 f3 f4 f5;obtain⟨e1,e2,e3,e4,e5⟩:=HCY.out.below (st2.block g HGL.out.1);obtain⟨f1,f2,f3,f4,f5⟩:=HCX2.out.below (st2.block b HGL.out.2)))
      all_goals
       have ST2:=Hh st2;clear st2 st b2 e1 e2 e3 e4 e5 f1 f2 f3 f4 f5;go_wp2_with fail;go_roundw
       case rel =>
        refine⟨p+1,by have:=HPM.out;omega,by go_num,fun j hj=>?_,HBB.out.trans (ST2.out.mono HBB.out.size)⟩;rcases Nat.lt_or_ge j p with h1|h1
        ·exact HA.out j h1
        ·obtain rfl:j=p:=by omega
         rw[←HYY.out,←HRr.out];exact HR0.out
       case measure=>simp[intOf];omega
     ·have t3:decide (r<0)=false:=decide_eq_false hr0;have HR0:=Hh hr0;clear hr0;go_wp2_with fail;have st:Below wr.heap.size wr wr.drew:=zaa (Below.refl _ wr) 1;have sy:=HCY.out.below ((Below.refl _ wr:Below wr.heap.size wr wr).block g HGL.out.1);have sx:=HCX2.out.below ((Below.refl _ wr:Below wr.heap.size wr wr).block b HGL.out.2);obtain⟨e1,e2,e3,e4,e5⟩:=sy;obtain⟨f1,f2,f3,f4,f5⟩:=sx;go_region_held3 (fun w'=>w'.cell? ⟨g,og+p*5,none⟩=some (.bool y.sx)∧w'.cell? ⟨g,og+p*5+1,none⟩=some (.slice y.ax y.xs.length y.cx)∧w'.cell? ⟨g,og+p*5+2,none⟩=some (.bool y.sy)∧w'.cell? ⟨g,og+p*5+3,none⟩=some (.slice y.ay y.ys.length y.cy)∧w'.cell? ⟨g,og+p*5+4,none⟩=some (.int .u8 y.st)∧w'.cell? ⟨b,off+i*5,none⟩=some (.bool x.sx)∧w'.cell? ⟨b,off+i*5+1,none⟩=some (.slice x.ax x.xs.length x.cx)∧w'.cell? ⟨b,off+i*5+2,none⟩=some (.bool x.sy)∧w'.cell? ⟨b,off+i*5+3,none⟩=some (.slice x.ay x.ys.length x.cy)∧w'.cell? ⟨b,off+i*5+4,none⟩=some (.int .u8 x.st))
       (first|go_keep|exact⟨e1,e2,e3,e4,e5,f1,f2,f3,f4,f5⟩)
       (first|(go_at_call 131;refine(zeJ y x _ (HYU.out.below st) (HUX2.out.below st) HLY.out.1 HLY.out.2 HLX.out.1 HLX.out.2).mono ?_;rintro e w2 ⟨rfl,b2⟩;rw[←HRr.out];have st2:=st.trans (b2.mono st.size);clear e1 e2 e3 e4 e5 f1 f2 f3 f4 f5;obtain⟨e1,e2,e3,e4,e5⟩:=HCY.out.below (st2.block g HGL.out.1);obtain⟨f1,f2,f3,f4,f5⟩:=HCX2.out.below (st2.block b HGL.out.2)))
      all_goals
       have ST2:=Hh st2;clear st2 st b2 e1 e2 e3 e4 e5 f1 f2 f3 f4 f5;by_cases hr00:r=0
       ·have HR00:=Hh hr00;have t4:(r==0)=true:=by rw[hr00];rfl
        clear hr00;go_wp2_with fail;have st:Below wr.heap.size wr w2.drew:=zaa (ST2.out) 1;have sy:=HCY.out.below ((ST2.out:Below wr.heap.size wr w2).block g HGL.out.1);have sx:=HCX2.out.below ((ST2.out:Below wr.heap.size wr w2).block b HGL.out.2);obtain⟨e1,e2,e3,e4,e5⟩:=sy;obtain⟨f1,f2,f3,f4,f5⟩:=sx;go_region_held3 (fun w'=>w'.cell? ⟨g,og+p*5,none⟩=some (.bool y.sx)∧w'.cell? ⟨g,og+p*5+1,none⟩=some (.slice y.ax y.xs.length y.cx)∧w'.cell? ⟨g,og+p*5+2,none⟩=some (.bool y.sy)∧w'.cell? ⟨g,og+p*5+3,none⟩=some (.slice y.ay y.ys.length y.cy)∧w'.cell? ⟨g,og+p*5+4,none⟩=some (.int .u8 y.st)∧w'.cell? ⟨b,off+i*5,none⟩=some (.bool x.sx)∧w'.cell? ⟨b,off+i*5+1,none⟩=some (.slice x.ax x.xs.length x.cx)∧w'.cell? ⟨b,off+i*5+2,none⟩=some (.bool x.sy)∧w'.cell? ⟨b,off+i*5+3,none⟩=some (.slice x.ay x.ys.length x.cy)∧w'.cell? ⟨b,off+i*5+4,none⟩=some (.int .u8 x.st))
         (first|go_keep|exact⟨e1,e2,e3,e4,e5,f1,f2,f3,f4,f5⟩)
         (first|(go_at_call 131;refine(zeJ y x _ (HYU.out.below st) (HUX2.out.below st) HLY.out.1 HLY.out.2 HLX.out.1 HLX.out.2).mono ?_;rintro e w3 ⟨rfl,b2⟩;rw[←HRr.out];have st2:=st.trans (b2.mono st.size);clear e1 e2 e3 e4 e5 f1 f2 f3 f4 f5;obtain⟨e1,e2,e3,e4,e5⟩:=HCY.out.below (st2.block g HGL.out.1);obtain⟨f1,f2,f3,f4,f5⟩:=HCX2.out.below (st2.block b HGL.out.2)))
        all_goals
         have ST3:=Hh st2;clear st2 st b2 e1 e2 e3 e4 e5 f1 f2 f3 f4 f5;have hpm:=HPM.out;have hml2:=HML.out;have CUM:=Hh (show ∀W',Below wr.heap.size wr W'→∀u∈M,CvU W' u from fun W' q u hu=>((HCU.out u (HIN.out u hu)).below HBB.out).below q);have BA:=Hh (show Below wr.heap.size wr (w3.alloc (.cells #[] 70)) from ST3.out.alloc ST3.out.size _);have HWA:=Hh (show w.heap.size≤(w3.alloc (.cells #[] 70)).heap.size from Nat.le_trans HB.out.size (Nat.le_trans HBB.out.size BA.out.size));have OA:=Hh (zcV w3 (base:=w.heap.size) (Nat.le_trans HB.out.size (Nat.le_trans HBB.out.size ST3.out.size)));have CR:=Hh ((((HCS.out.below HBB.out).below BA.out)).rest (k:=p) (by rw[←HML.out];omega));have HDL:=Hh (show(M.drop p).length=m-p by rw[List.length_drop,←HML.out]);have HTP:=Hh (show(M.take p).length=p by rw[List.length_take,←HML.out];omega);have HBL2:=Hh HGL.out.2;have HPUT:=Hh (zpa HM.out HXX.out (by rw[HN.out];exact hlt) (by rw[←HML.out];omega) HA.out (fun _=>by rw[←HYY.out,←HRr.out];have:=HR0.out;omega));rw[if_pos ⟨by rw[←HML.out];exact hpm,by rw[←HYY.out,←HRr.out];exact HR00.out⟩] at HPUT;have HPD:=Hh (show p≤d by omega);have hdp:¬ d=p:=by omega
         clear hpm hml2;go_wp2_with (first
          | (at_builtin;go_loud (refine zbq _ rfl _ _ rfl w.heap.size _ [] (M.drop p) _ _ _ rfl rfl OA.out CR.out HDL.out (fun e=>by cases e) (by simp only[List.length_nil];omega) HWA.out ?_;intro v9 w9 hown9 hg9 hat9;have HO9:=Hh hown9;have B9:=Hh (BA.out.grown hg9 BA.out.size (fun q hq=>by have h1:=ST3.out.size;cases hq;exact h1));clear hg9 hat9;obtain⟨A9,c9,hv9,hcs9,hna9,-⟩:=hown9.cs (fun u hu=>CUM.out _ B9.out u (List.mem_of_mem_drop hu));rw[List.nil_append] at hcs9;rw[List.nil_append,HDL.out] at hv9;subst hv9;have hc9:=hcs9.cap;rw[HDL.out] at hc9;obtain⟨g9,o9,hA9,-,-⟩:=hcs9.at_ (by rw[HDL.out];omega);subst hA9;have CS9:=Hh hcs9;have NA9:=Hh hna9;clear hown9 hcs9 hna9)))
         ·rename_i hc1;have HR9:=Hh (show Cs w9 (some ⟨g9,o9,none⟩) 0 ((M.drop p).drop 1) by
           rw[List.drop_eq_nil_of_le (by rw[HDL.out];omega)];exact ziE _ _ (by simp[maxLen]))
          have HC1:=Hh hc1;clear hc1;have HRL:=Hh (show((M.drop p).drop 1).length=m-p-1 by rw[List.length_drop,HDL.out]);have HRN:=Hh (show(some ⟨g9,o9,none⟩:Option Addr)=none→0=0 from fun e=>by cases e);refine wp_region_noPanic ?_;refine wp_region_held (S:=fun w'=>w'.cell? ⟨b,off+i*5,none⟩=some (.bool x.sx)∧w'.cell? ⟨b,off+i*5+1,none⟩=some (.slice x.ax x.xs.length x.cx)∧w'.cell? ⟨b,off+i*5+2,none⟩=some (.bool x.sy)∧w'.cell? ⟨b,off+i*5+3,none⟩=some (.slice x.ay x.ys.length x.cy)∧w'.cell? ⟨b,off+i*5+4,none⟩=some (.int .u8 x.st)) (by kernel_rfl) ?_;obtain⟨W0,hW0⟩:∃W0:World,W0=(w9).drew:=⟨_,rfl⟩;have B0:=Hh (show Below wr.heap.size wr W0 by rw[hW0];exact zaa B9.out 1);have R0:=Hh (show Cs W0 (some ⟨g9,o9,none⟩) 0 ((M.drop p).drop 1) by rw[hW0];exact(HR9.out).below (zaa (Below.refl _ _) 1));have hS0:=HCX2.out.below (B0.out.block b HBL2.out);change wpAnyH _ _ _ _ _ _ _ _ (w9).drew;rw[←hW0];clear hW0;refine Tk1 (v:=?_) 0 hS0 ?_ ?_;rotate_left
          ·rintro w' ⟨_,_,_,_,_⟩;go_simp;first|done|with_reducible rfl|rfl|(rw[if_pos HPD.out])
          simp only[Act.put,LA];refine Tk1 (v:=?_) 1 hS0 ?_ ?_;rotate_left
          ·rintro w' ⟨_,_,_,_,_⟩;go_simp;first|done|with_reducible rfl|rfl|(rw[if_pos HPD.out])
          simp only[Act.put,LA];refine Tk1 (v:=?_) 2 hS0 ?_ ?_;rotate_left
          ·rintro w' ⟨_,_,_,_,_⟩;go_simp;first|done|with_reducible rfl|rfl|(rw[if_pos HPD.out])
          simp only[Act.put,LA];refine Tk1 (v:=?_) 3 hS0 ?_ ?_;rotate_left
          ·rintro w' ⟨_,_,_,_,_⟩;go_simp;first|done|with_reducible rfl|rfl|(rw[if_pos HPD.out])
          simp only[Act.put,LA];refine Tk1 (v:=?_) 4 hS0 ?_ ?_;rotate_left
          ·rintro w' ⟨_,_,_,_,_⟩;go_simp;first|done|with_reducible rfl|rfl|(rw[if_pos HPD.out])
          simp only[Act.put,LA];refine Tk1 (v:=?_) 5 hS0 ?_ ?_;rotate_left
          ·rintro w' ⟨_,_,_,_,_⟩;go_simp;first|done|with_reducible rfl|rfl|(rw[if_pos HPD.out])
          simp only[Act.put,LA];refine Tk1 (v:=?_) 6 hS0 ?_ ?_;rotate_left
          ·rintro w' ⟨_,_,_,_,_⟩;go_simp;first|done|with_reducible rfl|rfl|(rw[if_pos HPD.out])
          simp only[Act.put,LA];refine Tk1 (v:=?_) 7 hS0 ?_ ?_;rotate_left
          ·rintro w' ⟨_,_,_,_,_⟩;go_simp;first|done|with_reducible rfl|rfl|(rw[if_pos HPD.out])
          simp only[Act.put,LA];refine Tk1 (v:=?_) 10 hS0 ?_ ?_;rotate_left
          ·rintro w' ⟨_,_,_,_,_⟩;go_simp;first|done|with_reducible rfl|rfl|(rw[if_pos HPD.out])
          simp only[Act.put,LA];refine Rd1 8 fun K hK=>?_;go_simp;obtain⟨g1,hg1⟩:∃g,g=W0.heap.size:=⟨_,rfl⟩;obtain⟨W1,hW1⟩:∃V:World,V=W0.alloc (.cells #[.bool x.sx,.slice x.ax x.xs.length x.cx,.bool x.sy,.slice x.ay x.ys.length x.cy,.int .u8 x.st] 70):=⟨_,rfl⟩;have B1:=Hh (show Below wr.heap.size wr W1 by rw[hW1];exact B0.out.alloc B0.out.size _);have R1:=Hh (show Cs W1 (some ⟨g9,o9,none⟩) 0 ((M.drop p).drop 1) by rw[hW1];exact R0.out.below ((Below.refl _ _).alloc (Nat.le_refl _) _));have X1:=Hh (show ∀j u,(cvcs [x])[j]?=some u→W1.cell? ((⟨g1,0,none⟩:Addr).add j)=some u by rw[hW1,hg1];exact zcB W0 x);rw[←hg1,←hW1];clear hg1 hW1;refine hK.out _ _ (HCX2.out.below (B1.out.block b HBL2.out)) (fun hS1=>?_);clear hK K;refine Rd1 9 fun K hK=>?_;refine zaW (.tmp 61) (.tmp 66) rfl x (some ⟨g,og,none⟩) p d (M.take p) ⟨g1,0,none⟩ 1 rfl rfl HTP.out ((((HCS.out.below HBB.out)).below B1.out).cut p) (fun e=>by cases e) X1.out (by omega) ?_;intro v2 W2 ho hgw;simp only[Act.put,LA];have B2:=Hh (B1.out.grown hgw B1.out.size (fun q hq=>by cases hq));have R2:=Hh (R1.out.below ((Below.refl _ _).grown hgw (Nat.le_refl _) (fun q hq=>by cases hq)));have O2:=Hh (OwnC.mono ho (show w.heap.size≤W1.heap.size from Nat.le_trans HB.out.size (Nat.le_trans HBB.out.size B1.out.size)));have L2:=Hh (show ∀q,v2.ownBlock=some q→wr.heap.size≤q from fun q hq=>Nat.le_trans B1.out.size (ho.lt q hq).1);refine hK.out _ _ (HCX2.out.below (B2.out.block b HBL2.out)) (fun hS2=>?_);clear hK K ho hgw;refine Rd1 11 fun K hK=>?_;refine zbc (.tmp 67) (.tmp 68) rfl w.heap.size v2 (M.take p++[x]) ((M.drop p).drop 1) (some ⟨g9,o9,none⟩) (m-p-1) (0) rfl rfl O2.out R2.out HRL.out HRN.out (by rw[List.length_append,HTP.out,List.length_singleton];omega) (Nat.le_trans HB.out.size (Nat.le_trans HBB.out.size B2.out.size)) ?_;intro v3 W3 ho hgw hat;simp only[Act.put,LA];have B3:=Hh (B2.out.grown hgw B2.out.size (fun q hq=>L2.out q hq));have O3:=Hh ho;refine hK.out _ _ (HCX2.out.below (B3.out.block b HBL2.out)) (fun hS3=>?_);clear hK K ho hgw hat;refine Rd1 12 fun K hK=>?_;go_simp;refine hK.out _ _ (HCX2.out.below (B3.out.block b HBL2.out)) (fun hS4=>?_);clear hK K;refine wpAnyH_done (by kernel_rfl) ?_ _;refine NoPanic.normal ?_;go_wp2_with fail;go_roundw
          case rel =>
           refine⟨i+1,by omega,by go_num,?_,HB.out.trans ((HBB.out.trans (B3.out.mono HBB.out.size)).mono HB.out.size)⟩;rw[HPUT.out];exact O3.out
          case measure=>simp[intOf];omega
         ·have HR9:=Hh (show Cs w9 (some ⟨g9,o9+5,none⟩) (c9-1) ((M.drop p).drop 1) from CS9.out.rest (k:=1) (by rw[HDL.out];have:=HPM.out;omega));have HRL:=Hh (show((M.drop p).drop 1).length=m-p-1 by rw[List.length_drop,HDL.out]);have HRN:=Hh (show(some ⟨g9,o9+5,none⟩:Option Addr)=none→c9-1=0 from fun e=>by cases e);refine wp_region_noPanic ?_;refine wp_region_held (S:=fun w'=>w'.cell? ⟨b,off+i*5,none⟩=some (.bool x.sx)∧w'.cell? ⟨b,off+i*5+1,none⟩=some (.slice x.ax x.xs.length x.cx)∧w'.cell? ⟨b,off+i*5+2,none⟩=some (.bool x.sy)∧w'.cell? ⟨b,off+i*5+3,none⟩=some (.slice x.ay x.ys.length x.cy)∧w'.cell? ⟨b,off+i*5+4,none⟩=some (.int .u8 x.st)) (by kernel_rfl) ?_;obtain⟨W0,hW0⟩:∃W0:World,W0=(w9).drew:=⟨_,rfl⟩;have B0:=Hh (show Below wr.heap.size wr W0 by rw[hW0];exact zaa B9.out 1);have R0:=Hh (show Cs W0 (some ⟨g9,o9+5,none⟩) (c9-1) ((M.drop p).drop 1) by rw[hW0];exact(HR9.out).below (zaa (Below.refl _ _) 1));have hS0:=HCX2.out.below (B0.out.block b HBL2.out);change wpAnyH _ _ _ _ _ _ _ _ (w9).drew;rw[←hW0];clear hW0;refine Tk1 (v:=?_) 0 hS0 ?_ ?_;rotate_left
          ·rintro w' ⟨_,_,_,_,_⟩;go_simp;first|done|with_reducible rfl|rfl|(rw[if_pos HPD.out])
          simp only[Act.put,LA];refine Tk1 (v:=?_) 1 hS0 ?_ ?_;rotate_left
          ·rintro w' ⟨_,_,_,_,_⟩;go_simp;first|done|with_reducible rfl|rfl|(rw[if_pos HPD.out])
          simp only[Act.put,LA];refine Tk1 (v:=?_) 2 hS0 ?_ ?_;rotate_left
          ·rintro w' ⟨_,_,_,_,_⟩;go_simp;first|done|with_reducible rfl|rfl|(rw[if_pos HPD.out])
          simp only[Act.put,LA];refine Tk1 (v:=?_) 3 hS0 ?_ ?_;rotate_left
          ·rintro w' ⟨_,_,_,_,_⟩;go_simp;first|done|with_reducible rfl|rfl|(rw[if_pos HPD.out])
          simp only[Act.put,LA];refine Tk1 (v:=?_) 4 hS0 ?_ ?_;rotate_left
          ·rintro w' ⟨_,_,_,_,_⟩;go_simp;first|done|with_reducible rfl|rfl|(rw[if_pos HPD.out])
          simp only[Act.put,LA];refine Tk1 (v:=?_) 5 hS0 ?_ ?_;rotate_left
          ·rintro w' ⟨_,_,_,_,_⟩;go_simp;first|done|with_reducible rfl|rfl|(rw[if_pos HPD.out])
          simp only[Act.put,LA];refine Tk1 (v:=?_) 6 hS0 ?_ ?_;rotate_left
          ·rintro w' ⟨_,_,_,_,_⟩;go_simp;first|done|with_reducible rfl|rfl|(rw[if_pos HPD.out])
          simp only[Act.put,LA];refine Tk1 (v:=?_) 7 hS0 ?_ ?_;rotate_left
          ·rintro w' ⟨_,_,_,_,_⟩;go_simp;first|done|with_reducible rfl|rfl|(rw[if_pos HPD.out])
          simp only[Act.put,LA];refine Tk1 (v:=?_) 10 hS0 ?_ ?_;rotate_left
          ·rintro w' ⟨_,_,_,_,_⟩;go_simp;first|done|with_reducible rfl|rfl|(rw[if_pos HPD.out])
          simp only[Act.put,LA];refine Rd1 8 fun K hK=>?_;go_simp;obtain⟨g1,hg1⟩:∃g,g=W0.heap.size:=⟨_,rfl⟩;obtain⟨W1,hW1⟩:∃V:World,V=W0.alloc (.cells #[.bool x.sx,.slice x.ax x.xs.length x.cx,.bool x.sy,.slice x.ay x.ys.length x.cy,.int .u8 x.st] 70):=⟨_,rfl⟩;have B1:=Hh (show Below wr.heap.size wr W1 by rw[hW1];exact B0.out.alloc B0.out.size _);have R1:=Hh (show Cs W1 (some ⟨g9,o9+5,none⟩) (c9-1) ((M.drop p).drop 1) by rw[hW1];exact R0.out.below ((Below.refl _ _).alloc (Nat.le_refl _) _));have X1:=Hh (show ∀j u,(cvcs [x])[j]?=some u→W1.cell? ((⟨g1,0,none⟩:Addr).add j)=some u by rw[hW1,hg1];exact zcB W0 x);rw[←hg1,←hW1];clear hg1 hW1;refine hK.out _ _ (HCX2.out.below (B1.out.block b HBL2.out)) (fun hS1=>?_);clear hK K;refine Rd1 9 fun K hK=>?_;refine zaW (.tmp 61) (.tmp 66) rfl x (some ⟨g,og,none⟩) p d (M.take p) ⟨g1,0,none⟩ 1 rfl rfl HTP.out ((((HCS.out.below HBB.out)).below B1.out).cut p) (fun e=>by cases e) X1.out (by omega) ?_;intro v2 W2 ho hgw;simp only[Act.put,LA];have B2:=Hh (B1.out.grown hgw B1.out.size (fun q hq=>by cases hq));have R2:=Hh (R1.out.below ((Below.refl _ _).grown hgw (Nat.le_refl _) (fun q hq=>by cases hq)));have O2:=Hh (OwnC.mono ho (show w.heap.size≤W1.heap.size from Nat.le_trans HB.out.size (Nat.le_trans HBB.out.size B1.out.size)));have L2:=Hh (show ∀q,v2.ownBlock=some q→wr.heap.size≤q from fun q hq=>Nat.le_trans B1.out.size (ho.lt q hq).1);refine hK.out _ _ (HCX2.out.below (B2.out.block b HBL2.out)) (fun hS2=>?_);clear hK K ho hgw;refine Rd1 11 fun K hK=>?_;refine zbc (.tmp 67) (.tmp 68) rfl w.heap.size v2 (M.take p++[x]) ((M.drop p).drop 1) (some ⟨g9,o9+5,none⟩) (m-p-1) ((c9-1)) rfl rfl O2.out R2.out HRL.out HRN.out (by rw[List.length_append,HTP.out,List.length_singleton];omega) (Nat.le_trans HB.out.size (Nat.le_trans HBB.out.size B2.out.size)) ?_;intro v3 W3 ho hgw hat;simp only[Act.put,LA];have B3:=Hh (B2.out.grown hgw B2.out.size (fun q hq=>L2.out q hq));have O3:=Hh ho;refine hK.out _ _ (HCX2.out.below (B3.out.block b HBL2.out)) (fun hS3=>?_);clear hK K ho hgw hat;refine Rd1 12 fun K hK=>?_;go_simp;refine hK.out _ _ (HCX2.out.below (B3.out.block b HBL2.out)) (fun hS4=>?_);clear hK K;refine wpAnyH_done (by kernel_rfl) ?_ _;refine NoPanic.normal ?_;go_wp2_with fail;go_roundw
          case rel =>
           refine⟨i+1,by omega,by go_num,?_,HB.out.trans ((HBB.out.trans (B3.out.mono HBB.out.size)).mono HB.out.size)⟩;rw[HPUT.out];exact O3.out
          case measure=>simp[intOf];omega
       ·have HR00:=Hh hr00;have t4:(r==0)=false:=beq_eq_false_iff_ne.2 hr00;clear hr00;go_wp2_with fail;have st:Below wr.heap.size wr w2.drew:=zaa (ST2.out) 1;have sy:=HCY.out.below ((ST2.out:Below wr.heap.size wr w2).block g HGL.out.1);have sx:=HCX2.out.below ((ST2.out:Below wr.heap.size wr w2).block b HGL.out.2);obtain⟨e1,e2,e3,e4,e5⟩:=sy;obtain⟨f1,f2,f3,f4,f5⟩:=sx;go_region_held3 (fun w'=>w'.cell? ⟨g,og+p*5,none⟩=some (.bool y.sx)∧w'.cell? ⟨g,og+p*5+1,none⟩=some (.slice y.ax y.xs.length y.cx)∧w'.cell? ⟨g,og+p*5+2,none⟩=some (.bool y.sy)∧w'.cell? ⟨g,og+p*5+3,none⟩=some (.slice y.ay y.ys.length y.cy)∧w'.cell? ⟨g,og+p*5+4,none⟩=some (.int .u8 y.st)∧w'.cell? ⟨b,off+i*5,none⟩=some (.bool x.sx)∧w'.cell? ⟨b,off+i*5+1,none⟩=some (.slice x.ax x.xs.length x.cx)∧w'.cell? ⟨b,off+i*5+2,none⟩=some (.bool x.sy)∧w'.cell? ⟨b,off+i*5+3,none⟩=some (.slice x.ay x.ys.length x.cy)∧w'.cell? ⟨b,off+i*5+4,none⟩=some (.int .u8 x.st))
         (first|go_keep|exact⟨e1,e2,e3,e4,e5,f1,f2,f3,f4,f5⟩)
         (first|(go_at_call 131;refine(zeJ y x _ (HYU.out.below st) (HUX2.out.below st) HLY.out.1 HLY.out.2 HLX.out.1 HLX.out.2).mono ?_;rintro e w3 ⟨rfl,b2⟩;rw[←HRr.out];have st2:=st.trans (b2.mono st.size);clear e1 e2 e3 e4 e5 f1 f2 f3 f4 f5;obtain⟨e1,e2,e3,e4,e5⟩:=HCY.out.below (st2.block g HGL.out.1);obtain⟨f1,f2,f3,f4,f5⟩:=HCX2.out.below (st2.block b HGL.out.2)))
        all_goals
         have ST3:=Hh st2;clear st2 st b2 e1 e2 e3 e4 e5 f1 f2 f3 f4 f5;have hpm:=HPM.out;have hml2:=HML.out;have CUM:=Hh (show ∀W',Below wr.heap.size wr W'→∀u∈M,CvU W' u from fun W' q u hu=>((HCU.out u (HIN.out u hu)).below HBB.out).below q);have BA:=Hh (show Below wr.heap.size wr (w3.alloc (.cells #[] 70)) from ST3.out.alloc ST3.out.size _);have HWA:=Hh (show w.heap.size≤(w3.alloc (.cells #[] 70)).heap.size from Nat.le_trans HB.out.size (Nat.le_trans HBB.out.size BA.out.size));have OA:=Hh (zcV w3 (base:=w.heap.size) (Nat.le_trans HB.out.size (Nat.le_trans HBB.out.size ST3.out.size)));have CR:=Hh ((((HCS.out.below HBB.out).below BA.out)).rest (k:=p) (by rw[←HML.out];omega));have HDL:=Hh (show(M.drop p).length=m-p by rw[List.length_drop,←HML.out]);have HTP:=Hh (show(M.take p).length=p by rw[List.length_take,←HML.out];omega);have HBL2:=Hh HGL.out.2;have HPUT:=Hh (zpa HM.out HXX.out (by rw[HN.out];exact hlt) (by rw[←HML.out];omega) HA.out (fun _=>by rw[←HYY.out,←HRr.out];have:=HR0.out;omega));rw[if_neg (fun e=>HR00.out (by rw[HRr.out,HYY.out];exact e.2)),List.drop_zero] at HPUT;have HPD:=Hh (show p≤d by omega);have hdp:¬ d=p:=by omega
         clear hpm hml2;go_wp2_with (first
          | (at_builtin;go_loud (refine zbq _ rfl _ _ rfl w.heap.size _ [] (M.drop p) _ _ _ rfl rfl OA.out CR.out HDL.out (fun e=>by cases e) (by simp only[List.length_nil];omega) HWA.out ?_;intro v9 w9 hown9 hg9 hat9;have HO9:=Hh hown9;have B9:=Hh (BA.out.grown hg9 BA.out.size (fun q hq=>by have h1:=ST3.out.size;cases hq;exact h1));clear hg9 hat9;obtain⟨A9,c9,hv9,hcs9,hna9,-⟩:=hown9.cs (fun u hu=>CUM.out _ B9.out u (List.mem_of_mem_drop hu));rw[List.nil_append] at hcs9;rw[List.nil_append,HDL.out] at hv9;subst hv9;have hc9:=hcs9.cap;rw[HDL.out] at hc9;have CS9:=Hh hcs9;have NA9:=Hh hna9;clear hown9 hcs9 hna9)))
         have HRL:=Hh (show(M.drop p).length=m-p by exact HDL.out);have HRN:=Hh (show(A9:Option Addr)=none→c9=0 from NA9.out);refine wp_region_noPanic ?_;refine wp_region_held (S:=fun w'=>w'.cell? ⟨b,off+i*5,none⟩=some (.bool x.sx)∧w'.cell? ⟨b,off+i*5+1,none⟩=some (.slice x.ax x.xs.length x.cx)∧w'.cell? ⟨b,off+i*5+2,none⟩=some (.bool x.sy)∧w'.cell? ⟨b,off+i*5+3,none⟩=some (.slice x.ay x.ys.length x.cy)∧w'.cell? ⟨b,off+i*5+4,none⟩=some (.int .u8 x.st)) (by kernel_rfl) ?_;obtain⟨W0,hW0⟩:∃W0:World,W0=(w9).drew:=⟨_,rfl⟩;have B0:=Hh (show Below wr.heap.size wr W0 by rw[hW0];exact zaa B9.out 1);have R0:=Hh (show Cs W0 A9 c9 (M.drop p) by rw[hW0];exact(CS9.out).below (zaa (Below.refl _ _) 1));have hS0:=HCX2.out.below (B0.out.block b HBL2.out);change wpAnyH _ _ _ _ _ _ _ _ (w9).drew;rw[←hW0];clear hW0;refine Tk1 (v:=?_) 0 hS0 ?_ ?_;rotate_left
         ·rintro w' ⟨_,_,_,_,_⟩;go_simp;first|done|with_reducible rfl|rfl|(rw[if_pos HPD.out])
         simp only[Act.put,LA];refine Tk1 (v:=?_) 1 hS0 ?_ ?_;rotate_left
         ·rintro w' ⟨_,_,_,_,_⟩;go_simp;first|done|with_reducible rfl|rfl|(rw[if_pos HPD.out])
         simp only[Act.put,LA];refine Tk1 (v:=?_) 2 hS0 ?_ ?_;rotate_left
         ·rintro w' ⟨_,_,_,_,_⟩;go_simp;first|done|with_reducible rfl|rfl|(rw[if_pos HPD.out])
         simp only[Act.put,LA];refine Tk1 (v:=?_) 3 hS0 ?_ ?_;rotate_left
         ·rintro w' ⟨_,_,_,_,_⟩;go_simp;first|done|with_reducible rfl|rfl|(rw[if_pos HPD.out])
         simp only[Act.put,LA];refine Tk1 (v:=?_) 4 hS0 ?_ ?_;rotate_left
         ·rintro w' ⟨_,_,_,_,_⟩;go_simp;first|done|with_reducible rfl|rfl|(rw[if_pos HPD.out])
         simp only[Act.put,LA];refine Tk1 (v:=?_) 5 hS0 ?_ ?_;rotate_left
         ·rintro w' ⟨_,_,_,_,_⟩;go_simp;first|done|with_reducible rfl|rfl|(rw[if_pos HPD.out])
         simp only[Act.put,LA];refine Tk1 (v:=?_) 6 hS0 ?_ ?_;rotate_left
         ·rintro w' ⟨_,_,_,_,_⟩;go_simp;first|done|with_reducible rfl|rfl|(rw[if_pos HPD.out])
         simp only[Act.put,LA];refine Tk1 (v:=?_) 7 hS0 ?_ ?_;rotate_left
         ·rintro w' ⟨_,_,_,_,_⟩;go_simp;first|done|with_reducible rfl|rfl|(rw[if_pos HPD.out])
         simp only[Act.put,LA];refine Tk1 (v:=?_) 10 hS0 ?_ ?_;rotate_left
         ·rintro w' ⟨_,_,_,_,_⟩;go_simp;first|done|with_reducible rfl|rfl|(rw[if_pos HPD.out])
         simp only[Act.put,LA];refine Rd1 8 fun K hK=>?_;go_simp;obtain⟨g1,hg1⟩:∃g,g=W0.heap.size:=⟨_,rfl⟩;obtain⟨W1,hW1⟩:∃V:World,V=W0.alloc (.cells #[.bool x.sx,.slice x.ax x.xs.length x.cx,.bool x.sy,.slice x.ay x.ys.length x.cy,.int .u8 x.st] 70):=⟨_,rfl⟩;have B1:=Hh (show Below wr.heap.size wr W1 by rw[hW1];exact B0.out.alloc B0.out.size _);have R1:=Hh (show Cs W1 A9 c9 (M.drop p) by rw[hW1];exact R0.out.below ((Below.refl _ _).alloc (Nat.le_refl _) _));have X1:=Hh (show ∀j u,(cvcs [x])[j]?=some u→W1.cell? ((⟨g1,0,none⟩:Addr).add j)=some u by rw[hW1,hg1];exact zcB W0 x);rw[←hg1,←hW1];clear hg1 hW1;refine hK.out _ _ (HCX2.out.below (B1.out.block b HBL2.out)) (fun hS1=>?_);clear hK K;refine Rd1 9 fun K hK=>?_;refine zaW (.tmp 61) (.tmp 66) rfl x (some ⟨g,og,none⟩) p d (M.take p) ⟨g1,0,none⟩ 1 rfl rfl HTP.out ((((HCS.out.below HBB.out)).below B1.out).cut p) (fun e=>by cases e) X1.out (by omega) ?_;intro v2 W2 ho hgw;simp only[Act.put,LA];have B2:=Hh (B1.out.grown hgw B1.out.size (fun q hq=>by cases hq));have R2:=Hh (R1.out.below ((Below.refl _ _).grown hgw (Nat.le_refl _) (fun q hq=>by cases hq)));have O2:=Hh (OwnC.mono ho (show w.heap.size≤W1.heap.size from Nat.le_trans HB.out.size (Nat.le_trans HBB.out.size B1.out.size)));have L2:=Hh (show ∀q,v2.ownBlock=some q→wr.heap.size≤q from fun q hq=>Nat.le_trans B1.out.size (ho.lt q hq).1);refine hK.out _ _ (HCX2.out.below (B2.out.block b HBL2.out)) (fun hS2=>?_);clear hK K ho hgw;refine Rd1 11 fun K hK=>?_;refine zbc (.tmp 67) (.tmp 68) rfl w.heap.size v2 (M.take p++[x]) (M.drop p) A9 (m-p) (c9) rfl rfl O2.out R2.out HRL.out HRN.out (by rw[List.length_append,HTP.out,List.length_singleton];omega) (Nat.le_trans HB.out.size (Nat.le_trans HBB.out.size B2.out.size)) ?_;intro v3 W3 ho hgw hat;simp only[Act.put,LA];have B3:=Hh (B2.out.grown hgw B2.out.size (fun q hq=>L2.out q hq));have O3:=Hh ho;refine hK.out _ _ (HCX2.out.below (B3.out.block b HBL2.out)) (fun hS3=>?_);clear hK K ho hgw hat;refine Rd1 12 fun K hK=>?_;go_simp;refine hK.out _ _ (HCX2.out.below (B3.out.block b HBL2.out)) (fun hS4=>?_);clear hK K;refine wpAnyH_done (by kernel_rfl) ?_ _;refine NoPanic.normal ?_;go_wp2_with fail;go_roundw
         case rel =>
          refine⟨i+1,by omega,by go_num,?_,HB.out.trans ((HBB.out.trans (B3.out.mono HBB.out.size)).mono HB.out.size)⟩;rw[HPUT.out];exact O3.out
         case measure=>simp[intOf];omega
    ·obtain rfl:p=m:=by omega
     have t2:decide ((p:Int)<(p:Int))=false:=decide_eq_false (by omega);have HUX2:=Hh (HUX.out.below HBB.out);have HBL2:=Hh (Nat.lt_of_lt_of_le HBL.out HBB.out.size);have HCX2:=Hh (HCX.out.below (HBB.out.block b HBL.out));have HTP:=Hh (show(M.take p).length=p by rw[List.length_take,←HML.out];omega);have HPUT:=Hh (zpa HM.out HXX.out (by rw[HN.out];exact hlt) (by rw[←HML.out];exact Nat.le_refl _) HA.out (fun h0=>absurd h0 (by rw[←HML.out];exact Nat.lt_irrefl _)));rw[if_neg (fun e=>absurd e.1 (by rw[←HML.out];exact Nat.lt_irrefl _)),List.drop_zero,List.drop_eq_nil_of_le (by rw[←HML.out];exact Nat.le_refl _)] at HPUT;cases D with
     | none =>
      have hd0:=HD.out.1 rfl;subst hd0;have hp0:p=0:=by omega
      subst hp0;have HPD:=Hh (Nat.le_refl 0);clear hpm;go_wp2_with fail;go_quiet (fail);have bq:Below wr.heap.size wr (wr.drewN nq):=zaa (Below.refl _ wr) _;generalize wr.drewN nq=wq at bq ⊢;have BQ:=Hh bq;clear bq;go_wp2_with fail;go_quiet (fail);have bq:=zaa BQ.out nq;generalize wq.drewN nq=w3 at bq ⊢;have ST3:=Hh bq;clear bq;have BA:=Hh (show Below wr.heap.size wr (w3.alloc (.cells #[] 70)) from ST3.out.alloc ST3.out.size _);have HWA:=Hh (show w.heap.size≤(w3.alloc (.cells #[] 70)).heap.size from Nat.le_trans HB.out.size (Nat.le_trans HBB.out.size BA.out.size));have OA:=Hh (zcV w3 (base:=w.heap.size) (Nat.le_trans HB.out.size (Nat.le_trans HBB.out.size ST3.out.size)));go_wp2_with fail;have HR9:=Hh (ziE (w3.alloc (.cells #[] 70)) (some ⟨w3.heap.size,0,none⟩) (c:=0) (by simp[maxLen]));have HRL:=Hh (show([]:List Cv).length=0 from rfl);have HRN:=Hh (show(some ⟨w3.heap.size,0,none⟩:Option Addr)=none→0=0 from fun _=>rfl);refine wp_region_noPanic ?_;refine wp_region_held (S:=fun w'=>w'.cell? ⟨b,off+i*5,none⟩=some (.bool x.sx)∧w'.cell? ⟨b,off+i*5+1,none⟩=some (.slice x.ax x.xs.length x.cx)∧w'.cell? ⟨b,off+i*5+2,none⟩=some (.bool x.sy)∧w'.cell? ⟨b,off+i*5+3,none⟩=some (.slice x.ay x.ys.length x.cy)∧w'.cell? ⟨b,off+i*5+4,none⟩=some (.int .u8 x.st)) (by kernel_rfl) ?_;obtain⟨W0,hW0⟩:∃W0:World,W0=(w3.alloc (.cells #[] 70)).drew:=⟨_,rfl⟩;have B0:=Hh (show Below wr.heap.size wr W0 by rw[hW0];exact zaa BA.out 1);have R0:=Hh (show Cs W0 (some ⟨w3.heap.size,0,none⟩) 0 [] by rw[hW0];exact(HR9.out).below (zaa (Below.refl _ _) 1));have hS0:=HCX2.out.below (B0.out.block b HBL2.out);change wpAnyH _ _ _ _ _ _ _ _ (w3.alloc (.cells #[] 70)).drew;rw[←hW0];clear hW0;refine Tk1 (v:=?_) 0 hS0 ?_ ?_;rotate_left
      ·rintro w' ⟨_,_,_,_,_⟩;go_simp;first|done|with_reducible rfl|rfl|(rw[if_pos HPD.out])
      simp only[Act.put,LA];refine Tk1 (v:=?_) 1 hS0 ?_ ?_;rotate_left
      ·rintro w' ⟨_,_,_,_,_⟩;go_simp;first|done|with_reducible rfl|rfl|(rw[if_pos HPD.out])
      simp only[Act.put,LA];refine Tk1 (v:=?_) 2 hS0 ?_ ?_;rotate_left
      ·rintro w' ⟨_,_,_,_,_⟩;go_simp;first|done|with_reducible rfl|rfl|(rw[if_pos HPD.out])
      simp only[Act.put,LA];refine Tk1 (v:=?_) 3 hS0 ?_ ?_;rotate_left
      ·rintro w' ⟨_,_,_,_,_⟩;go_simp;first|done|with_reducible rfl|rfl|(rw[if_pos HPD.out])
      simp only[Act.put,LA];refine Tk1 (v:=?_) 4 hS0 ?_ ?_;rotate_left
      ·rintro w' ⟨_,_,_,_,_⟩;go_simp;first|done|with_reducible rfl|rfl|(rw[if_pos HPD.out])
      simp only[Act.put,LA];refine Tk1 (v:=?_) 5 hS0 ?_ ?_;rotate_left
      ·rintro w' ⟨_,_,_,_,_⟩;go_simp;first|done|with_reducible rfl|rfl|(rw[if_pos HPD.out])
      simp only[Act.put,LA];refine Tk1 (v:=?_) 6 hS0 ?_ ?_;rotate_left
      ·rintro w' ⟨_,_,_,_,_⟩;go_simp;first|done|with_reducible rfl|rfl|(rw[if_pos HPD.out])
      simp only[Act.put,LA];refine Tk1 (v:=?_) 7 hS0 ?_ ?_;rotate_left
      ·rintro w' ⟨_,_,_,_,_⟩;go_simp;first|done|with_reducible rfl|rfl|(rw[if_pos HPD.out])
      simp only[Act.put,LA];refine Tk1 (v:=?_) 10 hS0 ?_ ?_;rotate_left
      ·rintro w' ⟨_,_,_,_,_⟩;go_simp;first|done|with_reducible rfl|rfl|(rw[if_pos HPD.out])
      simp only[Act.put,LA];refine Rd1 8 fun K hK=>?_;go_simp;obtain⟨g1,hg1⟩:∃g,g=W0.heap.size:=⟨_,rfl⟩;obtain⟨W1,hW1⟩:∃V:World,V=W0.alloc (.cells #[.bool x.sx,.slice x.ax x.xs.length x.cx,.bool x.sy,.slice x.ay x.ys.length x.cy,.int .u8 x.st] 70):=⟨_,rfl⟩;have B1:=Hh (show Below wr.heap.size wr W1 by rw[hW1];exact B0.out.alloc B0.out.size _);have R1:=Hh (show Cs W1 (some ⟨w3.heap.size,0,none⟩) 0 [] by rw[hW1];exact R0.out.below ((Below.refl _ _).alloc (Nat.le_refl _) _));have X1:=Hh (show ∀j u,(cvcs [x])[j]?=some u→W1.cell? ((⟨g1,0,none⟩:Addr).add j)=some u by rw[hW1,hg1];exact zcB W0 x);rw[←hg1,←hW1];clear hg1 hW1;refine hK.out _ _ (HCX2.out.below (B1.out.block b HBL2.out)) (fun hS1=>?_);clear hK K;refine Rd1 9 fun K hK=>?_;refine zaW (.tmp 61) (.tmp 66) rfl x none 0 0 (M.take 0) ⟨g1,0,none⟩ 1 rfl rfl HTP.out ((((HCS.out.below HBB.out)).below B1.out).cut 0) (fun _=>rfl) X1.out (by omega) ?_;intro v2 W2 ho hgw;simp only[Act.put,LA];have B2:=Hh (B1.out.grown hgw B1.out.size (fun q hq=>by cases hq));have R2:=Hh (R1.out.below ((Below.refl _ _).grown hgw (Nat.le_refl _) (fun q hq=>by cases hq)));have O2:=Hh (OwnC.mono ho (show w.heap.size≤W1.heap.size from Nat.le_trans HB.out.size (Nat.le_trans HBB.out.size B1.out.size)));have L2:=Hh (show ∀q,v2.ownBlock=some q→wr.heap.size≤q from fun q hq=>Nat.le_trans B1.out.size (ho.lt q hq).1);refine hK.out _ _ (HCX2.out.below (B2.out.block b HBL2.out)) (fun hS2=>?_);clear hK K ho hgw;refine Rd1 11 fun K hK=>?_;refine zbc (.tmp 67) (.tmp 68) rfl w.heap.size v2 (M.take 0++[x]) [] (some ⟨w3.heap.size,0,none⟩) (0) (0) rfl rfl O2.out R2.out HRL.out HRN.out (by rw[List.length_append,HTP.out,List.length_singleton];omega) (Nat.le_trans HB.out.size (Nat.le_trans HBB.out.size B2.out.size)) ?_;intro v3 W3 ho hgw hat;simp only[Act.put,LA];have B3:=Hh (B2.out.grown hgw B2.out.size (fun q hq=>L2.out q hq));have O3:=Hh ho;refine hK.out _ _ (HCX2.out.below (B3.out.block b HBL2.out)) (fun hS3=>?_);clear hK K ho hgw hat;refine Rd1 12 fun K hK=>?_;go_simp;refine hK.out _ _ (HCX2.out.below (B3.out.block b HBL2.out)) (fun hS4=>?_);clear hK K;refine wpAnyH_done (by kernel_rfl) ?_ _;refine NoPanic.normal ?_;go_wp2_with fail;go_roundw
      case rel =>
       refine⟨i+1,by omega,by go_num,?_,HB.out.trans ((HBB.out.trans (B3.out.mono HBB.out.size)).mono HB.out.size)⟩;rw[HPUT.out];exact O3.out
      case measure=>simp[intOf];omega
     | some da =>
      obtain⟨g,rfl⟩:=HSG.out da rfl;have HPD:=Hh (show p≤d by omega);clear hpm;by_cases hdp:d=p
      ·subst hdp;go_wp2_with fail;go_quiet (fail);have bq:Below wr.heap.size wr (wr.drewN nq):=zaa (Below.refl _ wr) _;generalize wr.drewN nq=wq at bq ⊢;have BQ:=Hh bq;clear bq;go_wp2_with fail;go_quiet (fail);have bq:=zaa BQ.out nq;generalize wq.drewN nq=w3 at bq ⊢;have ST3:=Hh bq;clear bq;have BA:=Hh (show Below wr.heap.size wr (w3.alloc (.cells #[] 70)) from ST3.out.alloc ST3.out.size _);have HWA:=Hh (show w.heap.size≤(w3.alloc (.cells #[] 70)).heap.size from Nat.le_trans HB.out.size (Nat.le_trans HBB.out.size BA.out.size));have OA:=Hh (zcV w3 (base:=w.heap.size) (Nat.le_trans HB.out.size (Nat.le_trans HBB.out.size ST3.out.size)));go_wp2_with (first
        | (at_builtin;go_loud (refine zbq _ rfl _ _ rfl w.heap.size _ [] [] _ _ _ rfl rfl OA.out (ziE _ _ (by simp only[maxLen];omega)) (by simp) (fun e=>by cases e) (by simp) HWA.out ?_;intro v9 w9 hown9 hg9 hat9;have B9:=Hh (BA.out.grown hg9 BA.out.size (fun q hq=>by have h1:=ST3.out.size;cases hq;exact h1));clear hg9 hat9;obtain⟨A9,c9,hv9,hcs9,hna9,-⟩:=hown9.cs (fun u hu=>by cases hu);rw[List.nil_append] at hcs9;rw[List.nil_append,List.length_nil] at hv9;subst hv9;have hc9:=hcs9.cap;have CS9:=Hh hcs9;have NA9:=Hh hna9;clear hown9 hcs9 hna9)))
       have HRL:=Hh (show([]:List Cv).length=0 from rfl);have HRN:=Hh (show A9=none→c9=0 from NA9.out);refine wp_region_noPanic ?_;refine wp_region_held (S:=fun w'=>w'.cell? ⟨b,off+i*5,none⟩=some (.bool x.sx)∧w'.cell? ⟨b,off+i*5+1,none⟩=some (.slice x.ax x.xs.length x.cx)∧w'.cell? ⟨b,off+i*5+2,none⟩=some (.bool x.sy)∧w'.cell? ⟨b,off+i*5+3,none⟩=some (.slice x.ay x.ys.length x.cy)∧w'.cell? ⟨b,off+i*5+4,none⟩=some (.int .u8 x.st)) (by kernel_rfl) ?_;obtain⟨W0,hW0⟩:∃W0:World,W0=(w9).drew:=⟨_,rfl⟩;have B0:=Hh (show Below wr.heap.size wr W0 by rw[hW0];exact zaa B9.out 1);have R0:=Hh (show Cs W0 A9 c9 [] by rw[hW0];exact(CS9.out).below (zaa (Below.refl _ _) 1));have hS0:=HCX2.out.below (B0.out.block b HBL2.out);change wpAnyH _ _ _ _ _ _ _ _ (w9).drew;rw[←hW0];clear hW0;refine Tk1 (v:=?_) 0 hS0 ?_ ?_;rotate_left
       ·rintro w' ⟨_,_,_,_,_⟩;go_simp;first|done|with_reducible rfl|rfl|(rw[if_pos HPD.out])
       simp only[Act.put,LA];refine Tk1 (v:=?_) 1 hS0 ?_ ?_;rotate_left
       ·rintro w' ⟨_,_,_,_,_⟩;go_simp;first|done|with_reducible rfl|rfl|(rw[if_pos HPD.out])
       simp only[Act.put,LA];refine Tk1 (v:=?_) 2 hS0 ?_ ?_;rotate_left
       ·rintro w' ⟨_,_,_,_,_⟩;go_simp;first|done|with_reducible rfl|rfl|(rw[if_pos HPD.out])
       simp only[Act.put,LA];refine Tk1 (v:=?_) 3 hS0 ?_ ?_;rotate_left
       ·rintro w' ⟨_,_,_,_,_⟩;go_simp;first|done|with_reducible rfl|rfl|(rw[if_pos HPD.out])
       simp only[Act.put,LA];refine Tk1 (v:=?_) 4 hS0 ?_ ?_;rotate_left
       ·rintro w' ⟨_,_,_,_,_⟩;go_simp;first|done|with_reducible rfl|rfl|(rw[if_pos HPD.out])
       simp only[Act.put,LA];refine Tk1 (v:=?_) 5 hS0 ?_ ?_;rotate_left
       ·rintro w' ⟨_,_,_,_,_⟩;go_simp;first|done|with_reducible rfl|rfl|(rw[if_pos HPD.out])
       simp only[Act.put,LA];refine Tk1 (v:=?_) 6 hS0 ?_ ?_;rotate_left
       ·rintro w' ⟨_,_,_,_,_⟩;go_simp;first|done|with_reducible rfl|rfl|(rw[if_pos HPD.out])
       simp only[Act.put,LA];refine Tk1 (v:=?_) 7 hS0 ?_ ?_;rotate_left
       ·rintro w' ⟨_,_,_,_,_⟩;go_simp;first|done|with_reducible rfl|rfl|(rw[if_pos HPD.out])
       simp only[Act.put,LA];refine Tk1 (v:=?_) 10 hS0 ?_ ?_;rotate_left
       ·rintro w' ⟨_,_,_,_,_⟩;go_simp;first|done|with_reducible rfl|rfl|(rw[if_pos HPD.out])
       simp only[Act.put,LA];refine Rd1 8 fun K hK=>?_;go_simp;obtain⟨g1,hg1⟩:∃g,g=W0.heap.size:=⟨_,rfl⟩;obtain⟨W1,hW1⟩:∃V:World,V=W0.alloc (.cells #[.bool x.sx,.slice x.ax x.xs.length x.cx,.bool x.sy,.slice x.ay x.ys.length x.cy,.int .u8 x.st] 70):=⟨_,rfl⟩;have B1:=Hh (show Below wr.heap.size wr W1 by rw[hW1];exact B0.out.alloc B0.out.size _);have R1:=Hh (show Cs W1 A9 c9 [] by rw[hW1];exact R0.out.below ((Below.refl _ _).alloc (Nat.le_refl _) _));have X1:=Hh (show ∀j u,(cvcs [x])[j]?=some u→W1.cell? ((⟨g1,0,none⟩:Addr).add j)=some u by rw[hW1,hg1];exact zcB W0 x);rw[←hg1,←hW1];clear hg1 hW1;refine hK.out _ _ (HCX2.out.below (B1.out.block b HBL2.out)) (fun hS1=>?_);clear hK K;refine Rd1 9 fun K hK=>?_;refine zaW (.tmp 61) (.tmp 66) rfl x (some ⟨g,0,none⟩) d d (M.take d) ⟨g1,0,none⟩ 1 rfl rfl HTP.out ((((HCS.out.below HBB.out)).below B1.out).cut d) (fun e=>by cases e) X1.out (by omega) ?_;intro v2 W2 ho hgw;simp only[Act.put,LA];have B2:=Hh (B1.out.grown hgw B1.out.size (fun q hq=>by cases hq));have R2:=Hh (R1.out.below ((Below.refl _ _).grown hgw (Nat.le_refl _) (fun q hq=>by cases hq)));have O2:=Hh (OwnC.mono ho (show w.heap.size≤W1.heap.size from Nat.le_trans HB.out.size (Nat.le_trans HBB.out.size B1.out.size)));have L2:=Hh (show ∀q,v2.ownBlock=some q→wr.heap.size≤q from fun q hq=>Nat.le_trans B1.out.size (ho.lt q hq).1);refine hK.out _ _ (HCX2.out.below (B2.out.block b HBL2.out)) (fun hS2=>?_);clear hK K ho hgw;refine Rd1 11 fun K hK=>?_;refine zbc (.tmp 67) (.tmp 68) rfl w.heap.size v2 (M.take d++[x]) [] A9 (0) (c9) rfl rfl O2.out R2.out HRL.out HRN.out (by rw[List.length_append,HTP.out,List.length_singleton];omega) (Nat.le_trans HB.out.size (Nat.le_trans HBB.out.size B2.out.size)) ?_;intro v3 W3 ho hgw hat;simp only[Act.put,LA];have B3:=Hh (B2.out.grown hgw B2.out.size (fun q hq=>L2.out q hq));have O3:=Hh ho;refine hK.out _ _ (HCX2.out.below (B3.out.block b HBL2.out)) (fun hS3=>?_);clear hK K ho hgw hat;refine Rd1 12 fun K hK=>?_;go_simp;refine hK.out _ _ (HCX2.out.below (B3.out.block b HBL2.out)) (fun hS4=>?_);clear hK K;refine wpAnyH_done (by kernel_rfl) ?_ _;refine NoPanic.normal ?_;go_wp2_with fail;go_roundw
       case rel =>
        refine⟨i+1,by omega,by go_num,?_,HB.out.trans ((HBB.out.trans (B3.out.mono HBB.out.size)).mono HB.out.size)⟩;rw[HPUT.out];exact O3.out
       case measure=>simp[intOf];omega
      ·skip
       go_wp2_with fail;go_quiet (fail);have bq:Below wr.heap.size wr (wr.drewN nq):=zaa (Below.refl _ wr) _;generalize wr.drewN nq=wq at bq ⊢;have BQ:=Hh bq;clear bq;go_wp2_with fail;go_quiet (fail);have bq:=zaa BQ.out nq;generalize wq.drewN nq=w3 at bq ⊢;have ST3:=Hh bq;clear bq;have BA:=Hh (show Below wr.heap.size wr (w3.alloc (.cells #[] 70)) from ST3.out.alloc ST3.out.size _);have HWA:=Hh (show w.heap.size≤(w3.alloc (.cells #[] 70)).heap.size from Nat.le_trans HB.out.size (Nat.le_trans HBB.out.size BA.out.size));have OA:=Hh (zcV w3 (base:=w.heap.size) (Nat.le_trans HB.out.size (Nat.le_trans HBB.out.size ST3.out.size)));go_wp2_with (first
        | (at_builtin;go_loud (refine zbq _ rfl _ _ rfl w.heap.size _ [] [] _ _ _ rfl rfl OA.out (ziE _ _ (by simp only[maxLen];omega)) (by simp) (fun e=>by cases e) (by simp) HWA.out ?_;intro v9 w9 hown9 hg9 hat9;have B9:=Hh (BA.out.grown hg9 BA.out.size (fun q hq=>by have h1:=ST3.out.size;cases hq;exact h1));clear hg9 hat9;obtain⟨A9,c9,hv9,hcs9,hna9,-⟩:=hown9.cs (fun u hu=>by cases hu);rw[List.nil_append] at hcs9;rw[List.nil_append,List.length_nil] at hv9;subst hv9;have hc9:=hcs9.cap;have CS9:=Hh hcs9;have NA9:=Hh hna9;clear hown9 hcs9 hna9)))
       have HRL:=Hh (show([]:List Cv).length=0 from rfl);have HRN:=Hh (show A9=none→c9=0 from NA9.out);refine wp_region_noPanic ?_;refine wp_region_held (S:=fun w'=>w'.cell? ⟨b,off+i*5,none⟩=some (.bool x.sx)∧w'.cell? ⟨b,off+i*5+1,none⟩=some (.slice x.ax x.xs.length x.cx)∧w'.cell? ⟨b,off+i*5+2,none⟩=some (.bool x.sy)∧w'.cell? ⟨b,off+i*5+3,none⟩=some (.slice x.ay x.ys.length x.cy)∧w'.cell? ⟨b,off+i*5+4,none⟩=some (.int .u8 x.st)) (by kernel_rfl) ?_;obtain⟨W0,hW0⟩:∃W0:World,W0=(w9).drew:=⟨_,rfl⟩;have B0:=Hh (show Below wr.heap.size wr W0 by rw[hW0];exact zaa B9.out 1);have R0:=Hh (show Cs W0 A9 c9 [] by rw[hW0];exact(CS9.out).below (zaa (Below.refl _ _) 1));have hS0:=HCX2.out.below (B0.out.block b HBL2.out);change wpAnyH _ _ _ _ _ _ _ _ (w9).drew;rw[←hW0];clear hW0;refine Tk1 (v:=?_) 0 hS0 ?_ ?_;rotate_left
       ·rintro w' ⟨_,_,_,_,_⟩;go_simp;first|done|with_reducible rfl|rfl|(rw[if_pos HPD.out])
       simp only[Act.put,LA];refine Tk1 (v:=?_) 1 hS0 ?_ ?_;rotate_left
       ·rintro w' ⟨_,_,_,_,_⟩;go_simp;first|done|with_reducible rfl|rfl|(rw[if_pos HPD.out])
       simp only[Act.put,LA];refine Tk1 (v:=?_) 2 hS0 ?_ ?_;rotate_left
       ·rintro w' ⟨_,_,_,_,_⟩;go_simp;first|done|with_reducible rfl|rfl|(rw[if_pos HPD.out])
       simp only[Act.put,LA];refine Tk1 (v:=?_) 3 hS0 ?_ ?_;rotate_left
       ·rintro w' ⟨_,_,_,_,_⟩;go_simp;first|done|with_reducible rfl|rfl|(rw[if_pos HPD.out])
       simp only[Act.put,LA];refine Tk1 (v:=?_) 4 hS0 ?_ ?_;rotate_left
       ·rintro w' ⟨_,_,_,_,_⟩;go_simp;first|done|with_reducible rfl|rfl|(rw[if_pos HPD.out])
       simp only[Act.put,LA];refine Tk1 (v:=?_) 5 hS0 ?_ ?_;rotate_left
       ·rintro w' ⟨_,_,_,_,_⟩;go_simp;first|done|with_reducible rfl|rfl|(rw[if_pos HPD.out])
       simp only[Act.put,LA];refine Tk1 (v:=?_) 6 hS0 ?_ ?_;rotate_left
       ·rintro w' ⟨_,_,_,_,_⟩;go_simp;first|done|with_reducible rfl|rfl|(rw[if_pos HPD.out])
       simp only[Act.put,LA];refine Tk1 (v:=?_) 7 hS0 ?_ ?_;rotate_left
       ·rintro w' ⟨_,_,_,_,_⟩;go_simp;first|done|with_reducible rfl|rfl|(rw[if_pos HPD.out])
       simp only[Act.put,LA];refine Tk1 (v:=?_) 10 hS0 ?_ ?_;rotate_left
       ·rintro w' ⟨_,_,_,_,_⟩;go_simp;first|done|with_reducible rfl|rfl|(rw[if_pos HPD.out])
       simp only[Act.put,LA];refine Rd1 8 fun K hK=>?_;go_simp;obtain⟨g1,hg1⟩:∃g,g=W0.heap.size:=⟨_,rfl⟩;obtain⟨W1,hW1⟩:∃V:World,V=W0.alloc (.cells #[.bool x.sx,.slice x.ax x.xs.length x.cx,.bool x.sy,.slice x.ay x.ys.length x.cy,.int .u8 x.st] 70):=⟨_,rfl⟩;have B1:=Hh (show Below wr.heap.size wr W1 by rw[hW1];exact B0.out.alloc B0.out.size _);have R1:=Hh (show Cs W1 A9 c9 [] by rw[hW1];exact R0.out.below ((Below.refl _ _).alloc (Nat.le_refl _) _));have X1:=Hh (show ∀j u,(cvcs [x])[j]?=some u→W1.cell? ((⟨g1,0,none⟩:Addr).add j)=some u by rw[hW1,hg1];exact zcB W0 x);rw[←hg1,←hW1];clear hg1 hW1;refine hK.out _ _ (HCX2.out.below (B1.out.block b HBL2.out)) (fun hS1=>?_);clear hK K;refine Rd1 9 fun K hK=>?_;refine zaW (.tmp 61) (.tmp 66) rfl x (some ⟨g,0,none⟩) p d (M.take p) ⟨g1,0,none⟩ 1 rfl rfl HTP.out ((((HCS.out.below HBB.out)).below B1.out).cut p) (fun e=>by cases e) X1.out (by omega) ?_;intro v2 W2 ho hgw;simp only[Act.put,LA];have B2:=Hh (B1.out.grown hgw B1.out.size (fun q hq=>by cases hq));have R2:=Hh (R1.out.below ((Below.refl _ _).grown hgw (Nat.le_refl _) (fun q hq=>by cases hq)));have O2:=Hh (OwnC.mono ho (show w.heap.size≤W1.heap.size from Nat.le_trans HB.out.size (Nat.le_trans HBB.out.size B1.out.size)));have L2:=Hh (show ∀q,v2.ownBlock=some q→wr.heap.size≤q from fun q hq=>Nat.le_trans B1.out.size (ho.lt q hq).1);refine hK.out _ _ (HCX2.out.below (B2.out.block b HBL2.out)) (fun hS2=>?_);clear hK K ho hgw;refine Rd1 11 fun K hK=>?_;refine zbc (.tmp 67) (.tmp 68) rfl w.heap.size v2 (M.take p++[x]) [] A9 (0) (c9) rfl rfl O2.out R2.out HRL.out HRN.out (by rw[List.length_append,HTP.out,List.length_singleton];omega) (Nat.le_trans HB.out.size (Nat.le_trans HBB.out.size B2.out.size)) ?_;intro v3 W3 ho hgw hat;simp only[Act.put,LA];have B3:=Hh (B2.out.grown hgw B2.out.size (fun q hq=>L2.out q hq));have O3:=Hh ho;refine hK.out _ _ (HCX2.out.below (B3.out.block b HBL2.out)) (fun hS3=>?_);clear hK K ho hgw hat;refine Rd1 12 fun K hK=>?_;go_simp;refine hK.out _ _ (HCX2.out.below (B3.out.block b HBL2.out)) (fun hS4=>?_);clear hK K;refine wpAnyH_done (by kernel_rfl) ?_ _;refine NoPanic.normal ?_;go_wp2_with fail;go_roundw
       case rel =>
        refine⟨i+1,by omega,by go_num,?_,HB.out.trans ((HBB.out.trans (B3.out.mono HBB.out.size)).mono HB.out.size)⟩;rw[HPUT.out];exact O3.out
       case measure=>simp[intOf];omega
  -- the end
  ·obtain rfl:i=n:=by omega
   have t1:decide ((i:Int)<(i:Int))=false:=decide_eq_false (by omega);obtain⟨B,hB⟩:∃B,B=wr.heap.size:=⟨_,rfl⟩;have HBS:=Hh hB;clear hB;go_wp2_with fail;go_loopw [9,8] (fun z v wx=>∃(q:Nat),q≤m∧z=.int .i64 q∧OwnC wx B v ((M.take q).filter fun u=>u.st != 0)∧Below wr.heap.size wr wx) (fun z _ _=>m-(intOf z).toNat)
   case atStart=>exact⟨0,Nat.zero_le _,rfl,OwnC.nil _ _,Below.refl _ _⟩
   case round =>
    obtain⟨q,hq,rfl,hov,hbb⟩:=hrel;have HOV:=Hh hov;have HBB:=Hh hbb;clear hov hbb;by_cases hqm:q<m
    ·have k1:(q:Int)<(m:Int):=by omega
     have k2:(0:Int)≤(q:Int):=by omega
     have t2:decide ((q:Int)<(m:Int))=true:=decide_eq_true k1;obtain⟨g,og,rfl,hgl,hgc⟩:=(HCS.out.below HBB.out).at_ (by rw[←HML.out];omega)
     have hcy:=hgc q (by rw[←HML.out];exact hqm);have hmy:=zdj (l:=M) (i:=q) (by rw[←HML.out];exact hqm);obtain⟨y,hy⟩:∃y,y=cat M q:=⟨_,rfl⟩;rw[←hy] at hcy hmy;have HNX:=Hh (zkV (by rw[←HML.out];exact hqm) hy);have HLE:=Hh (show((M.take q).filter fun u=>u.st != 0).length≤q from Nat.le_trans (List.length_filter_le _ _) (by rw[List.length_take];omega));have HYU:=Hh ((HCU.out y (HIN.out y hmy)).below HBB.out);have p3:=HYU.out.1.cap;have p4:=HYU.out.2.1.cap;obtain⟨c1,c2,c3,c4,c5⟩:=hcy;clear hy hgc hgl hqm hmy;by_cases hst:y.st=0
     ·have t3:((y.st:Int)!=0)=false:=by rw[hst];rfl
      have HST:=Hh hst;clear hst;go_wp2_with fail;go_roundw
      case rel =>
       refine⟨q+1,by omega,by go_num,?_,HBB.out⟩;rw[HNX.out,if_pos HST.out,List.append_nil];exact HOV.out
      case measure=>simp[intOf];omega
     ·have t3:((y.st:Int)!=0)=true:=by rw[bne_iff_ne];omega
      have HST:=Hh hst;have hbs:B≤wr.heap.size:=by rw[HBS.out];exact HBB.out.size
      have HBW:=Hh hbs;clear hst hbs;go_wp2_with (first
       | (at_builtin;go_loud (refine zcC _ rfl _ _ rfl B _ ((M.take q).filter fun u=>u.st != 0) y _ 1 rfl rfl (HOV.out.alloc _) (zcB _ y) (by have:=HLE.out;omega) (Nat.le_trans HBW.out (by simp)) ?_;intro v5 w5 hown5 hg5 hk5;have HO5:=Hh hown5;have HG5:=Hh hg5;clear hown5 hg5 hk5)))
      go_roundw
      case rel =>
       refine⟨q+1,by omega,by go_num,?_,((HBB.out.alloc HBB.out.size _).grown HG5.out (Nat.le_trans HBB.out.size (by simp)) (fun k hk=>by rw[←HBS.out];exact(HOV.out.lt k hk).1))⟩;rw[HNX.out,if_neg HST.out];exact HO5.out
      case measure=>simp[intOf];omega
    ·obtain rfl:q=m:=by omega
     have t2:decide ((q:Int)<(q:Int))=false:=decide_eq_false (by omega);have hfl:(M.take q).filter (fun u=>u.st != 0)=M.filter (fun u=>u.st != 0):=by rw[HML.out,List.take_length]
     have HFL:=Hh hfl;clear hfl;go_wp2_with fail;go_ret;refine⟨_,M.filter fun u=>u.st != 0,rfl,ztK HM.out HN.out,fun u hu=>HIN.out u (List.mem_filter.1 hu).1,?_,HB.out.trans (HBB.out.mono HB.out.size)⟩;rw[←HFL.out];exact OwnC.mono HOV.out (by rw[HBS.out];exact HB.out.size)
theorem zaJ (A:Option Addr)(c n:Nat)(l:List Nd)(w:World)(h:Ns w A c l)(hn:l.length=n) :
  Calls Tryz.prog 20 #[.agg #[.slice A n c]] w fun e w'=>e=.returned (.int .i64 (zaB l))∧Below w.heap.size w w':=by
 have hcap:=h.cap;rw[hn] at hcap;have HB:=Hh ((Below.refl w.heap.size w).alloc (Nat.le_refl _) (.cells #[.slice A n c] 28));by_cases h0:n=0
 ·have hr:zaB l=0:=by
   unfold zaB;rw[if_pos (List.eq_nil_of_length_eq_zero (hn.trans h0))]
  rw[hr];have t1:((n:Int)==0)=true:=by rw[h0];rfl
  clear h0 hn hr h;go_enter Tryz.func20,Tryz.ntmps20;go_wp2_with fail;go_ret;exact⟨rfl,HB.out⟩
 ·obtain⟨b,off,rfl,hb,hc⟩:=h.at_ (by omega)
  obtain⟨p,rfl⟩:∃p,n=p+1:=⟨n-1,by omega⟩;have c1:=(hc p (by omega)).1;have hr:zaB l=(at_ l p).lv:=by
   unfold zaB;rw[if_neg (fun e=>by rw[e] at hn;cases hn),hn];rfl
  rw[hr];generalize (at_ l p).lv=u at *;have t1:(((p+1:Nat):Int)==0)=false:=beq_eq_false_iff_ne.2 (by omega);have t2:((p:Int)+1==0)=false:=beq_eq_false_iff_ne.2 (by omega);have i1:(p:Int)<(p:Int)+1:=by omega
  clear h0 hn hr h hc;go_enter Tryz.func20,Tryz.ntmps20;go_wp2_with fail;go_ret;exact⟨rfl,HB.out⟩
end Go.Proofs.YtcippfaljoagaaaGreatDoor

namespace Go.Proofs.YtcippfaljoagaaaGreatDoor
theorem ziF {P:Program}{md:Region.Mode}{ops:Array Oper}{Q:Exit→Act→World→Prop}{S:World→Prop}{T:Type}(rank:T→Nat)(mask:T→Array Bool)(left:T→Nat)(inv:T→Act→World→Prop)
  (h:∀s,(∀s',rank s'<rank s→∀a w,inv s' a w→wpAnyH P md ops Q S (left s') (mask s') a w)→∀a w,inv s a w→wpAnyH P md ops Q S (left s) (mask s) a w) :
  ∀(s:T) (a:Act) (w:World),inv s a w→wpAnyH P md ops Q S (left s) (mask s) a w:=by
 have key:∀(n:Nat) (s:T),rank s≤n→∀(a:Act) (w:World),inv s a w→wpAnyH P md ops Q S (left s) (mask s) a w:=by
  intro n
  induction n with
  | zero=>exact fun s hs=>h s (fun s' hs'=>by omega)
  | succ n ih=>exact fun s hs=>h s (fun s' hs'=>ih s' (by omega))
 exact fun s=>key (rank s) s (Nat.le_refl _)
theorem zhk {P:Program}{md:Region.Mode}{ops:Array Oper}{Q:Exit→Act→World→Prop}{S:World→Prop}{T:Type}(rank:T→Nat)(mask:T→Array Bool)(left:T→Nat)(inv:T→Act→World→Prop)
  (h:∀s,(∀s' k m,rank s'<rank s→k=left s'→m=mask s'→∀a w,inv s' a w→wpAnyH P md ops Q S k m a w)→∀a w,inv s a w→wpAnyH P md ops Q S (left s) (mask s) a w) :
  ∀(s:T) (k:Nat) (m:Array Bool),k=left s→m=mask s→∀(a:Act) (w:World),inv s a w→wpAnyH P md ops Q S k m a w:=by
 intro s k m hk hm a w hi;subst hk hm;exact ziF rank mask left inv (fun s ih=>h s (fun s' k m hr hk hm a w hi=>by subst hk hm;exact ih s' hr a w hi)) s a w hi
end Go.Proofs.YtcippfaljoagaaaGreatDoor
