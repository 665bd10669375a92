import Derived.Test.YtikehjindobpkaaGreatGNcOr
import Derived.Laws.EntriesVeiled
import Derived.Test.YtikehjindobpkaaGreatGNcPB
import Derived.LoopN

set_option linter.unusedVariables false
set_option linter.unusedSimpArgs false
set_option maxRecDepth 100000
set_option maxHeartbeats 6400000
namespace Go.Proofs.YtikehjindobpkaaGreat
open Go.RowKit Nds
theorem zvi (A:Option Addr)(c n:Nat)(l:List Nd)(k:Int)(q:List Nd)(qn:Nat)(er:Int)(w:World)(h:Ns w A c l)(hn:l.length=n)(hn9:n≤900000)(hA:A=none→c=0)(hq:ofQ l k=q)(hqn:q.length=qn)(he:ofE l k=er) :
  Calls Tryz.prog 53 #[.slice A n c,.int .i64 k] w fun e w'=>∃A' c',e=.returned (.tuple #[.agg #[.slice A' qn c'],.int .i64 er])∧Ns w' A' c' q∧(A'=none→c'=0)∧Below w.heap.size w w' :=
 (zub A c n l k w h hn hn9 hA).mono fun e w' ⟨A',c',h1,h2,h3,h4⟩=>⟨A',c',by rw[←hqn,←hq,←he];exact h1,by rw[←hq];exact h2,h3,h4⟩
structure Al (w W:World)(L:List (Option Addr × Nat × List Nd))(M:List (Nat × Value)):Prop where
 sn:Sn w W L
 bx:∀t∈M,W.heap[t.1]?=some (.cells #[t.2] 26)
theorem Al.start (w:World):Al w w [] []:=⟨Sn.start w,by simp⟩
theorem Al.step {w W W':World}{L:List (Option Addr × Nat × List Nd)}{M:List (Nat × Value)}(s:Al w W L M)(b:Below W.heap.size W W'):Al w W' L M :=
 ⟨s.sn.step b,fun t ht=>(b.block t.1 (zvh (s.bx t ht))).trans (s.bx t ht)⟩
theorem Al.alloc {w W:World}{L:List (Option Addr × Nat × List Nd)}{M:List (Nat × Value)}(s:Al w W L M)(o:Obj):Al w (W.alloc o) L M:=s.step ((Below.refl _ W).alloc (Nat.le_refl _) o)
theorem Al.addN {w W:World}{L:List (Option Addr × Nat × List Nd)}{M:List (Nat × Value)}(s:Al w W L M){A:Option Addr}{c:Nat}{l:List Nd}(h:Ns W A c l):Al w W ((A,c,l) :: L) M:=⟨s.sn.add h,s.bx⟩
theorem Al.addB {w W:World}{L:List (Option Addr × Nat × List Nd)}{M:List (Nat × Value)}(s:Al w W L M)(v:Value):Al w (W.alloc (.cells #[v] 26)) L ((W.heap.size,v) :: M) :=
 ⟨(s.alloc _).sn,fun t ht=>by
  rcases List.mem_cons.1 ht with rfl|ht
  ·exact heap_alloc_new W _
  ·exact(s.alloc _).bx t ht⟩
theorem Al.getN {w W:World}{L:List (Option Addr × Nat × List Nd)}{M:List (Nat × Value)}(s:Al w W L M){A:Option Addr}{c:Nat}{l:List Nd}(h:(A,c,l)∈L):Ns W A c l:=s.sn.get h
theorem Al.getB {w W:World}{L:List (Option Addr × Nat × List Nd)}{M:List (Nat × Value)}(s:Al w W L M){g:Nat}{v:Value}(h:(g,v)∈M):W.cell? ⟨g,0,none⟩=some v:=zrG (s.bx _ h)
theorem zvj {l:List Nd}{t:Tr}:∀(m:Nat) (cur:List Nd) (p:Nat),(at_ cur p).lv≤m→SS l t cur p→∃cur' p',SS l t cur' p'∧holT (den cur' (p'+1))=false:=by
 intro m
 induction m with
 | zero =>
  intro cur p hm h;have:=zaJ (zai h.1 h.2.1);omega
 | succ m ih =>
  intro cur p hm h;cases hh:holT (den cur (p+1)) with
  | false=>exact⟨cur,p,h,hh⟩
  | true =>
   refine ih _ _ ?_ (h.next hh);rw[zdw];show(at_ cur p).lv-1≤_;omega
theorem zuc {l:List Nd}(hl:zad l=true){n:Nat}(hn:n≤l.length):(OfL l n).length≤l.length+1328:=by
 cases n with
 | zero =>
  unfold OfL;rw[zaw,ztJ];exact Nat.zero_le _
 | succ p =>
  by_cases he:den l (p+1)=.e
  ·unfold OfL;rw[he,ztJ];exact Nat.zero_le _
  ·have hs:=SS.start hl (p:=p) (by omega) he;have hv:=zaJ (zai hl (i:=p) (by omega));obtain⟨cur,q,h1,h2⟩:=zvj 1329 l p hv.2 hs;have h3:=h1.len;have h4:=zoL h1.1 (q+1) [] (by have:=h1.2.1;omega) (zky cur);have h5:=h4.len;have h6:den cur (q+1)=shrT (den l (p+1)):=by rw[←h1.2.2.2.1,zcF h2]
   rw[h6] at h5;exact Nat.le_trans h5 h3
theorem zud (l:List Nd)(k:Int):(ofQ l k).length≤l.length+1328:=by
 unfold ofQ;split
 ·rename_i h;unfold okB at h;rw[Bool.and_eq_true,decide_eq_true_iff] at h;exact zuc h.1 (by omega)
 ·exact Nat.zero_le _
end Go.Proofs.YtikehjindobpkaaGreat

namespace Go.Proofs.YtikehjindobpkaaGreat
open Go.RowKit Nds Num Go.Shelf
theorem OwnC.mono {w:World}{base base':Nat}{v:Value}{l:List Cv}(h:OwnC w base v l)(hb:base'≤base):OwnC w base' v l:=by
 refine⟨h.1,?_⟩;rcases h.2 with h|⟨g,cap,cur,e,hb',rest⟩
 ·exact .inl h
 ·exact .inr ⟨g,cap,cur,e,by omega,rest⟩
def zue (l:List Cv)(w:World)(e:Ending)(w':World):Prop :=
 ∃v out,e=.returned v∧out.map Cv.cl=zau (l.map Cv.cl)∧(∀x∈out,x∈l)∧OwnC w' w.heap.size v out∧out.length≤l.length∧Below w.heap.size w w'
theorem zjx (A:Option Addr)(c n:Nat)(l:List Cv)(w:World)(h:Cs w A c l)(hn:l.length=n)(hR:∀v∈l,CvR v)(h0:0<n)(hn9:n≤900000) :
  Calls Tryz.prog 66 #[.slice A n c] w (zue l w):=by
 have hcap:=h.cap;rw[hn] at hcap;obtain⟨W,hW⟩:∃W:World,W=w.alloc (.cells #[.slice A n c] 22):=⟨_,rfl⟩;have hb:Below w.heap.size w W:=by rw[hW];exact(Below.refl _ w).alloc (Nat.le_refl _) _
 have hsz:W.heap.size=w.heap.size+1:=by rw[hW];simp
 have hbx:=zaI w (.slice A n c) 22;rw[←hW] at hbx;obtain⟨i0,hi,hz0,hz1,hz2⟩:=info_parts Tryz.infoI;have HI:=Hh (And.intro hi (And.intro hz0 (And.intro hz1 hz2)));have HN:=Hh hn;have HR:=Hh hR;have HW:=Hh hW;have HB:=Hh hb;have HSZ:=Hh hsz;have HC:=Hh h;have HBX:=Hh hbx;obtain⟨b1,b2⟩:=hbx;rw[hW] at b1 b2;clear h hi hz0 hz1 hz2 hR hW hb hsz;go_enter Tryz.func66,Tryz.ntmps66;go_wp2_with (first
  | (at_make;go_loud (rw[←HW.out];refine wpList_make_full _ rfl _ _ 118 rfl w.heap.size 3 i0 _ 1 Tryz.underlying118 HI.out.1 HI.out.2.1 HI.out.2.2.1 .i64 .i64 _ _ n rfl rfl (by omega) (by omega) (by rw[HI.out.2.2.2];omega) (by unfold maxLen;omega) HB.out.size ?_;intro w0 own grow)))
 obtain⟨g,hg⟩:∃g,g=W.heap.size:=⟨_,rfl⟩;rw[←hg] at own;rw[←hg];have HGE:=Hh (hg.trans HSZ.out);have od:=OwnD.made own;have HB0:=Hh (HB.out.grown grow HB.out.size (fun k hk=>by cases hk));have hbx0:=grow.cell HBX.out.1 (by simp);clear own hg;have HGR:=Hh grow;clear grow;go_loopw [14] (fun z1 wr=>∃(q:Nat) (ds:List Nat),q≤n∧z1=.int .i64 q∧OwnD wr w.heap.size g n ds∧(∀j,j<q→ds.getD j 0=j)∧wr.cell? ⟨w.heap.size,0,none⟩=some (.slice A n c)∧Below w.heap.size w wr) (fun z1 _=>n-(intOf z1).toNat)
 case atStart=>exact⟨0,_,by omega,rfl,od,fun j hj=>by omega,hbx0,HB0.out⟩
 case round =>
  obtain⟨q,ds,hq,rfl,hod,hds,hbw,hbb⟩:=hrel;have HQ:=Hh hds;have HOD:=Hh hod;have HBB:=Hh hbb;have HBW:=Hh hbw;clear hds hbb od;by_cases hlt:q<n
  ·have i1:(q:Int)<(n:Int):=by omega
   have i2:(0:Int)≤(q:Int):=by omega
   have t1:decide ((q:Int)<(n:Int))=true:=decide_eq_true i1;have cc:=hod.cell hlt;have cf:=hod.free q;clear hod;go_wp2_with fail;go_roundw
   case rel =>
    refine⟨q+1,ds.set q q,by omega,by go_num,HOD.out.set q q,fun j hj=>?_,?_,?_⟩
    ·rw[List.getD_eq_getElem?_getD,List.getElem?_set];by_cases hjq:q=j
     ·subst hjq;rw[if_pos rfl,if_pos (by rw[HOD.out.1];exact hlt)];rfl
     ·rw[if_neg hjq,←List.getD_eq_getElem?_getD];exact HQ.out j (by omega)
    ·rw[World.cell?_setCell_other _ _ _ _ (by simp;have:=HGE.out;omega)];exact HBW.out
    ·exact HBB.out.setCell (p:=⟨g,q,none⟩) (by show w.heap.size≤g;have:=HGE.out;omega) _
   case measure=>simp[intOf];omega
  ·obtain rfl:q=n:=by omega
   have t1:decide ((q:Int)<(q:Int))=false:=decide_eq_false (by omega);have hso:=zpa w.heap.size A c q l wr hbw (HC.out.below HBB.out) HN.out HR.out g q h0 (by omega) HOD.out.lt.2 (by have:=HGE.out;omega) (fun a ea e=>by obtain⟨b',off',e',hb',_⟩:=HC.out.at_ (by rw[HN.out];exact h0);rw[ea] at e';cases e';have:=HGE.out;dsimp only at e;omega)
    (fun v hv=>zva (HC.out.1 v hv) (by have:=HGE.out;omega))
    (fun i hi=>by have:=HOD.out.cell hi;rwa [HQ.out i hi] at this) HOD.out.free
   have HSO:=Hh hso;clear hso hod hbw;go_wp2_with (go_at_call 91;go_loud (refine HSO.out.mono ?_;rintro e w2 ⟨rfl,o,hperm,hsrt,hoc,hg2⟩));have HPM:=Hh hperm;have HSR:=Hh hsrt;have HLO:=Hh (show o.length=q by rw[hperm.length_eq,List.length_range]);have hbx2:=hg2.cell HBW.out (by intro e;have h1:=HGE.out;have h2:=Option.some.inj e;dsimp only at h2;omega);have hb2:Below w.heap.size w w2:=HBB.out.grown hg2 HBB.out.size (fun k e=>by have h1:=HGE.out;have h2:=Option.some.inj e;omega);have hs2:w.heap.size+2≤w2.heap.size:=by have h1:=HGE.out;have h2:=HOD.out.lt.2;have h3:=hg2.size;omega
   have HB2:=Hh hb2;have HS2:=Hh hs2;have HOC2:=Hh hoc;have HBX2:=Hh hbx2;clear hperm hsrt hoc hg2 hbx2 hb2 hs2;have hlo9:∀i,i<q→o[i]?.getD 0<q:=fun i hi=>by
    have hoi:o[i]?.getD 0∈o:=by rw[List.getElem?_eq_getElem (by rw[HLO.out];omega)];exact List.getElem_mem _
    exact List.mem_range.1 (HPM.out.mem_iff.1 hoi)
   have HLO9:=Hh hlo9;clear hlo9;go_loopw [27,5] (fun z1 z2 wr=>∃(p:Nat),p≤q∧z1=.int .i64 p∧OwnC wr (w.heap.size+2) z2 (zbx l o p)∧(∀i,i<q→wr.cell? ⟨g,i,none⟩=some (.int .i64 ((o[i]?.getD 0:Nat):Int)))∧wr.cell? ⟨w.heap.size,0,none⟩=some (.slice A q c)∧Below w.heap.size w wr∧w.heap.size+2≤wr.heap.size) (fun z1 _ _=>q-(intOf z1).toNat)
   case atStart=>exact⟨0,by omega,rfl,OwnC.nil _ _,HOC2.out,HBX2.out,HB2.out,HS2.out⟩
   case round =>
    obtain⟨p,hp,rfl,hown,hoc,hbw,hbb,hsw⟩:=hrel;have HOW:=Hh hown;have HOC:=Hh hoc;have HBW':=Hh hbw;have HBB':=Hh hbb;have HSW:=Hh hsw;by_cases hlt:p<q
    ·have i1:(p:Int)<(q:Int):=by omega
     have i2:(0:Int)≤(p:Int):=by omega
     have t1:decide ((p:Int)<(q:Int))=true:=decide_eq_true i1;obtain⟨b,off,hAe,hbl,hcl⟩:=(HC.out.below hbb).at_ (by rw[HN.out];exact h0)
     subst hAe;obtain⟨a,ha⟩:∃a,a=o[p]?.getD 0:=⟨_,rfl⟩;have ha9:a<q:=by rw[ha];exact HLO9.out p hlt
     have oc1:=hoc p hlt;rw[←ha] at oc1;have HOA:=Hh ha;obtain⟨c1,c2,c3,c4,c5⟩:=hcl a (by rw[HN.out];exact ha9);obtain⟨x,hx⟩:∃x,x=cat l a:=⟨_,rfl⟩;rw[←hx] at c1 c2 c3 c4 c5;have HX:=Hh hx;have HXU:=Hh (show CvU wr x by rw[hx];exact(HC.out.below hbb).1 _ (zaB (by rw[HN.out];exact ha9)));have HXR:=Hh (show CvR x by rw[hx];exact HR.out _ (zaB (by rw[HN.out];exact ha9)));have hx1:=HXU.out.1.cap;have hx2:=HXU.out.2.1.cap;have a1:(0:Int)≤(a:Int):=by omega
     have a2:(a:Int)<(q:Int):=by omega
     have HCV:=Hh (show CvAt wr b (off+a*5) x from⟨c1,c2,c3,c4,c5⟩);have HCL:=Hh hcl;have HLb:=Hh hbl;have HLG:=Hh (zaf oc1);have HLB:=Hh (zaf hbw);have jw:IntKind.i64.wrap ((p:Int)+1)=(p:Int)+1:=by simp[IntKind.wrap,IntKind.bits,IntKind.signed];omega
     by_cases hlast:p+1<q
     ·obtain⟨e,he⟩:∃e,e=o[p+1]?.getD 0:=⟨_,rfl⟩;have he9:e<q:=by rw[he];exact HLO9.out _ hlast
      have oc2:=hoc (p+1) hlast;rw[←he] at oc2;have HOE:=Hh he;obtain⟨d1,d2,d3,d4,d5⟩:=hcl e (by rw[HN.out];exact he9);obtain⟨y,hy⟩:∃y,y=cat l e:=⟨_,rfl⟩;rw[←hy] at d1 d2 d3 d4 d5;have HY:=Hh hy;have HYU:=Hh (show CvU wr y by rw[hy];exact(HC.out.below hbb).1 _ (zaB (by rw[HN.out];exact he9)));have HYR:=Hh (show CvR y by rw[hy];exact HR.out _ (zaB (by rw[HN.out];exact he9)));have hy1:=HYU.out.1.cap;have hy2:=HYU.out.2.1.cap;have b1:(0:Int)≤(e:Int):=by omega
      have b2':(e:Int)<(q:Int):=by omega
      have j1:(0:Int)≤(p:Int)+1:=by omega
      have j2:(p:Int)+1<(q:Int):=by omega
      have j3:decide ((p:Int)+1<(q:Int))=true:=decide_eq_true j2;have HCY:=Hh (show CvAt wr b (off+e*5) y from⟨d1,d2,d3,d4,d5⟩);have HO2:=Hh oc2;obtain⟨r,hr⟩:∃r,r=ordC x y:=⟨_,rfl⟩;have HRr:=Hh hr;have st:Gro wr wr.drew:=(Gro.refl wr).drewN 1;clear hx ha hy he hr hcl hoc hown hbb hsw;by_cases hz:r=0
      ·subst hz;have HKP:=Hh (show zbL l o p=false by
        unfold zbL;rw[←HOA.out,←HX.out,←HOE.out,←HY.out,←HRr.out,decide_eq_true (show p+1<o.length by rw[HLO.out];exact hlast)];rfl)
       go_wp2_with fail;go_region_held3 (fun w'=>w'.cell? ⟨w.heap.size,0,none⟩=some (.slice (some ⟨b,off,none⟩) q c)∧w'.cell? ⟨g,p+1,none⟩=some (.int .i64 (e:Int))∧(w'.cell? ⟨b,off+a*5,none⟩=some (.bool x.sx)∧w'.cell? ⟨b,off+a*5+1,none⟩=some (.slice x.ax x.xs.length x.cx)∧w'.cell? ⟨b,off+a*5+2,none⟩=some (.bool x.sy)∧w'.cell? ⟨b,off+a*5+3,none⟩=some (.slice x.ay x.ys.length x.cy)∧w'.cell? ⟨b,off+a*5+4,none⟩=some (.int .u8 x.st))∧(w'.cell? ⟨b,off+e*5,none⟩=some (.bool y.sx)∧w'.cell? ⟨b,off+e*5+1,none⟩=some (.slice y.ax y.xs.length y.cx)∧w'.cell? ⟨b,off+e*5+2,none⟩=some (.bool y.sy)∧w'.cell? ⟨b,off+e*5+3,none⟩=some (.slice y.ay y.ys.length y.cy)∧w'.cell? ⟨b,off+e*5+4,none⟩=some (.int .u8 y.st)))
        (first|go_keep|exact⟨k0,k9,⟨e1,e2,e3,e4,e5⟩,⟨f1,f2,f3,f4,f5⟩⟩)
        (first|(go_at_call 93;refine(zdg x y _ (HXU.out.below st.b) (HYU.out.below st.b) HXR.out HYR.out).mono ?_;rintro e w1 ⟨rfl,g1⟩;rw[←HRr.out];have k0:=((st.trans g1).b.cell (p:=⟨w.heap.size,0,none⟩) HLB.out).trans HBW'.out;have k9:=((st.trans g1).b.cell (p:=⟨g,p+1,none⟩) HLG.out).trans HO2.out;obtain⟨e1,e2,e3,e4,e5⟩:=HCV.out.below ((st.trans g1).b.block b HLb.out);obtain⟨f1,f2,f3,f4,f5⟩:=HCY.out.below ((st.trans g1).b.block b HLb.out)))
       all_goals
        have HG1:=Hh (st.trans g1);go_wp2_with fail;go_roundw
        case rel =>
         refine⟨p+1,by omega,by go_num,?_,?_,?_,?_,?_⟩
         ·rw[zcw,if_neg (by rw[HKP.out];simp)];exact(HOW.out.kept (gbN HG1.out.b) (zbt (fun k hk e=>by cases e)))
         ·exact fun j hj=>(HG1.out.b.cell (p:=⟨g,j,none⟩) HLG.out).trans (HOC.out j hj)
         ·exact(HG1.out.b.cell (p:=⟨w.heap.size,0,none⟩) HLB.out).trans HBW'.out
         ·exact HBB'.out.trans (HG1.out.b.mono HBB'.out.size)
         ·exact Nat.le_trans HSW.out HG1.out.b.size
        case measure=>simp[intOf];omega
      ·have t2:(r==0)=false:=by rw[beq_eq_false_iff_ne];exact hz
       have HNO:=Hh (show(decide (p+1<o.length)&&(ordC (cat l a) (cat l (o[p+1]?.getD 0))==0))=false by rw[←HX.out,←HOE.out,←HY.out,←HRr.out,t2,Bool.and_false]);clear hz;go_wp2_with fail;go_region_held3 (fun w'=>w'.cell? ⟨w.heap.size,0,none⟩=some (.slice (some ⟨b,off,none⟩) q c)∧w'.cell? ⟨g,p+1,none⟩=some (.int .i64 (e:Int))∧(w'.cell? ⟨b,off+a*5,none⟩=some (.bool x.sx)∧w'.cell? ⟨b,off+a*5+1,none⟩=some (.slice x.ax x.xs.length x.cx)∧w'.cell? ⟨b,off+a*5+2,none⟩=some (.bool x.sy)∧w'.cell? ⟨b,off+a*5+3,none⟩=some (.slice x.ay x.ys.length x.cy)∧w'.cell? ⟨b,off+a*5+4,none⟩=some (.int .u8 x.st))∧(w'.cell? ⟨b,off+e*5,none⟩=some (.bool y.sx)∧w'.cell? ⟨b,off+e*5+1,none⟩=some (.slice y.ax y.xs.length y.cx)∧w'.cell? ⟨b,off+e*5+2,none⟩=some (.bool y.sy)∧w'.cell? ⟨b,off+e*5+3,none⟩=some (.slice y.ay y.ys.length y.cy)∧w'.cell? ⟨b,off+e*5+4,none⟩=some (.int .u8 y.st)))
        (first|go_keep|exact⟨k0,k9,⟨e1,e2,e3,e4,e5⟩,⟨f1,f2,f3,f4,f5⟩⟩)
        (first|(go_at_call 93;refine(zdg x y _ (HXU.out.below st.b) (HYU.out.below st.b) HXR.out HYR.out).mono ?_;rintro e w1 ⟨rfl,g1⟩;rw[←HRr.out];have k0:=((st.trans g1).b.cell (p:=⟨w.heap.size,0,none⟩) HLB.out).trans HBW'.out;have k9:=((st.trans g1).b.cell (p:=⟨g,p+1,none⟩) HLG.out).trans HO2.out;obtain⟨e1,e2,e3,e4,e5⟩:=HCV.out.below ((st.trans g1).b.block b HLb.out);obtain⟨f1,f2,f3,f4,f5⟩:=HCY.out.below ((st.trans g1).b.block b HLb.out)))
       all_goals
        have HG1:=Hh (st.trans g1);have k0:=(HG1.out.b.cell (p:=⟨w.heap.size,0,none⟩) HLB.out).trans HBW'.out;obtain⟨e1,e2,e3,e4,e5⟩:=HCV.out.below (HG1.out.b.block b HLb.out);by_cases hst:x.st=0
        ·have t3:((x.st:Int)!=0)=false:=by rw[bne_eq_false_iff_eq];omega
         have HKP:=Hh (show zbL l o p=false by unfold zbL;rw[←HOA.out,←HX.out,hst];simp);go_wp2_with fail;go_roundw
         case rel =>
          refine⟨p+1,by omega,by go_num,?_,?_,?_,?_,?_⟩
          ·rw[zcw,if_neg (by rw[HKP.out];simp)];exact(HOW.out.kept (gbN HG1.out.b) (zbt (fun k hk e=>by cases e)))
          ·exact fun j hj=>(HG1.out.b.cell (p:=⟨g,j,none⟩) HLG.out).trans (HOC.out j hj)
          ·exact(HG1.out.b.cell (p:=⟨w.heap.size,0,none⟩) HLB.out).trans HBW'.out
          ·exact HBB'.out.trans (HG1.out.b.mono HBB'.out.size)
          ·exact Nat.le_trans HSW.out HG1.out.b.size
         case measure=>simp[intOf];omega
        ·have t3:((x.st:Int)!=0)=true:=by rw[bne_iff_ne];omega
         have HKP:=Hh (show zbL l o p=true by unfold zbL;rw[←HOA.out,HNO.out,←HX.out,bne_iff_ne.2 hst];rfl);go_wp2_with (at_builtin;go_loud (refine zbh _ rfl _ _ rfl (w.heap.size+2) _ (zbx l o p) x _ 1 rfl rfl ((HOW.out.kept (gbN HG1.out.b) (zbt (fun k hk e=>by cases e))).alloc _) (zbA _ x) (by have:=zfr l o p;omega) (by have h1:=HSW.out;have h2:=HG1.out.b.size;simp;omega) ?_;intro v5 w5 hown5 hg5 hk5;have HO5:=Hh hown5;have HG5:=Hh hg5;clear hown5 hg5 hk5));go_roundw
         case rel =>
          have HB5:Below (w.heap.size+2) wr w5:=((HG1.out.b.mono HSW.out).alloc (Nat.le_trans HSW.out HG1.out.b.size) _).grown HG5.out (by simp;have:=HSW.out;have:=HG1.out.b.size;omega) (fun k hk=>(HOW.out.lt k hk).1);refine⟨p+1,by omega,by go_num,?_,?_,?_,?_,?_⟩
          ·rw[zcw,if_pos HKP.out,←HOA.out,←HX.out];exact HO5.out
          ·exact fun j hj=>(HB5.cell (p:=⟨g,j,none⟩) (by show g<_;have:=HGE.out;omega)).trans (HOC.out j hj)
          ·exact(HB5.cell (p:=⟨w.heap.size,0,none⟩) (by show w.heap.size<_;omega)).trans HBW'.out
          ·exact HBB'.out.trans (HB5.mono (by omega))
          ·exact Nat.le_trans HSW.out HB5.size
         case measure=>simp[intOf];omega
     ·have j3:decide ((p:Int)+1<(q:Int))=false:=decide_eq_false (by omega);have HNO:=Hh (show(decide (p+1<o.length)&&(ordC (cat l a) (cat l (o[p+1]?.getD 0))==0))=false by rw[decide_eq_false (show ¬ p+1<o.length by rw[HLO.out];exact hlast),Bool.false_and]);clear hx ha hcl hoc hown hbb hsw;go_wp2_with fail;go_quiet (fail);have g0:Gro wr (wr.drewN nq):=(Gro.refl wr).drewN nq;have HG1:=Hh g0;have k0:=(HG1.out.b.cell (p:=⟨w.heap.size,0,none⟩) HLB.out).trans HBW'.out;obtain⟨e1,e2,e3,e4,e5⟩:=HCV.out.below (HG1.out.b.block b HLb.out);by_cases hst:x.st=0
      ·have t3:((x.st:Int)!=0)=false:=by rw[bne_eq_false_iff_eq];omega
       have HKP:=Hh (show zbL l o p=false by unfold zbL;rw[←HOA.out,←HX.out,hst];simp);go_wp2_with fail;go_roundw
       case rel =>
        refine⟨p+1,by omega,by go_num,?_,?_,?_,?_,?_⟩
        ·rw[zcw,if_neg (by rw[HKP.out];simp)];exact(HOW.out.kept (gbN HG1.out.b) (zbt (fun k hk e=>by cases e)))
        ·exact fun j hj=>(HG1.out.b.cell (p:=⟨g,j,none⟩) HLG.out).trans (HOC.out j hj)
        ·exact(HG1.out.b.cell (p:=⟨w.heap.size,0,none⟩) HLB.out).trans HBW'.out
        ·exact HBB'.out.trans (HG1.out.b.mono HBB'.out.size)
        ·exact Nat.le_trans HSW.out HG1.out.b.size
       case measure=>simp[intOf];omega
      ·have t3:((x.st:Int)!=0)=true:=by rw[bne_iff_ne];omega
       have HKP:=Hh (show zbL l o p=true by unfold zbL;rw[←HOA.out,HNO.out,←HX.out,bne_iff_ne.2 hst];rfl);go_wp2_with (at_builtin;go_loud (refine zbh _ rfl _ _ rfl (w.heap.size+2) _ (zbx l o p) x _ 1 rfl rfl ((HOW.out.kept (gbN HG1.out.b) (zbt (fun k hk e=>by cases e))).alloc _) (zbA _ x) (by have:=zfr l o p;omega) (by have h1:=HSW.out;have h2:=HG1.out.b.size;simp;omega) ?_;intro v5 w5 hown5 hg5 hk5;have HO5:=Hh hown5;have HG5:=Hh hg5;clear hown5 hg5 hk5));go_roundw
       case rel =>
        have HB5:Below (w.heap.size+2) wr w5:=((HG1.out.b.mono HSW.out).alloc (Nat.le_trans HSW.out HG1.out.b.size) _).grown HG5.out (by simp;have:=HSW.out;have:=HG1.out.b.size;omega) (fun k hk=>(HOW.out.lt k hk).1);refine⟨p+1,by omega,by go_num,?_,?_,?_,?_,?_⟩
        ·rw[zcw,if_pos HKP.out,←HOA.out,←HX.out];exact HO5.out
        ·exact fun j hj=>(HB5.cell (p:=⟨g,j,none⟩) (by show g<_;have:=HGE.out;omega)).trans (HOC.out j hj)
        ·exact(HB5.cell (p:=⟨w.heap.size,0,none⟩) (by show w.heap.size<_;omega)).trans HBW'.out
        ·exact HBB'.out.trans (HB5.mono (by omega))
        ·exact Nat.le_trans HSW.out HB5.size
       case measure=>simp[intOf];omega
    ·obtain rfl:p=q:=by omega
     have t1:decide ((p:Int)<(p:Int))=false:=decide_eq_false (by omega);clear hown hoc hbw hbb hsw;go_wp2_with fail;go_ret;refine⟨_,zbx l o p,rfl,zmV HN.out HPM.out HSR.out,fun v hv=>zmU HN.out HPM.out (Nat.le_refl _) hv,HOW.out.mono (by omega),by rw[HN.out];exact zfr l o p,HBB'.out⟩
end Go.Proofs.YtikehjindobpkaaGreat

namespace Go.Proofs.YtikehjindobpkaaGreat
open Go.RowKit Nds
structure Bd (W:World)(base bb bm:Nat)(v:Value)(out:List Nd):Prop where
 bx:W.heap[bb]?=some (.cells #[v,.map (some bm)] 131)
 o:OwnN W base v out
 k:KM W bm out
theorem Bd.c0 {W:World}{base bb bm:Nat}{v:Value}{out:List Nd}(h:Bd W base bb bm v out):W.cell? ⟨bb,0,none⟩=some v:=by
 rw[cell_of_row W bb _ _ _ _ h.bx];rfl
theorem Bd.c1 {W:World}{base bb bm:Nat}{v:Value}{out:List Nd}(h:Bd W base bb bm v out):W.cell? ⟨bb,1,none⟩=some (.map (some bm)):=by
 rw[cell_of_row W bb _ _ _ _ h.bx];rfl
theorem Bd.lt {W:World}{base bb bm:Nat}{v:Value}{out:List Nd}(h:Bd W base bb bm v out):bb<W.heap.size:=(Array.getElem?_eq_some_iff.1 h.bx).1
theorem Bd.next {W W1:World}{base bb bm:Nat}{v:Value}{out:List Nd}(h:Bd W base bb bm v out)(k:Below W.heap.size W W1):Bd W1 base bb bm v out :=
 ⟨(k.block bb h.lt).trans h.bx,h.o.gbr ⟨k.os,k.tape,k.output,k.size,fun i hi _=>k.block i hi⟩ (row:=none) (by cases v.ownBlock <;> simp),h.k.stay (k.block bm h.k.lt)⟩
def BdP (bb bm:Nat)(v:Value):Nat→Prop:=fun k=>k=bb∨k=bm∨v.ownBlock=some k
theorem zeU {w:World}{o:Oper}{a:Act}{K:Act→World→Prop}{Q:Exit→Act→World→Prop}(m x v:Operand)
  (hop:o.op=Op.mapUpdate 129 m x v) (b:Nat) (out:List Nd) (y:Nd) (u:Int)
  (hm:a.eval m=.map (some b)) (hx:a.eval x=ndv y) (hv:a.eval v=.int .i64 u) (hu:u=(out.length:Int)+1) (hown:KM w b out) (hS:∀y∈out,y.wf) (hy:y.wf) (hf:fnd out y=0)
  (h:∀w',KM w' b (out++[y])→w.grownBy w' (some b)→K (a.put o.dst undef) w'):Oper.wp Tryz.prog o a w K Q:=by
 subst hu;obtain⟨w',hrun,r1,r2⟩:=hown.putK hS y hy hf;unfold Oper.wp;simp[execOp,hop,hm,hx,hv,hrun,Result.andThen];exact h w' r1 r2
structure Bd_ (W:World)(base bb bm:Nat)(v:Value)(out:List Nd)(x:Nd):Prop where
 bx:W.heap[bb]?=some (.cells #[v,.map (some bm)] 131)
 o:OwnN W base v (out++[x])
 k:KM W bm out
theorem Bd_.c0 {W:World}{base bb bm:Nat}{v:Value}{out:List Nd}{x:Nd}(h:Bd_ W base bb bm v out x):W.cell? ⟨bb,0,none⟩=some v:=by
 rw[cell_of_row W bb _ _ _ _ h.bx];rfl
theorem Bd_.c1 {W:World}{base bb bm:Nat}{v:Value}{out:List Nd}{x:Nd}(h:Bd_ W base bb bm v out x):W.cell? ⟨bb,1,none⟩=some (.map (some bm)):=by
 rw[cell_of_row W bb _ _ _ _ h.bx];rfl
theorem Bd_.lt {W:World}{base bb bm:Nat}{v:Value}{out:List Nd}{x:Nd}(h:Bd_ W base bb bm v out x):bb<W.heap.size:=(Array.getElem?_eq_some_iff.1 h.bx).1
def zrH (base bb bm:Nat)(v:Value)(r:List Nd × Nat)(w:World)(e:Ending)(w':World):Prop :=
 ∃v',e=.returned (.int .i64 (r.2:Int))∧Bd w' base bb bm v' r.1∧(∀k,v'.ownBlock=some k→v.ownBlock=some k∨w.heap.size≤k)∧Ky (BdP bb bm v) w w'
theorem znb (base bb bm:Nat)(v:Value)(out:List Nd)(x:Nd)(w:World)(h:Bd w base bb bm v out)(hg:zao out)(hx:x.wf)(hd:bb≠bm)(hb:bb<base∧bm<base)(hbs:base≤w.heap.size)(hlen:out.length≤900000) :
  Calls Tryz.prog 129 #[.pointer (some ⟨bb,0,none⟩),ndv x] w (zrH base bb bm v (add out x) w):=by
 obtain⟨W,hW⟩:∃W:World,W=w.alloc (.cells #[.int .i64 x.lv,.int .i64 x.a,.int .i64 x.b,.int .i64 x.c,.int .i64 x.d] 74):=⟨_,rfl⟩;have hB:Below w.heap.size w W:=by rw[hW];exact(Below.refl _ w).alloc (Nat.le_refl _) _
 have hbd:Bd W base bb bm v out:=h.next hB;have hxb:zbc W w.heap.size x:=by rw[hW];exact zbc.new w x
 obtain⟨c1,c2,c3,c4,c5⟩:=hxb.at_
 have d0:=hbd.c0;have d1:=hbd.c1;have hlk:=fun nq=>(hbd.next (zab (Below.refl _ W) nq)).k.lookK hg h.o.1 x hx;obtain⟨f,hf⟩:∃f,f=fnd out x:=⟨_,rfl⟩;rw[←hf] at hlk;have HF:=Hh hf;have HW:=Hh hW;have HB:=Hh hB;have HBD:=Hh hbd;have HXB:=Hh hxb;have HH:=Hh h;rw[hW] at c1 c2 c3 c4 c5 d0 d1 hlk;clear h hW hB hbd hxb hf;by_cases hz:f=0
 ·subst hz;go_enter Tryz.func129,Tryz.ntmps129;go_wp2_with fail;go_quiet (fail);go_wp2_with fail;have HF:=Hh (show(0:Nat)=fnd out x from HF.out);obtain⟨gx,hgx⟩:∃gx,gx=w.heap.size:=⟨_,rfl⟩;have HGX:=Hh hgx;rw[←hgx];have HXB':=Hh (show zbc W gx x by rw[hgx];exact HXB.out);clear hgx c1 c2 c3 c4 c5 d0 d1 hlk;refine wp_region_noPanic ?_;refine wp_region_held (S:=fun w'=>w'.cell? ⟨gx,0,none⟩=some (.int .i64 x.lv)∧w'.cell? ⟨gx,1,none⟩=some (.int .i64 x.a)∧w'.cell? ⟨gx,2,none⟩=some (.int .i64 x.b)∧w'.cell? ⟨gx,3,none⟩=some (.int .i64 x.c)∧w'.cell? ⟨gx,4,none⟩=some (.int .i64 x.d)) (by kernel_rfl) ?_;obtain⟨W0,hW0⟩:∃W0:World,W0=((w.alloc (.cells #[.int .i64 x.lv,.int .i64 x.a,.int .i64 x.b,.int .i64 x.c,.int .i64 x.d] 74)).drewN nq).drew:=⟨_,rfl⟩;have hb0:Below W.heap.size W W0:=by rw[hW0,←HW.out];exact zab (zab (Below.refl _ W) nq) 1
  have B0:=Hh (HBD.out.next hb0);have X0:=Hh (HXB'.out.stay (hb0.block gx HXB'.out.lt));have L0:=Hh (HB.out.trans (hb0.mono HB.out.size));have hS0:=X0.out.at_
  change wpAnyH _ _ _ _ _ _ _ _ ((w.alloc (.cells #[.int .i64 x.lv,.int .i64 x.a,.int .i64 x.b,.int .i64 x.c,.int .i64 x.d] 74)).drewN nq).drew;rw[←hW0];clear hW0 hb0;refine Tk1 (v:=?_) 0 hS0 ?_ ?_;rotate_left
  ·rintro w' ⟨s1,s2,s3,s4,s5⟩;go_simp;first|done|with_reducible rfl|rfl
  simp only[Act.put,LA];refine Tk1 (v:=?_) 1 hS0 ?_ ?_;rotate_left
  ·rintro w' ⟨s1,s2,s3,s4,s5⟩;go_simp;first|done|with_reducible rfl|rfl
  simp only[Act.put,LA];refine Tk1 (v:=?_) 2 hS0 ?_ ?_;rotate_left
  ·rintro w' ⟨s1,s2,s3,s4,s5⟩;go_simp;first|done|with_reducible rfl|rfl
  simp only[Act.put,LA];refine Tk1 (v:=?_) 3 hS0 ?_ ?_;rotate_left
  ·rintro w' ⟨s1,s2,s3,s4,s5⟩;go_simp;first|done|with_reducible rfl|rfl
  simp only[Act.put,LA];refine Tk1 (v:=?_) 5 hS0 ?_ ?_;rotate_left
  ·rintro w' ⟨s1,s2,s3,s4,s5⟩;go_simp;first|done|with_reducible rfl|rfl
  simp only[Act.put,LA];refine Rd2 4 6 (fun K hK=>?_) fun K hK=>?_
  ·have q0:=B0.out.c0;go_simp;refine hK.out _ _ X0.out.at_ (fun _=>?_)
   clear hK K q0;refine Rd1 6 fun K hK=>?_;go_simp;obtain⟨g1,hg1⟩:∃g,g=W0.heap.size:=⟨_,rfl⟩;obtain⟨W1,hW1⟩:∃Z:World,Z=W0.alloc (.cells #[.int .i64 x.lv,.int .i64 x.a,.int .i64 x.b,.int .i64 x.c,.int .i64 x.d] 74):=⟨_,rfl⟩;have hbl:=(Below.refl W0.heap.size W0).alloc (Nat.le_refl _) (.cells #[.int .i64 x.lv,.int .i64 x.a,.int .i64 x.b,.int .i64 x.c,.int .i64 x.d] 74);rw[←hW1] at hbl;have B1:=Hh (B0.out.next hbl);have X1:=Hh (X0.out.stay (hbl.block gx X0.out.lt));have L1:=Hh (L0.out.trans (hbl.mono L0.out.size));have NS:=Hh (show Ns W1 (some ⟨g1,0,none⟩) 1 [x] by rw[hW1];exact zfs W0 g1 x hx hg1.symm);have hgl:W0.heap.size<W1.heap.size:=by rw[hW1];simp
   rw[←hg1,←hW1];clear hg1 hW1 hbl;refine hK.out _ _ X1.out.at_ (fun _=>?_)
   clear hK K;refine Rd1 7 fun K hK=>?_;rw[if_pos (by rfl)];refine zcU (.tmp 19) (.tmp 21) rfl base v out [x] (some ⟨g1,0,none⟩) 1 1 rfl rfl B1.out.o NS.out rfl (fun e=>by cases e) (by omega) (Nat.le_trans hbs L1.out.size) ?_;intro v2 W6 ho hgw hat;simp only[Act.put,LA];have hvb:∀k,v.ownBlock=some k→base≤k:=fun k hk=>(HH.out.o.lt k hk).1;have nb:∀k,k<base→(some k:Option Nat)≠v.ownBlock:=fun k hk e=>by have:=hvb k e.symm;omega
   have hbx6:=(hgw.block bb B1.out.lt (nb bb hb.1)).trans B1.out.bx;have X6:=Hh (X1.out.stay (hgw.block gx X1.out.lt (fun e=>absurd (HH.out.o.lt gx e.symm).2 (by rw[HGX.out];omega))));have K6:=Hh (B1.out.k.stay (hgw.block bm B1.out.k.lt (nb bm hb.2)));have Y6:=Hh ((Ky.refl (BdP bb bm v) w).below L1.out |>.gb hgw (fun i hi e=>.inr (.inr e)));have O6:=Hh ho;have HB6:=Hh hbx6;have HT6:=Hh (show ∀k,v2.ownBlock=some k→v.ownBlock=some k∨w.heap.size≤k from fun k hk=>by
    rcases hat with e|e
    ·exact .inl (e.symm.trans hk)
    ·rw[e] at hk;have:=L1.out.size;have h9:=Option.some.inj hk;exact .inr (by omega))
   obtain⟨A2,c2,hv2,hN2,-,-⟩:=ho.shape;rw[show(out++[x]).length=out.length+1 by simp] at hv2;subst hv2;refine hK.out _ _ X6.out.at_ (fun _=>?_)
   clear hK K ho hgw hat hN2 hbx6;refine Tk1 (v:=?_) 8 X6.out.at_ ?_ ?_;rotate_left
   ·rintro w' ⟨s1,s2,s3,s4,s5⟩;go_simp;first|done|with_reducible rfl|rfl
   simp only[Act.put,LA];refine Tk1 (v:=?_) 9 X6.out.at_ ?_ ?_;rotate_left
   ·rintro w' ⟨s1,s2,s3,s4,s5⟩;go_simp;first|done|with_reducible rfl|rfl
   simp only[Act.put,LA];refine Rd1 10 fun K hK=>?_;have e0:W6.cell? ⟨bb,0,none⟩=some v:=by rw[cell_of_row W6 bb _ _ _ _ HB6.out];rfl
   have e1:W6.frozen? ⟨bb,0,none⟩=false:=frozen_of_row W6 bb 0 _ _ HB6.out;go_simp;have hset:=heap_setCell_same W6 bb 0 _ _ (.slice A2 (out.length+1) c2) HB6.out;obtain⟨W7,hW7⟩:∃Z:World,Z=W6.setCell ⟨bb,0,none⟩ (.slice A2 (out.length+1) c2):=⟨_,rfl⟩;have hgs:=zaR W6 ⟨bb,0,none⟩ (.slice A2 (out.length+1) c2);rw[←hW7] at hset hgs ⊢;have B7:=Hh (show Bd_ W7 base bb bm (.slice A2 (out.length+1) c2) out x from⟨hset,O6.out.gbr hgs (zbt (fun k hk e=>by have h1:=(O6.out.lt k hk).1;have h2:=hb.1;have h3:=Option.some.inj e;dsimp only at h3;omega)),K6.out.stay (hgs.block bm K6.out.lt (fun e=>hd (Option.some.inj e).symm))⟩);have X7:=Hh (X6.out.stay (hgs.block gx X6.out.lt (fun e=>by have h3:=Option.some.inj e;dsimp only at h3;have:=HGX.out;have:=hb.1;omega)));have Y7:=Hh (Y6.out.gb hgs (fun i hi e=>.inl (Option.some.inj e).symm));refine hK.out _ _ X7.out.at_ (fun _=>?_)
   clear hK K e0 e1 hset hgs hW7;refine wpAnyH_done (by kernel_rfl) ?_ _;refine NoPanic.normal ?_;go_wp2_with fail;refine wp_region_noPanic ?_;refine wp_region_held (S:=fun w'=>(w'.cell? ⟨bb,0,none⟩=some (.slice A2 (out.length+1) c2)∧w'.cell? ⟨bb,1,none⟩=some (.map (some bm)))∧(w'.cell? ⟨gx,0,none⟩=some (.int .i64 x.lv)∧w'.cell? ⟨gx,1,none⟩=some (.int .i64 x.a)∧w'.cell? ⟨gx,2,none⟩=some (.int .i64 x.b)∧w'.cell? ⟨gx,3,none⟩=some (.int .i64 x.c)∧w'.cell? ⟨gx,4,none⟩=some (.int .i64 x.d))) (by kernel_rfl) ?_;obtain⟨W8,hW8⟩:∃Z:World,Z=W7.drew:=⟨_,rfl⟩;have B8:=Hh (show Bd_ W8 base bb bm (.slice A2 (out.length+1) c2) out x by rw[hW8];exact⟨B7.out.bx,⟨B7.out.o.1,B7.out.o.2⟩,B7.out.k⟩);have X8:=Hh (show zbc W8 gx x by rw[hW8];exact X7.out);have Y8:=Hh (show Ky (BdP bb bm v) w W8 by rw[hW8];exact⟨Y7.out.os,Y7.out.tape,Y7.out.output,Y7.out.size,Y7.out.block⟩);have hS8:=And.intro (And.intro B8.out.c0 B8.out.c1) X8.out.at_
   change wpAnyH _ _ _ _ _ _ _ _ W7.drew;rw[←hW8];clear hW8;refine Tk1 (v:=?_) 0 hS8 ?_ ?_;rotate_left
   ·rintro w' ⟨⟨r1,r2⟩,s1,s2,s3,s4,s5⟩;go_simp;first|done|with_reducible rfl|rfl
   simp only[Act.put,LA];refine Tk1 (v:=?_) 1 hS8 ?_ ?_;rotate_left
   ·rintro w' ⟨⟨r1,r2⟩,s1,s2,s3,s4,s5⟩;go_simp;first|done|with_reducible rfl|rfl
   simp only[Act.put,LA];refine Tk1 (v:=?_) 2 hS8 ?_ ?_;rotate_left
   ·rintro w' ⟨⟨r1,r2⟩,s1,s2,s3,s4,s5⟩;go_simp;first|done|with_reducible rfl|rfl
   simp only[Act.put,LA];refine Tk1 (v:=?_) 3 hS8 ?_ ?_;rotate_left
   ·rintro w' ⟨⟨r1,r2⟩,s1,s2,s3,s4,s5⟩;go_simp;first|done|with_reducible rfl|rfl
   simp only[Act.put,LA];refine Tk1 (v:=?_) 4 hS8 ?_ ?_;rotate_left
   ·rintro w' ⟨⟨r1,r2⟩,s1,s2,s3,s4,s5⟩;go_simp;first|done|with_reducible rfl|rfl
   simp only[Act.put,LA];refine Tk1 (v:=?_) 5 hS8 ?_ ?_;rotate_left
   ·rintro w' ⟨⟨r1,r2⟩,s1,s2,s3,s4,s5⟩;go_simp;first|done|with_reducible rfl|rfl
   simp only[Act.put,LA];refine Tk1 (v:=?_) 6 hS8 ?_ ?_;rotate_left
   ·rintro w' ⟨⟨r1,r2⟩,s1,s2,s3,s4,s5⟩;go_simp;first|done|with_reducible rfl|rfl
   simp only[Act.put,LA];refine Tk1 (v:=?_) 7 hS8 ?_ ?_;rotate_left
   ·rintro w' ⟨⟨r1,r2⟩,s1,s2,s3,s4,s5⟩;go_simp;first|done|with_reducible rfl|rfl
   simp only[Act.put,LA];refine Tk1 (v:=?_) 8 hS8 ?_ ?_;rotate_left
   ·rintro w' ⟨⟨r1,r2⟩,s1,s2,s3,s4,s5⟩;go_simp;first|done|with_reducible rfl|rfl
   simp only[Act.put,LA];refine Tk1 (v:=?_) 9 hS8 ?_ ?_;rotate_left
   ·rintro w' ⟨⟨r1,r2⟩,s1,s2,s3,s4,s5⟩;go_simp;first|done|with_reducible rfl|rfl
   simp only[Act.put,LA];refine Rd1 10 fun K hK=>?_;rw[if_pos (by rfl)];refine zeU (.tmp 28) (.tmp 29) (.tmp 34) rfl bm out x _ rfl rfl rfl (by omega) B8.out.k HH.out.o.1 hx HF.out.symm ?_;intro W9 m9 g9;simp only[Act.put,LA];have hb9:=(g9.block bb B8.out.lt (fun e=>hd (Option.some.inj e))).trans B8.out.bx;have k9:W9.cell? ⟨bb,0,none⟩=some (.slice A2 (out.length+1) c2):=by rw[cell_of_row W9 bb _ _ _ _ hb9];rfl
   have k9b:W9.cell? ⟨bb,1,none⟩=some (.map (some bm)):=by rw[cell_of_row W9 bb _ _ _ _ hb9];rfl
   have X9:=Hh (X8.out.stay (g9.block gx X8.out.lt (fun e=>by have h3:=Option.some.inj e;have:=HGX.out;have:=hb.2;omega)));have M9:=Hh m9;have G9:=Hh g9;have HB9:=Hh hb9;refine hK.out _ _ ⟨⟨k9,k9b⟩,X9.out.at_⟩ (fun _=>?_);clear hK K m9 g9 hb9 k9b;refine wpAnyH_done (by kernel_rfl) ?_ _;refine NoPanic.normal ?_;go_wp2_with fail;go_ret;unfold zrH add;rw[if_pos HF.out.symm];refine⟨_,?_,⟨HB9.out,B8.out.o.gbr G9.out (zbt (fun k hk e=>by have h1:=(B8.out.o.lt k hk).1;have h2:=hb.2;have h3:=Option.some.inj e;omega)),M9.out⟩,HT6.out,Y8.out.gb G9.out (fun i hi e=>.inr (.inl (Option.some.inj e).symm))⟩;show Ending.returned (.int .i64 _)=.returned (.int .i64 _);congr 2
   try omega
  ·go_simp;obtain⟨g1,hg1⟩:∃g,g=W0.heap.size:=⟨_,rfl⟩;obtain⟨W1,hW1⟩:∃Z:World,Z=W0.alloc (.cells #[.int .i64 x.lv,.int .i64 x.a,.int .i64 x.b,.int .i64 x.c,.int .i64 x.d] 74):=⟨_,rfl⟩;have hbl:=(Below.refl W0.heap.size W0).alloc (Nat.le_refl _) (.cells #[.int .i64 x.lv,.int .i64 x.a,.int .i64 x.b,.int .i64 x.c,.int .i64 x.d] 74);rw[←hW1] at hbl;have B1:=Hh (B0.out.next hbl);have X1:=Hh (X0.out.stay (hbl.block gx X0.out.lt));have L1:=Hh (L0.out.trans (hbl.mono L0.out.size));have NS:=Hh (show Ns W1 (some ⟨g1,0,none⟩) 1 [x] by rw[hW1];exact zfs W0 g1 x hx hg1.symm);have hgl:W0.heap.size<W1.heap.size:=by rw[hW1];simp
   rw[←hg1,←hW1];clear hg1 hW1 hbl;refine hK.out _ _ X1.out.at_ (fun _=>?_)
   clear hK K;refine Rd1 4 fun K hK=>?_;have q0:=B1.out.c0;go_simp;refine hK.out _ _ X1.out.at_ (fun _=>?_)
   clear hK K q0;refine Rd1 7 fun K hK=>?_;rw[if_pos (by rfl)];refine zcU (.tmp 19) (.tmp 21) rfl base v out [x] (some ⟨g1,0,none⟩) 1 1 rfl rfl B1.out.o NS.out rfl (fun e=>by cases e) (by omega) (Nat.le_trans hbs L1.out.size) ?_;intro v2 W6 ho hgw hat;simp only[Act.put,LA];have hvb:∀k,v.ownBlock=some k→base≤k:=fun k hk=>(HH.out.o.lt k hk).1;have nb:∀k,k<base→(some k:Option Nat)≠v.ownBlock:=fun k hk e=>by have:=hvb k e.symm;omega
   have hbx6:=(hgw.block bb B1.out.lt (nb bb hb.1)).trans B1.out.bx;have X6:=Hh (X1.out.stay (hgw.block gx X1.out.lt (fun e=>absurd (HH.out.o.lt gx e.symm).2 (by rw[HGX.out];omega))));have K6:=Hh (B1.out.k.stay (hgw.block bm B1.out.k.lt (nb bm hb.2)));have Y6:=Hh ((Ky.refl (BdP bb bm v) w).below L1.out |>.gb hgw (fun i hi e=>.inr (.inr e)));have O6:=Hh ho;have HB6:=Hh hbx6;have HT6:=Hh (show ∀k,v2.ownBlock=some k→v.ownBlock=some k∨w.heap.size≤k from fun k hk=>by
    rcases hat with e|e
    ·exact .inl (e.symm.trans hk)
    ·rw[e] at hk;have:=L1.out.size;have h9:=Option.some.inj hk;exact .inr (by omega))
   obtain⟨A2,c2,hv2,hN2,-,-⟩:=ho.shape;rw[show(out++[x]).length=out.length+1 by simp] at hv2;subst hv2;refine hK.out _ _ X6.out.at_ (fun _=>?_)
   clear hK K ho hgw hat hN2 hbx6;refine Tk1 (v:=?_) 8 X6.out.at_ ?_ ?_;rotate_left
   ·rintro w' ⟨s1,s2,s3,s4,s5⟩;go_simp;first|done|with_reducible rfl|rfl
   simp only[Act.put,LA];refine Tk1 (v:=?_) 9 X6.out.at_ ?_ ?_;rotate_left
   ·rintro w' ⟨s1,s2,s3,s4,s5⟩;go_simp;first|done|with_reducible rfl|rfl
   simp only[Act.put,LA];refine Rd1 10 fun K hK=>?_;have e0:W6.cell? ⟨bb,0,none⟩=some v:=by rw[cell_of_row W6 bb _ _ _ _ HB6.out];rfl
   have e1:W6.frozen? ⟨bb,0,none⟩=false:=frozen_of_row W6 bb 0 _ _ HB6.out;go_simp;have hset:=heap_setCell_same W6 bb 0 _ _ (.slice A2 (out.length+1) c2) HB6.out;obtain⟨W7,hW7⟩:∃Z:World,Z=W6.setCell ⟨bb,0,none⟩ (.slice A2 (out.length+1) c2):=⟨_,rfl⟩;have hgs:=zaR W6 ⟨bb,0,none⟩ (.slice A2 (out.length+1) c2);rw[←hW7] at hset hgs ⊢;have B7:=Hh (show Bd_ W7 base bb bm (.slice A2 (out.length+1) c2) out x from⟨hset,O6.out.gbr hgs (zbt (fun k hk e=>by have h1:=(O6.out.lt k hk).1;have h2:=hb.1;have h3:=Option.some.inj e;dsimp only at h3;omega)),K6.out.stay (hgs.block bm K6.out.lt (fun e=>hd (Option.some.inj e).symm))⟩);have X7:=Hh (X6.out.stay (hgs.block gx X6.out.lt (fun e=>by have h3:=Option.some.inj e;dsimp only at h3;have:=HGX.out;have:=hb.1;omega)));have Y7:=Hh (Y6.out.gb hgs (fun i hi e=>.inl (Option.some.inj e).symm));refine hK.out _ _ X7.out.at_ (fun _=>?_)
   clear hK K e0 e1 hset hgs hW7;refine wpAnyH_done (by kernel_rfl) ?_ _;refine NoPanic.normal ?_;go_wp2_with fail;refine wp_region_noPanic ?_;refine wp_region_held (S:=fun w'=>(w'.cell? ⟨bb,0,none⟩=some (.slice A2 (out.length+1) c2)∧w'.cell? ⟨bb,1,none⟩=some (.map (some bm)))∧(w'.cell? ⟨gx,0,none⟩=some (.int .i64 x.lv)∧w'.cell? ⟨gx,1,none⟩=some (.int .i64 x.a)∧w'.cell? ⟨gx,2,none⟩=some (.int .i64 x.b)∧w'.cell? ⟨gx,3,none⟩=some (.int .i64 x.c)∧w'.cell? ⟨gx,4,none⟩=some (.int .i64 x.d))) (by kernel_rfl) ?_;obtain⟨W8,hW8⟩:∃Z:World,Z=W7.drew:=⟨_,rfl⟩;have B8:=Hh (show Bd_ W8 base bb bm (.slice A2 (out.length+1) c2) out x by rw[hW8];exact⟨B7.out.bx,⟨B7.out.o.1,B7.out.o.2⟩,B7.out.k⟩);have X8:=Hh (show zbc W8 gx x by rw[hW8];exact X7.out);have Y8:=Hh (show Ky (BdP bb bm v) w W8 by rw[hW8];exact⟨Y7.out.os,Y7.out.tape,Y7.out.output,Y7.out.size,Y7.out.block⟩);have hS8:=And.intro (And.intro B8.out.c0 B8.out.c1) X8.out.at_
   change wpAnyH _ _ _ _ _ _ _ _ W7.drew;rw[←hW8];clear hW8;refine Tk1 (v:=?_) 0 hS8 ?_ ?_;rotate_left
   ·rintro w' ⟨⟨r1,r2⟩,s1,s2,s3,s4,s5⟩;go_simp;first|done|with_reducible rfl|rfl
   simp only[Act.put,LA];refine Tk1 (v:=?_) 1 hS8 ?_ ?_;rotate_left
   ·rintro w' ⟨⟨r1,r2⟩,s1,s2,s3,s4,s5⟩;go_simp;first|done|with_reducible rfl|rfl
   simp only[Act.put,LA];refine Tk1 (v:=?_) 2 hS8 ?_ ?_;rotate_left
   ·rintro w' ⟨⟨r1,r2⟩,s1,s2,s3,s4,s5⟩;go_simp;first|done|with_reducible rfl|rfl
   simp only[Act.put,LA];refine Tk1 (v:=?_) 3 hS8 ?_ ?_;rotate_left
   ·rintro w' ⟨⟨r1,r2⟩,s1,s2,s3,s4,s5⟩;go_simp;first|done|with_reducible rfl|rfl
   simp only[Act.put,LA];refine Tk1 (v:=?_) 4 hS8 ?_ ?_;rotate_left
   ·rintro w' ⟨⟨r1,r2⟩,s1,s2,s3,s4,s5⟩;go_simp;first|done|with_reducible rfl|rfl
   simp only[Act.put,LA];refine Tk1 (v:=?_) 5 hS8 ?_ ?_;rotate_left
   ·rintro w' ⟨⟨r1,r2⟩,s1,s2,s3,s4,s5⟩;go_simp;first|done|with_reducible rfl|rfl
   simp only[Act.put,LA];refine Tk1 (v:=?_) 6 hS8 ?_ ?_;rotate_left
   ·rintro w' ⟨⟨r1,r2⟩,s1,s2,s3,s4,s5⟩;go_simp;first|done|with_reducible rfl|rfl
   simp only[Act.put,LA];refine Tk1 (v:=?_) 7 hS8 ?_ ?_;rotate_left
   ·rintro w' ⟨⟨r1,r2⟩,s1,s2,s3,s4,s5⟩;go_simp;first|done|with_reducible rfl|rfl
   simp only[Act.put,LA];refine Tk1 (v:=?_) 8 hS8 ?_ ?_;rotate_left
   ·rintro w' ⟨⟨r1,r2⟩,s1,s2,s3,s4,s5⟩;go_simp;first|done|with_reducible rfl|rfl
   simp only[Act.put,LA];refine Tk1 (v:=?_) 9 hS8 ?_ ?_;rotate_left
   ·rintro w' ⟨⟨r1,r2⟩,s1,s2,s3,s4,s5⟩;go_simp;first|done|with_reducible rfl|rfl
   simp only[Act.put,LA];refine Rd1 10 fun K hK=>?_;rw[if_pos (by rfl)];refine zeU (.tmp 28) (.tmp 29) (.tmp 34) rfl bm out x _ rfl rfl rfl (by omega) B8.out.k HH.out.o.1 hx HF.out.symm ?_;intro W9 m9 g9;simp only[Act.put,LA];have hb9:=(g9.block bb B8.out.lt (fun e=>hd (Option.some.inj e))).trans B8.out.bx;have k9:W9.cell? ⟨bb,0,none⟩=some (.slice A2 (out.length+1) c2):=by rw[cell_of_row W9 bb _ _ _ _ hb9];rfl
   have k9b:W9.cell? ⟨bb,1,none⟩=some (.map (some bm)):=by rw[cell_of_row W9 bb _ _ _ _ hb9];rfl
   have X9:=Hh (X8.out.stay (g9.block gx X8.out.lt (fun e=>by have h3:=Option.some.inj e;have:=HGX.out;have:=hb.2;omega)));have M9:=Hh m9;have G9:=Hh g9;have HB9:=Hh hb9;refine hK.out _ _ ⟨⟨k9,k9b⟩,X9.out.at_⟩ (fun _=>?_);clear hK K m9 g9 hb9 k9b;refine wpAnyH_done (by kernel_rfl) ?_ _;refine NoPanic.normal ?_;go_wp2_with fail;go_ret;unfold zrH add;rw[if_pos HF.out.symm];refine⟨_,?_,⟨HB9.out,B8.out.o.gbr G9.out (zbt (fun k hk e=>by have h1:=(B8.out.o.lt k hk).1;have h2:=hb.2;have h3:=Option.some.inj e;omega)),M9.out⟩,HT6.out,Y8.out.gb G9.out (fun i hi e=>.inr (.inl (Option.some.inj e).symm))⟩;show Ending.returned (.int .i64 _)=.returned (.int .i64 _);congr 2
   try omega
 ·have t1:((f:Int)!=0)=true:=by rw[bne_iff_ne];omega
  have HZ:=Hh hz;clear hz;go_enter Tryz.func129,Tryz.ntmps129;go_wp2_with fail;go_quiet (fail);go_wp2_with fail;go_ret;have hlb:Below W.heap.size W (W.drewN nq):=zab (Below.refl _ W) nq;unfold zrH add;rw[if_neg (fun e=>HZ.out (HF.out.trans e))];rw[←HW.out];refine⟨v,?_,HBD.out.next hlb,fun k hk=>.inl hk,(Ky.refl _ w).below (HB.out.trans (hlb.mono HB.out.size))⟩;rw[←HF.out];rfl
end Go.Proofs.YtikehjindobpkaaGreat

namespace Go.Proofs.YtikehjindobpkaaGreat
open Nds Num
def Cv.cn (v:Cv):Cl:=⟨(val v.xs:Nat),(val v.ys:Nat),v.st⟩
def inQ (m i:Nat)(v:Cv):Bool:=quaC v m==i
def zaN:Nat→List Cv→Tr
 | 0,[]=>.e
 | 0,v :: _=>.s v.st
 | m+1,l=>mk ((m:Int)+1) (zaN m (l.filter (inQ m 0))) (zaN m (l.filter (inQ m 1))) (zaN m (l.filter (inQ m 2))) (zaN m (l.filter (inQ m 3)))
theorem zdG:∀m,zaN m []=.e
 | 0=>rfl
 | m+1=>by
  show mk _ (zaN m []) (zaN m []) (zaN m []) (zaN m [])=.e;rw[zdG m];rfl
theorem zrI (m:Nat)(v:Cv):inQ m 0 v=true∨inQ m 1 v=true∨inQ m 2 v=true∨inQ m 3 v=true:=by
 have h:=zlO m (val v.xs) (val v.ys);unfold inQ quaC;simp only[beq_iff_eq];omega
theorem zpi {l:List Cv}{p:Cv→Bool}{v:Cv}(h:v∈l)(hp:p v=true):l.filter p≠[]:=fun e=>by
 have:=List.mem_filter.2 ⟨h,hp⟩;rw[e] at this;cases this
theorem zlX:∀(m:Nat) {l:List Cv},l≠[]→zaN m l≠.e
 | 0,[],h=>absurd rfl h
 | 0,v :: l,_=>fun e=>by cases e
 | m+1,l,h=>by
  obtain⟨v,hv⟩:=List.exists_mem_of_ne_nil l h;show mk _ _ _ _ _≠.e;rw[←zoy,zoz];unfold allE;have key:∀i,inQ m i v=true→(zaN m (l.filter (inQ m i))).isE=false:=fun i hi=>zoy.2 (zlX m (zpi hv hi));rcases zrI m v with h|h|h|h <;> rw[key _ h] <;> simp
theorem zeV:∀(m:Nat) (l:List Cv),m≤1329→(∀v∈l,1≤v.st∧v.st≤255)→wfT (m:Int) (zaN m l)
 | 0,[],_,_=>trivial
 | 0,v :: l,_,h=>by
  have:=h v (by simp);exact⟨rfl,by omega,by omega⟩
 | m+1,l,hm,h=>by
  have sub:∀i,wfT (m:Int) (zaN m (l.filter (inQ m i))):=fun i=>zeV m _ (by omega) (fun v hv=>h v (List.mem_filter.1 hv).1);have e:(((m+1:Nat)):Int)=(m:Int)+1:=by omega
  rw[e];refine zrj ⟨by omega,by omega⟩ ?_ ?_ ?_ ?_ <;> (rw[show(m:Int)+1-1=(m:Int) by omega];exact sub _)
theorem zhL (m i:Nat)(x y:Nat):∀(l:List Cv),lk ((l.filter (inQ m i)).map Cv.cn) x y=if qtr m x y=i then lk (l.map Cv.cn) x y else 0
 | []=>by
  show(0:Int)=if _ then 0 else 0
  split <;> rfl
 | v :: l=>by
  rw[List.filter_cons];have hp:v.cn.x=(x:Int)∧v.cn.y=(y:Int)→quaC v m=qtr m x y:=fun h=>by
   have h1:val v.xs=x:=by have:=h.1;simp only[Cv.cn] at this;omega
   have h2:val v.ys=y:=by have:=h.2;simp only[Cv.cn] at this;omega
   unfold quaC;rw[h1,h2]
  by_cases hc:inQ m i v=true
  ·rw[if_pos hc,List.map_cons,List.map_cons];unfold lk;rw[zhL m i x y l];by_cases hxy:v.cn.x=(x:Int)∧v.cn.y=(y:Int)
   ·have h1:quaC v m=i:=by unfold inQ at hc;simpa using hc
    rw[if_pos hxy,if_pos hxy,if_pos (by rw[←hp hxy];exact h1)]
   ·rw[if_neg hxy,if_neg hxy]
  ·rw[if_neg hc,zhL m i x y l,List.map_cons];by_cases hq:qtr m x y=i
   ·rw[if_pos hq,if_pos hq]
    conv=>rhs;unfold lk
    rw[if_neg (fun hxy=>hc (by unfold inQ;rw[hp hxy,hq];simp))]
   ·rw[if_neg hq,if_neg hq]
theorem zjy {l:List Cv}{x y:Int}(h:x<0∨y<0):lk (l.map Cv.cn) x y=0:=zbG fun c hc hcp=>by
 obtain⟨v,_,rfl⟩:=List.mem_map.1 hc;have h1:=hcp.1;have h2:=hcp.2;simp only[Cv.cn] at h1 h2;omega
theorem zkO (m:Nat)(l:List Cv)(x y:Int):lk ((l.filter (inQ m 0)).map Cv.cn) x y+lk ((l.filter (inQ m 1)).map Cv.cn) x y+lk ((l.filter (inQ m 2)).map Cv.cn) x y+lk ((l.filter (inQ m 3)).map Cv.cn) x y=lk (l.map Cv.cn) x y:=by
 by_cases hn:x<0∨y<0
 ·rw[zjy hn,zjy hn,zjy hn,zjy hn,zjy hn];rfl
 ·obtain⟨a,rfl⟩:=Int.eq_ofNat_of_zero_le (show 0≤x by omega);obtain⟨b,rfl⟩:=Int.eq_ofNat_of_zero_le (show 0≤y by omega);rw[zhL,zhL,zhL,zhL];have h:=zlO m a b;generalize qtr m a b=q at h;obtain rfl|rfl|rfl|rfl:q=0∨q=1∨q=2∨q=3:=by omega
  all_goals simp
def HiB (m hx hy:Nat)(l:List Cv):Prop:=∀v∈l,val v.xs / 2^m=hx∧val v.ys / 2^m=hy
theorem zhM {m hx hy i:Nat}{l:List Cv}(h:HiB (m+1) hx hy l)(hi:i<4):HiB m (2*hx+i%2) (2*hy+i / 2) (l.filter (inQ m i)):=fun v hv=>by
 obtain⟨h1,h2⟩:=List.mem_filter.1 hv;obtain⟨h3,h4⟩:=h v h1;unfold inQ quaC qtr at h2;simp only[beq_iff_eq] at h2;rw[Nat.pow_succ,←Nat.div_div_eq_div_mul] at h3 h4;omega
theorem zgT:∀(m:Nat) (l:List Cv) (hx hy:Nat),m≤1329→(∀v∈l,1≤v.st∧v.st≤255)→HiB m hx hy l→(l.map Cv.cn).Pairwise (fun a b=>¬ (a.x=b.x∧a.y=b.y)) →
  ∀x y,zag (zaN m l) x y=lk (l.map Cv.cn) (x+hx*p2 m) (y+hy*p2 m)
 | 0,[],hx,hy,_,_,_,_,x,y=>rfl
 | 0,v :: l,hx,hy,_,_,hb,hp,x,y=>by
  have hnil:l=[]:=by
   cases l with
   | nil=>rfl
   | cons u l =>
    have h1:=List.rel_of_pairwise_cons hp (a':=u.cn) (by simp);obtain⟨a1,a2⟩:=hb v (by simp);obtain⟨b1,b2⟩:=hb u (by simp);simp only[Nat.pow_zero,Nat.div_one] at a1 a2 b1 b2;exact absurd ⟨by simp only[Cv.cn];omega,by simp only[Cv.cn];omega⟩ h1
  subst hnil;obtain⟨a1,a2⟩:=hb v (by simp);simp only[Nat.pow_zero,Nat.div_one] at a1 a2;show(if x=0∧y=0 then (v.st:Int) else 0)=if v.cn.x=_∧v.cn.y=_ then (v.st:Int) else 0
  rw[zdx];have k1:v.cn.x=(hx:Int):=by simp only[Cv.cn];omega
  have k2:v.cn.y=(hy:Int):=by simp only[Cv.cn];omega
  by_cases h0:x=0∧y=0
  ·rw[if_pos h0,if_pos ⟨by omega,by omega⟩]
  ·rw[if_neg h0,if_neg (by omega)]
 | m+1,l,hx,hy,hm,hs,hb,hp,x,y=>by
  have sub:∀i,wfT (m:Int) (zaN m (l.filter (inQ m i))):=fun i=>zeV m _ (by omega) (fun v hv=>hs v (List.mem_filter.1 hv).1);have ih:∀i,i<4→∀x y,zag (zaN m (l.filter (inQ m i))) x y=lk ((l.filter (inQ m i)).map Cv.cn) (x+(2*hx+i%2:Nat)*p2 m) (y+(2*hy+i / 2:Nat)*p2 m):=fun i hi =>
   zgT m (l.filter (inQ m i)) _ _ (by omega) (fun v hv=>hs v (List.mem_filter.1 hv).1) (zhM hb hi) (hp.sublist (List.Sublist.map _ List.filter_sublist))
  show zag (mk ((m:Int)+1) _ _ _ _) x y=_;have i0:=ih 0 (by decide);have i1:=ih 1 (by decide);have i2:=ih 2 (by decide);have i3:=ih 3 (by decide);simp only[Nat.reduceMod,Nat.reduceDiv] at i0 i1 i2 i3;rw[zde (sub 0) (sub 1) (sub 2) (sub 3),i0,i1,i2,i3,←zkO m l];rw[zal];have e1:∀(h:Nat) (z:Int),z+((2*h+0:Nat):Int)*p2 m=z+(h:Int)*(p2 m+p2 m):=fun h z=>by
   rw[show((2*h+0:Nat):Int)=2*(h:Int) by omega,Int.mul_add,Int.mul_assoc,Int.two_mul]
  have e2:∀(h:Nat) (z:Int),z-p2 m+((2*h+1:Nat):Int)*p2 m=z+(h:Int)*(p2 m+p2 m):=fun h z=>by
   rw[show((2*h+1:Nat):Int)=2*(h:Int)+1 by omega,Int.add_mul,Int.mul_add,Int.mul_assoc,Int.two_mul,Int.one_mul];omega
  simp only[e1,e2]
end Go.Proofs.YtikehjindobpkaaGreat
