import Derived.Test.YtikehjindobpkaaGreatGClRa
import Derived.ArgAppend

set_option linter.unusedVariables false
set_option linter.unusedSimpArgs false
set_option maxRecDepth 100000
set_option maxHeartbeats 6400000
namespace Go.Proofs.YtikehjindobpkaaGreat
open Go.RowKit Nds Num
def PXY (A:Option Addr)(xs:List Nat)(B:Option Addr)(ys:List Nat):Nat→Prop:=fun q=>(0<xs.length∧∃a,A=some a∧a.block=q)∨(0<ys.length∧∃a,B=some a∧a.block=q)
section
variable {w:World} {A:Option Addr} {c:Nat} {l:List Nd} {x:Nd} {m:Nat} {sx:Bool} {Ax:Option Addr} {cx:Nat} {xs:List Nat} {sy:Bool} {Ay:Option Addr} {cy:Nat} {ys:List Nat} {gh:Nat} {sh:Bool} {Ah:Option Addr} {ch:Nat} {hs:List Nat} {X Y:Int} {k:Nat} {v:Value} {M:List Cv} {W W1:World}
end
structure RlB (P:Nat→Prop)(B:Nat)(wr:World)(ga gb:Nat)(sa:Bool)(Aa:Option Addr)(ca:Nat)(us:List Nat)(zx:Int)(sb:Bool)(Ab:Option Addr)(cb:Nat)(vs:List Nat)(zy:Int)(wx:World):Prop where
 b:Below wr.heap.size wr wx
 a:HX wx ga sa Aa ca us zx
 d:HX wx gb sb Ab cb vs zy
 gea:wr.heap.size≤ga
 geb:wr.heap.size≤gb
 ne:ga≠gb
 la:0<us.length→∀a,Aa=some a→wr.heap.size≤a.block∨(P a.block∧a.block<B)
 lb:0<vs.length→∀a,Ab=some a→wr.heap.size≤a.block∨(P a.block∧a.block<B)
section
variable {P:Nat→Prop} {B:Nat} {wr:World} {ga gb:Nat} {sa:Bool} {Aa:Option Addr} {ca:Nat} {us:List Nat} {zx:Int} {sb:Bool} {Ab:Option Addr} {cb:Nat} {vs:List Nat} {zy:Int} {wx W1:World}
theorem RlB.next (h:RlB P B wr ga gb sa Aa ca us zx sb Ab cb vs zy wx)(q:Below wx.heap.size wx W1):RlB P B wr ga gb sa Aa ca us zx sb Ab cb vs zy W1 :=
 ⟨h.b.trans (q.mono h.b.size),h.a.next q,h.d.next q,h.gea,h.geb,h.ne,h.la,h.lb⟩
theorem hx_far {g g2:Nat}{s:Bool}{A:Option Addr}{c:Nat}{xs:List Nat}{n:Int}{s0:Bool}{A0:Option Addr}{n0 c0:Nat}(h:HX wx g s A c xs n)(hne:g≠g2)(h2:wx.heap[g2]?=some (.cells #[.bool s0,.slice A0 n0 c0] 31))(x y:Value):HX ((wx.setCell ⟨g2,0,none⟩ x).setCell ⟨g2,1,none⟩ y) g s A c xs n:=by
 have hg:=gb_two (setC_one wx g2 0 x) (setC_one _ g2 1 y)
 exact⟨(hg.block g h.lt (fun e=>hne (Option.some.inj e))).trans h.box,us_kept h.us (fun q h1 h3=>hg.block q h1 (fun e=>h3 (by cases e;rfl))) hg.size (us_off h.us (bool_cell h2)),h.cn,h.v,h.off⟩
theorem RlB.setA (h:RlB P B wr ga gb sa Aa ca us zx sb Ab cb vs zy wx){s2:Bool}{A2:Option Addr}{c2:Nat}{xs2:List Nat}{z2:Int}(hu:Us wx A2 c2 xs2)(hc:CanonI s2 xs2)(hv:ival s2 xs2=z2)(hf:FrU wr.heap.size A2) :
  RlB P B wr ga gb s2 A2 c2 xs2 z2 sb Ab cb vs zy ((wx.setCell ⟨ga,0,none⟩ (.bool s2)).setCell ⟨ga,1,none⟩ (.slice A2 xs2.length c2)) :=
 ⟨(h.b.setCell (p:=⟨ga,0,none⟩) h.gea _).setCell (p:=⟨ga,1,none⟩) h.gea _,h.a.set hu hc hv,hx_far h.d h.ne.symm h.a.box _ _,h.gea,h.geb,h.ne,fun _ a ea=>.inl (hf a ea),h.lb⟩
theorem RlB.setB (h:RlB P B wr ga gb sa Aa ca us zx sb Ab cb vs zy wx){s2:Bool}{A2:Option Addr}{c2:Nat}{xs2:List Nat}{z2:Int}(hu:Us wx A2 c2 xs2)(hc:CanonI s2 xs2)(hv:ival s2 xs2=z2)(hf:FrU wr.heap.size A2) :
  RlB P B wr ga gb sa Aa ca us zx s2 A2 c2 xs2 z2 ((wx.setCell ⟨gb,0,none⟩ (.bool s2)).setCell ⟨gb,1,none⟩ (.slice A2 xs2.length c2)) :=
 ⟨(h.b.setCell (p:=⟨gb,0,none⟩) h.geb _).setCell (p:=⟨gb,1,none⟩) h.geb _,hx_far h.a h.ne h.d.box _ _,h.d.set hu hc hv,h.gea,h.geb,h.ne,h.la,fun _ a ea=>.inl (hf a ea)⟩
end
theorem boxes_made (wr:World){sx:Bool}{Ax:Option Addr}{cx:Nat}{xs:List Nat}{X:Int}{sy:Bool}{Ay:Option Addr}{cy:Nat}{ys:List Nat}{Y:Int}{P:Nat→Prop}{B gx gy:Nat}(hX:HX wr gx sx Ax cx xs X)(hY:HX wr gy sy Ay cy ys Y)
  (lx:0<xs.length→∀a,Ax=some a→P a.block∧a.block<B) (ly:0<ys.length→∀a,Ay=some a→P a.block∧a.block<B) :
  RlB P B wr wr.heap.size (wr.heap.size+1) sx Ax cx xs X sy Ay cy ys Y (((wr.alloc (.cells #[.bool sx,.slice Ax xs.length cx] 31)).alloc (.cells #[.bool sy,.slice Ay ys.length cy] 31)).drew) ∧
  RlB P B wr (wr.heap.size+1) wr.heap.size sx Ax cx xs X sy Ay cy ys Y (((wr.alloc (.cells #[.bool sy,.slice Ay ys.length cy] 31)).alloc (.cells #[.bool sx,.slice Ax xs.length cx] 31)).drew):=by
 have key:∀(s:Bool) (A:Option Addr) (c:Nat) (zs:List Nat) (t:Bool) (D:Option Addr) (d:Nat) (us:List Nat) (z u:Int),Us wr A c zs→CanonI s zs→ival s zs=z→Us wr D d us→CanonI t us→ival t us=u →
   Below wr.heap.size wr (((wr.alloc (.cells #[.bool s,.slice A zs.length c] 31)).alloc (.cells #[.bool t,.slice D us.length d] 31)).drew) ∧
   HX (((wr.alloc (.cells #[.bool s,.slice A zs.length c] 31)).alloc (.cells #[.bool t,.slice D us.length d] 31)).drew) wr.heap.size s A c zs z ∧
   HX (((wr.alloc (.cells #[.bool s,.slice A zs.length c] 31)).alloc (.cells #[.bool t,.slice D us.length d] 31)).drew) (wr.heap.size+1) t D d us u:=by
  intro s A c zs t D d us z u h1 h2 h3 k1 k2 k3
  have hb:Below wr.heap.size wr (((wr.alloc (.cells #[.bool s,.slice A zs.length c] 31)).alloc (.cells #[.bool t,.slice D us.length d] 31)).drew):=below_drewN (((Below.refl _ wr).alloc (Nat.le_refl _) _).alloc (by simp) _) 1
  refine⟨hb,⟨?_,h1.below hb,h2,h3,fun h0 a ea=>by have:=us_lt h1 h0 a ea;omega⟩,⟨?_,k1.below hb,k2,k3,fun h0 a ea=>by have:=us_lt k1 h0 a ea;omega⟩⟩
  ·exact(Below.heap_alloc _ _ _ (by simp)).trans (heap_alloc_new wr _)
  ·have h:=heap_alloc_new (wr.alloc (.cells #[.bool s,.slice A zs.length c] 31)) (.cells #[.bool t,.slice D us.length d] 31)
   rw[show(wr.alloc (.cells #[.bool s,.slice A zs.length c] 31)).heap.size=wr.heap.size+1 by simp] at h
   exact h
 obtain⟨b1,x1,y1⟩:=key sx Ax cx xs sy Ay cy ys X Y hX.us hX.cn hX.v hY.us hY.cn hY.v
 obtain⟨b2,y2,x2⟩:=key sy Ay cy ys sx Ax cx xs Y X hY.us hY.cn hY.v hX.us hX.cn hX.v
 exact⟨⟨b1,x1,y1,Nat.le_refl _,Nat.le_succ _,by omega,fun h0 a ea=>.inr (lx h0 a ea),fun h0 a ea=>.inr (ly h0 a ea)⟩,⟨b2,x2,y2,Nat.le_succ _,Nat.le_refl _,by omega,fun h0 a ea=>.inr (lx h0 a ea),fun h0 a ea=>.inr (ly h0 a ea)⟩⟩
theorem off_cases (h:Int){k:Nat}(hk:k<4):(offI h k=0∨offI h k=h)∧(offJ h k=0∨offJ h k=h):=by
 obtain rfl|rfl|rfl|rfl:k=0∨k=1∨k=2∨k=3:=by omega
 ·exact⟨.inl rfl,.inl rfl⟩
 ·exact⟨.inr rfl,.inl rfl⟩
 ·exact⟨.inl rfl,.inr rfl⟩
 ·exact⟨.inr rfl,.inr rfl⟩
theorem quarter_at {X Y:Int}{m k:Nat}(h : -p2 1329≤X∧X+p2 (m+1)≤p2 1329∧-p2 1329≤Y∧Y+p2 (m+1)≤p2 1329)(hk:k<4) : -p2 1329≤X+offI (p2 m) k∧X+offI (p2 m) k+p2 m≤p2 1329∧-p2 1329≤Y+offJ (p2 m) k∧Y+offJ (p2 m) k+p2 m≤p2 1329:=by
 obtain⟨h1,h2⟩:=off_cases (p2 m) hk
 have h3:=p2_succ m
 have h4:=p2_pos m
 omega
theorem lens_at {X Y:Int}{m k:Nat}(h : -p2 1329≤X∧X+p2 (m+1)≤p2 1329∧-p2 1329≤Y∧Y+p2 (m+1)≤p2 1329)(hk:k<4) : -p2 1330≤X+offI (p2 m) k∧X+offI (p2 m) k≤p2 1330∧-p2 1330≤Y+offJ (p2 m) k∧Y+offJ (p2 m) k≤p2 1330:=by
 have h1:=quarter_at h hk
 have h2:=p2_pos m
 have h3:p2 1330=p2 1329+p2 1329:=p2_succ 1329
 have h4:=p2_pos 1329
 omega
theorem off_none {k:Nat}{h:Int}(e:false=((k:Int)%2==1))(hk:k<4):offI h k=0:=by
 obtain rfl|rfl|rfl|rfl:k=0∨k=1∨k=2∨k=3:=by omega
 ·rfl
 ·cases e
 ·rfl
 ·cases e
theorem off_some {k:Nat}{h:Int}(e:true=((k:Int)%2==1))(hk:k<4):offI h k=h:=by
 obtain rfl|rfl|rfl|rfl:k=0∨k=1∨k=2∨k=3:=by omega
 ·cases e
 ·rfl
 ·cases e
 ·rfl
theorem offj_none {k:Nat}{h:Int}(e:false=decide ((k:Int)>1))(hk:k<4):offJ h k=0:=by
 obtain rfl|rfl|rfl|rfl:k=0∨k=1∨k=2∨k=3:=by omega
 ·rfl
 ·rfl
 ·cases e
 ·cases e
theorem offj_some {k:Nat}{h:Int}(e:true=decide ((k:Int)>1))(hk:k<4):offJ h k=h:=by
 obtain rfl|rfl|rfl|rfl:k=0∨k=1∨k=2∨k=3:=by omega
 ·cases e
 ·cases e
 ·rfl
 ·rfl
end Go.Proofs.YtikehjindobpkaaGreat

namespace Go.Proofs.YtikehjindobpkaaGreat
open Go.RowKit Nds Num Go.Shelf
theorem OwnC.mono {w:World}{base base':Nat}{v:Value}{l:List Cv}(h:OwnC w base v l)(hb:base'≤base):OwnC w base' v l:=by
 refine⟨h.1,?_⟩
 rcases h.2 with h|⟨g,cap,cur,e,hb',rest⟩
 ·exact .inl h
 ·exact .inr ⟨g,cap,cur,e,by omega,rest⟩
def RetSt (l:List Cv)(w:World)(e:Ending)(w':World):Prop :=
 ∃v out,e=.returned v∧out.map Cv.cl=lastF (l.map Cv.cl)∧(∀x∈out,x∈l)∧OwnC w' w.heap.size v out∧out.length≤l.length∧Below w.heap.size w w'
theorem standing_any (A:Option Addr)(c n:Nat)(l:List Cv)(w:World)(h:Cs w A c l)(hn:l.length=n)(hR:∀v∈l,CvR v)(h0:0<n)(hn9:n≤900000) :
  Calls Tryz.prog 66 #[.slice A n c] w (RetSt l w):=by
 have hcap:=h.cap
 rw[hn] at hcap
 obtain⟨W,hW⟩:∃W:World,W=w.alloc (.cells #[.slice A n c] 22):=⟨_,rfl⟩
 have hb:Below w.heap.size w W:=by rw[hW];exact(Below.refl _ w).alloc (Nat.le_refl _) _
 have hsz:W.heap.size=w.heap.size+1:=by rw[hW];simp
 have hbx:=cell_new_l w (.slice A n c) 22
 rw[←hW] at hbx
 obtain⟨i0,hi,hz0,hz1,hz2⟩:=info_parts Tryz.infoI
 have HI:=Lib.hid (And.intro hi (And.intro hz0 (And.intro hz1 hz2)))
 have HN:=Lib.hid hn
 have HR:=Lib.hid hR
 have HW:=Lib.hid hW
 have HB:=Lib.hid hb
 have HSZ:=Lib.hid hsz
 have HC:=Lib.hid h
 have HBX:=Lib.hid hbx
 obtain⟨b1,b2⟩:=hbx
 rw[hW] at b1 b2
 clear h hi hz0 hz1 hz2 hR hW hb hsz
 go_enter Tryz.func66,Tryz.ntmps66
 go_wp2_with (first
  | (at_make;go_loud (rw[←HW.out];refine wpList_make_full _ rfl _ _ 118 rfl w.heap.size 3 i0 _ 1 Tryz.underlying118 HI.out.1 HI.out.2.1 HI.out.2.2.1 .i64 .i64 _ _ n rfl rfl (by omega) (by omega) (by rw[HI.out.2.2.2];omega) (by unfold maxLen;omega) HB.out.size ?_;intro w0 own grow)))
 obtain⟨g,hg⟩:∃g,g=W.heap.size:=⟨_,rfl⟩
 rw[←hg] at own
 rw[←hg]
 have HGE:=Lib.hid (hg.trans HSZ.out)
 have od:=OwnD.made own
 have HB0:=Lib.hid (HB.out.grown grow HB.out.size (fun k hk=>by cases hk))
 have hbx0:=grow.cell HBX.out.1 (by simp)
 clear own hg
 have HGR:=Lib.hid grow
 clear grow
 go_loopw [14] (fun z1 wr=>∃(q:Nat) (ds:List Nat),q≤n∧z1=.int .i64 q∧OwnD wr w.heap.size g n ds∧(∀j,j<q→ds.getD j 0=j)∧wr.cell? ⟨w.heap.size,0,none⟩=some (.slice A n c)∧Below w.heap.size w wr) (fun z1 _=>n-(intOf z1).toNat)
 case atStart=>exact⟨0,_,by omega,rfl,od,fun j hj=>by omega,hbx0,HB0.out⟩
 case round =>
  obtain⟨q,ds,hq,rfl,hod,hds,hbw,hbb⟩:=hrel
  have HQ:=Lib.hid hds;have HOD:=Lib.hid hod;have HBB:=Lib.hid hbb;have HBW:=Lib.hid hbw;clear hds hbb od;by_cases hlt:q<n
  ·have i1:(q:Int)<(n:Int):=by omega
   have i2:(0:Int)≤(q:Int):=by omega
   have t1:decide ((q:Int)<(n:Int))=true:=decide_eq_true i1
   have cc:=hod.cell hlt
   have cf:=hod.free q
   clear hod;go_wp2_with fail
   go_roundw
   case rel =>
    refine⟨q+1,ds.set q q,by omega,by go_num,HOD.out.set q q,fun j hj=>?_,?_,?_⟩
    ·rw[List.getD_eq_getElem?_getD,List.getElem?_set];by_cases hjq:q=j
     ·subst hjq;rw[if_pos rfl,if_pos (by rw[HOD.out.1];exact hlt)]
      rfl
     ·rw[if_neg hjq,←List.getD_eq_getElem?_getD];exact HQ.out j (by omega)
    ·rw[World.cell?_setCell_other _ _ _ _ (by simp;have:=HGE.out;omega)];exact HBW.out
    ·exact HBB.out.setCell (p:=⟨g,q,none⟩) (by show w.heap.size≤g;have:=HGE.out;omega) _
   case measure=>simp[intOf];omega
  ·obtain rfl:q=n:=by omega
   have t1:decide ((q:Int)<(q:Int))=false:=decide_eq_false (by omega)
   have hso:=sortI_any w.heap.size A c q l wr hbw (HC.out.below HBB.out) HN.out HR.out g q h0 (by omega) HOD.out.lt.2 (by have:=HGE.out;omega) (fun a ea e=>by obtain⟨b',off',e',hb',_⟩:=HC.out.at_ (by rw[HN.out];exact h0);rw[ea] at e';cases e';have:=HGE.out;dsimp only at e;omega)
    (fun v hv=>off_of (HC.out.1 v hv) (by have:=HGE.out;omega))
    (fun i hi=>by have:=HOD.out.cell hi;rwa [HQ.out i hi] at this) HOD.out.free
   have HSO:=Lib.hid hso;clear hso hod hbw;go_wp2_with (go_at_call 91;go_loud (refine HSO.out.mono ?_;rintro e w2 ⟨rfl,o,hperm,hsrt,hoc,hg2⟩))
   have HPM:=Lib.hid hperm;have HSR:=Lib.hid hsrt;have HLO:=Lib.hid (show o.length=q by rw[hperm.length_eq,List.length_range])
   have hbx2:=hg2.cell HBW.out (by intro e;have h1:=HGE.out;have h2:=Option.some.inj e;dsimp only at h2;omega)
   have hb2:Below w.heap.size w w2:=HBB.out.grown hg2 HBB.out.size (fun k e=>by have h1:=HGE.out;have h2:=Option.some.inj e;omega)
   have hs2:w.heap.size+2≤w2.heap.size:=by have h1:=HGE.out;have h2:=HOD.out.lt.2;have h3:=hg2.size;omega
   have HB2:=Lib.hid hb2;have HS2:=Lib.hid hs2;have HOC2:=Lib.hid hoc;have HBX2:=Lib.hid hbx2;clear hperm hsrt hoc hg2 hbx2 hb2 hs2;have hlo9:∀i,i<q→o[i]?.getD 0<q:=fun i hi=>by
    have hoi:o[i]?.getD 0∈o:=by rw[List.getElem?_eq_getElem (by rw[HLO.out];omega)];exact List.getElem_mem _
    exact List.mem_range.1 (HPM.out.mem_iff.1 hoi)
   have HLO9:=Lib.hid hlo9;clear hlo9
   go_loopw [27,5] (fun z1 z2 wr=>∃(p:Nat),p≤q∧z1=.int .i64 p∧OwnC wr (w.heap.size+2) z2 (standL l o p)∧(∀i,i<q→wr.cell? ⟨g,i,none⟩=some (.int .i64 ((o[i]?.getD 0:Nat):Int)))∧wr.cell? ⟨w.heap.size,0,none⟩=some (.slice A q c)∧Below w.heap.size w wr∧w.heap.size+2≤wr.heap.size) (fun z1 _ _=>q-(intOf z1).toNat)
   case atStart=>exact⟨0,by omega,rfl,OwnC.nil _ _,HOC2.out,HBX2.out,HB2.out,HS2.out⟩
   case round =>
    obtain⟨p,hp,rfl,hown,hoc,hbw,hbb,hsw⟩:=hrel
    have HOW:=Lib.hid hown;have HOC:=Lib.hid hoc;have HBW':=Lib.hid hbw;have HBB':=Lib.hid hbb;have HSW:=Lib.hid hsw;by_cases hlt:p<q
    ·have i1:(p:Int)<(q:Int):=by omega
     have i2:(0:Int)≤(p:Int):=by omega
     have t1:decide ((p:Int)<(q:Int))=true:=decide_eq_true i1
     obtain⟨b,off,hAe,hbl,hcl⟩:=(HC.out.below hbb).at_ (by rw[HN.out];exact h0)
     subst hAe;obtain⟨a,ha⟩:∃a,a=o[p]?.getD 0:=⟨_,rfl⟩
     have ha9:a<q:=by rw[ha];exact HLO9.out p hlt
     have oc1:=hoc p hlt
     rw[←ha] at oc1;have HOA:=Lib.hid ha;obtain⟨c1,c2,c3,c4,c5⟩:=hcl a (by rw[HN.out];exact ha9)
     obtain⟨x,hx⟩:∃x,x=cat l a:=⟨_,rfl⟩
     rw[←hx] at c1 c2 c3 c4 c5;have HX:=Lib.hid hx;have HXU:=Lib.hid (show CvU wr x by rw[hx];exact(HC.out.below hbb).1 _ (cat_mem (by rw[HN.out];exact ha9)))
     have HXR:=Lib.hid (show CvR x by rw[hx];exact HR.out _ (cat_mem (by rw[HN.out];exact ha9)))
     have hx1:=HXU.out.1.cap
     have hx2:=HXU.out.2.1.cap
     have a1:(0:Int)≤(a:Int):=by omega
     have a2:(a:Int)<(q:Int):=by omega
     have HCV:=Lib.hid (show CvAt wr b (off+a*5) x from⟨c1,c2,c3,c4,c5⟩)
     have HCL:=Lib.hid hcl;have HLb:=Lib.hid hbl;have HLG:=Lib.hid (lt_of_cell oc1)
     have HLB:=Lib.hid (lt_of_cell hbw)
     have jw:IntKind.i64.wrap ((p:Int)+1)=(p:Int)+1:=by simp[IntKind.wrap,IntKind.bits,IntKind.signed];omega
     by_cases hlast:p+1<q
     ·obtain⟨e,he⟩:∃e,e=o[p+1]?.getD 0:=⟨_,rfl⟩
      have he9:e<q:=by rw[he];exact HLO9.out _ hlast
      have oc2:=hoc (p+1) hlast
      rw[←he] at oc2;have HOE:=Lib.hid he;obtain⟨d1,d2,d3,d4,d5⟩:=hcl e (by rw[HN.out];exact he9)
      obtain⟨y,hy⟩:∃y,y=cat l e:=⟨_,rfl⟩
      rw[←hy] at d1 d2 d3 d4 d5;have HY:=Lib.hid hy;have HYU:=Lib.hid (show CvU wr y by rw[hy];exact(HC.out.below hbb).1 _ (cat_mem (by rw[HN.out];exact he9)))
      have HYR:=Lib.hid (show CvR y by rw[hy];exact HR.out _ (cat_mem (by rw[HN.out];exact he9)))
      have hy1:=HYU.out.1.cap
      have hy2:=HYU.out.2.1.cap
      have b1:(0:Int)≤(e:Int):=by omega
      have b2':(e:Int)<(q:Int):=by omega
      have j1:(0:Int)≤(p:Int)+1:=by omega
      have j2:(p:Int)+1<(q:Int):=by omega
      have j3:decide ((p:Int)+1<(q:Int))=true:=decide_eq_true j2
      have HCY:=Lib.hid (show CvAt wr b (off+e*5) y from⟨d1,d2,d3,d4,d5⟩)
      have HO2:=Lib.hid oc2;obtain⟨r,hr⟩:∃r,r=ordC x y:=⟨_,rfl⟩
      have HRr:=Lib.hid hr;have st:Gro wr wr.drew:=(Gro.refl wr).drewN 1
      clear hx ha hy he hr hcl hoc hown hbb hsw;by_cases hz:r=0
      ·subst hz;have HKP:=Lib.hid (show keepAt l o p=false by
        unfold keepAt;rw[←HOA.out,←HX.out,←HOE.out,←HY.out,←HRr.out,decide_eq_true (show p+1<o.length by rw[HLO.out];exact hlast)]
        rfl)
       go_wp2_with fail
       go_region_held3 (fun w'=>w'.cell? ⟨w.heap.size,0,none⟩=some (.slice (some ⟨b,off,none⟩) q c)∧w'.cell? ⟨g,p+1,none⟩=some (.int .i64 (e:Int))∧(w'.cell? ⟨b,off+a*5,none⟩=some (.bool x.sx)∧w'.cell? ⟨b,off+a*5+1,none⟩=some (.slice x.ax x.xs.length x.cx)∧w'.cell? ⟨b,off+a*5+2,none⟩=some (.bool x.sy)∧w'.cell? ⟨b,off+a*5+3,none⟩=some (.slice x.ay x.ys.length x.cy)∧w'.cell? ⟨b,off+a*5+4,none⟩=some (.int .u8 x.st))∧(w'.cell? ⟨b,off+e*5,none⟩=some (.bool y.sx)∧w'.cell? ⟨b,off+e*5+1,none⟩=some (.slice y.ax y.xs.length y.cx)∧w'.cell? ⟨b,off+e*5+2,none⟩=some (.bool y.sy)∧w'.cell? ⟨b,off+e*5+3,none⟩=some (.slice y.ay y.ys.length y.cy)∧w'.cell? ⟨b,off+e*5+4,none⟩=some (.int .u8 y.st)))
        (first|go_keep|exact⟨k0,k9,⟨e1,e2,e3,e4,e5⟩,⟨f1,f2,f3,f4,f5⟩⟩)
        (first|(go_at_call 93;refine(byPlace_gro x y _ (HXU.out.below st.b) (HYU.out.below st.b) HXR.out HYR.out).mono ?_;rintro e w1 ⟨rfl,g1⟩;rw[←HRr.out];have k0:=((st.trans g1).b.cell (p:=⟨w.heap.size,0,none⟩) HLB.out).trans HBW'.out;have k9:=((st.trans g1).b.cell (p:=⟨g,p+1,none⟩) HLG.out).trans HO2.out;obtain⟨e1,e2,e3,e4,e5⟩:=HCV.out.below ((st.trans g1).b.block b HLb.out);obtain⟨f1,f2,f3,f4,f5⟩:=HCY.out.below ((st.trans g1).b.block b HLb.out)))
       all_goals
        have HG1:=Lib.hid (st.trans g1)
        go_wp2_with fail
        go_roundw
        case rel =>
         refine⟨p+1,by omega,by go_num,?_,?_,?_,?_,?_⟩
         ·rw[standL_succ,if_neg (by rw[HKP.out];simp)];exact(HOW.out.kept (gbN HG1.out.b) (own_dec (fun k hk e=>by cases e)))
         ·exact fun j hj=>(HG1.out.b.cell (p:=⟨g,j,none⟩) HLG.out).trans (HOC.out j hj)
         ·exact(HG1.out.b.cell (p:=⟨w.heap.size,0,none⟩) HLB.out).trans HBW'.out
         ·exact HBB'.out.trans (HG1.out.b.mono HBB'.out.size)
         ·exact Nat.le_trans HSW.out HG1.out.b.size
        case measure=>simp[intOf];omega
      ·have t2:(r==0)=false:=by rw[beq_eq_false_iff_ne];exact hz
       have HNO:=Lib.hid (show(decide (p+1<o.length)&&(ordC (cat l a) (cat l (o[p+1]?.getD 0))==0))=false by rw[←HX.out,←HOE.out,←HY.out,←HRr.out,t2,Bool.and_false])
       clear hz;go_wp2_with fail
       go_region_held3 (fun w'=>w'.cell? ⟨w.heap.size,0,none⟩=some (.slice (some ⟨b,off,none⟩) q c)∧w'.cell? ⟨g,p+1,none⟩=some (.int .i64 (e:Int))∧(w'.cell? ⟨b,off+a*5,none⟩=some (.bool x.sx)∧w'.cell? ⟨b,off+a*5+1,none⟩=some (.slice x.ax x.xs.length x.cx)∧w'.cell? ⟨b,off+a*5+2,none⟩=some (.bool x.sy)∧w'.cell? ⟨b,off+a*5+3,none⟩=some (.slice x.ay x.ys.length x.cy)∧w'.cell? ⟨b,off+a*5+4,none⟩=some (.int .u8 x.st))∧(w'.cell? ⟨b,off+e*5,none⟩=some (.bool y.sx)∧w'.cell? ⟨b,off+e*5+1,none⟩=some (.slice y.ax y.xs.length y.cx)∧w'.cell? ⟨b,off+e*5+2,none⟩=some (.bool y.sy)∧w'.cell? ⟨b,off+e*5+3,none⟩=some (.slice y.ay y.ys.length y.cy)∧w'.cell? ⟨b,off+e*5+4,none⟩=some (.int .u8 y.st)))
        (first|go_keep|exact⟨k0,k9,⟨e1,e2,e3,e4,e5⟩,⟨f1,f2,f3,f4,f5⟩⟩)
        (first|(go_at_call 93;refine(byPlace_gro x y _ (HXU.out.below st.b) (HYU.out.below st.b) HXR.out HYR.out).mono ?_;rintro e w1 ⟨rfl,g1⟩;rw[←HRr.out];have k0:=((st.trans g1).b.cell (p:=⟨w.heap.size,0,none⟩) HLB.out).trans HBW'.out;have k9:=((st.trans g1).b.cell (p:=⟨g,p+1,none⟩) HLG.out).trans HO2.out;obtain⟨e1,e2,e3,e4,e5⟩:=HCV.out.below ((st.trans g1).b.block b HLb.out);obtain⟨f1,f2,f3,f4,f5⟩:=HCY.out.below ((st.trans g1).b.block b HLb.out)))
       all_goals
        have HG1:=Lib.hid (st.trans g1)
        have k0:=(HG1.out.b.cell (p:=⟨w.heap.size,0,none⟩) HLB.out).trans HBW'.out
        obtain⟨e1,e2,e3,e4,e5⟩:=HCV.out.below (HG1.out.b.block b HLb.out)
        by_cases hst:x.st=0
        ·have t3:((x.st:Int)!=0)=false:=by rw[bne_eq_false_iff_eq];omega
         have HKP:=Lib.hid (show keepAt l o p=false by unfold keepAt;rw[←HOA.out,←HX.out,hst];simp)
         go_wp2_with fail
         go_roundw
         case rel =>
          refine⟨p+1,by omega,by go_num,?_,?_,?_,?_,?_⟩
          ·rw[standL_succ,if_neg (by rw[HKP.out];simp)];exact(HOW.out.kept (gbN HG1.out.b) (own_dec (fun k hk e=>by cases e)))
          ·exact fun j hj=>(HG1.out.b.cell (p:=⟨g,j,none⟩) HLG.out).trans (HOC.out j hj)
          ·exact(HG1.out.b.cell (p:=⟨w.heap.size,0,none⟩) HLB.out).trans HBW'.out
          ·exact HBB'.out.trans (HG1.out.b.mono HBB'.out.size)
          ·exact Nat.le_trans HSW.out HG1.out.b.size
         case measure=>simp[intOf];omega
        ·have t3:((x.st:Int)!=0)=true:=by rw[bne_iff_ne];omega
         have HKP:=Lib.hid (show keepAt l o p=true by unfold keepAt;rw[←HOA.out,HNO.out,←HX.out,bne_iff_ne.2 hst];rfl)
         go_wp2_with (at_builtin;go_loud (refine wpList_append_cell _ rfl _ _ rfl (w.heap.size+2) _ (standL l o p) x _ 1 rfl rfl ((HOW.out.kept (gbN HG1.out.b) (own_dec (fun k hk e=>by cases e))).alloc _) (cell_box _ x) (by have:=standL_len l o p;omega) (by have h1:=HSW.out;have h2:=HG1.out.b.size;simp;omega) ?_;intro v5 w5 hown5 hg5 hk5;have HO5:=Lib.hid hown5;have HG5:=Lib.hid hg5;clear hown5 hg5 hk5))
         go_roundw
         case rel =>
          have HB5:Below (w.heap.size+2) wr w5:=((HG1.out.b.mono HSW.out).alloc (Nat.le_trans HSW.out HG1.out.b.size) _).grown HG5.out (by simp;have:=HSW.out;have:=HG1.out.b.size;omega) (fun k hk=>(HOW.out.lt k hk).1)
          refine⟨p+1,by omega,by go_num,?_,?_,?_,?_,?_⟩
          ·rw[standL_succ,if_pos HKP.out,←HOA.out,←HX.out];exact HO5.out
          ·exact fun j hj=>(HB5.cell (p:=⟨g,j,none⟩) (by show g<_;have:=HGE.out;omega)).trans (HOC.out j hj)
          ·exact(HB5.cell (p:=⟨w.heap.size,0,none⟩) (by show w.heap.size<_;omega)).trans HBW'.out
          ·exact HBB'.out.trans (HB5.mono (by omega))
          ·exact Nat.le_trans HSW.out HB5.size
         case measure=>simp[intOf];omega
     ·have j3:decide ((p:Int)+1<(q:Int))=false:=decide_eq_false (by omega)
      have HNO:=Lib.hid (show(decide (p+1<o.length)&&(ordC (cat l a) (cat l (o[p+1]?.getD 0))==0))=false by rw[decide_eq_false (show ¬ p+1<o.length by rw[HLO.out];exact hlast),Bool.false_and])
      clear hx ha hcl hoc hown hbb hsw;go_wp2_with fail
      go_quiet (fail)
      have g0:Gro wr (wr.drewN nq):=(Gro.refl wr).drewN nq
      have HG1:=Lib.hid g0;have k0:=(HG1.out.b.cell (p:=⟨w.heap.size,0,none⟩) HLB.out).trans HBW'.out
      obtain⟨e1,e2,e3,e4,e5⟩:=HCV.out.below (HG1.out.b.block b HLb.out)
      by_cases hst:x.st=0
      ·have t3:((x.st:Int)!=0)=false:=by rw[bne_eq_false_iff_eq];omega
       have HKP:=Lib.hid (show keepAt l o p=false by unfold keepAt;rw[←HOA.out,←HX.out,hst];simp)
       go_wp2_with fail
       go_roundw
       case rel =>
        refine⟨p+1,by omega,by go_num,?_,?_,?_,?_,?_⟩
        ·rw[standL_succ,if_neg (by rw[HKP.out];simp)];exact(HOW.out.kept (gbN HG1.out.b) (own_dec (fun k hk e=>by cases e)))
        ·exact fun j hj=>(HG1.out.b.cell (p:=⟨g,j,none⟩) HLG.out).trans (HOC.out j hj)
        ·exact(HG1.out.b.cell (p:=⟨w.heap.size,0,none⟩) HLB.out).trans HBW'.out
        ·exact HBB'.out.trans (HG1.out.b.mono HBB'.out.size)
        ·exact Nat.le_trans HSW.out HG1.out.b.size
       case measure=>simp[intOf];omega
      ·have t3:((x.st:Int)!=0)=true:=by rw[bne_iff_ne];omega
       have HKP:=Lib.hid (show keepAt l o p=true by unfold keepAt;rw[←HOA.out,HNO.out,←HX.out,bne_iff_ne.2 hst];rfl)
       go_wp2_with (at_builtin;go_loud (refine wpList_append_cell _ rfl _ _ rfl (w.heap.size+2) _ (standL l o p) x _ 1 rfl rfl ((HOW.out.kept (gbN HG1.out.b) (own_dec (fun k hk e=>by cases e))).alloc _) (cell_box _ x) (by have:=standL_len l o p;omega) (by have h1:=HSW.out;have h2:=HG1.out.b.size;simp;omega) ?_;intro v5 w5 hown5 hg5 hk5;have HO5:=Lib.hid hown5;have HG5:=Lib.hid hg5;clear hown5 hg5 hk5))
       go_roundw
       case rel =>
        have HB5:Below (w.heap.size+2) wr w5:=((HG1.out.b.mono HSW.out).alloc (Nat.le_trans HSW.out HG1.out.b.size) _).grown HG5.out (by simp;have:=HSW.out;have:=HG1.out.b.size;omega) (fun k hk=>(HOW.out.lt k hk).1)
        refine⟨p+1,by omega,by go_num,?_,?_,?_,?_,?_⟩
        ·rw[standL_succ,if_pos HKP.out,←HOA.out,←HX.out];exact HO5.out
        ·exact fun j hj=>(HB5.cell (p:=⟨g,j,none⟩) (by show g<_;have:=HGE.out;omega)).trans (HOC.out j hj)
        ·exact(HB5.cell (p:=⟨w.heap.size,0,none⟩) (by show w.heap.size<_;omega)).trans HBW'.out
        ·exact HBB'.out.trans (HB5.mono (by omega))
        ·exact Nat.le_trans HSW.out HB5.size
       case measure=>simp[intOf];omega
    ·obtain rfl:p=q:=by omega
     have t1:decide ((p:Int)<(p:Int))=false:=decide_eq_false (by omega)
     clear hown hoc hbw hbb hsw;go_wp2_with fail
     go_ret
     refine⟨_,standL l o p,rfl,stand_spec HN.out HPM.out HSR.out,fun v hv=>standL_mem HN.out HPM.out (Nat.le_refl _) hv,HOW.out.mono (by omega),by rw[HN.out];exact standL_len l o p,HBB'.out⟩
end Go.Proofs.YtikehjindobpkaaGreat

namespace Go.Proofs.YtikehjindobpkaaGreat
open Go.RowKit Nds Num
theorem ordC_lt {v u:Cv}:ordC v u<0↔ltB v.cl u.cl=true:=by
 rw[ltB_iff]
 unfold ordC ltC Cv.cl
 dsimp only
 split
 ·rename_i h
  rw[ordI_zero] at h;rw[ordI_neg];omega
 ·rename_i h
  rw[ordI_zero] at h;rw[ordI_neg];omega
theorem ordC_eq {v u:Cv}:ordC v u=0↔(v.cl.x=u.cl.x∧v.cl.y=u.cl.y):=by
 unfold ordC Cv.cl
 dsimp only
 split
 ·rename_i h
  rw[ordI_zero] at h;rw[ordI_zero];exact⟨fun e=>⟨e,h⟩,fun e=>e.1⟩
 ·rename_i h
  rw[ordI_zero] at h ⊢;exact⟨fun e=>absurd e h,fun e=>absurd e.2 h⟩
def insV:List Cv→Cv→List Cv
 | [],c=>[c]
 | a :: l,c=>if ordC a c<0 then a :: insV l c else if ordC a c=0 then c :: l else c :: a :: l
theorem insV_cl:∀(l:List Cv) (c:Cv),(insV l c).map Cv.cl=insC (l.map Cv.cl) c.cl
 | [],c=>rfl
 | a :: l,c=>by
  rw[List.map_cons];unfold insV insC;by_cases h1:ordC a c<0
  ·rw[if_pos h1,if_pos (ordC_lt.1 h1),List.map_cons,insV_cl l c]
  ·rw[if_neg h1,if_neg (fun e=>h1 (ordC_lt.2 e))];by_cases h2:ordC a c=0
   ·rw[if_pos h2,if_pos (ordC_eq.1 h2)]
    rfl
   ·rw[if_neg h2,if_neg (fun e=>h2 (ordC_eq.2 e))]
    rfl
theorem insV_mem:∀{l:List Cv} {c d:Cv},d∈insV l c→d=c∨d∈l
 | [],c,d,h=>.inl (List.mem_singleton.1 h)
 | a :: l,c,d,h=>by
  unfold insV at h
  split at h
  ·rcases List.mem_cons.1 h with h|h
   ·exact .inr (by simp[h])
   ·rcases insV_mem h with h|h
    ·exact .inl h
    ·exact .inr (by simp[h])
  ·split at h
   ·rcases List.mem_cons.1 h with h|h
    ·exact .inl h
    ·exact .inr (by simp[h])
   ·rcases List.mem_cons.1 h with h|h
    ·exact .inl h
    ·exact .inr h
theorem insV_len:∀(l:List Cv) (c:Cv),(insV l c).length≤l.length+1
 | [],c=>Nat.le_refl _
 | a :: l,c=>by
  unfold insV
  split
  ·have:=insV_len l c
   simp only[List.length_cons]
   omega
  ·split <;> simp
theorem insV_at:∀(l:List Cv) (c:Cv) (p:Nat),p≤l.length→(∀j,j<p→ordC (cat l j) c<0)→(p<l.length→¬ ordC (cat l p) c<0) →
  insV l c=(l.take p++[c])++(l.drop p).drop (if p<l.length∧ordC (cat l p) c=0 then 1 else 0)
 | [],c,p,h,_,_=>by
  obtain rfl:p=0:=by simpa using h
  rfl
 | a :: l,c,0,_,_,h3=>by
  have h4:¬ ordC a c<0:=h3 (by simp)
  unfold insV;rw[if_neg h4];by_cases h5:ordC a c=0
  ·rw[if_pos h5,if_pos ⟨by simp,h5⟩]
   rfl
  ·rw[if_neg h5,if_neg (fun e=>h5 e.2)]
   rfl
 | a :: l,c,p+1,h1,h2,h3=>by
  have h4:ordC a c<0:=h2 0 (by omega)
  have ih:=insV_at l c p (by simpa using h1) (fun j hj=>h2 (j+1) (by omega)) (fun hp=>h3 (by simpa using hp))
  unfold insV;rw[if_pos h4,ih];have e:(p+1<(a :: l).length∧ordC (cat (a :: l) (p+1)) c=0)↔(p<l.length∧ordC (cat l p) c=0):=by
   rw[List.length_cons,Nat.add_lt_add_iff_right]
   rfl
  simp only[e,List.take_succ_cons,List.drop_succ_cons,List.cons_append]
def insVs (l:List Cv):List Cv:=l.foldl insV []
theorem insVs_snoc (l:List Cv)(c:Cv):insVs (l++[c])=insV (insVs l) c:=by
 unfold insVs
 rw[List.foldl_append]
 rfl
theorem insVs_spec (l:List Cv):∀k,k≤l.length→(insVs (l.take k)).map Cv.cl=insAll ((l.take k).map Cv.cl)∧(∀u∈insVs (l.take k),u∈l)∧(insVs (l.take k)).length≤k:=by
 intro k
 induction k with
 | zero=>exact fun _=>⟨rfl,(fun u hu=>by cases hu),Nat.le_refl _⟩
 | succ k ih =>
  intro hk
  obtain⟨i1,i2,i3⟩:=ih (by omega)
  rw[List.take_succ_eq_append_getElem (by omega),insVs_snoc];refine⟨?_,fun u hu=>?_,?_⟩
  ·rw[insV_cl,i1,List.map_append,List.map_singleton,insAll_snoc]
  ·rcases insV_mem hu with rfl|hu
   ·exact List.getElem_mem _
   ·exact i2 u hu
  ·have:=insV_len (insVs (l.take k)) l[k]
   omega
theorem insVs_next (l:List Cv){k:Nat}(hk:k<l.length):insVs (l.take (k+1))=insV (insVs (l.take k)) (cat l k):=by
 rw[List.take_succ_eq_append_getElem hk,insVs_snoc,cat_get hk]
theorem Cs.cut {w:World}{A:Option Addr}{c:Nat}{l:List Cv}(h:Cs w A c l)(k:Nat):Cs w A c (l.take k):=by
 refine⟨fun v hv=>h.1 v (List.mem_of_mem_take hv),Nat.le_trans (by rw[List.length_take];omega) h.2.1,h.2.2.1,fun hn=>?_⟩
 rw[List.length_take] at hn
 obtain⟨b,off,e,hb,hc⟩:=h.2.2.2 (by omega)
 refine⟨b,off,e,hb,fun i hi=>?_⟩
 rw[List.length_take] at hi
 have e2:cat (l.take k) i=cat l i:=by
  unfold cat;rw[List.getElem?_take,if_pos (by omega)]
 rw[e2]
 exact hc i (by omega)
theorem Cs.rest {w:World}{b off c:Nat}{l:List Cv}(h:Cs w (some ⟨b,off,none⟩) c l){k:Nat}(hk:k≤l.length):Cs w (some ⟨b,off+k*5,none⟩) (c-k) (l.drop k):=by
 refine⟨fun v hv=>h.1 v (List.mem_of_mem_drop hv),by have:=h.2.1;rw[List.length_drop];omega,by have:=h.2.2.1;omega,fun hn=>?_⟩
 rw[List.length_drop] at hn
 obtain⟨b',off',e,hb,hc⟩:=h.2.2.2 (by omega)
 cases e
 refine⟨b,off+k*5,rfl,hb,fun i hi=>?_⟩
 rw[List.length_drop] at hi
 have e2:cat (l.drop k) i=cat l (k+i):=by
  unfold cat;rw[List.getElem?_drop]
 rw[e2,show off+k*5+i*5=off+(k+i)*5 by omega]
 exact hc (k+i) (by omega)
theorem run_append_cut (w:World)(y:Cv)(ty:TypeId)(A:Option Addr)(p d:Nat)(xs:List Cv)(ad:Addr)(hp:xs.length=p)(hN:Cs w A d xs)(hA:A=none→p=0)(hy:∀j u,(cvcs [y])[j]?=some u→w.cell? (ad.add j)=some u)(c:Nat)(hs:p+1≤1000000) :
  ∃v' w',(Builtin.append_ #[22,22] ty #[.slice A p p,.slice (some ad) 1 c]).run Tryz.prog w=.ok v' w'∧OwnC w' w.heap.size v' (xs++[y])∧w.grownBy w' none:=by
 obtain⟨i0,hi,hz0,hz1,hz2⟩:=info_parts Tryz.infoC
 subst hp
 cases A with
 | none =>
  have h0:=List.eq_nil_of_length_eq_zero (hA rfl)
  subst h0;obtain⟨v',w',hrun,h1,h2,_⟩:=run_append_cells w w.heap.size (.slice none 0 0) [] [y] ty ad 1 c (OwnC.nil w _) hy rfl (by simp) (Nat.le_refl _)
  exact⟨v',w',hrun,h1,h2⟩
 | some b =>
  obtain⟨v',w',hrun,h1,h2⟩:=run_append_arg_grows (P:=Tryz.prog) w 22 ty 83 i0 (cvv cv0) 5 72 Tryz.underlying22 hi hz0 hz1 hz2 rfl (by omega) b xs.length xs.length (cvcs xs) (cvcs_len xs) (hN.cells rfl) ad 1 c (cvcs [y]) (cvcs_len [y]) hy (by omega) (by simp only[maxLen];omega) (by omega)
  refine⟨v',w',hrun,?_,h2⟩
  unfold OwnC;rw[cvcs_app,List.length_append];exact h1
theorem oper_append_cut {w:World}{o:Oper}{a:Act}{K:Act→World→Prop}{Q:Exit→Act→World→Prop}(s x:Operand)
  (hop:o.op=Op.call { callee:=Callee.builtin Builtin.append,args:=#[s,x],argTypes:=#[22,22] }) (y:Cv) (A:Option Addr) (p d:Nat) (xs:List Cv) (ad:Addr) (c:Nat)
  (hs:a.eval s=.slice A p p) (hx:a.eval x=.slice (some ad) 1 c) (hp:xs.length=p) (hN:Cs w A d xs) (hA:A=none→p=0) (hy:∀j u,(cvcs [y])[j]?=some u→w.cell? (ad.add j)=some u) (hsz:p+1≤1000000)
  (h:∀v' w',OwnC w' w.heap.size v' (xs++[y])→w.grownBy w' none→K (a.put o.dst v') w'):Oper.wp Tryz.prog o a w K Q:=by
 obtain⟨v',w',hrun,h1,h2⟩:=run_append_cut w y o.type A p d xs ad hp hN hA hy c hsz
 unfold Oper.wp execOp
 simp only[hop,resolve,invoke,builtin,Sem.run_bind,Sem.run_pure,Result.andThen_ok,List.map_toArray,List.map_cons,List.map_nil,hs,hx,hrun]
 exact h v' w' h1 h2
theorem oper_append_cs {w:World}{o:Oper}{a:Act}{K:Act→World→Prop}{Q:Exit→Act→World→Prop}(s x:Operand)
  (hop:o.op=Op.call { callee:=Callee.builtin Builtin.append,args:=#[s,x],argTypes:=#[22,22] }) (base:Nat) (v:Value) (xs ys:List Cv) (A:Option Addr) (m c:Nat)
  (hs:a.eval s=v) (hx:a.eval x=.slice A m c) (how:OwnC w base v xs) (hN:Cs w A c ys) (hm:ys.length=m) (hA:A=none→c=0) (hsz:xs.length+m≤1000000) (hb:base≤w.heap.size)
  (h:∀v' w',OwnC w' base v' (xs++ys)→w.grownBy w' v.ownBlock→(v'.ownBlock=v.ownBlock∨v'.ownBlock=some w.heap.size)→K (a.put o.dst v') w'):Oper.wp Tryz.prog o a w K Q:=by
 obtain⟨v',w',hrun,h1,h2,h3⟩:=run_append_cs w base v xs ys o.type A m c how hN hm hA hsz hb
 unfold Oper.wp execOp
 simp only[hop,resolve,invoke,builtin,Sem.run_bind,Sem.run_pure,Result.andThen_ok,List.map_toArray,List.map_cons,List.map_nil,hs,hx,hrun]
 exact h v' w' h1 h2 h3
theorem cs_none (w:World)(A:Option Addr){c:Nat}(h:c≤maxLen):Cs w A c []:=⟨(fun v hv=>by cases hv),Nat.zero_le _,h,fun h0=>absurd h0 (Nat.lt_irrefl 0)⟩
theorem ownC_start (w:World){base:Nat}(h:base≤w.heap.size):OwnC (w.alloc (.cells #[] 83)) base (.slice (some ⟨w.heap.size,0,none⟩) 0 0) []:=World.ownsRow_made w #[] 0 h (by simp[maxLen]) rfl
theorem put_in {l M:List Cv}{i p:Nat}{x:Cv}(hM:M=insVs (l.take i))(hx:x=cat l i)(hi:i<l.length)(hp:p≤M.length)(h1:∀j,j<p→ordC (cat M j) x<0)(h2:p<M.length→¬ ordC (cat M p) x<0) :
  insVs (l.take (i+1))=(M.take p++[x])++(M.drop p).drop (if p<M.length∧ordC (cat M p) x=0 then 1 else 0):=by
 rw[insVs_next l hi,←hM,←hx]
 exact insV_at M x p hp h1 h2
theorem filter_cl:∀M:List Cv,(M.filter fun u=>u.st != 0).map Cv.cl=(M.map Cv.cl).filter fun c=>c.s != 0
 | []=>rfl
 | u :: M=>by
  have e:(u.cl.s != 0)=(u.st != 0):=by
   show(((u.st:Nat):Int)!=0)=_
   rw[Bool.eq_iff_iff];simp
  rw[List.map_cons,List.filter_cons,List.filter_cons,e]
  split
  ·rw[List.map_cons,filter_cl M]
  ·exact filter_cl M
theorem last_cl {l M:List Cv}{n:Nat}(hM:M=insVs (l.take n))(hn:l.length=n):(M.filter fun u=>u.st != 0).map Cv.cl=lastF (l.map Cv.cl):=by
 subst hn
 rw[filter_cl,hM,(insVs_spec l l.length (Nat.le_refl _)).1,List.take_length]
 rfl
theorem filter_next {M:List Cv}{q:Nat}{y:Cv}(hq:q<M.length)(hy:y=cat M q):(M.take (q+1)).filter (fun u=>u.st != 0)=(M.take q).filter (fun u=>u.st != 0)++(if y.st=0 then [] else [y]):=by
 rw[List.take_succ_eq_append_getElem hq,List.filter_append,←cat_get hq,←hy]
 congr 1
 rw[List.filter_cons,List.filter_nil]
 by_cases h:y.st=0
 ·rw[if_pos h,if_neg (by rw[h];decide)]
 ·rw[if_neg h,if_pos (by simpa using h)]
end Go.Proofs.YtikehjindobpkaaGreat
