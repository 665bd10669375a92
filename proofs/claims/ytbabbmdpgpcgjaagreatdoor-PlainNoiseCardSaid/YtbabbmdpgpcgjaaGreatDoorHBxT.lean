import Derived.Test.YtbabbmdpgpcgjaaGreatDoorHBxP
import Derived.Lib.SlicesCompact
import Derived.Shelf.Slices.In.SortAlone
import Derived.Shelf.Slices.In.SortNone
import Derived.Shelf.Slices.CompactI
import Derived.Sort.EveryDepth
import Derived.Sort.OwnSortedInts
import Derived.Lib.OwnBridge
import Derived.Test.YtbabbmdpgpcgjaaGreatDoorLaidB

set_option linter.unusedVariables false
set_option linter.unusedSimpArgs false
set_option maxRecDepth 100000
set_option maxHeartbeats 6400000
namespace Go.Proofs.YtbabbmdpgpcgjaaGreatDoor
open Go.RowKit Num Nds
structure Xb where
 x:Bw
 y:Bw
 w:Bw
 h:Bw
abbrev Xb.val (u:Xb):Value:=.agg #[.bool u.x.s,.slice u.x.a u.x.xs.length u.x.c,.bool u.y.s,.slice u.y.a u.y.xs.length u.y.c,.bool u.w.s,.slice u.w.a u.w.xs.length u.w.c,.bool u.h.s,.slice u.h.a u.h.xs.length u.h.c]
abbrev Xb.obj (u:Xb):Obj:=.cells #[.bool u.x.s,.slice u.x.a u.x.xs.length u.x.c,.bool u.y.s,.slice u.y.a u.y.xs.length u.y.c,.bool u.w.s,.slice u.w.a u.w.xs.length u.w.c,.bool u.h.s,.slice u.h.a u.h.xs.length u.h.c] 105
structure Xb.R (u:Xb)(W:World)(X Y V H:Int):Prop where
 x:u.x.R W X
 y:u.y.R W Y
 w:u.w.R W V
 h:u.h.R W H
theorem Xb.R.next {u:Xb}{W W1:World}{X Y V H:Int}(r:u.R W X Y V H)(k:Below W.heap.size W W1):u.R W1 X Y V H:=⟨r.x.next k,r.y.next k,r.w.next k,r.h.next k⟩
structure Xb.Sh (u:Xb):Prop where
 x:u.x.xs.length≤50000
 y:u.y.xs.length≤50000
 w:u.w.xs.length≤50000
 h:u.h.xs.length≤50000
theorem Xb.cells {W:World}{g:Nat}{u:Xb}(h:W.heap[g]?=some u.obj):W.cell? ⟨g,0,none⟩=some (.bool u.x.s)∧W.cell? ⟨g,1,none⟩=some (.slice u.x.a u.x.xs.length u.x.c)∧W.cell? ⟨g,2,none⟩=some (.bool u.y.s)∧W.cell? ⟨g,3,none⟩=some (.slice u.y.a u.y.xs.length u.y.c)∧W.cell? ⟨g,4,none⟩=some (.bool u.w.s)∧W.cell? ⟨g,5,none⟩=some (.slice u.w.a u.w.xs.length u.w.c)∧W.cell? ⟨g,6,none⟩=some (.bool u.h.s)∧W.cell? ⟨g,7,none⟩=some (.slice u.h.a u.h.xs.length u.h.c):=by
 refine⟨?_,?_,?_,?_,?_,?_,?_,?_⟩ <;> (rw[cell_of_row W g _ _ _ (0,0) h];rfl)
theorem zee {W:World}{g:Nat}{t:TypeId}(h:W.heap[g]?=some (.cells #[.bool false,.slice none 0 0] t)) :
  W.cell? ⟨g,0,none⟩=some (.bool false)∧W.cell? ⟨g,1,none⟩=some (.slice none 0 0)∧W.frozen? ⟨g,0,none⟩=false∧W.frozen? ⟨g,1,none⟩=false:=by
 refine⟨?_,?_,frozen_of_row W g 0 _ _ h,frozen_of_row W g 1 _ _ h⟩ <;> (rw[cell_of_row W g _ _ _ (0,0) h];rfl)
theorem zqL (u v:Bw)(X Y:Int)(w:World)(h:u.R w X)(k:v.R w Y)(hx : -p2 1329≤X∧X≤p2 1329)(hy : -p2 1329≤Y∧Y≤p2 1329) :
  Calls Tryz.prog 150 #[.agg #[.bool u.s,.slice u.a u.xs.length u.c,.bool v.s,.slice v.a v.xs.length v.c]] w (RetI (Y-X+1) w):=by
 have hp:p2 1330=p2 1329+p2 1329:=zap 1329;have lu:=zaX h (by omega) (by omega);have lv:=zaX k (by omega) (by omega);have hcu:=h.us.cap;have hcv:=k.us.cap;have b1:=(Below.refl w.heap.size w).alloc (Nat.le_refl _) (.cells #[.bool u.s,.slice u.a u.xs.length u.c,.bool v.s,.slice v.a v.xs.length v.c] 189);have b2:=b1.alloc (by simp) (.cells #[.bool false,.slice none 0 0] 69);have hr:=heap_alloc_new (w.alloc (.cells #[.bool u.s,.slice u.a u.xs.length u.c,.bool v.s,.slice v.a v.xs.length v.c] 189)) (.cells #[.bool false,.slice none 0 0] 69);rw[World.size_alloc] at hr;have R0:=Hh hr;have HB:=Hh b2;have HU:=Hh (h.next b2);have HV:=Hh (k.next b2);have HX:=Hh hx;have HY:=Hh hy;have HP:=Hh hp;have q0:True:=trivial;clear h k hx hy hp b1 b2 hr;go_enter Tryz.func150,Tryz.ntmps150;go_wp2_with (first
  | (have _t:=q0;go_at_call 184;clear _t;go_loud (refine(zmY v.s u.s v.a u.a v.c u.c v.xs u.xs _ HV.out.us HU.out.us (by omega) (by omega)).mono ?_;rintro e w1 h1;obtain⟨d,rfl,rd,b1⟩:=zaj h1;rw[HV.out.v,HU.out.v] at rd;have HD:=Hh rd;have HB:=Hh (HB.out.trans (b1.mono HB.out.size));have R1:=Hh ((b1.block _ (zab R0.out)).trans R0.out);clear rd b1 h1;have q1:=q0;clear q0))
  | (have _t:=q1;go_at_call 137;clear _t;go_loud (refine(zgK 1 _ (by omega) (by omega)).mono ?_;rintro e w2 h2;obtain⟨o,rfl,ro,b2⟩:=zaj h2;have HD:=Hh (HD.out.next b2);have HO:=Hh ro;have R2:=Hh ((b2.block _ (zab R1.out)).trans R1.out);have HB:=Hh (HB.out.trans (b2.mono HB.out.size));clear ro b2 h2;have q2:=q1;clear q1))
  | (have _t:=q2;go_at_call 141;clear _t;go_loud (refine(zeI d.s o.s d.a o.a d.c o.c d.xs o.xs _ HD.out.us HO.out.us (Nat.le_trans (zaX HD.out (by have:=HX.out;have:=HY.out;have:=HP.out;omega) (by have:=HX.out;have:=HY.out;have:=HP.out;omega)) (by omega)) (Nat.le_trans (zaX HO.out (by have:=zaz 1330;omega) (by have:=zaz 1330;omega)) (by omega))).mono ?_;rintro e w3 h3;obtain⟨s,rfl,rs,b3⟩:=zaj h3;rw[HD.out.v,HO.out.v] at rs;have HS:=Hh rs;have R3:=Hh ((b3.block _ (zab R2.out)).trans R2.out);obtain⟨g0,g1,f0,f1⟩:=zee R3.out;have HB:=Hh (HB.out.trans (b3.mono HB.out.size));clear rs b3 h3;have q3:=q2;clear q2)))
 have hz:=HS.out.set (o:=bw0) R3.out;have e1:=hz.c0;have e2:=hz.c1;refine bodyPost_ret (v:=.agg #[.bool s.s,.slice s.a s.xs.length s.c]) (by simp[results,Tryz.results150,go_sem,e1,e2]) rfl ?_;exact⟨s.a,s.c,s.s,s.xs,rfl,hz.r.us,hz.r.cn,hz.r.v,(HB.out.setCell (p:=⟨w.heap.size+1,0,none⟩) (Nat.le_succ _) _).setCell (p:=⟨w.heap.size+1,1,none⟩) (Nat.le_succ _) _⟩
theorem zqM (A:Option Addr)(c n:Nat)(xs:List Nat)(w:World)(h:Us w A c xs)(hn:xs.length=n)(hl:n≤1000000) :
  Calls Tryz.prog 218 #[.slice A n c] w (RetI (val xs:Int) w):=by
 have hcap:=h.cap;rw[hn] at hcap;obtain⟨W,hW⟩:∃W:World,W=w.alloc (.cells #[.bool false,.slice none 0 0] 69):=⟨_,rfl⟩;have hb:Below w.heap.size w W:=by rw[hW];exact(Below.refl _ w).alloc (Nat.le_refl _) _
 have hr:W.heap[w.heap.size]?=some (.cells #[.bool false,.slice none 0 0] 69):=by rw[hW];exact heap_alloc_new w _
 have HB:=Hh hb;have HR:=Hh hr;have HU:=Hh (h.below hb);have HN:=Hh hn;obtain⟨g0,g1,f0,f1⟩:=zee hr;clear h hb hr hn;go_enter Tryz.func218,Tryz.ntmps218;go_wp2_with fail;rw[←hW];clear hW;go_loopw [0] (fun z wr=>∃m:Nat,m≤n∧z=.slice A m c∧(∀j,m≤j→j<xs.length→xs[j]?.getD 0=0)∧W=wr) (fun z _=>lenOf z)
 case atStart=>exact⟨n,Nat.le_refl _,rfl,fun j h1 h2=>absurd h2 (by have:=HN.out;omega),rfl⟩
 case round =>
  obtain⟨m,hm,rfl,hz,rfl⟩:=hrel;have HZ:=Hh hz;clear hz;have fin:∀(m:Nat),m≤n→(∀j,m≤j→j<xs.length→xs[j]?.getD 0=0)→(m=0∨xs[m-1]?.getD 0≠0)→RetI (val xs:Int) w (.returned (.agg #[.bool false,.slice A m c])) ((W.setCell ⟨w.heap.size,0,none⟩ (.bool false)).setCell ⟨w.heap.size,1,none⟩ (.slice A m c))∧((W.setCell ⟨w.heap.size,0,none⟩ (.bool false)).setCell ⟨w.heap.size,1,none⟩ (.slice A m c)).cell? ⟨w.heap.size,0,none⟩=some (.bool false)∧((W.setCell ⟨w.heap.size,0,none⟩ (.bool false)).setCell ⟨w.heap.size,1,none⟩ (.slice A m c)).cell? ⟨w.heap.size,1,none⟩=some (.slice A m c):=by
   intro m hm hz hx;have e1:(xs.take m).length=m:=by rw[List.length_take,HN.out];omega
   have hc:zaS (xs.take m):=by
    rcases hx with rfl|hx
    ·rw[List.take_zero];exact zbe
    ·by_cases h0:m=0
     ·subst h0;rw[List.take_zero];exact zbe
     ·obtain⟨k,rfl⟩:∃k,m=k+1:=⟨m-1,by omega⟩;exact zhX (by have:=HN.out;omega) hx
   have hr:(⟨false,A,c,xs.take m⟩:Bw).R W (val xs:Int):=⟨HU.out.take (by have:=HN.out;omega),⟨hc,by simp⟩,by
    show ival false (xs.take m)=_;unfold ival;rw[zlt (by have:=HN.out;omega) hz];simp⟩
   have hz:=hr.set (o:=bw0) HR.out;rw[show(⟨false,A,c,xs.take m⟩:Bw).xs.length=m from e1] at hz;have c1:=hz.c1;rw[show(⟨false,A,c,xs.take m⟩:Bw).xs.length=m from e1] at c1;refine⟨⟨A,c,false,xs.take m,by rw[e1],hz.r.us,hz.r.cn,hz.r.v,?_⟩,hz.c0,c1⟩;exact(HB.out.setCell (p:=⟨w.heap.size,0,none⟩) (Nat.le_refl _) _).setCell (p:=⟨w.heap.size,1,none⟩) (Nat.le_refl _) _
  have FIN:=Hh fin;clear fin;by_cases h0:m=0
  ·subst h0;go_wp2_with fail;obtain⟨hf,e1,e2⟩:=FIN.out 0 (by omega) HZ.out (Or.inl rfl);refine bodyPost_ret (v:=.agg #[.bool false,.slice A 0 c]) (by simp[results,Tryz.results218,go_sem,e1,e2]) rfl ?_;exact hf
  ·obtain⟨p,rfl⟩:∃p,m=p+1:=⟨m-1,by omega⟩;have hpx:p<xs.length:=by have:=HN.out;omega
   obtain⟨b,off,rfl,-,hcl⟩:=HU.out.at_ (by omega)
   have hcp:=hcl p hpx;obtain⟨x,hx⟩:∃x,x=xs[p]?.getD 0:=⟨_,rfl⟩;rw[←hx] at hcp;have HX:=Hh hx;have t1:decide ((p:Int)+1>0)=true:=decide_eq_true (by omega);have i1:(0:Int)≤(p:Int):=by omega
   have i2:(p:Int)<(p:Int)+1:=by omega
   have i3:IntKind.i64.wrap ((p:Int)+1-1)=(p:Int):=by rw[show(p:Int)+1-1=(p:Int) by omega];exact IntWalk.i64_in _ (by omega)
   have i7:IntKind.i64.wrap (p:Int)=(p:Int):=IntWalk.i64_in _ (by omega);clear hcl hx;by_cases hx0:x=0
   ·have t2:((x:Int)==0)=true:=beq_iff_eq.2 (by omega);go_wp2_with fail;go_roundw
    case rel =>
     refine⟨p,by omega,by first|rfl|trivial,fun j h1 h2=>?_,by first|rfl|trivial⟩;by_cases hj:j=p
     ·rw[hj,←HX.out,hx0]
     ·exact HZ.out j (by omega) h2
    case measure=>simp[lenOf]
   ·have t2:((x:Int)==0)=false:=beq_eq_false_iff_ne.2 (by omega);go_wp2_with fail;obtain⟨hf,e1,e2⟩:=FIN.out (p+1) (by omega) HZ.out (Or.inr (by rw[Nat.add_sub_cancel,←HX.out];exact hx0));refine bodyPost_ret (v:=.agg #[.bool false,.slice (some ⟨b,off,none⟩) (p+1) c]) (by simp[results,Tryz.results218,go_sem,e1,e2]) rfl ?_;exact hf
def IsE (l:List Nd)(ax e i:Nat)(D:Int):Prop:=EdS ax e (at_ l i).lv.toNat (fun u=>u=den l (i+1)) D
theorem zkz {l:List Nd}(hl:zai l=true){i:Nat}(hi:i<l.length){k:Nat}(hk:k<4):(den l (i+1)).q k=kidT (dens l) (at_ l i).lv ((at_ l i).kid k):=by
 rw[zbR hl hi,zvf _ _ hk]
theorem zis {l:List Nd}(hg:zas l){i:Nat}(hi:i<l.length){k:Nat}(hk:k<4):(at_ l i).kid k≠0↔(den l (i+1)).q k≠.e:=by
 have hf:=zav (zaq hg.1 hi) hk;rw[zkz hg.1 hi hk];by_cases hv:(at_ l i).lv=1
 ·rw[hv,zdh];unfold st;by_cases h0:(at_ l i).kid k=0
  ·simp[h0]
  ·simp[h0]
 ·rw[zaY hv];rcases zbc hv hf with h|⟨m,h,hm,-⟩
  ·rw[h];simp[zbd]
  ·rw[h,show(((m:Int)+1).toNat)=m+1 by omega];exact⟨fun _=>(hg.2 m hm).1,fun _=>by omega⟩
theorem zqN {l:List Nd}(hg:zas l){i:Nat}(hi:i<l.length){ax e:Nat}(he:e≤1){m:Nat}(hm:(at_ l i).lv=(m:Int)+1)(f:Nat→Int)
  (hf:∀k,k<4→(at_ l i).kid k≠0→(m=0∧f k=0)∨(m≠0∧IsE l ax e (((at_ l i).kid k).toNat-1) (f k)))
  {D:Int} (hle:∀k,k<4→(at_ l i).kid k≠0→D≤f k+pen ax e m k) (hex:∃k,k<4∧(at_ l i).kid k≠0∧D=f k+pen ax e m k):IsE l ax e i D:=by
 have hw:=zbY hg.1 i hi;rw[hm] at hw;unfold IsE;rw[hm,show(((m:Int)+1).toNat)=m+1 by omega];refine zwl hw he f (fun k hk hne=>?_) (fun k hk hne=>hle k hk ((zis hg hi hk).2 hne)) ?_
 ·have h0:=(zis hg hi hk).2 hne;rcases hf k hk h0 with⟨h1,h2⟩|⟨h1,h2⟩
  ·subst h1;rw[h2];refine zqK (fun t ht=>?_) ⟨_,rfl,hne⟩;have ht':t=(den l (i+1)).q k:=ht;subst ht';have h3:=wf_q hw k;exact h3
  ·have hv:(at_ l i).lv≠1:=by omega
   rcases zbc hv (zav (zaq hg.1 hi) hk) with h|⟨p,h,hp,hl⟩
   ·exact absurd h h0
   ·unfold IsE at h2;rw[h,show(((p:Int)+1).toNat)-1=p by omega,hl,hm,show(((m:Int)+1-1).toNat)=m by omega] at h2;refine h2.of fun t=>?_;rw[zkz hg.1 hi hk,zaY hv,h,show(((p:Int)+1).toNat)=p+1 by omega]
 ·obtain⟨k,hk,h1,h2⟩:=hex;exact⟨k,hk,(zis hg hi hk).1 h1,h2⟩
structure DesJ (ax e top lev:Nat)(root O:Tr→Prop)(acc:Int):Prop where
 up:∀D,EdS ax e lev O D→EdS ax e top root (D+acc)
 wf:∀t,O t→wfT (lev:Int) t
 some:∃t,O t∧t≠.e
theorem DesJ.start {ax e top:Nat}{root:Tr→Prop}(hw:∀t,root t→wfT (top:Int) t)(hs:∃t,root t∧t≠.e):DesJ ax e top top root root 0 :=
 ⟨fun D h=>by rw[Int.add_zero];exact h,hw,hs⟩
theorem DesJ.wf1 {ax e top m:Nat}{root O:Tr→Prop}{acc:Int}(h:DesJ ax e top (m+1) root O acc):∀t,O t→wfT ((m:Int)+1) t:=fun t ht=>h.wf t ht
theorem DesJ.near {ax e top m:Nat}{root O:Tr→Prop}{acc:Int}(h:DesJ ax e top (m+1) root O acc)(he:e≤1)(hk:∃u,kidS ax e O u):DesJ ax e top m root (kidS ax e O) acc:=by
 obtain⟨u,hu⟩:=hk;have hne:u≠.e:=by
  obtain⟨_,_,_,_,_,_,h9⟩:=hu;exact h9
 exact⟨fun D hD=>h.up D (zwk h.wf1 he hD),zma h.wf1,u,hu,hne⟩
theorem DesJ.far {ax e f top m:Nat}{root O:Tr→Prop}{acc:Int}(h:DesJ ax e top (m+1) root O acc)(he:e≤1)(hf:f=1-e)(hk:∀u,¬ kidS ax e O u):DesJ ax e top m root (kidS ax f O) (acc+p2 m):=by
 obtain⟨u,hu,hne⟩:=ztG h.wf1 h.some he hk;subst hf;refine⟨fun D hD=>?_,zma h.wf1,u,hu,hne⟩;have h1:=h.up _ (zxK h.wf1 he rfl hk hD)
 rwa [show D+(acc+p2 m)=D+p2 m+acc by omega]
theorem DesJ.done {ax e top:Nat}{root O:Tr→Prop}{acc:Int}(h:DesJ ax e top 0 root O acc):EdS ax e top root acc:=by
 have h1:=h.up 0 (zqK h.wf h.some)
 rwa [Int.zero_add] at h1
theorem DesJ.of {ax e top lev:Nat}{root O M:Tr→Prop}{acc:Int}(h:DesJ ax e top lev root O acc)(k:∀t,O t↔M t):DesJ ax e top lev root M acc :=
 ⟨fun D hD=>h.up D (hD.of fun t=>(k t).symm),fun t ht=>h.wf t ((k t).2 ht),by
  obtain⟨t,h1,h2⟩:=h.some;exact⟨t,(k t).1 h1,h2⟩⟩
def Nums (l:List Nd)(v:Int)(K:List Int)(u:Tr):Prop:=∃k,k∈K∧u=kidT (dens l) v k
theorem ztH {l:List Nd}(hg:zas l){ax e m:Nat}{O K:List Int}(hO:∀n,n∈O→1≤n∧n≤l.length∧(at_ l (n.toNat-1)).lv=(m:Int)+1)
  (hK:∀k,k∈K↔∃n,n∈O∧∃i,i<4∧bitK ax i=e∧(at_ l (n.toNat-1)).kid i=k∧k≠0) (u:Tr) :
  kidS ax e (Nums l ((m:Int)+1+1) O) u↔Nums l ((m:Int)+1) K u:=by
 have key:∀n,n∈O→kidT (dens l) ((m:Int)+1+1) n=den l ((n.toNat-1)+1)∧n.toNat-1<l.length:=fun n hn=>by
  have h1:=hO n hn;rw[zaY (by omega)];exact⟨by rw[show n.toNat-1+1=n.toNat by omega],by omega⟩
 constructor
 ·rintro⟨t,i,⟨n,hn,rfl⟩,hi,hb,rfl,hne⟩;obtain⟨e1,e2⟩:=key n hn;rw[e1] at hne ⊢;rw[zkz hg.1 e2 hi,(hO n hn).2.2];exact⟨_,(hK _).2 ⟨n,hn,i,hi,hb,rfl,(zis hg e2 hi).2 hne⟩,rfl⟩
 ·rintro⟨k,hk,rfl⟩;obtain⟨n,hn,i,hi,hb,rfl,hne⟩:=(hK k).1 hk;obtain⟨e1,e2⟩:=key n hn;refine⟨den l (n.toNat-1+1),i,⟨n,hn,e1.symm⟩,hi,hb,?_,?_⟩
  ·rw[zkz hg.1 e2 hi,(hO n hn).2.2]
  ·have h9:=(zis hg e2 hi).1 hne
   rwa [zkz hg.1 e2 hi,(hO n hn).2.2] at h9
def zbu (ax hf:Nat)(x:Nd):Nat→List Int
 | 0=>[]
 | i+1=>zbu ax hf x i++(if x.kid i≠0∧bitK ax i=hf then [x.kid i] else [])
def zbA (l:List Nd)(ax hf:Nat)(O:List Int):Nat→List Int
 | 0=>[]
 | k+1=>zbA l ax hf O k++zbu ax hf (at_ l ((O.getD k 0).toNat-1)) 4
theorem zhl {ax hf:Nat}{x:Nd}{k:Int}:∀n:Nat,k∈zbu ax hf x n↔∃i,i<n∧bitK ax i=hf∧x.kid i=k∧k≠0
 | 0=>⟨fun h=>absurd h (by simp[zbu,zbA]),fun⟨i,h,_⟩=>by omega⟩
 | n+1=>by
  rw[show zbu ax hf x (n+1)=zbu ax hf x n++(if x.kid n≠0∧bitK ax n=hf then [x.kid n] else []) from rfl,List.mem_append,zhl n];constructor
  ·rintro(⟨i,h1,h2⟩|h)
   ·exact⟨i,by omega,h2⟩
   ·split at h
    ·rename_i hc;have h':=List.mem_singleton.1 h;exact⟨n,by omega,hc.2,h'.symm,by rw[h'];exact hc.1⟩
    ·cases h
  ·rintro⟨i,h1,h2,h3,h4⟩;by_cases hi:i=n
   ·subst hi;refine .inr ?_;rw[if_pos ⟨by rw[h3];exact h4,h2⟩,h3];exact List.mem_singleton.2 rfl
   ·exact .inl ⟨i,by omega,h2,h3,h4⟩
theorem zkA {l:List Nd}{ax hf:Nat}{O:List Int}{k:Int}:∀m:Nat,k∈zbA l ax hf O m↔∃j,j<m∧k∈zbu ax hf (at_ l ((O.getD j 0).toNat-1)) 4
 | 0=>⟨fun h=>absurd h (by simp[zbu,zbA]),fun⟨i,h,_⟩=>by omega⟩
 | m+1=>by
  rw[show zbA l ax hf O (m+1)=zbA l ax hf O m++zbu ax hf (at_ l ((O.getD m 0).toNat-1)) 4 from rfl,List.mem_append,zkA m];constructor
  ·rintro(⟨i,h1,h2⟩|h)
   ·exact⟨i,by omega,h2⟩
   ·exact⟨m,by omega,h⟩
  ·rintro⟨i,h1,h2⟩;by_cases hi:i=m
   ·subst hi;exact .inr h2
   ·exact .inl ⟨i,by omega,h2⟩
theorem zkB {l:List Nd}{ax hf:Nat}{O:List Int}{k:Int}:k∈zbA l ax hf O O.length↔∃n,n∈O∧∃i,i<4∧bitK ax i=hf∧(at_ l (n.toNat-1)).kid i=k∧k≠0:=by
 rw[zkA];constructor
 ·rintro⟨j,hj,h⟩;refine⟨O.getD j 0,?_,(zhl 4).1 h⟩;rw[List.getD_eq_getElem?_getD,List.getElem?_eq_getElem hj];exact List.getElem_mem hj
 ·rintro⟨n,hn,h⟩;obtain⟨j,hj,rfl⟩:=List.mem_iff_getElem.1 hn;refine⟨j,hj,?_⟩;rw[List.getD_eq_getElem?_getD,List.getElem?_eq_getElem hj];exact(zhl 4).2 h
theorem zhm {ax hf:Nat}{x:Nd}:∀n:Nat,(zbu ax hf x n).length≤n
 | 0=>Nat.le_refl _
 | n+1=>by
  rw[show zbu ax hf x (n+1)=zbu ax hf x n++(if x.kid n≠0∧bitK ax n=hf then [x.kid n] else []) from rfl,List.length_append];have:=zhm (ax:=ax) (hf:=hf) (x:=x) n;split <;> simp <;> omega
theorem zhn {l:List Nd}{ax hf:Nat}{O:List Int}:∀m:Nat,(zbA l ax hf O m).length≤4*m
 | 0=>Nat.le_refl _
 | m+1=>by
  rw[show zbA l ax hf O (m+1)=zbA l ax hf O m++zbu ax hf (at_ l ((O.getD m 0).toNat-1)) 4 from rfl,List.length_append];have:=zhn (l:=l) (ax:=ax) (hf:=hf) (O:=O) m;have:=zhm (ax:=ax) (hf:=hf) (x:=at_ l ((O.getD m 0).toNat-1)) 4;omega
theorem zmb (zs:List Int)(k:Int):k∈Lib.compact zs↔k∈zs:=by
 have hget:∀j,j<zs.length→zs.toArray[j]! = zs[j]?.getD 0:=fun j hj=>by
  rw[getElem!_pos zs.toArray j (by simpa using hj),List.getElem?_eq_getElem hj];simp
 unfold Lib.compact Lib.compactUpTo;rw[List.mem_map];constructor
 ·rintro⟨j,hj,rfl⟩;have hj':=List.mem_range.1 (List.mem_filter.1 hj).1;rw[hget j hj',List.getElem?_eq_getElem hj'];exact List.getElem_mem hj'
 ·intro hk;obtain⟨j,hj,hjk⟩:=List.mem_iff_getElem.1 hk;have key:∀j,(hj:j<zs.length)→∃i,i∈List.filter (Lib.keeps zs.toArray) (List.range zs.length)∧zs.toArray[i]! = zs.toArray[j]! := by
   intro j
   induction j with
   | zero=>exact fun hj=>⟨0,List.mem_filter.2 ⟨List.mem_range.2 hj,by simp[Lib.keeps]⟩,rfl⟩
   | succ j ih =>
    intro hj;by_cases h:zs.toArray[j+1]! = zs.toArray[j]!
    ·obtain⟨i,h1,h2⟩:=ih (by omega);exact⟨i,h1,by rw[h2,h]⟩
    ·exact⟨j+1,List.mem_filter.2 ⟨List.mem_range.2 hj,by simpa [Lib.keeps] using h⟩,rfl⟩
  obtain⟨i,h1,h2⟩:=key j hj;refine⟨i,h1,?_⟩;rw[h2,hget j hj,List.getElem?_eq_getElem hj];exact hjk
theorem zjw {zs:List Int}(h:zs.Pairwise (· ≤ ·)):(Lib.compact zs).Nodup:=by
 have hget:∀j,j<zs.length→zs.toArray[j]! = zs[j]?.getD 0:=fun j hj=>by
  rw[getElem!_pos zs.toArray j (by simpa using hj),List.getElem?_eq_getElem hj];simp
 have hle:∀i j,i≤j→j<zs.length→zs[i]?.getD 0≤zs[j]?.getD 0:=fun i j hij hj=>by
  rcases Nat.lt_or_ge i j with h1|h1
  ·rw[List.getElem?_eq_getElem (by omega),List.getElem?_eq_getElem hj];exact List.pairwise_iff_getElem.1 h i j (by omega) hj h1
  ·rw[show i=j by omega];exact Int.le_refl _
 unfold Lib.compact Lib.compactUpTo;refine List.nodup_iff_pairwise_ne.2 (List.pairwise_map.2 ?_);refine(List.Pairwise.imp_of_mem (R:=(· < ·)) ?_ (List.Pairwise.filter _ List.pairwise_lt_range));intro i j hi hj hij he;have hj1:=List.mem_filter.1 hj;have hj2:=List.mem_range.1 hj1.1;have hk:Lib.keeps zs.toArray j=true:=hj1.2;unfold Lib.keeps at hk;rcases of_decide_eq_true hk with h0|h0
 ·omega
 ·refine h0 ?_;rw[hget i (by omega),hget j hj2] at he;rw[hget j hj2,hget (j-1) (by omega)];have h1:=hle i (j-1) (by omega) (by omega);have h2:=hle (j-1) j (by omega) hj2;omega
def zfa (K:List Int):List Int:=Lib.compact (K.mergeSort fun x y=>decide (x≤y))
theorem zkC (K:List Int)(k:Int):k∈zfa K↔k∈K:=by
 unfold zfa;rw[zmb,List.mem_mergeSort]
theorem zho (K:List Int):(zfa K).Nodup:=by
 refine zjw ?_;refine(List.pairwise_mergeSort (le:=fun x y:Int=>decide (x≤y)) ?_ ?_ K).imp ?_
 ·intro a b c h1 h2;have h1:=of_decide_eq_true h1;have h2:=of_decide_eq_true h2;exact decide_eq_true (by omega)
 ·intro a b;rw[Bool.or_eq_true];by_cases h:a≤b
  ·exact .inl (decide_eq_true h)
  ·exact .inr (decide_eq_true (by omega))
 ·intro a b h;exact of_decide_eq_true h
theorem zqO {N:Nat}{K:List Int}(h:K.Nodup)(hk:∀k∈K,1≤k∧k≤N):K.length≤N:=by
 have h1:(K.map Int.toNat).Nodup:=by
  refine List.nodup_iff_pairwise_ne.2 (List.pairwise_map.2 ?_);refine(List.nodup_iff_pairwise_ne.1 h).imp_of_mem ?_;intro a b ha hb hne e;have:=hk a ha;have:=hk b hb;omega
 have h2:=zeL N _ h1 (by
  intro v hv;obtain⟨k,h3,rfl⟩:=List.mem_map.1 hv;have:=hk k h3;omega)
 rwa [List.length_map] at h2
open Go.Sort
def ZsB (w:World)(A:Option Addr)(c:Nat)(K:List Int):Prop :=
 K.length≤c∧c≤maxLen∧(0<K.length→∃b,A=some ⟨b,0,none⟩∧b<w.heap.size∧∀j,j<K.length→w.cell? ⟨b,j,none⟩=some (.int .i64 (K.getD j 0)))
theorem ZsB.next {w w':World}{A:Option Addr}{c:Nat}{K:List Int}(h:ZsB w A c K)(hb:Below w.heap.size w w'):ZsB w' A c K :=
 ⟨h.1,h.2.1,fun hn=>by
  obtain⟨b,e,hlt,hc⟩:=h.2.2 hn;exact⟨b,e,Nat.lt_of_lt_of_le hlt hb.size,fun j hj=>(World.cell?_of_block (hb.block b hlt)).trans (hc j hj)⟩⟩
theorem ZsB.cap {w:World}{A:Option Addr}{c:Nat}{K:List Int}(h:ZsB w A c K):K.length≤c∧c≤9223372036854775807:=by
 have h1:=h.1;have h2:=h.2.1;simp only[maxLen] at h2;exact⟨h1,by omega⟩
def OwnZ (w:World)(base:Nat)(v:Value)(K:List Int):Prop:=w.ownsRow base 3 1 v K.length (K.map (Value.int .i64))
theorem OwnZ.nil (w:World)(base:Nat):OwnZ w base (.slice none 0 0) []:=World.ownsRow_nil w base _ 1
theorem OwnZ.zs {w:World}{base:Nat}{v:Value}{K:List Int}(h:OwnZ w base v K):∃A c,v=.slice A K.length c∧ZsB w A c K:=by
 rcases h.2 with⟨h',hn⟩|⟨g,cap,cur,h',hb,hg,hnc,hcm,hcs,htake⟩
 ·exact⟨none,0,by rw[h',hn],by omega,by simp[maxLen],fun h=>by omega⟩
 ·refine⟨some ⟨g,0,none⟩,cap,h',hnc,hcm,fun _=>⟨g,rfl,(Array.getElem?_eq_some_iff.1 hg).1,fun j hj=>?_⟩⟩;subst h';rw[h.cellAt j (by omega),List.getElem?_map,List.getD_eq_getElem?_getD,List.getElem?_eq_getElem hj];rfl
theorem zos {w:World}{base:Nat}{v:Value}{xs:List Int}(h:OwnZ w base v xs):∀k,v.ownBlock=some k→base≤k:=fun k hk=>(h.lt k hk).1
theorem zqP (base:Nat)(v:Value)(K:List Int)(w:World)(h:OwnZ w base v K)(hb:base≤w.heap.size)(hl:K.length≤100000000) :
  Calls Tryz.prog 231 #[v] w fun e w'=>e=.returned (.tuple #[])∧OwnZ w' base v (K.mergeSort fun x y=>decide (x≤y))∧Below base w w':=by
 rcases h.2 with⟨rfl,hn⟩|⟨g,cap,cur,rfl,hbg,hg,hnc,hcm,hcs,htake⟩
 ·have hk:K=[]:=List.length_eq_zero_iff.1 hn;subst hk;have hcon:=Any.slices_Sort_int_none Tryz.sortInts none 0 w;change Calls Tryz.prog 231 _ _ _ at hcon;refine hcon.mono ?_;rintro e w' ⟨rfl,rfl⟩;exact⟨rfl,by rw[List.mergeSort_nil];exact OwnZ.nil _ _,Below.refl _ _⟩
 ·have hlt:g<w.heap.size:=(Array.getElem?_eq_some_iff.1 hg).1;have hH:Holds (Value.int .i64) w g 0 K.toArray:=holds_of_blockI hg (by rw[Nat.mul_one] at htake;exact htake);have hcon:=calls_of_every_depth fun D=>AnyS.slices_Sort_int_alone Tryz.sortInts D g 0 cap K w hH hlt (by omega);change Calls Tryz.prog 231 _ _ _ at hcon;refine hcon.mono ?_;rintro e w' ⟨rfl,n,os,rfl⟩;have hl2:(K.mergeSort fun x y=>decide (x≤y)).length=K.length:=List.length_mergeSort K;refine⟨rfl,?_,(Below.refl _ _).grown (grownBy_sortedI _) hb (fun j hj=>by cases hj;exact hbg)⟩;unfold OwnZ;rw[hl2];exact ownsRow_sortedI (n:=n) (os:=os) hl2 hbg hg hnc hcm hcs
theorem zkD (base:Nat)(v:Value)(K:List Int)(w:World)(h:OwnZ w base v K)(hb:base≤w.heap.size)(hl:K.length≤100000000) :
  Calls Tryz.prog 232 #[v] w fun e w'=>∃v',e=.returned v'∧OwnZ w' base v' (Lib.compact K)∧Below base w w':=by
 rcases h.2 with⟨rfl,hn⟩|⟨g,cap,cur,rfl,hbg,hg,hnc,hcm,hcs,htake⟩
 ·have hk:K=[]:=List.length_eq_zero_iff.1 hn;subst hk;have hcon:=Any.slices_Compact_int_empty Tryz.compactInts none 0 w;change Calls Tryz.prog 232 _ _ _ at hcon;refine hcon.mono ?_;rintro e w' ⟨rfl,rfl⟩;exact⟨_,rfl,OwnZ.nil _ _,Below.refl _ _⟩
 ·have hlt:g<w.heap.size:=(Array.getElem?_eq_some_iff.1 hg).1;have hH:Holds (Value.int .i64) w g 0 K.toArray:=holds_of_blockI hg (by rw[Nat.mul_one] at htake;exact htake);have hcon:=Any.slices_Compact_int Tryz.compactInts g 0 cap K w hH (by omega) hnc;change Calls Tryz.prog 232 _ _ _ at hcon;refine hcon.mono ?_;rintro e w' ⟨rfl,q,rfl⟩;have hle:(Lib.compact K).length≤K.length:=by
   unfold Lib.compact Lib.compactUpTo;rw[List.length_map];refine Nat.le_trans (List.length_filter_le _ _) ?_;rw[List.length_range];exact Nat.le_refl _
  refine⟨_,rfl,?_,Lib.below_putRow (Below.refl _ _) hbg⟩;have h1:=Lib.ownsRow_putRow (q:=q) (k:=(Lib.compact K).length) (ys:=Lib.compact K++List.replicate (K.length-(Lib.compact K).length) 0) h (by simp;omega) hle
  rwa [List.take_left] at h1
end Go.Proofs.YtbabbmdpgpcgjaaGreatDoor

namespace Go.Proofs.YtbabbmdpgpcgjaaGreatDoor
open Go.RowKit Num Nds
theorem zfz (ax hf n on c d:Nat)(A B:Option Addr)(l:List Nd)(O:List Int)(w:World)(h:Ns w A c l)(hn:l.length=n)(hn9:n≤900000)(hO:ZsB w B d O)(hon:O.length=on)(hon9:on≤1000000)(hin:∀x∈O,1≤x∧x≤(n:Int))(hax:ax≤1)(hhf:hf≤1) :
  Calls Tryz.prog 217 #[.int .i64 (hf:Int),.int .i64 (ax:Int),.slice A n c,.slice B on d] w fun e w'=>∃v,e=.returned v∧OwnZ w' w.heap.size v (zfa (zbA l ax hf O on))∧Below w.heap.size w w':=by
 have hcap:=h.cap;rw[hn] at hcap;have zcap:=hO.cap;rw[hon] at zcap;obtain⟨i0,hi,hz0,hz1,hz2⟩:=info_parts Tryz.infoI;have HI:=Hh (And.intro hi (And.intro hz0 (And.intro hz1 hz2)));have HN:=Hh h;have HNL:=Hh hn;have HO:=Hh hO;have HON:=Hh hon;have HIN:=Hh hin;clear h hn hO hon hin hi hz0 hz1 hz2;go_enter Tryz.func217,Tryz.ntmps217;go_wp2_with fail;go_loopw [16,9] (fun i z wr=>∃(k:Nat) (v:Value),k≤on∧i=.int .i64 k∧v=z∧OwnZ wr w.heap.size v (zbA l ax hf O k)∧Below w.heap.size w wr) (fun i _ _=>on-(intOf i).toNat)
 case atStart=>exact⟨0,_,by omega,rfl,rfl,OwnZ.nil _ _,Below.refl _ _⟩
 case round =>
  obtain⟨k,v,hk,rfl,rfl,how,hbw⟩:=hrel;have HW:=Hh how;have HBW:=Hh hbw;clear how hbw;by_cases hlt:k<on
  ·obtain⟨b2,rfl,hb2,hc2⟩:=HO.out.2.2 (by rw[HON.out];omega);have ce:=(World.cell?_of_block (HBW.out.block b2 hb2)).trans (hc2 k (by rw[HON.out];exact hlt));obtain⟨p,hp,hpn⟩:∃p:Nat,O.getD k 0=(p:Int)+1∧p<n:=by
    have h1:O.getD k 0∈O:=by
     rw[List.getD_eq_getElem?_getD,List.getElem?_eq_getElem (by rw[HON.out];exact hlt)];exact List.getElem_mem _
    have h2:=HIN.out _ h1;exact⟨(O.getD k 0).toNat-1,by omega,by omega⟩
   have HS:=Hh (show zbA l ax hf O (k+1)=zbA l ax hf O k++zbu ax hf (at_ l p) 4 by
    rw[show zbA l ax hf O (k+1)=zbA l ax hf O k++zbu ax hf (at_ l ((O.getD k 0).toNat-1)) 4 from rfl,hp,show((p:Int)+1).toNat-1=p by omega])
   rw[hp] at ce;obtain⟨b,off,rfl,hb,hc⟩:=HN.out.at_ (by rw[HNL.out];omega)
   have hck:=(hc p (by rw[HNL.out];exact hpn)).below (HBW.out.block b hb);obtain⟨c0,c1,c2,c3,c4⟩:=hck;have hkl:=Hh (show(zbA l ax hf O k).length≤4*k from zhn k);generalize at_ l p=x at *
   obtain⟨M,hM⟩:∃M,M=zbA l ax hf O k:=⟨_,rfl⟩;rw[←hM] at HW HS hkl;clear hM;have i1:IntKind.i64.wrap ((p:Int)+1-1)=(p:Int):=by rw[show(p:Int)+1-1=(p:Int) by omega];exact IntWalk.i64_in _ (by omega)
   have i2:IntKind.i64.wrap (p:Int)=(p:Int):=IntWalk.i64_in _ (by omega);have i3:(0:Int)≤(p:Int):=by omega
   have i4:(p:Int)<(n:Int):=by omega
   have i5:(k:Int)<(on:Int):=by omega
   clear hc hc2;go_wp2_with fail;go_loopw [26,9] (fun i z wr=>∃(q:Nat) (v:Value),q≤4∧i=.int .i64 q∧v=z∧OwnZ wr w.heap.size v (M++zbu ax hf x q)∧Below w.heap.size w wr) (fun i _ _=>4-(intOf i).toNat)
   case atStart=>exact⟨0,_,by omega,rfl,rfl,by rw[show M++zbu ax hf x 0=M from List.append_nil _];exact HW.out,HBW.out⟩
   case round =>
    obtain⟨q,v2,hq,rfl,rfl,how2,hbw2⟩:=hrel;have HW2:=Hh how2;have HBW2:=Hh hbw2;clear how2 hbw2;by_cases hq4:q<4
    ·have hidx:=zkm x q hq4;obtain⟨y,hy⟩:∃y,y=x.kid q:=⟨_,rfl⟩;rw[←hy] at hidx;have HY:=Hh hy;clear hy;have i6:(q:Int)<4:=by omega
     by_cases hy0:y=0
     ·have t1:(y != 0)=false:=by rw[hy0];rfl
      have HS2:=Hh (show zbu ax hf x (q+1)=zbu ax hf x q by
       rw[show zbu ax hf x (q+1)=zbu ax hf x q++(if x.kid q≠0∧bitK ax q=hf then [x.kid q] else []) from rfl,if_neg (fun e=>e.1 (by rw[←HY.out];exact hy0)),List.append_nil])
      have HY0:=Hh hy0;clear hy0;go_wp2_with fail;go_roundw
      case rel=>exact⟨q+1,_,by omega,by go_num,rfl,by rw[HS2.out];exact HW2.out,HBW2.out⟩
      case measure=>simp[intOf];omega
     ·have t1:(y != 0)=true:=bne_iff_ne.2 hy0;have HY0:=Hh hy0;clear hy0;have hbit:bits .and .i64 ((q:Int) / 2^ax) 1=((bitK ax q:Nat):Int):=by
       rcases(show q=0∨q=1∨q=2∨q=3 by omega) with rfl|rfl|rfl|rfl <;> rcases(show ax=0∨ax=1 by omega) with rfl|rfl <;> decide
      have ax1:(0:Int)≤(ax:Int):=by omega
      have ax2:(ax:Int)<64:=by omega
      by_cases hbk:bitK ax q=hf
      ·have t2:(bits .and .i64 ((q:Int) / 2^ax) 1==(hf:Int))=true:=by rw[hbit,beq_iff_eq];omega
       have HS2:=Hh (show zbu ax hf x (q+1)=zbu ax hf x q++[y] by
        rw[show zbu ax hf x (q+1)=zbu ax hf x q++(if x.kid q≠0∧bitK ax q=hf then [x.kid q] else []) from rfl,if_pos ⟨by rw[←HY.out];exact HY0.out,hbk⟩,←HY.out])
       have hfl:=zhm (ax:=ax) (hf:=hf) (x:=x) q;have HFL:=Hh (show(M++zbu ax hf x q).length≤4*k+4 by rw[List.length_append];have:=hkl.out;omega);obtain⟨F,hF⟩:∃F,F=M++zbu ax hf x q:=⟨_,rfl⟩;obtain⟨fl,hfl2⟩:∃fl,fl=F.length:=⟨_,rfl⟩;rw[←hF] at HW2 HFL;have how:wr.ownsRow w.heap.size 3 1 v2 fl (F.map (Value.int .i64)):=by rw[hfl2];exact HW2.out
       have HW3:=Hh how;have HF:=Hh hF;have HFE:=Hh hfl2;have HBI:=Hh hbit;have HOB:=Hh (zos HW2.out);have hbr:w.heap.size≤wr.heap.size:=HBW2.out.size;have hfl3:fl≤4*k+4:=by rw[hfl2];exact HFL.out
       clear hbit hbk hfl hF hfl2 how;go_wp2_with (at_builtin;refine wpList_append_own_at _ rfl _ _ 95 rfl w.heap.size 3 i0 (.int .i64 0) 1 8 Tryz.underlying95 HI.out.1 HI.out.2.1 HI.out.2.2.1 HI.out.2.2.2 rfl (by decide) _ _ _ rfl (HW3.out.alloc _) ⟨_,0,none⟩ 1 1 [.int .i64 y] rfl rfl (cell_one_new _ _ _) (by simp[Value.oneCell']) (by simp only[maxLen];omega) (by omega) (by simp;omega) ?_;intro v3 w3 ho3 hg3 hn3 hk3;have HO3:=Hh ho3;have HG3:=Hh hg3;clear ho3 hg3 hn3 hk3);go_roundw
       case rel =>
        refine⟨q+1,_,by omega,by go_num,rfl,?_,(HBW2.out.alloc hbr _).grown HG3.out (by simp;omega) HOB.out⟩;rw[HS2.out,←List.append_assoc,←HF.out];unfold OwnZ;rw[List.map_append,List.length_append,←HFE.out];exact HO3.out
       case measure=>simp[intOf];omega
      ·have t2:(bits .and .i64 ((q:Int) / 2^ax) 1==(hf:Int))=false:=by rw[hbit,beq_eq_false_iff_ne];omega
       have HS2:=Hh (show zbu ax hf x (q+1)=zbu ax hf x q by
        rw[show zbu ax hf x (q+1)=zbu ax hf x q++(if x.kid q≠0∧bitK ax q=hf then [x.kid q] else []) from rfl,if_neg (fun e=>hbk e.2),List.append_nil])
       clear hbit hbk;go_wp2_with fail;go_roundw
       case rel=>exact⟨q+1,_,by omega,by go_num,rfl,by rw[HS2.out];exact HW2.out,HBW2.out⟩
       case measure=>simp[intOf];omega
    ·have hqe:q=4:=by omega
     have HQE:=Hh hqe;clear hqe;go_wp2_with fail;go_roundw
     case rel=>exact⟨k+1,_,by omega,by go_num,rfl,by rw[HS.out,←HQE.out];exact HW2.out,HBW2.out⟩
     case measure=>simp[intOf];omega
  ·have hke:k=on:=by omega
   have HKE:=Hh hke;have hkl:=Hh (show(zbA l ax hf O k).length≤4*k from zhn k);have hl9:(zbA l ax hf O k).length≤100000000:=by have:=hkl.out;omega
   have HL9:=Hh hl9;clear hke hl9;go_wp2_with (first
    | (go_at_call 231;go_loud (refine(zqP w.heap.size _ _ _ HW.out HBW.out.size HL9.out).mono ?_;rintro e w1 ⟨rfl,o1,b1⟩;have O1:=Hh o1;have B1:=Hh (HBW.out.trans b1);clear o1 b1))
    | (go_at_call 232;go_loud (refine(zkD w.heap.size _ _ _ O1.out B1.out.size (by rw[List.length_mergeSort];exact HL9.out)).mono ?_;rintro e w2 ⟨v4,rfl,o2,b2⟩;have O2:=Hh o2;have B2:=Hh (B1.out.trans b2);clear o2 b2)))
   go_ret;exact⟨_,rfl,by rw[←HKE.out];exact O2.out,B2.out⟩
theorem zxL {xs:List Nat}{i b:Nat}(hd:Dig xs)(hi:i / 32<xs.length)(hb:b<2)(hz:2^(i+1)∣val xs) :
  val (xs.set (i / 32) (xs[i / 32]?.getD 0 ||| (b*2^(i%32))))=val xs+b*2^i:=by
 have hxl:=hd.getD (i / 32);have hq:2^(i%32)<2^32:=Nat.pow_lt_pow_right (by decide) (by omega);have hbb:b=0∨b=1:=by omega
 have hbq:b*2^(i%32)<2^32:=by rcases hbb with rfl|rfl <;> omega
 have hl:xs[i / 32]?.getD 0 ||| (b*2^(i%32))<4294967296:=Nat.or_lt_two_pow (n:=32) hxl hbq
 have hy:Dig (xs.set (i / 32) (xs[i / 32]?.getD 0 ||| (b*2^(i%32)))):=hd.set _ hl;have e1:val xs+b*2^i=val xs ||| (b*2^i):=by
  obtain⟨a,ha⟩:=hz;rw[ha];refine Nat.two_pow_add_eq_or_of_lt ?_ a;have:2^(i+1)=2*2^i:=by rw[Nat.pow_succ];omega
  have:0<2^i:=Nat.two_pow_pos i;rcases hbb with rfl|rfl <;> omega
 rw[e1];refine Nat.eq_of_testBit_eq fun j=>?_;rw[Nat.testBit_or,zbf hy,zbf hd];by_cases hw:j / 32=i / 32
 ·rw[hw,List.getElem?_set_self hi,Option.getD_some,Nat.testBit_or];congr 1;rcases hbb with rfl|rfl
  ·simp
  ·rw[Nat.one_mul,Nat.one_mul,Nat.testBit_two_pow,Nat.testBit_two_pow];refine decide_eq_decide.2 ?_;omega
 ·rw[List.getElem?_set_ne (fun e=>hw e.symm)];have:(b*2^i).testBit j=false:=by
   rcases hbb with rfl|rfl
   ·simp
   ·rw[Nat.one_mul,Nat.testBit_two_pow];refine decide_eq_false ?_;intro e;exact hw (by rw[e])
  rw[this,Bool.or_false]
theorem zyR {x p b:Nat}(hx:x<4294967296)(hp:p<32)(hb:b<2):(x ||| (b*2^p))<4294967296:=by
 have hq:2^p<2^32:=Nat.pow_lt_pow_right (by decide) hp;have hbq:b*2^p<2^32:=by
  have hbb:b=0∨b=1:=by omega
  rcases hbb with rfl|rfl <;> omega
 exact Nat.or_lt_two_pow (n:=32) hx hbq
def edZ (e n:Nat)(Z:Int):Int:=if e=0 then Z+p2 (n-1) else p2 n-1-(Z+p2 (n-1))
def accZ (e top lev:Nat)(V:Nat):Int:=if e=0 then (V:Int) else p2 top-p2 lev-V
theorem zqQ {e top m V:Nat}(he:e≤1):accZ e top m (V+e*2^m)=accZ e top (m+1) V:=by
 have h1:=zap m;have h2:=zlY m;unfold accZ;rcases(show e=0∨e=1 by omega) with rfl|rfl
 ·simp
 ·rw[if_neg (by omega),if_neg (by omega)];simp only[Nat.one_mul];omega
theorem ztI {e top m V:Nat}(he:e≤1):accZ e top m (V+(1-e)*2^m)=accZ e top (m+1) V+p2 m:=by
 have h1:=zap m;have h2:=zlY m;unfold accZ;rcases(show e=0∨e=1 by omega) with rfl|rfl
 ·rw[if_pos rfl,if_pos rfl];simp only[Nat.sub_zero,Nat.one_mul];omega
 ·rw[if_neg (by omega),if_neg (by omega)];simp only[Nat.sub_self,Nat.zero_mul,Nat.add_zero];omega
theorem zot (e top:Nat):accZ e top top 0=0:=by
 unfold accZ;split <;> simp
theorem zqR {e top V:Nat}:edZ e top ((V:Int)-p2 (top-1))=accZ e top 0 V:=by
 unfold edZ accZ;have:=zft;split <;> omega
structure zcL (l:List Nd)(ax e top lev:Nat)(O:List Int)(V:Nat):Prop where
 des:DesJ ax e top lev (fun u=>u=den l l.length) (Nums l ((lev:Int)+1) O) (accZ e top lev V)
 num:∀x∈O,lev≠0→1≤x∧x≤(l.length:Int)∧(at_ l (x.toNat-1)).lv=(lev:Int)
 dv:2^lev∣V
 nd:O.Nodup
theorem zcL.start {l:List Nd}(hg:zas l)(h0:0<l.length)(ax e:Nat){top:Nat}(ht:(top:Int)=(at_ l (l.length-1)).lv):zcL l ax e top top [(l.length:Int)] 0:=by
 have hlv:=zaH (zaq hg.1 (i:=l.length-1) (by omega));have hw:=zbY hg.1 (l.length-1) (by omega);rw[Nat.sub_add_cancel (by omega),←ht] at hw;have hne:=(hg.2 (l.length-1) (by omega)).1;rw[Nat.sub_add_cancel (by omega)] at hne;refine⟨?_,fun x hx _=>?_,Nat.dvd_zero _,by simp⟩
 ·rw[zot];refine(DesJ.start (root:=fun u=>u=den l l.length) (fun t ht=>by have ht':t=den l l.length:=ht;rw[ht'];exact hw) ⟨_,rfl,hne⟩).of fun t=>?_;have e1:kidT (dens l) ((top:Int)+1) (l.length:Int)=den l l.length:=by
   rw[zaY (by omega)];rfl
  constructor
  ·intro ht;have ht':t=den l l.length:=ht;exact⟨_,List.mem_singleton.2 rfl,by rw[ht',e1]⟩
  ·rintro⟨k,hk,rfl⟩;rw[List.mem_singleton.1 hk];exact e1
 ·rw[List.mem_singleton.1 hx];exact⟨by omega,by omega,by rw[Int.toNat_natCast];exact ht.symm⟩
theorem zcL.kids {l:List Nd}(hg:zas l){ax e f top m:Nat}{O:List Int}{V:Nat}(h:zcL l ax e top (m+1) O V)(u:Tr) :
  kidS ax f (Nums l ((m:Int)+1+1) O) u↔Nums l ((m:Int)+1) (zfa (zbA l ax f O O.length)) u:=by
 refine ztH hg (fun n hn=>?_) (fun k=>?_) u
 ·have:=h.num n hn (by omega);exact⟨this.1,this.2.1,this.2.2⟩
 ·rw[zkC,zkB]
theorem zcL.num' {l:List Nd}(hg:zas l){ax e f top m:Nat}{O:List Int}{V:Nat}(h:zcL l ax e top (m+1) O V) :
  ∀x∈zfa (zbA l ax f O O.length),m≠0→1≤x∧x≤(l.length:Int)∧(at_ l (x.toNat-1)).lv=(m:Int):=by
 intro x hx hm;rw[zkC,zkB] at hx;obtain⟨n,hn,i,hi,-,hk,h0⟩:=hx;obtain⟨h1,h2,h3⟩:=h.num n hn (by omega);have hlt:n.toNat-1<l.length:=by omega
 have hv:(at_ l (n.toNat-1)).lv≠1:=by rw[h3];omega
 rcases zbc hv (zav (zaq hg.1 hlt) hi) with h4|⟨p,h4,h5,h6⟩
 ·exact absurd (hk.symm.trans h4) h0
 ·rw[←hk,h4];refine⟨by omega,by omega,?_⟩;rw[show(((p:Int)+1).toNat)-1=p by omega];rw[h3] at h6;omega
theorem zcL.near {l:List Nd}(hg:zas l){ax e top m:Nat}{O:List Int}{V:Nat}(h:zcL l ax e top (m+1) O V)(he:e≤1)(hne:zfa (zbA l ax e O O.length)≠[]) :
  zcL l ax e top m (zfa (zbA l ax e O O.length)) (V+e*2^m):=by
 refine⟨?_,h.num' hg,?_,zho _⟩
 ·rw[zqQ he];obtain⟨k,hk⟩:=List.exists_mem_of_ne_nil _ hne;refine(h.des.near he ⟨_,(h.kids hg _).2 ⟨k,hk,rfl⟩⟩).of fun t=>h.kids hg t
 ·exact Nat.dvd_add (Nat.dvd_trans (Nat.pow_dvd_pow 2 (Nat.le_succ m)) h.dv) (Nat.dvd_mul_left _ _)
theorem zcL.far {l:List Nd}(hg:zas l){ax e top m:Nat}{O:List Int}{V:Nat}(h:zcL l ax e top (m+1) O V)(he:e≤1)(hne:zfa (zbA l ax e O O.length)=[]) :
  zcL l ax e top m (zfa (zbA l ax (1-e) O O.length)) (V+(1-e)*2^m):=by
 refine⟨?_,h.num' hg,?_,zho _⟩
 ·rw[ztI he];refine(h.des.far he rfl fun u hu=>?_).of fun t=>h.kids hg t;obtain⟨k,hk,_⟩:=(h.kids hg u).1 hu;rw[hne] at hk;cases hk
 ·exact Nat.dvd_add (Nat.dvd_trans (Nat.pow_dvd_pow 2 (Nat.le_succ m)) h.dv) (Nat.dvd_mul_left _ _)
theorem zcL.len {l:List Nd}{ax e top m:Nat}{O:List Int}{V:Nat}(h:zcL l ax e top (m+1) O V):O.length≤l.length:=zqO h.nd fun x hx=>by
 have:=h.num x hx (by omega);exact⟨this.1,this.2.1⟩
theorem zcL.done {l:List Nd}{ax e top:Nat}{O:List Int}{V:Nat}(h:zcL l ax e top 0 O V):EdS ax e top (fun u=>u=den l l.length) (edZ e top ((V:Int)-p2 (top-1))):=by
 rw[zqR];exact h.des.done
theorem zcL.low {l:List Nd}{ax e top:Nat}{O:List Int}{V:Nat}(h:zcL l ax e top 0 O V)(hg:zas l)(h0:0<l.length)(ht:(top:Int)=(at_ l (l.length-1)).lv):(V:Int)<p2 top:=by
 have hw:=zbY hg.1 (l.length-1) (by omega);rw[Nat.sub_add_cancel (by omega),←ht] at hw;have h1:=h.done.in_ (fun t ht=>by have ht':t=den l l.length:=ht;rw[ht'];exact hw);unfold edZ at h1;split at h1 <;> omega
theorem ZsB.off {w:World}{A:Option Addr}{c:Nat}{K:List Int}(h:ZsB w A c K){g k:Nat}{x:Nat}(hg:w.cell? ⟨g,k,none⟩=some (.int .u32 (x:Int)))(hk:∀a,A=some a→a.block≠g)(v:Value):ZsB (w.setCell ⟨g,k,none⟩ v) A c K :=
 ⟨h.1,h.2.1,fun hn=>by
  obtain⟨b,e,hlt,hc⟩:=h.2.2 hn;exact⟨b,e,by simpa [World.setCell] using hlt,fun j hj=>(World.cell?_of_block (Below.heap_setCell w ⟨g,k,none⟩ v b (hk _ e))).trans (hc j hj)⟩⟩
structure OuJ (w:World)(A:Option Addr)(c n:Nat)(l:List Nd)(ax e top gl nl lev:Nat)(v:Value)(O:List Int)(rs:List Nat)(W:World):Prop where
 b:Below w.heap.size w W
 q:W.heap[w.heap.size]?=some (.cells #[.slice A n c] 27)
 r:W.heap[w.heap.size+1]?=some bw0.obj
 u:OwnU W (w.heap.size+2) gl nl rs
 o:∃B d,v=.slice B O.length d∧ZsB W B d O∧∀a,B=some a→a.block≠gl
 d:zcL l ax e top lev O (val rs)
theorem OuJ.next {w:World}{A:Option Addr}{c n:Nat}{l:List Nd}{ax e top gl nl lev:Nat}{v:Value}{O:List Int}{rs:List Nat}{W W1:World}(h:OuJ w A c n l ax e top gl nl lev v O rs W)(k:Below W.heap.size W W1):OuJ w A c n l ax e top gl nl lev v O rs W1 :=
 ⟨h.b.trans (k.mono h.b.size),(k.block _ (Array.getElem?_eq_some_iff.1 h.q).1).trans h.q,(k.block _ (Array.getElem?_eq_some_iff.1 h.r).1).trans h.r,h.u.below k,by
  obtain⟨B,d,h1,h2,h3⟩:=h.o;exact⟨B,d,h1,h2.next k,h3⟩,h.d⟩
theorem OuJ.step {w:World}{A:Option Addr}{c n:Nat}{l:List Nd}{ax e top gl nl m b:Nat}{v v':Value}{O K:List Int}{rs:List Nat}{W W1:World}(h:OuJ w A c n l ax e top gl nl (m+1) v O rs W)(k:Below W.heap.size W W1)(hK:OwnZ W1 W.heap.size v' K)
  (hm:m / 32<nl) (hb:b<2) (hd:zcL l ax e top m K (val rs+b*2^m)) :
  OuJ w A c n l ax e top gl nl m v' K (rs.set (m / 32) (rs[m / 32]?.getD 0 ||| (b*2^(m%32)))) ((W1.setCell ⟨gl,m / 32,none⟩ (.int .u32 ((rs[m / 32]?.getD 0 ||| (b*2^(m%32)):Nat):Int))).drewN 1):=by
 have h1:=h.next k;have hgl:=h.u.base;have hlt:=h.u.lt;have hl:=h.u.2.1;have hx:=h.u.1.getD (m / 32);refine⟨zac (h1.b.setCell (p:=⟨gl,m / 32,none⟩) (by show w.heap.size≤gl;omega) _) 1,?_,?_,(h1.u.set (m / 32) (zyR hx (by omega) hb)).below (zac (Below.refl _ _) 1),?_,?_⟩
 ·exact(Below.heap_setCell _ _ _ _ (show w.heap.size≠gl by omega)).trans h1.q
 ·exact(Below.heap_setCell _ _ _ _ (show w.heap.size+1≠gl by omega)).trans h1.r
 ·obtain⟨B,d,e1,e2⟩:=hK.zs;have e3:∀a,B=some a→a.block≠gl:=fun a ha=>by
   have:=hK.lt a.block (by rw[e1,ha];rfl);omega
  exact⟨B,d,e1,(e2.off (h1.u.cell hm) e3 _).next (zac (Below.refl _ _) 1),e3⟩
 ·rw[zxL h.u.1 (by omega) hb h.d.dv];exact hd
theorem zfb (ax e n c:Nat)(A:Option Addr)(l:List Nd)(w:World)(h:Ns w A c l)(hn:l.length=n)(h0:0<n)(hn9:n≤900000)(hg:zas l)(hax:ax≤1)(he:e≤1) :
  Calls Tryz.prog 183 #[.agg #[.slice A n c],.int .i64 (ax:Int),.int .i64 (e:Int)] w fun en w'=>∃Z:Int,RetI Z w en w'∧EdS ax e (at_ l (n-1)).lv.toNat (fun u=>u=den l n) (edZ e (at_ l (n-1)).lv.toNat Z):=by
 have hlv:=zaH (zaq hg.1 (i:=n-1) (by omega));have hlz:zaO l=(at_ l (n-1)).lv:=by
  unfold zaO;rw[if_neg (fun e=>by rw[e] at hn;simp at hn;omega),hn]
 obtain⟨top,htop⟩:∃top:Nat,(top:Int)=(at_ l (n-1)).lv:=⟨(at_ l (n-1)).lv.toNat,by omega⟩;rw[←htop] at hlv hlz ⊢;rw[show((top:Int).toNat)=top by omega];have HD0:=Hh (zcL.start hg (by omega) ax e (top:=top) (by rw[hn];exact htop));have HTP:=Hh htop;clear htop;obtain⟨nl,hnl⟩:∃nl,nl=(top+31) / 32:=⟨_,rfl⟩;have hcap:=h.cap;rw[hn] at hcap;obtain⟨i0,hi,hz0,hz1,hz2⟩:=info_parts Tryz.infoU;have HI:=Hh (And.intro hi (And.intro hz0 (And.intro hz1 hz2)));have b1:=(Below.refl w.heap.size w).alloc (Nat.le_refl _) (.cells #[.slice A n c] 27);have b2:=b1.alloc (by simp) bw0.obj;have hq:=heap_alloc_new w (.cells #[.slice A n c] 27);have hr:=heap_alloc_new (w.alloc (.cells #[.slice A n c] 27)) bw0.obj;rw[World.size_alloc] at hr;have hq2:=(((Below.refl (w.heap.size+1) (w.alloc (.cells #[.slice A n c] 27))).alloc (by simp) bw0.obj).block w.heap.size (by omega)).trans hq;have HQ:=Hh hq2;have HR:=Hh hr;have HB:=Hh b2;have HN:=Hh h;have HNL:=Hh hn;have HLZ:=Hh hlz;have HTL:=Hh hnl;have HG:=Hh hg;have e1:IntKind.i64.wrap ((top:Int)+32-1)=(top:Int)+31:=by rw[show(top:Int)+32-1=(top:Int)+31 by omega];exact IntWalk.i64_in _ (by omega)
 have e2:((top:Int)+31) / 32=(nl:Int):=by omega
 have e3:Int.tdiv ((top:Int)+31) 32=(nl:Int):=by rw[Int.tdiv_eq_ediv_of_nonneg (by omega)];exact e2
 have e4:IntKind.i64.wrap (nl:Int)=(nl:Int):=IntWalk.i64_in _ (by omega);clear h hn hlz hg hi hz0 hz1 hz2 hq hr hq2 b1 b2 hnl;dsimp only[bw0,Bw.obj,List.length_nil] at HR HB;go_enter Tryz.func183,Tryz.ntmps183;go_wp2_with (first
  | (go_at_call 216;go_loud (refine(zob A c n l _ (HN.out.below HB.out) HNL.out).mono ?_;rintro e w1 ⟨rfl,b1⟩;rw[HLZ.out];have B1:=Hh b1;clear b1))
  | (at_make;go_loud (refine wpList_make_full _ rfl _ _ 67 rfl (w.heap.size+2) 136 i0 _ 1 Tryz.underlying67 HI.out.1 HI.out.2.1 HI.out.2.2.1 .i64 .i64 _ _ nl rfl rfl (by omega) (by omega) (by rw[HI.out.2.2.2];omega) (by unfold maxLen;omega) (by have:=B1.out.size;simp only[World.size_alloc] at this;omega) ?_;intro w2 own grow;have hb2:Below w1.heap.size w1 w2:=(Below.refl _ _).grown grow (Nat.le_refl _) (fun k hk=>by cases hk);have B2:=Hh (B1.out.trans (hb2.mono B1.out.size));have g1:=zaa ((B2.out.block w.heap.size (by simp;omega)).trans HQ.out);have OW:=Hh (OwnU.made own);clear own grow hb2)))
 obtain⟨gl,hgl⟩:∃gl,gl=w1.heap.size:=⟨_,rfl⟩;rw[←hgl] at OW ⊢;have j0:OuJ w A c n l ax e top gl nl top (.slice (some ⟨w2.heap.size,0,none⟩) 1 1) [(n:Int)] (List.replicate nl 0) (w2.alloc (.cells #[.int .i64 (n:Int)] 3)):=by
  have hb3:Below w2.heap.size w2 (w2.alloc (.cells #[.int .i64 (n:Int)] 3)):=(Below.refl _ _).alloc (Nat.le_refl _) _;have hb4:=B2.out.trans (hb3.mono B2.out.size);have hs2:=B2.out.size;simp only[World.size_alloc] at hs2;refine⟨HB.out.trans (hb4.mono (by simp;omega)),(hb4.block w.heap.size (by simp;omega)).trans HQ.out,(hb4.block (w.heap.size+1) (by simp)).trans HR.out,OW.out.below hb3,⟨_,_,rfl,⟨by simp,by simp[maxLen],fun _=>⟨_,rfl,by simp,fun j hj=>?_⟩⟩,fun a ha=>?_⟩,?_⟩
  ·have hj0:j=0:=by simpa using hj
   subst hj0;exact zaa (heap_alloc_new _ _)
  ·have:=OW.out.lt;injection ha with ha
   subst ha;show w2.heap.size≠gl;omega
  ·rw[zmK];have:=HD0.out
   rwa [HNL.out] at this
 have J0:=Hh j0;clear j0 hgl OW B2 B1 g1;go_loopw [10,9] (fun i z wr=>∃(x:Int) (lev:Nat) (v:Value) (O:List Int) (rs:List Nat),lev≤top∧i=.int .i64 x∧x+1=lev∧v=z∧OuJ w A c n l ax e top gl nl lev v O rs wr) (fun i _ _=>(intOf i+1).toNat)
 case atStart=>exact⟨_,top,_,_,_,by omega,by first|rfl|trivial,by omega,rfl,J0.out⟩
 case round =>
  obtain⟨x,lev,v,O,rs,hlev,rfl,hx,rfl,hj⟩:=hrel;have J:=Hh hj;clear hj;cases lev with
  | zero =>
   have hx1:x = -1:=by omega
   subst hx1;obtain⟨vr,hvr⟩:∃vr,vr=val rs:=⟨_,rfl⟩;have hlt:=J.out.d;rw[←hvr] at hlt;have HD:=Hh hlt.done;have HV:=Hh hvr;have hb:=J.out.b;have hrl:=J.out.u.2.1;have hvl:(vr:Int)<p2 top:=hlt.low HG.out (by have:=HNL.out;omega) (by have:=HTP.out;rw[HNL.out];exact this);have hp0:=zaz (top-1);obtain⟨P,hP⟩:∃P:Int,P=p2 (top-1):=⟨_,rfl⟩;have e5:IntKind.i64.wrap ((top:Int)-1)=((top-1:Nat):Int):=by rw[show(top:Int)-1=((top-1:Nat):Int) by omega];exact IntWalk.i64_in _ (by omega)
   have HPE:=Hh hP;have HP:=Hh (show shlI 1 (((top-1:Nat)):Int)=P by rw[hP];exact zdE _ (by omega));clear hlt hvr hb;go_wp2_with (first
    | (go_at_call 218;go_loud (refine(zqM _ _ _ _ _ J.out.u.reads hrl (by omega)).mono ?_;rintro e w3 h3;rw[←HV.out] at h3;obtain⟨a,rfl,ra,b3⟩:=zaj h3;have J3:=Hh (J.out.next b3);have RA:=Hh ra;clear h3 ra b3))
    | (go_at_call 140;go_loud (refine(ziX _ _).mono ?_;rintro e w4 h4;rw[HP.out] at h4;obtain⟨q,rfl,rq,b4⟩:=zaj h4;have J4:=Hh (J3.out.next b4);have RA:=Hh (RA.out.next b4);have RQ:=Hh rq;clear h4 rq b4))
    | (go_at_call 184;go_loud (refine(zmY a.s q.s a.a q.a a.c q.c a.xs q.xs _ RA.out.us RQ.out.us (Nat.le_trans (zaX RA.out (by have:=zaz 1330;omega) (by have:=zaw (show top≤1330 by omega);omega)) (by omega)) (Nat.le_trans (zaX RQ.out (by have:=zaz 1330;omega) (by have:=zaw (show top-1≤1330 by omega);omega)) (by omega))).mono ?_;rintro e w5 h5;obtain⟨z,rfl,rz,b5⟩:=zaj h5;rw[RA.out.v,RQ.out.v] at rz;have J5:=Hh (J4.out.next b5);have RZ:=Hh rz;clear h5 rz b5;obtain⟨d0,d1,f0,f1⟩:=zee J5.out.r)))
   have hz:=RZ.out.set (o:=bw0) J5.out.r;have e1:=hz.c0;have e2:=hz.c1;refine bodyPost_ret (v:=.agg #[.bool z.s,.slice z.a z.xs.length z.c]) (by simp[results,Tryz.results183,go_sem,e1,e2]) rfl ?_;refine⟨(vr:Int)-P,⟨z.a,z.c,z.s,z.xs,rfl,hz.r.us,hz.r.cn,hz.r.v,(J5.out.b.setCell (p:=⟨w.heap.size+1,0,none⟩) (Nat.le_succ _) _).setCell (p:=⟨w.heap.size+1,1,none⟩) (Nat.le_succ _) _⟩,?_⟩;have h9:=HD.out
   rwa [HNL.out,←HPE.out] at h9
  | succ m =>
   have hx1:x=(m:Int):=by omega
   subst hx1;obtain⟨B,d,rfl,hz,hbg⟩:=J.out.o;have hzc:=hz.cap;obtain⟨on,hon⟩:∃on,on=O.length:=⟨_,rfl⟩;rw[←hon] at hzc ⊢;have hon9:on≤900000:=by have:=J.out.d.len;have:=HNL.out;omega
   have HZ:=Hh hz;have HON:=Hh hon.symm;have hnum:=Hh (show ∀x∈O,1≤x∧x≤(n:Int) from fun x hx=>by
    have:=J.out.d.num x hx (by omega);have:=HNL.out;exact⟨by omega,by omega⟩)
   obtain⟨wh,hwh⟩:∃k,k=m / 32:=⟨_,rfl⟩;obtain⟨pt,hpt⟩:∃k,k=m%32:=⟨_,rfl⟩;have i1:((m:Int) / 32)=(wh:Int):=by omega
   have i2:((m:Int)%32)=(pt:Int):=by omega
   have l1:(0:Int)≤(m:Int):=by omega
   have l2:(m:Int)≤100000:=by omega
   have l3:(0:Int)≤(wh:Int):=by omega
   have l4:(wh:Int)<(nl:Int):=by have:=HTL.out;omega
   have l5:(0:Int)≤(pt:Int):=by omega
   have l6:(pt:Int)<32:=by omega
   have hxl:=J.out.u.1.getD (m / 32);obtain⟨y,hy⟩:∃y,y=rs[m / 32]?.getD 0:=⟨_,rfl⟩;rw[←hy] at hxl;have HY:=Hh hy;have HWH:=Hh hwh;have HPT:=Hh hpt;have g1:=zaa J.out.q;have E:∀b:Nat,b<2→bits .or .u32 (y:Int) ((b:Int)*2^pt%4294967296)=((y ||| (b*2^pt):Nat):Int):=fun b hb=>by
    obtain⟨P,hP⟩:∃P,P=2^pt:=⟨_,rfl⟩;have h2:2^pt<2^32:=Nat.pow_lt_pow_right (by decide) (by omega);have h4:P<4294967296:=by rw[hP];omega
    have h5:((2:Int)^pt)=(P:Int):=by rw[hP];simp
    obtain⟨Q,hQ⟩:∃Q,Q=b*P:=⟨_,rfl⟩;have h3:Q<4294967296:=by
     have:b=0∨b=1:=by omega
     rcases this with rfl|rfl <;> omega
    have h6:(b:Int)*(P:Int)=(Q:Int):=by rw[hQ];simp
    rw[h5,h6,show((Q:Int)%4294967296)=(Q:Int) by omega,u32_or_nat _ _ hxl h3,hQ,hP]
   have HE:=Hh E;clear hz hon hy hwh hpt hxl E;by_cases hK:zfa (zbA l ax e O on)=[]
   ·have HK:=Hh hK;clear hK;obtain⟨f,hf⟩:∃f,f=1-e:=⟨_,rfl⟩;have f1:f≤1:=by omega
    have e7:IntKind.i64.wrap (1-(e:Int))=(f:Int):=by rw[show(1:Int)-(e:Int)=(f:Int) by omega];exact IntWalk.i64_in _ (by omega)
    have HF:=Hh hf;obtain⟨K,hKe⟩:∃K,K=zfa (zbA l ax f O on):=⟨_,rfl⟩;obtain⟨kl,hkl⟩:∃kl,kl=K.length:=⟨_,rfl⟩;have HKE:=Hh hKe;have HKL:=Hh hkl;have q0:True:=trivial;clear hKe hkl hf;go_wp2_with (first
     | (have _t:=q0;go_at_call 217;clear _t;go_loud (refine(zfz ax e n on c d A B l O _ (HN.out.below J.out.b) HNL.out (by omega) HZ.out HON.out (by omega) hnum.out hax he).mono ?_;rintro en w2 ⟨v2,rfl,o2,b2⟩;rw[HK.out] at o2;obtain⟨A2,c2,rfl,z2⟩:=o2.zs;rw[List.length_nil];have J2:=Hh (J.out.next b2);have B2:=Hh b2;have g2:=zaa J2.out.q;have HZ2:=Hh (HZ.out.next b2);clear o2 b2 z2;have q1:=q0;clear q0))
     | (have _t:=q1;go_at_call 217;clear _t;go_loud (refine(zfz ax f n on c d A B l O _ (HN.out.below J2.out.b) HNL.out (by omega) HZ2.out HON.out (by omega) hnum.out hax f1).mono ?_;rintro en w3 ⟨v3,rfl,o3,b3⟩;rw[←HKE.out] at o3;obtain⟨A3,c3,rfl,z3⟩:=o3.zs;rw[←HKL.out];have z3c:=z3.cap;rw[←HKL.out] at z3c;have O3:=Hh o3;have J3:=Hh (J2.out.next b3);have B3:=Hh b3;have c5:=J3.out.u.cell (k:=m / 32) (by have:=HTL.out;omega);rw[←HY.out,←HWH.out] at c5;have f5:=J3.out.u.free (m / 32);rw[←HWH.out] at f5;clear o3 b3 z3;have q2:=q1;clear q1)))
    go_region;rw[HE.out f (by omega)];go_wp2_with fail;go_roundw
    case rel =>
     have h9:=J2.out.step B3.out O3.out (b:=f) (by have:=HTL.out;omega) (by omega) (by
      have h8:=J2.out.d.far HG.out he (by rw[HON.out];exact HK.out);rw[←HF.out] at h8
      rwa [HON.out,←HKE.out] at h8)
     rw[←HY.out,←HWH.out,←HPT.out] at h9;refine⟨_,m,_,K,rs.set wh (y ||| (f*2^pt)),by omega,by go_num,by omega,rfl,?_⟩;rw[HKL.out];exact h9
    case measure=>simp[intOf]
   ·have HK:=Hh hK;clear hK;have hl9:zfa (zbA l ax e O on)≠[]:=HK.out;obtain⟨K,hKe⟩:∃K,K=zfa (zbA l ax e O on):=⟨_,rfl⟩;rw[←hKe] at hl9;obtain⟨kl,hkl⟩:∃kl,kl=K.length:=⟨_,rfl⟩;have HKE:=Hh hKe;have HKL:=Hh hkl;have t1:((kl:Int)==0)=false:=by
     rw[beq_eq_false_iff_ne];intro e9;exact hl9 (List.length_eq_zero_iff.1 (by omega))
    clear hl9 hKe hkl;go_wp2_with (first
     | (go_at_call 217;go_loud (refine(zfz ax e n on c d A B l O _ (HN.out.below J.out.b) HNL.out (by omega) HZ.out HON.out (by omega) hnum.out hax he).mono ?_;rintro en w3 ⟨v3,rfl,o3,b3⟩;rw[←HKE.out] at o3;obtain⟨A3,c3,rfl,z3⟩:=o3.zs;rw[←HKL.out];have z3c:=z3.cap;rw[←HKL.out] at z3c;have O3:=Hh o3;have J3:=Hh (J.out.next b3);have B3:=Hh b3;have g3:=zaa J3.out.q;have c5:=J3.out.u.cell (k:=m / 32) (by have:=HTL.out;omega);rw[←HY.out,←HWH.out] at c5;have f5:=J3.out.u.free (m / 32);rw[←HWH.out] at f5;clear o3 b3 z3)))
    go_region;rw[HE.out e (by omega)];go_wp2_with fail;go_roundw
    case rel =>
     have h9:=J.out.step B3.out O3.out (b:=e) (by have:=HTL.out;omega) (by omega) (by
      have h8:=J.out.d.near HG.out he (by rw[HON.out];exact HK.out)
      rwa [HON.out,←HKE.out] at h8)
     rw[←HY.out,←HWH.out,←HPT.out] at h9;refine⟨_,m,_,K,rs.set wh (y ||| (e*2^pt)),by omega,by go_num,by omega,rfl,?_⟩;rw[HKL.out];exact h9
    case measure=>simp[intOf]
theorem zao {W:World}{g:Nat}{a b c d:Value}{t:TypeId}(h:W.heap[g]?=some (.cells #[a,b,c,d] t)) :
  W.cell? ⟨g,0,none⟩=some a∧W.cell? ⟨g,1,none⟩=some b∧W.cell? ⟨g,2,none⟩=some c∧W.cell? ⟨g,3,none⟩=some d∧W.frozen? ⟨g,0,none⟩=false∧W.frozen? ⟨g,1,none⟩=false∧W.frozen? ⟨g,2,none⟩=false∧W.frozen? ⟨g,3,none⟩=false:=by
 refine⟨?_,?_,?_,?_,frozen_of_row W g 0 _ _ h,frozen_of_row W g 1 _ _ h,frozen_of_row W g 2 _ _ h,frozen_of_row W g 3 _ _ h⟩ <;> (rw[cell_of_row W g _ _ _ (0,0) h];rfl)
abbrev twoV (u v:Bw):Value:=.agg #[.bool u.s,.slice u.a u.xs.length u.c,.bool v.s,.slice v.a v.xs.length v.c]
abbrev twoO (u v:Bw):Obj:=.cells #[.bool u.s,.slice u.a u.xs.length u.c,.bool v.s,.slice v.a v.xs.length v.c] 189
structure SpJ (w:World)(A:Option Addr)(c n:Nat)(u v:Bw)(W:World):Prop where
 b:Below w.heap.size w W
 q:W.heap[w.heap.size]?=some (.cells #[.slice A n c] 27)
 r:W.heap[w.heap.size+1]?=some (twoO bw0 bw0)
 s:W.heap[w.heap.size+2]?=some (twoO u v)
theorem SpJ.next {w:World}{A:Option Addr}{c n:Nat}{u v:Bw}{W W1:World}(h:SpJ w A c n u v W)(k:Below W.heap.size W W1):SpJ w A c n u v W1 :=
 ⟨h.b.trans (k.mono h.b.size),(k.block _ (Array.getElem?_eq_some_iff.1 h.q).1).trans h.q,(k.block _ (Array.getElem?_eq_some_iff.1 h.r).1).trans h.r,(k.block _ (Array.getElem?_eq_some_iff.1 h.s).1).trans h.s⟩
theorem SpJ.start (w:World)(A:Option Addr)(c n:Nat):SpJ w A c n bw0 bw0 (((w.alloc (.cells #[.slice A n c] 27)).alloc (twoO bw0 bw0)).alloc (twoO bw0 bw0)):=by
 have b1:=(Below.refl w.heap.size w).alloc (Nat.le_refl _) (.cells #[.slice A n c] 27);have b2:=(Below.refl (w.heap.size+1) (w.alloc (.cells #[.slice A n c] 27))).alloc (by simp) (twoO bw0 bw0);have b3:=(Below.refl (w.heap.size+2) ((w.alloc (.cells #[.slice A n c] 27)).alloc (twoO bw0 bw0))).alloc (by simp) (twoO bw0 bw0);have h1:=heap_alloc_new (w.alloc (.cells #[.slice A n c] 27)) (twoO bw0 bw0);rw[World.size_alloc] at h1;have h2:=heap_alloc_new ((w.alloc (.cells #[.slice A n c] 27)).alloc (twoO bw0 bw0)) (twoO bw0 bw0);rw[World.size_alloc,World.size_alloc] at h2;exact⟨(b1.trans (b2.mono (Nat.le_succ _))).trans (b3.mono (by omega)),(b3.block _ (by omega)).trans ((b2.block _ (by omega)).trans (heap_alloc_new w _)),(b3.block _ (by omega)).trans h1,h2⟩
theorem SpJ.setU {w:World}{A:Option Addr}{c n:Nat}{u v:Bw}{W:World}(h:SpJ w A c n u v W)(x:Bw):SpJ w A c n x v ((W.setCell ⟨w.heap.size+2,0,none⟩ (.bool x.s)).setCell ⟨w.heap.size+2,1,none⟩ (.slice x.a x.xs.length x.c)) :=
 ⟨(h.b.setCell (p:=⟨w.heap.size+2,0,none⟩) (by show _≤w.heap.size+2;omega) _).setCell (p:=⟨w.heap.size+2,1,none⟩) (by show _≤w.heap.size+2;omega) _,
  ((Below.heap_setCell _ _ _ _ (show w.heap.size≠w.heap.size+2 by omega)).trans (Below.heap_setCell _ _ _ _ (show w.heap.size≠w.heap.size+2 by omega))).trans h.q,
  ((Below.heap_setCell _ _ _ _ (show w.heap.size+1≠w.heap.size+2 by omega)).trans (Below.heap_setCell _ _ _ _ (show w.heap.size+1≠w.heap.size+2 by omega))).trans h.r,
  (heap_setCell_same _ _ 1 _ _ _ (heap_setCell_same W _ 0 _ _ _ h.s)).trans rfl⟩
theorem SpJ.setV {w:World}{A:Option Addr}{c n:Nat}{u v:Bw}{W:World}(h:SpJ w A c n u v W)(x:Bw):SpJ w A c n u x ((W.setCell ⟨w.heap.size+2,2,none⟩ (.bool x.s)).setCell ⟨w.heap.size+2,3,none⟩ (.slice x.a x.xs.length x.c)) :=
 ⟨(h.b.setCell (p:=⟨w.heap.size+2,2,none⟩) (by show _≤w.heap.size+2;omega) _).setCell (p:=⟨w.heap.size+2,3,none⟩) (by show _≤w.heap.size+2;omega) _,
  ((Below.heap_setCell _ _ _ _ (show w.heap.size≠w.heap.size+2 by omega)).trans (Below.heap_setCell _ _ _ _ (show w.heap.size≠w.heap.size+2 by omega))).trans h.q,
  ((Below.heap_setCell _ _ _ _ (show w.heap.size+1≠w.heap.size+2 by omega)).trans (Below.heap_setCell _ _ _ _ (show w.heap.size+1≠w.heap.size+2 by omega))).trans h.r,
  (heap_setCell_same _ _ 3 _ _ _ (heap_setCell_same W _ 2 _ _ _ h.s)).trans rfl⟩
theorem zkE {W:World}{g:Nat}{u v:Bw}(h:W.heap[g]?=some (twoO u v)):∀o x,W.cell? ⟨g,o,none⟩=some x→∀k,x≠.int .u32 k:=fun o x hx k e=>by
 subst e;rw[cell_of_row W g _ _ _ _ h] at hx
 match o with
 | 0=>simp at hx
 | 1=>simp at hx
 | 2=>simp at hx
 | 3=>simp at hx
 | o+4=>simp at hx
theorem Bw.R.spot {x:Bw}{W:World}{X:Int}(h:x.R W X){g k j:Nat}{u v:Bw}(hb:W.heap[g]?=some (twoO u v))(a b:Value):x.R ((W.setCell ⟨g,k,none⟩ a).setCell ⟨g,j,none⟩ b) X :=
 ⟨zbt h.us (fun q _ hq=>(Below.heap_setCell _ _ _ _ hq).trans (Below.heap_setCell _ _ _ _ hq)) (by simp[World.setCell]) (zbS h.us (zkE hb)),h.cn,h.v⟩
theorem zmc (ax n c:Nat)(A:Option Addr)(l:List Nd)(w:World)(h:Ns w A c l)(hn:l.length=n)(h0:0<n)(hn9:n≤900000)(hg:zas l)(hax:ax≤1) :
  Calls Tryz.prog 183 #[.agg #[.slice A n c],.int .i64 (ax:Int),.int .i64 0] w fun en w'=>∃Z:Int,RetI Z w en w'∧EdS ax 0 (at_ l (n-1)).lv.toNat (fun u=>u=den l n) (edZ 0 (at_ l (n-1)).lv.toNat Z):=zfb ax 0 n c A l w h hn h0 hn9 hg hax (by omega)
theorem zou (ax n c:Nat)(A:Option Addr)(l:List Nd)(w:World)(h:Ns w A c l)(hn:l.length=n)(h0:0<n)(hn9:n≤900000)(hg:zas l)(hax:ax≤1) :
  Calls Tryz.prog 183 #[.agg #[.slice A n c],.int .i64 (ax:Int),.int .i64 1] w fun en w'=>∃Z:Int,RetI Z w en w'∧EdS ax 1 (at_ l (n-1)).lv.toNat (fun u=>u=den l n) (edZ 1 (at_ l (n-1)).lv.toNat Z):=zfb ax 1 n c A l w h hn h0 hn9 hg hax (by omega)
def zqS (l:List Nd)(ax n:Nat)(w:World)(e:Ending)(w':World):Prop :=
 ∃(u v:Bw) (X Y:Int),e=.returned (twoV u v)∧u.R w' X∧v.R w' Y∧EdS ax 0 (at_ l (n-1)).lv.toNat (fun u=>u=den l n) (edZ 0 (at_ l (n-1)).lv.toNat X)∧EdS ax 1 (at_ l (n-1)).lv.toNat (fun u=>u=den l n) (edZ 1 (at_ l (n-1)).lv.toNat Y)∧Below w.heap.size w w'
theorem zit (ax n c:Nat)(A:Option Addr)(l:List Nd)(w:World)(h:Ns w A c l)(hn:l.length=n)(h0:0<n)(hn9:n≤900000)(hg:zas l)(hax:ax≤1) :
  Calls Tryz.prog 149 #[.agg #[.slice A n c],.int .i64 (ax:Int)] w (zqS l ax n w):=by
 have hcap:=h.cap;rw[hn] at hcap;have j0:=SpJ.start w A c n;have J0:=Hh j0;obtain⟨d0,d1,d2,d3,f0,f1,f2,f3⟩:=zao j0.s;have g0:=zaa j0.q;have HN:=Hh h;have HNL:=Hh hn;have HG:=Hh hg;have q0:True:=trivial;clear h hn hg j0;dsimp only[bw0,twoO,List.length_nil] at J0 d0 d1 d2 d3 f0 f1 f2 f3 g0;go_enter Tryz.func149,Tryz.ntmps149;go_wp2_with fail;refine wp_loop_rounds 3 ?_;rw[rounds_succ];go_wp2_with (have _t:=q0;go_at_call 183;clear _t;go_loud (refine(zmc ax n c A l _ (HN.out.below J0.out.b) HNL.out h0 hn9 HG.out hax).mono ?_;rintro e w1 ⟨X,h1,e1⟩;obtain⟨u,rfl,ru,b1⟩:=zaj h1;have HE1:=Hh e1;have RU:=Hh ru;have J1:=Hh (J0.out.next b1);clear h1 b1 e1 ru;obtain⟨d0,d1,d2,d3,f0,f1,f2,f3⟩:=zao J1.out.s;have g0:=zaa J1.out.q;have q1:=q0;clear q0));have J2:=Hh (J1.out.setU u);have RU:=Hh (RU.out.spot J1.out.s (.bool u.s) (.slice u.a u.xs.length u.c) (k:=0) (j:=1));clear d0 d1 d2 d3 f0 f1 f2 f3 g0;obtain⟨d0,d1,d2,d3,f0,f1,f2,f3⟩:=zao J2.out.s;have g0:=zaa J2.out.q;rw[rounds_succ];go_wp2_with (have _t:=q1;go_at_call 183;clear _t;go_loud (refine(zou ax n c A l _ (HN.out.below J2.out.b) HNL.out h0 hn9 HG.out hax).mono ?_;rintro e w2 ⟨Y,h2,e2⟩;obtain⟨v,rfl,rv,b2⟩:=zaj h2;have HE2:=Hh e2;have RV:=Hh rv;have RU:=Hh (RU.out.next b2);have J3:=Hh (J2.out.next b2);clear h2 b2 e2 rv;obtain⟨d0,d1,d2,d3,f0,f1,f2,f3⟩:=zao J3.out.s;have g0:=zaa J3.out.q;have q2:=q1;clear q1));have J4:=Hh (J3.out.setV v);have RU:=Hh (RU.out.spot J3.out.s (.bool v.s) (.slice v.a v.xs.length v.c) (k:=2) (j:=3));have RV:=Hh (RV.out.spot J3.out.s (.bool v.s) (.slice v.a v.xs.length v.c) (k:=2) (j:=3));clear d0 d1 d2 d3 f0 f1 f2 f3 g0;obtain⟨d0,d1,d2,d3,f0,f1,f2,f3⟩:=zao J4.out.s;obtain⟨z0,z1,z2,z3,y0,y1,y2,y3⟩:=zao J4.out.r;have g0:=zaa J4.out.q;dsimp only[bw0,List.length_nil] at z0 z1 z2 z3;rw[rounds_succ];go_wp2_with fail;generalize hW:(w2.setCell ⟨w.heap.size+2,2,none⟩ (.bool v.s)).setCell ⟨w.heap.size+2,3,none⟩ (.slice v.a v.xs.length v.c)=W at *;have r1:((W.setCell ⟨w.heap.size+1,0,none⟩ (.bool u.s)).setCell ⟨w.heap.size+1,1,none⟩ (.slice u.a u.xs.length u.c)).heap[w.heap.size+1]?=some (twoO u bw0):=(heap_setCell_same _ _ 1 _ _ _ (heap_setCell_same W _ 0 _ _ _ J4.out.r)).trans rfl;have RU:=Hh ((RU.out.spot J4.out.r (.bool u.s) (.slice u.a u.xs.length u.c) (k:=0) (j:=1)).spot r1 (.bool v.s) (.slice v.a v.xs.length v.c) (k:=2) (j:=3));have RV:=Hh ((RV.out.spot J4.out.r (.bool u.s) (.slice u.a u.xs.length u.c) (k:=0) (j:=1)).spot r1 (.bool v.s) (.slice v.a v.xs.length v.c) (k:=2) (j:=3));have r2:((((W.setCell ⟨w.heap.size+1,0,none⟩ (.bool u.s)).setCell ⟨w.heap.size+1,1,none⟩ (.slice u.a u.xs.length u.c)).setCell ⟨w.heap.size+1,2,none⟩ (.bool v.s)).setCell ⟨w.heap.size+1,3,none⟩ (.slice v.a v.xs.length v.c)).heap[w.heap.size+1]?=some (twoO u v):=(heap_setCell_same _ _ 3 _ _ _ (heap_setCell_same _ _ 2 _ _ _ r1)).trans rfl;obtain⟨e1,e2,e3,e4,-⟩:=zao r2;have hbw:=(((J4.out.b.setCell (p:=⟨w.heap.size+1,0,none⟩) (Nat.le_succ _) (.bool u.s)).setCell (p:=⟨w.heap.size+1,1,none⟩) (Nat.le_succ _) (.slice u.a u.xs.length u.c)).setCell (p:=⟨w.heap.size+1,2,none⟩) (Nat.le_succ _) (.bool v.s)).setCell (p:=⟨w.heap.size+1,3,none⟩) (Nat.le_succ _) (.slice v.a v.xs.length v.c);refine bodyPost_ret (v:=twoV u v) (by simp[results,Tryz.results149,go_sem,e1,e2,e3,e4]) rfl ?_;exact⟨u,v,X,Y,rfl,RU.out,RV.out,HE1.out,HE2.out,hbw⟩
end Go.Proofs.YtbabbmdpgpcgjaaGreatDoor
