import Derived.Test.YtbabbmdpgpcgjaaGreatDoorHLkRq
import Derived.Test.YtbabbmdpgpcgjaaGreatDoorHClRm

set_option linter.unusedVariables false
set_option linter.unusedSimpArgs false
set_option maxRecDepth 100000
set_option maxHeartbeats 6400000
namespace Go.Proofs.YtbabbmdpgpcgjaaGreatDoor
open Go.RowKit Num Nds
structure GetI (q:List Nd)(R:Int)(j:Nat)(k X Y:Int):Prop where
 fits:kidB q ((j:Int)+1) k=true
 got:getF j q k X Y=R
 rx:0≤X∧X<p2 j
 ry:0≤Y∧Y<p2 j
theorem GetI.none {q:List Nd}{R:Int}{j:Nat}{X Y:Int}(h:GetI q R j 0 X Y):R=0:=by rw[←h.got,zqH]
theorem GetI.last {q:List Nd}{R k X Y:Int}(h:GetI q R 0 k X Y):k=R:=h.got
theorem GetI.some {q:List Nd}{R:Int}{j:Nat}{k X Y:Int}(h:GetI q R (j+1) k X Y):k=0∨∃p:Nat,k=(p:Int)+1∧p<q.length∧(at_ q p).lv=(j:Int)+1:=by
 rcases zbc (show(((j+1:Nat)):Int)+1≠1 by omega) h.fits with h|⟨p,h,hp,hl⟩
 ·exact .inl h
 ·exact .inr ⟨p,h,hp,by omega⟩
theorem GetI.step {q:List Nd}(hq:zai q=true){R:Int}{j p:Nat}{X Y:Int}(hj:j≤1328)(h:GetI q R (j+1) ((p:Int)+1) X Y):GetI q R j ((at_ q p).kid (qtI (p2 j) X Y)) (subI (p2 j) X) (subI (p2 j) Y):=by
 obtain⟨h1,h2,h3,h4⟩:=h;obtain⟨f1,f2,-⟩:=znr hq hj h1;have hne:¬ (p:Int)+1=0:=by omega
 have e:zhg j q ((p:Int)+1)=at_ q p:=by
  unfold zhg;rw[if_neg hne,show((p:Int)+1-1).toNat=p by omega]
 rw[e] at f1 f2;have hlt:=zqF (p2 j) X Y;have ep:=zap j;refine⟨?_,?_,?_,?_⟩
 ·have:=zav f1 hlt
  rwa [f2] at this
 ·unfold getF at h2;rw[if_neg hne,e] at h2;exact h2
 ·unfold subI;split <;> omega
 ·unfold subI;split <;> omega
theorem ztE {q:List Nd}(hq:zai q=true){p i:Nat}(hp:p<q.length)(hi:i<4)(h1:(at_ q p).lv≠1):0≤(at_ q p).kid i∧(at_ q p).kid i≤p:=by
 have hf:=zav (zan.1 hq p hp) hi;rcases zbc h1 hf with h|⟨r,h,hr,-⟩
 ·omega
 ·have:=List.length_take_le p q;omega
theorem zeq {X:Int}{j:Nat}(h:0≤X∧X<p2 j)(hj:j≤1329) : -p2 1329≤X∧X≤p2 1329:=by
 have h1:=zaw hj;have h2:=zaz j;omega
structure QG (w:World)(A:Option Addr)(c n:Nat)(q:List Nd)(u v:Bw)(X Y:Int)(W:World):Prop where
 b:Below w.heap.size w W
 bq:W.heap[w.heap.size]?=some (.cells #[.slice A n c] 27)
 x:u.B W (w.heap.size+1) X
 y:v.B W (w.heap.size+1+1) Y
 ns:Ns W A c q
 old:0<n→∀a,A=some a→a.block<w.heap.size
theorem QG.next {w:World}{A:Option Addr}{c n:Nat}{q:List Nd}{u v:Bw}{X Y:Int}{W W1:World}(h:QG w A c n q u v X Y W)(k:Below W.heap.size W W1):QG w A c n q u v X Y W1 :=
 ⟨h.b.trans (k.mono h.b.size),(k.block _ (Array.getElem?_eq_some_iff.1 h.bq).1).trans h.bq,h.x.next k,h.y.next k,h.ns.below k,h.old⟩
theorem QG.set {w:World}{A:Option Addr}{c n:Nat}{q:List Nd}(hn:q.length=n){u v:Bw}{X Y:Int}{W:World}(h:QG w A c n q u v X Y W){a b:Bw}{X' Y':Int}(ha:a.R W X')(hb:b.R W Y') :
  QG w A c n q a b X' Y' ((((W.setCell ⟨w.heap.size+1,0,none⟩ (.bool a.s)).setCell ⟨w.heap.size+1,1,none⟩ (.slice a.a a.xs.length a.c)).setCell ⟨w.heap.size+1+1,0,none⟩ (.bool b.s)).setCell ⟨w.heap.size+1+1,1,none⟩ (.slice b.a b.xs.length b.c)):=by
 have e1:w.heap.size+1+1≠w.heap.size+1:=by omega
 have e8:((W.setCell ⟨w.heap.size+1,0,none⟩ (.bool a.s)).setCell ⟨w.heap.size+1,1,none⟩ (.slice a.a a.xs.length a.c)).heap[w.heap.size+1+1]?=some v.obj:=((Below.heap_setCell _ _ _ _ e1).trans (Below.heap_setCell _ _ _ _ e1)).trans h.y.box;have x1:=ha.set h.x.box;have y1:=(hb.stored h.x.box a).set e8;have hB:Below w.heap.size W ((((W.setCell ⟨w.heap.size+1,0,none⟩ (.bool a.s)).setCell ⟨w.heap.size+1,1,none⟩ (.slice a.a a.xs.length a.c)).setCell ⟨w.heap.size+1+1,0,none⟩ (.bool b.s)).setCell ⟨w.heap.size+1+1,1,none⟩ (.slice b.a b.xs.length b.c)) :=
  (((Below.refl _ W).setCell (by show w.heap.size≤w.heap.size+1;omega) _).setCell (by show w.heap.size≤w.heap.size+1;omega) _ |>.setCell (by show w.heap.size≤w.heap.size+1+1;omega) _).setCell (by show w.heap.size≤w.heap.size+1+1;omega) _
 refine⟨h.b.trans hB,?_,x1.other e8 (by omega) b,y1,?_,h.old⟩
 ·refine(Below.heap_setCell _ _ _ _ ?_).trans ((Below.heap_setCell _ _ _ _ ?_).trans ((Below.heap_setCell _ _ _ _ ?_).trans ((Below.heap_setCell _ _ _ _ ?_).trans h.bq))) <;> first|(show w.heap.size≠w.heap.size+1;omega)|(show w.heap.size≠w.heap.size+1+1;omega)
 ·by_cases h0:0<n
  ·exact h.ns.belowB (h.old h0) hB
  ·exact⟨h.ns.1,h.ns.2.1,h.ns.2.2.1,fun h1=>absurd h1 (by omega)⟩
theorem zab {W:World}{g:Nat}{o:Obj}(h:W.heap[g]?=some o):g<W.heap.size:=(Array.getElem?_eq_some_iff.1 h).1
theorem zlZ {W:World}{bb off c p:Nat}{q:List Nd}(h:Ns W (some ⟨bb,off,none⟩) c q)(hp:p<q.length):NdAt W bb (off+p*5) (at_ q p):=by
 obtain⟨b,o,e,-,hc⟩:=h.at_ (by omega)
 cases e;exact hc p hp
theorem QG.cells {w:World}{bb off c n p j:Nat}{q:List Nd}{u v:Bw}{X Y:Int}{W:World}(h:QG w (some ⟨bb,off,none⟩) c n q u v X Y W)(hp:p<q.length)(hl:(at_ q p).lv=(j:Int)+1) :
  W.cell? ⟨w.heap.size,0,none⟩=some (.slice (some ⟨bb,off,none⟩) n c)∧W.cell? ⟨bb,off+p*5,none⟩=some (.int .i64 ((j:Int)+1))∧W.cell? ⟨w.heap.size+1,0,none⟩=some (.bool u.s)∧W.cell? ⟨w.heap.size+1,1,none⟩=some (.slice u.a u.xs.length u.c)∧W.cell? ⟨w.heap.size+1+1,0,none⟩=some (.bool v.s)∧W.cell? ⟨w.heap.size+1+1,1,none⟩=some (.slice v.a v.xs.length v.c):=by
 refine⟨zaa h.bq,?_,h.x.c0,h.x.c1,h.y.c0,h.y.c1⟩;rw[←hl];exact(zlZ h.ns hp).1
theorem QG.other {w:World}{A:Option Addr}{c n:Nat}{q:List Nd}(hn:q.length=n){u v:Bw}{X Y:Int}{W:World}(h:QG w A c n q u v X Y W){g:Nat}{o:Bw}(hb:W.heap[g]?=some o.obj)(hg:w.heap.size+1+1<g)(a:Bw) :
  QG w A c n q u v X Y ((W.setCell ⟨g,0,none⟩ (.bool a.s)).setCell ⟨g,1,none⟩ (.slice a.a a.xs.length a.c)):=by
 have hB:Below w.heap.size W ((W.setCell ⟨g,0,none⟩ (.bool a.s)).setCell ⟨g,1,none⟩ (.slice a.a a.xs.length a.c)):=((Below.refl _ W).setCell (by show w.heap.size≤g;omega) _).setCell (by show w.heap.size≤g;omega) _;refine⟨h.b.trans hB,((Below.heap_setCell _ _ _ _ (show w.heap.size≠g by omega)).trans (Below.heap_setCell _ _ _ _ (show w.heap.size≠g by omega))).trans h.bq,h.x.other hb (by omega) a,h.y.other hb (by omega) a,?_,h.old⟩;by_cases h0:0<n
 ·exact h.ns.belowB (h.old h0) hB
 ·exact⟨h.ns.1,h.ns.2.1,h.ns.2.2.1,fun h1=>absurd h1 (by omega)⟩
theorem zwj (A:Option Addr)(c n:Nat)(q:List Nd)(u v:Bw)(X Y:Int)(w:World)(h:Ns w A c q)(hn:q.length=n)(hn9:n≤900000)(hq:zai q=true)(hu:u.R w X)(hv:v.R w Y)(lu:u.xs.length≤50000)(lv:v.xs.length≤50000) :
  Calls Tryz.prog 60 #[.agg #[.slice A n c],u.val,v.val] w fun e w'=>e=.returned (.int .u8 (getQ q X Y))∧Below w.heap.size w w':=by
 have hcap:=h.cap;rw[hn] at hcap;have hcu:=hu.us.cap;have hcv:=hv.us.cap;obtain⟨R,hR⟩:∃R,R=getQ q X Y:=⟨_,rfl⟩;have hRb:=zkw hq X Y;rw[←hR] at hRb ⊢;have hw8:IntKind.u8.wrap R=R:=by simp[IntKind.wrap,IntKind.bits,IntKind.signed];omega
 obtain⟨W,hW⟩:∃W:World,W=((w.alloc (.cells #[.slice A n c] 27)).alloc (.cells #[.bool u.s,.slice u.a u.xs.length u.c] 69)).alloc (.cells #[.bool v.s,.slice v.a v.xs.length v.c] 69):=⟨_,rfl⟩;have hL:Below w.heap.size w W:=by rw[hW];exact(((Below.refl _ w).alloc (Nat.le_refl _) _).alloc (by simp) _).alloc (by simp;omega) _
 have hB0:W.heap[w.heap.size]?=some (.cells #[.slice A n c] 27):=by
  rw[hW];exact(Below.heap_alloc _ _ _ (by simp only[World.size_alloc];omega)).trans ((Below.heap_alloc _ _ _ (by simp only[World.size_alloc];omega)).trans (heap_alloc_new w _))
 have hB1:W.heap[w.heap.size+1]?=some u.obj:=by
  rw[hW];refine(Below.heap_alloc _ _ _ (by simp only[World.size_alloc];omega)).trans ?_;have:=heap_alloc_new (w.alloc (.cells #[.slice A n c] 27)) u.obj
  rwa [World.size_alloc] at this
 have hB2:W.heap[w.heap.size+1+1]?=some v.obj:=by
  rw[hW];have:=heap_alloc_new ((w.alloc (.cells #[.slice A n c] 27)).alloc u.obj) v.obj
  rwa [World.size_alloc,World.size_alloc] at this
 have S0:=Hh (show QG w A c n q u v X Y W from⟨hL,hB0,⟨hB1,hu.next hL⟩,⟨hB2,hv.next hL⟩,h.below hL,fun h0 a ea=>by obtain⟨b,off,e,hb,-⟩:=h.at_ (by omega);rw[ea] at e;cases e;exact hb⟩);obtain⟨lq,hlq⟩:∃lq,lq=zaO q:=⟨_,rfl⟩;have hlm:=zor hq;rw[←hlq] at hlm;have HW:=Hh hW;have HLE:=Hh hn;have HQ:=Hh hq;have HR:=Hh hR;have HLQ:=Hh hlq;have HOUT:=Hh (fun(h:zaO q<((max (rcI X) (rcI Y):Nat):Int)+1)=>(ztB hq h:getQ q X Y=0));have HIN:=Hh (fun(m:Nat) (h1:zaO q=(m:Int)+1) (h2 : -p2 m≤X∧X<p2 m) (h3 : -p2 m≤Y∧Y<p2 m) (h4:m≤1328)=>zwh hq h1 h2 h3 h4);have a0:=zaa hB0;have x1:=S0.out.x.c0;have x2:=S0.out.x.c1;have y1:=S0.out.y.c0;have y2:=S0.out.y.c1;rw[hW] at a0 x1 x2 y1 y2;have q0:True:=trivial;clear h hn hq hu hv hR hL hB0 hB1 hB2 hlq hW;by_cases hz:lq=0
 ·have t1:(lq==0)=true:=beq_iff_eq.2 hz;have hR0:R=0:=by rw[HR.out];exact HOUT.out (by rw[←HLQ.out,hz];omega)
  rw[hR0];go_enter Tryz.func60,Tryz.ntmps60;go_wp2_with (first
   | (have _t:=q0;go_at_call 80;clear _t;(try rw[←HW.out]);go_loud (refine(zcV A c n q _ S0.out.ns HLE.out).mono ?_;rintro e w1 ⟨rfl,b1⟩;rw[←HLQ.out];have S1:=Hh (S0.out.next b1);have a0:=zaa S1.out.bq;have x1:=S1.out.x.c0;have x2:=S1.out.x.c1;have y1:=S1.out.y.c0;have y2:=S1.out.y.c1;clear b1;have q1:=q0;clear q0)))
  go_ret;exact⟨rfl,S1.out.b⟩
 ·have t1:(lq==0)=false:=beq_eq_false_iff_ne.2 hz;obtain⟨m,rfl⟩:∃m:Nat,lq=(m:Int)+1:=⟨(lq-1).toNat,by omega⟩;have hm9:m≤1328:=by omega
  cases hx:inM X m with
  | false =>
   have HTX:=Hh hx;have hR0:R=0:=by rw[HR.out];exact HOUT.out (by rw[←HLQ.out];have:=mt (zjv X m).2 (by rw[hx];simp);omega)
   rw[hR0];clear hx;go_enter Tryz.func60,Tryz.ntmps60;go_wp2_with (first
   | (have _t:=q0;go_at_call 80;clear _t;(try rw[←HW.out]);go_loud (refine(zcV A c n q _ S0.out.ns HLE.out).mono ?_;rintro e w1 ⟨rfl,b1⟩;rw[←HLQ.out];have S1:=Hh (S0.out.next b1);have a0:=zaa S1.out.bq;have x1:=S1.out.x.c0;have x2:=S1.out.x.c1;have y1:=S1.out.y.c0;have y2:=S1.out.y.c1;clear b1;have q1:=q0;clear q0))
   | (have _t:=q1;go_at_call 84;clear _t;(try rw[←HW.out]);go_loud (refine(zky u.s u.a u.c u.xs m _ S1.out.x.r.us S1.out.x.r.cn lu (by omega)).mono ?_;rintro e w2 ⟨rfl,b2⟩;rw[S1.out.x.r.v,HTX.out];have S2:=Hh (S1.out.next b2);have a0:=zaa S2.out.bq;have x1:=S2.out.x.c0;have x2:=S2.out.x.c1;have y1:=S2.out.y.c0;have y2:=S2.out.y.c1;clear b2;have q2:=q1;clear q1)))
   go_ret;exact⟨rfl,S2.out.b⟩
  | true =>
   have HTX:=Hh hx;cases hy:inM Y m with
   | false =>
    have HTY:=Hh hy;have hR0:R=0:=by rw[HR.out];exact HOUT.out (by rw[←HLQ.out];have:=mt (zjv Y m).2 (by rw[hy];simp);omega)
    rw[hR0];clear hx hy;go_enter Tryz.func60,Tryz.ntmps60;go_wp2_with (first
   | (have _t:=q0;go_at_call 80;clear _t;(try rw[←HW.out]);go_loud (refine(zcV A c n q _ S0.out.ns HLE.out).mono ?_;rintro e w1 ⟨rfl,b1⟩;rw[←HLQ.out];have S1:=Hh (S0.out.next b1);have a0:=zaa S1.out.bq;have x1:=S1.out.x.c0;have x2:=S1.out.x.c1;have y1:=S1.out.y.c0;have y2:=S1.out.y.c1;clear b1;have q1:=q0;clear q0))
   | (have _t:=q1;go_at_call 84;clear _t;(try rw[←HW.out]);go_loud (refine(zky u.s u.a u.c u.xs m _ S1.out.x.r.us S1.out.x.r.cn lu (by omega)).mono ?_;rintro e w2 ⟨rfl,b2⟩;rw[S1.out.x.r.v,HTX.out];have S2:=Hh (S1.out.next b2);have a0:=zaa S2.out.bq;have x1:=S2.out.x.c0;have x2:=S2.out.x.c1;have y1:=S2.out.y.c0;have y2:=S2.out.y.c1;clear b2;have q2:=q1;clear q1))
   | (have _t:=q2;go_at_call 84;clear _t;(try rw[←HW.out]);go_loud (refine(zky v.s v.a v.c v.xs m _ S2.out.y.r.us S2.out.y.r.cn lv (by omega)).mono ?_;rintro e w3 ⟨rfl,b3⟩;rw[S2.out.y.r.v,HTY.out];have S3:=Hh (S2.out.next b3);have a0:=zaa S3.out.bq;have x1:=S3.out.x.c0;have x2:=S3.out.x.c1;have y1:=S3.out.y.c0;have y2:=S3.out.y.c1;clear b3;have q3:=q2;clear q2)))
    go_ret;exact⟨rfl,S3.out.b⟩
   | true =>
    have HTY:=Hh hy;have hXr:=(zkv X m).1 ((zjv X m).1 hx);have hYr:=(zkv Y m).1 ((zjv Y m).1 hy);have ep:=zap m;have HXR:=Hh hXr;have HYR:=Hh hYr;have e2:=zaw (show m+1≤1330 by omega);have e3:=zaz m;have HPM:=Hh (show -p2 1330≤p2 m∧p2 m≤p2 1330 from⟨by omega,by omega⟩);obtain⟨i1,i2⟩:=HIN.out m HLQ.out.symm hXr hYr hm9;have HG0:=Hh (show GetI q R (m+1) (n:Int) (X+p2 m) (Y+p2 m) from⟨by rw[←HLE.out];exact i2,by rw[←HLE.out,HR.out];exact i1.symm,⟨by omega,by omega⟩,⟨by omega,by omega⟩⟩);clear hx hy hXr hYr ep e2 e3 i1 i2;go_enter Tryz.func60,Tryz.ntmps60;go_wp2_with (first
   | (have _t:=q0;go_at_call 80;clear _t;(try rw[←HW.out]);go_loud (refine(zcV A c n q _ S0.out.ns HLE.out).mono ?_;rintro e w1 ⟨rfl,b1⟩;rw[←HLQ.out];have S1:=Hh (S0.out.next b1);have a0:=zaa S1.out.bq;have x1:=S1.out.x.c0;have x2:=S1.out.x.c1;have y1:=S1.out.y.c0;have y2:=S1.out.y.c1;clear b1;have q1:=q0;clear q0))
   | (have _t:=q1;go_at_call 84;clear _t;(try rw[←HW.out]);go_loud (refine(zky u.s u.a u.c u.xs m _ S1.out.x.r.us S1.out.x.r.cn lu (by omega)).mono ?_;rintro e w2 ⟨rfl,b2⟩;rw[S1.out.x.r.v,HTX.out];have S2:=Hh (S1.out.next b2);have a0:=zaa S2.out.bq;have x1:=S2.out.x.c0;have x2:=S2.out.x.c1;have y1:=S2.out.y.c0;have y2:=S2.out.y.c1;clear b2;have q2:=q1;clear q1))
   | (have _t:=q2;go_at_call 84;clear _t;(try rw[←HW.out]);go_loud (refine(zky v.s v.a v.c v.xs m _ S2.out.y.r.us S2.out.y.r.cn lv (by omega)).mono ?_;rintro e w3 ⟨rfl,b3⟩;rw[S2.out.y.r.v,HTY.out];have S3:=Hh (S2.out.next b3);have a0:=zaa S3.out.bq;have x1:=S3.out.x.c0;have x2:=S3.out.x.c1;have y1:=S3.out.y.c0;have y2:=S3.out.y.c1;clear b3;have q3:=q2;clear q2))
   | (have _t:=q3;go_at_call 76;clear _t;(try rw[←HW.out]);go_loud (refine(zbC _ _).mono ?_;rintro e w4 h4;rw[zdE m (by omega)] at h4;obtain⟨h,rfl,k4,b4⟩:=zaj h4;have L4:=Hh (zaX k4 HPM.out.1 HPM.out.2);have hch:=k4.us.cap;have hbl:=(Below.refl w4.heap.size w4).alloc (Nat.le_refl _) (.cells #[.bool h.s,.slice h.a h.xs.length h.c] 69);have S4:=Hh ((S3.out.next (b4.trans (hbl.mono b4.size))));have H4:=Hh (k4.box);have a0:=zaa S4.out.bq;have x1:=S4.out.x.c0;have x2:=S4.out.x.c1;have y1:=S4.out.y.c0;have y2:=S4.out.y.c1;have Z4:=Hh b4.size;have h1:=k4.box.c0;have h2:=k4.box.c1;clear k4 b4 h4 hbl;have q4:=q3;clear q3)))
    have SD:=Hh (S4.out.next (Below.drew' (Below.refl _ _)));have HD:=Hh (H4.out.next (Below.drew' (Below.refl _ _)));obtain⟨gh,hgh⟩:∃g,g=w4.heap.size:=⟨_,rfl⟩;have HGH:=Hh (show w.heap.size+1+1<gh by rw[hgh];have:=S3.out.y.lt;have:=Z4.out;omega);rw[←hgh] at H4 HD h1 h2 ⊢;clear hgh;go_cut [] from 33 to 38 (fun wx=>∃a b:Bw,QG w A c n q a b (X+p2 m) (Y+p2 m) wx)
    case first =>
     refine wp_region_noPanic ?_;refine wp_region_held (S:=fun w'=>w'.cell? ⟨gh,0,none⟩=some (.bool h.s)∧w'.cell? ⟨gh,1,none⟩=some (.slice h.a h.xs.length h.c)) (by kernel_rfl) ?_;obtain⟨W0,hW0⟩:∃W0:World,W0=(w4.alloc (.cells #[.bool h.s,.slice h.a h.xs.length h.c] 69)).drew:=⟨_,rfl⟩;rw[←hW0] at SD HD;change wpAnyH _ _ _ _ _ _ _ _ (w4.alloc (.cells #[.bool h.s,.slice h.a h.xs.length h.c] 69)).drew;rw[←hW0];clear hW0 a0 x1 x2 y1 y2 h1 h2;have hS0:=And.intro HD.out.c0 HD.out.c1;refine Tk1 (v:=?_) 1 hS0 ?_ ?_;rotate_left
     ·rintro w' ⟨s1,s2⟩;go_simp;first|done|with_reducible rfl|rfl
     simp only[Act.put,LA];refine Tk1 (v:=?_) 4 hS0 ?_ ?_;rotate_left
     ·rintro w' ⟨s1,s2⟩;go_simp;first|done|with_reducible rfl|rfl
     simp only[Act.put,LA];refine Rd2 0 3 (fun K hK=>?_) fun K hK=>?_
     ·have g0:=SD.out.x.c0;have g1:=SD.out.x.c1;go_simp;refine hK.out _ _ (And.intro HD.out.c0 HD.out.c1) (fun _=>?_);clear hK K g0 g1;refine Rd2 2 3 (fun K hK=>?_) fun K hK=>?_
      ·go_simp;refine(zaG u.s h.s u.a h.a u.c h.c u.xs h.xs _ SD.out.x.r.us HD.out.r.us (by omega) (by have:=L4.out;omega)).mono ?_;rintro e w6 h6;rw[SD.out.x.r.v,HD.out.r.v] at h6;obtain⟨a,rfl,k6,b6⟩:=zaj h6;dsimp only;have hca:=k6.us.cap;have S6:=Hh (SD.out.next b6);have H6:=Hh (HD.out.next b6);have K6:=Hh k6;refine hK.out _ _ (And.intro H6.out.c0 H6.out.c1) (fun _=>?_);clear hK K k6 b6 h6;refine Rd1 3 fun K hK=>?_;have g0:=S6.out.y.c0;have g1:=S6.out.y.c1;go_simp;refine hK.out _ _ (And.intro H6.out.c0 H6.out.c1) (fun _=>?_);clear hK K g0 g1;refine Rd1 5 fun K hK=>?_;go_simp;refine(zaG v.s h.s v.a h.a v.c h.c v.xs h.xs _ S6.out.y.r.us H6.out.r.us (by omega) (by have:=L4.out;omega)).mono ?_;rintro e w7 h7;rw[S6.out.y.r.v,H6.out.r.v] at h7;obtain⟨b,rfl,k7,b7⟩:=zaj h7;dsimp only;have hcb:=k7.us.cap;have S7:=Hh (S6.out.next b7);have H7:=Hh (H6.out.next b7);have KA:=Hh (K6.out.next b7);have KB:=Hh k7;refine hK.out _ _ (And.intro H7.out.c0 H7.out.c1) (fun _=>?_);clear hK K k7 b7 h7;refine Rd1 6 fun K hK=>?_;have g0:=S7.out.x.c0;have g1:=S7.out.x.c1;have z0:=S7.out.x.free 0;have z1:=S7.out.x.free 1;go_simp;have H8:=Hh (H7.out.other S7.out.x.box (by have:=HGH.out;omega) a);refine hK.out _ _ (And.intro H8.out.c0 H8.out.c1) (fun _=>?_);clear hK K g0 g1 z0 z1;refine Rd1 7 fun K hK=>?_;have e1:w.heap.size+1+1≠w.heap.size+1:=by omega
       have Y8:=Hh (S7.out.y.other S7.out.x.box e1 a);have g0:=Y8.out.c0;have g1:=Y8.out.c1;have z0:=Y8.out.free 0;have z1:=Y8.out.free 1;go_simp;have H9:=Hh (H8.out.other Y8.out.box (by have:=HGH.out;omega) b);refine hK.out _ _ (And.intro H9.out.c0 H9.out.c1) (fun _=>?_);clear hK K g0 g1 z0 z1;refine wpAnyH_done (by kernel_rfl) ?_ _;refine NoPanic.normal ?_;go_wp2_with fail;go_meet;exact⟨a,b,S7.out.set HLE.out KA.out KB.out⟩
      ·have g0:=SD.out.y.c0;have g1:=SD.out.y.c1;go_simp;refine hK.out _ _ (And.intro HD.out.c0 HD.out.c1) (fun _=>?_);clear hK K g0 g1;refine Rd1 2 fun K hK=>?_;go_simp;refine(zaG u.s h.s u.a h.a u.c h.c u.xs h.xs _ SD.out.x.r.us HD.out.r.us (by omega) (by have:=L4.out;omega)).mono ?_;rintro e w6 h6;rw[SD.out.x.r.v,HD.out.r.v] at h6;obtain⟨a,rfl,k6,b6⟩:=zaj h6;dsimp only;have hca:=k6.us.cap;have S6:=Hh (SD.out.next b6);have H6:=Hh (HD.out.next b6);have K6:=Hh k6;refine hK.out _ _ (And.intro H6.out.c0 H6.out.c1) (fun _=>?_);clear hK K k6 b6 h6;refine Rd1 5 fun K hK=>?_;go_simp;refine(zaG v.s h.s v.a h.a v.c h.c v.xs h.xs _ S6.out.y.r.us H6.out.r.us (by omega) (by have:=L4.out;omega)).mono ?_;rintro e w7 h7;rw[S6.out.y.r.v,H6.out.r.v] at h7;obtain⟨b,rfl,k7,b7⟩:=zaj h7;dsimp only;have hcb:=k7.us.cap;have S7:=Hh (S6.out.next b7);have H7:=Hh (H6.out.next b7);have KA:=Hh (K6.out.next b7);have KB:=Hh k7;refine hK.out _ _ (And.intro H7.out.c0 H7.out.c1) (fun _=>?_);clear hK K k7 b7 h7;refine Rd1 6 fun K hK=>?_;have g0:=S7.out.x.c0;have g1:=S7.out.x.c1;have z0:=S7.out.x.free 0;have z1:=S7.out.x.free 1;go_simp;have H8:=Hh (H7.out.other S7.out.x.box (by have:=HGH.out;omega) a);refine hK.out _ _ (And.intro H8.out.c0 H8.out.c1) (fun _=>?_);clear hK K g0 g1 z0 z1;refine Rd1 7 fun K hK=>?_;have e1:w.heap.size+1+1≠w.heap.size+1:=by omega
       have Y8:=Hh (S7.out.y.other S7.out.x.box e1 a);have g0:=Y8.out.c0;have g1:=Y8.out.c1;have z0:=Y8.out.free 0;have z1:=Y8.out.free 1;go_simp;have H9:=Hh (H8.out.other Y8.out.box (by have:=HGH.out;omega) b);refine hK.out _ _ (And.intro H9.out.c0 H9.out.c1) (fun _=>?_);clear hK K g0 g1 z0 z1;refine wpAnyH_done (by kernel_rfl) ?_ _;refine NoPanic.normal ?_;go_wp2_with fail;go_meet;exact⟨a,b,S7.out.set HLE.out KA.out KB.out⟩
     ·have g0:=SD.out.y.c0;have g1:=SD.out.y.c1;go_simp;refine hK.out _ _ (And.intro HD.out.c0 HD.out.c1) (fun _=>?_);clear hK K g0 g1;refine Rd1 0 fun K hK=>?_;have g0:=SD.out.x.c0;have g1:=SD.out.x.c1;go_simp;refine hK.out _ _ (And.intro HD.out.c0 HD.out.c1) (fun _=>?_);clear hK K g0 g1;refine Rd1 2 fun K hK=>?_;go_simp;refine(zaG u.s h.s u.a h.a u.c h.c u.xs h.xs _ SD.out.x.r.us HD.out.r.us (by omega) (by have:=L4.out;omega)).mono ?_;rintro e w6 h6;rw[SD.out.x.r.v,HD.out.r.v] at h6;obtain⟨a,rfl,k6,b6⟩:=zaj h6;dsimp only;have hca:=k6.us.cap;have S6:=Hh (SD.out.next b6);have H6:=Hh (HD.out.next b6);have K6:=Hh k6;refine hK.out _ _ (And.intro H6.out.c0 H6.out.c1) (fun _=>?_);clear hK K k6 b6 h6;refine Rd1 5 fun K hK=>?_;go_simp;refine(zaG v.s h.s v.a h.a v.c h.c v.xs h.xs _ S6.out.y.r.us H6.out.r.us (by omega) (by have:=L4.out;omega)).mono ?_;rintro e w7 h7;rw[S6.out.y.r.v,H6.out.r.v] at h7;obtain⟨b,rfl,k7,b7⟩:=zaj h7;dsimp only;have hcb:=k7.us.cap;have S7:=Hh (S6.out.next b7);have H7:=Hh (H6.out.next b7);have KA:=Hh (K6.out.next b7);have KB:=Hh k7;refine hK.out _ _ (And.intro H7.out.c0 H7.out.c1) (fun _=>?_);clear hK K k7 b7 h7;refine Rd1 6 fun K hK=>?_;have g0:=S7.out.x.c0;have g1:=S7.out.x.c1;have z0:=S7.out.x.free 0;have z1:=S7.out.x.free 1;go_simp;have H8:=Hh (H7.out.other S7.out.x.box (by have:=HGH.out;omega) a);refine hK.out _ _ (And.intro H8.out.c0 H8.out.c1) (fun _=>?_);clear hK K g0 g1 z0 z1;refine Rd1 7 fun K hK=>?_;have e1:w.heap.size+1+1≠w.heap.size+1:=by omega
      have Y8:=Hh (S7.out.y.other S7.out.x.box e1 a);have g0:=Y8.out.c0;have g1:=Y8.out.c1;have z0:=Y8.out.free 0;have z1:=Y8.out.free 1;go_simp;have H9:=Hh (H8.out.other Y8.out.box (by have:=HGH.out;omega) b);refine hK.out _ _ (And.intro H9.out.c0 H9.out.c1) (fun _=>?_);clear hK K g0 g1 z0 z1;refine wpAnyH_done (by kernel_rfl) ?_ _;refine NoPanic.normal ?_;go_wp2_with fail;go_meet;exact⟨a,b,S7.out.set HLE.out KA.out KB.out⟩
    case rest =>
     obtain⟨a,b,hs5⟩:=hcut;have S5:=Hh hs5;have g0:=zaa hs5.bq;clear hs5 a0 x1 x2 y1 y2 h1 h2;go_wp2_with fail;go_loopw [9,10,11,12,13] (fun z1 z2 z3 z4 z5 wr=>∃(j:Nat) (k X' Y':Int) (a b:Bw) (u2 u3 u4 u5:Value),z1=.int .i64 k∧z2=u2∧z3=u3∧z4=u4∧z5=u5∧j≤1328∧QG w A c n q a b X' Y' wr∧GetI q R (j+1) k X' Y') (fun z1 _ _ _ _ _=>(intOf z1).toNat)
     case atStart=>exact⟨m,_,_,_,a,b,_,_,_,_,rfl,rfl,rfl,rfl,rfl,hm9,S5.out,HG0.out⟩
     case round =>
      obtain⟨j,k,X',Y',a,b,u2,u3,u4,u5,rfl,rfl,rfl,rfl,rfl,hj,hs6,hgi⟩:=hrel;have S6:=Hh hs6;have GI:=Hh hgi;rcases hgi.some with rfl|⟨p,rfl,hp,hpl⟩
      ·have hR0:=hgi.none;subst hR0;have t3:decide ((0:Int)>0)=false:=rfl;clear hs6 hgi;go_wp2_with fail;go_ret;exact⟨rfl,S6.out.b⟩
      ·have hpn:p<n:=by have:=HLE.out;omega
       have t3:decide ((p:Int)+1>0)=true:=decide_eq_true (by omega);have t4:decide ((0:Int)<(p:Int)+1)=true:=t3;have hst:=hgi.step HQ.out hj;have HST:=Hh hst;have hnx:=ztE HQ.out hp (i:=qtI (p2 j) X' Y') (zqF _ _ _);obtain⟨k4,hk4⟩:∃k4,k4=qtI (p2 j) X' Y':=⟨_,rfl⟩;have hk44:k4<4:=by rw[hk4];exact zqF _ _ _
       rw[←hk4] at HST hnx;have HK4:=Hh hk4;obtain⟨bb,off,rfl,hbl,hcl⟩:=hs6.ns.at_ (by have:=HLE.out;omega)
       have c1:=(hcl p hp).1;rw[hpl] at c1;have hkc:=(hcl p hp).kid hk44;have HPL:=Hh hpl;have HP:=Hh hp;have HNX:=Hh hnx;have i1:(0:Int)≤(p:Int):=by omega
       have i2:(p:Int)<(n:Int):=by omega
       have i3:IntKind.i64.wrap ((p:Int)+1-1)=(p:Int):=by rw[show(p:Int)+1-1=(p:Int) by omega];exact IntWalk.i64_in _ (by omega)
       have i7:IntKind.i64.wrap (p:Int)=(p:Int):=IntWalk.i64_in _ (by omega);have SD:=Hh (hs6.next (Below.drew' (Below.refl _ _)));have a0:=zaa hs6.bq;have x1:=hs6.x.c0;have x2:=hs6.x.c1;have y1:=hs6.y.c0;have y2:=hs6.y.c1;have hac:=hs6.x.r.us.cap;have hbc:=hs6.y.r.us.cap;clear hst hnx hk4 hcl hs6 hgi hpl hp;go_upto_region 8 with(fail)
       go_cut [10,11,12] from 42 to 79 (fun z1 z2 z3 wx=>∃(a2 b2:Bw) (g1 g2:Nat),z1=.int .i64 (k4:Int)∧z2=.pointer (some ⟨g1,0,none⟩)∧z3=.pointer (some ⟨g2,0,none⟩)∧QG w (some ⟨bb,off,none⟩) c n q a b X' Y' wx∧a2.B wx g1 (subI (p2 j) X')∧b2.B wx g2 (subI (p2 j) Y')∧w.heap.size+1+1<g1∧w.heap.size+1+1<g2)
       case first =>
        refine wp_region_noPanic ?_;refine wp_region_held (S:=fun w'=>w'.cell? ⟨w.heap.size,0,none⟩=some (.slice (some ⟨bb,off,none⟩) n c)∧w'.cell? ⟨bb,off+p*5,none⟩=some (.int .i64 ((j:Int)+1))∧w'.cell? ⟨w.heap.size+1,0,none⟩=some (.bool a.s)∧w'.cell? ⟨w.heap.size+1,1,none⟩=some (.slice a.a a.xs.length a.c)∧w'.cell? ⟨w.heap.size+1+1,0,none⟩=some (.bool b.s)∧w'.cell? ⟨w.heap.size+1+1,1,none⟩=some (.slice b.a b.xs.length b.c)) (by kernel_rfl) ?_;obtain⟨W0,hW0⟩:∃W0:World,W0=wr.drew:=⟨_,rfl⟩;rw[←hW0] at SD;change wpAnyH _ _ _ _ _ _ _ _ wr.drew;rw[←hW0];clear hW0 a0 x1 x2 y1 y2 c1 hkc;have T0:=SD;have hS0:=T0.out.cells HP.out HPL.out;refine Tk1 (v:=?_) 0 hS0 ?_ ?_;rotate_left
        ·rintro w' ⟨s1,s2,s3,s4,s5,s6⟩;go_simp;first|done|with_reducible rfl|rfl
        simp only[Act.put,LA];refine Tk1 (v:=?_) 1 hS0 ?_ ?_;rotate_left
        ·rintro w' ⟨s1,s2,s3,s4,s5,s6⟩;go_simp;first|done|with_reducible rfl|rfl
        simp only[Act.put,LA];refine Tk1 (v:=?_) 2 hS0 ?_ ?_;rotate_left
        ·rintro w' ⟨s1,s2,s3,s4,s5,s6⟩;go_simp;first|done|with_reducible rfl|rfl
        simp only[Act.put,LA];refine Tk1 (v:=?_) 3 hS0 ?_ ?_;rotate_left
        ·rintro w' ⟨s1,s2,s3,s4,s5,s6⟩;go_simp;first|done|with_reducible rfl|rfl
        simp only[Act.put,LA];refine Tk1 (v:=?_) 4 hS0 ?_ ?_;rotate_left
        ·rintro w' ⟨s1,s2,s3,s4,s5,s6⟩;go_simp;first|done|with_reducible rfl|rfl
        simp only[Act.put,LA];refine Tk1 (v:=?_) 5 hS0 ?_ ?_;rotate_left
        ·rintro w' ⟨s1,s2,s3,s4,s5,s6⟩;go_simp;first|done|with_reducible rfl|rfl
        simp only[Act.put,LA];refine Tk1 (v:=?_) 6 hS0 ?_ ?_;rotate_left
        ·rintro w' ⟨s1,s2,s3,s4,s5,s6⟩;go_simp;first|done|with_reducible rfl|rfl
        simp only[Act.put,LA];refine Tk1 (v:=?_) 7 hS0 ?_ ?_;rotate_left
        ·rintro w' ⟨s1,s2,s3,s4,s5,s6⟩;go_simp;first|done|with_reducible rfl|rfl
        simp only[Act.put,LA];refine Tk1 (v:=?_) 8 hS0 ?_ ?_;rotate_left
        ·rintro w' ⟨s1,s2,s3,s4,s5,s6⟩;go_simp;first|done|with_reducible rfl|rfl
        simp only[Act.put,LA];refine wpAnyH_ready (rs:=[9,14,15]) (by kernel_rfl) (by simp) (AllReadyH.cons rfl (fun K hK=>?_) (AllReadyH.cons rfl (fun K hK=>?_) (AllReadyH.cons rfl (fun K hK=>?_) AllReadyH.nil)))
        ·go_simp;refine(zcv a b X' Y' j _ T0.out.x.r T0.out.y.r (zeq GI.out.rx (by omega)) (zeq GI.out.ry (by omega)) (by omega)).mono ?_;rintro e W1 ⟨a2,b2,rfl,ka,kb,b6⟩;rw[←HK4.out];dsimp only;have T1:=Hh (T0.out.next b6);have KA1:=Hh ka;have KB1:=Hh kb;have hc2:=ka.us.cap;have hc3:=kb.us.cap;refine hK.out _ _ (T1.out.cells HP.out HPL.out) (fun hS1=>?_);clear hK K ka kb b6;refine Tk1 (v:=?_) 10 hS1 ?_ ?_;rotate_left
         ·rintro w' ⟨s1,s2,s3,s4,s5,s6⟩;go_simp;first|done|with_reducible rfl|rfl
         simp only[Act.put,LA];refine Tk1 (v:=?_) 11 hS1 ?_ ?_;rotate_left
         ·rintro w' ⟨s1,s2,s3,s4,s5,s6⟩;go_simp;first|done|with_reducible rfl|rfl
         simp only[Act.put,LA];refine Tk1 (v:=?_) 12 hS1 ?_ ?_;rotate_left
         ·rintro w' ⟨s1,s2,s3,s4,s5,s6⟩;go_simp;first|done|with_reducible rfl|rfl
         simp only[Act.put,LA];refine Tk1 (v:=?_) 13 hS1 ?_ ?_;rotate_left
         ·rintro w' ⟨s1,s2,s3,s4,s5,s6⟩;go_simp;first|done|with_reducible rfl|rfl
         simp only[Act.put,LA];refine Rd2 14 15 (fun K hK=>?_) fun K hK=>?_
         ·go_simp;obtain⟨g1,hg⟩:∃g,g=W1.heap.size:=⟨_,rfl⟩;obtain⟨W2,hW⟩:∃Z:World,Z=W1.alloc (.cells #[.bool false,.slice none 0 0] 69):=⟨_,rfl⟩;have hbl:=(Below.refl W1.heap.size W1).alloc (Nat.le_refl _) (.cells #[.bool false,.slice none 0 0] 69);rw[←hW] at hbl;have T2:=Hh (T1.out.next hbl);have RA2:=Hh (show W2.heap[g1]?=some bw0.obj by rw[hW,hg];exact heap_alloc_new W1 _);have GA:=Hh (show w.heap.size+1+1<g1 by rw[hg];exact T1.out.y.lt);have KA2:=Hh (KA1.out.next hbl);have KB2:=Hh (KB1.out.next hbl);rw[←hg,←hW];refine hK.out _ _ (T2.out.cells HP.out HPL.out) (fun _=>?_);clear hK K hg hW hbl;refine Rd1 15 fun K hK=>?_;go_simp;obtain⟨g2,hg⟩:∃g,g=W2.heap.size:=⟨_,rfl⟩;obtain⟨W3,hW⟩:∃Z:World,Z=W2.alloc (.cells #[.bool false,.slice none 0 0] 69):=⟨_,rfl⟩;have hbl:=(Below.refl W2.heap.size W2).alloc (Nat.le_refl _) (.cells #[.bool false,.slice none 0 0] 69);rw[←hW] at hbl;have T3:=Hh (T2.out.next hbl);have RB3:=Hh (show W3.heap[g2]?=some bw0.obj by rw[hW,hg];exact heap_alloc_new W2 _);have GB:=Hh (show w.heap.size+1+1<g2 by rw[hg];exact T2.out.y.lt);have RA3:=Hh ((hbl.block g1 (zab RA2.out)).trans RA2.out);have GN:=Hh (show g1≠g2 by have:=zab RA2.out;omega);have KA3:=Hh (KA2.out.next hbl);have KB3:=Hh (KB2.out.next hbl);rw[←hg,←hW];refine hK.out _ _ (T3.out.cells HP.out HPL.out) (fun _=>?_);clear hK K hg hW hbl;refine Tk1 (v:=?_) 16 (T3.out.cells HP.out HPL.out) ?_ ?_;rotate_left
          ·rintro w' ⟨s1,s2,s3,s4,s5,s6⟩;go_simp;first|done|with_reducible rfl|rfl
          simp only[Act.put,LA];refine Rd1 17 fun K hK=>?_;obtain⟨g0_,g1_⟩:=zak RA3.out;have z0:=frozen_of_row _ _ 0 _ _ RA3.out;have z1:=frozen_of_row _ _ 1 _ _ RA3.out;go_simp;have TA:=Hh (T3.out.other HLE.out RA3.out GA.out a2);have A8:=Hh (KA3.out.set RA3.out);have B8:=Hh (KB3.out.stored RA3.out a2);have RB8:=Hh (((Below.heap_setCell _ ⟨g1,1,none⟩ (.slice a2.a a2.xs.length a2.c) g2 (fun e=>GN.out e.symm)).trans (Below.heap_setCell _ ⟨g1,0,none⟩ (.bool a2.s) g2 (fun e=>GN.out e.symm))).trans RB3.out);refine hK.out _ _ (TA.out.cells HP.out HPL.out) (fun _=>?_);clear hK K g0_ g1_ z0 z1;refine Rd1 18 fun K hK=>?_;obtain⟨g0_,g1_⟩:=zak RB8.out;have z0:=frozen_of_row _ _ 0 _ _ RB8.out;have z1:=frozen_of_row _ _ 1 _ _ RB8.out;go_simp;have TB:=Hh (TA.out.other HLE.out RB8.out GB.out b2);have A9:=Hh (A8.out.other RB8.out GN.out b2);have B9:=Hh (B8.out.set RB8.out);refine hK.out _ _ (TB.out.cells HP.out HPL.out) (fun _=>?_);clear hK K g0_ g1_ z0 z1;refine wpAnyH_done (by kernel_rfl) ?_ _;refine NoPanic.normal ?_;go_wp2_with fail;go_meet;exact⟨a2,b2,g1,g2,rfl,rfl,rfl,TB.out,A9.out,B9.out,GA.out,GB.out⟩
         ·go_simp;obtain⟨g2,hg⟩:∃g,g=W1.heap.size:=⟨_,rfl⟩;obtain⟨W2,hW⟩:∃Z:World,Z=W1.alloc (.cells #[.bool false,.slice none 0 0] 69):=⟨_,rfl⟩;have hbl:=(Below.refl W1.heap.size W1).alloc (Nat.le_refl _) (.cells #[.bool false,.slice none 0 0] 69);rw[←hW] at hbl;have T2:=Hh (T1.out.next hbl);have RB2:=Hh (show W2.heap[g2]?=some bw0.obj by rw[hW,hg];exact heap_alloc_new W1 _);have GB:=Hh (show w.heap.size+1+1<g2 by rw[hg];exact T1.out.y.lt);have KA2:=Hh (KA1.out.next hbl);have KB2:=Hh (KB1.out.next hbl);rw[←hg,←hW];refine hK.out _ _ (T2.out.cells HP.out HPL.out) (fun _=>?_);clear hK K hg hW hbl;refine Rd1 14 fun K hK=>?_;go_simp;obtain⟨g1,hg⟩:∃g,g=W2.heap.size:=⟨_,rfl⟩;obtain⟨W3,hW⟩:∃Z:World,Z=W2.alloc (.cells #[.bool false,.slice none 0 0] 69):=⟨_,rfl⟩;have hbl:=(Below.refl W2.heap.size W2).alloc (Nat.le_refl _) (.cells #[.bool false,.slice none 0 0] 69);rw[←hW] at hbl;have T3:=Hh (T2.out.next hbl);have RA3:=Hh (show W3.heap[g1]?=some bw0.obj by rw[hW,hg];exact heap_alloc_new W2 _);have GA:=Hh (show w.heap.size+1+1<g1 by rw[hg];exact T2.out.y.lt);have RB3:=Hh ((hbl.block g2 (zab RB2.out)).trans RB2.out);have GN:=Hh (show g1≠g2 by have:=zab RB2.out;omega);have KA3:=Hh (KA2.out.next hbl);have KB3:=Hh (KB2.out.next hbl);rw[←hg,←hW];refine hK.out _ _ (T3.out.cells HP.out HPL.out) (fun _=>?_);clear hK K hg hW hbl;refine Tk1 (v:=?_) 16 (T3.out.cells HP.out HPL.out) ?_ ?_;rotate_left
          ·rintro w' ⟨s1,s2,s3,s4,s5,s6⟩;go_simp;first|done|with_reducible rfl|rfl
          simp only[Act.put,LA];refine Rd1 17 fun K hK=>?_;obtain⟨g0_,g1_⟩:=zak RA3.out;have z0:=frozen_of_row _ _ 0 _ _ RA3.out;have z1:=frozen_of_row _ _ 1 _ _ RA3.out;go_simp;have TA:=Hh (T3.out.other HLE.out RA3.out GA.out a2);have A8:=Hh (KA3.out.set RA3.out);have B8:=Hh (KB3.out.stored RA3.out a2);have RB8:=Hh (((Below.heap_setCell _ ⟨g1,1,none⟩ (.slice a2.a a2.xs.length a2.c) g2 (fun e=>GN.out e.symm)).trans (Below.heap_setCell _ ⟨g1,0,none⟩ (.bool a2.s) g2 (fun e=>GN.out e.symm))).trans RB3.out);refine hK.out _ _ (TA.out.cells HP.out HPL.out) (fun _=>?_);clear hK K g0_ g1_ z0 z1;refine Rd1 18 fun K hK=>?_;obtain⟨g0_,g1_⟩:=zak RB8.out;have z0:=frozen_of_row _ _ 0 _ _ RB8.out;have z1:=frozen_of_row _ _ 1 _ _ RB8.out;go_simp;have TB:=Hh (TA.out.other HLE.out RB8.out GB.out b2);have A9:=Hh (A8.out.other RB8.out GN.out b2);have B9:=Hh (B8.out.set RB8.out);refine hK.out _ _ (TB.out.cells HP.out HPL.out) (fun _=>?_);clear hK K g0_ g1_ z0 z1;refine wpAnyH_done (by kernel_rfl) ?_ _;refine NoPanic.normal ?_;go_wp2_with fail;go_meet;exact⟨a2,b2,g1,g2,rfl,rfl,rfl,TB.out,A9.out,B9.out,GA.out,GB.out⟩
        ·go_simp;obtain⟨g1,hg⟩:∃g,g=W0.heap.size:=⟨_,rfl⟩;obtain⟨W1,hW⟩:∃Z:World,Z=W0.alloc (.cells #[.bool false,.slice none 0 0] 69):=⟨_,rfl⟩;have hbl:=(Below.refl W0.heap.size W0).alloc (Nat.le_refl _) (.cells #[.bool false,.slice none 0 0] 69);rw[←hW] at hbl;have T1:=Hh (T0.out.next hbl);have RA1:=Hh (show W1.heap[g1]?=some bw0.obj by rw[hW,hg];exact heap_alloc_new W0 _);have GA:=Hh (show w.heap.size+1+1<g1 by rw[hg];exact T0.out.y.lt);rw[←hg,←hW];refine hK.out _ _ (T1.out.cells HP.out HPL.out) (fun _=>?_);clear hK K hg hW hbl;refine Rd2 9 15 (fun K hK=>?_) fun K hK=>?_
         ·go_simp;refine(zcv a b X' Y' j _ T1.out.x.r T1.out.y.r (zeq GI.out.rx (by omega)) (zeq GI.out.ry (by omega)) (by omega)).mono ?_;rintro e W2 ⟨a2,b2,rfl,ka,kb,b6⟩;rw[←HK4.out];dsimp only;have T2:=Hh (T1.out.next b6);have KA2:=Hh ka;have KB2:=Hh kb;have hc2:=ka.us.cap;have hc3:=kb.us.cap;have RA2:=Hh ((b6.block g1 (zab RA1.out)).trans RA1.out);refine hK.out _ _ (T2.out.cells HP.out HPL.out) (fun hS2=>?_);clear hK K ka kb b6;refine Tk1 (v:=?_) 10 hS2 ?_ ?_;rotate_left
          ·rintro w' ⟨s1,s2,s3,s4,s5,s6⟩;go_simp;first|done|with_reducible rfl|rfl
          simp only[Act.put,LA];refine Tk1 (v:=?_) 11 hS2 ?_ ?_;rotate_left
          ·rintro w' ⟨s1,s2,s3,s4,s5,s6⟩;go_simp;first|done|with_reducible rfl|rfl
          simp only[Act.put,LA];refine Tk1 (v:=?_) 12 hS2 ?_ ?_;rotate_left
          ·rintro w' ⟨s1,s2,s3,s4,s5,s6⟩;go_simp;first|done|with_reducible rfl|rfl
          simp only[Act.put,LA];refine Tk1 (v:=?_) 13 hS2 ?_ ?_;rotate_left
          ·rintro w' ⟨s1,s2,s3,s4,s5,s6⟩;go_simp;first|done|with_reducible rfl|rfl
          simp only[Act.put,LA];refine Rd1 15 fun K hK=>?_;go_simp;obtain⟨g2,hg⟩:∃g,g=W2.heap.size:=⟨_,rfl⟩;obtain⟨W3,hW⟩:∃Z:World,Z=W2.alloc (.cells #[.bool false,.slice none 0 0] 69):=⟨_,rfl⟩;have hbl:=(Below.refl W2.heap.size W2).alloc (Nat.le_refl _) (.cells #[.bool false,.slice none 0 0] 69);rw[←hW] at hbl;have T3:=Hh (T2.out.next hbl);have RB3:=Hh (show W3.heap[g2]?=some bw0.obj by rw[hW,hg];exact heap_alloc_new W2 _);have GB:=Hh (show w.heap.size+1+1<g2 by rw[hg];exact T2.out.y.lt);have RA3:=Hh ((hbl.block g1 (zab RA2.out)).trans RA2.out);have GN:=Hh (show g1≠g2 by have:=zab RA2.out;omega);have KA3:=Hh (KA2.out.next hbl);have KB3:=Hh (KB2.out.next hbl);rw[←hg,←hW];refine hK.out _ _ (T3.out.cells HP.out HPL.out) (fun _=>?_);clear hK K hg hW hbl;refine Tk1 (v:=?_) 16 (T3.out.cells HP.out HPL.out) ?_ ?_;rotate_left
          ·rintro w' ⟨s1,s2,s3,s4,s5,s6⟩;go_simp;first|done|with_reducible rfl|rfl
          simp only[Act.put,LA];refine Rd1 17 fun K hK=>?_;obtain⟨g0_,g1_⟩:=zak RA3.out;have z0:=frozen_of_row _ _ 0 _ _ RA3.out;have z1:=frozen_of_row _ _ 1 _ _ RA3.out;go_simp;have TA:=Hh (T3.out.other HLE.out RA3.out GA.out a2);have A8:=Hh (KA3.out.set RA3.out);have B8:=Hh (KB3.out.stored RA3.out a2);have RB8:=Hh (((Below.heap_setCell _ ⟨g1,1,none⟩ (.slice a2.a a2.xs.length a2.c) g2 (fun e=>GN.out e.symm)).trans (Below.heap_setCell _ ⟨g1,0,none⟩ (.bool a2.s) g2 (fun e=>GN.out e.symm))).trans RB3.out);refine hK.out _ _ (TA.out.cells HP.out HPL.out) (fun _=>?_);clear hK K g0_ g1_ z0 z1;refine Rd1 18 fun K hK=>?_;obtain⟨g0_,g1_⟩:=zak RB8.out;have z0:=frozen_of_row _ _ 0 _ _ RB8.out;have z1:=frozen_of_row _ _ 1 _ _ RB8.out;go_simp;have TB:=Hh (TA.out.other HLE.out RB8.out GB.out b2);have A9:=Hh (A8.out.other RB8.out GN.out b2);have B9:=Hh (B8.out.set RB8.out);refine hK.out _ _ (TB.out.cells HP.out HPL.out) (fun _=>?_);clear hK K g0_ g1_ z0 z1;refine wpAnyH_done (by kernel_rfl) ?_ _;refine NoPanic.normal ?_;go_wp2_with fail;go_meet;exact⟨a2,b2,g1,g2,rfl,rfl,rfl,TB.out,A9.out,B9.out,GA.out,GB.out⟩
         ·go_simp;obtain⟨g2,hg⟩:∃g,g=W1.heap.size:=⟨_,rfl⟩;obtain⟨W2,hW⟩:∃Z:World,Z=W1.alloc (.cells #[.bool false,.slice none 0 0] 69):=⟨_,rfl⟩;have hbl:=(Below.refl W1.heap.size W1).alloc (Nat.le_refl _) (.cells #[.bool false,.slice none 0 0] 69);rw[←hW] at hbl;have T2:=Hh (T1.out.next hbl);have RB2:=Hh (show W2.heap[g2]?=some bw0.obj by rw[hW,hg];exact heap_alloc_new W1 _);have GB:=Hh (show w.heap.size+1+1<g2 by rw[hg];exact T1.out.y.lt);have RA2:=Hh ((hbl.block g1 (zab RA1.out)).trans RA1.out);have GN:=Hh (show g1≠g2 by have:=zab RA1.out;omega);rw[←hg,←hW];refine hK.out _ _ (T2.out.cells HP.out HPL.out) (fun _=>?_);clear hK K hg hW hbl;refine Rd1 9 fun K hK=>?_;go_simp;refine(zcv a b X' Y' j _ T2.out.x.r T2.out.y.r (zeq GI.out.rx (by omega)) (zeq GI.out.ry (by omega)) (by omega)).mono ?_;rintro e W3 ⟨a2,b2,rfl,ka,kb,b6⟩;rw[←HK4.out];dsimp only;have T3:=Hh (T2.out.next b6);have KA3:=Hh ka;have KB3:=Hh kb;have hc2:=ka.us.cap;have hc3:=kb.us.cap;have RA3:=Hh ((b6.block g1 (zab RA2.out)).trans RA2.out);have RB3:=Hh ((b6.block g2 (zab RB2.out)).trans RB2.out);refine hK.out _ _ (T3.out.cells HP.out HPL.out) (fun hS3=>?_);clear hK K ka kb b6;refine Tk1 (v:=?_) 10 hS3 ?_ ?_;rotate_left
          ·rintro w' ⟨s1,s2,s3,s4,s5,s6⟩;go_simp;first|done|with_reducible rfl|rfl
          simp only[Act.put,LA];refine Tk1 (v:=?_) 11 hS3 ?_ ?_;rotate_left
          ·rintro w' ⟨s1,s2,s3,s4,s5,s6⟩;go_simp;first|done|with_reducible rfl|rfl
          simp only[Act.put,LA];refine Tk1 (v:=?_) 12 hS3 ?_ ?_;rotate_left
          ·rintro w' ⟨s1,s2,s3,s4,s5,s6⟩;go_simp;first|done|with_reducible rfl|rfl
          simp only[Act.put,LA];refine Tk1 (v:=?_) 13 hS3 ?_ ?_;rotate_left
          ·rintro w' ⟨s1,s2,s3,s4,s5,s6⟩;go_simp;first|done|with_reducible rfl|rfl
          simp only[Act.put,LA];refine Tk1 (v:=?_) 16 (T3.out.cells HP.out HPL.out) ?_ ?_;rotate_left
          ·rintro w' ⟨s1,s2,s3,s4,s5,s6⟩;go_simp;first|done|with_reducible rfl|rfl
          simp only[Act.put,LA];refine Rd1 17 fun K hK=>?_;obtain⟨g0_,g1_⟩:=zak RA3.out;have z0:=frozen_of_row _ _ 0 _ _ RA3.out;have z1:=frozen_of_row _ _ 1 _ _ RA3.out;go_simp;have TA:=Hh (T3.out.other HLE.out RA3.out GA.out a2);have A8:=Hh (KA3.out.set RA3.out);have B8:=Hh (KB3.out.stored RA3.out a2);have RB8:=Hh (((Below.heap_setCell _ ⟨g1,1,none⟩ (.slice a2.a a2.xs.length a2.c) g2 (fun e=>GN.out e.symm)).trans (Below.heap_setCell _ ⟨g1,0,none⟩ (.bool a2.s) g2 (fun e=>GN.out e.symm))).trans RB3.out);refine hK.out _ _ (TA.out.cells HP.out HPL.out) (fun _=>?_);clear hK K g0_ g1_ z0 z1;refine Rd1 18 fun K hK=>?_;obtain⟨g0_,g1_⟩:=zak RB8.out;have z0:=frozen_of_row _ _ 0 _ _ RB8.out;have z1:=frozen_of_row _ _ 1 _ _ RB8.out;go_simp;have TB:=Hh (TA.out.other HLE.out RB8.out GB.out b2);have A9:=Hh (A8.out.other RB8.out GN.out b2);have B9:=Hh (B8.out.set RB8.out);refine hK.out _ _ (TB.out.cells HP.out HPL.out) (fun _=>?_);clear hK K g0_ g1_ z0 z1;refine wpAnyH_done (by kernel_rfl) ?_ _;refine NoPanic.normal ?_;go_wp2_with fail;go_meet;exact⟨a2,b2,g1,g2,rfl,rfl,rfl,TB.out,A9.out,B9.out,GA.out,GB.out⟩
        ·go_simp;obtain⟨g2,hg⟩:∃g,g=W0.heap.size:=⟨_,rfl⟩;obtain⟨W1,hW⟩:∃Z:World,Z=W0.alloc (.cells #[.bool false,.slice none 0 0] 69):=⟨_,rfl⟩;have hbl:=(Below.refl W0.heap.size W0).alloc (Nat.le_refl _) (.cells #[.bool false,.slice none 0 0] 69);rw[←hW] at hbl;have T1:=Hh (T0.out.next hbl);have RB1:=Hh (show W1.heap[g2]?=some bw0.obj by rw[hW,hg];exact heap_alloc_new W0 _);have GB:=Hh (show w.heap.size+1+1<g2 by rw[hg];exact T0.out.y.lt);rw[←hg,←hW];refine hK.out _ _ (T1.out.cells HP.out HPL.out) (fun _=>?_);clear hK K hg hW hbl;refine Rd2 9 14 (fun K hK=>?_) fun K hK=>?_
         ·go_simp;refine(zcv a b X' Y' j _ T1.out.x.r T1.out.y.r (zeq GI.out.rx (by omega)) (zeq GI.out.ry (by omega)) (by omega)).mono ?_;rintro e W2 ⟨a2,b2,rfl,ka,kb,b6⟩;rw[←HK4.out];dsimp only;have T2:=Hh (T1.out.next b6);have KA2:=Hh ka;have KB2:=Hh kb;have hc2:=ka.us.cap;have hc3:=kb.us.cap;have RB2:=Hh ((b6.block g2 (zab RB1.out)).trans RB1.out);refine hK.out _ _ (T2.out.cells HP.out HPL.out) (fun hS2=>?_);clear hK K ka kb b6;refine Tk1 (v:=?_) 10 hS2 ?_ ?_;rotate_left
          ·rintro w' ⟨s1,s2,s3,s4,s5,s6⟩;go_simp;first|done|with_reducible rfl|rfl
          simp only[Act.put,LA];refine Tk1 (v:=?_) 11 hS2 ?_ ?_;rotate_left
          ·rintro w' ⟨s1,s2,s3,s4,s5,s6⟩;go_simp;first|done|with_reducible rfl|rfl
          simp only[Act.put,LA];refine Tk1 (v:=?_) 12 hS2 ?_ ?_;rotate_left
          ·rintro w' ⟨s1,s2,s3,s4,s5,s6⟩;go_simp;first|done|with_reducible rfl|rfl
          simp only[Act.put,LA];refine Tk1 (v:=?_) 13 hS2 ?_ ?_;rotate_left
          ·rintro w' ⟨s1,s2,s3,s4,s5,s6⟩;go_simp;first|done|with_reducible rfl|rfl
          simp only[Act.put,LA];refine Rd1 14 fun K hK=>?_;go_simp;obtain⟨g1,hg⟩:∃g,g=W2.heap.size:=⟨_,rfl⟩;obtain⟨W3,hW⟩:∃Z:World,Z=W2.alloc (.cells #[.bool false,.slice none 0 0] 69):=⟨_,rfl⟩;have hbl:=(Below.refl W2.heap.size W2).alloc (Nat.le_refl _) (.cells #[.bool false,.slice none 0 0] 69);rw[←hW] at hbl;have T3:=Hh (T2.out.next hbl);have RA3:=Hh (show W3.heap[g1]?=some bw0.obj by rw[hW,hg];exact heap_alloc_new W2 _);have GA:=Hh (show w.heap.size+1+1<g1 by rw[hg];exact T2.out.y.lt);have RB3:=Hh ((hbl.block g2 (zab RB2.out)).trans RB2.out);have GN:=Hh (show g1≠g2 by have:=zab RB2.out;omega);have KA3:=Hh (KA2.out.next hbl);have KB3:=Hh (KB2.out.next hbl);rw[←hg,←hW];refine hK.out _ _ (T3.out.cells HP.out HPL.out) (fun _=>?_);clear hK K hg hW hbl;refine Tk1 (v:=?_) 16 (T3.out.cells HP.out HPL.out) ?_ ?_;rotate_left
          ·rintro w' ⟨s1,s2,s3,s4,s5,s6⟩;go_simp;first|done|with_reducible rfl|rfl
          simp only[Act.put,LA];refine Rd1 17 fun K hK=>?_;obtain⟨g0_,g1_⟩:=zak RA3.out;have z0:=frozen_of_row _ _ 0 _ _ RA3.out;have z1:=frozen_of_row _ _ 1 _ _ RA3.out;go_simp;have TA:=Hh (T3.out.other HLE.out RA3.out GA.out a2);have A8:=Hh (KA3.out.set RA3.out);have B8:=Hh (KB3.out.stored RA3.out a2);have RB8:=Hh (((Below.heap_setCell _ ⟨g1,1,none⟩ (.slice a2.a a2.xs.length a2.c) g2 (fun e=>GN.out e.symm)).trans (Below.heap_setCell _ ⟨g1,0,none⟩ (.bool a2.s) g2 (fun e=>GN.out e.symm))).trans RB3.out);refine hK.out _ _ (TA.out.cells HP.out HPL.out) (fun _=>?_);clear hK K g0_ g1_ z0 z1;refine Rd1 18 fun K hK=>?_;obtain⟨g0_,g1_⟩:=zak RB8.out;have z0:=frozen_of_row _ _ 0 _ _ RB8.out;have z1:=frozen_of_row _ _ 1 _ _ RB8.out;go_simp;have TB:=Hh (TA.out.other HLE.out RB8.out GB.out b2);have A9:=Hh (A8.out.other RB8.out GN.out b2);have B9:=Hh (B8.out.set RB8.out);refine hK.out _ _ (TB.out.cells HP.out HPL.out) (fun _=>?_);clear hK K g0_ g1_ z0 z1;refine wpAnyH_done (by kernel_rfl) ?_ _;refine NoPanic.normal ?_;go_wp2_with fail;go_meet;exact⟨a2,b2,g1,g2,rfl,rfl,rfl,TB.out,A9.out,B9.out,GA.out,GB.out⟩
         ·go_simp;obtain⟨g1,hg⟩:∃g,g=W1.heap.size:=⟨_,rfl⟩;obtain⟨W2,hW⟩:∃Z:World,Z=W1.alloc (.cells #[.bool false,.slice none 0 0] 69):=⟨_,rfl⟩;have hbl:=(Below.refl W1.heap.size W1).alloc (Nat.le_refl _) (.cells #[.bool false,.slice none 0 0] 69);rw[←hW] at hbl;have T2:=Hh (T1.out.next hbl);have RA2:=Hh (show W2.heap[g1]?=some bw0.obj by rw[hW,hg];exact heap_alloc_new W1 _);have GA:=Hh (show w.heap.size+1+1<g1 by rw[hg];exact T1.out.y.lt);have RB2:=Hh ((hbl.block g2 (zab RB1.out)).trans RB1.out);have GN:=Hh (show g1≠g2 by have:=zab RB1.out;omega);rw[←hg,←hW];refine hK.out _ _ (T2.out.cells HP.out HPL.out) (fun _=>?_);clear hK K hg hW hbl;refine Rd1 9 fun K hK=>?_;go_simp;refine(zcv a b X' Y' j _ T2.out.x.r T2.out.y.r (zeq GI.out.rx (by omega)) (zeq GI.out.ry (by omega)) (by omega)).mono ?_;rintro e W3 ⟨a2,b2,rfl,ka,kb,b6⟩;rw[←HK4.out];dsimp only;have T3:=Hh (T2.out.next b6);have KA3:=Hh ka;have KB3:=Hh kb;have hc2:=ka.us.cap;have hc3:=kb.us.cap;have RA3:=Hh ((b6.block g1 (zab RA2.out)).trans RA2.out);have RB3:=Hh ((b6.block g2 (zab RB2.out)).trans RB2.out);refine hK.out _ _ (T3.out.cells HP.out HPL.out) (fun hS3=>?_);clear hK K ka kb b6;refine Tk1 (v:=?_) 10 hS3 ?_ ?_;rotate_left
          ·rintro w' ⟨s1,s2,s3,s4,s5,s6⟩;go_simp;first|done|with_reducible rfl|rfl
          simp only[Act.put,LA];refine Tk1 (v:=?_) 11 hS3 ?_ ?_;rotate_left
          ·rintro w' ⟨s1,s2,s3,s4,s5,s6⟩;go_simp;first|done|with_reducible rfl|rfl
          simp only[Act.put,LA];refine Tk1 (v:=?_) 12 hS3 ?_ ?_;rotate_left
          ·rintro w' ⟨s1,s2,s3,s4,s5,s6⟩;go_simp;first|done|with_reducible rfl|rfl
          simp only[Act.put,LA];refine Tk1 (v:=?_) 13 hS3 ?_ ?_;rotate_left
          ·rintro w' ⟨s1,s2,s3,s4,s5,s6⟩;go_simp;first|done|with_reducible rfl|rfl
          simp only[Act.put,LA];refine Tk1 (v:=?_) 16 (T3.out.cells HP.out HPL.out) ?_ ?_;rotate_left
          ·rintro w' ⟨s1,s2,s3,s4,s5,s6⟩;go_simp;first|done|with_reducible rfl|rfl
          simp only[Act.put,LA];refine Rd1 17 fun K hK=>?_;obtain⟨g0_,g1_⟩:=zak RA3.out;have z0:=frozen_of_row _ _ 0 _ _ RA3.out;have z1:=frozen_of_row _ _ 1 _ _ RA3.out;go_simp;have TA:=Hh (T3.out.other HLE.out RA3.out GA.out a2);have A8:=Hh (KA3.out.set RA3.out);have B8:=Hh (KB3.out.stored RA3.out a2);have RB8:=Hh (((Below.heap_setCell _ ⟨g1,1,none⟩ (.slice a2.a a2.xs.length a2.c) g2 (fun e=>GN.out e.symm)).trans (Below.heap_setCell _ ⟨g1,0,none⟩ (.bool a2.s) g2 (fun e=>GN.out e.symm))).trans RB3.out);refine hK.out _ _ (TA.out.cells HP.out HPL.out) (fun _=>?_);clear hK K g0_ g1_ z0 z1;refine Rd1 18 fun K hK=>?_;obtain⟨g0_,g1_⟩:=zak RB8.out;have z0:=frozen_of_row _ _ 0 _ _ RB8.out;have z1:=frozen_of_row _ _ 1 _ _ RB8.out;go_simp;have TB:=Hh (TA.out.other HLE.out RB8.out GB.out b2);have A9:=Hh (A8.out.other RB8.out GN.out b2);have B9:=Hh (B8.out.set RB8.out);refine hK.out _ _ (TB.out.cells HP.out HPL.out) (fun _=>?_);clear hK K g0_ g1_ z0 z1;refine wpAnyH_done (by kernel_rfl) ?_ _;refine NoPanic.normal ?_;go_wp2_with fail;go_meet;exact⟨a2,b2,g1,g2,rfl,rfl,rfl,TB.out,A9.out,B9.out,GA.out,GB.out⟩
       case rest =>
        obtain⟨a2,b2,g1,g2,rfl,rfl,rfl,hs7,ha2,hb2,hg1,hg2⟩:=hcut;have S7:=Hh hs7;have A2:=Hh ha2;have B2:=Hh hb2;have a0:=zaa hs7.bq;have c1:=(zlZ hs7.ns HP.out).1;rw[HPL.out] at c1;have hkc:=(zlZ hs7.ns HP.out).kid hk44;have j1:(0:Int)≤(k4:Int):=by omega
        have j2:(k4:Int)<4:=by omega
        cases j with
        | zero =>
         have hkR:(at_ q p).kid k4=R:=HST.out.last;rw[hkR] at hkc;have t5:((((0:Nat):Int)+1)==1)=true:=rfl;clear hs7 ha2 hb2 HST;go_wp2_with fail;go_ret;exact⟨rfl,S7.out.b⟩
        | succ j =>
         obtain⟨kk,hkk⟩:∃kk,kk=(at_ q p).kid k4:=⟨_,rfl⟩;rw[←hkk] at hkc HST HNX;have t5:((((j+1:Nat):Int)+1)==1)=false:=by rw[beq_eq_false_iff_ne];omega
         have hac2:=ha2.r.us.cap;have hbc2:=hb2.r.us.cap;clear hs7 ha2 hb2 hkk;go_wp2_with fail;obtain⟨V,hV⟩:∃V,V=wc:=⟨_,rfl⟩;rw[←hV] at S7 A2 B2 ⊢;have SD:=Hh (S7.out.next (Below.drew' (Below.refl _ V)));have AD:=Hh (A2.out.next (Below.drew' (Below.refl _ V)));have BD:=Hh (B2.out.next (Below.drew' (Below.refl _ V)));clear hV a0 c1 hkc;have p0:=SD.out.x.c0;have p1:=SD.out.x.c1;have p2_:=SD.out.y.c0;have p3:=SD.out.y.c1;have p4:=S7.out.x.c0;have p5:=S7.out.x.c1;have p6:=S7.out.y.c0;have p7:=S7.out.y.c1;have z0:=SD.out.x.free 0;have z1:=SD.out.x.free 1;have z2:=SD.out.y.free 0;have z3:=SD.out.y.free 1;have z4:=S7.out.x.free 0;have z5:=S7.out.x.free 1;have z6:=S7.out.y.free 0;have z7:=S7.out.y.free 1;have b0:=AD.out.c0;have b1:=AD.out.c1;have b2_:=BD.out.c0;have b3:=BD.out.c1;have b4:=A2.out.c0;have b5:=A2.out.c1;have b6:=B2.out.c0;have b7:=B2.out.c1;have m1:¬ g1=w.heap.size+1:=by omega
         have m2:¬ w.heap.size+1=g1:=by omega
         have m3:¬ g1=w.heap.size+1+1:=by omega
         have m4:¬ w.heap.size+1+1=g1:=by omega
         have m5:¬ g2=w.heap.size+1:=by omega
         have m6:¬ w.heap.size+1=g2:=by omega
         have m7:¬ g2=w.heap.size+1+1:=by omega
         have m8:¬ w.heap.size+1+1=g2:=by omega
         go_region;go_roundw
         case rel =>
          (repeat apply Exists.intro)
          exact⟨⟨j,kk,_,_,a2,b2,_,_,_,_,rfl,rfl,rfl,rfl,rfl,(show j≤1328 by omega),(S7.out.set HLE.out A2.out.r B2.out.r).next (Below.drew' (Below.refl _ _)),HST.out⟩,rfl⟩
         case measure =>
          have h8:=HNX.out (by rw[HPL.out];omega);show kk.toNat<((p:Int)+1).toNat;omega
end Go.Proofs.YtbabbmdpgpcgjaaGreatDoor
