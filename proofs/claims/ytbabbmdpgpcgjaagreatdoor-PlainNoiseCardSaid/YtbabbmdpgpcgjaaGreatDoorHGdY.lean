import Derived.Test.YtbabbmdpgpcgjaaGreatDoorHGdH

set_option linter.unusedVariables false
set_option linter.unusedSimpArgs false
set_option maxRecDepth 100000
set_option maxHeartbeats 6400000
namespace Go.Proofs.YtbabbmdpgpcgjaaGreatDoor
open Go.RowKit Num Nds
theorem zuj {u:Bw}{W:World}{m:Nat}(h:u.R W (p2 m)):m<32*u.xs.length:=by
 have h1:=zdW (s:=u.s) h.us.1 (Nat.le_refl u.xs.length);rw[h.v] at h1;have h2:(p2 m).natAbs=2^m:=by
  show((2:Int)^m).natAbs=_;rw[Int.natAbs_pow];rfl
 rw[h2,show(4294967296:Nat)=2^32 by decide,←Nat.pow_mul] at h1;exact(Nat.pow_lt_pow_iff_right (by decide:1<2)).1 h1
theorem zwF {u:Bw}{W:World}(h:u.R W (p2 1329)):42≤u.xs.length:=by
 have:=zuj h;omega
def zyX (X:Int)(w:World)(e:Ending)(w':World):Prop :=
 ∃(r:Bw) (X':Int),e=.returned r.val∧r.R w' X'∧r.xs.length≤50∧Below w.heap.size w w'∧∀n,n≤1000→zhw X X' n
theorem zuk (u:Bw)(X:Int)(w:World)(h:u.R w X)(hl:u.xs.length≤50) :
  Calls Tryz.prog 147 #[u.val] w (zyX X w):=by
 have b1:=(Below.refl w.heap.size w).alloc (Nat.le_refl _) u.obj;have b2:=b1.alloc b1.size bw0.obj;have hal0:=(Below.refl (w.alloc u.obj).heap.size (w.alloc u.obj)).alloc (Nat.le_refl _) bw0.obj;have KU:=Hh (h.box.next hal0);have kz:=(zhp (w.alloc u.obj)).box;rw[World.size_alloc] at kz;have KZ:=Hh kz;have HB:=Hh b2;have H0:=Hh h;clear h b1 b2 hal0 kz;go_enter Tryz.func147,Tryz.ntmps147;go_upto_if 11 with(go_at_call 140;go_loud (refine(ziX 1329 _).mono ?_;rintro e w3 h3;rw[show shlI 1 (1329:Int)=p2 1329 from zdE 1329 (by omega)] at h3;obtain⟨f,rfl,kf,bf⟩:=zaj h3;have lf:=zaX kf (by have:=zaw (show 1329≤1330 by omega);have:=zaz 1329;omega) (zaw (by omega));have hal:=(Below.refl w3.heap.size w3).alloc (Nat.le_refl _) f.obj;have bb:=bf.trans (hal.mono bf.size);have HB:=Hh (HB.out.trans (bb.mono HB.out.size));have KU:=Hh (KU.out.next bb);have KZ:=Hh (KZ.out.next bb);have LF:=Hh (zwF kf);have KF:=Hh kf.box;clear h3 kf bf hal bb;have c0:=KU.out.c0;have c1:=KU.out.c1;have f0:=KF.out.c0;have f1:=KF.out.c1;have z0:=KZ.out.c0;have z1:=KZ.out.c1;have r0:=KZ.out.free 0;have r1:=KZ.out.free 1;dsimp only[bw0,List.length_nil] at z0 z1))
 by_cases hlt:f.xs.length<u.xs.length
 ·have t1:decide ((u.xs.length:Int)>(f.xs.length:Int))=true:=decide_eq_true (by omega);have HLT:=Hh hlt;have t2:decide (f.xs.length<u.xs.length)=true:=decide_eq_true hlt;go_wp2_with fail;have KR:=KF.out.r.set KZ.out.box;have e0:=KR.c0;have e1:=KR.c1;refine bodyPost_ret (v:=f.val) (by simp[results,Tryz.results147,go_sem,e0,e1]) rfl ?_;exact⟨f,p2 1329,rfl,KR.r,lf,(HB.out.setCell (p:=⟨w.heap.size+1,0,none⟩) (by show w.heap.size≤w.heap.size+1;omega) _).setCell (p:=⟨w.heap.size+1,1,none⟩) (by show w.heap.size≤w.heap.size+1;omega) _,fun n hn=>by have:=zrt H0.out.cn (by have:=LF.out;have:=HLT.out;omega) hn;rwa [H0.out.v] at this⟩
 ·have t1:decide ((u.xs.length:Int)>(f.xs.length:Int))=false:=decide_eq_false (by omega);have t2:decide (f.xs.length<u.xs.length)=false:=decide_eq_false hlt;go_wp2_with fail;have KR:=KU.out.r.set KZ.out.box;have e0:=KR.c0;have e1:=KR.c1;refine bodyPost_ret (v:=u.val) (by simp[results,Tryz.results147,go_sem,e0,e1]) rfl ?_;exact⟨u,X,rfl,KR.r,hl,(HB.out.setCell (p:=⟨w.heap.size+1,0,none⟩) (by show w.heap.size≤w.heap.size+1;omega) _).setCell (p:=⟨w.heap.size+1,1,none⟩) (by show w.heap.size≤w.heap.size+1;omega) _,fun n hn=>.inl rfl⟩
structure NuI (w:World)(r:Bw)(X:Int)(n g k:Nat)(L:List Gv)(W:World):Prop where
 b:Below w.heap.size w W
 xk:r.B W w.heap.size X
 own:OwnG W (w.heap.size+1) g n L
 got:∀i,i<k→GIn W (gat L i) (X+i)∧(gat L i).xs.length≤60
theorem NuI.next {w W W1:World}{r:Bw}{X:Int}{n g k:Nat}{L:List Gv}(h:NuI w r X n g k L W)(b:Below W.heap.size W W1):NuI w r X n g k L W1 :=
 ⟨h.b.trans (b.mono h.b.size),h.xk.next b,h.own.next b,fun i hi=>⟨(h.got i hi).1.next b,(h.got i hi).2⟩⟩
theorem NuI.gx {w W:World}{r:Bw}{X:Int}{n g k:Nat}{L:List Gv}(h:NuI w r X n g k L W):w.heap.size<g:=by have:=h.own.row.1;omega
theorem zrB {W:World}{A:Option Addr}{c g i j:Nat}{xs:List Nat}{a b:Value}(h:Us W A c xs)(hg:∀o v,W.cell? ⟨g,o,none⟩=some v→∀k,v≠.int .u32 k):Us ((W.setCell ⟨g,i,none⟩ a).setCell ⟨g,j,none⟩ b) A c xs :=
 zbt h (fun q _ hq=>(Below.heap_setCell _ _ _ _ hq).trans (Below.heap_setCell _ _ _ _ hq)) (by simp[World.setCell]) (zbS h hg)
theorem NuI.put {w W:World}{r:Bw}{X:Int}{n g k:Nat}{L:List Gv}(h:NuI w r X n g k L W)(hk:k<n){v:Gv}(hv:GIn W v (X+k))(hl:v.xs.length≤60) :
  NuI w r X n g (k+1) (L.set k v) ((W.setCell ⟨g,k*2,none⟩ (.bool v.s)).setCell ⟨g,k*2+1,none⟩ (.slice v.a v.xs.length v.c)):=by
 obtain⟨r1,r2,r3,r4,r5⟩:=h.own.row;have hgx:=h.gx;refine⟨(h.b.setCell (p:=⟨g,k*2,none⟩) (by show w.heap.size≤g;omega) _).setCell (p:=⟨g,k*2+1,none⟩) (by show w.heap.size≤g;omega) _,⟨?_,zrB h.xk.r.us r5,h.xk.r.cn,h.xk.r.v⟩,h.own.put hk v,fun i hi=>?_⟩
 ·exact((Below.heap_setCell _ _ _ _ (show w.heap.size≠g by omega)).trans (Below.heap_setCell _ _ _ _ (show w.heap.size≠g by omega))).trans h.xk.box
 ·by_cases e:k=i
  ·subst e;rw[zfN (by rw[h.own.1];exact hk)];exact⟨⟨zrB hv.us r5,hv.cn,hv.v⟩,hl⟩
  ·rw[zio e];obtain⟨g1,g2⟩:=h.got i (by omega);exact⟨⟨zrB g1.us r5,g1.cn,g1.v⟩,g2⟩
def zye (X:Int)(n:Nat)(w:World)(e:Ending)(w':World):Prop :=
 ∃(g:Nat) (L:List Gv) (X':Int),e=.returned (.slice (some ⟨g,0,none⟩) n n)∧OwnG w' (w.heap.size+1) g n L∧(∀i,i<n→GIn w' (gat L i) (X'+i)∧(gat L i).xs.length≤60)∧Below w.heap.size w w'∧∀m,m≤1000→zhw X X' m
theorem zwG {r a v:Bw}{W W1 W2:World}{X Y:Int}(hr:r.R W X)(ha:a.R W1 Y)(hv:v.R W2 (X+Y))(h1:r.xs.length≤50)(h2:a.xs.length≤50):v.xs.length≤60:=by
 have e1:=zdW (s:=r.s) hr.us.1 h1;have e2:=zdW (s:=a.s) ha.us.1 h2;rw[hr.v] at e1;rw[ha.v] at e2;have:=zcz hv.cn hv.v 51 (zvQ e1 e2);omega
theorem zdo (u:Bw)(X:Int)(n:Nat)(w:World)(h:u.R w X)(hl:u.xs.length≤50)(hn:n≤1000) :
  Calls Tryz.prog 103 #[u.val,.int .i64 (n:Int)] w (zye X n w):=by
 obtain⟨iG,hiG⟩:=zbL Tryz.infoG;have HiG:=Hh hiG;have b1:=(Below.refl w.heap.size w).alloc (Nat.le_refl _) u.obj;have HB:=Hh b1;have HU:=Hh h.box;have c0:=HU.out.c0;have c1:=HU.out.c1;clear h b1 hiG;go_enter Tryz.func103,Tryz.ntmps103;go_wp2_with (first
  | (go_at_call 147;go_loud (refine(zuk u X _ HU.out.r hl).mono ?_;rintro e w3 ⟨r,X',rfl,kr,lr,b_,hnz⟩;have HB:=Hh (HB.out.trans (b_.mono HB.out.size));have HU:=Hh (HU.out.next b_);have KR:=Hh kr;have LR:=Hh lr;have NZ:=Hh hnz;clear kr lr b_ hnz c0 c1;have c0:=HU.out.c0;have c1:=HU.out.c1;have f0:=HU.out.free 0;have f1:=HU.out.free 1))
  | (at_make;have KS:=KR.out.set HU.out.box;refine wpList_make_full _ rfl _ _ 130 rfl (w.heap.size+1) 69 iG _ 2 Tryz.underlying130 HiG.out.1 HiG.out.2.1 HiG.out.2.2.1 .i64 .i64 _ _ n rfl rfl (by omega) (by omega) (by rw[HiG.out.2.2.2];omega) (by unfold maxLen;omega) (by have:=zab KS.box;simp[World.setCell] at this ⊢;omega) ?_;intro w5 own5 grow5;have hb5:=zer grow5;have KS5:=Hh (KS.next hb5);have OW:=Hh (OwnG.made own5);have HB5:=Hh (((HB.out.setCell (p:=⟨w.heap.size,0,none⟩) (Nat.le_refl _) (.bool r.s)).setCell (p:=⟨w.heap.size,1,none⟩) (Nat.le_refl _) (.slice r.a r.xs.length r.c)).trans (hb5.mono (by have:=HB.out.size;simp[World.setCell];omega)));clear KS own5 grow5 hb5 c0 c1 f0 f1;have c0:=KS5.out.c0;have c1:=KS5.out.c1))
 have hr5:=LR.out;obtain⟨g,hg⟩:∃g,g=w3.heap.size:=⟨_,rfl⟩;have hsz:((w3.setCell ⟨w.heap.size,0,none⟩ (.bool r.s)).setCell ⟨w.heap.size,1,none⟩ (.slice r.a r.xs.length r.c)).heap.size=g:=by rw[hg];simp[World.setCell]
 have OW2:=Hh (show OwnG w5 (w.heap.size+1) g n (List.replicate n gv0) by have:=OW.out;rwa [hsz] at this)
 try rw[hsz]
 try rw[←hg]
 have HI:=Hh (show NuI w r X' n g 0 (List.replicate n gv0) w5 from⟨HB5.out,KS5.out,OW2.out,fun i hi=>by omega⟩);clear OW OW2 hg hsz c0 c1;go_loopw [13,6] (fun z1 z2 wr=>∃(k:Nat) (v:Value) (L:List Gv),z1=.int .i64 k∧z2=v∧k≤n∧NuI w r X' n g k L wr) (fun z1 _ _=>n-(intOf z1).toNat)
 case atStart=>exact⟨0,_,_,rfl,rfl,Nat.zero_le _,HI.out⟩
 case round =>
  obtain⟨k,v,L,rfl,rfl,hk,hi⟩:=hrel;clear HI;have kw:IntKind.i64.wrap ((k:Int)+1)=(k:Int)+1:=IntWalk.i64_in _ (by omega);by_cases hlt:k<n
  ·have j1:(k:Int)<(n:Int):=by omega
   have HLT:=Hh hlt;have HI:=Hh (hi.next (Below.drew' (Below.refl _ wr)));have c0:=hi.xk.c0;have c1:=hi.xk.c1;clear hi hlt hk;go_wp2_with fail
   ·refine wp_region_noPanic ?_;refine wp_region_held (S:=fun w'=>w'.cell? ⟨w.heap.size,0,none⟩=some (.bool r.s)∧w'.cell? ⟨w.heap.size,1,none⟩=some (.slice r.a r.xs.length r.c)) (by kernel_rfl) ?_;obtain⟨W1,hW1⟩:∃W1:World,W1=wr.drew:=⟨_,rfl⟩;rw[←hW1] at HI;change wpAnyH _ _ _ _ _ _ _ _ wr.drew;rw[←hW1];clear hW1 c0 c1;have hS0:=And.intro HI.out.xk.c0 HI.out.xk.c1;refine Tk1 (v:=?_) 0 hS0 ?_ ?_;rotate_left
    ·rintro w' ⟨_,_⟩;go_simp;first|done|with_reducible rfl|rfl
    simp only[Act.put,LA];refine Tk1 (v:=?_) 1 hS0 ?_ ?_;rotate_left
    ·rintro w' ⟨_,_⟩;go_simp;first|done|with_reducible rfl|rfl
    simp only[Act.put,LA];refine Tk1 (v:=?_) 2 hS0 ?_ ?_;rotate_left
    ·rintro w' ⟨_,_⟩;go_simp;first|done|with_reducible rfl|rfl
    simp only[Act.put,LA];refine Tk1 (v:=?_) 3 hS0 ?_ ?_;rotate_left
    ·rintro w' ⟨_,_⟩;go_simp;first|done|with_reducible rfl|rfl
    simp only[Act.put,LA];refine Rd1 4 fun K hK=>?_;go_simp;refine(zgK (k:Int) _ (by omega) (by omega)).mono ?_;rintro e w4 h4;obtain⟨a,rfl,ka,b4⟩:=zaj h4;dsimp only;have la:=zaX ka (by have:=zaw (show 10≤1330 by omega);have:p2 10=1024:=rfl;have:=HLT.out;omega) (by have:=zaw (show 10≤1330 by omega);have:p2 10=1024:=rfl;have:=HLT.out;omega);have I4:=Hh (HI.out.next b4);have KA:=Hh ka;refine hK.out _ _ ⟨I4.out.xk.c0,I4.out.xk.c1⟩ (fun hS4=>?_);clear hK K h4 ka b4 HI hS0;refine Rd1 5 fun K hK=>?_;go_simp;refine(zeI r.s a.s r.a a.a r.c a.c r.xs a.xs _ I4.out.xk.r.us KA.out.us (by omega) (by omega)).mono ?_;rw[I4.out.xk.r.v,KA.out.v];rintro e w5 h5;obtain⟨v,rfl,kv,b5⟩:=zaj h5;dsimp only;have lv:=zwG I4.out.xk.r KA.out kv hr5 la;have I5:=Hh (I4.out.next b5);have KV:=Hh kv;refine hK.out _ _ ⟨I5.out.xk.c0,I5.out.xk.c1⟩ (fun hS5=>?_);clear hK K h5 kv b5;refine Tk1 (v:=?_) 6 hS5 ?_ ?_;rotate_left
    ·rintro w' ⟨_,_⟩;go_simp;first|done|with_reducible rfl|rfl
    simp only[Act.put,LA];obtain⟨r1,r2,r3,r4,r5⟩:=I5.out.own.row;obtain⟨z0,z1⟩:=r3 k HLT.out;have z2:=r4 (k*2);have z3:=r4 (k*2+1);have hgx:=I5.out.gx;have hne:¬ g=w.heap.size:=by omega
    have hne2:¬ w.heap.size=g:=by omega
    refine Rd1 7 fun K hK=>?_;go_simp;have I6:=Hh (I5.out.put HLT.out (v:=⟨v.s,v.a,v.c,v.xs⟩) ⟨KV.out.us,KV.out.cn,KV.out.v⟩ lv);refine hK.out _ _ ⟨I6.out.xk.c0,I6.out.xk.c1⟩ (fun _=>?_);clear hK K;refine wpAnyH_done (by kernel_rfl) ?_ _;refine NoPanic.normal ?_;go_wp2_with fail;go_roundw
    case rel=>exact⟨k+1,_,_,by go_num,rfl,by have:=HLT.out;omega,I6.out⟩
    case measure=>have:=HLT.out;simp[intOf];omega
  ·have e:k=n:=by omega
   subst e;have HI:=Hh hi;clear hi hlt hk;go_wp2_with fail;go_ret;exact⟨g,L,X',rfl,HI.out.own,HI.out.got,HI.out.b,NZ.out⟩
theorem zdM {P:Program}(w:World){ops:Array Oper}{rest:List Oper}{o:Oper}{a:Act}{Q:Exit→Act→World→Prop}(hg:o.guard=none)
  (l c:Operand) (t:TypeId) (hop:o.op=Op.makeSlice t l c)
  (e:TypeId) (i:TypeInfo) (z:Value) (size:Nat) (h1:P.underlying t=some (.slice e)) (h2:P.info? e=some i) (h3:i.zero=some z) (h4:i.size=size)
  (kl kc:IntKind) (n:Nat) (hl:a.eval l=.int kl 0) (hc:a.eval c=.int kc (n:Int)) (b2:i.bytes*n≤281474976710656) (b3:n≤maxLen)
  (hK:∀w',w'=w.alloc (.cells (madeCells z.cells (n*size)) e)→wpList P ops Q rest (a.put o.dst (.slice (some ⟨w.heap.size,0,none⟩) 0 n)) w') :
  wpList P ops Q (o :: rest) a w:=by
 refine wpList_plain hg fun K hK'=>?_;have h63:(n:Int)≤9223372036854775807:=by
  have h:=b3;simp[maxLen] at h;omega
 have hb':(i.bytes:Int)*(n:Int)≤281474976710656:=by
  have h:((i.bytes*n:Nat):Int)≤281474976710656:=by omega
  rwa [Int.natCast_mul] at h
 have hr:=run_make (P:=P) w t e i z h1 h2 h3 kl kc 0 n (Int.le_refl _) (by omega) hb' h63;simp only[Int.toNat_zero,Int.toNat_natCast] at hr;subst h4;unfold Oper.wp;simp[execOp,hop,hl,hc,hr,Result.andThen];exact hK' _ _ (hK _ rfl)
theorem zkS (w:World)(n base:Nat)(h3:n≤maxLen)(hb:base≤w.heap.size):OwnC (w.alloc (.cells (madeCells (cvv cv0).cells (n*5)) 123)) base (.slice (some ⟨w.heap.size,0,none⟩) 0 n) [] :=
 ⟨rfl,.inr ⟨w.heap.size,n,madeCells (cvv cv0).cells (n*5),rfl,hb,heap_alloc_new w _,Nat.zero_le _,h3,size_madeCells _ _,rfl⟩⟩
theorem zwH {W:World}{g n:Nat}(h:W.heap[g]?=some (.cells (madeCells (cvv cv0).cells (n*5)) 123)):∀o v,W.cell? ⟨g,o,none⟩=some v→∀k,v≠.int .u32 k:=fun o v hv k e=>by
 subst e;rw[cell_of_row W g o _ _ _ h] at hv;simp only[madeCells,Array.getElem?_map,Option.map_eq_some_iff] at hv;obtain⟨j,hj,hv⟩:=hv;have h5:j%5<5:=Nat.mod_lt _ (by omega);have hs:(cvv cv0).cells.size=5:=rfl;rw[hs] at hv;generalize j%5=r at hv h5
 match r,h5 with
 | 0,_=>simp[cv0,Value.cells] at hv
 | 1,_=>simp[cv0,Value.cells] at hv
 | 2,_=>simp[cv0,Value.cells] at hv
 | 3,_=>simp[cv0,Value.cells] at hv
 | 4,_=>simp[cv0,Value.cells] at hv
theorem zoL (s:ByteArray)(w:World) :
  Calls Tryz.prog 102 #[.string s,.string ⟨#[0]⟩] w fun e w'=>e=.returned (.int .i64 (s.data.toList.count 0:Nat))∧w=w':=by
 go_enter Tryz.func102,Tryz.ntmps102;go_wp2;rw[run_callFunc_extern Tryz.func146 (by kernel_rfl) (by kernel_rfl) (by kernel_rfl) (e:=Extern.BytealgCount.count) (by kernel_rfl),Lib.run_countString];simp only[Result.andThen];rw[Oper.upon_value];go_wp2;go_ret;exact⟨rfl,rfl⟩
def mkC (x y:Gv)(st:Nat):Cv:=⟨x.s,x.a,x.c,x.xs,y.s,y.a,y.c,y.xs,st⟩
structure Co1 (w:World)(u:Gr)(X Y:Int)(wide high gc gl g0:Nat)(Lc Ll:List Gv)(W:World):Prop where
 b:Below w.heap.size w W
 uk:W.heap[w.heap.size]?=some u.obj
 t:Ts W u.a u.c u.L
 ta:∀b off,u.a=some ⟨b,off,none⟩→0<u.L.length→b≠g0
 oc:∃base,OwnG W base gc wide Lc
 gotc:∀i,i<wide→GIn W (gat Lc i) (X+i)∧(gat Lc i).xs.length≤60
 ol:∃base,OwnG W base gl high Ll
 gotl:∀i,i<high→GIn W (gat Ll i) (Y+i)∧(gat Ll i).xs.length≤60
 off:∀o v,W.cell? ⟨g0,o,none⟩=some v→∀k,v≠.int .u32 k
 nc:gc≠g0
 nl:gl≠g0
 nu:w.heap.size≠g0
section
variable {w W W':World} {u:Gr} {X Y:Int} {wide high gc gl g0:Nat} {Lc Ll:List Gv}
theorem Co1.box (h:Co1 w u X Y wide high gc gl g0 Lc Ll W)(k:W.grownBy W' (some g0)):W'.heap[w.heap.size]?=some u.obj :=
 (k.block _ (zab h.uk) (fun e=>h.nu (by cases e;rfl))).trans h.uk
theorem Co1.row (h:Co1 w u X Y wide high gc gl g0 Lc Ll W)(k:W.grownBy W' (some g0)){b off:Nat}(e:u.a=some ⟨b,off,none⟩){j:Nat}(hj:j<u.L.length):W'.cell? ⟨b,off+j,none⟩=some (strV (tat u.L j)):=by
 obtain⟨b2,o2,e2,hlt,hc⟩:=h.t.at_ (by omega)
 rw[e] at e2;injection e2 with e2
 injection e2 with e3 e4
 subst e3;subst e4;exact(World.cell?_of_block (a:=⟨b,off+j,none⟩) (k.block b hlt (fun e5=>h.ta b off e (by omega) (by cases e5;rfl)))).trans (hc j hj)
theorem Co1.col (h:Co1 w u X Y wide high gc gl g0 Lc Ll W)(k:W.grownBy W' (some g0)){i:Nat}(hi:i<wide):W'.cell? ⟨gc,i*2,none⟩=some (.bool (gat Lc i).s)∧W'.cell? ⟨gc,i*2+1,none⟩=some (.slice (gat Lc i).a (gat Lc i).xs.length (gat Lc i).c):=by
 obtain⟨base,ho⟩:=h.oc;exact(ho.kept k (by simpa using fun e=>h.nc e.symm)).row.2.2.1 i hi
theorem Co1.line (h:Co1 w u X Y wide high gc gl g0 Lc Ll W)(k:W.grownBy W' (some g0)){i:Nat}(hi:i<high):W'.cell? ⟨gl,i*2,none⟩=some (.bool (gat Ll i).s)∧W'.cell? ⟨gl,i*2+1,none⟩=some (.slice (gat Ll i).a (gat Ll i).xs.length (gat Ll i).c):=by
 obtain⟨base,ho⟩:=h.ol;exact(ho.kept k (by simpa using fun e=>h.nl e.symm)).row.2.2.1 i hi
theorem Co1.cv (h:Co1 w u X Y wide high gc gl g0 Lc Ll W)(k:W.grownBy W' (some g0)){i j st:Nat}(hi:i<wide)(hj:j<high)(hs:st≤255) :
  CvU W' (mkC (gat Lc i) (gat Ll j) st)∧CvR (mkC (gat Lc i) (gat Ll j) st)∧(mkC (gat Lc i) (gat Ll j) st).cl=⟨X+i,Y+j,(st:Int)⟩:=by
 obtain⟨g1,g2⟩:=h.gotc i hi;obtain⟨g3,g4⟩:=h.gotl j hj;have h1:=g1.over h.off k;have h2:=g3.over h.off k;refine⟨⟨h1.us,h2.us,hs⟩,⟨h1.cn,h2.cn,?_,?_⟩,?_⟩
 ·show(gat Lc i).xs.length≤60000;omega
 ·show(gat Ll j).xs.length≤60000;omega
 ·show(⟨ival (gat Lc i).s (gat Lc i).xs,ival (gat Ll j).s (gat Ll j).xs,(st:Int)⟩:Cl)=_;rw[h1.v,h2.v]
end
structure Co2 (W1:World)(wide high g0:Nat)(Lc Ll:List Gv)(base:Nat)(v:Value)(N:List Cv)(W:World):Prop where
 gb:W1.grownBy W (some g0)
 own:OwnC W base v N
 ob:∀k,v.ownBlock=some k→k=g0∨W1.heap.size≤k
 of_:∀x∈N,∃i j st,i<wide∧j<high∧st≤255∧x=mkC (gat Lc i) (gat Ll j) st
theorem zwI (w:World)(r:Option Nat):w.grownBy w r:=⟨rfl,rfl,rfl,Nat.le_refl _,fun _ _ _=>rfl⟩
theorem Co2.drew {W1 W:World}{wide high g0 base:Nat}{Lc Ll:List Gv}{v:Value}{N:List Cv}(h:Co2 W1 wide high g0 Lc Ll base v N W):Co2 W1 wide high g0 Lc Ll base v N W.drew :=
 ⟨⟨h.gb.os,h.gb.tape,h.gb.output,h.gb.size,h.gb.block⟩,h.own.drew,h.ob,h.of_⟩
def zwJ (u:Gr)(X Y:Int)(w:World)(e:Ending)(w':World):Prop :=
 ∃A c n N X' Y',e=.returned (.slice A n c)∧N.length=n∧Cs w' A c N∧(A=none→c=0)∧Below w.heap.size w w'∧N.map Cv.cl=picL (picS u.L) X' Y' (zaP u.L) u.L.length∧(∀x∈N,CvR x)∧(∀m,m≤1000→zhw X X' m)∧∀m,m≤1000→zhw Y Y' m
theorem zmj {W1 W W':World}{g0:Nat}{r:Option Nat}(h:W1.grownBy W (some g0))(k:W.grownBy W' r)(hr:∀i,r=some i→i=g0∨W1.heap.size≤i):W1.grownBy W' (some g0) :=
 ⟨k.os.trans h.os,k.tape.trans h.tape,k.output.trans h.output,Nat.le_trans h.size k.size,fun i hi hne=>by
  have h1:=h.size;refine(k.block i (by omega) (fun e=>?_)).trans (h.block i hi hne);rcases hr i e.symm with h2|h2
  ·exact hne (by rw[h2])
  ·omega⟩
theorem Co2.more {W1 W W':World}{wide high g0 base:Nat}{Lc Ll:List Gv}{v v':Value}{N:List Cv}(h:Co2 W1 wide high g0 Lc Ll base v N W){i j st:Nat}(hi:i<wide)(hj:j<high)(hs:st≤255){o:Obj}
  (ho:OwnC W' base v' (N++[mkC (gat Lc i) (gat Ll j) st])) (hg:(W.alloc o).grownBy W' v.ownBlock) (hk:v'.ownBlock=v.ownBlock∨v'.ownBlock=some (W.alloc o).heap.size):Co2 W1 wide high g0 Lc Ll base v' (N++[mkC (gat Lc i) (gat Ll j) st]) W':=by
 have ga:=zmj h.gb (World.grownBy_alloc W o none) (fun _ e=>by cases e);refine⟨zmj ga hg h.ob,ho,fun k e=>?_,fun x hx=>?_⟩
 ·rcases hk with h1|h1
  ·exact h.ob k (by rw[←h1];exact e)
  ·rw[h1] at e;cases e;right;exact ga.size
 ·rcases List.mem_append.1 hx with hx|hx
  ·exact h.of_ x hx
  ·exact⟨i,j,st,hi,hj,hs,by simpa using hx⟩
structure CoM (w:World)(u:Gr)(X Y:Int)(g0 m:Nat)(W:World):Prop where
 g:GrB w u W
 r:u.R W X Y
 md:W.heap[g0]?=some (.cells (madeCells (cvv cv0).cells (m*5)) 123)
 own:OwnC W (w.heap.size+1) (.slice (some ⟨g0,0,none⟩) 0 m) []
theorem CoM.next {w W W':World}{u:Gr}{X Y:Int}{g0 m:Nat}(h:CoM w u X Y g0 m W)(k:Below W.heap.size W W'):CoM w u X Y g0 m W' :=
 ⟨h.g.next k,h.r.next k,(k.block _ (zab h.md)).trans h.md,h.own.kept (gbX k) (.inr (by simp[Value.ownBlock]))⟩
theorem CoM.lt {w W:World}{u:Gr}{X Y:Int}{g0 m:Nat}(h:CoM w u X Y g0 m W):g0<W.heap.size:=zab h.md
theorem CoM.cells9 {w W:World}{x y:Bw}{a:Option Addr}{c high g0 m:Nat}{L:List (List UInt8)}{X Y:Int}(hh:high=L.length)(h:CoM w ⟨x,y,a,c,L⟩ X Y g0 m W) :
  W.cell? ⟨w.heap.size,0,none⟩=some (.bool x.s)∧W.cell? ⟨w.heap.size,1,none⟩=some (.slice x.a x.xs.length x.c)∧W.cell? ⟨w.heap.size,2,none⟩=some (.bool y.s)∧W.cell? ⟨w.heap.size,3,none⟩=some (.slice y.a y.xs.length y.c)∧W.cell? ⟨w.heap.size,4,none⟩=some (.slice a high c):=by
 rw[hh];exact Gr.cells h.g.k
theorem znJ (M:Int→Int→Int)(X Y:Int)(wide:Nat):∀high,(picL M X Y wide high).length≤wide*high
 | 0=>by rw[zrr];exact Nat.zero_le _
 | high+1=>by
  have ih:=znJ M X Y wide high;have h1:=zjE M X Y high wide;rw[zff,List.length_append,Nat.mul_succ];omega
theorem zyf {r:List UInt8}{s:ByteArray}(h:s=⟨r.toArray⟩){i:Nat}(hi:i<s.size)(h2:i<r.length):s[i]'hi=r[i]'h2:=by
 subst h;rfl
theorem zwK {L:List (List UInt8)}{k i:Nat}(hk:k<L.length)(hi:i<(tat L k).length):picS L k i=(((tat L k)[i]).toNat:Int):=by
 refine zmh (r:=tat L k) ?_ (List.getElem?_eq_getElem hi);unfold tat;rw[List.getElem?_eq_getElem hk];rfl
theorem zgt {L:List (List UInt8)}(h:zcM L=true){k:Nat}(hk:k<L.length):(tat L k).length=zaP L:=by
 unfold zcM at h;rw[Bool.and_eq_true] at h;have h2:=List.all_eq_true.1 h.2 (L[k]) (List.getElem_mem hk);unfold tat;rw[List.getElem?_eq_getElem hk];exact of_decide_eq_true h2
theorem zkT (x y:Bw)(bb off c:Nat)(L:List (List UInt8))(X Y:Int)(w:World)(h:(Gr.mk x y (some ⟨bb,off,none⟩) c L).R w X Y)(hlx:x.xs.length≤50)(hly:y.xs.length≤50)(hr:zcM L=true)(h0:0<L.length) :
  Calls Tryz.prog 69 #[.agg #[.bool x.s,.slice x.a x.xs.length x.c,.bool y.s,.slice y.a y.xs.length y.c,.slice (some ⟨bb,off,none⟩) L.length c]] w (zwJ (Gr.mk x y (some ⟨bb,off,none⟩) c L) X Y w):=by
 obtain⟨iC,hiC⟩:=zbL Tryz.infoC;have HiC:=Hh hiC;have hcap:=h.t.cap;dsimp only at hcap;have hsz:zaP L≤1000∧L.length≤1000:=by
  have:=hr;unfold zcM at this;rw[Bool.and_eq_true,Bool.and_eq_true,decide_eq_true_iff,decide_eq_true_iff] at this;exact this.1
 obtain⟨wide,hw⟩:∃k,k=zaP L:=⟨_,rfl⟩;obtain⟨high,hh⟩:∃k,k=L.length:=⟨_,rfl⟩;have HW:=Hh hw;have HH:=Hh hh;have HR:=Hh hr;have HU0:=Hh h;have w9:wide≤1000:=by omega
 have h9:high≤1000:=by omega
 have GB:=Hh (GrB.start h.u);have HBB:=Hh (show bb<w.heap.size by
  obtain⟨b2,o2,e2,hlt,-⟩:=h.t.at_ h0
  dsimp only at e2;injection e2 with e2
  injection e2 with e3 e4
  omega)
 obtain⟨c0,c1,c2,c3,c4⟩:=Gr.cells GB.out.k;dsimp only at c0 c1 c2 c3 c4;have hob:((Gr.mk x y (some ⟨bb,off,none⟩) c L)).obj=.cells #[.bool x.s,.slice x.a x.xs.length x.c,.bool y.s,.slice y.a y.xs.length y.c,.slice (some ⟨bb,off,none⟩) high c] 71:=by rw[hh]
 rw[hob] at c0 c1 c2 c3 c4;rw[←hh] at c4 hcap ⊢;have HOB:=Hh hob;have H00:=Hh (show 0<high by omega);clear hiC h hr hsz hw hob h0 hh;go_enter Tryz.func69,Tryz.ntmps69;go_wp2_with fail;go_loopw [15,5,3] (fun z1 z2 z3 wr=>∃(k m:Nat) (v:Value),z1=.int .i64 k∧z2=v∧z3=.int .i64 m∧k≤high∧m≤1000*k∧GrB w (Gr.mk x y (some ⟨bb,off,none⟩) c L) wr) (fun z1 _ _ _=>high-(intOf z1).toNat)
 case atStart=>exact⟨0,0,_,rfl,rfl,rfl,Nat.zero_le _,Nat.zero_le _,by rw[←HOB.out];exact GB.out⟩
 case round =>
  obtain⟨k,m,v,rfl,rfl,rfl,hk,hc,hb⟩:=hrel;clear GB c0 c1 c2 c3 c4;have GB:=Hh hb;have kw:IntKind.i64.wrap ((k:Int)+1)=(k:Int)+1:=IntWalk.i64_in _ (by omega);by_cases hlt:k<high
  ·obtain⟨b2,o2,hA,-,hcc⟩:=hb.u.t.at_ (by dsimp only;have:=HH.out;omega)
   dsimp only at hA hcc;injection hA with hA
   injection hA with e3 e4
   subst e3;subst e4;have s0:=hcc k (by have:=HH.out;omega);unfold strV at s0;have hlen:=zgt HR.out (show k<L.length by have:=HH.out;omega);obtain⟨s,hs⟩:∃s:ByteArray,s=⟨(tat L k).toArray⟩:=⟨_,rfl⟩;rw[←hs] at s0;have hs2:s.size=wide:=by rw[hs,zef,hlen,HW.out]
   obtain⟨cz,hcz⟩:∃cz,cz=s.data.toList.count 0:=⟨_,rfl⟩;have hcz2:cz≤wide:=by
    rw[hcz,←hs2];have:=List.count_le_length (a:=(0:UInt8)) (l:=s.data.toList);have e:s.data.toList.length=s.size:=zaf s;omega
   have HCZ:=Hh hcz;have j1:(k:Int)<(high:Int):=by omega
   have HJ:=Hh hlt;have e1:IntKind.i64.wrap ((wide:Int)-(cz:Int))=((wide-cz:Nat):Int):=by rw[show(wide:Int)-(cz:Int)=((wide-cz:Nat):Int) by omega];exact IntWalk.i64_in _ (by omega)
   obtain⟨dz,hdz⟩:∃d,d=wide-cz:=⟨_,rfl⟩;rw[←hdz] at e1;have e2:IntKind.i64.wrap ((m:Int)+(dz:Int))=((m+dz:Nat):Int):=by rw[show(m:Int)+(dz:Int)=((m+dz:Nat):Int) by omega];exact IntWalk.i64_in _ (by omega)
   obtain⟨m2,hm2⟩:∃m2,m2=m+dz:=⟨_,rfl⟩;rw[←hm2] at e2;have HD:=Hh (show m2≤1000*(k+1) by omega);clear hcc hs hlen hcz hcz2 hb hlt hdz hm2;go_wp2_with (go_at_call 102;go_loud (refine(zoL s _).mono ?_;rintro e w2 ⟨rfl,rfl⟩;rw[←HCZ.out]));go_roundw
   case rel=>exact⟨k+1,m2,_,by go_num,rfl,rfl,by have:=HJ.out;omega,HD.out,GB.out⟩
   case measure=>have:=HJ.out;simp[intOf];omega
  ·have m9:m≤1000000:=by omega
   obtain⟨c0,c1,c2,c3,c4⟩:=Gr.cells GB.out.k;dsimp only at c0 c1 c2 c3 c4;rw[←HH.out] at c4;clear hb;have hlt2:decide ((k:Int)<(high:Int))=false:=decide_eq_false (by omega);go_wp2_with (at_make;refine zdM _ rfl _ _ 35 rfl 123 iC (cvv cv0) 5 Tryz.underlying35 HiC.out.1 HiC.out.2.1 HiC.out.2.2.1 .i64 .i64 m rfl rfl (by rw[HiC.out.2.2.2];omega) (by unfold maxLen;omega) ?_;intro wm hwm;have HWM:=Hh hwm;clear hwm);have hwm:=HWM.out;obtain⟨g0,hg0⟩:∃g,g=wr.heap.size:=⟨_,rfl⟩;have hal:=(Below.refl wr.heap.size wr).alloc (Nat.le_refl _) (.cells (madeCells (cvv cv0).cells (m*5)) 123);have hmk:=heap_alloc_new wr (.cells (madeCells (cvv cv0).cells (m*5)) 123);have how:=zkS wr m (w.heap.size+1) (by unfold maxLen;omega) (zab GB.out.k);have hg1:w.heap.size<g0:=by have:=zab GB.out.k;omega
   rw[←hwm] at hal hmk how;rw[←hg0] at hmk how;have HG1:=Hh hg1;rw[←hg0];have GM:=Hh (show CoM w (Gr.mk x y (some ⟨bb,off,none⟩) c L) X Y g0 m wm.drew from(show CoM w (Gr.mk x y (some ⟨bb,off,none⟩) c L) X Y g0 m wm from⟨GB.out.next hal,HU0.out.next ((GB.out.next hal).b),hmk,how⟩).next (Below.drew' (Below.refl _ wm)));clear hal hmk how hwm HWM hg0 hg1 c0 c1 c2 c3 c4 GB hlt;have p0:=GM.out;clear GM;go_region_held3 (fun w'=>w'.cell? ⟨w.heap.size,0,none⟩=some (.bool x.s)∧w'.cell? ⟨w.heap.size,1,none⟩=some (.slice x.a x.xs.length x.c)∧w'.cell? ⟨w.heap.size,2,none⟩=some (.bool y.s)∧w'.cell? ⟨w.heap.size,3,none⟩=some (.slice y.a y.xs.length y.c)∧w'.cell? ⟨w.heap.size,4,none⟩=some (.slice (some ⟨bb,off,none⟩) high c))
    (exact CoM.cells9 HH.out (by assumption))
    (first
    | (have _t:=p0;go_at_call 97;clear _t;go_loud (rw[HH.out];refine(zbU (Gr.mk x y (some ⟨bb,off,none⟩) c L) _ p0.g.u).mono ?_;rintro e w3 ⟨rfl,b_⟩;rw[show zaP ((Gr.mk x y (some ⟨bb,off,none⟩) c L)).L=wide from HW.out.symm];try rw[←HH.out];have p1:=p0.next b_;clear p0 b_))
    | (have _t:=p1;go_at_call 103;clear _t;go_loud (refine(zdo x X wide _ p1.r.x hlx w9).mono ?_;rintro e w4 ⟨gc,Lc,X',rfl,oc,gotc,b_,hnx⟩;have pc:=p1.next b_;have OC:=Hh oc;have GC:=Hh gotc;have NX:=Hh hnx;have SZ:=Hh p1.lt;clear p1 b_ oc gotc hnx;have p2:=pc;clear pc))
    | (have _t:=p2;go_at_call 103;clear _t;go_loud (refine(zdo y Y high _ p2.r.y hly h9).mono ?_;rintro e w5 ⟨gl,Ll,Y',rfl,ol,gotl,b_,hny⟩;have OC5:=Hh (OC.out.next b_);have GC5:=Hh (show ∀i,i<wide→GIn w5 (gat Lc i) (X'+i)∧(gat Lc i).xs.length≤60 from fun i hi=>⟨(GC.out i hi).1.next b_,(GC.out i hi).2⟩);have OL:=Hh ol;have GL:=Hh gotl;have NY:=Hh hny;have SZ2:=Hh p2.lt;have pc:=p2.next b_;clear p2 b_ ol gotl hny;have p3:=pc;clear pc)))
   have hk1:=OC5.out.row;have hk2:=OL.out.row;have C1:=Hh (show Co1 w (Gr.mk x y (some ⟨bb,off,none⟩) c L) X' Y' wide high gc gl g0 Lc Ll w5 from⟨p3.g.b,p3.g.k,p3.g.u.t,fun b o e _=>by
     dsimp only at e;injection e with e
     injection e with e1 e2
     have:=HBB.out;have:=HG1.out;omega,⟨_,OC5.out⟩,GC5.out,⟨_,OL.out⟩,GL.out,zwH p3.md,by have:=SZ.out;omega,by have:=SZ2.out;omega,by have:=HG1.out;omega⟩)
   have C2:=Hh (show Co2 w5 wide high g0 Lc Ll (w.heap.size+1) (.slice (some ⟨g0,0,none⟩) 0 m) [] w5 from⟨zwI _ _,p3.own,fun k e=>by(left;simpa [Value.ownBlock] using e.symm),fun x hx=>by simp at hx⟩);have BA:=Hh p3.g.b;have HG0:=HG1;clear OC OC5 GC GC5 OL GL SZ SZ2 p3 hk1 hk2;obtain⟨M,hM⟩:∃M,M=picS L:=⟨_,rfl⟩;have HMM:=Hh hM;have NZ:=Hh (And.intro NX.out NY.out);obtain⟨c0,c1,c2,c3,c4⟩:=Gr.cells (C1.out.box C2.out.gb);dsimp only at c0 c1 c2 c3 c4;rw[←HH.out] at c4;clear hM HG1 hc NX NY;go_wp2_with fail;go_loopw [43,6] (fun z1 z2 wr=>∃(k:Nat) (v:Value) (N:List Cv),z1=.int .i64 k∧v=z2∧k≤high∧Co2 w5 wide high g0 Lc Ll (w.heap.size+1) v N wr∧N.map Cv.cl=picL M X' Y' wide k) (fun z1 _ _=>high-(intOf z1).toNat)
   case atStart=>exact⟨0,_,_,rfl,rfl,Nat.zero_le _,C2.out,rfl⟩
   case round =>
    obtain⟨k,v,N,rfl,rfl,hk,h2,hN⟩:=hrel;clear C2 c0 c1 c2 c3 c4;have kw:IntKind.i64.wrap ((k:Int)+1)=(k:Int)+1:=IntWalk.i64_in _ (by omega);by_cases hlt:k<high
    ·have s0:=C1.out.row h2.gb (b:=bb) (off:=off) rfl (j:=k) (by dsimp only;have:=HH.out;omega);unfold strV at s0;dsimp only at s0;have hlen:=zgt HR.out (show k<L.length by have:=HH.out;omega);obtain⟨s,hs⟩:∃s:ByteArray,s=⟨(tat L k).toArray⟩:=⟨_,rfl⟩;rw[←hs] at s0;have hs2:s.size=wide:=by rw[hs,zef,hlen,HW.out]
     have HS2:=Hh hs2;have HS:=Hh hs;have j1:(k:Int)<(high:Int):=by omega
     have HK:=Hh hlt;have H2:=Hh h2;have HN:=Hh hN;clear hs hlen h2 hN hk hlt;go_wp2_with fail;go_loopw [50,6] (fun z1 z2 wr=>∃(i:Nat) (v:Value) (N2:List Cv),z1=.int .i64 i∧v=z2∧i≤wide∧Co2 w5 wide high g0 Lc Ll (w.heap.size+1) v N2 wr∧N2.map Cv.cl=picL M X' Y' wide k++rowC M X' Y' k i) (fun z1 _ _=>wide-(intOf z1).toNat)
     case atStart=>exact⟨0,_,_,rfl,rfl,Nat.zero_le _,H2.out,by rw[HN.out,zrq,List.append_nil]⟩
     case round =>
      obtain⟨i,v2,N2,rfl,rfl,hi,h2,hN2⟩:=hrel;clear s0 H2 HN;have iw:IntKind.i64.wrap ((i:Int)+1)=(i:Int)+1:=IntWalk.i64_in _ (by omega);by_cases hlt:i<wide
      ·have hlt':i<s.size:=by omega
       have HGT:=Hh (zbQ hlt');have hMb:M k i=((s[i]'hlt').toNat:Int):=by
        have e1:=zwK (L:=L) (k:=k) (i:=i) (by have:=HH.out;have:=HK.out;omega) (by rw[zgt HR.out (show k<L.length by have:=HH.out;have:=HK.out;omega),←HW.out];exact hlt);rw[HMM.out,e1];rw[zyf HS.out hlt' (by rw[zgt HR.out (show k<L.length by have:=HH.out;have:=HK.out;omega),←HW.out];exact hlt)]
       obtain⟨bt,hbt⟩:∃b,b=s[i]'hlt':=⟨_,rfl⟩;rw[←hbt] at hMb;have hb9:bt.toNat≤255:=by have:=bt.toNat_lt;omega
       have HMB:=Hh hMb;have HB9:=Hh hb9;have HI:=Hh hlt;have H2:=Hh h2;have HN2:=Hh hN2;have x1:(i:Int)<(s.size:Int):=by omega
       by_cases hz:bt.toNat=0
       ·have u1:((((s[i]'hlt').toNat:Nat):Int)!=0)=false:=by rw[←hbt,hz];rfl
        have HZ:=Hh (show M k i=0 by rw[hMb,hz];rfl);clear hMb hbt hb9 h2 hN2 hi hz;go_wp2_with fail;go_roundw
        case rel=>exact⟨i+1,_,_,by go_num,rfl,by have:=HI.out;omega,H2.out,by rw[HN2.out,zdK,if_pos HZ.out,List.append_nil]⟩
        case measure=>have:=HI.out;simp[intOf];omega
       ·have u1:((((s[i]'hlt').toNat:Nat):Int)!=0)=true:=by rw[←hbt,bne_iff_ne];omega
        have HZ:=Hh (show ¬ M k i=0 by rw[hMb];omega);have i1:(i:Int)<(wide:Int):=by omega
        have hle:N2.length≤999999:=by
         have e1:(N2.map Cv.cl).length=N2.length:=List.length_map _;rw[hN2,List.length_append] at e1;have e2:=znJ M X' Y' wide k;have e3:=zjE M X' Y' k i;have e4:wide*k≤1000*999:=Nat.mul_le_mul w9 (by have:=HK.out;omega);omega
        have HLE:=Hh hle;have HCL:=Hh (show(N2++[mkC (gat Lc i) (gat Ll k) (s[i]'hlt').toNat]).map Cv.cl=picL M X' Y' wide k++rowC M X' Y' k (i+1) by
         rw[List.map_append,hN2,zdK,if_neg HZ.out,List.append_assoc];congr 2;show[(mkC (gat Lc i) (gat Ll k) (s[i]'hlt').toNat).cl]=_;rw[(C1.out.cv h2.gb HI.out HK.out (by rw[←hbt];exact hb9)).2.2,←hbt,←hMb])
        clear hMb hb9 h2 hN2 hi hz hle;go_wp2_with fail;refine wp_region_noPanic ?_;refine wp_region_held (S:=fun w'=>w'.cell? ⟨gc,i*2,none⟩=some (.bool (gat Lc i).s)∧w'.cell? ⟨gc,i*2+1,none⟩=some (.slice (gat Lc i).a (gat Lc i).xs.length (gat Lc i).c)∧w'.cell? ⟨gl,k*2,none⟩=some (.bool (gat Ll k).s)∧w'.cell? ⟨gl,k*2+1,none⟩=some (.slice (gat Ll k).a (gat Ll k).xs.length (gat Ll k).c)) (by kernel_rfl) ?_;obtain⟨W1,hW1⟩:∃W1:World,W1=wr.drew:=⟨_,rfl⟩;have H3:=Hh H2.out.drew;rw[←hW1] at H3;change wpAnyH _ _ _ _ _ _ _ _ wr.drew;rw[←hW1];clear hW1 H2;have HSC:=Hh (show ∀W,w5.grownBy W (some g0)→(W.cell? ⟨gc,i*2,none⟩=some (.bool (gat Lc i).s)∧W.cell? ⟨gc,i*2+1,none⟩=some (.slice (gat Lc i).a (gat Lc i).xs.length (gat Lc i).c)∧W.cell? ⟨gl,k*2,none⟩=some (.bool (gat Ll k).s)∧W.cell? ⟨gl,k*2+1,none⟩=some (.slice (gat Ll k).a (gat Ll k).xs.length (gat Ll k).c)) from fun W gb=>⟨(C1.out.col gb HI.out).1,(C1.out.col gb HI.out).2,(C1.out.line gb HK.out).1,(C1.out.line gb HK.out).2⟩);have hS0:=HSC.out _ H3.out.gb;refine Tk1 (v:=?_) 0 hS0 ?_ ?_;rotate_left
        ·rintro w' ⟨_,_,_,_⟩;go_simp;first|done|with_reducible rfl|rfl
        simp only[Act.put,LA];refine Tk1 (v:=?_) 1 hS0 ?_ ?_;rotate_left
        ·rintro w' ⟨_,_,_,_⟩;go_simp;first|done|with_reducible rfl|rfl
        simp only[Act.put,LA];refine Tk1 (v:=?_) 2 hS0 ?_ ?_;rotate_left
        ·rintro w' ⟨_,_,_,_⟩;go_simp;first|done|with_reducible rfl|rfl
        simp only[Act.put,LA];refine Tk1 (v:=?_) 3 hS0 ?_ ?_;rotate_left
        ·rintro w' ⟨_,_,_,_⟩;go_simp;first|done|with_reducible rfl|rfl
        simp only[Act.put,LA];refine Tk1 (v:=?_) 4 hS0 ?_ ?_;rotate_left
        ·rintro w' ⟨_,_,_,_⟩;go_simp;first|done|with_reducible rfl|rfl
        simp only[Act.put,LA];refine Tk1 (v:=?_) 5 hS0 ?_ ?_;rotate_left
        ·rintro w' ⟨_,_,_,_⟩;go_simp;first|done|with_reducible rfl|rfl
        simp only[Act.put,LA];refine Tk1 (v:=?_) 6 hS0 ?_ ?_;rotate_left
        ·rintro w' ⟨_,_,_,_⟩;go_simp;first|done|with_reducible rfl|rfl
        simp only[Act.put,LA];refine Tk1 (v:=?_) 7 hS0 ?_ ?_;rotate_left
        ·rintro w' ⟨_,_,_,_⟩;go_simp;first|done|with_reducible rfl|rfl
        simp only[Act.put,LA];refine Tk1 (v:=?_) 8 hS0 ?_ ?_;rotate_left
        ·rintro w' ⟨_,_,_,_⟩;go_simp;first|done|with_reducible rfl|rfl
        simp only[Act.put,LA];refine Tk1 (v:=?_) 9 hS0 ?_ ?_;rotate_left
        ·rintro w' ⟨_,_,_,_⟩;go_simp;first|done|with_reducible rfl|rfl
        simp only[Act.put,LA];refine Tk1 (v:=?_) 10 hS0 ?_ ?_;rotate_left
        ·rintro w' ⟨_,_,_,_⟩;go_simp;first|done|with_reducible rfl|rfl
        simp only[Act.put,LA];refine Tk1 (v:=?_) 11 hS0 ?_ ?_;rotate_left
        ·rintro w' ⟨_,_,_,_⟩;go_simp;first|done|with_reducible rfl|rfl
        simp only[Act.put,LA];refine Tk1 (v:=?_) 12 hS0 ?_ ?_;rotate_left
        ·rintro w' ⟨_,_,_,_⟩;go_simp;first|done|with_reducible rfl|rfl
        simp only[Act.put,LA];refine Rd1 13 fun K hK=>?_;go_simp;have ga:=zmj H3.out.gb (World.grownBy_alloc W1 (.cells #[.bool (gat Lc i).s,.slice (gat Lc i).a (gat Lc i).xs.length (gat Lc i).c,.bool (gat Ll k).s,.slice (gat Ll k).a (gat Ll k).xs.length (gat Ll k).c,.int .u8 (((s[i]'hlt').toNat:Nat):Int)] 123) none) (fun _ e=>by cases e);refine hK.out _ _ (HSC.out _ ga) (fun _=>?_);clear hK K;refine Rd1 14 fun K hK=>?_
        try rw[if_pos (by rfl)]
        refine zfR (.tmp 57) (.tmp 70) rfl (w.heap.size+1) v2 N2 (mkC (gat Lc i) (gat Ll k) (s[i]'hlt').toNat) ⟨W1.heap.size,0,none⟩ 1 rfl rfl (H3.out.own.alloc _) (zjm _ _) (by have:=HLE.out;omega) (by have h1:=ga.size;have h2:=BA.out.size;have h3:=zab C1.out.uk;omega) ?_;intro v3 w3 ho hg hk;simp only[Act.put,LA];have H5:=Hh (H3.out.more HI.out HK.out (by have:=HB9.out;rwa [hbt] at this) ho hg hk);clear ho hg hk;refine hK.out _ _ (HSC.out _ H5.out.gb) (fun hS9=>?_);clear hK K;refine Tk1 (v:=?_) 15 hS9 ?_ ?_;rotate_left
        ·rintro w' ⟨_,_,_,_⟩;go_simp;first|done|with_reducible rfl|rfl
        simp only[Act.put,LA];refine wpAnyH_done (by kernel_rfl) ?_ _;refine NoPanic.normal ?_;go_wp2_with fail;go_roundw
        case rel=>exact⟨i+1,_,_,by go_num,rfl,by have:=HI.out;omega,H5.out,HCL.out⟩
        case measure=>have:=HI.out;simp[intOf];omega
      ·have e:i=wide:=by omega
       subst e;have H2:=Hh h2;have HN2:=Hh hN2;have hlt2:decide ((i:Int)<(s.size:Int))=false:=decide_eq_false (by omega);clear h2 hN2 hi hlt;obtain⟨c0,c1,c2,c3,c4⟩:=Gr.cells (C1.out.box H2.out.gb);go_wp2_with fail;go_roundw
       case rel=>exact⟨k+1,_,_,by go_num,rfl,by have:=HK.out;omega,H2.out,by rw[HN2.out,zff]⟩
       case measure=>have:=HK.out;simp[intOf];omega
    ·have e:k=high:=by omega
     have HN:=Hh hN;obtain⟨A',c',hv,hcs,hnone,-⟩:=h2.own.cs (fun x hx=>by
      obtain⟨i,j,st,a1,a2,a3,rfl⟩:=h2.of_ x hx;exact(C1.out.cv h2.gb a1 a2 a3).1)
     have HCR:=Hh (show ∀x∈N,CvR x from fun x hx=>by
      obtain⟨i,j,st,a1,a2,a3,rfl⟩:=h2.of_ x hx;exact(C1.out.cv h2.gb a1 a2 a3).2.1)
     have HCS:=Hh hcs;have HNO:=Hh hnone;have HBF:=Hh (show Below w.heap.size w wr from⟨h2.gb.os.trans BA.out.os,h2.gb.tape.trans BA.out.tape,h2.gb.output.trans BA.out.output,Nat.le_trans BA.out.size h2.gb.size,fun i hi=>(h2.gb.block i (by have:=BA.out.size;omega) (fun e=>by(cases e;have:=HG0.out;omega))).trans (BA.out.block i hi)⟩);subst hv;have hlt2:decide ((k:Int)<(high:Int))=false:=decide_eq_false (by omega);clear h2 hN hk hcs hnone;go_wp2_with fail;go_ret;refine⟨A',c',_,N,X',Y',rfl,rfl,HCS.out,HNO.out,HBF.out,?_,HCR.out,NZ.out.1,NZ.out.2⟩;rw[HN.out,HMM.out,HW.out,e,HH.out]
theorem zkU (x y:Bw)(a:Option Addr)(c:Nat)(X Y:Int)(w:World)(h:(Gr.mk x y a c []).R w X Y)(hlx:x.xs.length≤50)(hly:y.xs.length≤50) :
  Calls Tryz.prog 69 #[.agg #[.bool x.s,.slice x.a x.xs.length x.c,.bool y.s,.slice y.a y.xs.length y.c,.slice a 0 c]] w (zwJ (Gr.mk x y a c []) X Y w):=by
 obtain⟨iC,hiC⟩:=zbL Tryz.infoC;have HiC:=Hh hiC;have hcap:=h.t.cap;dsimp only[List.length_nil] at hcap;have HU0:=Hh h;have GB:=Hh (GrB.start h.u);obtain⟨c0,c1,c2,c3,c4⟩:=Gr.cells GB.out.k;dsimp only[List.length_nil,Gr.obj] at c0 c1 c2 c3 c4;clear hiC h;go_enter Tryz.func69,Tryz.ntmps69;go_wp2_with fail;go_loopw [15,5,3] (fun z1 z2 z3 wr=>∃(v:Value),z1=.int .i64 0∧v=z2∧z3=.int .i64 0∧GrB w (Gr.mk x y a c []) wr) (fun z1 _ _ _=>0)
 case atStart=>exact⟨_,rfl,rfl,rfl,GB.out⟩
 case round =>
  obtain⟨v,rfl,rfl,rfl,hb⟩:=hrel;clear GB c0 c1 c2 c3 c4;have GB:=Hh hb;obtain⟨c0,c1,c2,c3,c4⟩:=Gr.cells GB.out.k;dsimp only[List.length_nil] at c0 c1 c2 c3 c4;clear hb;go_wp2_with (at_make;refine zdM _ rfl _ _ 35 rfl 123 iC (cvv cv0) 5 Tryz.underlying35 HiC.out.1 HiC.out.2.1 HiC.out.2.2.1 .i64 .i64 0 rfl rfl (by omega) (by unfold maxLen;omega) ?_;intro wm hwm;have HWM:=Hh hwm;clear hwm);have hwm:=HWM.out;obtain⟨g0,hg0⟩:∃g,g=wr.heap.size:=⟨_,rfl⟩;have hal:=(Below.refl wr.heap.size wr).alloc (Nat.le_refl _) (.cells (madeCells (cvv cv0).cells (0*5)) 123);have hmk:=heap_alloc_new wr (.cells (madeCells (cvv cv0).cells (0*5)) 123);have how:=zkS wr 0 (w.heap.size+1) (by unfold maxLen;omega) (zab GB.out.k);rw[←hwm] at hal hmk how;rw[←hg0] at hmk how;rw[←hg0];have GM:=Hh (show CoM w (Gr.mk x y a c []) X Y g0 0 wm.drew from(show CoM w (Gr.mk x y a c []) X Y g0 0 wm from⟨GB.out.next hal,HU0.out.next ((GB.out.next hal).b),hmk,how⟩).next (Below.drew' (Below.refl _ wm)));clear hal hmk how hwm HWM hg0 c0 c1 c2 c3 c4 GB;have p0:=GM.out;clear GM;go_region_held3 (fun w'=>w'.cell? ⟨w.heap.size,0,none⟩=some (.bool x.s)∧w'.cell? ⟨w.heap.size,1,none⟩=some (.slice x.a x.xs.length x.c)∧w'.cell? ⟨w.heap.size,2,none⟩=some (.bool y.s)∧w'.cell? ⟨w.heap.size,3,none⟩=some (.slice y.a y.xs.length y.c)∧w'.cell? ⟨w.heap.size,4,none⟩=some (.slice a 0 c))
   (exact CoM.cells9 (L:=[]) rfl (by assumption))
   (first
   | (have _t:=p0;go_at_call 97;clear _t;go_loud (refine(zbU (Gr.mk x y a c []) _ p0.g.u).mono ?_;rintro e w3 ⟨rfl,b_⟩;rw[show zaP ((Gr.mk x y a c [])).L=0 from rfl];have p1:=p0.next b_;clear p0 b_))
   | (have _t:=p1;go_at_call 103;clear _t;go_loud (refine(zdo x X 0 _ p1.r.x hlx (by omega)).mono ?_;rintro e w4 ⟨gc,Lc,X',rfl,oc,gotc,b_,hnx⟩;have p2:=p1.next b_;have NX:=Hh hnx;clear p1 b_ oc gotc hnx))
   | (have _t:=p2;go_at_call 103;clear _t;go_loud (refine(zdo y Y 0 _ p2.r.y hly (by omega)).mono ?_;rintro e w5 ⟨gl,Ll,Y',rfl,ol,gotl,b_,hny⟩;have NY:=Hh hny;have p3:=p2.next b_;clear p2 b_ ol gotl hny)))
  have P3:=Hh p3;obtain⟨c0,c1,c2,c3,c4⟩:=Gr.cells p3.g.k;dsimp only[List.length_nil] at c0 c1 c2 c3 c4;clear p3;go_wp2_with fail;go_loopw [43,6] (fun z1 z2 wr=>z1=.int .i64 0∧z2=.slice (some ⟨g0,0,none⟩) 0 0∧wr=w5) (fun z1 _ _=>0)
  case atStart=>exact⟨rfl,rfl,rfl⟩
  case round =>
   obtain⟨rfl,rfl,rfl⟩:=hrel;obtain⟨A',c',hv,hcs,hnone,-⟩:=P3.out.own.cs (fun x hx=>by simp at hx);have hv':A'=some ⟨g0,0,none⟩∧c'=0:=by
    have:=hv;simp at this;exact⟨this.1.symm,this.2.symm⟩
   obtain⟨rfl,rfl⟩:=hv';have HCS:=Hh hcs;clear hv hcs hnone;go_wp2_with fail;go_ret;exact⟨some ⟨g0,0,none⟩,0,0,[],X',Y',rfl,rfl,HCS.out,fun e=>by(cases e),P3.out.g.b,rfl,fun x hx=>by simp at hx,NX.out,NY.out⟩
theorem zmk (u:Gr)(X Y:Int)(w:World)(h:u.R w X Y)(hlx:u.x.xs.length≤50)(hly:u.y.xs.length≤50)(hr:zcM u.L=true) :
  Calls Tryz.prog 69 #[u.val] w (zwJ u X Y w):=by
 obtain⟨x,y,a,c,L⟩:=u;cases L with
 | nil=>exact zkU x y a c X Y w h hlx hly
 | cons r L =>
  obtain⟨bb,off,e,-,-⟩:=h.t.at_ (by simp)
  dsimp only at e;subst e;exact zkT x y bb off c (r :: L) X Y w h hlx hly hr (by simp)
def zhT (u:Gr):List Cl:=picL (picS u.L) (ival u.x.s u.x.xs) (ival u.y.s u.y.xs) (zaP u.L) u.L.length
def GqI (u:Gr)(er:Int)(q:List Nd):Prop :=
 (zbZ u=false→er=1∧q=[])∧(zbZ u=true→(1329<zaJ (zhT u)→er=4∧q=[])∧(zaJ (zhT u)≤1329→er=0∧zaW (zhT u) q))
theorem GqI.one {u:Gr}{er er':Int}{q q':List Nd}(h:GqI u er q)(k:GqI u er' q'):er=er'∧q=q':=by
 cases hr:zbZ u with
 | false=>exact⟨(h.1 hr).1.trans (k.1 hr).1.symm,(h.1 hr).2.trans (k.1 hr).2.symm⟩
 | true =>
  by_cases h9:zaJ (zhT u)≤1329
  ·obtain⟨e1,q1⟩:=(h.2 hr).2 h9;obtain⟨e2,q2⟩:=(k.2 hr).2 h9;exact⟨e1.trans e2.symm,ziq q1 q2 fun _ _=>rfl⟩
  ·obtain⟨e1,q1⟩:=(h.2 hr).1 (by omega);obtain⟨e2,q2⟩:=(k.2 hr).1 (by omega);exact⟨e1.trans e2.symm,q1.trans q2.symm⟩
def zyg (u:Gr)(w:World)(e:Ending)(w':World):Prop :=
 ∃A c n q er,e=.returned (.tuple #[.agg #[.slice A n c],.int .i64 er])∧q.length=n∧Ns w' A c q∧(A=none→c=0)∧Below w.heap.size w w'∧GqI u er q
theorem zyY {v:Cv}(h:CvR v):okC v=true:=by
 unfold okC;rw[Bool.and_eq_true];exact⟨zfO h.1,zfO h.2.1⟩
theorem zkV (M:Int→Int→Int)(X Y U V:Int)(wide high:Nat):(picL M X Y wide high).length=(picL M U V wide high).length:=by
 have h:=zjC M X Y (U-X) (V-Y) wide high;rw[show X+(U-X)=U by omega,show Y+(V-Y)=V by omega] at h;rw[←h,List.length_map]
theorem zwL {u:Gr}{X Y X' Y':Int}{N:List Cv}{out:List Nd}{er:Int}(hx:ival u.x.s u.x.xs=X)(hy:ival u.y.s u.y.xs=Y)(hr:zbZ u=true)(hN:N.map Cv.cl=picL (picS u.L) X' Y' (zaP u.L) u.L.length)(hR:∀x∈N,CvR x)(hst:∀x∈N,x.st≤255)
  (nx:zhw X X' (zaP u.L)) (ny:zhw Y Y' u.L.length) (h:OfC N out er):GqI u er out:=by
 refine⟨fun e=>by(rw[hr] at e;cases e),fun _=>?_⟩;have hok:N.all okC=true:=List.all_eq_true.2 fun v hv=>zyY (hR v hv);have hl:zaR (N.map Cv.cl)=picL (picS u.L) X' Y' (zaP u.L) u.L.length:=by rw[hN,zhx]
 have hg:zhT u=picL (picS u.L) X Y (zaP u.L) u.L.length:=by unfold zhT;rw[hx,hy]
 have hn:=ztZ (M:=picS u.L) nx ny;rw[←hg] at hn;have h2:=h.2 hok;rw[hl] at h2;rcases hn with e|⟨e1,e2⟩
 ·rw[e];refine⟨fun h9=>(h2.1 h9),fun h9=>?_⟩;have:=h.quad hok hst (by rw[hl];exact h9)
  rwa [hl] at this
 ·exact⟨fun _=>h2.1 e2,fun h9=>absurd e1 (by omega)⟩
theorem zkW {X U:Int}(h:∀m,m≤1000→zhw X U m){n:Nat}(hn:n≤1000):zhw X U n:=h n hn
theorem zwM {u:Gr}{w:World}(h:u.U w)(hr:zbZ u=true):u.R w (ival u.x.s u.x.xs) (ival u.y.s u.y.xs):=by
 unfold zbZ at hr;rw[Bool.and_eq_true,Bool.and_eq_true] at hr;exact⟨⟨h.x,zcD hr.1,rfl⟩,⟨h.y,zcD hr.2.1,rfl⟩,h.t⟩
theorem ziE {u:Gr}(hr:zbZ u=true):zcM u.L=true:=by
 unfold zbZ at hr;rw[Bool.and_eq_true,Bool.and_eq_true] at hr;exact hr.2.2
theorem zhy {L:List (List UInt8)}(hr:zcM L=true):zaP L≤1000∧L.length≤1000:=by
 unfold zcM at hr;rw[Bool.and_eq_true,Bool.and_eq_true,decide_eq_true_iff,decide_eq_true_iff] at hr;exact hr.1
structure Qq (w:World)(u:Gr)(W:World):Prop where
 b:Below w.heap.size w W
 gk:W.heap[w.heap.size]?=some u.obj
 rk:W.heap[w.heap.size+1]?=some (.cells #[.slice none 0 0] 27)
 u:u.U W
theorem Qq.next {w W W':World}{u:Gr}(h:Qq w u W)(k:Below W.heap.size W W'):Qq w u W' :=
 ⟨h.b.trans (k.mono h.b.size),(k.block _ (zab h.gk)).trans h.gk,(k.block _ (zab h.rk)).trans h.rk,h.u.next k⟩
theorem Qq.start {w:World}{u:Gr}(h:u.U w):Qq w u ((w.alloc u.obj).alloc (.cells #[.slice none 0 0] 27)):=by
 have b1:=(Below.refl w.heap.size w).alloc (Nat.le_refl _) u.obj;have b2:=b1.alloc b1.size (.cells #[.slice none 0 0] 27);have x2:=heap_alloc_new (w.alloc u.obj) (.cells #[.slice none 0 0] 27);rw[World.size_alloc] at x2;exact⟨b2,(((Below.refl _ _).alloc (Nat.le_refl _) _).block _ (by rw[World.size_alloc];omega)).trans (heap_alloc_new w _),x2,h.next b2⟩
theorem zkX (u:Gr)(w:World)(h:u.U w)(hlx:u.x.xs.length≤50)(hly:u.y.xs.length≤50)(hct:zbZ u=true→(picL (picS u.L) 0 0 (zaP u.L) u.L.length).length≤600) :
  Calls Tryz.prog 41 #[u.val] w (zyg u w):=by
 have HQ:=Hh (Qq.start h);obtain⟨c0,c1,c2,c3,c4⟩:=Gr.cells HQ.out.gk;have z0:=zaa HQ.out.rk;have f0:=zam HQ.out.rk;cases hr:zbZ u with
 | false =>
  have HR:=Hh hr;clear h hct hr;go_enter Tryz.func41,Tryz.ntmps41;go_wp2_with (go_at_call 67;go_loud (refine(ziD u _ HQ.out.u (by omega) (by omega)).mono ?_;rintro e w2 ⟨rfl,b_⟩;rw[HR.out];have HQ:=Hh (HQ.out.next b_);clear c0 c1 c2 c3 c4 z0 f0 b_;obtain⟨c0,c1,c2,c3,c4⟩:=Gr.cells HQ.out.gk;have z0:=zaa HQ.out.rk;have f0:=zam HQ.out.rk));have e1:=World.cell?_setCell_same _ _ (.slice none 0 0) z0;refine bodyPost_ret (v:=.tuple #[.agg #[.slice none 0 0],.int .i64 1]) (by simp[results,Tryz.results41,go_sem,e1]) rfl ?_;exact⟨none,0,0,[],1,rfl,rfl,zil _,fun _=>rfl,HQ.out.b.setCell (p:=⟨w.heap.size+1,0,none⟩) (by show w.heap.size≤w.heap.size+1;omega) _,fun _=>⟨rfl,rfl⟩,fun e=>by(rw[HR.out] at e;cases e)⟩
 | true =>
  have HR:=Hh hr;have HCT:=Hh (hct hr);have HRW:=Hh (zhy (ziE hr));clear h hct hr;go_enter Tryz.func41,Tryz.ntmps41;go_wp2_with (first
   | (go_at_call 67;go_loud (refine(ziD u _ HQ.out.u (by omega) (by omega)).mono ?_;rintro e w2 ⟨rfl,b_⟩;rw[HR.out];have HQ:=Hh (HQ.out.next b_);clear c0 c1 c2 c3 c4 z0 f0 b_;obtain⟨c0,c1,c2,c3,c4⟩:=Gr.cells HQ.out.gk;have z0:=zaa HQ.out.rk;have f0:=zam HQ.out.rk))
   | (go_at_call 69;go_loud (refine(zmk u _ _ _ (zwM HQ.out.u HR.out) hlx hly (ziE HR.out)).mono ?_;rintro e w3 ⟨A3,c3',n3,N,X',Y',rfl,hn3,cs3,a3,b_,hN,hNR,nx,ny⟩;have HQ:=Hh (HQ.out.next b_);have CS:=Hh cs3;have HN:=Hh hN;have HN3:=Hh hn3;have HNR:=Hh hNR;have NXY:=Hh (And.intro nx ny);have LE6:=Hh (show n3≤600 by(have h1:(N.map Cv.cl).length=N.length:=List.length_map _;rw[hN,zkV _ _ _ 0 0] at h1;have:=HCT.out;omega));clear cs3 a3 b_ hN hNR nx ny hn3 c0 c1 c2 c3 c4 z0 f0;obtain⟨c0,c1,c2,c3,c4⟩:=Gr.cells HQ.out.gk;have z0:=zaa HQ.out.rk;have f0:=zam HQ.out.rk))
   | (go_at_call 68;go_loud (refine(zws A3 c3' n3 N _ CS.out HN3.out LE6.out (fun v hv=>⟨(HNR.out v hv).2.2.1,(HNR.out v hv).2.2.2⟩)).mono ?_;rintro e w4 ⟨v',out,er,rfl,own4,b_,ofc⟩;obtain⟨A4,c4',rfl,n4,a4⟩:=own4.shape;have HST:=Hh (show ∀x∈N,x.st≤255 from fun x hx=>(CS.out.1 x hx).2.2);have HQ:=Hh (HQ.out.next b_);have N4:=Hh n4;have A4':=Hh a4.1;have OFC:=Hh ofc;clear own4 b_ ofc n4 a4 c0 c1 c2 c3 c4 z0 f0;obtain⟨c0,c1,c2,c3,c4⟩:=Gr.cells HQ.out.gk;have z0:=zaa HQ.out.rk;have f0:=zam HQ.out.rk)))
  have e1:=World.cell?_setCell_same _ _ (.slice A4 out.length c4') z0;refine bodyPost_ret (v:=.tuple #[.agg #[.slice A4 out.length c4'],.int .i64 er]) (by simp[results,Tryz.results41,go_sem,e1]) rfl ?_;exact⟨A4,c4',_,out,er,rfl,rfl,N4.out.boxed HQ.out.rk,A4'.out,HQ.out.b.setCell (p:=⟨w.heap.size+1,0,none⟩) (by show w.heap.size≤w.heap.size+1;omega) _,zwL rfl rfl HR.out HN.out HNR.out HST.out (zkW NXY.out.1 HRW.out.1) (zkW NXY.out.2 HRW.out.2) OFC.out⟩
def at0 (L:List (List UInt8)):Gr:=⟨bw0,bw0,none,0,L⟩
def GhI (q:List Nd)(n:Nat)(most er:Int)(p:List Nd):Prop :=
 ∃(er1 X Y:Int) (L:List (List UInt8)),GoI q n most er1 X Y L∧((er1≠0∧er=er1∧p=[])∨(er1=0∧GqI (at0 L) er p))
theorem GhI.one {q:List Nd}{n:Nat}{most er er':Int}{p p':List Nd}(h:GhI q n most er p)(k:GhI q n most er' p'):er=er'∧p=p':=by
 obtain⟨e1,X,Y,L,g1,h1⟩:=h;obtain⟨e2,X2,Y2,L2,g2,h2⟩:=k;obtain⟨rfl,rfl,rfl,rfl⟩:=g1.one g2;rcases h1 with⟨a,rfl,rfl⟩|⟨a,b⟩
 ·rcases h2 with⟨c,rfl,rfl⟩|⟨c,d⟩
  ·exact⟨rfl,rfl⟩
  ·exact absurd c a
 ·rcases h2 with⟨c,rfl,rfl⟩|⟨c,d⟩
  ·exact absurd a c
  ·exact b.one d
def zyZ (q:List Nd)(n:Nat)(most:Int)(w:World)(e:Ending)(w':World):Prop :=
 ∃A c m p er,e=.returned (.tuple #[.agg #[.slice A m c],.int .i64 er])∧p.length=m∧Ns w' A c p∧(A=none→c=0)∧Below w.heap.size w w'∧GhI q n most er p
structure Oh (w:World)(A:Option Addr)(n c:Nat)(q:List Nd)(W:World):Prop where
 b:Below w.heap.size w W
 qk:W.heap[w.heap.size]?=some (.cells #[.slice A n c] 27)
 rk:W.heap[w.heap.size+1]?=some (.cells #[.slice none 0 0] 27)
 ns:Ns W A c q
theorem Oh.next {w W W':World}{A:Option Addr}{n c:Nat}{q:List Nd}(h:Oh w A n c q W)(k:Below W.heap.size W W'):Oh w A n c q W' :=
 ⟨h.b.trans (k.mono h.b.size),(k.block _ (zab h.qk)).trans h.qk,(k.block _ (zab h.rk)).trans h.rk,h.ns.below k⟩
theorem Oh.start {w:World}{A:Option Addr}{n c:Nat}{q:List Nd}(h:Ns w A c q):Oh w A n c q ((w.alloc (.cells #[.slice A n c] 27)).alloc (.cells #[.slice none 0 0] 27)):=by
 have b1:=(Below.refl w.heap.size w).alloc (Nat.le_refl _) (.cells #[.slice A n c] 27);have b2:=b1.alloc b1.size (.cells #[.slice none 0 0] 27);have x2:=heap_alloc_new (w.alloc (.cells #[.slice A n c] 27)) (.cells #[.slice none 0 0] 27);rw[World.size_alloc] at x2;exact⟨b2,(((Below.refl _ _).alloc (Nat.le_refl _) _).block _ (by rw[World.size_alloc];omega)).trans (heap_alloc_new w _),x2,h.below b2⟩
theorem zza {W:World}{A:Option Addr}{c:Nat}{L:List (List UInt8)}(h:Ts W A c L):(Gr.mk bw0 bw0 A c L).U W:=⟨Us.nil _,Us.nil _,h⟩
theorem zrC (A:Option Addr)(c n:Nat)(q:List Nd)(most:Int)(w:World)(h:Ns w A c q)(hn:q.length=n)(hn9:n≤900000)(hg:zas q)(hm : -9223372036854775808≤most∧most≤9223372036854775807)
  (hct:∀er X Y L,GoI q n most er X Y L→(picL (picS L) 0 0 (zaP L) L.length).length≤600) :
  Calls Tryz.prog 42 #[.agg #[.slice A n c],.int .i64 most] w (zyZ q n most w):=by
 have HO:=Hh (Oh.start (n:=n) h);have HL:=Hh hn;have HG:=Hh hg;have HCT:=Hh hct;have y0:=zaa HO.out.qk;have z0:=zaa HO.out.rk;have f0:=zam HO.out.rk;clear h hn hg hct;go_enter Tryz.func42,Tryz.ntmps42;go_upto_if 15 with(go_at_call 70;go_loud (refine(zwC A c n q most _ HO.out.ns HL.out hn9 HG.out hm).mono ?_;rintro e w2 ⟨u,X,Y,er,rfl,ru,-,ua,b_,gi⟩;have hal:=(Below.refl w2.heap.size w2).alloc (Nat.le_refl _) u.obj;have UB:=Hh (heap_alloc_new w2 u.obj);have RU:=Hh (ru.next hal);have GI:=Hh gi;have HO:=Hh ((HO.out.next b_).next hal);clear ru ua b_ gi hal y0 z0 f0;have y0:=zaa HO.out.qk;have z0:=zaa HO.out.rk;have f0:=zam HO.out.rk;obtain⟨u0,u1,u2,u3,u4⟩:=Gr.cells UB.out))
 by_cases he:er=0
 ·subst he;go_wp2_with (go_at_call 41;go_loud (refine(zkX (Gr.mk bw0 bw0 u.a u.c u.L) _ (zza RU.out.t) (Nat.zero_le _) (Nat.zero_le _) (fun _=>HCT.out _ _ _ _ GI.out)).mono ?_;rintro e w3 ⟨A3,c3,m,p,er3,rfl,l3,n3,a3,b_,gq⟩;have HO:=Hh (HO.out.next b_);have L3:=Hh l3;have N3:=Hh n3;have A3':=Hh a3;have GQ:=Hh gq;clear l3 n3 a3 b_ gq y0 z0 f0 u0 u1 u2 u3 u4;have y0:=zaa HO.out.qk;have z0:=zaa HO.out.rk;have f0:=zam HO.out.rk));have e1:=World.cell?_setCell_same _ _ (.slice A3 m c3) z0;refine bodyPost_ret (v:=.tuple #[.agg #[.slice A3 m c3],.int .i64 er3]) (by simp[results,Tryz.results42,go_sem,e1]) rfl ?_;exact⟨A3,c3,m,p,er3,rfl,L3.out,N3.out.boxed HO.out.rk,A3'.out,HO.out.b.setCell (p:=⟨w.heap.size+1,0,none⟩) (by show w.heap.size≤w.heap.size+1;omega) _,0,X,Y,u.L,GI.out,.inr ⟨rfl,GQ.out⟩⟩
 ·have t1:(er != 0)=true:=by rw[bne_iff_ne];exact he
  have HE:=Hh he;clear he;go_wp2_with fail;have e1:=World.cell?_setCell_same _ _ (.slice none 0 0) z0;refine bodyPost_ret (v:=.tuple #[.agg #[.slice none 0 0],.int .i64 er]) (by simp[results,Tryz.results42,go_sem,e1]) rfl ?_;exact⟨none,0,0,[],er,rfl,rfl,zil _,fun _=>rfl,HO.out.b.setCell (p:=⟨w.heap.size+1,0,none⟩) (by show w.heap.size≤w.heap.size+1;omega) _,er,X,Y,u.L,GI.out,.inl ⟨HE.out,rfl,rfl⟩⟩
end Go.Proofs.YtbabbmdpgpcgjaaGreatDoor
