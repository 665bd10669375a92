import Derived.Test.YtfjajpnfjjdnpaaGreatDoorWGdG

set_option linter.unusedVariables false
set_option linter.unusedSimpArgs false
set_option maxRecDepth 100000
set_option maxHeartbeats 6400000
namespace Go.Proofs.YtfjajpnfjjdnpaaGreatDoor
open Go.RowKit Num Nds
structure Oo (w:World)(A:Option Addr)(n c:Nat)(q:List Nd)(W:World):Prop where
 b:Below w.heap.size w W
 qk:W.heap[w.heap.size]?=some (.cells #[.slice A n c] 28)
 rk:W.heap[w.heap.size+1]?=some gr0.obj
 ns:Ns W A c q
theorem Oo.next {w W W':World}{A:Option Addr}{n c:Nat}{q:List Nd}(h:Oo w A n c q W)(k:Below W.heap.size W W'):Oo w A n c q W' :=
 ⟨h.b.trans (k.mono h.b.size),(k.block _ (zag h.qk)).trans h.qk,(k.block _ (zag h.rk)).trans h.rk,h.ns.below k⟩
theorem Oo.start {w:World}{A:Option Addr}{n c:Nat}{q:List Nd}(h:Ns w A c q):Oo w A n c q ((w.alloc (.cells #[.slice A n c] 28)).alloc gr0.obj):=by
 have b1:=(Below.refl w.heap.size w).alloc (Nat.le_refl _) (.cells #[.slice A n c] 28);have b2:=b1.alloc b1.size gr0.obj;have x2:=heap_alloc_new (w.alloc (.cells #[.slice A n c] 28)) gr0.obj;rw[World.size_alloc] at x2;exact⟨b2,(((Below.refl _ _).alloc (Nat.le_refl _) _).block _ (by rw[World.size_alloc];omega)).trans (heap_alloc_new w _),x2,h.below b2⟩
theorem zuy (A:Option Addr)(c n:Nat)(q:List Nd)(most:Int)(w:World)(h:Ns w A c q)(hn:q.length=n)(hn9:n≤900000)(hg:zaq q)(hm : -9223372036854775808≤most∧most≤9223372036854775807)(h1:most<0) :
  Calls Tryz.prog 73 #[.agg #[.slice A n c],.int .i64 most] w (zsA q n most w):=by
 have hcap:=h.cap;rw[hn] at hcap;have HO:=Hh (Oo.start (n:=n) h);have HL:=Hh hn;have HG:=Hh hg;have t1:decide (most<0)=true:=decide_eq_true h1;have hr:=HO.out.rk;obtain⟨e0,e1,e2,e3,e4⟩:=Gr.cells hr;dsimp only[gr0,bw0,List.length_nil] at e0 e1 e2 e3 e4;have HH:=Hh (show most<0∨1000<most by omega);clear h hn hg hr;go_enter Tryz.func73,Tryz.ntmps73;go_wp2_with fail;refine bodyPost_ret (v:=.tuple #[gr0.val,.int .i64 1]) (by simp[results,Tryz.results73,go_sem,e0,e1,e2,e3,e4,gr0,bw0]) rfl ?_;exact⟨gr0,0,0,1,rfl,zsz _,⟨Nat.zero_le _,Nat.zero_le _⟩,fun _=>rfl,HO.out.b,.inl ⟨HH.out,rfl,rfl,rfl,rfl⟩⟩
theorem zuz (A:Option Addr)(c n:Nat)(q:List Nd)(most:Int)(w:World)(h:Ns w A c q)(hn:q.length=n)(hn9:n≤900000)(hg:zaq q)(hm : -9223372036854775808≤most∧most≤9223372036854775807)(h1:0≤most)(h2:1000<most) :
  Calls Tryz.prog 73 #[.agg #[.slice A n c],.int .i64 most] w (zsA q n most w):=by
 have hcap:=h.cap;rw[hn] at hcap;have HO:=Hh (Oo.start (n:=n) h);have HL:=Hh hn;have HG:=Hh hg;have t1:decide (most<0)=false:=decide_eq_false (by omega);have t2:decide (most>1000)=true:=decide_eq_true h2;have hr:=HO.out.rk;obtain⟨e0,e1,e2,e3,e4⟩:=Gr.cells hr;dsimp only[gr0,bw0,List.length_nil] at e0 e1 e2 e3 e4;have HH:=Hh (show most<0∨1000<most by omega);clear h hn hg hr;go_enter Tryz.func73,Tryz.ntmps73;go_wp2_with fail;refine bodyPost_ret (v:=.tuple #[gr0.val,.int .i64 1]) (by simp[results,Tryz.results73,go_sem,e0,e1,e2,e3,e4,gr0,bw0]) rfl ?_;exact⟨gr0,0,0,1,rfl,zsz _,⟨Nat.zero_le _,Nat.zero_le _⟩,fun _=>rfl,HO.out.b,.inl ⟨HH.out,rfl,rfl,rfl,rfl⟩⟩
theorem zuA (A:Option Addr)(c n:Nat)(q:List Nd)(most:Int)(w:World)(h:Ns w A c q)(hn:q.length=n)(hn9:n≤900000)(hg:zaq q)(hm : -9223372036854775808≤most∧most≤9223372036854775807)(h1:0≤most)(h2:most≤1000) :
  Calls Tryz.prog 73 #[.agg #[.slice A n c],.int .i64 most] w (zsA q n most w):=by
 have hcap:=h.cap;rw[hn] at hcap;have HO:=Hh (Oo.start (n:=n) h);have HL:=Hh hn;have HG:=Hh hg;have t1:decide (most<0)=false:=decide_eq_false (by omega);have t2:decide (most>1000)=false:=decide_eq_false (by omega);have y0:=zab HO.out.qk;clear h hn hg;go_enter Tryz.func73,Tryz.ntmps73;go_upto_if 18 with(go_at_call 121;go_loud (refine(zcO n c A q most _ HO.out.ns HL.out hn9 HG.out hm).mono ?_;rintro e w2 ⟨X,Y,V,H,ok,rfl,bv,b_⟩;have BV:=Hh bv;obtain⟨R,hR⟩:∃R,R=(decide (V≤most)&&decide (H≤most)):=⟨_,rfl⟩;rw[←hR];have HR:=Hh hR;have HO:=Hh (HO.out.next b_);clear b_ bv hR;obtain⟨z0,z1,z2,z3,z4⟩:=Gr.cells HO.out.rk;obtain⟨f0,f1,f2,f3,f4⟩:=Gr.free HO.out.rk;have y0:=zab HO.out.qk;dsimp only[gr0,bw0,List.length_nil] at z0 z1 z2 z3 z4))
 cases R with
 | false =>
  have hlim:most<V∨most<H:=by
   have:=HR.out;by_cases a:V≤most
   ·by_cases b:H≤most
    ·rw[decide_eq_true a,decide_eq_true b] at this;cases this
    ·omega
   ·omega
  have HLM:=Hh hlim;clear hlim;go_wp2_with fail;have QV:=zlg HO.out.rk gr0;obtain⟨e0,e1,e2,e3,e4⟩:=Gr.cells QV;dsimp only[gr0,bw0,putG,List.length_nil] at e0 e1 e2 e3 e4;refine bodyPost_ret (v:=.tuple #[gr0.val,.int .i64 4]) (by simp[results,Tryz.results73,go_sem,e0,e1,e2,e3,e4,gr0,bw0]) rfl ?_;exact⟨gr0,0,0,4,rfl,(zsz _),⟨Nat.zero_le _,Nat.zero_le _⟩,fun _=>rfl,zfm HO.out.b (by omega) gr0,.inr ⟨⟨h1,h2⟩,ok,X,Y,V,H,BV.out,.inl ⟨HLM.out,rfl,rfl,rfl,rfl⟩⟩⟩
 | true =>
  have hlim:V≤most∧H≤most:=by
   have:=HR.out.symm;rw[Bool.and_eq_true,decide_eq_true_iff,decide_eq_true_iff] at this;exact this
  have HLM:=Hh hlim;clear hlim;go_upto_if 26 with(go_at_call 122;go_loud (refine(zqa n c A q _ HO.out.ns HL.out hn9 HG.out).mono ?_;rintro e w3 ⟨u,X2,Y2,V2,H2,ok2,rfl,ru,su,b_,bv⟩;have hal:=(Below.refl w3.heap.size w3).alloc (Nat.le_refl _) u.obj;have BV2:=Hh (show BxV q n ok2 X2 Y2 V2 H2 from bv);have RU:=Hh (ru.next hal);have SU:=Hh su;have HG6:=Hh (show w.heap.size+1<w3.heap.size from zag (HO.out.next b_).rk);have HO:=Hh ((HO.out.next b_).next hal);have UB:=Hh (heap_alloc_new w3 u.obj);clear b_ bv ru su hal z0 z1 z2 z3 z4 f0 f1 f2 f3 f4 y0;obtain⟨z0,z1,z2,z3,z4⟩:=Gr.cells HO.out.rk;obtain⟨f0,f1,f2,f3,f4⟩:=Gr.free HO.out.rk;have y0:=zab HO.out.qk;dsimp only[gr0,bw0,List.length_nil] at z0 z1 z2 z3 z4))
  obtain⟨hk1,hk2,hk3,hk4,hk5⟩:=BV.out.one BV2.out;have HE:=Hh (And.intro hk1 (And.intro hk2 (And.intro hk3 (And.intro hk4 hk5))));clear hk1 hk2 hk3 hk4 hk5;cases ok2 with
  | false =>
   have hz:X2=0∧Y2=0∧V2=0∧H2=0:=by
    rcases BV2.out with⟨-,-,h⟩|⟨-,h,-⟩
    ·exact h
    ·cases h
   have HZ:=Hh hz;clear hz;go_wp2_with fail;have QV:=zlg HO.out.rk gr0;obtain⟨e0,e1,e2,e3,e4⟩:=Gr.cells QV;dsimp only[gr0,bw0,putG,List.length_nil] at e0 e1 e2 e3 e4;refine bodyPost_ret (v:=.tuple #[gr0.val,.int .i64 0]) (by simp[results,Tryz.results73,go_sem,e0,e1,e2,e3,e4,gr0,bw0]) rfl ?_;refine⟨gr0,0,0,0,rfl,(zsz _),⟨Nat.zero_le _,Nat.zero_le _⟩,fun _=>rfl,zfm HO.out.b (by omega) gr0,.inr ⟨⟨h1,h2⟩,false,X2,Y2,V2,H2,BV2.out,.inr ⟨by have:=HLM.out;have:=HE.out;omega,rfl,HZ.out.1.symm,HZ.out.2.1.symm,?_⟩⟩⟩;rw[HZ.out.2.2.1,HZ.out.2.2.2];rfl
  | true =>
   have hwd:=(show BxV q q.length true X2 Y2 V2 H2 by rw[HL.out];exact BV2.out).wide HG.out;obtain⟨wide,hwide⟩:∃k:Nat,V2=(k:Int):=⟨V2.toNat,by omega⟩;obtain⟨high,hhigh⟩:∃k:Nat,H2=(k:Int):=⟨H2.toNat,by omega⟩;have HWD:=Hh (And.intro hwide hhigh);have hbx:0<n∧BoxT (den q n) (at_ q (n-1)).lv.toNat X2 Y2 V2 H2:=by
    rcases BV2.out with⟨-,h,-⟩|⟨h,-,k⟩
    ·cases h
    ·exact⟨h,k⟩
   have HBX:=Hh hbx;have HMO:=Hh (show(0≤most∧most≤1000)∧V2≤most∧H2≤most by have:=HLM.out;have:=HE.out;omega);clear hwd hwide hhigh hbx;go_wp2_with fail;obtain⟨g6,hg6⟩:∃g,g=w3.heap.size:=⟨_,rfl⟩;obtain⟨W1,hW1⟩:∃W1:World,W1=(w3.alloc u.obj).drew:=⟨_,rfl⟩;have hd:=Below.drew' (Below.refl (w3.alloc u.obj).heap.size (w3.alloc u.obj));have HO1:=Hh (HO.out.next hd);have UB1:=Hh ((hd.block _ (zag UB.out)).trans UB.out);have RU1:=Hh (RU.out.next hd);rw[←hW1] at HO1 UB1 RU1;rw[←hg6] at UB1 HG6 ⊢;refine wp_region_noPanic ?_;refine wp_region_held (S:=fun w'=>w'.cell? ⟨w.heap.size,0,none⟩=some (.slice A n c)∧w'.cell? ⟨g6,0,none⟩=some (.bool u.x.s)∧w'.cell? ⟨g6,1,none⟩=some (.slice u.x.a u.x.xs.length u.x.c)∧w'.cell? ⟨g6,2,none⟩=some (.bool u.y.s)∧w'.cell? ⟨g6,3,none⟩=some (.slice u.y.a u.y.xs.length u.y.c)∧w'.cell? ⟨g6,4,none⟩=some (.bool u.w.s)∧w'.cell? ⟨g6,5,none⟩=some (.slice u.w.a u.w.xs.length u.w.c)∧w'.cell? ⟨g6,6,none⟩=some (.bool u.h.s)∧w'.cell? ⟨g6,7,none⟩=some (.slice u.h.a u.h.xs.length u.h.c)) (by kernel_rfl) ?_;change wpAnyH _ _ _ _ _ _ _ _ (w3.alloc u.obj).drew;rw[←hW1];clear hW1 hg6 hd HO UB RU z0 z1 z2 z3 z4 f0 f1 f2 f3 f4 y0;have hS0:=And.intro (zab HO1.out.qk) (Xb.cells UB1.out);refine Tk1 (v:=?_) 0 hS0 ?_ ?_;rotate_left
   ·rintro w' ⟨_,_,_,_,_,_,_,_,_⟩;go_simp;first|done|with_reducible rfl|rfl
   simp only[Act.put,LA];refine Tk1 (v:=?_) 1 hS0 ?_ ?_;rotate_left
   ·rintro w' ⟨_,_,_,_,_,_,_,_,_⟩;go_simp;first|done|with_reducible rfl|rfl
   simp only[Act.put,LA];refine Tk1 (v:=?_) 2 hS0 ?_ ?_;rotate_left
   ·rintro w' ⟨_,_,_,_,_,_,_,_,_⟩;go_simp;first|done|with_reducible rfl|rfl
   simp only[Act.put,LA];refine Tk1 (v:=?_) 3 hS0 ?_ ?_;rotate_left
   ·rintro w' ⟨_,_,_,_,_,_,_,_,_⟩;go_simp;first|done|with_reducible rfl|rfl
   simp only[Act.put,LA];refine Tk1 (v:=?_) 4 hS0 ?_ ?_;rotate_left
   ·rintro w' ⟨_,_,_,_,_,_,_,_,_⟩;go_simp;first|done|with_reducible rfl|rfl
   simp only[Act.put,LA];refine Tk1 (v:=?_) 5 hS0 ?_ ?_;rotate_left
   ·rintro w' ⟨_,_,_,_,_,_,_,_,_⟩;go_simp;first|done|with_reducible rfl|rfl
   simp only[Act.put,LA];refine Rd1 6 fun K hK=>?_;go_simp;refine(znR A n c wide high q u X2 Y2 W1 HO1.out.ns HL.out HBX.out.1 hn9 HG.out (by rw[←HWD.out.1,←HWD.out.2];exact RU1.out) SU.out (by rw[←HWD.out.1,←HWD.out.2];exact HBX.out.2) (by have:=HMO.out;have:=HWD.out;omega) (by have:=HMO.out;have:=HWD.out;omega)).mono ?_;rintro e w8 ⟨ra,rc,rfl,rt,rn,b_⟩;dsimp only;have HO8:=Hh (HO1.out.next b_);have UB8:=Hh ((b_.block _ (zag UB1.out)).trans UB1.out);have RU8:=Hh (RU1.out.next b_);have RT:=Hh rt;have RN:=Hh rn;clear rt rn b_;have hS8:=And.intro (zab HO8.out.qk) (Xb.cells UB8.out);refine hK.out _ _ hS8 (fun _=>?_);clear hK K;refine Tk1 (v:=?_) 7 hS8 ?_ ?_;rotate_left
   ·rintro w' ⟨_,_,_,_,_,_,_,_,_⟩;go_simp;first|done|with_reducible rfl|rfl
   simp only[Act.put,LA];obtain⟨z0,z1,z2,z3,z4⟩:=Gr.cells HO8.out.rk;obtain⟨f0,f1,f2,f3,f4⟩:=Gr.free HO8.out.rk;dsimp only[gr0,bw0,List.length_nil] at z0 z1 z2 z3 z4;refine Rd1 8 fun K hK=>?_;go_simp;have hrl:(zcP (picM (den q n) X2 Y2) wide high).length=high:=zdp _ _ _;have hg6n:g6≠w.heap.size+1:=fun e=>by have:=HG6.out;omega
   obtain⟨v,hv⟩:∃v:Gr,v=⟨u.x,u.y,ra,rc,zcP (picM (den q n) X2 Y2) wide high⟩:=⟨_,rfl⟩;have hS9:(fun w':World=>w'.cell? ⟨w.heap.size,0,none⟩=some (.slice A n c)∧w'.cell? ⟨g6,0,none⟩=some (.bool u.x.s)∧w'.cell? ⟨g6,1,none⟩=some (.slice u.x.a u.x.xs.length u.x.c)∧w'.cell? ⟨g6,2,none⟩=some (.bool u.y.s)∧w'.cell? ⟨g6,3,none⟩=some (.slice u.y.a u.y.xs.length u.y.c)∧w'.cell? ⟨g6,4,none⟩=some (.bool u.w.s)∧w'.cell? ⟨g6,5,none⟩=some (.slice u.w.a u.w.xs.length u.w.c)∧w'.cell? ⟨g6,6,none⟩=some (.bool u.h.s)∧w'.cell? ⟨g6,7,none⟩=some (.slice u.h.a u.h.xs.length u.h.c)) (putG w8 (w.heap.size+1) v) :=
    And.intro (zab ((zgc (by omega) v).trans HO8.out.qk)) (Xb.cells ((zgc hg6n v).trans UB8.out))
   rw[hv] at hS9;dsimp only[putG] at hS9;rw[hrl] at hS9;refine hK.out _ _ hS9 (fun _=>?_);clear hK K;refine Tk1 (v:=?_) 9 hS9 ?_ ?_;rotate_left
   ·rintro w' ⟨_,_,_,_,_,_,_,_,_⟩;go_simp;first|done|with_reducible rfl|rfl
   simp only[Act.put,LA];refine wpAnyH_done (by kernel_rfl) ?_ _;refine NoPanic.normal ?_;go_wp2_with fail;have QV:=zlg HO8.out.rk v;obtain⟨e0,e1,e2,e3,e4⟩:=Gr.cells QV;have RV:=Gr.R.putG (v:=v) (u:=v) (W:=w8) (X:=X2) (Y:=Y2) (by rw[hv];exact⟨RU8.out.x,RU8.out.y,RT.out⟩) HO8.out.rk;have hbv:=zfm HO8.out.b (show w.heap.size≤w.heap.size+1 by omega) v;rw[hv] at e0 e1 e2 e3 e4;dsimp only[putG] at e0 e1 e2 e3 e4;rw[hrl] at e0 e1 e2 e3 e4;refine bodyPost_ret (v:=.tuple #[v.val,.int .i64 0]) (by simp[results,Tryz.results73,go_sem,e0,e1,e2,e3,e4,hv,hrl]) rfl ?_;have hL:v.L=zcP (picM (den q n) X2 Y2) wide high:=by rw[hv]
   have hsh:=SU.out;refine⟨v,X2,Y2,0,rfl,?_,?_,?_,?_,.inr ⟨HMO.out.1,true,X2,Y2,V2,H2,BV2.out,.inr ⟨HMO.out.2,rfl,rfl,rfl,?_⟩⟩⟩
   ·rw[hv] at RV ⊢;dsimp only[putG] at RV;rw[hrl] at RV;exact RV
   ·rw[hv];exact⟨hsh.x,hsh.y⟩
   ·rw[hv];exact RN.out
   ·rw[hv] at hbv;dsimp only[putG] at hbv;rw[hrl] at hbv;exact hbv
   ·rw[hL,HWD.out.1,HWD.out.2,Int.toNat_natCast,Int.toNat_natCast]
theorem zuB (A:Option Addr)(c n:Nat)(q:List Nd)(most:Int)(w:World)(h:Ns w A c q)(hn:q.length=n)(hn9:n≤900000)(hg:zaq q)(hm : -9223372036854775808≤most∧most≤9223372036854775807) :
  Calls Tryz.prog 73 #[.agg #[.slice A n c],.int .i64 most] w (zsA q n most w):=by
 by_cases h1:most<0
 ·exact zuy A c n q most w h hn hn9 hg hm h1
 ·by_cases h2:1000<most
  ·exact zuz A c n q most w h hn hn9 hg hm (by omega) h2
  ·exact zuA A c n q most w h hn hn9 hg hm (by omega) (by omega)
end Go.Proofs.YtfjajpnfjjdnpaaGreatDoor

namespace Go.Proofs.YtfjajpnfjjdnpaaGreatDoor
open Go.RowKit Nds
def vast (v:Cv):Bool:=decide (50<v.xs.length)||decide (50<v.ys.length)
def zcj (l:List Cv)(most:Int):Bool:=decide (most<(l.length:Int))||l.any vast
theorem zqn {l:List Cv}{most:Int}(h1:¬ most<(l.length:Int))(h:∀i,i<l.length→vast (cat l i)=false):zcj l most=false:=by
 unfold zcj;rw[decide_eq_false h1,Bool.false_or];rw[List.any_eq_false];intro v hv;obtain⟨i,hi,rfl⟩:=List.getElem_of_mem hv;have h2:=h i hi;unfold cat at h2;rw[List.getElem?_eq_getElem hi,Option.getD_some] at h2;simp[h2]
theorem zka {l:List Cv}{most:Int}{i:Nat}(hi:i<l.length)(h:vast (cat l i)=true):zcj l most=true:=by
 unfold zcj;rw[Bool.or_eq_true];exact Or.inr (List.any_eq_true.2 ⟨cat l i,zda hi,h⟩)
theorem zqo {l:List Cv}{most:Int}(h1:most<(l.length:Int)):zcj l most=true:=by
 unfold zcj;rw[decide_eq_true h1,Bool.true_or]
theorem zib (A:Option Addr)(c n:Nat)(most:Int)(l:List Cv)(w:World)(h:Cs w A c l)(hn:l.length=n) :
  Calls Tryz.prog 95 #[.slice A n c,.int .i64 most] w fun e w'=>e=.returned (.bool (zcj l most))∧∃q,w'=w.drewN q:=by
 have hcl:=h.cap;rw[hn] at hcl;obtain⟨R,hR⟩:∃R,R=zcj l most:=⟨_,rfl⟩;rw[←hR];have HR:=Hh hR;clear hR;by_cases hl:most<(n:Int)
 ·have t1:decide (most<(n:Int))=true:=decide_eq_true hl;have HL:=Hh (show most<(l.length:Int) by rw[hn];exact hl);clear h hl hn;go_enter Tryz.func95,Tryz.ntmps95;go_wp2_with fail;go_ret;refine⟨?_,0,rfl⟩;rw[HR.out,zqo HL.out];rfl
 ·have t1:decide (most<(n:Int))=false:=decide_eq_false hl;have HNL:=Hh h;have HL:=Hh hn;have HM:=Hh (show(l.length:Int)≤most by rw[hn];exact Int.not_lt.1 hl);clear h hl hn;go_enter Tryz.func95,Tryz.ntmps95;go_wp2_with fail;go_loopw [5] (fun i  wr=>∃(k:Nat) (nd:Nat),wr=w.drewN nd∧k≤n∧i=.int .i64 k∧∀j,j<k→vast (cat l j)=false) (fun i _=>n-(intOf i).toNat)
  case atStart=>exact⟨0,0,rfl,by omega,rfl,fun j hj=>by omega⟩
  case round =>
   obtain⟨k,nd,rfl,hk,rfl,hall⟩:=hrel;have HA:=Hh hall;clear hall;by_cases hlt:k<n
   ·obtain⟨b,off,rfl,hb,hc⟩:=HNL.out.at_ (by rw[HL.out];omega)
    obtain⟨c1,c2,c3,c4,c5⟩:=hc k (by rw[HL.out];exact hlt);have hu:=HNL.out.1 _ (zda (i:=k) (by rw[HL.out];exact hlt));have hu1:=hu.1.cap;have hu2:=hu.2.1.cap;clear hc hu;obtain⟨x,hx⟩:∃x,x=cat l k:=⟨_,rfl⟩;rw[←hx] at c1 c2 c3 c4 c5 hu1 hu2;have HX:=Hh hx;clear hx;have i1:(k:Int)<(n:Int):=by omega
    have i2:(0:Int)≤(k:Int):=by omega
    by_cases hx1:50<x.xs.length
    ·have t2:decide (50<(x.xs.length:Int))=true:=decide_eq_true (by omega);have HV:=Hh (show vast x=true by unfold vast;rw[decide_eq_true hx1,Bool.true_or]);have HLT:=Hh hlt;clear hx1;go_wp2_with fail;go_ret;refine⟨?_,_,rfl⟩;rw[HR.out,zka (i:=k) (by rw[HL.out];exact HLT.out) (by rw[←HX.out];exact HV.out)];rfl
    ·have t2:decide (50<(x.xs.length:Int))=false:=decide_eq_false (by omega);by_cases hx2:50<x.ys.length
     ·have t3:decide (50<(x.ys.length:Int))=true:=decide_eq_true (by omega);have HV:=Hh (show vast x=true by unfold vast;rw[decide_eq_true hx2,Bool.or_true]);have HLT:=Hh hlt;clear hx1 hx2;go_wp2_with fail;go_ret;refine⟨?_,_,rfl⟩;rw[HR.out,zka (i:=k) (by rw[HL.out];exact HLT.out) (by rw[←HX.out];exact HV.out)];rfl
     ·have t3:decide (50<(x.ys.length:Int))=false:=decide_eq_false (by omega);have HV:=Hh (show vast x=false by unfold vast;rw[decide_eq_false hx1,decide_eq_false hx2,Bool.or_false]);clear hx1 hx2;go_wp2_with fail;go_roundw
      case rel =>
       refine⟨k+1,_,rfl,by omega,by go_num,fun j hj=>?_⟩;rcases Nat.lt_or_ge j k with h1|h1
       ·exact HA.out j h1
       ·rw[show j=k by omega,←HX.out];exact HV.out
      case measure=>simp[intOf];omega
   ·have HLT:=Hh hlt;have i1:¬ (k:Int)<(n:Int):=by omega
    have t2:decide ((k:Int)<(n:Int))=false:=decide_eq_false i1;go_wp2_with fail;go_ret;refine⟨?_,_,rfl⟩;rw[HR.out,zqn (Int.not_lt.2 HM.out) (fun i hi=>HA.out i (by rw[HL.out] at hi;omega))];rfl
end Go.Proofs.YtfjajpnfjjdnpaaGreatDoor

namespace Go.Proofs.YtfjajpnfjjdnpaaGreatDoor
open Go.RowKit Nds Num
theorem zic {l:List Cv}{most:Int}(h:zcj l most=false):(l.length:Int)≤most∧∀v∈l,v.xs.length≤50∧v.ys.length≤50:=by
 unfold zcj at h;rw[Bool.or_eq_false_iff,decide_eq_false_iff_not] at h;refine⟨by omega,fun v hv=>?_⟩;have h2:=List.any_eq_false.1 h.2 v hv;unfold vast at h2;rw[Bool.or_eq_true,decide_eq_true_iff,decide_eq_true_iff] at h2;omega
def mayB (l:List Cv)(most:Int):Bool := !zcj l most&&l.all okC&&decide (zcx (zaP (l.map Cv.cl))≤1329)
theorem zqp {l:List Cv}{most:Int}(h:zcj l most=true):mayB l most=false:=by unfold mayB;rw[h];rfl
theorem zqq {l:List Cv}{most:Int}:mayB l most=true↔zcj l most=false∧l.all okC=true∧zcx (zaP (l.map Cv.cl))≤1329:=by
 unfold mayB;rw[Bool.and_eq_true,Bool.and_eq_true,decide_eq_true_iff,and_assoc];simp
theorem zwt {l:List Cv}{most:Int}(h:mayB l most=true):(l.length:Int)≤most∧∀v∈l,CvR v:=by
 obtain⟨h1,h2,-⟩:=zqq.1 h;obtain⟨h3,h4⟩:=zic h1;refine⟨h3,fun v hv=>?_⟩;have h5:=List.all_eq_true.1 h2 v hv;unfold okC at h5;rw[Bool.and_eq_true] at h5;have h6:=h4 v hv;exact⟨zcz h5.1,zcz h5.2,by omega,by omega⟩
def zwu (l:List Cv)(most:Int)(w:World)(e:Ending)(w':World):Prop :=
 ∃A' c' qn q ok,e=.returned (.tuple #[.agg #[.slice A' qn c'],.bool ok])∧q.length=qn∧Ns w' A' c' q∧(A'=none→c'=0)∧Below w.heap.size w w'∧ok=mayB l most∧(ok=false→q=[])∧(ok=true→zaX (zaP (l.map Cv.cl)) q)
theorem zqr (A:Option Addr)(c n:Nat)(most:Int)(l:List Cv)(w:World)(h:Cs w A c l)(hn:l.length=n)(hm:most≤600) :
  Calls Tryz.prog 49 #[.slice A n c,.int .i64 most] w (zwu l most w):=by
 have hcap:=h.cap;rw[hn] at hcap;obtain⟨W,hW⟩:∃W:World,W=w.alloc (.cells #[.slice none 0 0] 28):=⟨_,rfl⟩;have hb:Below w.heap.size w W:=by rw[hW];exact(Below.refl _ w).alloc (Nat.le_refl _) _
 have hq:W.heap[w.heap.size]?=some (.cells #[.slice none 0 0] 28):=by rw[hW];exact heap_alloc_new w _
 have hWL:w.heap.size<W.heap.size:=by rw[hW];simp
 have HC:=Hh (h.below hb);have HN:=Hh hn;have HW:=Hh hW;have HB:=Hh hb;have HQ:=Hh hq;clear h hn hW hb hq;cases hg:zcj l most with
 | true =>
  have HG:=Hh hg;clear hg;go_enter Tryz.func49,Tryz.ntmps49;go_wp2_with (go_at_call 95;go_loud (rw[←HW.out];refine(zib A c n most l _ HC.out HN.out).mono ?_;rintro e w2 ⟨rfl,m2,hw2⟩;rw[HG.out];have B2:=Hh (show Below W.heap.size W w2 by rw[hw2];exact zaa (Below.refl _ _) m2);have Q2:=Hh ((B2.out.block w.heap.size hWL).trans HQ.out);have q0:=zab Q2.out;have q1:=zbJ Q2.out;clear hw2));have e1:=World.cell?_setCell_same _ _ (.slice none 0 0) q0;refine bodyPost_ret (v:=.tuple #[.agg #[.slice none 0 0],.bool false]) (by simp[results,Tryz.results49,go_sem,e1]) rfl ?_;exact⟨none,0,0,[],false,rfl,rfl,zmg _,fun _=>rfl,(HB.out.trans (B2.out.mono HB.out.size)).setCell (Nat.le_refl _) _,(zqp HG.out).symm,fun _=>rfl,fun e=>by cases e⟩
 | false =>
  obtain⟨hn9,hlen⟩:=zic hg;rw[HN.out] at hn9;have HG:=Hh hg;have HLN:=Hh hlen;have hn6:n≤600:=by omega
  clear hg hlen;go_enter Tryz.func49,Tryz.ntmps49;go_wp2_with (first
   | (go_at_call 95;go_loud (rw[←HW.out];refine(zib A c n most l _ HC.out HN.out).mono ?_;rintro e w2 ⟨rfl,m2,hw2⟩;rw[HG.out];have B2:=Hh (show Below W.heap.size W w2 by rw[hw2];exact zaa (Below.refl _ _) m2);clear hw2))
   | (go_at_call 96;go_loud (refine(zup A c n l _ (HC.out.below B2.out) HN.out hn6 (fun v hv=>⟨Nat.le_trans (HLN.out v hv).1 (by omega),Nat.le_trans (HLN.out v hv).2 (by omega)⟩)).mono ?_;rintro e w3 ⟨A3,c3,qn,q,er,rfl,l3,n3,a3,b3,u3,u4⟩;have B3:=Hh (B2.out.trans (b3.mono B2.out.size));have BL:=Hh ((Below.refl w3.heap.size w3).alloc (Nat.le_refl _) (.cells #[.slice A3 qn c3] 28));have Q3:=Hh (((B3.out.trans (BL.out.mono B3.out.size)).block w.heap.size hWL).trans HQ.out);have q0:=zab Q3.out;have q1:=zbJ Q3.out;have y0:=zab (heap_alloc_new w3 (.cells #[.slice A3 qn c3] 28));have L3:=Hh l3;have N3:=Hh (n3.below BL.out);have A3':=Hh a3;have U3:=Hh u3;have U4:=Hh u4;clear l3 n3 a3 b3 u3 u4)))
  have e1:=World.cell?_setCell_same _ _ (.slice A3 qn c3) q0;refine bodyPost_ret (v:=.tuple #[.agg #[.slice A3 qn c3],.bool (er==0)]) (by simp[results,Tryz.results49,go_sem,e1]) rfl ?_;have hbb:=HB.out.trans ((B3.out.trans (BL.out.mono B3.out.size)).mono HB.out.size);refine⟨A3,c3,qn,q,_,rfl,L3.out,N3.out.boxed Q3.out,A3'.out,hbb.setCell (Nat.le_refl _) _,?_,?_,?_⟩
  all_goals
   cases hok:l.all okC with
   | false =>
    obtain⟨rfl,rfl⟩:=U3.out hok;simp[mayB,hok]
   | true =>
    by_cases h9:zcx (zaP (l.map Cv.cl))≤1329
    ·obtain⟨rfl,h4⟩:=(U4.out hok).2 h9
     first
      | (simp[mayB,hok,h9,HG.out];done)
      | exact fun _=>h4
    ·obtain⟨rfl,rfl⟩:=(U4.out hok).1 (by omega);simp[mayB,hok,h9]
def zcp (L:List (List UInt8)):Nat:=(tat L 0).length
theorem zqs:zcp []=0:=rfl
end Go.Proofs.YtfjajpnfjjdnpaaGreatDoor
