import Derived.Test.YtbabbmdpgpcgjaaGreatDoorHPlP

set_option linter.unusedVariables false
set_option linter.unusedSimpArgs false
set_option maxRecDepth 100000
set_option maxHeartbeats 6400000
namespace Go.Proofs.YtbabbmdpgpcgjaaGreatDoor
open Go.RowKit Txt Num Nds
def zuM (B:Nat)(s:ByteArray)(box:Int)(w:World)(e:Ending)(w':World):Prop :=
 ∃o h b,e=.returned (.tuple #[.string h,.bool b])∧Rd9 s.data.toList box ln0 o∧Below B w w'∧match o with
 | .ok u=>h=⟨#[]⟩∧b=true
 | .short=>h=⟨#[zlj s.data.toList]⟩∧b=true
 | .bad _ _=>h=⟨#[]⟩∧b=false
theorem zsr (p:Nat)(s:ByteArray)(box:Int)(w:World)(h:At9 p (rsOf s box ln0 none 0 0) w)(hs:s.size≤400000)(hb:0≤box∧box≤1000) :
  Calls Tryz.prog 35 #[.pointer (some ⟨p,0,none⟩),.func (Fn.func 20) #[.pointer (some ⟨p,0,none⟩)] #[]] w (zuM p s box w):=by
 have H:=Hh h;have HS:=Hh hs;have HB:=Hh hb;clear h hs hb;go_enter Tryz.func35,Tryz.ntmps35;go_wp2_with fail;go_at_call 19;refine(ziO p s box w H.out HS.out HB.out).mono ?_;rintro e w3 ⟨o,hrd,hb,hr⟩;have HRD:=Hh hrd;have HBE:=Hh hb;clear hrd hb;cases o with
 | bad k er =>
  obtain⟨rfl,-⟩:=hr;have h24:=zsp HRD.out k er rfl;have t1:(er != 0)=true:=by rw[bne_iff_ne];omega
  have t2:(er != 3)=true:=by rw[bne_iff_ne];omega
  clear h24;go_wp2_with fail;refine bodyPost_ret (v:=.tuple #[.string ⟨#[]⟩,.bool false]) (by simp[results,Tryz.results35,go_sem]) rfl ?_;exact⟨_,⟨#[]⟩,false,rfl,HRD.out,HBE.out,rfl,rfl⟩
 | short =>
  obtain⟨rfl,y,h1,h2,h3,h4⟩:=hr;have c2:=h1.cells.2.2.1;rw[h4] at c2;clear h1 h2 h3 h4;go_wp2_with fail;refine bodyPost_ret (v:=.tuple #[.string ⟨#[zlj s.data.toList]⟩,.bool true]) (by simp[results,Tryz.results35,go_sem]) rfl ?_;exact⟨_,_,true,rfl,HRD.out,HBE.out,rfl,rfl⟩
 | ok u =>
  obtain⟨rfl,hrk⟩:=hr;obtain⟨a,n,c,ha,ho⟩:=hrk.ex;have c2:=ha.cells.2.2.1;clear ha ho hrk;go_wp2_with fail;refine bodyPost_ret (v:=.tuple #[.string ⟨#[]⟩,.bool true]) (by simp[results,Tryz.results35,go_sem]) rfl ?_;exact⟨_,_,true,rfl,HRD.out,HBE.out,rfl,rfl⟩
theorem zln (s:ByteArray)(w:World)(hs:s.size≤400000) :
  Calls Tryz.prog 16 #[.string s] w (zuM w.heap.size s 1000 w):=by
 have hmf:∀(fn:Fn) (first cap:Array Value) (w:World),(Instr.makeFunc fn first cap).run Tryz.prog w=.ok (.func fn first cap) w:=fun _ _ _ _=>rfl;have HS:=Hh hs;clear hs;go_enter Tryz.func16,Tryz.ntmps16;go_wp2_with (go_at_call 18;go_loud (refine(zhH s 1000 _).mono ?_;rintro e w2 ⟨p,rfl,hp,ha,b_⟩;have HP:=Hh hp;have HA:=Hh ha;have HB:=Hh b_;clear b_ hp ha));go_at_call 35;refine(zsr p s 1000 w2 HA.out HS.out (by omega)).mono ?_;rintro e w3 ⟨o,h,b,rfl,hrd,hb,hr⟩;have HRD:=Hh (And.intro hrd (And.intro (HB.out.trans (hb.mono HP.out)) hr));clear hrd hb hr;go_wp2_with fail;refine bodyPost_ret (v:=.tuple #[.string h,.bool b]) (by simp[results,Tryz.results16,go_sem]) rfl ?_;exact⟨o,h,b,rfl,HRD.out⟩
def t15a:ByteArray:=⟨#[46,79,10,120]⟩
def t15b:ByteArray:=⟨#[33,97,13,10,10,46,79,10,33,82,117,108,101,58,32,97,98,99,10,46,46,79]⟩
def t15c:ByteArray:=⟨#[79,10,33,82,117,108,101,58,32]⟩
def t15d:ByteArray:=⟨#[120]⟩
def t15e:ByteArray:=⟨#[79,10,33,82,117,108,101,58,32,120]⟩
def t15f:ByteArray:=⟨#[79,79,79]⟩
def t15g:ByteArray:=⟨#[33,82,117,108,101,58,32,97,98,99,10,79,10,46,79,10]⟩
def zdQ:ByteArray:=⟨#[97,98,99]⟩
def zss:List (List UInt8):=[[],[46,79],[46,46,79]]
def zdq:List Cl:=[⟨1,1,1⟩,⟨2,2,1⟩]
def zdR:List Nd:=[⟨1,0,0,0,1⟩,⟨1,1,0,0,0⟩,⟨2,1,0,0,2⟩,⟨3,0,0,0,3⟩]
def zhW:List Cl:=[⟨0,0,1⟩]
def zfH:List Nd:=[⟨1,0,0,0,1⟩]
theorem zzf:Rd9 t15a.data.toList 1000 ln0 (.bad 3 2):=zdp (n:=9) (by kernel_rfl)
theorem zzg:Rd9 t15b.data.toList 1000 ln0 (.ok ⟨22,[97,98,99],zss,3⟩):=zdp (n:=9) (by kernel_rfl)
theorem zyr:Rd9 t15c.data.toList 1000 ln0 .short:=zdp (n:=9) (by kernel_rfl)
theorem zzh:Rd9 t15d.data.toList 1000 ln0 (.bad 0 2):=zdp (n:=9) (by kernel_rfl)
theorem zzi:Rd9 t15e.data.toList 1000 ln0 (.ok ⟨10,[120],[[79]],1⟩):=zdp (n:=9) (by kernel_rfl)
theorem zzj:Rd9 t15f.data.toList 2 ln0 (.bad 2 4):=zdp (n:=9) (by kernel_rfl)
theorem zlo:zaR zdq=zdv zdR:=by kernel_rfl
theorem zmD:zaR zdq=zdq:=by kernel_rfl
theorem zmE:OfL zdR zdR.length=zdR:=by kernel_rfl
theorem zlp:zai zdR=true:=by kernel_rfl
theorem zmF:zaR zhW=zdv zfH:=by kernel_rfl
theorem zpi:zaR zhW=zhW:=by kernel_rfl
theorem zpj:OfL zfH zfH.length=zfH:=by kernel_rfl
theorem zmG:zai zfH=true:=by kernel_rfl
theorem zhJ:zaW zdq zdR:=by
 have k:=zex zlp;rw[zmE,←zlo,zmD] at k;exact k
theorem zgw:zaW zhW zfH:=by
 have k:=zex zmG;rw[zpj,←zmF,zpi] at k;exact k
theorem zst (x y:Int)(h:lk zdq x y≠0):(x=1∧y=1)∨(x=2∧y=2):=by
 unfold zdq lk lk lk at h;dsimp only at h;split at h
 ·rename_i h1;omega
 ·split at h
  ·rename_i h1;omega
  ·exact absurd rfl h
theorem zuN (x y:Int)(h:lk zhW x y≠0):x=0∧y=0:=by
 unfold zhW lk lk at h;dsimp only at h;split at h
 ·rename_i h1;omega
 ·exact absurd rfl h
theorem zpk:BxV zdR 4 true 1 1 2 2:=by
 have hd:=zhJ.den;refine .inr ⟨by omega,rfl,zmq (by kernel_rfl) (fun X Y h=>?_) ⟨1,?_⟩ ⟨2,?_⟩ ⟨1,?_⟩ ⟨2,?_⟩⟩
 ·have:=zst X Y (by rw[←hd];exact h);omega
 all_goals
  rw[show(4:Nat)=zdR.length from rfl,hd]
  decide
theorem zsu:BxV zfH 1 true 0 0 1 1:=by
 have hd:=zgw.den;refine .inr ⟨by omega,rfl,zmq (by kernel_rfl) (fun X Y h=>?_) ⟨0,?_⟩ ⟨0,?_⟩ ⟨0,?_⟩ ⟨0,?_⟩⟩
 ·have:=zuN X Y (by rw[←hd];exact h);omega
 all_goals
  rw[show(1:Nat)=zfH.length from rfl,hd]
  decide
theorem zpl:zbv (picM (den zdR 4) 1 1) 2 2=zdN:=by
 have e:picM (den zdR 4) 1 1=fun r c=>lk zdq (1+c) (1+r):=by
  funext r c;exact zhJ.den _ _
 rw[e];show zbv (fun r c=>lk zdq (1+c) (1+r)) 2 2=zdN;kernel_rfl
theorem zsv:zbv (picM (den zfH 1) 0 0) 1 1=[[1]]:=by
 have e:picM (den zfH 1) 0 0=fun r c=>lk zhW (0+c) (0+r):=by
  funext r c;exact zgw.den _ _
 rw[e];show zbv (fun r c=>lk zhW (0+c) (0+r)) 1 1=[[1]];kernel_rfl
theorem gq15:GqI (at0 zdN) 0 zbX:=by
 refine⟨fun h=>absurd h (by rw[show zbZ (at0 zdN)=true by kernel_rfl];simp),fun _=>⟨fun h=>?_,fun _=>⟨rfl,?_⟩⟩⟩
 ·rw[show zhT (at0 zdN)=zaR zcw by kernel_rfl,zms] at h;omega
 ·rw[show zhT (at0 zdN)=zcw by kernel_rfl];exact zjK
theorem zzk:GqI (at0 [[1]]) 0 zfH:=by
 refine⟨fun h=>absurd h (by rw[show zbZ (at0 [[1]])=true by kernel_rfl];simp),fun _=>⟨fun h=>?_,fun _=>⟨rfl,?_⟩⟩⟩
 ·rw[show zaJ (zhT (at0 [[1]]))=1 by kernel_rfl] at h;omega
 ·rw[show zhT (at0 [[1]])=zhW by kernel_rfl];exact zgw
theorem zzl:HomP zss zbX:=⟨zdR,0,by rw[show zdP zss=zdq by kernel_rfl];exact zhJ,0,1,1,zdN,.inr ⟨by omega,true,1,1,2,2,zpk,.inr ⟨by omega,rfl,rfl,rfl,zpl.symm⟩⟩,.inr ⟨rfl,gq15⟩⟩
theorem zys:HomP [[79]] zfH:=⟨zfH,0,by rw[show zdP [[79]]=zhW by kernel_rfl];exact zgw,0,0,0,[[1]],.inr ⟨by omega,true,0,0,1,1,zsu,.inr ⟨by omega,rfl,rfl,rfl,zsv.symm⟩⟩,.inr ⟨rfl,zzk⟩⟩
theorem zyt {ru:List UInt8}{q:List Nd}{a e:Int}(h:RdI t15a.data.toList 1000 100000 ru q a e):a=3∧e=2:=by
 obtain⟨o,r,h1⟩:=h.2 rfl;obtain rfl:=r.one zzf;exact⟨h1.1,h1.2.1⟩
theorem zyu {ru:List UInt8}{q:List Nd}{a e:Int}(h:RdI t15b.data.toList 1000 100000 ru q a e):e=0∧ru=zdQ.data.toList∧q=zbX:=by
 obtain⟨o,r,h1⟩:=h.2 rfl;obtain rfl:=r.one zzg;obtain⟨x,hx,-,h3⟩:=h1;obtain rfl:=hx.one zzl;obtain⟨-,rfl,rfl,rfl⟩:=h3 (by decide);exact⟨rfl,rfl,rfl⟩
theorem zyv {ru:List UInt8}{q:List Nd}{a e:Int}(h:RdI t15c.data.toList 1000 100000 ru q a e):a=9∧e=3:=by
 obtain⟨o,r,h1⟩:=h.2 rfl;obtain rfl:=r.one zyr;exact⟨h1.1,h1.2.1⟩
theorem zyw {ru:List UInt8}{q:List Nd}{a e:Int}(h:RdI t15e.data.toList 1000 100000 ru q a e):e=0:=by
 obtain⟨o,r,h1⟩:=h.2 rfl;obtain rfl:=r.one zzi;obtain⟨x,hx,-,h3⟩:=h1;obtain rfl:=hx.one zys;exact(h3 (by decide)).2.1
theorem zyx {ru:List UInt8}{q:List Nd}{a e:Int}(h:RdI t15f.data.toList 2 9 ru q a e):e=4:=by
 obtain⟨o,r,h1⟩:=h.2 rfl;obtain rfl:=r.one zzj;exact h1.2.1
theorem zxn {B:Nat}{w w':World}{e:Ending}(h:zuM B t15c 1000 w e w'):e=.returned (.tuple #[.string ⟨#[120]⟩,.bool true])∧Below B w w':=by
 obtain⟨o,hh,b,rfl,r,hb,h1⟩:=h;obtain rfl:=r.one zyr;obtain⟨rfl,rfl⟩:=h1;exact⟨by rw[show zlj t15c.data.toList=120 by kernel_rfl],hb⟩
theorem zxo {B:Nat}{w w':World}{e:Ending}(h:zuM B t15d 1000 w e w'):e=.returned (.tuple #[.string ⟨#[]⟩,.bool false])∧Below B w w':=by
 obtain⟨o,hh,b,rfl,r,hb,h1⟩:=h;obtain rfl:=r.one zzh;obtain⟨rfl,rfl⟩:=h1;exact⟨rfl,hb⟩
theorem fp15 {er:Int}{T:List UInt8}(h:FpI zdQ zbX 2 1000 100000 er T):er=0∧T=t15g.data.toList:=by
 have hg:GoI zbX 2 1000 0 0 0 zdN:=.inr ⟨by omega,true,0,0,2,2,zld,.inr ⟨by omega,rfl,rfl,rfl,zrM.symm⟩⟩;have hw:WinP zbX 2 1000:=⟨0,0,2,2,true,zld,by omega,by omega⟩;have hc:CkI 1 zdQ zbX 2 1000 100000 0:=⟨fun h=>(by rw[show(fmtB 1&&(mayP zdQ zbX&&zbF 1000 100000))=true by kernel_rfl] at h;cases h),fun _=>.inl ⟨rfl,.inr ⟨hw,.inr (by rw[zoW];omega)⟩⟩⟩;exact h.one ⟨0,0,zdN,.inr ⟨rfl,hc,hg⟩,.inr ⟨rfl,by kernel_rfl⟩⟩
theorem zpm (w:World):Calls Tryz.prog 15 #[] w fun e w'=>e=.returned (.agg #[.int .i64 1000,.int .i64 100000])∧Below w.heap.size w w':=by
 have HB:=Hh ((Below.refl w.heap.size w).alloc (Nat.le_refl _) (.cells #[.int .i64 1000,.int .i64 100000] 23));go_enter Tryz.func15,Tryz.ntmps15;obtain⟨e0,e1⟩:=zal (heap_alloc_new w (.cells #[.int .i64 1000,.int .i64 100000] 23));go_wp2_with fail;refine bodyPost_ret (v:=.agg #[.int .i64 1000,.int .i64 100000]) (by simp[results,Tryz.results15,go_sem,e0,e1]) rfl ?_;exact⟨rfl,HB.out⟩
structure P15a (w W:World)(g:Nat):Prop where
 b:Below w.heap.size w W
 lk:W.heap[g]?=some (.cells #[.int .i64 1000,.int .i64 100000] 23)
theorem P15a.next {w W W':World}{g:Nat}(h:P15a w W g)(k:Below W.heap.size W W'):P15a w W' g:=⟨h.b.trans (k.mono h.b.size),(k.block _ (zab h.lk)).trans h.lk⟩
theorem P15a.box {w W:World}{g:Nat}(h:P15a w W g)(o:Obj):P15a w (W.alloc o) g:=h.next ((Below.refl _ _).alloc (Nat.le_refl _) o)
theorem P15a.cells {w W:World}{g:Nat}(h:P15a w W g):W.cell? ⟨g,0,none⟩=some (.int .i64 1000)∧W.cell? ⟨g,1,none⟩=some (.int .i64 100000):=by
 refine⟨?_,?_⟩ <;> rw[Lib.cell_of_heap h.lk] <;> rfl
theorem P15a.start {w W:World}(h:Below w.heap.size w W):P15a w (W.alloc (.cells #[.int .i64 1000,.int .i64 100000] 23)) W.heap.size :=
 ⟨h.trans (((Below.refl W.heap.size W).alloc (Nat.le_refl _) (.cells #[.int .i64 1000,.int .i64 100000] 23)).mono h.size),heap_alloc_new W (.cells #[.int .i64 1000,.int .i64 100000] 23)⟩
structure P15 (w W:World)(g:Nat)(A:Option Addr)(c p:Nat):Prop where
 a:P15a w W g
 pk:W.heap[p]?=some (.cells #[.string zdQ,.slice A 2 c] 29)
 np:Ns W A c zbX
theorem P15.next {w W W':World}{g:Nat}{A:Option Addr}{c p:Nat}(h:P15 w W g A c p)(k:Below W.heap.size W W'):P15 w W' g A c p:=⟨h.a.next k,(k.block _ (zab h.pk)).trans h.pk,h.np.below k⟩
theorem P15.box {w W:World}{g:Nat}{A:Option Addr}{c p:Nat}(h:P15 w W g A c p)(o:Obj):P15 w (W.alloc o) g A c p:=h.next ((Below.refl _ _).alloc (Nat.le_refl _) o)
theorem P15.cells {w W:World}{g:Nat}{A:Option Addr}{c p:Nat}(h:P15 w W g A c p):W.cell? ⟨g,0,none⟩=some (.int .i64 1000)∧W.cell? ⟨g,1,none⟩=some (.int .i64 100000)∧W.cell? ⟨p,0,none⟩=some (.string zdQ)∧W.cell? ⟨p,1,none⟩=some (.slice A 2 c):=by
 refine⟨h.a.cells.1,h.a.cells.2,?_,?_⟩ <;> rw[Lib.cell_of_heap h.pk] <;> rfl
theorem P15.start {w W:World}{g:Nat}{A:Option Addr}{c:Nat}(h:P15a w W g)(np:Ns W A c zbX):P15 w (W.alloc (.cells #[.string zdQ,.slice A 2 c] 29)) g A c W.heap.size :=
 ⟨h.box _,heap_alloc_new W (.cells #[.string zdQ,.slice A 2 c] 29),np.below ((Below.refl W.heap.size W).alloc (Nat.le_refl _) (.cells #[.string zdQ,.slice A 2 c] 29))⟩
theorem zdr (w:World):Calls Tryz.prog 6 #[] w fun e w'=>e=.returned (.bool true)∧Below w.heap.size w w':=by
 have q0:True:=trivial;go_enter Tryz.func6,Tryz.ntmps6;rw[show(⟨#[33,97,13,10,10,46,79,10,33,82,117,108,101,58,32,97,98,99,10,46,46,79]⟩:ByteArray)=t15b from rfl,show(⟨#[33,82,117,108,101,58,32,97,98,99,10,79,10,46,79,10]⟩:ByteArray)=t15g from rfl,show(⟨#[79,10,33,82,117,108,101,58,32]⟩:ByteArray)=t15c from rfl,show(⟨#[46,79,10,120]⟩:ByteArray)=t15a from rfl,show(⟨#[79,79,79]⟩:ByteArray)=t15f from rfl,show(⟨#[120]⟩:ByteArray)=t15d from rfl];go_wp2_with (first
  | (have _t:=q0;go_at_call 15;clear _t;go_loud (refine(zpm _).mono ?_;rintro e w1 ⟨rfl,b_⟩;have PP:=Hh (P15a.start b_);clear b_;obtain⟨c0,c1⟩:=PP.out.cells;have q1:=q0;clear q0))
  | (have _t:=q1;go_at_call 7;clear _t;go_loud (refine(zaN t15a 1000 100000 _ (by decide) (by decide)).mono ?_;rintro e w2 ⟨ru,A_,c_,m_,qq,at_,er,rfl,hm_,np_,-,b_,rd_⟩;obtain⟨rfl,rfl⟩:=zyt rd_;have PP:=Hh ((PP.out.next b_).box (.cells #[.string ru,.slice A_ m_ c_] 29));clear c0 c1;obtain⟨c0,c1⟩:=PP.out.cells;clear b_ rd_ np_ hm_;have q2:=q1;clear q1))
  | (have _t:=q2;go_at_call 7;clear _t;go_loud (refine(zaN t15b 1000 100000 _ (by decide) (by decide)).mono ?_;rintro e w3 ⟨ru,A,c,m_,qq,at_,er,rfl,hm_,np_,-,b_,rd_⟩;obtain⟨rfl,hru,rfl⟩:=zyu rd_;obtain rfl:ru=zdQ:=zhU hru;obtain rfl:2=m_:=hm_;have PP:=Hh (P15.start (PP.out.next b_) np_);clear c0 c1;obtain⟨c0,c1,c2,c3⟩:=PP.out.cells;clear b_ rd_ np_ hru;have q3:=q2;clear q2))
  | (have _t:=q3;go_at_call 7;clear _t;go_loud (refine(zaN t15c 1000 100000 _ (by decide) (by decide)).mono ?_;rintro e w4 ⟨ru,A_,c_,m_,qq,at_,er,rfl,hm_,np_,-,b_,rd_⟩;obtain⟨rfl,rfl⟩:=zyv rd_;have PP:=Hh ((PP.out.next b_).box (.cells #[.string ru,.slice A_ m_ c_] 29));clear c0 c1 c2 c3;obtain⟨c0,c1,c2,c3⟩:=PP.out.cells;clear b_ rd_ np_ hm_;have q4:=q3;clear q3))
  | (have _t:=q4;go_at_call 16;clear _t;go_loud (refine(zln t15c _ (by decide)).mono ?_;rintro e w5 h_;obtain⟨rfl,b_⟩:=zxn h_;have PP:=Hh (PP.out.next b_);clear b_ h_;clear c0 c1 c2 c3;obtain⟨c0,c1,c2,c3⟩:=PP.out.cells;have q5:=q4;clear q4))
  | (have _t:=q5;go_at_call 16;clear _t;go_loud (refine(zln t15d _ (by decide)).mono ?_;rintro e w6 h_;obtain⟨rfl,b_⟩:=zxo h_;have PP:=Hh (PP.out.next b_);clear b_ h_;clear c0 c1 c2 c3;obtain⟨c0,c1,c2,c3⟩:=PP.out.cells;have q6:=q5;clear q5))
  | (have _t:=q6;go_at_call 7;clear _t;go_loud (rw[show t15c++⟨#[120]⟩=t15e by kernel_rfl];refine(zaN t15e 1000 100000 _ (by decide) (by decide)).mono ?_;rintro e w7 ⟨ru,A_,c_,m_,qq,at_,er,rfl,hm_,np_,-,b_,rd_⟩;obtain rfl:=zyw rd_;have PP:=Hh ((PP.out.next b_).box (.cells #[.string ru,.slice A_ m_ c_] 29));clear c0 c1 c2 c3;obtain⟨c0,c1,c2,c3⟩:=PP.out.cells;clear b_ rd_ np_ hm_;have q7:=q6;clear q6))
  | (have _t:=q7;go_at_call 7;clear _t;go_loud (refine(zaN t15f 2 9 _ (by decide) (by decide)).mono ?_;rintro e w8 ⟨ru2,A_2,c_2,m_2,qq2,at_2,er,rfl,hm_,np_,-,b_,rd_⟩;obtain rfl:=zyx rd_;have PP:=Hh ((PP.out.next b_).box (.cells #[.string ru2,.slice A_2 m_2 c_2] 29));clear c0 c1 c2 c3;obtain⟨c0,c1,c2,c3⟩:=PP.out.cells;clear b_ rd_ np_ hm_;have q8:=q7;clear q7))
  | (have _t:=q8;go_at_call 12;clear _t;go_loud (refine(zmp A c 2 zdQ zbX 1000 100000 _ (by decide) PP.out.np rfl (by omega) (by omega)).mono ?_;rintro e w9 ⟨er,T_,rfl,h_,b_⟩;obtain⟨rfl,rfl⟩:=fp15 h_;rw[show(⟨List.toArray t15g.data.toList⟩:ByteArray)=t15g from rfl];have PP:=Hh (PP.out.next b_);clear c0 c1 c2 c3;obtain⟨c0,c1,c2,c3⟩:=PP.out.cells;clear b_ h_;have q9:=q8;clear q8)))
 go_ret;exact⟨rfl,PP.out.a.b⟩
end Go.Proofs.YtbabbmdpgpcgjaaGreatDoor

namespace Go.Proofs.YtbabbmdpgpcgjaaGreatDoor
open Txt
theorem zek {l m:List UInt8}{k:Nat}{c:UInt8}(h:l.drop k=c :: m):l[k]?=some c:=by
 have h1:(l.drop k)[0]?=some c:=by rw[h];rfl
 rwa [List.getElem?_drop,Nat.add_zero] at h1
theorem zdS {l r m:List UInt8}{k:Nat}(h:l.drop k=r++m):l.drop (k+r.length)=m:=by
 rw[←List.drop_drop,h,List.drop_left]
theorem zlq {p:UInt8→Bool}{r m:List UInt8}(h1:∀x∈r,p x=true){c:UInt8}(hc:p c=false):(r++c :: m).takeWhile p=r:=by
 induction r with
 | nil=>rw[List.nil_append,List.takeWhile_cons,if_neg (by rw[hc];exact Bool.noConfusion)]
 | cons x r ih =>
  rw[List.cons_append,List.takeWhile_cons,if_pos (h1 x (by simp)),ih fun y hy=>h1 y (by simp[hy])]
theorem znP {l m:List UInt8}{s:Ln}(h:l.drop s.pos=10 :: m):s.eol l=.ok ⟨s.pos+1,s.rule,s.rows,s.count⟩:=by
 have h1:eolZ l s.pos=.go (s.pos+1):=by
  unfold eolZ;rw[zek h];rfl
 unfold Ln.eol;rw[h1]
theorem zyy {l m:List UInt8}{s:Ln}(h:l.drop s.pos=13 :: 10 :: m):s.eol l=.ok ⟨s.pos+2,s.rule,s.rows,s.count⟩:=by
 have h2:l.drop (s.pos+1)=10 :: m:=zdS (r:=[13]) h;have h1:eolZ l s.pos=.go (s.pos+2):=by
  unfold eolZ;rw[zek h,zek h2];rfl
 unfold Ln.eol;rw[h1]
theorem zuO {l:List UInt8}{k:Nat}(h:l[k]?≠some 33):comm (l.drop k) zbj≠7:=fun h1=>by
 have h2:=zeh (s:=l.drop k) (t:=zbj) (i:=0) (by omega);rw[List.getElem?_drop,Nat.add_zero] at h2;exact h h2
theorem zxp {l r m:List UInt8}{box:Int}{s:Ln}(h:l.drop s.pos=r++10 :: m)(hr:∀x∈r,zau x=true)(hf:farZ box s.count r=none) :
  zaE l box s=.ok ⟨s.pos+r.length+1,s.rule,zbz s.rows s.count r,s.count+1⟩:=by
 have h1:l[s.pos]?≠some 33:=by
  cases r with
  | nil =>
   rw[zek h]
   decide
  | cons x r =>
   rw[zek h];intro e;have h2:=hr x (by simp);rw[Option.some.inj e] at h2;exact absurd h2 (by decide)
 unfold zaE;rw[if_neg (zuO h1),if_neg h1];unfold zah;rw[h,zlq hr (by decide),hf];exact znP (s:=⟨s.pos+r.length,s.rule,zbz s.rows s.count r,s.count+1⟩) (zdS h)
end Go.Proofs.YtbabbmdpgpcgjaaGreatDoor

namespace Go.Proofs.YtbabbmdpgpcgjaaGreatDoor
open Go.RowKit Txt Nds
def Ln.after (s:Ln)(k:Nat):Ln:=⟨s.pos+k,s.rule,s.rows,s.count⟩
def Ro.after:Ro→Nat→Ro
 | .ok s,k=>.ok (s.after k)
 | .short,_=>.short
 | .bad i e,k=>.bad (i+k) e
theorem zhK (pre l:List UInt8)(s:Ln):(s.after pre.length).eol (pre++l)=(s.eol l).after pre.length:=by
 have h:∀i,(pre++l)[i+pre.length]?=l[i]?:=fun i=>by rw[List.getElem?_append_right (by omega),Nat.add_sub_cancel]
 have e:eolZ (pre++l) (s.pos+pre.length)=match eolZ l s.pos with|.go k=>.go (k+pre.length)|.short=>.short|.bad k=>.bad (k+pre.length):=by
  unfold eolZ;rw[h,show s.pos+pre.length+1=s.pos+1+pre.length by omega,h];cases l[s.pos]? with
  | none=>rfl
  | some c =>
   dsimp only;by_cases hc:c=13
   ·rw[if_pos hc,if_pos hc];cases l[s.pos+1]? with
    | none=>rfl
    | some d =>
     dsimp only;by_cases hd:d=10
     ·rw[if_pos hd,if_pos hd];show Eo.go _=Eo.go _;rw[show s.pos+pre.length+2=s.pos+2+pre.length by omega]
     ·rw[if_neg hd,if_neg hd]
   ·rw[if_neg hc,if_neg hc];by_cases hd:c=10
    ·rw[if_pos hd,if_pos hd]
    ·rw[if_neg hd,if_neg hd]
 unfold Ln.eol;show(match eolZ (pre++l) (s.pos+pre.length) with|.go k=>_|.short=>_|.bad k=>_)=_;rw[e];cases eolZ l s.pos <;> rfl
theorem zpn (pre l:List UInt8)(box:Int)(s:Ln):zaE (pre++l) box (s.after pre.length)=(zaE l box s).after pre.length:=by
 have hd:∀i,(pre++l).drop (i+pre.length)=l.drop i:=fun i=>by rw[Nat.add_comm,←List.drop_drop,List.drop_left]
 have hg:(pre++l)[s.pos+pre.length]?=l[s.pos]?:=by rw[List.getElem?_append_right (by omega),Nat.add_sub_cancel]
 unfold zaE;show(if comm ((pre++l).drop (s.pos+pre.length)) zbj=7 then _ else _)=_;rw[hd];by_cases h1:comm (l.drop s.pos) zbj=7
 ·rw[if_pos h1,if_pos h1];show(if min 40 (zah sgn ((pre++l).drop (s.pos+pre.length+7)))=0 then (if s.pos+pre.length+7<(pre++l).length then Ro.bad (s.pos+pre.length+7) 2 else .short) else (Ln.mk (s.pos+pre.length+7+min 40 (zah sgn ((pre++l).drop (s.pos+pre.length+7)))) (((pre++l).drop (s.pos+pre.length+7)).take (min 40 (zah sgn ((pre++l).drop (s.pos+pre.length+7))))) s.rows s.count).eol (pre++l))=_;rw[show s.pos+pre.length+7=s.pos+7+pre.length by omega,hd];by_cases h2:min 40 (zah sgn (l.drop (s.pos+7)))=0
  ·rw[if_pos h2,if_pos h2,List.length_append];by_cases h3:s.pos+7<l.length
   ·rw[if_pos h3,if_pos (by omega)];rfl
   ·rw[if_neg h3,if_neg (by omega)];rfl
  ·rw[if_neg h2,if_neg h2,show s.pos+7+pre.length+min 40 (zah sgn (l.drop (s.pos+7)))=s.pos+7+min 40 (zah sgn (l.drop (s.pos+7)))+pre.length by omega];exact zhK pre l ⟨_,_,_,_⟩
 ·rw[if_neg h1,if_neg h1];show(if (pre++l)[s.pos+pre.length]?=some 33 then (Ln.mk (s.pos+pre.length+zah zaL ((pre++l).drop (s.pos+pre.length))) s.rule s.rows s.count).eol (pre++l) else match farZ box s.count (((pre++l).drop (s.pos+pre.length)).takeWhile zau) with|some j=>Ro.bad (s.pos+pre.length+j) 4|none=>(Ln.mk (s.pos+pre.length+zah zau ((pre++l).drop (s.pos+pre.length))) s.rule (zbz s.rows s.count (((pre++l).drop (s.pos+pre.length)).takeWhile zau)) (s.count+1)).eol (pre++l))=_;rw[hg,hd];by_cases h2:l[s.pos]?=some 33
  ·rw[if_pos h2,if_pos h2,show s.pos+pre.length+zah zaL (l.drop s.pos)=s.pos+zah zaL (l.drop s.pos)+pre.length by omega];exact zhK pre l ⟨_,_,_,_⟩
  ·rw[if_neg h2,if_neg h2];cases farZ box s.count ((l.drop s.pos).takeWhile zau) with
   | some j =>
    show Ro.bad _ _=Ro.bad _ _;rw[show s.pos+pre.length+j=s.pos+j+pre.length by omega]
   | none =>
    dsimp only;rw[show s.pos+pre.length+zah zau (l.drop s.pos)=s.pos+zah zau (l.drop s.pos)+pre.length by omega];exact zhK pre l ⟨_,_,_,_⟩
theorem zuP (pre:List UInt8){l:List UInt8}{box:Int}{s:Ln}{o:Ro}(h:Rd9 l box s o):∀u,o=.ok u→Rd9 (pre++l) box (s.after pre.length) (.ok (u.after pre.length)):=by
 have hlen:(pre++l).length=l.length+pre.length:=by rw[List.length_append];omega
 induction h with
 | done h1 =>
  intro u e;cases e;exact .done (by rw[hlen];show _≤_+_;omega)
 | short=>intro u e;cases e
 | bad=>intro u e;cases e
 | @go s t o h1 h2 h3 ih =>
  intro u e;refine .go (by rw[hlen];show _+_<_;omega) ?_ (ih u e);rw[zpn,h2];rfl
theorem zjQ {p:UInt8→Bool}{l:List UInt8}{j:Nat}(h:j+zah p (l.drop j)<l.length)(x:List UInt8):((l++x).drop j).takeWhile p=(l.drop j).takeWhile p:=by
 rw[List.drop_append_of_le_length (by omega)];have key:∀m:List UInt8,zah p m<m.length→(m++x).takeWhile p=m.takeWhile p:=fun m=>by
  induction m with
  | nil=>intro h;exact absurd h (Nat.not_lt_zero _)
  | cons c m ih =>
   intro h;rw[List.cons_append,List.takeWhile_cons,List.takeWhile_cons];by_cases hc:p c=true
   ·rw[if_pos hc,if_pos hc];unfold zah at h;rw[List.takeWhile_cons,if_pos hc,List.length_cons,List.length_cons] at h;rw[ih (by unfold zah;omega)]
   ·rw[if_neg hc,if_neg hc]
 exact key _ (by rw[List.length_drop];omega)
theorem zjR {p:UInt8→Bool}(hp:p 10=false){l:List UInt8}{j:Nat}(hj:j≤l.length)(h:j+zah p (l.drop j)=l.length)(x:List UInt8):((l++10 :: x).drop j).takeWhile p=(l.drop j).takeWhile p:=by
 rw[List.drop_append_of_le_length hj];have key:∀m:List UInt8,zah p m=m.length→(m++10 :: x).takeWhile p=m.takeWhile p:=fun m=>by
  induction m with
  | nil =>
   intro _;rw[List.nil_append,List.takeWhile_cons,if_neg (by rw[hp];exact Bool.noConfusion)];rfl
  | cons c m ih =>
   intro h;rw[List.cons_append,List.takeWhile_cons,List.takeWhile_cons];unfold zah at h;rw[List.takeWhile_cons] at h;by_cases hc:p c=true
   ·rw[if_pos hc,List.length_cons,List.length_cons] at h;rw[if_pos hc,if_pos hc,ih (by unfold zah;omega)]
   ·rw[if_neg hc] at h;exact absurd h.symm (Nat.succ_ne_zero _)
 exact key _ (by rw[List.length_drop];omega)
theorem zmH {l:List UInt8}{v t:Ln}(hv:v.pos≤l.length)(h:v.eol l=.ok t) :
  (v.pos<l.length∧l[t.pos-1]?=some 10∧t.pos≤l.length∧∀x,v.eol (l++x)=.ok t)∨(v.pos=l.length∧t=v∧∀x,v.eol (l++10 :: x)=.ok ⟨v.pos+1,v.rule,v.rows,v.count⟩):=by
 have hx:∀x i,i<l.length→(l++x)[i]?=l[i]?:=fun x i hi=>List.getElem?_append_left hi;have hlt:∀{i:Nat} {c:UInt8},l[i]?=some c→i<l.length:=fun {i c} h=>by
  rcases Nat.lt_or_ge i l.length with h1|h1
  ·exact h1
  ·rw[List.getElem?_eq_none h1] at h;cases h
 unfold Ln.eol eolZ at h;cases h1:l[v.pos]? with
 | none =>
  have h2:=List.getElem?_eq_none_iff.1 h1;rw[h1] at h;cases h;refine .inr ⟨by omega,rfl,fun x=>znP (m:=x) ?_⟩;rw[show v.pos=l.length by omega,List.drop_left]
 | some c =>
  have h2:=hlt h1;rw[h1] at h;dsimp only at h;by_cases hc:c=13
  ·rw[if_pos hc] at h;cases h3:l[v.pos+1]? with
   | none=>rw[h3] at h;cases h
   | some d =>
    rw[h3] at h;dsimp only at h;by_cases hd:d=10
    ·rw[if_pos hd] at h;cases h;have h4:=hlt h3;refine .inl ⟨h2,?_,by show v.pos+2≤_;omega,fun x=>?_⟩
     ·show l[v.pos+2-1]?=_;rw[show v.pos+2-1=v.pos+1 by omega,h3,hd]
     ·unfold Ln.eol eolZ;rw[hx x _ h2,h1,hx x _ h4,h3];dsimp only;rw[if_pos hc,if_pos hd]
    ·rw[if_neg hd] at h;cases h
  ·rw[if_neg hc] at h;by_cases hd:c=10
   ·rw[if_pos hd] at h;cases h;refine .inl ⟨h2,?_,by show v.pos+1≤_;omega,fun x=>?_⟩
    ·show l[v.pos+1-1]?=_;rw[Nat.add_sub_cancel,h1,hd]
    ·unfold Ln.eol eolZ;rw[hx x _ h2,h1];dsimp only;rw[if_neg hc,if_pos hd]
   ·rw[if_neg hd] at h;cases h
theorem zlr:∀{a w x:List UInt8},comm a w=w.length→comm (a++x) w=w.length
 | _,[],_,_=>by
  rename_i a x _;cases a <;> cases x <;> rfl
 | [],_ :: _,_,h=>absurd h (by show ¬ (0=_+1);omega)
 | c :: a,d :: w,x,h=>by
  unfold comm at h;by_cases hc:c=d
  ·rw[if_pos hc,List.length_cons] at h;rw[List.cons_append,comm,if_pos hc,List.length_cons,zlr (by omega)]
  ·rw[if_neg hc,List.length_cons] at h;omega
theorem zls:∀{a x:List UInt8} {w:List UInt8},comm a w≠w.length→(∃k,k<a.length∧a[k]?≠w[k]?∧k<w.length)∨a.length<w.length
 | _,_,[],h=>absurd (by rename_i a x;cases a <;> rfl) h
 | [],_,_ :: _,_=>.inr (Nat.zero_lt_succ _)
 | c :: a,x,d :: w,h=>by
  unfold comm at h;by_cases hc:c=d
  ·rw[if_pos hc,List.length_cons] at h;rcases zls (a:=a) (x:=x) (w:=w) (by omega) with⟨k,h1,h2,h3⟩|h1
   ·exact .inl ⟨k+1,by rw[List.length_cons];omega,by simpa using h2,by rw[List.length_cons];omega⟩
   ·exact .inr (by rw[List.length_cons,List.length_cons];omega)
  ·exact .inl ⟨0,by rw[List.length_cons];omega,by simp[hc],by rw[List.length_cons];omega⟩
theorem zhL {a w:List UInt8}(h:comm a w=w.length){k:Nat}(hk:k<w.length):a[k]?=w[k]?:=zeh (by omega)
theorem zgx {l:List UInt8}{j:Nat}(h:comm (l.drop j) zbj≠7)(x:List UInt8)(hx:(∃k,j≤k∧l[k]?=some 10)∨∃y,x=10 :: y)(hj:j≤l.length):comm ((l++x).drop j) zbj≠7:=fun e=>by
 rw[List.drop_append_of_le_length hj] at e;have hn:∀k:Nat,zbj[k]?≠some 10:=fun k=>by
  match k with
  | 0|1|2|3|4|5|6=>decide
  | k+7=>exact fun h=>by cases h
 rcases zls (x:=x) (w:=zbj) h with⟨k,h1,h2,h3⟩|h1
 ·have h4:=zhL (w:=zbj) e h3;rw[List.getElem?_append_left h1] at h4;exact h2 h4
 ·rcases hx with⟨k,hk,h2⟩|⟨y,rfl⟩
  ·have h5:k<l.length:=by
    rcases Nat.lt_or_ge k l.length with h5|h5
    ·exact h5
    ·rw[List.getElem?_eq_none h5] at h2;cases h2
   rw[List.length_drop] at h1;have h6:k-j<zbj.length:=by omega
   have h4:=zhL (w:=zbj) e h6;rw[List.getElem?_append_left (by rw[List.length_drop];omega),List.getElem?_drop,show j+(k-j)=k by omega,h2] at h4;exact hn _ h4.symm
  ·have h4:=zhL (w:=zbj) e h1;rw[List.getElem?_append_right (Nat.le_refl _),Nat.sub_self] at h4;exact hn _ h4.symm
theorem zhM {p:UInt8→Bool}(hp:p 10=false){l:List UInt8}{j:Nat}(hj:j<l.length)(h:j+zah p (l.drop j)=l.length):l[l.length-1]?≠some 10:=fun e=>by
 obtain⟨c,h1,h2⟩:=zfj (p:=p) (l:=l.drop j) (j:=l.length-1-j) (by omega);rw[List.getElem?_drop,show j+(l.length-1-j)=l.length-1 by omega,e] at h1;rw[←Option.some.inj h1,hp] at h2;cases h2
theorem zuQ {l:List UInt8}{box:Int}{s t:Ln}(hs:s.pos<l.length)(h:zaE l box s=.ok t) :
  (l[t.pos-1]?=some 10∧t.pos≤l.length∧s.pos<t.pos∧∀x,zaE (l++x) box s=.ok t)∨(t.pos=l.length∧l[l.length-1]?≠some 10∧∀x,zaE (l++10 :: x) box s=.ok ⟨t.pos+1,t.rule,t.rows,t.count⟩):=by
 have hg:∀x,(l++x)[s.pos]?=l[s.pos]?:=fun x=>List.getElem?_append_left hs;have hdr:∀x,(l++x).drop s.pos=l.drop s.pos++x:=fun x=>List.drop_append_of_le_length (Nat.le_of_lt hs);have hnl:∀{v:Ln},s.pos≤v.pos→l[t.pos-1]?=some 10→v.pos<l.length→s.pos<t.pos→∃k,s.pos≤k∧l[k]?=some 10:=fun {v} _ h1 _ h3=>⟨t.pos-1,by omega,h1⟩;have heol:∀v:Ln,v.eol l=.ok t→v.pos≤t.pos:=fun v hv=>by
  unfold Ln.eol at hv;cases hE:eolZ l v.pos with
  | short=>rw[hE] at hv;cases hv
  | bad k=>rw[hE] at hv;cases hv
  | go k =>
   rw[hE] at hv;cases hv;show v.pos≤k;unfold eolZ at hE;split at hE
   ·cases hE;exact Nat.le_refl _
   ·split at hE
    ·split at hE
     ·cases hE
     ·split at hE
      ·cases hE;omega
      ·cases hE
    ·split at hE
     ·cases hE;omega
     ·cases hE
 have hst:∀v:Ln,v.eol l=.ok t→v.pos<l.length→v.pos<t.pos:=fun v hv h1=>by
  have h2:=heol v hv;rcases Nat.lt_or_ge v.pos t.pos with h3|h3
  ·exact h3
  ·exfalso;unfold Ln.eol at hv;cases hE:eolZ l v.pos with
   | short=>rw[hE] at hv;cases hv
   | bad k=>rw[hE] at hv;cases hv
   | go k =>
    rw[hE] at hv;cases hv;have h3':k≤v.pos:=h3;unfold eolZ at hE;rw[List.getElem?_eq_getElem h1] at hE;dsimp only at hE;split at hE
    ·split at hE
     ·cases hE
     ·split at hE
      ·cases hE;omega
      ·cases hE
    ·split at hE
     ·cases hE;omega
     ·cases hE
 unfold zaE at h;by_cases h1:comm (l.drop s.pos) zbj=7
 ·rw[if_pos h1] at h;have h1x:∀x,comm ((l++x).drop s.pos) zbj=7:=fun x=>by rw[hdr];exact zlr (w:=zbj) h1
  have h7:s.pos+7≤l.length:=zcZ h1;obtain⟨n,hn⟩:∃n,n=min 40 (zah sgn (l.drop (s.pos+7))):=⟨_,rfl⟩;rw[←hn] at h;by_cases h2:n=0
  ·rw[if_pos h2] at h;split at h <;> cases h
  ·rw[if_neg h2] at h;have hsp:=zbl sgn l (s.pos+7);have hvl:(Ln.mk (s.pos+7+n) ((l.drop (s.pos+7)).take n) s.rows s.count).pos≤l.length:=by show s.pos+7+n≤_;omega
   have hle:=heol _ h;have hlt:=hst _ h
   -- so many zdx in what is longer
   have hsame:∀x,((l++x).drop (s.pos+7)).takeWhile sgn=(l.drop (s.pos+7)).takeWhile sgn∨s.pos+7+zah sgn (l.drop (s.pos+7))=l.length:=fun x=>by
    rcases Nat.lt_or_ge (s.pos+7+zah sgn (l.drop (s.pos+7))) l.length with h3|h3
    ·exact .inl (zjQ h3 x)
    ·exact .inr (by omega)
   have htk:∀x,((l++x).drop (s.pos+7)).take n=(l.drop (s.pos+7)).take n:=fun x=>by
    rw[List.drop_append_of_le_length h7,List.take_append_of_le_length (by rw[List.length_drop];omega)]
   have hfin:∀x,(∀(m:Nat),zah sgn ((l++x).drop (s.pos+7))=m→min 40 m=n)→∀r,(Ln.mk (s.pos+7+n) ((l.drop (s.pos+7)).take n) s.rows s.count).eol (l++x)=r→zaE (l++x) box s=r:=fun x hm r hr=>by
    unfold zaE;rw[if_pos (h1x x),hm _ rfl,if_neg h2,htk];exact hr
   rcases zmH hvl h with⟨e1,e2,e3,e4⟩|⟨e1,e2,e3⟩
   ·refine .inl ⟨e2,e3,by have:s.pos+7+n≤t.pos:=hle;omega,fun x=>hfin x (fun m hm=>?_) _ (e4 x)⟩;rcases hsame x with h3|h3
    ·unfold zah at hm;rw[h3] at hm;rw[hn,←hm];rfl
    ·
     -- more than forty
     have h4:n=40:=by
      have:s.pos+7+n<l.length:=e1;omega
     have h5:zah sgn (l.drop (s.pos+7))≤m:=by
      rw[←hm,List.drop_append_of_le_length h7];refine zhB fun j hj=>?_;obtain⟨c,k1,k2⟩:=zfj hj;refine⟨c,?_,k2⟩;rw[List.getElem?_append_left,k1];have:=zbl sgn l (s.pos+7);rw[List.length_drop];omega
     omega
   ·have e1':s.pos+7+n=l.length:=e1;have h40:n=zah sgn (l.drop (s.pos+7)):=by omega
    refine .inr ⟨by rw[e2];exact e1,zhM (p:=sgn) (by decide) (j:=s.pos+7) (by omega) (by omega),fun x=>hfin _ (fun m hm=>?_) _ (by rw[e3,e2])⟩;have h3:=zjR (p:=sgn) (by decide) h7 (by omega) x;unfold zah at hm;rw[h3] at hm;rw[hn,←hm];rfl
 ·rw[if_neg h1] at h;by_cases h2:l[s.pos]?=some 33
  ·rw[if_pos h2] at h;have hsp:=zbl zaL l s.pos;have hle:=heol _ h;have h0:0<zah zaL (l.drop s.pos):=by
    rw[zcX h2 (by decide)];omega
   rcases zmH (by show s.pos+zah zaL (l.drop s.pos)≤_;omega) h with⟨e1,e2,e3,e4⟩|⟨e1,e2,e3⟩
   ·have hlt:s.pos<t.pos:=by have:s.pos+zah zaL (l.drop s.pos)≤t.pos:=hle;omega
    refine .inl ⟨e2,e3,hlt,fun x=>?_⟩;unfold zaE;rw[if_neg (zgx h1 x (.inl ⟨t.pos-1,by omega,e2⟩) (Nat.le_of_lt hs)),hg,if_pos h2];have h3:=zjQ (p:=zaL) (l:=l) (j:=s.pos) e1 x;rw[show zah zaL ((l++x).drop s.pos)=zah zaL (l.drop s.pos) by unfold zah;rw[h3]];exact e4 x
   ·refine .inr ⟨by rw[e2];exact e1,zhM (p:=zaL) (by decide) hs e1,fun x=>?_⟩;unfold zaE;rw[if_neg (zgx h1 _ (.inr ⟨x,rfl⟩) (Nat.le_of_lt hs)),hg,if_pos h2];have h3:=zjR (p:=zaL) (by decide) (Nat.le_of_lt hs) e1 x;rw[show zah zaL ((l++10 :: x).drop s.pos)=zah zaL (l.drop s.pos) by unfold zah;rw[h3],e3,e2]
  ·rw[if_neg h2] at h;cases hf:farZ box s.count ((l.drop s.pos).takeWhile zau) with
   | some j=>rw[hf] at h;cases h
   | none =>
    rw[hf] at h;dsimp only at h;have hsp:=zbl zau l s.pos;have hle:=heol _ h;rcases zmH (by show s.pos+zah zau (l.drop s.pos)≤_;omega) h with⟨e1,e2,e3,e4⟩|⟨e1,e2,e3⟩
    ·have hlt:s.pos<t.pos:=by
      have h3:s.pos+zah zau (l.drop s.pos)<t.pos:=hst _ h e1;omega
     refine .inl ⟨e2,e3,hlt,fun x=>?_⟩;unfold zaE;rw[if_neg (zgx h1 x (.inl ⟨t.pos-1,by omega,e2⟩) (Nat.le_of_lt hs)),hg,if_neg h2];have h3:=zjQ (p:=zau) (l:=l) (j:=s.pos) e1 x;rw[show zah zau ((l++x).drop s.pos)=zah zau (l.drop s.pos) by unfold zah;rw[h3],h3,hf];exact e4 x
    ·refine .inr ⟨by rw[e2];exact e1,zhM (p:=zau) (by decide) hs e1,fun x=>?_⟩;unfold zaE;rw[if_neg (zgx h1 _ (.inr ⟨x,rfl⟩) (Nat.le_of_lt hs)),hg,if_neg h2];have h3:=zjR (p:=zau) (by decide) (Nat.le_of_lt hs) e1 x;rw[show zah zau ((l++10 :: x).drop s.pos)=zah zau (l.drop s.pos) by unfold zah;rw[h3],h3,hf];dsimp only;rw[e3,e2]
def endB (l:List UInt8):Bool:=decide (l=[]∨l[l.length-1]?=some 10)
def endL (l:List UInt8):List UInt8:=if endB l=true then [] else [10]
theorem zxq {l:List UInt8}{box:Int}{s:Ln}{o:Ro}(h:Rd9 l box s o):∀u,o=.ok u→(s.pos<l.length∨(s.pos=l.length∧endB l=true)) →
  ∃u2:Ln,u2.rule=u.rule∧u2.rows=u.rows∧u2.pos=(l++endL l).length∧∀x o,Rd9 (l++endL l++x) box u2 o→Rd9 (l++endL l++x) box s o:=by
 induction h with
 | @done s h1 =>
  intro u e hp;cases e;rcases hp with h2|⟨h2,h3⟩
  ·omega
  ·refine⟨s,rfl,rfl,?_,fun x o h=>h⟩;unfold endL;rw[if_pos h3,List.append_nil,h2]
 | short=>intro u e;cases e
 | bad=>intro u e;cases e
 | @go s t o h1 h2 h3 ih =>
  intro u e hp;rcases zuQ h1 h2 with⟨a1,a2,a3,a4⟩|⟨a1,a2,a3⟩
  ·obtain⟨u2,b1,b2,b3,b4⟩:=ih u e (by
    rcases Nat.lt_or_ge t.pos l.length with c1|c1
    ·exact .inl c1
    ·have c2:t.pos=l.length:=by omega
     refine .inr ⟨c2,decide_eq_true (.inr ?_)⟩;rw[c2] at a1;exact a1)
   refine⟨u2,b1,b2,b3,fun x o h=>.go (by rw[List.append_assoc,List.length_append];omega) ?_ (b4 x o h)⟩;rw[List.append_assoc];exact a4 _
  ·subst e;have hu:t=u:=by
    cases h3 with
    | done=>rfl
    | go c=>omega
   subst hu;have hb:endB l=false:=decide_eq_false fun c=>by
    rcases c with rfl|c
    ·exact absurd h1 (Nat.not_lt_zero _)
    ·exact a2 c
   have he:endL l=[10]:=by unfold endL;rw[hb];rfl
   refine⟨⟨t.pos+1,t.rule,t.rows,t.count⟩,rfl,rfl,by rw[he,List.length_append];show t.pos+1=l.length+1;omega,fun x o h=>.go (by rw[he,List.append_assoc,List.length_append];omega) ?_ h⟩;rw[he,List.append_assoc];exact a3 x
theorem zhN {l r m:List UInt8}{box:Int}{s:Ln}{c:UInt8}(h:l.drop s.pos=33 :: (r++c :: m))(hr:∀x∈r,zaL x=true)(hc:zaL c=false)(h1:comm (33 :: (r++c :: m)) zbj≠7)(t:Ln)
  (ht:Ln.eol ⟨s.pos+1+r.length,s.rule,s.rows,s.count⟩ l=.ok t):zaE l box s=.ok t:=by
 have hn:zah zaL (l.drop s.pos)=r.length+1:=by
  unfold zah;rw[h,List.takeWhile_cons,if_pos (by decide),zlq hr hc];rfl
 unfold zaE;rw[h,if_neg h1,zek h,if_pos rfl,←h,hn,show s.pos+(r.length+1)=s.pos+1+r.length by omega];exact ht
def remT:List UInt8:=[33,97,110,121,32,116,104,105,110,103,13,10]
def zsw:List UInt8:=[33,10,33,82,117,108,10]
def zbV:Nat→List UInt8
 | 0=>[]
 | k+1=>zbV k++[46,46,46,10]
theorem zfI:∀k,zbV (k+1)=[46,46,46,10]++zbV k
 | 0=>rfl
 | k+1=>by
  show zbV (k+1)++[46,46,46,10]=_;rw[zfI k,List.append_assoc];show[46,46,46,10]++zbV (k+1)=_;rw[zfI k]
theorem zsx {l:List UInt8}{box:Int}:∀(k:Nat) (s:Ln),l.drop s.pos=zbV k→∃u:Ln,u.rule=s.rule∧u.rows=s.rows∧Rd9 l box s (.ok u)
 | 0,s,h=>⟨s,rfl,rfl,.done (by
   have h1:=congrArg List.length h;rw[List.length_drop] at h1;have h2:(zbV 0).length=0:=rfl;omega)⟩
 | k+1,s,h=>by
  rw[zfI] at h;have hl:=zxp (box:=box) (s:=s) (l:=l) (r:=[46,46,46]) (m:=zbV k) h (by decide) (by
   unfold farZ;rw[List.find?_eq_none];intro j hj;have h1:([46,46,46]:List UInt8)[j]?≠some 79:=by
    match j with
    | 0|1|2=>decide
    | j+3=>exact fun h=>by cases h
   rw[show(([46,46,46]:List UInt8)[j]?==some 79)=false from beq_eq_false_iff_ne.2 h1];exact Bool.noConfusion)
  have hlt:s.pos<l.length:=by
   have h1:=congrArg List.length h;rw[List.length_drop,List.length_append] at h1;have h2:([46,46,46,10]:List UInt8).length=4:=rfl;omega
  obtain⟨u,h1,h2,h3⟩:=zsx k ⟨s.pos+3+1,s.rule,zbz s.rows s.count [46,46,46],s.count+1⟩ (zdS (r:=[46,46,46,10]) h);refine⟨u,h1,?_,.go hlt hl h3⟩;rw[h2];show zbz s.rows s.count [46,46,46]=s.rows;exact if_pos (show zaK 46 [46,46,46]=[] by decide)
theorem zsy {r m:List UInt8}{c:UInt8}(h:c≠82):comm (33 :: c :: m) zbj≠7:=fun e=>by
 have h2:=zeh (s:=33 :: c :: m) (t:=zbj) (i:=1) (by omega);exact h (Option.some.inj h2)
theorem zjS {b:List UInt8}{box:Int}{u:Ln}(h:Rd9 b box ln0 (.ok u))(k:Nat):∃u':Ln,Rd9 (b++endL b++(remT++zbV k)) box ln0 (.ok u')∧u'.rule=u.rule∧u'.rows=u.rows:=by
 obtain⟨u2,h1,h2,h3,h4⟩:=zxq h u rfl (by
  rcases Nat.eq_zero_or_pos b.length with h0|h0
  ·exact .inr ⟨h0.symm,decide_eq_true (.inl (List.length_eq_zero_iff.1 h0))⟩
  ·exact .inl h0)
 have hd:(b++endL b++(remT++zbV k)).drop u2.pos=33 :: ([97,110,121,32,116,104,105,110,103]++13 :: 10 :: zbV k):=by
  rw[h3,List.drop_left];rfl
 have hd2:(b++endL b++(remT++zbV k)).drop (u2.pos+1+9)=13 :: 10 :: zbV k:=by
  have e:=zdS (r:=[33,97,110,121,32,116,104,105,110,103]) hd;exact e
 have hl:=zhN (box:=box) hd (by decide) (by decide) (zsy (r:=[]) (by decide)) ⟨u2.pos+1+9+2,u2.rule,u2.rows,u2.count⟩ (zyy (s:=⟨u2.pos+1+9,u2.rule,u2.rows,u2.count⟩) hd2);have hlt:u2.pos<(b++endL b++(remT++zbV k)).length:=by
  have e1:(b++endL b++(remT++zbV k)).length=(b++endL b).length+(remT++zbV k).length:=List.length_append;have e2:(remT++zbV k).length=12+(zbV k).length:=List.length_append;omega
 obtain⟨v,v1,v2,v3⟩:=zsx (l:=b++endL b++(remT++zbV k)) (box:=box) k ⟨u2.pos+1+9+2,u2.rule,u2.rows,u2.count⟩ (zdS (r:=[13,10]) hd2);exact⟨v,h4 _ _ (.go hlt hl v3),v1.trans h1,v2.trans h2⟩
theorem zmI {b:List UInt8}{box:Int}{u:Ln}(h:Rd9 b box ln0 (.ok u)):∃u':Ln,Rd9 (zsw++b) box ln0 (.ok u')∧u'.rule=u.rule∧u'.rows=u.rows:=by
 have h1:=zuP zsw h u rfl;have hd:(zsw++b).drop ln0.pos=33 :: ([]++10 :: (33 :: ([82,117,108]++10 :: b))):=rfl;have hd2:(zsw++b).drop 2=33 :: ([82,117,108]++10 :: b):=rfl;have l1:=zhN (box:=box) (s:=ln0) hd (by decide) (by decide) (zsy (r:=[]) (by decide)) ⟨2,ln0.rule,[],0⟩ (znP (s:=⟨1,ln0.rule,[],0⟩) (m:=33 :: ([82,117,108]++10 :: b)) rfl);have l2:=zhN (box:=box) (s:=⟨2,ln0.rule,[],0⟩) hd2 (by decide) (by decide) (fun e=>by
  have h2:=zeh (s:=33 :: ([82,117,108]++10 :: b)) (t:=zbj) (i:=4) (by omega);exact absurd (Option.some.inj h2) (by decide)) ⟨7,ln0.rule,[],0⟩ (znP (s:=⟨6,ln0.rule,[],0⟩) (m:=b) rfl)
 have hl:(zsw++b).length=b.length+7:=by rw[List.length_append,Nat.add_comm];rfl
 exact⟨u.after 7,.go (by rw[hl];show 0<_;omega) l1 (.go (by rw[hl];show 2<_;omega) l2 h1),rfl,rfl⟩
theorem RdI.move {l l':List UInt8}{box nodes:Int}{ru ru':List UInt8}{q q':List Nd}{a a' e':Int}(h:RdI l box nodes ru q a 0)(k:RdI l' box nodes ru' q' a' e')
  (mv:∀u,Rd9 l box ln0 (.ok u)→∃u':Ln,Rd9 l' box ln0 (.ok u')∧u'.rule=u.rule∧u'.rows=u.rows):e'=0∧ru'=ru∧q'=q:=by
 cases hf:zbF box nodes with
 | false=>exact absurd (h.1 hf).2.1 (by decide)
 | true =>
  obtain⟨o,r1,h1⟩:=h.2 hf;obtain⟨o',r2,k1⟩:=k.2 hf;cases o with
  | bad i e =>
   have h2:=zsp r1 i e rfl;have h3:=h1.2.1;omega
  | short=>exact absurd h1.2.1 (by decide)
  | ok u =>
   obtain⟨u',r3,e1,e2⟩:=mv u r1;obtain rfl:=r2.one r3;obtain⟨x,hx,h2,h3⟩:=h1;obtain⟨y,hy,k2,k3⟩:=k1;rw[e2] at hy;obtain rfl:=hy.one hx;by_cases hn:nodes<(y.length:Int)
   ·exact absurd (h2 hn).2.1 (by decide)
   ·obtain⟨-,-,rfl,rfl⟩:=h3 (by omega);obtain⟨-,b,c,d⟩:=k3 (by omega);exact⟨b,c.trans e1,d⟩
end Go.Proofs.YtbabbmdpgpcgjaaGreatDoor

namespace Go.Proofs.YtbabbmdpgpcgjaaGreatDoor
open Go.RowKit Num Nds Txt
theorem zsz (s:ByteArray):(s.size=0∧endL s.data.toList=[])∨∃m,m+1=s.size∧∃hm:m<s.size,(s[m]'hm=10∧endL s.data.toList=[])∨(s[m]'hm≠10∧endL s.data.toList=[10]):=by
 rcases Nat.eq_zero_or_pos s.size with h0|h0
 ·refine .inl ⟨h0,if_pos (decide_eq_true (.inl (List.length_eq_zero_iff.1 (by rw[zaf];exact h0))))⟩
 ·have hm:s.size-1<s.size:=by omega
  have hg:=zbQ hm;refine .inr ⟨s.size-1,by omega,hm,?_⟩;by_cases h1:s[s.size-1]'hm=10
  ·exact .inl ⟨h1,if_pos (decide_eq_true (.inr (by rw[zaf,hg,h1])))⟩
  ·refine .inr ⟨h1,if_neg fun e=>?_⟩;rcases of_decide_eq_true e with h2|h2
   ·have h3:=congrArg List.length h2;rw[zaf] at h3;exact absurd h3 (by show ¬ _=0;omega)
   ·rw[zaf,hg] at h2;exact h1 (Option.some.inj h2)
theorem zjT:∀k,(zbV k).length=4*k
 | 0=>rfl
 | k+1=>by
  show(zbV k++[46,46,46,10]).length=_;rw[List.length_append,zjT k];show 4*k+4=_;omega
theorem zhO {s t:ByteArray}{j:Nat}(h2:j≤8)(h3:t.data.toList=endL s.data.toList++(remT++zbV j)):t.size≤100:=by
 have h4:=congrArg List.length h3;have h5:(endL s.data.toList).length≤1:=by
  unfold endL;split <;> decide
 have h6:remT.length=12:=rfl;rw[zaf,List.length_append,List.length_append,zjT] at h4;omega
theorem zfJ {s t:ByteArray}{j:Nat}(h1:s.size≤300)(h2:j≤8)(h3:t.data.toList=endL s.data.toList++(remT++zbV j)):(s++t).size≤600:=by
 have h4:=congrArg List.length h3;have h5:(endL s.data.toList).length≤1:=by
  unfold endL;split <;> decide
 have h6:remT.length=12:=rfl;rw[zaf,List.length_append,List.length_append,zjT] at h4;rw[ByteArray.size_append];omega
theorem zhP {s:ByteArray}(h1:s.size≤300):((⟨#[33,10,33,82,117,108,10]⟩:ByteArray)++s).size≤600:=by
 rw[ByteArray.size_append];show 7+s.size≤600;omega
theorem zmJ (s:ByteArray)(k:Nat)(w:World)(hs:s.size≤maxLen)(hk:k≤255)(h1:300<s.size) :
  Calls Tryz.prog 5 #[.string s,.int .u8 (k:Int)] w fun e w'=>e=.returned (.bool true)∧Below w.heap.size w w':=by
 have q0:True:=trivial;have t1:decide ((s.size:Int)>300)=true:=decide_eq_true (by omega);clear hs h1 hk;go_enter Tryz.func5,Tryz.ntmps5;go_wp2_with (have _t:=q0;go_at_call 6;clear _t;go_loud (refine(zdr _).mono ?_;rintro e w1 ⟨rfl,b_⟩;have SS:=Hh ((Sx.start w).next b_);clear b_;have q1:=q0;clear q0));go_ret;exact⟨rfl,SS.out.b⟩
theorem zuR (s:ByteArray)(k:Nat)(w:World)(hs:s.size≤maxLen)(hk:k≤255)(h1:s.size≤300)(z0:s.size=0)(z1:endL s.data.toList=[]) :
  Calls Tryz.prog 5 #[.string s,.int .u8 (k:Int)] w fun e w'=>e=.returned (.bool true)∧Below w.heap.size w w':=by
 have q0:True:=trivial;have t1:decide ((s.size:Int)>300)=false:=decide_eq_false (by omega);have HS:=Hh h1;have HK:=Hh hk;have FACTS:True:=trivial;have HE:=Hh z1;have t2:decide ((s.size:Int)>0)=false:=decide_eq_false (by omega);have t2a:decide (0<s.size)=false:=decide_eq_false (by omega);have t2b:(0<s.size)=False:=eq_false (by omega);clear z0 z1;clear hs h1 hk FACTS;go_enter Tryz.func5,Tryz.ntmps5;go_upto_region 7 with(first
  | (have _t:=q0;go_at_call 6;clear _t;go_loud (refine(zdr _).mono ?_;rintro e w1 ⟨rfl,b_⟩;have SS:=Hh (((Sx.start w).next b_).box (.cells #[.int .i64 60,.int .i64 100000] 23));clear b_;obtain⟨m0,m1⟩:=zal (SS.out.bx 0 _ _ rfl);have q1:=q0;clear q0))
  | (have _t:=q1;go_at_call 7;clear _t;go_loud (refine(zaN s 60 100000 _ (by have:=HS.out;omega) (by have h9:=List.count_le_length (a:=(79:UInt8)) (l:=s.data.toList);rw[zaf] at h9;have:=HS.out;omega)).mono ?_;rintro e w2 ⟨ru,A,c,n,q,at_,er,rfl,l5,n5,-,b5,d5⟩;have D1:=Hh d5;have HN:=Hh l5;have hcn:=n5.cap;rw[l5] at hcn;have SS:=Hh (((SS.out.next b5).addQ n5).box (.cells #[.string ru,.slice A n c] 29));clear m0 m1 l5 n5 b5 d5;obtain⟨m0,m1⟩:=zal (SS.out.bx 0 _ _ rfl);obtain⟨c0,c1⟩:=zad (SS.out.bx 1 _ _ rfl);have q2:=q1;clear q1)))
 by_cases h0:er=0
 ·subst h0;go_wp2_with fail;go_loopw [11,10] (fun z1 z2 wr=>∃(v:Value) (j:Nat) (t:ByteArray),z2=v∧z1=.int .i64 j∧v=.string t∧j≤k%9∧t.data.toList=endL s.data.toList++(remT++zbV j)∧Sx w wr ([]++[(w1.heap.size,(.cells #[.int .i64 60,.int .i64 100000] 23))]++[(w2.heap.size,(.cells #[.string ru,.slice A n c] 29))]) [] ([]++[(A,c,q)])) (fun z _ _=>k%9-(intOf z).toNat)
  case atStart=>exact⟨_,0,_,rfl,rfl,rfl,Nat.zero_le _,by rw[HE.out];rfl,SS.out⟩
  case round =>
   obtain⟨v,j,t,rfl,rfl,rfl,hj,ht,hss⟩:=hrel;have HJ:=Hh hj;have HT:=Hh ht;clear SS m0 m1 c0 c1 hj ht;have SS:=Hh hss;obtain⟨m0,m1⟩:=zal (SS.out.bx 0 _ _ rfl);obtain⟨c0,c1⟩:=zad (SS.out.bx 1 _ _ rfl);clear hss;have HTZ:=Hh (zhO (show j≤8 by have:=HJ.out;omega) HT.out);by_cases hlt:j<k%9
   ·have x1:decide ((j:Int)<(k:Int)%9)=true:=decide_eq_true (by omega);have x2:¬ 9223372036854775807<t.size+4:=by have:=HTZ.out;omega
    go_wp2_with fail;go_roundw
    case rel=>exact⟨_,j+1,_,rfl,by go_num,rfl,hlt,by rw[zdw,HT.out,List.append_assoc,List.append_assoc];rfl,SS.out⟩
    case measure=>simp[intOf];omega
   ·have x1:decide ((j:Int)<(k:Int)%9)=false:=decide_eq_false (by omega);have HSZ:=Hh (zfJ HS.out (show j≤8 by have:=HJ.out;omega) HT.out);have x2:¬ 9223372036854775807<s.size+t.size:=by have:=HTZ.out;have:=HS.out;omega
    have x3:¬ 9223372036854775807<7+s.size:=by have:=HS.out;omega
    have HSY:=Hh (zhP HS.out);have HMV:=Hh (show ∀u,Rd9 s.data.toList 60 ln0 (.ok u)→∃u':Ln,Rd9 (s++t).data.toList 60 ln0 (.ok u')∧u'.rule=u.rule∧u'.rows=u.rows from fun u hu=>by
     have h9:=zjS hu j;rw[List.append_assoc,←HT.out,←zdw] at h9;exact h9)
    have HMW:=Hh (show ∀u,Rd9 s.data.toList 60 ln0 (.ok u)→∃u':Ln,Rd9 ((⟨#[33,10,33,82,117,108,10]⟩:ByteArray)++s).data.toList 60 ln0 (.ok u')∧u'.rule=u.rule∧u'.rows=u.rows from fun u hu=>by
     have h9:=zmI hu;rw[zdw];exact h9)
    clear hlt;go_wp2_with (first
     | (have _t:=q2;go_at_call 7;clear _t;go_loud (refine(zaN (s++t) 60 100000 _ (by have:=HSZ.out;omega) (by have h9:=List.count_le_length (a:=(79:UInt8)) (l:=(s++t).data.toList);rw[zaf] at h9;have:=HSZ.out;omega)).mono ?_;rintro e w3 ⟨ru3,A3,c3,n3,q3,at3,er3,rfl,l5,n5,-,b5,d5⟩;obtain⟨rfl,hr3,rfl⟩:=D1.out.move d5 (fun u hu=>HMV.out u hu);obtain rfl:ru3=ru:=zhU hr3;have HN3:=Hh l5;have hcn3:=n5.cap;rw[l5] at hcn3;have SS:=Hh (((SS.out.next b5).addQ n5).box (.cells #[.string ru3,.slice A3 n3 c3] 29));clear m0 m1 c0 c1 l5 n5 b5 d5 hr3;obtain⟨m0,m1⟩:=zal (SS.out.bx 0 _ _ rfl);obtain⟨c0,c1⟩:=zad (SS.out.bx 1 _ _ rfl);obtain⟨d0,d1⟩:=zad (SS.out.bx 2 _ _ rfl);have q3:=q2;clear q2))
     | (have _t:=q3;go_at_call 7;clear _t;go_loud (refine(zaN ((⟨#[33,10,33,82,117,108,10]⟩:ByteArray)++s) 60 100000 _ (by have:=HSY.out;omega) (by have h9:=List.count_le_length (a:=(79:UInt8)) (l:=((⟨#[33,10,33,82,117,108,10]⟩:ByteArray)++s).data.toList);rw[zaf] at h9;have:=HSY.out;omega)).mono ?_;rintro e w4 ⟨ru4,A4,c4,n4,q4_,at4,er4,rfl,l5,n5,-,b5,d5⟩;obtain⟨rfl,hr4,rfl⟩:=D1.out.move d5 (fun u hu=>HMW.out u hu);obtain rfl:ru4=ru3:=zhU hr4;have HN4:=Hh l5;have hcn4:=n5.cap;rw[l5] at hcn4;have SS:=Hh (((SS.out.next b5).addQ n5).box (.cells #[.string ru4,.slice A4 n4 c4] 29));clear m0 m1 c0 c1 d0 d1 l5 n5 b5 d5 hr4;obtain⟨m0,m1⟩:=zal (SS.out.bx 0 _ _ rfl);obtain⟨c0,c1⟩:=zad (SS.out.bx 1 _ _ rfl);obtain⟨d0,d1⟩:=zad (SS.out.bx 2 _ _ rfl);obtain⟨e0,e1⟩:=zad (SS.out.bx 3 _ _ rfl);have q4:=q3;clear q3))
     | (have _t:=q4;go_at_call 9;clear _t;go_loud (refine(zci A A3 c c3 n n3 ru4 ru4 q4_ q4_ _ (SS.out.qs 0 _ _ _ rfl) (SS.out.qs 1 _ _ _ rfl) HN.out HN3.out).mono ?_;rintro e w5 ⟨rfl,b_⟩;rw[decide_eq_true (rfl:ru4=ru4),decide_eq_true (rfl:q4_=q4_)];have SS:=Hh (SS.out.next b_);clear m0 m1 c0 c1 d0 d1 e0 e1 b_;obtain⟨m0,m1⟩:=zal (SS.out.bx 0 _ _ rfl);obtain⟨c0,c1⟩:=zad (SS.out.bx 1 _ _ rfl);obtain⟨d0,d1⟩:=zad (SS.out.bx 2 _ _ rfl);obtain⟨e0,e1⟩:=zad (SS.out.bx 3 _ _ rfl);have q5:=q4;clear q4))
     | (have _t:=q5;go_at_call 9;clear _t;go_loud (refine(zci A A4 c c4 n n4 ru4 ru4 q4_ q4_ _ (SS.out.qs 0 _ _ _ rfl) (SS.out.qs 2 _ _ _ rfl) HN.out HN4.out).mono ?_;rintro e w6 ⟨rfl,b_⟩;rw[decide_eq_true (rfl:ru4=ru4),decide_eq_true (rfl:q4_=q4_)];have SS:=Hh (SS.out.next b_);clear m0 m1 c0 c1 d0 d1 e0 e1 b_;obtain⟨m0,m1⟩:=zal (SS.out.bx 0 _ _ rfl);obtain⟨c0,c1⟩:=zad (SS.out.bx 1 _ _ rfl);obtain⟨d0,d1⟩:=zad (SS.out.bx 2 _ _ rfl);obtain⟨e0,e1⟩:=zad (SS.out.bx 3 _ _ rfl);have q6:=q5;clear q5)))
    go_ret;exact⟨rfl,SS.out.b⟩
 ·have t3:(er != 0)=true:=by rw[bne_iff_ne];exact h0
  clear h0;go_wp2_with fail;go_ret;exact⟨rfl,SS.out.b⟩
theorem zuS (s:ByteArray)(k:Nat)(w:World)(hs:s.size≤maxLen)(hk:k≤255)(h1:s.size≤300)(m:Nat)(z0:m+1=s.size)(hm:m<s.size)(z1:s[m]'hm=10)(z2:endL s.data.toList=[]) :
  Calls Tryz.prog 5 #[.string s,.int .u8 (k:Int)] w fun e w'=>e=.returned (.bool true)∧Below w.heap.size w w':=by
 have q0:True:=trivial;have t1:decide ((s.size:Int)>300)=false:=decide_eq_false (by omega);have HS:=Hh h1;have HK:=Hh hk;have FACTS:True:=trivial;have HE:=Hh z2;have t2:decide ((s.size:Int)>0)=true:=decide_eq_true (by omega);have t2a:decide (0<s.size)=true:=decide_eq_true (by omega);have t2b:(0<s.size)=True:=eq_true (by omega);have kw:IntKind.i64.wrap ((s.size:Int)-1)=(m:Int):=by rw[←z0];exact(by rw[show(((m+1:Nat):Int)-1)=(m:Int) by omega];exact IntWalk.i64_in _ (by have:=HS.out;omega))
 have kx:wrap64 ((s.size:Int)-1)=(m:Int):=by rw[←z0,show(((m+1:Nat):Int)-1)=(m:Int) by omega];exact IntWalk.wrap64_in _ ⟨by omega,by have:=HS.out;omega⟩
 have i1:(0:Int)≤(m:Int):=by omega
 have i2:(m:Int)<(s.size:Int):=by omega
 have u1:((((s[m]'hm).toNat:Nat):Int)!=10)=false:=by rw[z1];rfl
 clear z0 z1 z2;clear hs h1 hk FACTS;go_enter Tryz.func5,Tryz.ntmps5;go_upto_region 7 with(first
  | (have _t:=q0;go_at_call 6;clear _t;go_loud (refine(zdr _).mono ?_;rintro e w1 ⟨rfl,b_⟩;have SS:=Hh (((Sx.start w).next b_).box (.cells #[.int .i64 60,.int .i64 100000] 23));clear b_;obtain⟨m0,m1⟩:=zal (SS.out.bx 0 _ _ rfl);have q1:=q0;clear q0))
  | (have _t:=q1;go_at_call 7;clear _t;go_loud (refine(zaN s 60 100000 _ (by have:=HS.out;omega) (by have h9:=List.count_le_length (a:=(79:UInt8)) (l:=s.data.toList);rw[zaf] at h9;have:=HS.out;omega)).mono ?_;rintro e w2 ⟨ru,A,c,n,q,at_,er,rfl,l5,n5,-,b5,d5⟩;have D1:=Hh d5;have HN:=Hh l5;have hcn:=n5.cap;rw[l5] at hcn;have SS:=Hh (((SS.out.next b5).addQ n5).box (.cells #[.string ru,.slice A n c] 29));clear m0 m1 l5 n5 b5 d5;obtain⟨m0,m1⟩:=zal (SS.out.bx 0 _ _ rfl);obtain⟨c0,c1⟩:=zad (SS.out.bx 1 _ _ rfl);have q2:=q1;clear q1)))
 by_cases h0:er=0
 ·subst h0;go_wp2_with fail;go_loopw [11,10] (fun z1 z2 wr=>∃(v:Value) (j:Nat) (t:ByteArray),z2=v∧z1=.int .i64 j∧v=.string t∧j≤k%9∧t.data.toList=endL s.data.toList++(remT++zbV j)∧Sx w wr ([]++[(w1.heap.size,(.cells #[.int .i64 60,.int .i64 100000] 23))]++[(w2.heap.size,(.cells #[.string ru,.slice A n c] 29))]) [] ([]++[(A,c,q)])) (fun z _ _=>k%9-(intOf z).toNat)
  case atStart=>exact⟨_,0,_,rfl,rfl,rfl,Nat.zero_le _,by rw[HE.out];rfl,SS.out⟩
  case round =>
   obtain⟨v,j,t,rfl,rfl,rfl,hj,ht,hss⟩:=hrel;have HJ:=Hh hj;have HT:=Hh ht;clear SS m0 m1 c0 c1 hj ht;have SS:=Hh hss;obtain⟨m0,m1⟩:=zal (SS.out.bx 0 _ _ rfl);obtain⟨c0,c1⟩:=zad (SS.out.bx 1 _ _ rfl);clear hss;have HTZ:=Hh (zhO (show j≤8 by have:=HJ.out;omega) HT.out);by_cases hlt:j<k%9
   ·have x1:decide ((j:Int)<(k:Int)%9)=true:=decide_eq_true (by omega);have x2:¬ 9223372036854775807<t.size+4:=by have:=HTZ.out;omega
    go_wp2_with fail;go_roundw
    case rel=>exact⟨_,j+1,_,rfl,by go_num,rfl,hlt,by rw[zdw,HT.out,List.append_assoc,List.append_assoc];rfl,SS.out⟩
    case measure=>simp[intOf];omega
   ·have x1:decide ((j:Int)<(k:Int)%9)=false:=decide_eq_false (by omega);have HSZ:=Hh (zfJ HS.out (show j≤8 by have:=HJ.out;omega) HT.out);have x2:¬ 9223372036854775807<s.size+t.size:=by have:=HTZ.out;have:=HS.out;omega
    have x3:¬ 9223372036854775807<7+s.size:=by have:=HS.out;omega
    have HSY:=Hh (zhP HS.out);have HMV:=Hh (show ∀u,Rd9 s.data.toList 60 ln0 (.ok u)→∃u':Ln,Rd9 (s++t).data.toList 60 ln0 (.ok u')∧u'.rule=u.rule∧u'.rows=u.rows from fun u hu=>by
     have h9:=zjS hu j;rw[List.append_assoc,←HT.out,←zdw] at h9;exact h9)
    have HMW:=Hh (show ∀u,Rd9 s.data.toList 60 ln0 (.ok u)→∃u':Ln,Rd9 ((⟨#[33,10,33,82,117,108,10]⟩:ByteArray)++s).data.toList 60 ln0 (.ok u')∧u'.rule=u.rule∧u'.rows=u.rows from fun u hu=>by
     have h9:=zmI hu;rw[zdw];exact h9)
    clear hlt;go_wp2_with (first
     | (have _t:=q2;go_at_call 7;clear _t;go_loud (refine(zaN (s++t) 60 100000 _ (by have:=HSZ.out;omega) (by have h9:=List.count_le_length (a:=(79:UInt8)) (l:=(s++t).data.toList);rw[zaf] at h9;have:=HSZ.out;omega)).mono ?_;rintro e w3 ⟨ru3,A3,c3,n3,q3,at3,er3,rfl,l5,n5,-,b5,d5⟩;obtain⟨rfl,hr3,rfl⟩:=D1.out.move d5 (fun u hu=>HMV.out u hu);obtain rfl:ru3=ru:=zhU hr3;have HN3:=Hh l5;have hcn3:=n5.cap;rw[l5] at hcn3;have SS:=Hh (((SS.out.next b5).addQ n5).box (.cells #[.string ru3,.slice A3 n3 c3] 29));clear m0 m1 c0 c1 l5 n5 b5 d5 hr3;obtain⟨m0,m1⟩:=zal (SS.out.bx 0 _ _ rfl);obtain⟨c0,c1⟩:=zad (SS.out.bx 1 _ _ rfl);obtain⟨d0,d1⟩:=zad (SS.out.bx 2 _ _ rfl);have q3:=q2;clear q2))
     | (have _t:=q3;go_at_call 7;clear _t;go_loud (refine(zaN ((⟨#[33,10,33,82,117,108,10]⟩:ByteArray)++s) 60 100000 _ (by have:=HSY.out;omega) (by have h9:=List.count_le_length (a:=(79:UInt8)) (l:=((⟨#[33,10,33,82,117,108,10]⟩:ByteArray)++s).data.toList);rw[zaf] at h9;have:=HSY.out;omega)).mono ?_;rintro e w4 ⟨ru4,A4,c4,n4,q4_,at4,er4,rfl,l5,n5,-,b5,d5⟩;obtain⟨rfl,hr4,rfl⟩:=D1.out.move d5 (fun u hu=>HMW.out u hu);obtain rfl:ru4=ru3:=zhU hr4;have HN4:=Hh l5;have hcn4:=n5.cap;rw[l5] at hcn4;have SS:=Hh (((SS.out.next b5).addQ n5).box (.cells #[.string ru4,.slice A4 n4 c4] 29));clear m0 m1 c0 c1 d0 d1 l5 n5 b5 d5 hr4;obtain⟨m0,m1⟩:=zal (SS.out.bx 0 _ _ rfl);obtain⟨c0,c1⟩:=zad (SS.out.bx 1 _ _ rfl);obtain⟨d0,d1⟩:=zad (SS.out.bx 2 _ _ rfl);obtain⟨e0,e1⟩:=zad (SS.out.bx 3 _ _ rfl);have q4:=q3;clear q3))
     | (have _t:=q4;go_at_call 9;clear _t;go_loud (refine(zci A A3 c c3 n n3 ru4 ru4 q4_ q4_ _ (SS.out.qs 0 _ _ _ rfl) (SS.out.qs 1 _ _ _ rfl) HN.out HN3.out).mono ?_;rintro e w5 ⟨rfl,b_⟩;rw[decide_eq_true (rfl:ru4=ru4),decide_eq_true (rfl:q4_=q4_)];have SS:=Hh (SS.out.next b_);clear m0 m1 c0 c1 d0 d1 e0 e1 b_;obtain⟨m0,m1⟩:=zal (SS.out.bx 0 _ _ rfl);obtain⟨c0,c1⟩:=zad (SS.out.bx 1 _ _ rfl);obtain⟨d0,d1⟩:=zad (SS.out.bx 2 _ _ rfl);obtain⟨e0,e1⟩:=zad (SS.out.bx 3 _ _ rfl);have q5:=q4;clear q4))
     | (have _t:=q5;go_at_call 9;clear _t;go_loud (refine(zci A A4 c c4 n n4 ru4 ru4 q4_ q4_ _ (SS.out.qs 0 _ _ _ rfl) (SS.out.qs 2 _ _ _ rfl) HN.out HN4.out).mono ?_;rintro e w6 ⟨rfl,b_⟩;rw[decide_eq_true (rfl:ru4=ru4),decide_eq_true (rfl:q4_=q4_)];have SS:=Hh (SS.out.next b_);clear m0 m1 c0 c1 d0 d1 e0 e1 b_;obtain⟨m0,m1⟩:=zal (SS.out.bx 0 _ _ rfl);obtain⟨c0,c1⟩:=zad (SS.out.bx 1 _ _ rfl);obtain⟨d0,d1⟩:=zad (SS.out.bx 2 _ _ rfl);obtain⟨e0,e1⟩:=zad (SS.out.bx 3 _ _ rfl);have q6:=q5;clear q5)))
    go_ret;exact⟨rfl,SS.out.b⟩
 ·have t3:(er != 0)=true:=by rw[bne_iff_ne];exact h0
  clear h0;go_wp2_with fail;go_ret;exact⟨rfl,SS.out.b⟩
theorem zuT (s:ByteArray)(k:Nat)(w:World)(hs:s.size≤maxLen)(hk:k≤255)(h1:s.size≤300)(m:Nat)(z0:m+1=s.size)(hm:m<s.size)(z1:s[m]'hm≠10)(z2:endL s.data.toList=[10]) :
  Calls Tryz.prog 5 #[.string s,.int .u8 (k:Int)] w fun e w'=>e=.returned (.bool true)∧Below w.heap.size w w':=by
 have q0:True:=trivial;have t1:decide ((s.size:Int)>300)=false:=decide_eq_false (by omega);have HS:=Hh h1;have HK:=Hh hk;have FACTS:True:=trivial;have HE:=Hh z2;have t2:decide ((s.size:Int)>0)=true:=decide_eq_true (by omega);have t2a:decide (0<s.size)=true:=decide_eq_true (by omega);have t2b:(0<s.size)=True:=eq_true (by omega);have kw:IntKind.i64.wrap ((s.size:Int)-1)=(m:Int):=by rw[←z0];exact(by rw[show(((m+1:Nat):Int)-1)=(m:Int) by omega];exact IntWalk.i64_in _ (by have:=HS.out;omega))
 have kx:wrap64 ((s.size:Int)-1)=(m:Int):=by rw[←z0,show(((m+1:Nat):Int)-1)=(m:Int) by omega];exact IntWalk.wrap64_in _ ⟨by omega,by have:=HS.out;omega⟩
 have i1:(0:Int)≤(m:Int):=by omega
 have i2:(m:Int)<(s.size:Int):=by omega
 have u1:((((s[m]'hm).toNat:Nat):Int)!=10)=true:=by
  rw[bne_iff_ne];exact fun e=>z1 (UInt8.toNat_inj.1 (by show _=10;omega))
 clear z0 z1 z2;clear hs h1 hk FACTS;go_enter Tryz.func5,Tryz.ntmps5;go_upto_region 7 with(first
  | (have _t:=q0;go_at_call 6;clear _t;go_loud (refine(zdr _).mono ?_;rintro e w1 ⟨rfl,b_⟩;have SS:=Hh (((Sx.start w).next b_).box (.cells #[.int .i64 60,.int .i64 100000] 23));clear b_;obtain⟨m0,m1⟩:=zal (SS.out.bx 0 _ _ rfl);have q1:=q0;clear q0))
  | (have _t:=q1;go_at_call 7;clear _t;go_loud (refine(zaN s 60 100000 _ (by have:=HS.out;omega) (by have h9:=List.count_le_length (a:=(79:UInt8)) (l:=s.data.toList);rw[zaf] at h9;have:=HS.out;omega)).mono ?_;rintro e w2 ⟨ru,A,c,n,q,at_,er,rfl,l5,n5,-,b5,d5⟩;have D1:=Hh d5;have HN:=Hh l5;have hcn:=n5.cap;rw[l5] at hcn;have SS:=Hh (((SS.out.next b5).addQ n5).box (.cells #[.string ru,.slice A n c] 29));clear m0 m1 l5 n5 b5 d5;obtain⟨m0,m1⟩:=zal (SS.out.bx 0 _ _ rfl);obtain⟨c0,c1⟩:=zad (SS.out.bx 1 _ _ rfl);have q2:=q1;clear q1)))
 by_cases h0:er=0
 ·subst h0;go_wp2_with fail;go_loopw [11,10] (fun z1 z2 wr=>∃(v:Value) (j:Nat) (t:ByteArray),z2=v∧z1=.int .i64 j∧v=.string t∧j≤k%9∧t.data.toList=endL s.data.toList++(remT++zbV j)∧Sx w wr ([]++[(w1.heap.size,(.cells #[.int .i64 60,.int .i64 100000] 23))]++[(w2.heap.size,(.cells #[.string ru,.slice A n c] 29))]) [] ([]++[(A,c,q)])) (fun z _ _=>k%9-(intOf z).toNat)
  case atStart=>exact⟨_,0,_,rfl,rfl,rfl,Nat.zero_le _,by rw[HE.out];rfl,SS.out⟩
  case round =>
   obtain⟨v,j,t,rfl,rfl,rfl,hj,ht,hss⟩:=hrel;have HJ:=Hh hj;have HT:=Hh ht;clear SS m0 m1 c0 c1 hj ht;have SS:=Hh hss;obtain⟨m0,m1⟩:=zal (SS.out.bx 0 _ _ rfl);obtain⟨c0,c1⟩:=zad (SS.out.bx 1 _ _ rfl);clear hss;have HTZ:=Hh (zhO (show j≤8 by have:=HJ.out;omega) HT.out);by_cases hlt:j<k%9
   ·have x1:decide ((j:Int)<(k:Int)%9)=true:=decide_eq_true (by omega);have x2:¬ 9223372036854775807<t.size+4:=by have:=HTZ.out;omega
    go_wp2_with fail;go_roundw
    case rel=>exact⟨_,j+1,_,rfl,by go_num,rfl,hlt,by rw[zdw,HT.out,List.append_assoc,List.append_assoc];rfl,SS.out⟩
    case measure=>simp[intOf];omega
   ·have x1:decide ((j:Int)<(k:Int)%9)=false:=decide_eq_false (by omega);have HSZ:=Hh (zfJ HS.out (show j≤8 by have:=HJ.out;omega) HT.out);have x2:¬ 9223372036854775807<s.size+t.size:=by have:=HTZ.out;have:=HS.out;omega
    have x3:¬ 9223372036854775807<7+s.size:=by have:=HS.out;omega
    have HSY:=Hh (zhP HS.out);have HMV:=Hh (show ∀u,Rd9 s.data.toList 60 ln0 (.ok u)→∃u':Ln,Rd9 (s++t).data.toList 60 ln0 (.ok u')∧u'.rule=u.rule∧u'.rows=u.rows from fun u hu=>by
     have h9:=zjS hu j;rw[List.append_assoc,←HT.out,←zdw] at h9;exact h9)
    have HMW:=Hh (show ∀u,Rd9 s.data.toList 60 ln0 (.ok u)→∃u':Ln,Rd9 ((⟨#[33,10,33,82,117,108,10]⟩:ByteArray)++s).data.toList 60 ln0 (.ok u')∧u'.rule=u.rule∧u'.rows=u.rows from fun u hu=>by
     have h9:=zmI hu;rw[zdw];exact h9)
    clear hlt;go_wp2_with (first
     | (have _t:=q2;go_at_call 7;clear _t;go_loud (refine(zaN (s++t) 60 100000 _ (by have:=HSZ.out;omega) (by have h9:=List.count_le_length (a:=(79:UInt8)) (l:=(s++t).data.toList);rw[zaf] at h9;have:=HSZ.out;omega)).mono ?_;rintro e w3 ⟨ru3,A3,c3,n3,q3,at3,er3,rfl,l5,n5,-,b5,d5⟩;obtain⟨rfl,hr3,rfl⟩:=D1.out.move d5 (fun u hu=>HMV.out u hu);obtain rfl:ru3=ru:=zhU hr3;have HN3:=Hh l5;have hcn3:=n5.cap;rw[l5] at hcn3;have SS:=Hh (((SS.out.next b5).addQ n5).box (.cells #[.string ru3,.slice A3 n3 c3] 29));clear m0 m1 c0 c1 l5 n5 b5 d5 hr3;obtain⟨m0,m1⟩:=zal (SS.out.bx 0 _ _ rfl);obtain⟨c0,c1⟩:=zad (SS.out.bx 1 _ _ rfl);obtain⟨d0,d1⟩:=zad (SS.out.bx 2 _ _ rfl);have q3:=q2;clear q2))
     | (have _t:=q3;go_at_call 7;clear _t;go_loud (refine(zaN ((⟨#[33,10,33,82,117,108,10]⟩:ByteArray)++s) 60 100000 _ (by have:=HSY.out;omega) (by have h9:=List.count_le_length (a:=(79:UInt8)) (l:=((⟨#[33,10,33,82,117,108,10]⟩:ByteArray)++s).data.toList);rw[zaf] at h9;have:=HSY.out;omega)).mono ?_;rintro e w4 ⟨ru4,A4,c4,n4,q4_,at4,er4,rfl,l5,n5,-,b5,d5⟩;obtain⟨rfl,hr4,rfl⟩:=D1.out.move d5 (fun u hu=>HMW.out u hu);obtain rfl:ru4=ru3:=zhU hr4;have HN4:=Hh l5;have hcn4:=n5.cap;rw[l5] at hcn4;have SS:=Hh (((SS.out.next b5).addQ n5).box (.cells #[.string ru4,.slice A4 n4 c4] 29));clear m0 m1 c0 c1 d0 d1 l5 n5 b5 d5 hr4;obtain⟨m0,m1⟩:=zal (SS.out.bx 0 _ _ rfl);obtain⟨c0,c1⟩:=zad (SS.out.bx 1 _ _ rfl);obtain⟨d0,d1⟩:=zad (SS.out.bx 2 _ _ rfl);obtain⟨e0,e1⟩:=zad (SS.out.bx 3 _ _ rfl);have q4:=q3;clear q3))
     | (have _t:=q4;go_at_call 9;clear _t;go_loud (refine(zci A A3 c c3 n n3 ru4 ru4 q4_ q4_ _ (SS.out.qs 0 _ _ _ rfl) (SS.out.qs 1 _ _ _ rfl) HN.out HN3.out).mono ?_;rintro e w5 ⟨rfl,b_⟩;rw[decide_eq_true (rfl:ru4=ru4),decide_eq_true (rfl:q4_=q4_)];have SS:=Hh (SS.out.next b_);clear m0 m1 c0 c1 d0 d1 e0 e1 b_;obtain⟨m0,m1⟩:=zal (SS.out.bx 0 _ _ rfl);obtain⟨c0,c1⟩:=zad (SS.out.bx 1 _ _ rfl);obtain⟨d0,d1⟩:=zad (SS.out.bx 2 _ _ rfl);obtain⟨e0,e1⟩:=zad (SS.out.bx 3 _ _ rfl);have q5:=q4;clear q4))
     | (have _t:=q5;go_at_call 9;clear _t;go_loud (refine(zci A A4 c c4 n n4 ru4 ru4 q4_ q4_ _ (SS.out.qs 0 _ _ _ rfl) (SS.out.qs 2 _ _ _ rfl) HN.out HN4.out).mono ?_;rintro e w6 ⟨rfl,b_⟩;rw[decide_eq_true (rfl:ru4=ru4),decide_eq_true (rfl:q4_=q4_)];have SS:=Hh (SS.out.next b_);clear m0 m1 c0 c1 d0 d1 e0 e1 b_;obtain⟨m0,m1⟩:=zal (SS.out.bx 0 _ _ rfl);obtain⟨c0,c1⟩:=zad (SS.out.bx 1 _ _ rfl);obtain⟨d0,d1⟩:=zad (SS.out.bx 2 _ _ rfl);obtain⟨e0,e1⟩:=zad (SS.out.bx 3 _ _ rfl);have q6:=q5;clear q5)))
    go_ret;exact⟨rfl,SS.out.b⟩
 ·have t3:(er != 0)=true:=by rw[bne_iff_ne];exact h0
  clear h0;go_wp2_with fail;go_ret;exact⟨rfl,SS.out.b⟩
theorem zpo (s:ByteArray)(k:Nat)(w:World)(hs:s.size≤maxLen)(hk:k≤255) :
  Calls Tryz.prog 5 #[.string s,.int .u8 (k:Int)] w fun e w'=>e=.returned (.bool true)∧Below w.heap.size w w':=by
 rcases Nat.lt_or_ge 300 s.size with h1|h1
 ·exact zmJ s k w hs hk h1
 ·rcases zsz s with⟨z0,z1⟩|⟨m,z0,hm,⟨z1,z2⟩|⟨z1,z2⟩⟩
  ·exact zuR s k w hs hk h1 z0 z1
  ·exact zuS s k w hs hk h1 m z0 hm z1 z2
  ·exact zuT s k w hs hk h1 m z0 hm z1 z2
end Go.Proofs.YtbabbmdpgpcgjaaGreatDoor
