import Derived.Test.YtfjajpnfjjdnpaaGreatDoorWGdM
import Derived.Laws.IdiomStrings

set_option linter.unusedVariables false
set_option linter.unusedSimpArgs false
set_option maxRecDepth 100000
set_option maxHeartbeats 6400000
namespace Go.Proofs.YtfjajpnfjjdnpaaGreatDoor
def strM (M:Int→Int→Int)(k wide:Nat):List UInt8:=(List.range wide).map fun(i:Nat)=>UInt8.ofNat (M k i).toNat
def zcP (M:Int→Int→Int)(wide high:Nat):List (List UInt8):=(List.range high).map fun k=>strM M k wide
def picS (rows:List (List UInt8)):Int→Int→Int:=fun r c=>(((rows.getD r.toNat []).getD c.toNat 0).toNat:Int)
theorem zcA (M:Int→Int→Int)(k wide:Nat):(strM M k wide).length=wide:=by
 unfold strM;rw[List.length_map,List.length_range]
theorem zdp (M:Int→Int→Int)(wide high:Nat):(zcP M wide high).length=high:=by
 unfold zcP;rw[List.length_map,List.length_range]
theorem zjY {z:Int}(h:0≤z∧z≤255):((UInt8.ofNat z.toNat).toNat:Int)=z:=by
 rw[UInt8.toNat_ofNat'];omega
theorem ziZ (M:Int→Int→Int){k wide i:Nat}(hi:i<wide):(strM M k wide)[i]?=some (UInt8.ofNat (M k i).toNat):=by
 unfold strM;rw[List.getElem?_map,List.getElem?_range hi];rfl
theorem zja (M:Int→Int→Int){k wide high:Nat}(hk:k<high):(zcP M wide high)[k]?=some (strM M k wide):=by
 unfold zcP;rw[List.getElem?_map,List.getElem?_range hk];rfl
theorem zqg {rows:List (List UInt8)}{k i:Nat}{r:List UInt8}{b:UInt8}(hk:rows[k]?=some r)(hi:r[i]?=some b):picS rows k i=(b.toNat:Int):=by
 unfold picS;simp[List.getD_eq_getElem?_getD,hk,hi]
theorem zhY {M:Int→Int→Int}(h:∀r c,0≤M r c∧M r c≤255){wide high k i:Nat}(hk:k<high)(hi:i<wide):picS (zcP M wide high) k i=M k i:=by
 rw[zqg (zja M hk) (ziZ M hi)];exact zjY (h k i)
theorem znO {M N:Int→Int→Int}{X Y:Int}{wide high:Nat}(h:∀k i:Nat,k<high→i<wide→M k i=N k i):picL M X Y wide high=picL N X Y wide high:=by
 refine zfS (zeH _ _ _ _ _) (zeH _ _ _ _ _) zle zle fun x y=>?_;rw[zlf,zlf];by_cases hc:0≤x-X∧x-X<wide∧0≤y-Y∧y-Y<high
 ·rw[if_pos hc,if_pos hc];have:=h (y-Y).toNat (x-X).toNat (by omega) (by omega)
  rwa [show(((y-Y).toNat:Nat):Int)=y-Y by omega,show(((x-X).toNat:Nat):Int)=x-X by omega] at this
 ·rw[if_neg hc,if_neg hc]
theorem znP {M:Int→Int→Int}(h:∀r c,0≤M r c∧M r c≤255)(X Y:Int)(wide high:Nat):picL (picS (zcP M wide high)) X Y wide high=picL M X Y wide high :=
 znO fun k i hk hi=>zhY h hk hi
end Go.Proofs.YtfjajpnfjjdnpaaGreatDoor

namespace Go.Proofs.YtfjajpnfjjdnpaaGreatDoor
open Nds
def picM (t:Tr)(X Y:Int):Int→Int→Int:=fun r c=>zaz t (X+c) (Y+r)
theorem znQ (t:Tr)(X Y:Int):zbX t (-p2 (t.lv.toNat-1)-X) (-p2 (t.lv.toNat-1)-Y) (fun _ _=>0)=picM t X Y:=by
 funext r c;rw[zld];unfold picM zaz;rw[show c-(-p2 (t.lv.toNat-1)-X)=X+c+p2 (t.lv.toNat-1) by omega,show r-(-p2 (t.lv.toNat-1)-Y)=Y+r+p2 (t.lv.toNat-1) by omega]
theorem BoxT.inP {t:Tr}{n:Nat}{X Y:Int}{wide high:Nat}(a:BoxT t n X Y wide high)(hn:t.lv.toNat=n):InP t (-p2 (n-1)-X) (-p2 (n-1)-Y) wide high:=fun x y h=>by
 have:=a.cell hn (X:=x-p2 (n-1)) (Y:=y-p2 (n-1)) (by
  unfold zaz;rw[hn,show x-p2 (n-1)+p2 (n-1)=x by omega,show y-p2 (n-1)+p2 (n-1)=y by omega];exact h)
 omega
theorem BoxT.pic {t:Tr}{n:Nat}{X Y:Int}{wide high:Nat}(a:BoxT t n X Y wide high)(hn:t.lv.toNat=n)(x y:Int) :
  zaz t x y=if 0≤x-X∧x-X<wide∧0≤y-Y∧y-Y<high then picM t X Y (y-Y) (x-X) else 0:=by
 by_cases h:0≤x-X∧x-X<wide∧0≤y-Y∧y-Y<high
 ·rw[if_pos h];unfold picM;rw[show X+(x-X)=x by omega,show Y+(y-Y)=y by omega]
 ·rw[if_neg h];refine Classical.byContradiction fun k=>h ?_;have:=a.cell hn k;omega
theorem BoxT.list {t:Tr}{n:Nat}{X Y:Int}{wide high:Nat}(a:BoxT t n X Y wide high)(hn:t.lv.toNat=n){L:List Cl}(hL:Srt L)(h0:∀c∈L,c.s≠0)(h:∀x y,zaz t x y=lk L x y) :
  picL (picM t X Y) X Y wide high=L:=zsv hL h0 fun x y=>by rw[←h,a.pic hn]
end Go.Proofs.YtfjajpnfjjdnpaaGreatDoor

namespace Go.Proofs.YtfjajpnfjjdnpaaGreatDoor
open Nds Num
def kidX (u:Int)(m j:Nat):Int:=u+((j%2:Nat):Int)*p2 m
def kidY (v:Int)(m j:Nat):Int:=v+((j / 2:Nat):Int)*p2 m
def zfl (q:Nat→Tr)(u v:Int)(m:Nat)(M:Int→Int→Int):Nat→Int→Int→Int
 | 0=>M
 | j+1=>zbX (q j) (kidX u m j) (kidY v m j) (zfl q u v m M j)
theorem zhZ {l:List Nd}(hl:zac l=true){x:Nd}{m:Nat}(hx:fitB l x=true)(hv:x.lv=(m:Int)+1)(u v:Int)(M:Int→Int→Int) :
  zbX (norm (dens l) x) u v M=zfl (fun i=>kidT (dens l) ((m:Int)+1) (x.kid i)) u v m M 4:=by
 have hw:∀i,i<4→wfT (m:Int) (kidT (dens l) ((m:Int)+1) (x.kid i)):=fun i hi=>ztr hl (by have:=zaj hx hi;rwa [hv] at this);rw[zmu hv,zsu (hw 0 (by omega)) (hw 1 (by omega)) (hw 2 (by omega)) (hw 3 (by omega))];have e0:∀u:Int,u+((0:Nat):Int)*p2 m=u:=fun u=>by omega
 have e1:∀u:Int,u+((1:Nat):Int)*p2 m=u+p2 m:=fun u=>by omega
 show _=zbX _ (u+((1:Nat):Int)*p2 m) (v+((1:Nat):Int)*p2 m) (zbX _ (u+((0:Nat):Int)*p2 m) (v+((1:Nat):Int)*p2 m) (zbX _ (u+((1:Nat):Int)*p2 m) (v+((0:Nat):Int)*p2 m) (zbX _ (u+((0:Nat):Int)*p2 m) (v+((0:Nat):Int)*p2 m) M)));simp only[e0,e1]
theorem zqh {l:List Nd}(hl:zac l=true){x:Nd}{m:Nat}(hx:fitB l x=true)(hv:x.lv=(m:Int)+1){u v:Int}{wide high:Nat}(h:InP (norm (dens l) x) u v wide high){j:Nat}(hj:j<4) :
  InP (kidT (dens l) ((m:Int)+1) (x.kid j)) (kidX u m j) (kidY v m j) wide high:=by
 have hw:∀i,i<4→wfT (m:Int) (kidT (dens l) ((m:Int)+1) (x.kid i)):=fun i hi=>ztr hl (by have:=zaj hx hi;rwa [hv] at this);rw[zmu hv] at h;obtain⟨h0,h1,h2,h3⟩:=zvK (hw 0 (by omega)) (hw 1 (by omega)) (hw 2 (by omega)) (hw 3 (by omega)) h;have e0:∀u:Int,u+((0:Nat):Int)*p2 m=u:=fun u=>by omega
 have e1:∀u:Int,u+((1:Nat):Int)*p2 m=u+p2 m:=fun u=>by omega
 match j,hj with
 | 0,_=>show InP _ (u+((0:Nat):Int)*p2 m) (v+((0:Nat):Int)*p2 m) _ _;rw[e0,e0];exact h0
 | 1,_=>show InP _ (u+((1:Nat):Int)*p2 m) (v+((0:Nat):Int)*p2 m) _ _;rw[e1,e0];exact h1
 | 2,_=>show InP _ (u+((0:Nat):Int)*p2 m) (v+((1:Nat):Int)*p2 m) _ _;rw[e0,e1];exact h2
 | 3,_=>show InP _ (u+((1:Nat):Int)*p2 m) (v+((1:Nat):Int)*p2 m) _ _;rw[e1,e1];exact h3
theorem zia {ts:List Tr}{k v':Int}(hk:k=0)(hz:kidT ts v' 0=.e)(q:Nat→Tr)(u v:Int)(m:Nat)(M:Int→Int→Int){j:Nat}(hq:q j=kidT ts v' k):zfl q u v m M (j+1)=zfl q u v m M j:=by
 show zbX (q j) _ _ _=_;rw[hq,hk,hz,zuu]
theorem zuv (u:Int)(m:Nat){b:Nat}(hb:b<2):(u%4294967296+((b:Int)*(p2 m%4294967296))%4294967296)%4294967296=(u+(b:Int)*p2 m)%4294967296:=by
 match b,hb with
 | 0,_=>show(u%4294967296+((0:Int)*_)%4294967296)%4294967296=(u+(0:Int)*_)%4294967296;omega
 | 1,_=>show(u%4294967296+((1:Int)*_)%4294967296)%4294967296=(u+(1:Int)*_)%4294967296;omega
theorem zuw {x:Nat}{r:List Nat}(hx:x<4294967296):ival false (x :: r)%4294967296=x∧ival true (x :: r)%4294967296=(-(x:Int))%4294967296:=by
 have e:val (x :: r)=x+4294967296*val r:=rfl;unfold ival;simp only[Bool.false_eq_true,if_false,if_true,e];omega
theorem zmx (n:Nat)(X:Int):((-(p2 n%4294967296))%4294967296-X%4294967296)%4294967296=(-p2 n-X)%4294967296:=by omega
end Go.Proofs.YtfjajpnfjjdnpaaGreatDoor

namespace Go.Proofs.YtfjajpnfjjdnpaaGreatDoor
open Nds
theorem zjb {q:List Nd}(hq:zac q=true)(X Y r c:Int):0≤picM (den q q.length) X Y r c∧picM (den q q.length) X Y r c≤255:=zpH hq (X+c) (Y+r)
end Go.Proofs.YtfjajpnfjjdnpaaGreatDoor

namespace Go.Proofs.YtfjajpnfjjdnpaaGreatDoor
open Go.RowKit Num
theorem zqi (k:Nat):(2:Int)^(min k 32)%4294967296=2^k%4294967296:=by
 by_cases h:k≤32
 ·rw[Nat.min_eq_left h]
 ·obtain⟨d,rfl⟩:∃d,k=32+d:=⟨k-32,by omega⟩;rw[Nat.min_eq_right (by omega),Int.pow_add,show(2:Int)^32=4294967296 by decide,Int.mul_emod_right];rfl
theorem zjc (k:Nat)(w:World)(hk:k≤1400) :
  Calls Tryz.prog 164 #[.int .i64 (k:Int)] w fun e w'=>e=.returned (.int .u32 ((2:Int)^k%4294967296))∧Below w.heap.size w w':=by
 go_enter Tryz.func164,Tryz.ntmps164;go_wp2_with fail;rw[zqi];go_ret;exact⟨rfl,Below.refl _ w⟩
theorem zqj (s:Bool)(A:Option Addr)(n c:Nat)(xs:List Nat)(w:World)(h:Us w A c xs)(hn:xs.length=n) :
  Calls Tryz.prog 166 #[.agg #[.bool s,.slice A n c]] w fun e w'=>e=.returned (.int .u32 ((if s then -((xs.getD 0 0:Nat):Int) else ((xs.getD 0 0:Nat):Int))%4294967296))∧Below w.heap.size w w':=by
 cases xs with
 | nil =>
  obtain rfl:0=n:=hn;cases s with
  | false =>
   go_enter Tryz.func166,Tryz.ntmps166;go_wp2_with fail;go_ret;exact⟨rfl,(Below.refl _ w).alloc (Nat.le_refl _) _⟩
  | true =>
   go_enter Tryz.func166,Tryz.ntmps166;go_wp2_with fail;go_ret;exact⟨rfl,(Below.refl _ w).alloc (Nat.le_refl _) _⟩
 | cons x r =>
  obtain⟨b,off,rfl,hlt,hc⟩:=h.at_ (by simp)
  have hg:((n:Int)==0)=false:=by simp at hn;simp;omega
  have hp:0<n:=by simp at hn;omega
  have h0:w.cell? ⟨b,off,none⟩=some (.int .u32 (x:Int)):=hc 0 (by simp);have hx:(x:Int)%4294967296=x:=by have:=h.1 x (by simp);omega
  clear h hc;cases s with
  | false =>
   go_enter Tryz.func166,Tryz.ntmps166;go_wp2_with fail;go_ret;exact⟨rfl,(Below.refl _ w).alloc (Nat.le_refl _) _⟩
  | true =>
   go_enter Tryz.func166,Tryz.ntmps166;go_wp2_with fail;go_ret;exact⟨rfl,(Below.refl _ w).alloc (Nat.le_refl _) _⟩
end Go.Proofs.YtfjajpnfjjdnpaaGreatDoor

namespace Go.Proofs.YtfjajpnfjjdnpaaGreatDoor
open Go.RowKit Num Nds
def RowP (R:Nat→Nat)(high:Nat):Nat→Prop:=fun k=>∃i,i<high∧k=R i
structure PnI (base:Nat)(l:List Nd)(n cq:Nat)(Aq:Option Addr)(gp g wide high:Nat)(R:Nat→Nat)(M:Int→Int→Int)(W:World):Prop where
 ns:Ns W Aq cq l
 qa:∀a,Aq=some a→¬ RowP R high a.block
 pk:W.heap[gp]?=some (.cells #[.slice Aq n cq,.slice (some ⟨g,0,none⟩) high high] 199)
 pr:¬ RowP R high gp
 pic:PicR 5 83 base g wide high high R M W
theorem Ns.ky {P:Nat→Prop}{W W':World}{A:Option Addr}{c:Nat}{l:List Nd}(h:Ns W A c l)(hA:∀a,A=some a→¬ P a.block)(k:Ky P W W'):Ns W' A c l :=
 ⟨h.1,h.2.1,h.2.2.1,fun h0=>by
  obtain⟨b,off,e,hlt,hc⟩:=h.2.2.2 h0;exact⟨b,off,e,Nat.lt_of_lt_of_le hlt k.size,fun i hi=>k.nd (hc i hi) hlt (hA _ e)⟩⟩
section
variable {base:Nat} {l:List Nd} {n cq:Nat} {Aq:Option Addr} {gp g wide high:Nat} {R:Nat→Nat} {M M':Int→Int→Int} {W W':World}
theorem PnI.ky (h:PnI base l n cq Aq gp g wide high R M W)(k:Ky (RowP R high) W W')(p:PicR 5 83 base g wide high high R M' W'):PnI base l n cq Aq gp g wide high R M' W' :=
 ⟨h.ns.ky h.qa k,h.qa,(k.block gp (zag h.pk) h.pr).trans h.pk,h.pr,p⟩
theorem PnI.next (h:PnI base l n cq Aq gp g wide high R M W)(k:Below W.heap.size W W'):PnI base l n cq Aq gp g wide high R M W' :=
 h.ky ((Ky.refl _ W).below k) (h.pic.next k)
theorem PnI.cells (h:PnI base l n cq Aq gp g wide high R M W):W.cell? ⟨gp,0,none⟩=some (.slice Aq n cq)∧W.cell? ⟨gp,1,none⟩=some (.slice (some ⟨g,0,none⟩) high high) :=
 ⟨(cell_of_row W gp 0 _ _ (0,0) h.pk).trans rfl,(cell_of_row W gp 1 _ _ (0,0) h.pk).trans rfl⟩
end
def zwr (base g wide high:Nat)(R:Nat→Nat)(M:Int→Int→Int)(w:World)(e:Ending)(w':World):Prop :=
 e=.returned (.tuple #[])∧Ky (RowP R high) w w'∧PicR 5 83 base g wide high high R M w'
theorem zmy (u:Int)(d:Nat){b:Int}(h0:0≤b)(h1:b<2){j:Nat}{k:Nat→Nat}(hb:b=((k j:Nat):Int)):(u%4294967296+b*((2:Int)^d%4294967296))%4294967296=(u+((k j:Nat):Int)*p2 d)%4294967296:=by
 have:=zuv u d (b:=k j) (by omega);rw[←hb] at this ⊢;rw[←this];show _=(u%4294967296+(b*((2:Int)^d%4294967296))%4294967296)%4294967296;generalize b*((2:Int)^d%4294967296)=X;omega
theorem zqk (base n cq:Nat)(l:List Nd)(Aq:Option Addr)(gp g wide high:Nat)(R:Nat→Nat)(hl:zac l=true)(hn:l.length=n)(hwd:wide≤1000)(hhg:high≤1000) :
  ∀(m:Nat) (x:Nd) (u v:Int) (M:Int→Int→Int) (w:World),m≤1328→x.lv=(m:Int)+1→x.wf→fitB l x=true→InP (norm (dens l) x) u v wide high→PnI base l n cq Aq gp g wide high R M w →
   Calls Tryz.prog 165 #[.pointer (some ⟨gp,0,none⟩),ndv x,.int .u32 (u%4294967296),.int .u32 (v%4294967296)] w (zwr base g wide high R (zbX (norm (dens l) x) u v M) w):=by
 intro m
 induction m with
 | zero =>
  intro x u v M w hm hv hwf hf hp hI;have HL:=Hh hn;obtain⟨d,hd⟩:∃d:Nat,d=0:=⟨_,rfl⟩;rw[show(((0:Nat)):Int)=(d:Int) by rw[hd]] at hv;have HD:=Hh hd;obtain⟨q,hq⟩:∃q:Nat→Tr,q=fun i=>kidT (dens l) ((d:Int)+1) (x.kid i):=⟨_,rfl⟩;have ho4:=zhZ hl hf hv u v M;rw[←hq] at ho4;rw[ho4];have HK:=Hh (show ∀j,j<4→InP (q j) (kidX u d j) (kidY v d j) wide high from fun j hj=>by rw[hq];exact zqh hl hf hv hp hj);have HQ:=Hh hq;have HF:=Hh hf;have hb:=(Below.refl w.heap.size w).alloc (Nat.le_refl _) (.cells #[.int .i64 x.lv,.int .i64 x.a,.int .i64 x.b,.int .i64 x.c,.int .i64 x.d] 70);have HI:=Hh (hI.next hb);have HB:=Hh (zbk.new w x);have HKY:=Hh ((Ky.refl (RowP R high) w).below hb);have hx1:IntKind.i64.wrap (x.lv-1)=(d:Int):=by rw[hv];rw[show((d:Int)+1-1)=(d:Int) by omega];exact IntWalk.i64_in _ (by omega)
  have HLV:=Hh hv;have NB:=Hh (show ¬ RowP R high w.heap.size from fun⟨i,hi,e⟩=>by have:=(hI.pic.ltR hi).2;omega);obtain⟨H,hH⟩:∃H,H=(2:Int)^d%4294967296:=⟨_,rfl⟩;have HH:=Hh hH;obtain⟨U,hU⟩:∃U,U=u%4294967296:=⟨_,rfl⟩;obtain⟨V,hV⟩:∃V,V=v%4294967296:=⟨_,rfl⟩;rw[←hU,←hV];have HU:=Hh hU;have HV:=Hh hV;obtain⟨c0,c1,c2,c3,c4⟩:=HB.out.cells;have HWF:=Hh hwf;clear hI hb hq ho4 hf hp hH hU hV hn hwf hv hd;go_enter Tryz.func165,Tryz.ntmps165;go_wp2_with (go_at_call 164;go_loud (refine(zjc d _ (by have:=HD.out;omega)).mono ?_;rintro e w1 ⟨rfl,b_⟩;rw[←HH.out];have HI:=Hh (HI.out.next b_);have HKY:=Hh (HKY.out.below b_);have HB:=Hh (HB.out.stay (b_.block _ HB.out.lt));clear b_ c0 c1 c2 c3 c4;obtain⟨c0,c1,c2,c3,c4⟩:=HB.out.cells));go_loopw [19,9,10,11,12] (fun z1 z2 z3 z4 z5 wr=>∃(j:Nat) (v2 v3 v4 v5:Value),z1=.int .i64 j∧z2=v2∧z3=v3∧z4=v4∧z5=v5∧j≤4∧PnI base l n cq Aq gp g wide high R (zfl q u v d M j) wr∧Ky (RowP R high) w wr∧zbk wr w.heap.size x) (fun z1 _ _ _ _ _=>4-(intOf z1).toNat)
  case atStart=>exact⟨0,_,_,_,_,rfl,rfl,rfl,rfl,rfl,by omega,HI.out,HKY.out,HB.out⟩
  case round =>
   obtain⟨j,v2,v3,v4,v5,rfl,rfl,rfl,rfl,rfl,hj,hi,hk,hb⟩:=hrel;clear c0 c1 c2 c3 c4 HI HKY HB;have HI:=Hh hi;have HKY:=Hh hk;have HB:=Hh hb;obtain⟨c0,c1,c2,c3,c4⟩:=hb.cells;obtain⟨p0,p1⟩:=hi.cells;clear hi hk hb;by_cases hlt:j<4
   ·have hidx:=zen x j hlt;have hfk:=zaj HF.out hlt;rw[HLV.out] at hfk;obtain⟨y,hy⟩:∃y,y=x.kid j:=⟨_,rfl⟩;rw[←hy] at hidx hfk;have HY:=Hh hy;clear hy;have hkn:=HK.out j hlt;obtain⟨C,hC⟩:∃C,C=kidX u d j%4294967296:=⟨_,rfl⟩;obtain⟨E,hE⟩:∃E,E=kidY v d j%4294967296:=⟨_,rfl⟩;have eC:(U+(j:Int)%2*H)%4294967296=C:=by
     rw[hC,HU.out,HH.out];exact zmy u d (by omega) (by omega) (k:=fun i=>i%2) (by show _=((j%2:Nat):Int);omega)
    have eE:(V+(j:Int) / 2*H)%4294967296=E:=by
     rw[hE,HV.out,HH.out];exact zmy v d (by omega) (by omega) (k:=fun i=>i / 2) (by show _=((j / 2:Nat):Int);omega)
    have j1:IntKind.i64.wrap ((j:Int)+1)=(j:Int)+1:=IntWalk.i64_in _ (by omega);have HC:=Hh hC;have HE:=Hh hE;clear hC hE;have h1v:(d:Int)+1=1:=by have:=HD.out;omega
    rw[h1v] at hfk;have hqj:q j=st y:=by
     rw[HQ.out];show kidT (dens l) ((d:Int)+1) (x.kid j)=_;rw[←HY.out,h1v,zbI]
    have t3:decide (x.lv>1)=false:=decide_eq_false (by have:=HLV.out;omega);by_cases hy0:y=0
    ·subst hy0;have hz:zfl q u v d M (j+1)=zfl q u v d M j:=zia (ts:=dens l) (v':=1) HY.out.symm (by rw[zbI];rfl) q u v d M (by rw[hqj,←HY.out];rfl);have HZ:=Hh hz;clear hz hkn hfk hidx eC eE hqj;have hidx2:=zen x j hlt;rw[←HY.out] at hidx2;go_wp2_with fail;go_roundw
     case rel=>exact⟨j+1,_,_,_,_,by go_num,rfl,rfl,rfl,rfl,by omega,by rw[HZ.out];exact HI.out,HKY.out,HB.out⟩
     case measure=>simp[intOf];omega
    ·rw[hqj] at hkn;obtain⟨a1,a2,a3,a4⟩:=zvJ hy0 hkn;have hyb:0≤y∧y≤255:=by
      unfold kidB at hfk;rw[if_pos rfl,decide_eq_true_iff] at hfk;exact hfk
     obtain⟨cn,hcn⟩:∃cn:Nat,kidX u d j=(cn:Int):=⟨(kidX u d j).toNat,by omega⟩;obtain⟨rn,hrn⟩:∃rn:Nat,kidY v d j=(rn:Int):=⟨(kidY v d j).toNat,by omega⟩;have eC2:C=(cn:Int):=by rw[HC.out,hcn];exact zmv (by omega)
     have eE2:E=(rn:Int):=by rw[HE.out,hrn];exact zmv (by omega)
     rw[eC2] at eC;rw[eE2] at eE;have hpic:zfl q u v d M (j+1)=fun r c=>if r=(rn:Int)∧c=(cn:Int) then y else zfl q u v d M j r c:=by
      show zbX (q j) (kidX u d j) (kidY v d j) _=_;rw[hqj,zst hy0,hcn,hrn]
     have k1:rn<high:=by omega
     have k2:cn<wide:=by omega
     have r0:=HI.out.pic.at_ k1 k1
     have r1:=HI.out.pic.get (k:=rn) (i:=cn) k1 k2;have r2:=HI.out.pic.free (k:=rn) k1 cn;have t2:(y==0)=false:=beq_eq_false_iff_ne.2 hy0;have i1:(rn:Int)<(high:Int):=by omega
     have i2:(cn:Int)<(wide:Int):=by omega
     have i3:IntKind.u8.wrap y=y:=by simp[IntKind.wrap,IntKind.bits,IntKind.signed];omega
     have HPC:=Hh hpic;have HK1:=Hh k1;have HK2:=Hh k2;have HJ:=Hh hlt;clear hpic hqj hkn hfk hyb hcn hrn eC2 eE2;go_wp2_with fail;go_roundw
     case rel=>exact⟨j+1,_,_,_,_,by go_num,rfl,rfl,rfl,rfl,by have:=HJ.out;omega,by rw[HPC.out];exact HI.out.ky ((Ky.refl _ wr).set ⟨R rn,cn,none⟩ (fun _=>⟨rn,HK1.out,rfl⟩) _) (HI.out.pic.set HK1.out HK2.out y),HKY.out.trans ((Ky.refl _ wr).set ⟨R rn,cn,none⟩ (fun _=>⟨rn,HK1.out,rfl⟩) _) (fun _ _ h=>h),HB.out.stay (heap_setCell_other wr ⟨R rn,cn,none⟩ w.heap.size _ (fun e=>NB.out ⟨rn,HK1.out,by first|exact e|exact e.symm⟩))⟩
     case measure=>have:=HJ.out;simp[intOf];omega
   ·have e:j=4:=by omega
    subst e;go_wp2_with fail;go_end0;exact⟨rfl,HKY.out,HI.out.pic⟩
 | succ m ih =>
  intro x u v M w hm hv hwf hf hp hI;have HL:=Hh hn;obtain⟨d,hd⟩:∃d,d=m+1:=⟨_,rfl⟩;rw[←hd] at hm hv;have HD:=Hh hd;obtain⟨q,hq⟩:∃q:Nat→Tr,q=fun i=>kidT (dens l) ((d:Int)+1) (x.kid i):=⟨_,rfl⟩;have ho4:=zhZ hl hf hv u v M;rw[←hq] at ho4;rw[ho4];have HK:=Hh (show ∀j,j<4→InP (q j) (kidX u d j) (kidY v d j) wide high from fun j hj=>by rw[hq];exact zqh hl hf hv hp hj);have HQ:=Hh hq;have HF:=Hh hf;have hb:=(Below.refl w.heap.size w).alloc (Nat.le_refl _) (.cells #[.int .i64 x.lv,.int .i64 x.a,.int .i64 x.b,.int .i64 x.c,.int .i64 x.d] 70);have HI:=Hh (hI.next hb);have HB:=Hh (zbk.new w x);have HKY:=Hh ((Ky.refl (RowP R high) w).below hb);have hx1:IntKind.i64.wrap (x.lv-1)=(d:Int):=by rw[hv];rw[show((d:Int)+1-1)=(d:Int) by omega];exact IntWalk.i64_in _ (by omega)
  have HLV:=Hh hv;have NB:=Hh (show ¬ RowP R high w.heap.size from fun⟨i,hi,e⟩=>by have:=(hI.pic.ltR hi).2;omega);obtain⟨H,hH⟩:∃H,H=(2:Int)^d%4294967296:=⟨_,rfl⟩;have HH:=Hh hH;obtain⟨U,hU⟩:∃U,U=u%4294967296:=⟨_,rfl⟩;obtain⟨V,hV⟩:∃V,V=v%4294967296:=⟨_,rfl⟩;rw[←hU,←hV];have HU:=Hh hU;have HV:=Hh hV;obtain⟨c0,c1,c2,c3,c4⟩:=HB.out.cells;have HWF:=Hh hwf;clear hI hb hq ho4 hf hp hH hU hV hn hwf hv hd;go_enter Tryz.func165,Tryz.ntmps165;go_wp2_with (go_at_call 164;go_loud (refine(zjc d _ (by omega)).mono ?_;rintro e w1 ⟨rfl,b_⟩;rw[←HH.out];have HI:=Hh (HI.out.next b_);have HKY:=Hh (HKY.out.below b_);have HB:=Hh (HB.out.stay (b_.block _ HB.out.lt));clear b_ c0 c1 c2 c3 c4;obtain⟨c0,c1,c2,c3,c4⟩:=HB.out.cells));go_loopw [19,9,10,11,12] (fun z1 z2 z3 z4 z5 wr=>∃(j:Nat) (v2 v3 v4 v5:Value),z1=.int .i64 j∧z2=v2∧z3=v3∧z4=v4∧z5=v5∧j≤4∧PnI base l n cq Aq gp g wide high R (zfl q u v d M j) wr∧Ky (RowP R high) w wr∧zbk wr w.heap.size x) (fun z1 _ _ _ _ _=>4-(intOf z1).toNat)
  case atStart=>exact⟨0,_,_,_,_,rfl,rfl,rfl,rfl,rfl,by omega,HI.out,HKY.out,HB.out⟩
  case round =>
   obtain⟨j,v2,v3,v4,v5,rfl,rfl,rfl,rfl,rfl,hj,hi,hk,hb⟩:=hrel;clear c0 c1 c2 c3 c4 HI HKY HB;have HI:=Hh hi;have HKY:=Hh hk;have HB:=Hh hb;obtain⟨c0,c1,c2,c3,c4⟩:=hb.cells;obtain⟨p0,p1⟩:=hi.cells;clear hi hk hb;by_cases hlt:j<4
   ·have hidx:=zen x j hlt;have hfk:=zaj HF.out hlt;rw[HLV.out] at hfk;obtain⟨y,hy⟩:∃y,y=x.kid j:=⟨_,rfl⟩;rw[←hy] at hidx hfk;have HY:=Hh hy;clear hy;have hkn:=HK.out j hlt;obtain⟨C,hC⟩:∃C,C=kidX u d j%4294967296:=⟨_,rfl⟩;obtain⟨E,hE⟩:∃E,E=kidY v d j%4294967296:=⟨_,rfl⟩;have eC:(U+(j:Int)%2*H)%4294967296=C:=by
     rw[hC,HU.out,HH.out];exact zmy u d (by omega) (by omega) (k:=fun i=>i%2) (by show _=((j%2:Nat):Int);omega)
    have eE:(V+(j:Int) / 2*H)%4294967296=E:=by
     rw[hE,HV.out,HH.out];exact zmy v d (by omega) (by omega) (k:=fun i=>i / 2) (by show _=((j / 2:Nat):Int);omega)
    have j1:IntKind.i64.wrap ((j:Int)+1)=(j:Int)+1:=IntWalk.i64_in _ (by omega);have HC:=Hh hC;have HE:=Hh hE;clear hC hE;rcases zaA (show(d:Int)+1≠1 by have:=HD.out;omega) hfk with rfl|⟨p,rfl,hp,hpl⟩
    ·have hz:zfl q u v d M (j+1)=zfl q u v d M j:=zia (ts:=dens l) (v':=(d:Int)+1) HY.out.symm (by rw[zaB (by have:=HD.out;omega)];exact zav l) q u v d M (by rw[HQ.out]);have HZ:=Hh hz;clear hz hkn hfk hidx eC eE;have hidx2:=zen x j hlt;rw[←HY.out] at hidx2;go_wp2_with fail;go_roundw
     case rel=>exact⟨j+1,_,_,_,_,by go_num,rfl,rfl,rfl,rfl,by omega,by rw[HZ.out];exact HI.out,HKY.out,HB.out⟩
     case measure=>simp[intOf];omega
    ·have hpn:p<n:=by rw[←HL.out];exact hp
     obtain⟨bb,off,rfl,hb,hc⟩:=HI.out.ns.at_ (by omega)
     have hcap:=HI.out.ns.cap;rw[HL.out] at hcap;obtain⟨z,hz⟩:∃z,z=at_ l p:=⟨_,rfl⟩
     obtain⟨n0,n1,n2,n3,n4⟩:=hc p hp;have hzl:z.lv=(m:Int)+1:=by have:=HD.out;rw[hz];omega
     have hzw:z.wf:=by rw[hz];exact HI.out.ns.wf hp
     have hzf:fitB l z=true:=by rw[hz];exact zad hl hp
     have hqj:q j=norm (dens l) z:=by
      rw[HQ.out];show kidT (dens l) ((d:Int)+1) (x.kid j)=_;rw[←HY.out,zaB (by have:=HD.out;omega),show((p:Int)+1).toNat=p+1 by omega,zaw hl hp,←hz]
     rw[hqj] at hkn;rw[←hz] at n0 n1 n2 n3 n4;have t2:(((p:Int)+1)==0)=false:=beq_eq_false_iff_ne.2 (by omega);have t3:decide (x.lv>1)=true:=decide_eq_true (by have:=HLV.out;have:=HD.out;omega);have i1:(p:Int)<(n:Int):=by omega
     have i3:IntKind.i64.wrap ((p:Int)+1-1)=(p:Int):=by rw[show(p:Int)+1-1=(p:Int) by omega];exact IntWalk.i64_in _ (by omega)
     have i7:IntKind.i64.wrap (p:Int)=(p:Int):=IntWalk.i64_in _ (by omega);have HKN:=Hh hkn;have HZL:=Hh hzl;have HZW:=Hh hzw;have HZF:=Hh hzf;have HQJ:=Hh hqj;have HJ:=Hh hlt;clear hc hkn hzl hzw hzf hqj hfk hz hpl;go_wp2_with (go_at_call 165;go_loud (have hr:=ih z (kidX u d j) (kidY v d j) (zfl q u v d M j) _ (by have:=HD.out;omega) HZL.out HZW.out HZF.out HKN.out HI.out;rw[←HC.out,←HE.out] at hr;refine hr.mono ?_;rintro e w2 ⟨rfl,hk2,hp2⟩;have HI2:=Hh (HI.out.ky hk2 hp2);have HK2:=Hh (HKY.out.trans hk2 (fun _ _ h=>h));have HB2:=Hh (HB.out.stay (hk2.block _ HB.out.lt (fun h=>NB.out h)));clear hk2 hp2 hr));go_roundw
     case rel=>exact⟨j+1,_,_,_,_,by go_num,rfl,rfl,rfl,rfl,by have:=HJ.out;omega,by(show PnI _ _ _ _ _ _ _ _ _ _ (zbX (q j) _ _ _) _;rw[HQJ.out];exact HI2.out),HK2.out,HB2.out⟩
     case measure=>have:=HJ.out;simp[intOf];omega
   ·have e:j=4:=by omega
    subst e;go_wp2_with fail;go_end0;exact⟨rfl,HKY.out,HI.out.pic⟩
def strV (r:List UInt8):Value:=.string ⟨r.toArray⟩
def Ts (w:World)(A:Option Addr)(c:Nat)(L:List (List UInt8)):Prop:=(∀r∈L,r.length≤maxLen)∧Rd w A c (L.map strV)
def tat (L:List (List UInt8))(i:Nat):List UInt8:=L[i]?.getD []
theorem Ts.below {w w':World}{A:Option Addr}{c:Nat}{L:List (List UInt8)}(h:Ts w A c L)(hb:Below w.heap.size w w'):Ts w' A c L:=⟨h.1,h.2.below hb⟩
theorem Ts.nil (w:World):Ts w none 0 []:=⟨by simp,Rd.nil w⟩
theorem Ts.cap {w:World}{A:Option Addr}{c:Nat}{L:List (List UInt8)}(h:Ts w A c L):L.length≤c∧c≤9223372036854775807:=by
 have h1:=h.2.1;have h2:=h.2.2.1;simp only[maxLen,List.length_map] at h1 h2;exact⟨h1,by omega⟩
theorem Ts.at_ {w:World}{A:Option Addr}{c:Nat}{L:List (List UInt8)}(h:Ts w A c L)(hn:0<L.length) :
  ∃b off,A=some ⟨b,off,none⟩∧b<w.heap.size∧∀j,j<L.length→w.cell? ⟨b,off+j,none⟩=some (strV (tat L j)):=by
 obtain⟨b,off,e,hb,hc⟩:=h.2.2.2 (by simpa using hn);refine⟨b,off,e,hb,fun j hj=>hc j _ ?_⟩;unfold tat;rw[List.getElem?_map,List.getElem?_eq_getElem hj];rfl
theorem zbp (r:List UInt8):(⟨r.toArray⟩:ByteArray).size=r.length:=by simp[ByteArray.size]
theorem zgb {v:Value}(hv:v.cells=#[v])(n:Nat):(madeCells v.cells (n*1)).toList=List.replicate n v:=by
 rw[hv,Nat.mul_one];refine List.ext_getElem? fun j=>?_;by_cases hj:j<n
 ·simp[madeCells,hj,List.getElem?_replicate,Nat.mod_one]
 ·simp[madeCells,hj,List.getElem?_replicate,Nat.mod_one]
theorem Tryz.infoR:(Tryz.prog.info? 83).map (fun i=>(i.zero,i.size,i.bytes))=some (some (.slice none 0 0),1,24):=by kernel_rfl
theorem Tryz.infoY:(Tryz.prog.info? 5).map (fun i=>(i.zero,i.size,i.bytes))=some (some (.int .u8 0),1,1):=by kernel_rfl
theorem Tryz.infoS:(Tryz.prog.info? 9).map (fun i=>(i.zero,i.size,i.bytes))=some (some (.string ⟨#[]⟩),1,16):=by kernel_rfl
theorem zgU {P:Program}{t:TypeId}{z:Value}{a b:Nat}(h:(P.info? t).map (fun i=>(i.zero,i.size,i.bytes))=some (some z,a,b)):∃i,P.info? t=some i∧i.zero=some z∧i.size=a∧i.bytes=b:=by
 obtain⟨i,h1,h2⟩:=Option.map_eq_some_iff.1 h;simp only[Prod.mk.injEq] at h2;exact⟨i,h1,h2.1,h2.2.1,h2.2.2⟩
structure Rw (W0:World)(Aq:Option Addr)(n cq:Nat)(q:List Nd)(g2 g3:Nat)(b:Xb)(X Y V H:Int)(W:World):Prop where
 bb:Below W0.heap.size W0 W
 qb:W0.heap[g2]?=some (.cells #[.slice Aq n cq] 28)
 xb:W0.heap[g3]?=some b.obj
 ns:Ns W0 Aq cq q
 r:b.R W0 X Y V H
section
variable {W0 W W':World} {Aq:Option Addr} {n cq:Nat} {q:List Nd} {g2 g3:Nat} {b:Xb} {X Y V H:Int}
theorem Rw.next (h:Rw W0 Aq n cq q g2 g3 b X Y V H W)(k:Below W.heap.size W W'):Rw W0 Aq n cq q g2 g3 b X Y V H W':=⟨h.bb.trans (k.mono h.bb.size),h.qb,h.xb,h.ns,h.r⟩
theorem Rw.low (h:Rw W0 Aq n cq q g2 g3 b X Y V H W)(k:Below W0.heap.size W W'):Rw W0 Aq n cq q g2 g3 b X Y V H W':=⟨h.bb.trans k,h.qb,h.xb,h.ns,h.r⟩
theorem Rw.qk (h:Rw W0 Aq n cq q g2 g3 b X Y V H W):W.heap[g2]?=some (.cells #[.slice Aq n cq] 28):=(h.bb.block _ (zag h.qb)).trans h.qb
theorem Rw.xk (h:Rw W0 Aq n cq q g2 g3 b X Y V H W):W.heap[g3]?=some b.obj:=(h.bb.block _ (zag h.xb)).trans h.xb
theorem Rw.rk (h:Rw W0 Aq n cq q g2 g3 b X Y V H W):b.R W X Y V H:=h.r.next h.bb
theorem Rw.nk (h:Rw W0 Aq n cq q g2 g3 b X Y V H W):Ns W Aq cq q:=h.ns.below h.bb
end
structure Pn0 (W0:World)(n cq:Nat)(Aq:Option Addr)(gp g high:Nat)(W:World):Prop where
 pk:W.heap[gp]?=some (.cells #[.slice Aq n cq,.slice (some ⟨g,0,none⟩) high high] 199)
 rows:W.ownsRow W0.heap.size 83 1 (.slice (some ⟨g,0,none⟩) high high) high (List.replicate high (.slice none 0 0))
 ne:gp≠g
 lo:W0.heap.size≤gp
structure Rw1 (W0:World)(Aq:Option Addr)(n cq:Nat)(q:List Nd)(g2 g3:Nat)(b:Xb)(X Y V H:Int)(gp g wide high k:Nat)(R:Nat→Nat)(W:World):Prop where
 rw:Rw W0 Aq n cq q g2 g3 b X Y V H W
 pic:PicR 5 83 W0.heap.size g wide high k R (fun _ _=>0) W
 pk:W.heap[gp]?=some (.cells #[.slice Aq n cq,.slice (some ⟨g,0,none⟩) high high] 199)
 ne:∀i,i<k→gp≠R i
 lo:W0.heap.size≤gp
 gg:gp≠g
theorem Rw1.start {W0 W:World}{Aq:Option Addr}{n cq:Nat}{q:List Nd}{g2 g3:Nat}{b:Xb}{X Y V H:Int}{gp g wide high:Nat}(h:Rw W0 Aq n cq q g2 g3 b X Y V H W)(k:Pn0 W0 n cq Aq gp g high W) :
  Rw1 W0 Aq n cq q g2 g3 b X Y V H gp g wide high 0 (fun _=>0) W :=
 ⟨h,⟨by
  have e:(List.range high).map (rowV (fun _=>0) wide 0)=List.replicate high (.slice none 0 0):=by
   refine List.ext_getElem? fun j=>?_;by_cases hj:j<high
   ·rw[List.getElem?_map,List.getElem?_range hj,List.getElem?_replicate,if_pos hj];rfl
   ·rw[List.getElem?_eq_none (by simpa using hj),List.getElem?_eq_none (by simpa using hj)]
  rw[e];exact k.rows,fun i hi=>by omega,fun a _ ha=>by omega,fun i hi=>by omega⟩,k.pk,fun i hi=>by omega,k.lo,k.ne⟩
theorem zdG {W:World}{gp g high n cq:Nat}{Aq:Option Addr}(h:W.heap[gp]?=some (.cells #[.slice Aq n cq,.slice (some ⟨g,0,none⟩) high high] 199)) :
  W.cell? ⟨gp,0,none⟩=some (.slice Aq n cq)∧W.cell? ⟨gp,1,none⟩=some (.slice (some ⟨g,0,none⟩) high high) :=
 ⟨(cell_of_row W gp 0 _ _ (0,0) h).trans rfl,(cell_of_row W gp 1 _ _ (0,0) h).trans rfl⟩
theorem Rw1.next' {W0 W W':World}{Aq:Option Addr}{n cq:Nat}{q:List Nd}{g2 g3:Nat}{b:Xb}{X Y V H:Int}{gp g wide high k:Nat}{R:Nat→Nat}(h:Rw1 W0 Aq n cq q g2 g3 b X Y V H gp g wide high k R W)(hb:Below W.heap.size W W'):Rw1 W0 Aq n cq q g2 g3 b X Y V H gp g wide high k R W' :=
 ⟨h.rw.next hb,h.pic.next hb,(hb.block gp (zag h.pk)).trans h.pk,h.ne,h.lo,h.gg⟩
theorem Rw1.more {W0 W W':World}{Aq:Option Addr}{n cq:Nat}{q:List Nd}{g2 g3:Nat}{b:Xb}{X Y V H:Int}{gp g wide high k:Nat}{R:Nat→Nat}(h:Rw1 W0 Aq n cq q g2 g3 b X Y V H gp g wide high k R W)(hk:k<high)
  (ho:W'.ownsRow W0.heap.size 5 1 (.slice (some ⟨W.heap.size,0,none⟩) wide wide) wide (List.replicate wide (.int .u8 0))) (hb:Below W.heap.size W W') :
  Rw1 W0 Aq n cq q g2 g3 b X Y V H gp g wide high (k+1) (fun i=>if i=k then W.heap.size else R i) (W'.setCell ⟨g,k,none⟩ (.slice (some ⟨W.heap.size,0,none⟩) wide wide)):=by
 have hg:=h.pic.ltG;have hp:=zag h.pk;refine⟨(h.rw.next hb).low ((Below.refl _ _).setCell (p:=⟨g,k,none⟩) hg.1 _),h.pic.more hk hb (Nat.le_refl _) ho,?_,fun i hi=>?_,h.lo,h.gg⟩
 ·exact(heap_setCell_other W' ⟨g,k,none⟩ gp _ h.gg).trans ((hb.block gp hp).trans h.pk)
 ·split
  ·omega
  ·exact h.ne i (by omega)
structure RwP (W0:World)(Aq:Option Addr)(n cq:Nat)(q:List Nd)(g2 g3:Nat)(b:Xb)(X Y V H:Int)(gp g wide high:Nat)(R:Nat→Nat)(z:Nd)(gz:Nat)(M:Int→Int→Int)(W:World):Prop where
 rw:Rw W0 Aq n cq q g2 g3 b X Y V H W
 pic:PicR 5 83 W0.heap.size g wide high high R M W
 pk:W.heap[gp]?=some (.cells #[.slice Aq n cq,.slice (some ⟨g,0,none⟩) high high] 199)
 ne:∀i,i<high→gp≠R i
 nb:zbk W gz z
 nz:∀i,i<high→gz≠R i
section
variable {W0 W W':World} {Aq:Option Addr} {n cq:Nat} {q:List Nd} {g2 g3:Nat} {b:Xb} {X Y V H:Int} {gp g wide high:Nat} {R:Nat→Nat} {z:Nd} {gz:Nat} {M M':Int→Int→Int}
theorem Rw1.root (h:Rw1 W0 Aq n cq q g2 g3 b X Y V H gp g wide high high R W)(z:Nd):RwP W0 Aq n cq q g2 g3 b X Y V H gp g wide high R z W.heap.size (fun _ _=>0) (W.alloc (.cells #[.int .i64 z.lv,.int .i64 z.a,.int .i64 z.b,.int .i64 z.c,.int .i64 z.d] 70)) :=
 have hb:=(Below.refl W.heap.size W).alloc (Nat.le_refl _) (.cells #[.int .i64 z.lv,.int .i64 z.a,.int .i64 z.b,.int .i64 z.c,.int .i64 z.d] 70)
 ⟨h.rw.next hb,h.pic.next hb,(hb.block gp (zag h.pk)).trans h.pk,h.ne,zbk.new W z,fun i hi e=>by have:=(h.pic.ltR hi).2;omega⟩
theorem RwP.next (h:RwP W0 Aq n cq q g2 g3 b X Y V H gp g wide high R z gz M W)(k:Below W.heap.size W W'):RwP W0 Aq n cq q g2 g3 b X Y V H gp g wide high R z gz M W' :=
 ⟨h.rw.next k,h.pic.next k,(k.block gp (zag h.pk)).trans h.pk,h.ne,h.nb.stay (k.block _ h.nb.lt),h.nz⟩
theorem RwP.paint (h:RwP W0 Aq n cq q g2 g3 b X Y V H gp g wide high R z gz M W)(k:Ky (RowP R high) W W')(p:PicR 5 83 W0.heap.size g wide high high R M' W'):RwP W0 Aq n cq q g2 g3 b X Y V H gp g wide high R z gz M' W' :=
 ⟨h.rw.low (k.to h.rw.bb.size (fun j hj=>by obtain⟨i,hi,rfl⟩:=hj;exact(h.pic.ltR hi).1)),p,(k.block gp (zag h.pk) (fun⟨i,hi,e⟩=>h.ne i hi e)).trans h.pk,h.ne,h.nb.stay (k.block gz h.nb.lt (fun⟨i,hi,e⟩=>h.nz i hi e)),h.nz⟩
theorem RwP.set (h:RwP W0 Aq n cq q g2 g3 b X Y V H gp g wide high R z gz M W){p:Addr}(hp:W0.heap.size≤p.block)(hg:p.block≠g)(hr:∀i,i<high→p.block≠R i)(hgp:gp≠p.block)(hz:gz≠p.block)(u:Value):RwP W0 Aq n cq q g2 g3 b X Y V H gp g wide high R z gz M (W.setCell p u) :=
 ⟨h.rw.low ((Below.refl _ _).setCell hp u),h.pic.other hg hr u,(heap_setCell_other W p gp u hgp).trans h.pk,h.ne,h.nb.stay (heap_setCell_other W p gz u hz),h.nz⟩
theorem RwP.cells (h:RwP W0 Aq n cq q g2 g3 b X Y V H gp g wide high R z gz M W) :
  W.cell? ⟨gz,0,none⟩=some (.int .i64 z.lv)∧W.cell? ⟨gz,1,none⟩=some (.int .i64 z.a)∧W.cell? ⟨gz,2,none⟩=some (.int .i64 z.b)∧W.cell? ⟨gz,3,none⟩=some (.int .i64 z.c)∧W.cell? ⟨gz,4,none⟩=some (.int .i64 z.d)∧W.cell? ⟨g3,0,none⟩=some (.bool b.x.s)∧W.cell? ⟨g3,1,none⟩=some (.slice b.x.a b.x.xs.length b.x.c)∧W.cell? ⟨g3,2,none⟩=some (.bool b.y.s)∧W.cell? ⟨g3,3,none⟩=some (.slice b.y.a b.y.xs.length b.y.c):=by
 obtain⟨c0,c1,c2,c3,c4⟩:=h.nb.cells;obtain⟨x0,x1,x2,x3,-⟩:=Xb.cells h.rw.xk;exact⟨c0,c1,c2,c3,c4,x0,x1,x2,x3⟩
theorem RwP.pn (h:RwP W0 Aq n cq q g2 g3 b X Y V H gp g wide high R z gz M W)(hq:0<q.length):PnI W0.heap.size q n cq Aq gp g wide high R M W :=
 ⟨h.rw.nk,fun a e ⟨i,hi,e2⟩=>by
  obtain⟨bb,off,e3,hlt,-⟩:=h.rw.ns.at_ hq
  rw[e] at e3;injection e3 with e3
  rw[e3] at e2;have h1:=(h.pic.ltR hi).1;have e4:bb=R i:=e2;omega,h.pk,fun⟨i,hi,e⟩=>h.ne i hi e,h.pic⟩
end
theorem ztt {s:Bool}{xs:List Nat}(h:Dig xs):(if s then -((xs.getD 0 0:Nat):Int) else ((xs.getD 0 0:Nat):Int))%4294967296=ival s xs%4294967296:=by
 cases xs with
 | nil=>cases s <;> rfl
 | cons x r =>
  have hx:x<4294967296:=h x (by simp);obtain⟨h1,h2⟩:=zuw (r:=r) hx;cases s with
  | false =>
   rw[h1];show((x:Nat):Int)%_=_;omega
  | true =>
   rw[h2];rfl
theorem zux {q:List Nd}(hg:zaq q)(h0:0<q.length):(den q q.length).lv.toNat=(at_ q (q.length-1)).lv.toNat:=by
 have hlv:=zap (zad hg.1 (i:=q.length-1) (by omega));obtain⟨m,hm⟩:∃m:Nat,(at_ q (q.length-1)).lv=(m:Int)+1:=⟨(at_ q (q.length-1)).lv.toNat-1,by omega⟩;have hw:=zbv hg.1 (q.length-1) (by omega);rw[Nat.sub_add_cancel (by omega),hm] at hw;have hne:=(hg.2 (q.length-1) (by omega)).1;rw[Nat.sub_add_cancel (by omega)] at hne;rw[zqd hw hne,hm]
def sRow (M:Int→Int→Int)(wide high k:Nat):List Value:=(List.range high).map fun i=>if i<k then strV (strM M i wide) else strV []
theorem zql (M:Int→Int→Int)(wide high:Nat):sRow M wide high 0=List.replicate high (strV []):=by
 unfold sRow;refine List.ext_getElem? fun j=>?_;by_cases hj:j<high
 ·rw[List.getElem?_map,List.getElem?_range hj,List.getElem?_replicate,if_pos hj];rfl
 ·rw[List.getElem?_eq_none (by simpa using hj),List.getElem?_eq_none (by simpa using hj)]
theorem zsw (M:Int→Int→Int)(wide high:Nat):sRow M wide high high=(zcP M wide high).map strV:=by
 unfold sRow zcP;rw[List.map_map];refine List.map_congr_left fun i hi=>?_;rw[if_pos (List.mem_range.1 hi)];rfl
theorem zsx (M:Int→Int→Int)(wide high:Nat){k:Nat}(hk:k<high):(sRow M wide high k).set k (strV (strM M k wide))=sRow M wide high (k+1):=by
 unfold sRow;refine List.ext_getElem? fun j=>?_;by_cases hj:j<high
 ·rw[List.getElem?_set];by_cases e:k=j
  ·subst e;rw[if_pos rfl,if_pos (by simpa using hj),List.getElem?_map,List.getElem?_range hj];show _=some (if k<k+1 then _ else _);rw[if_pos (by omega)]
  ·rw[if_neg e,List.getElem?_map,List.getElem?_range hj,List.getElem?_map,List.getElem?_range hj];show some (if j<k then _ else _)=some (if j<k+1 then _ else _);by_cases h1:j<k
   ·rw[if_pos h1,if_pos (by omega)]
   ·rw[if_neg h1,if_neg (by omega)]
 ·rw[List.getElem?_eq_none (by simpa using hj),List.getElem?_eq_none (by simpa using hj)]
theorem zsy {tB tR:TypeId}{base g wide high k:Nat}{R:Nat→Nat}{M:Int→Int→Int}{W:World}(h:PicR tB tR base g wide high high R M W)(hk:k<high)(hM:∀r c,0≤M r c∧M r c≤255) :
  (convert 83 9 (.slice (some ⟨R k,0,none⟩) wide wide)).run Tryz.prog W=.ok (.string ⟨(strM M k wide).toArray⟩) W:=by
 have:=run_convert_bytes_back (P:=Tryz.prog) W 83 9 5 ⟨R k,0,none⟩ wide (strM M k wide) Tryz.underlying83 Tryz.underlying5 Tryz.underlying9 (fun j hj=>?_)
 ·rw[zcA] at this;exact this
 ·rw[zcA] at hj;have e:=h.get (k:=k) (i:=j) hk hj;have e2:=ziZ M (k:=k) hj;rw[List.getElem?_eq_getElem (by rw[zcA];exact hj)] at e2;injection e2 with e2
  have e3:(⟨R k,0,none⟩:Addr).add j=⟨R k,j,none⟩:=by unfold Addr.add;split <;> simp_all
  rw[e3,e,e2,zjY (hM k j)]
def zws (q:List Nd)(n:Nat)(X Y:Int)(wide high:Nat)(w:World)(e:Ending)(w':World):Prop :=
 ∃A c,e=.returned (.slice A high c)∧Ts w' A c (zcP (picM (den q n) X Y) wide high)∧(A=none→c=0)∧Below w.heap.size w w'
theorem zmz {w w':World}(h:w.grownBy w' none):Below w.heap.size w w':=(Below.refl _ _).grown h (Nat.le_refl _) (fun k hk=>by cases hk)
theorem znR (Aq:Option Addr)(n cq wide high:Nat)(q:List Nd)(b:Xb)(X Y:Int)(w:World)(h:Ns w Aq cq q)(hn:q.length=n)(h0:0<n)(hn9:n≤900000)(hg:zaq q)(hr:b.R w X Y wide high)(hsh:b.Sh)(bt:BoxT (den q n) (at_ q (n-1)).lv.toNat X Y wide high)(hw9:wide≤1000)(hh9:high≤1000) :
  Calls Tryz.prog 123 #[.agg #[.slice Aq n cq],b.val] w (zws q n X Y wide high w):=by
 obtain⟨iR,hiR⟩:=zgU Tryz.infoR;obtain⟨iY,hiY⟩:=zgU Tryz.infoY;obtain⟨iS,hiS⟩:=zgU Tryz.infoS;have HiR:=Hh hiR;have HiY:=Hh hiY;have HiS:=Hh hiS;have hb1:=(Below.refl w.heap.size w).alloc (Nat.le_refl _) (.cells #[.slice Aq n cq] 28);have hb2:=hb1.alloc hb1.size b.obj;have hq0:=heap_alloc_new w (.cells #[.slice Aq n cq] 28);have hx0:=heap_alloc_new (w.alloc (.cells #[.slice Aq n cq] 28)) b.obj;rw[World.size_alloc] at hx0;obtain⟨W0,hW0⟩:∃W0:World,W0=(w.alloc (.cells #[.slice Aq n cq] 28)).alloc b.obj:=⟨_,rfl⟩;have hq1:W0.heap[w.heap.size]?=some (.cells #[.slice Aq n cq] 28):=by rw[hW0];exact(((Below.refl _ _).alloc (Nat.le_refl _) _).block _ (by rw[World.size_alloc];omega)).trans hq0
 rw[←hW0] at hb2 hx0;have hsz:W0.heap.size=w.heap.size+1+1:=by rw[hW0,World.size_alloc,World.size_alloc]
 have HW0:=Hh hsz;have RW:=Hh (show Rw W0 Aq n cq q w.heap.size (w.heap.size+1) b X Y wide high W0 from⟨Below.refl _ _,hq1,hx0,h.below hb2,hr.next hb2⟩);have HB0:=Hh hb2;have HL:=Hh hn;have HG:=Hh hg;have HSH:=Hh hsh;have HBT:=Hh bt;have i1:inI (wide:Int)=true:=by(unfold inI;simp;omega)
 have i2:inI (high:Int)=true:=by(unfold inI;simp;omega)
 have o1:outI (wide:Int)=(wide:Int):=by(unfold outI;rw[i1];rfl)
 have o2:outI (high:Int)=(high:Int):=by(unfold outI;rw[i2];rfl)
 obtain⟨c0,c1,c2,c3,c4,c5,c6,c7⟩:=Xb.cells RW.out.xk;have q0:True:=trivial;clear hiR hiY hiS hb1 hb2 hq0 hx0 hq1 hsz h hn hg hr hsh bt;go_enter Tryz.func123,Tryz.ntmps123;go_upto_region 3 with(first
  | (have _t:=q0;go_at_call 163;clear _t;go_loud (refine(zmt b.w.s b.w.a b.w.c b.w.xs _ (by rw[←hW0];exact RW.out.rk.w.us) RW.out.rk.w.cn.1).mono ?_;rintro e w2 ⟨rfl,b_⟩;rw[←hW0] at b_;rw[RW.out.rk.w.v,o1,i1];have RW:=Hh (RW.out.next b_);clear b_ c0 c1 c2 c3 c4 c5 c6 c7;obtain⟨c0,c1,c2,c3,c4,c5,c6,c7⟩:=Xb.cells RW.out.xk;have q1:=q0;clear q0))
  | (have _t:=q1;go_at_call 163;clear _t;go_loud (refine(zmt b.h.s b.h.a b.h.c b.h.xs _ RW.out.rk.h.us RW.out.rk.h.cn.1).mono ?_;rintro e w3 ⟨rfl,b_⟩;rw[RW.out.rk.h.v,o2,i2];have RW:=Hh (RW.out.next b_);clear b_ c0 c1 c2 c3 c4 c5 c6 c7;obtain⟨c0,c1,c2,c3,c4,c5,c6,c7⟩:=Xb.cells RW.out.xk;have q2:=q1;clear q1)))
 go_cut [9] from 28 to 32 (fun s9 wx=>∃gp g,s9=.pointer (some ⟨gp,0,none⟩)∧Rw W0 Aq n cq q w.heap.size (w.heap.size+1) b X Y wide high wx∧Pn0 W0 n cq Aq gp g high wx)
 case first =>
  obtain⟨W1,hW1⟩:∃W1:World,W1=w3.drew:=⟨_,rfl⟩;have RW1:=Hh (RW.out.next (Below.drew' (Below.refl _ w3)));rw[←hW1] at RW1;refine wp_region_noPanic ?_;refine wp_region_held (S:=fun w'=>w'.cell? ⟨w.heap.size,0,none⟩=some (.slice Aq n cq)) (by kernel_rfl) ?_;change wpAnyH _ _ _ _ _ _ _ _ w3.drew;rw[←hW1];clear hW1 RW c0 c1 c2 c3 c4 c5 c6 c7 q2;have hS0:=zab RW1.out.qk;refine Tk1 (v:=?_) 0 hS0 ?_ ?_;rotate_left
  ·rintro w' _;go_simp;first|done|with_reducible rfl|rfl
  simp only[Act.put,LA];refine Tk1 (v:=?_) 1 hS0 ?_ ?_;rotate_left
  ·rintro w' _;go_simp;first|done|with_reducible rfl|rfl
  simp only[Act.put,LA];refine Tk1 (v:=?_) 2 hS0 ?_ ?_;rotate_left
  ·rintro w' _;go_simp;first|done|with_reducible rfl|rfl
  simp only[Act.put,LA];refine Rd2 3 5 (fun K hK=>?_) fun K hK=>?_
  ·try rw[if_pos (by rfl)]
   refine zbi (.tmp 30) (.tmp 30) 197 rfl W0.heap.size 83 iR _ 1 Tryz.underlying197 HiR.out.1 HiR.out.2.1 HiR.out.2.2.1 .i64 .i64 _ _ high rfl rfl rfl rfl (by rw[HiR.out.2.2.2];omega) (by unfold maxLen;omega) RW1.out.bb.size ?_;intro w5 own5 grow5;simp only[Act.put,LA];rw[zgb rfl] at own5;have hb5:=zmz grow5;have RW5:=Hh (RW1.out.next hb5);refine hK.out _ _ (zab RW5.out.qk) (fun _=>?_);clear hK K;refine Tk1 (v:=?_) 4 (zab RW5.out.qk) ?_ ?_;rotate_left
   ·rintro w' _;go_simp;first|done|with_reducible rfl|rfl
   simp only[Act.put,LA];refine Rd1 5 fun K hK=>?_;go_simp;have hal:=(Below.refl w5.heap.size w5).alloc (Nat.le_refl _) (.cells #[.slice none 0 0,.slice none 0 0] 199);have hbx:=heap_alloc_new w5 (.cells #[.slice none 0 0,.slice none 0 0] 199);have RW6:=Hh (RW5.out.next hal);have own6:=own5.kept (gbX hal) (.inr (by simp[Value.ownBlock]));have hlt5:=own5.lt _ rfl;obtain⟨gp,hgp⟩:∃g,g=w5.heap.size:=⟨_,rfl⟩;obtain⟨w6,hw6⟩:∃Z:World,Z=w5.alloc (.cells #[.slice none 0 0,.slice none 0 0] 199):=⟨_,rfl⟩;rw[←hgp,←hw6] at hbx;rw[←hw6] at RW6 own6 ⊢;rw[←hgp] at hlt5 ⊢;have hszg:w5.heap.size=gp:=hgp.symm;have hlo:W0.heap.size≤gp:=by have:=RW5.out.bb.size;omega
   clear hw6 hszg hgp hal;refine hK.out _ _ (zab RW6.out.qk) (fun _=>?_);clear hK K;have hnq:¬ gp=w.heap.size:=by have:=HW0.out;omega
   have hnq2:¬ w.heap.size=gp:=fun e=>hnq e.symm;have z0:=(cell_of_row _ gp 0 _ _ (0,0) hbx).trans (by rfl:_=some (Value.slice none 0 0));have z1:=(cell_of_row _ gp 1 _ _ (0,0) hbx).trans (by rfl:_=some (Value.slice none 0 0));have z2:=frozen_of_row _ gp 0 _ _ hbx;have z3:=frozen_of_row _ gp 1 _ _ hbx;refine Rd1 6 fun K hK=>?_;go_simp;have hs8:(((w6.setCell ⟨gp,0,none⟩ (.slice Aq n cq)).setCell ⟨gp,1,none⟩ (.slice (some ⟨W1.heap.size,0,none⟩) high high))).cell? ⟨w.heap.size,0,none⟩=some (.slice Aq n cq):=by
    rw[World.cell?_setCell_other _ _ _ _ (by simp[hnq,hnq2]),World.cell?_setCell_other _ _ _ _ (by simp[hnq,hnq2])];exact zab RW6.out.qk
   refine hK.out _ _ hs8 (fun _=>?_);clear hK K;refine wpAnyH_done (by kernel_rfl) ?_ _;refine NoPanic.normal ?_;go_wp2_with fail;go_meet;have hb8:=((Below.refl W0.heap.size w6).setCell (p:=⟨gp,0,none⟩) hlo (.slice Aq n cq)).setCell (p:=⟨gp,1,none⟩) hlo (.slice (some ⟨W1.heap.size,0,none⟩) high high);refine⟨gp,W1.heap.size,rfl,RW6.out.low hb8,⟨(heap_setCell_same _ gp 1 _ _ _ ((heap_setCell_same w6 gp 0 _ _ _ hbx).trans rfl)).trans rfl,?_,by omega,hlo⟩⟩;exact ownsRow_setCell_other (ownsRow_setCell_other own6 (a:=⟨gp,0,none⟩) (by simp[Value.ownBlock];omega) _) (a:=⟨gp,1,none⟩) (by simp[Value.ownBlock];omega) _
  ·go_simp;have hal:=(Below.refl W1.heap.size W1).alloc (Nat.le_refl _) (.cells #[.slice none 0 0,.slice none 0 0] 199);have hbx5:=heap_alloc_new W1 (.cells #[.slice none 0 0,.slice none 0 0] 199);have RW5:=Hh (RW1.out.next hal);have hlo:W0.heap.size≤W1.heap.size:=RW1.out.bb.size;obtain⟨gp,hgp⟩:∃g,g=W1.heap.size:=⟨_,rfl⟩;obtain⟨w4,hw4⟩:∃Z:World,Z=W1.alloc (.cells #[.slice none 0 0,.slice none 0 0] 199):=⟨_,rfl⟩;rw[←hgp,←hw4] at hbx5;rw[←hw4] at RW5 ⊢;rw[←hgp] at hlo ⊢;clear hw4 hgp hal;refine hK.out _ _ (zab RW5.out.qk) (fun _=>?_);clear hK K;refine Rd1 3 fun K hK=>?_
   try rw[if_pos (by rfl)]
   refine zbi (.tmp 30) (.tmp 30) 197 rfl W0.heap.size 83 iR _ 1 Tryz.underlying197 HiR.out.1 HiR.out.2.1 HiR.out.2.2.1 .i64 .i64 _ _ high rfl rfl rfl rfl (by rw[HiR.out.2.2.2];omega) (by unfold maxLen;omega) RW5.out.bb.size ?_;intro w6 own6 grow6;simp only[Act.put,LA];rw[zgb rfl] at own6;have hb6:=zmz grow6;have RW6:=Hh (RW5.out.next hb6);have hbx:=(hb6.block gp (zag hbx5)).trans hbx5;have hlt5:=zag hbx5;refine hK.out _ _ (zab RW6.out.qk) (fun _=>?_);clear hK K;have hnq:¬ gp=w.heap.size:=by have:=HW0.out;omega
   have hnq2:¬ w.heap.size=gp:=fun e=>hnq e.symm;refine Tk1 (v:=?_) 4 (zab RW6.out.qk) ?_ ?_;rotate_left
   ·rintro w' _;go_simp;first|done|with_reducible rfl|rfl
   simp only[Act.put,LA];have z0:=(cell_of_row _ gp 0 _ _ (0,0) hbx).trans (by rfl:_=some (Value.slice none 0 0));have z1:=(cell_of_row _ gp 1 _ _ (0,0) hbx).trans (by rfl:_=some (Value.slice none 0 0));have z2:=frozen_of_row _ gp 0 _ _ hbx;have z3:=frozen_of_row _ gp 1 _ _ hbx;refine Rd1 6 fun K hK=>?_;go_simp;have hs8:(((w6.setCell ⟨gp,0,none⟩ (.slice Aq n cq)).setCell ⟨gp,1,none⟩ (.slice (some ⟨w4.heap.size,0,none⟩) high high))).cell? ⟨w.heap.size,0,none⟩=some (.slice Aq n cq):=by
    rw[World.cell?_setCell_other _ _ _ _ (by simp[hnq,hnq2]),World.cell?_setCell_other _ _ _ _ (by simp[hnq,hnq2])];exact zab RW6.out.qk
   refine hK.out _ _ hs8 (fun _=>?_);clear hK K;refine wpAnyH_done (by kernel_rfl) ?_ _;refine NoPanic.normal ?_;go_wp2_with fail;go_meet;have hb8:=((Below.refl W0.heap.size w6).setCell (p:=⟨gp,0,none⟩) hlo (.slice Aq n cq)).setCell (p:=⟨gp,1,none⟩) hlo (.slice (some ⟨w4.heap.size,0,none⟩) high high);refine⟨gp,w4.heap.size,rfl,RW6.out.low hb8,⟨(heap_setCell_same _ gp 1 _ _ _ ((heap_setCell_same w6 gp 0 _ _ _ hbx).trans rfl)).trans rfl,?_,by omega,hlo⟩⟩;exact ownsRow_setCell_other (ownsRow_setCell_other own6 (a:=⟨gp,0,none⟩) (by simp[Value.ownBlock];omega) _) (a:=⟨gp,1,none⟩) (by simp[Value.ownBlock];omega) _

 case rest =>
  obtain⟨gp,g,rfl,rw4,pn4⟩:=hcut;have R1:=Hh (Rw1.start (wide:=wide) rw4 pn4);obtain⟨d0,d1⟩:=zdG pn4.pk;clear rw4 pn4;go_wp2_with fail;go_loopw [36,10] (fun z1 z2 wr=>∃(k:Nat) (v:Value) (R:Nat→Nat),z1=.int .i64 k∧z2=v∧k≤high∧Rw1 W0 Aq n cq q w.heap.size (w.heap.size+1) b X Y wide high gp g wide high k R wr) (fun z1 _ _=>high-(intOf z1).toNat)
  case atStart=>exact⟨0,_,_,rfl,rfl,Nat.zero_le _,R1.out⟩
  case round =>
   obtain⟨k,v,R,rfl,rfl,hk,hr⟩:=hrel;clear R1 d0 d1;obtain⟨d0,d1⟩:=zdG hr.pk;have R1:=Hh hr;have kw:IntKind.i64.wrap ((k:Int)+1)=(k:Int)+1:=IntWalk.i64_in _ (by omega);clear hr;by_cases hlt:k<high
   ·have j1:(k:Int)<(high:Int):=by omega
    have HLT:=Hh hlt;go_wp2_with fail;refine wp_region_noPanic ?_;refine wp_region_held (S:=fun w'=>w'.cell? ⟨gp,1,none⟩=some (.slice (some ⟨g,0,none⟩) high high)) (by kernel_rfl) ?_;obtain⟨W1,hW1⟩:∃W1:World,W1=wr.drew:=⟨_,rfl⟩;have R2:=Hh (R1.out.next' (Below.drew' (Below.refl _ wr)));rw[←hW1] at R2;change wpAnyH _ _ _ _ _ _ _ _ wr.drew;rw[←hW1];clear hW1 R1 d0 d1;have hS0:=(zdG R2.out.pk).2;refine Tk1 (v:=?_) 0 hS0 ?_ ?_;rotate_left
    ·rintro w' _;go_simp;first|done|with_reducible rfl|rfl
    simp only[Act.put,LA];refine Tk1 (v:=?_) 1 hS0 ?_ ?_;rotate_left
    ·rintro w' _;go_simp;first|done|with_reducible rfl|rfl
    simp only[Act.put,LA];refine Tk1 (v:=?_) 2 hS0 ?_ ?_;rotate_left
    ·rintro w' _;go_simp;first|done|with_reducible rfl|rfl
    simp only[Act.put,LA];refine Tk1 (v:=?_) 3 hS0 ?_ ?_;rotate_left
    ·rintro w' _;go_simp;first|done|with_reducible rfl|rfl
    simp only[Act.put,LA];refine Rd1 4 fun K hK=>?_
    try rw[if_pos (by rfl)]
    refine zbi (.tmp 42) (.tmp 42) 83 rfl W0.heap.size 5 iY _ 1 Tryz.underlying83 HiY.out.1 HiY.out.2.1 HiY.out.2.2.1 .i64 .i64 _ _ wide rfl rfl rfl rfl (by rw[HiY.out.2.2.2];omega) (by unfold maxLen;omega) R2.out.rw.bb.size ?_;intro w5 own5 grow5;simp only[Act.put,LA];rw[zgb rfl] at own5;have hb5:=zmz grow5;have hS5:=(zdG ((hb5.block gp (zag R2.out.pk)).trans R2.out.pk)).2;refine hK.out _ _ hS5 (fun _=>?_);clear hK K;refine Tk1 (v:=?_) 5 hS5 ?_ ?_;rotate_left
    ·rintro w' _;go_simp;first|done|with_reducible rfl|rfl
    simp only[Act.put,LA];have z0:=(R2.out.pic.next hb5).rowAt HLT.out;have z1:=(R2.out.pic.next hb5).freeG k;have hnn:=R2.out.gg;have hnn2:¬ g=gp:=fun e=>hnn e.symm;refine Rd1 6 fun K hK=>?_;go_simp;refine hK.out _ _ (by rw[World.cell?_setCell_other _ _ _ _ (by simp[hnn,hnn2])];exact hS5) (fun _=>?_);clear hK K;refine wpAnyH_done (by kernel_rfl) ?_ _;refine NoPanic.normal ?_;have R3:=Hh (R2.out.more HLT.out own5 hb5);go_wp2_with fail;go_roundw
    case rel=>exact⟨k+1,_,_,by go_num,rfl,by have:=HLT.out;omega,R3.out⟩
    case measure=>have:=HLT.out;simp[intOf];omega
   ·have e:k=high:=by omega
    subst e;obtain⟨r,hr⟩:∃r,n=r+1:=⟨n-1,by omega⟩;have hqr:r<q.length:=by rw[HL.out];omega
    have NK:=Hh R1.out.rw.nk;obtain⟨bb,off,hA,hbb,hcc⟩:=NK.out.at_ (by omega)
    obtain⟨z,hz⟩:∃z,z=at_ q r:=⟨_,rfl⟩
    obtain⟨n0,n1,n2,n3,n4⟩:=hcc r hqr;rw[←hz] at n0 n1 n2 n3 n4;have hzf:=zad HG.out.1 hqr;rw[←hz] at hzf;have hlv:=zap hzf;obtain⟨m,hm⟩:∃m:Nat,z.lv=(m:Int)+1:=⟨z.lv.toNat-1,by omega⟩;have i5:IntKind.i64.wrap ((n:Int)-1)=(r:Int):=by rw[show(n:Int)-1=(r:Int) by omega];exact IntWalk.i64_in _ (by omega)
    have i6:IntKind.i64.wrap (r:Int)=(r:Int):=IntWalk.i64_in _ (by omega);have j5:(r:Int)<(n:Int):=by omega
    have i7:IntKind.i64.wrap (z.lv-1)=(m:Int):=by rw[show z.lv-1=(m:Int) by omega];exact IntWalk.i64_in _ (by omega)
    have m9:m≤1328:=by omega
    obtain⟨e0,e1⟩:=(show wr.cell? ⟨w.heap.size,0,none⟩=some (.slice Aq n cq)∧True from⟨zab R1.out.rw.qk,trivial⟩);obtain⟨H,hH⟩:∃H,H=(2:Int)^m%4294967296:=⟨_,rfl⟩;have HH:=Hh hH;have hwf:=NK.out.wf hqr;rw[←hz] at hwf;have HWF:=Hh hwf;have hrl:=zux HG.out (by omega);rw[HL.out,show n-1=r by omega,←hz,hm,show((m:Int)+1).toNat=m+1 by omega] at hrl;have hden:den q n=norm (dens q) z:=by rw[hr,zaw HG.out.1 hqr,←hz]
    have hbt:=HBT.out;rw[show n-1=r by omega,←hz,hm,show((m:Int)+1).toNat=m+1 by omega] at hbt;have hin:=hbt.inP hrl;rw[show m+1-1=m by omega,hden] at hin;have HIN:=Hh hin;have hov:=znQ (den q n) X Y;rw[hrl,show m+1-1=m by omega] at hov;have HOV:=Hh (show zbX (norm (dens q) z) (-p2 m-X) (-p2 m-Y) (fun _ _=>0)=picM (den q n) X Y by rw[←hden];exact hov);have HEU:=Hh (show IntKind.u32.wrap (IntKind.u32.wrap (-H)-X%4294967296)=(-p2 m-X)%4294967296 by
     rw[IntKind.wrap_u32,IntKind.wrap_u32,hH];exact zmx m X)
    have HEV:=Hh (show IntKind.u32.wrap (IntKind.u32.wrap (-H)-Y%4294967296)=(-p2 m-Y)%4294967296 by
     rw[IntKind.wrap_u32,IntKind.wrap_u32,hH];exact zmx m Y)
    have HPB:=Hh (show ∀r c,0≤picM (den q n) X Y r c∧picM (den q n) X Y r c≤255 from fun r c=>by have:=zjb HG.out.1 X Y r c;rwa [HL.out] at this);have HZ:=Hh hz;have HZF:=Hh hzf;clear hwf hrl hden hbt hin hov;have HM:=Hh hm;have HA:=Hh hA;have HR:=Hh hr;subst hA;clear hcc hz hzf hlv hm hr hH hlt hk;obtain⟨x0,x1,x2,x3,x4,x5,x6,x7⟩:=Xb.cells R1.out.rw.xk;go_wp2_with (go_at_call 164;go_loud (refine(zjc m _ (by omega)).mono ?_;rintro e w6 ⟨rfl,b_⟩;rw[←HH.out];have P6:=Hh ((R1.out.root z).next b_);clear b_));have pa0:=P6.out.next (Below.drew' (Below.refl _ w6));clear P6 x0 x1 x2 x3 x4 x5 x6 x7 n0 n1 n2 n3 n4 d0 d1 e0;have p00:(w6.drew).heap.size=w6.heap.size:=rfl;go_region_held3 (fun w'=>w'.cell? ⟨wr.heap.size,0,none⟩=some (.int .i64 z.lv)∧w'.cell? ⟨wr.heap.size,1,none⟩=some (.int .i64 z.a)∧w'.cell? ⟨wr.heap.size,2,none⟩=some (.int .i64 z.b)∧w'.cell? ⟨wr.heap.size,3,none⟩=some (.int .i64 z.c)∧w'.cell? ⟨wr.heap.size,4,none⟩=some (.int .i64 z.d)∧w'.cell? ⟨w.heap.size+1,0,none⟩=some (.bool b.x.s)∧w'.cell? ⟨w.heap.size+1,1,none⟩=some (.slice b.x.a b.x.xs.length b.x.c)∧w'.cell? ⟨w.heap.size+1,2,none⟩=some (.bool b.y.s)∧w'.cell? ⟨w.heap.size+1,3,none⟩=some (.slice b.y.a b.y.xs.length b.y.c))
     (exact RwP.cells (by assumption))
     (first
     | (have _t:=pa0;go_at_call 166;clear _t;go_loud (refine(zqj b.x.s b.x.a _ b.x.c b.x.xs _ pa0.rw.rk.x.us rfl).mono ?_;rintro e w7 ⟨rfl,b_⟩;rw[ztt pa0.rw.rk.x.us.1,pa0.rw.rk.x.v];have pa1:=pa0.next b_;clear pa0 b_))
     | (have _t:=pa1;go_at_call 166;clear _t;go_loud (refine(zqj b.y.s b.y.a _ b.y.c b.y.xs _ pa1.rw.rk.y.us rfl).mono ?_;rintro e w8 ⟨rfl,b_⟩;rw[ztt pa1.rw.rk.y.us.1,pa1.rw.rk.y.v];have pa2:=pa1.next b_;clear pa1 b_))
     | (have _t:=pa2;go_at_call 165;clear _t;go_loud (have hr:=zqk W0.heap.size n cq q (some ⟨bb,off,none⟩) gp g wide k R HG.out.1 HL.out hw9 hh9 m z (-p2 m-X) (-p2 m-Y) (fun _ _=>0) _ m9 HM.out HWF.out HZF.out HIN.out (pa2.pn (by rw[HL.out];exact h0));rw[←HEU.out,←HEV.out] at hr;refine hr.mono ?_;rintro e w9 ⟨rfl,hk_,hp_⟩;have pa3:=pa2.paint hk_ (show PicR _ _ _ _ _ _ _ _ (picM (den q n) X Y) _ by(rw[←HOV.out];exact hp_));clear pa2 hk_ hp_ hr)))
    have P9:=Hh pa3;clear pa3;obtain⟨d0,d1⟩:=zdG P9.out.pk;have hk9:k≤9223372036854775807:=by omega
    go_wp2_with (at_make;refine wpList_make_full _ rfl _ _ 49 rfl w9.heap.size 9 iS _ 1 Tryz.underlying49 HiS.out.1 HiS.out.2.1 HiS.out.2.2.1 .i64 .i64 _ _ k rfl rfl (by omega) (by omega) (by rw[HiS.out.2.2.2];omega) (by unfold maxLen;omega) (Nat.le_refl _) ?_;intro wa owa grwa;rw[zgb rfl] at owa;have hba:=zmz grwa;have PA:=Hh (P9.out.next hba);have SZ:=Hh hba.size;have OA:=Hh owa;clear owa grwa hba d0 d1;obtain⟨d0,d1⟩:=zdG PA.out.pk);have HNE:=Hh (show gp<w9.heap.size∧wr.heap.size<w9.heap.size∧g<w9.heap.size∧∀i,i<k→R i<w9.heap.size from⟨zag P9.out.pk,P9.out.nb.lt,P9.out.pic.ltG.2,fun i hi=>(P9.out.pic.ltR hi).2⟩);have HLO:=Hh (show W0.heap.size≤w9.heap.size from P9.out.rw.bb.size);obtain⟨gs,hgs⟩:∃g,g=w9.heap.size:=⟨_,rfl⟩;rw[←hgs] at OA HNE HLO ⊢;clear hgs;obtain⟨gz,hgz⟩:∃g,g=wr.heap.size:=⟨_,rfl⟩;obtain⟨M,hM⟩:∃M,M=picM (den q n) X Y:=⟨_,rfl⟩;have PB:=PA.out;rw[←hgz] at PB HNE ⊢;rw[←hM] at PB HPB;clear hgz;have HMM:=Hh hM;have PC:=Hh PB;clear hM PB PA;go_loopw [77,14,15] (fun z1 z2 z3 wr=>∃(j:Nat) (v2 v3:Value),z1=.int .i64 j∧z2=v2∧z3=v3∧j≤k∧RwP W0 (some ⟨bb,off,none⟩) n cq q w.heap.size (w.heap.size+1) b X Y wide k gp g wide k R z gz M wr∧wr.ownsRow gs 9 1 (.slice (some ⟨gs,0,none⟩) k k) k (sRow M wide k j)) (fun z1 _ _ _=>k-(intOf z1).toNat)
    case atStart=>exact⟨0,_,_,rfl,rfl,rfl,Nat.zero_le _,PC.out,by rw[zql];exact OA.out⟩
    case round =>
     obtain⟨j,v2,v3,rfl,rfl,rfl,hj,hp,ho⟩:=hrel;clear d0 d1 PC;have kw:IntKind.i64.wrap ((j:Int)+1)=(j:Int)+1:=IntWalk.i64_in _ (by omega);by_cases hjk:j<k
     ·have r0:=hp.pic.at_ hjk hjk
      have hcv:=zsy hp.pic hjk HPB.out;have s0:wr.cell? ⟨gs,j,none⟩=some (.string ⟨#[]⟩):=by
       rw[ho.cellAt j (by omega)];unfold sRow;rw[List.getElem?_map,List.getElem?_range hjk];show some (if j<j then _ else _)=_;rw[if_neg (by omega)];rfl
      have s1:=ho.frozenAt j;have j1:(j:Int)<(k:Int):=by omega
      obtain⟨h1,h2⟩:=ho.stored j (strV (strM M j wide));rw[zsx M wide k hjk] at h1;have HO:=Hh h1;have HP:=Hh (hp.set (p:=⟨gs,j,none⟩) HLO.out (by have:=HNE.out.2.2.1;show gs≠g;omega) (fun i hi=>by have:=HNE.out.2.2.2 i hi;show gs≠R i;omega) (by have:=HNE.out.1;show gp≠gs;omega) (by have:=HNE.out.2.1;show gz≠gs;omega) (strV (strM M j wide)));have HJ:=Hh hjk;clear hp ho h1 h2 hjk hj;go_wp2_with fail;go_roundw
      case rel=>exact⟨j+1,_,_,by go_num,rfl,rfl,by have:=HJ.out;omega,HP.out,HO.out⟩
      case measure=>have:=HJ.out;simp[intOf];omega
     ·have e:j=k:=by omega
      subst e;rw[zsw] at ho;have HO:=Hh ho;have HP:=Hh hp;clear hp ho hjk hj;go_wp2_with fail;go_ret;refine⟨some ⟨gs,0,none⟩,j,rfl,⟨fun r hr=>?_,?_⟩,fun e=>(by cases e),(HB0.out.trans (HP.out.rw.bb.mono (by have:=HW0.out;omega)))⟩
      ·rw[←HMM.out] at hr;obtain⟨i,hi,rfl⟩:=List.mem_map.1 hr;rw[zcA];unfold maxLen;omega
      ·rw[←HMM.out];exact Rd.own HO.out
structure Gr where
 x:Bw
 y:Bw
 a:Option Addr
 c:Nat
 L:List (List UInt8)
def gr0:Gr:=⟨bw0,bw0,none,0,[]⟩
abbrev Gr.val (u:Gr):Value:=.agg #[.bool u.x.s,.slice u.x.a u.x.xs.length u.x.c,.bool u.y.s,.slice u.y.a u.y.xs.length u.y.c,.slice u.a u.L.length u.c]
abbrev Gr.obj (u:Gr):Obj:=.cells #[.bool u.x.s,.slice u.x.a u.x.xs.length u.x.c,.bool u.y.s,.slice u.y.a u.y.xs.length u.y.c,.slice u.a u.L.length u.c] 51
structure Gr.R (u:Gr)(W:World)(X Y:Int):Prop where
 x:u.x.R W X
 y:u.y.R W Y
 t:Ts W u.a u.c u.L
theorem Gr.R.next {u:Gr}{W W1:World}{X Y:Int}(h:u.R W X Y)(k:Below W.heap.size W W1):u.R W1 X Y:=⟨h.x.next k,h.y.next k,h.t.below k⟩
theorem zsz (W:World):gr0.R W 0 0:=⟨zhu W,zhu W,Ts.nil W⟩
theorem Gr.cells {W:World}{g:Nat}{u:Gr}(h:W.heap[g]?=some u.obj):W.cell? ⟨g,0,none⟩=some (.bool u.x.s)∧W.cell? ⟨g,1,none⟩=some (.slice u.x.a u.x.xs.length u.x.c)∧W.cell? ⟨g,2,none⟩=some (.bool u.y.s)∧W.cell? ⟨g,3,none⟩=some (.slice u.y.a u.y.xs.length u.y.c)∧W.cell? ⟨g,4,none⟩=some (.slice u.a u.L.length u.c) :=
 ⟨(cell_of_row W g 0 _ _ (0,0) h).trans rfl,(cell_of_row W g 1 _ _ (0,0) h).trans rfl,(cell_of_row W g 2 _ _ (0,0) h).trans rfl,(cell_of_row W g 3 _ _ (0,0) h).trans rfl,(cell_of_row W g 4 _ _ (0,0) h).trans rfl⟩
theorem Gr.free {W:World}{g:Nat}{u:Gr}(h:W.heap[g]?=some u.obj):W.frozen? ⟨g,0,none⟩=false∧W.frozen? ⟨g,1,none⟩=false∧W.frozen? ⟨g,2,none⟩=false∧W.frozen? ⟨g,3,none⟩=false∧W.frozen? ⟨g,4,none⟩=false :=
 ⟨frozen_of_row W g 0 _ _ h,frozen_of_row W g 1 _ _ h,frozen_of_row W g 2 _ _ h,frozen_of_row W g 3 _ _ h,frozen_of_row W g 4 _ _ h⟩
abbrev putG (W:World)(g:Nat)(u:Gr):World:=((((W.setCell ⟨g,0,none⟩ (.bool u.x.s)).setCell ⟨g,1,none⟩ (.slice u.x.a u.x.xs.length u.x.c)).setCell ⟨g,2,none⟩ (.bool u.y.s)).setCell ⟨g,3,none⟩ (.slice u.y.a u.y.xs.length u.y.c)).setCell ⟨g,4,none⟩ (.slice u.a u.L.length u.c)
theorem zlg {W:World}{g:Nat}{a:Gr}(h:W.heap[g]?=some a.obj)(u:Gr):(putG W g u).heap[g]?=some u.obj :=
 (heap_setCell_same _ _ 4 _ _ _ ((heap_setCell_same _ _ 3 _ _ _ ((heap_setCell_same _ _ 2 _ _ _ ((heap_setCell_same _ _ 1 _ _ _ ((heap_setCell_same W _ 0 _ _ _ h).trans rfl)).trans rfl)).trans rfl)).trans rfl)).trans rfl
theorem zgc {W:World}{g k:Nat}(hk:k≠g)(u:Gr):(putG W g u).heap[k]?=W.heap[k]? :=
 (((((Below.heap_setCell _ _ _ _ hk)).trans (Below.heap_setCell _ _ _ _ hk)).trans (Below.heap_setCell _ _ _ _ hk)).trans (Below.heap_setCell _ _ _ _ hk)).trans (Below.heap_setCell _ _ _ _ hk)
theorem zjZ (W:World)(g:Nat)(u:Gr):(putG W g u).heap.size=W.heap.size:=by simp[putG,World.setCell]
theorem zfm {B:Nat}{w W:World}(h:Below B w W){g:Nat}(hg:B≤g)(u:Gr):Below B w (putG W g u) :=
 (((((h.setCell (p:=⟨g,0,none⟩) hg _).setCell (p:=⟨g,1,none⟩) hg _).setCell (p:=⟨g,2,none⟩) hg _).setCell (p:=⟨g,3,none⟩) hg _).setCell (p:=⟨g,4,none⟩) hg _)
theorem zqm {W:World}{g:Nat}{u:Gr}(h:W.heap[g]?=some u.obj):∀o x,W.cell? ⟨g,o,none⟩=some x→(∀k,x≠.int .u32 k)∧∀s,x≠.string s:=fun o x hx=>by
 rw[cell_of_row W g _ _ _ _ h] at hx;constructor
 all_goals
  intro k e;subst e
  match o with
  | 0=>simp at hx
  | 1=>simp at hx
  | 2=>simp at hx
  | 3=>simp at hx
  | 4=>simp at hx
  | o+5=>simp at hx
theorem Bw.R.putG {x:Bw}{W:World}{X:Int}(h:x.R W X){g:Nat}{a:Gr}(hb:W.heap[g]?=some a.obj)(u:Gr):x.R (putG W g u) X :=
 ⟨zcF h.us (fun q _ hq=>zgc hq u) (by rw[zjZ];exact Nat.le_refl _) (zdS h.us (fun o v hv=>(zqm hb o v hv).1)),h.cn,h.v⟩
theorem Ts.putG {W:World}{A:Option Addr}{c g:Nat}{L:List (List UInt8)}(h:Ts W A c L){a:Gr}(hb:W.heap[g]?=some a.obj)(u:Gr):Ts (putG W g u) A c L :=
 ⟨h.1,h.2.1,h.2.2.1,fun h0=>by
  obtain⟨b,off,e,hlt,hc⟩:=h.2.2.2 h0;have hne:b≠g:=fun e2=>by
   subst e2;have h1:=hc 0 _ (List.getElem?_eq_getElem h0);rw[List.getElem_map] at h1;exact(zqm hb _ _ h1).2 _ rfl
  refine⟨b,off,e,by rw[zjZ];exact hlt,fun j u' hu=>?_⟩;rw[←hc j u' hu];unfold World.cell?;rw[zgc hne]⟩
theorem Gr.R.putG {v:Gr}{W:World}{X Y:Int}(h:v.R W X Y){g:Nat}{a:Gr}(hb:W.heap[g]?=some a.obj)(u:Gr):v.R (putG W g u) X Y:=⟨h.x.putG hb u,h.y.putG hb u,h.t.putG hb u⟩
def GoI (q:List Nd)(n:Nat)(most er X Y:Int)(L:List (List UInt8)):Prop :=
 ((most<0∨1000<most)∧er=1∧X=0∧Y=0∧L=[]) ∨
 ((0≤most∧most≤1000)∧∃(ok:Bool) (X' Y' V H:Int),BxV q n ok X' Y' V H∧(((most<V∨most<H)∧er=4∧X=0∧Y=0∧L=[])∨((V≤most∧H≤most)∧er=0∧X=X'∧Y=Y'∧L=zcP (picM (den q n) X' Y') V.toNat H.toNat)))
theorem GoI.one {q:List Nd}{n:Nat}{most er X Y er' X' Y':Int}{L L':List (List UInt8)}(h:GoI q n most er X Y L)(k:GoI q n most er' X' Y' L'):er=er'∧X=X'∧Y=Y'∧L=L':=by
 rcases h with⟨h0,rfl,rfl,rfl,rfl⟩|⟨h0,ok,A,B,V,H,hb,h1⟩
 ·rcases k with⟨k0,rfl,rfl,rfl,rfl⟩|⟨k0,-⟩
  ·exact⟨rfl,rfl,rfl,rfl⟩
  ·omega
 ·rcases k with⟨k0,-⟩|⟨k0,ok',A',B',V',H',kb,k1⟩
  ·omega
  ·obtain⟨rfl,rfl,rfl,rfl,rfl⟩:=hb.one kb;rcases h1 with⟨h2,rfl,rfl,rfl,rfl⟩|⟨h2,rfl,rfl,rfl,rfl⟩
   ·rcases k1 with⟨k2,rfl,rfl,rfl,rfl⟩|⟨k2,-⟩
    ·exact⟨rfl,rfl,rfl,rfl⟩
    ·omega
   ·rcases k1 with⟨k2,-⟩|⟨k2,rfl,rfl,rfl,rfl⟩
    ·omega
    ·exact⟨rfl,rfl,rfl,rfl⟩
def zsA (q:List Nd)(n:Nat)(most:Int)(w:World)(e:Ending)(w':World):Prop :=
 ∃(u:Gr) (X Y er:Int),e=.returned (.tuple #[u.val,.int .i64 er])∧u.R w' X Y∧(u.x.xs.length≤50000∧u.y.xs.length≤50000)∧(u.a=none→u.c=0)∧Below w.heap.size w w'∧GoI q n most er X Y u.L
theorem BxV.wide {q:List Nd}(hg:zaq q){ok:Bool}{X Y V H:Int}(b:BxV q q.length ok X Y V H):0≤V∧0≤H:=by
 rcases b.cells hg with⟨-,-,-,-,rfl,rfl⟩|⟨-,hc,⟨x,y,h1,-⟩,-⟩
 ·exact⟨Int.le_refl _,Int.le_refl _⟩
 ·have:=hc x y h1;omega
end Go.Proofs.YtfjajpnfjjdnpaaGreatDoor
