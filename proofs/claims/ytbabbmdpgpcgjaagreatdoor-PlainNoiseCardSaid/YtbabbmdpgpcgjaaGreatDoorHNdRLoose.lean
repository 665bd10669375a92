import Derived.Test.YtbabbmdpgpcgjaaGreatDoorHNdsW
import Derived.Maps.Own
import Derived.DeepKeys4
import Derived.Laws.StructEq
import Derived.IntWalk

set_option linter.unusedVariables false
set_option linter.unusedSimpArgs false
set_option maxRecDepth 100000
set_option maxHeartbeats 6400000
namespace Go.Proofs.YtbabbmdpgpcgjaaGreatDoor
open Go.RowKit Nds
theorem zsT (a b c d:Int)(w:World):(Instr.index 110 (.agg #[.int .i64 a,.int .i64 b,.int .i64 c,.int .i64 d]) (.int .i64 0)).run Tryz.prog w=.ok (.int .i64 a) w:=by kernel_rfl
theorem zsU (a b c d:Int)(w:World):(Instr.index 110 (.agg #[.int .i64 a,.int .i64 b,.int .i64 c,.int .i64 d]) (.int .i64 1)).run Tryz.prog w=.ok (.int .i64 b) w:=by kernel_rfl
theorem zsV (a b c d:Int)(w:World):(Instr.index 110 (.agg #[.int .i64 a,.int .i64 b,.int .i64 c,.int .i64 d]) (.int .i64 2)).run Tryz.prog w=.ok (.int .i64 c) w:=by kernel_rfl
theorem zsW (a b c d:Int)(w:World):(Instr.index 110 (.agg #[.int .i64 a,.int .i64 b,.int .i64 c,.int .i64 d]) (.int .i64 3)).run Tryz.prog w=.ok (.int .i64 d) w:=by kernel_rfl
theorem zkm (x:Nd)(k:Nat)(hk:k<4)(w:World) :
  (Instr.index 110 (.agg #[.int .i64 x.a,.int .i64 x.b,.int .i64 x.c,.int .i64 x.d]) (.int .i64 (k:Int))).run Tryz.prog w=.ok (.int .i64 (x.kid k)) w:=by
 match k,hk with
 | 0,_=>exact zsT _ _ _ _ w
 | 1,_=>exact zsU _ _ _ _ w
 | 2,_=>exact zsV _ _ _ _ w
 | 3,_=>exact zsW _ _ _ _ w
theorem zvT {l:List Nd}{x:Nd}(h:¬ (1≤x.lv∧x.lv≤1329)):fitB l x=false:=by
 unfold fitB;rw[decide_eq_false h];rfl
theorem zge {l:List Nd}{x:Nd}{k:Nat}(hk:k<4)(h:kidB l x.lv (x.kid k)=false):fitB l x=false:=by
 unfold fitB;rw[Bool.and_eq_false_iff];right;rw[←Bool.not_eq_true,zbM];intro h2;have:=h2 k hk;rw[h] at this;cases this
theorem zsX {l:List Nd}{x:Nd}(h:1≤x.lv∧x.lv≤1329)(h2:∀k,k<4→kidB l x.lv (x.kid k)=true):fitB l x=true:=by
 unfold fitB;rw[decide_eq_true h,zbM.2 h2];rfl
theorem NdAt.new (w:World)(x:Nd)(t:TypeId):NdAt (w.alloc (.cells #[.int .i64 x.lv,.int .i64 x.a,.int .i64 x.b,.int .i64 x.c,.int .i64 x.d] t)) w.heap.size 0 x:=by
 have h:=heap_alloc_new w (.cells #[.int .i64 x.lv,.int .i64 x.a,.int .i64 x.b,.int .i64 x.c,.int .i64 x.d] t);exact⟨by rw[cell_of_row _ _ _ _ _ _ h];rfl,by rw[cell_of_row _ _ _ _ _ _ h];rfl,by rw[cell_of_row _ _ _ _ _ _ h];rfl,by rw[cell_of_row _ _ _ _ _ _ h];rfl,by rw[cell_of_row _ _ _ _ _ _ h];rfl⟩
end Go.Proofs.YtbabbmdpgpcgjaaGreatDoor

namespace Go.Proofs.YtbabbmdpgpcgjaaGreatDoor
open Go.RowKit Nds Go.Maps
theorem Tryz.laidOutK:laidOutB Tryz.prog=true:=by kernel_rfl
theorem Tryz.rowK:(112:TypeId)<Tryz.prog.types.size:=of_decide_eq_true (by kernel_rfl)
theorem Tryz.wideK:(match Tryz.prog.underlying 112 with|some (.array _ _)|some (.struct _)=>true|_=>false)=true:=by kernel_rfl
theorem Tryz.nodeLaw:Keyed Tryz.prog 112:=Keyed.of_law (deep_law_laid Tryz.laidOutK (m:=4) (by omega) Tryz.rowK (by kernel_rfl) Tryz.wideK)
theorem Tryz.nodeKT:Tryz.prog.keyType 112=true:=by kernel_rfl
theorem Tryz.cellsN:Tryz.prog.cellsOf 112=5:=by kernel_rfl
theorem Tryz.cells4:Tryz.prog.cellsOf 110=4:=by kernel_rfl
theorem Tryz.cells1:Tryz.prog.cellsOf 3=1:=by kernel_rfl
theorem zgN {n:Int}(h:in64 n)(d:Nat):Tryz.prog.keyLits (d+1) 3 [.int .i64 n]=some [.int .i64 n]:=by
 have hw:(Lit.int .i64 n).wf=true:=WalkArith.wf_i64 h;simp[Program.keyLits,Tryz.underlying3,hw]
theorem zsY {a b c d:Int}(ha:in64 a)(hb:in64 b)(hc:in64 c)(hd:in64 d)(m:Nat) :
  Tryz.prog.keyLits (m+2) 110 [.int .i64 a,.int .i64 b,.int .i64 c,.int .i64 d]=some [.int .i64 a,.int .i64 b,.int .i64 c,.int .i64 d]:=by
 have e:Tryz.prog.keyLits (m+2) 110 [.int .i64 a,.int .i64 b,.int .i64 c,.int .i64 d]=((List.range 4).mapM fun i=>Tryz.prog.keyLits (m+1) 3 (([.int .i64 a,.int .i64 b,.int .i64 c,.int .i64 d].drop (i*Tryz.prog.cellsOf 3)).take (Tryz.prog.cellsOf 3))).map List.flatten:=by
  unfold Program.keyLits;simp only[Tryz.underlying110];rw[if_pos (by rw[Tryz.cells4];rfl)];rfl
 rw[e,Tryz.cells1];simp[List.range,List.range.loop,zgN ha,zgN hb,zgN hc,zgN hd]
theorem zjb (x:Nd)(h:x.wf)(m:Nat):Tryz.prog.keyLits (m+3) 112 [.int .i64 x.lv,.int .i64 x.a,.int .i64 x.b,.int .i64 x.c,.int .i64 x.d]=some [.int .i64 x.lv,.int .i64 x.a,.int .i64 x.b,.int .i64 x.c,.int .i64 x.d]:=by
 obtain⟨h0,h1,h2,h3,h4⟩:=h;unfold Program.keyLits;simp only[Tryz.underlying112];simp[Tryz.cellsN,Tryz.cells4,Tryz.cells1,zgN h0,zsY h1 h2 h3 h4]
theorem zgO (x:Nd):(ndv x).formed Tryz.prog 112=true:=by simp[Value.formed,Tryz.underlying112,Tryz.cellsN]
theorem zih (x y:Nd)(hx:x.wf)(hy:y.wf)(w:World):(Op.equalIn 10000 112 (ndv x) (ndv y)).run Tryz.prog w=.ok (decide (x=y)) w:=by
 obtain⟨r,hr,hi⟩:=run_equalIn_deep (P:=Tryz.prog) 9996 4 112 (by kernel_rfl) w 3 3 (ndv x) (ndv y) _ _ (zgO x) (zgO y) (zjb x hx 0) (zjb y hy 0);have e:r=decide (x=y):=by
  rw[Bool.eq_iff_iff,hi,decide_eq_true_iff];constructor
  ·intro h;simp only[List.cons.injEq,Lit.int.injEq,true_and,and_true] at h;exact Nd.ext' h.1 h.2.1 h.2.2.1 h.2.2.2.1 h.2.2.2.2
  ·rintro rfl;rfl
 rw[←e];exact hr
theorem zsZ (x y:Nd)(hx:x.wf)(hy:y.wf)(w:World):(binOp .eql 112 (ndv x) (ndv y)).run Tryz.prog w=.ok (.bool (decide (x=y))) w:=by
 rw[run_eql_struct,zih x y hx hy];rfl
theorem zta (x y:Nd)(hx:x.wf)(hy:y.wf)(w:World):(binOp .neq 112 (ndv x) (ndv y)).run Tryz.prog w=.ok (.bool (!decide (x=y))) w:=by
 rw[run_neq_struct,zih x y hx hy];rfl
theorem zjc (x:Nd)(h:x.wf):∃l,keyOf Tryz.prog 112 (ndv x)=some l:=by
 have hf:=zgO x;obtain⟨m,hm⟩:∃m,Tryz.prog.types.size+1=m+3:=⟨Tryz.prog.types.size-2,by have:(112:Nat)<Tryz.prog.types.size:=Tryz.rowK;omega⟩;have e:=zjb x h m;unfold keyOf;rw[Tryz.underlying112];simp only[Tryz.nodeKT,hf,Bool.and_self,if_true,hm];simp only[Value.cells,e,Option.map_some];exact⟨_,rfl⟩
theorem zpU {x y:Nd}(h:ndv x=ndv y):x=y:=by
 simp only[ndv,Value.agg.injEq,Array.mk.injEq,List.cons.injEq,Value.int.injEq,true_and,and_true] at h;exact Nd.ext' h.1 h.2.1 h.2.2.1 h.2.2.2.1 h.2.2.2.2
end Go.Proofs.YtbabbmdpgpcgjaaGreatDoor

namespace Go.Proofs.YtbabbmdpgpcgjaaGreatDoor
open Go.RowKit Nds
def rim (x:Nd)(i:Nat):Nd:=match i with|0=>{ x with d:=0 }|1=>{ x with c:=0 }|2=>{ x with b:=0 }|_=>{ x with a:=0 }
theorem zvd (x:Nd)(i:Nat):(rim x i).lv=x.lv:=by
 unfold rim;split <;> rfl
def zcI (l:List Nd)(n:Nat):Bool :=
 decide (0<n∧2≤(at_ l (n-1)).lv)&&(List.range 4).all fun i=>decide ((at_ l (n-1)).kid i=0)||zbk l (rim (at_ l (((at_ l (n-1)).kid i).toNat-1)) i)
theorem zpV {p:Nat→Bool}{k:Nat}(hk:k<4)(h:p k=false):false=(List.range 4).all p:=by
 cases hq:(List.range 4).all p
 ·rfl
 ·have:=List.all_eq_true.1 hq k (List.mem_range.2 hk);rw[h] at this;cases this
theorem ztb {p:Nat→Bool}(h:∀j,j<4→p j=true):true=(List.range 4).all p :=
 (List.all_eq_true.2 fun j hj=>h j (List.mem_range.1 hj)).symm
def zfr (l:List Nd):Bool:=decide (l=[])||(zai l&&(zvB l&&(!zcI l l.length&&decide (wk l 1329 l.length 0=some l.length))))
theorem zaI {B:Nat}{a w:World}(h:Below B a w)(n:Nat):Below B a (w.drewN n):=⟨h.os,h.tape,h.output,h.size,h.block⟩
theorem ztc {l m:List Nd}(hl:l.length=m.length)(h:∀j,j<l.length→at_ l j=at_ m j):l=m:=by
 refine List.ext_getElem hl fun j h1 h2=>?_;have:=h j h1;unfold at_ at this
 rwa [List.getElem?_eq_getElem h1,List.getElem?_eq_getElem h2] at this
def zaO (l:List Nd):Int:=if l=[] then 0 else (at_ l (l.length-1)).lv
theorem zob (A:Option Addr)(c n:Nat)(l:List Nd)(w:World)(h:Ns w A c l)(hn:l.length=n) :
  Calls Tryz.prog 216 #[.agg #[.slice A n c]] w fun e w'=>e=.returned (.int .i64 (zaO l))∧Below w.heap.size w w':=by
 have hcap:=h.cap;rw[hn] at hcap;have HB:=Hh ((Below.refl w.heap.size w).alloc (Nat.le_refl _) (.cells #[.slice A n c] 27));by_cases h0:n=0
 ·have hr:zaO l=0:=by
   unfold zaO;rw[if_pos (List.eq_nil_of_length_eq_zero (hn.trans h0))]
  rw[hr];have t1:((n:Int)==0)=true:=by rw[h0];rfl
  clear h0 hn hr h;go_enter Tryz.func216,Tryz.ntmps216;go_wp2_with fail;go_ret;exact⟨rfl,HB.out⟩
 ·obtain⟨b,off,rfl,hb,hc⟩:=h.at_ (by omega)
  obtain⟨p,rfl⟩:∃p,n=p+1:=⟨n-1,by omega⟩;have c1:=(hc p (by omega)).1;have hr:zaO l=(at_ l p).lv:=by
   unfold zaO;rw[if_neg (fun e=>by rw[e] at hn;cases hn),hn];rfl
  rw[hr];generalize (at_ l p).lv=u at *;have t1:(((p+1:Nat):Int)==0)=false:=beq_eq_false_iff_ne.2 (by omega);have t2:((p:Int)+1==0)=false:=beq_eq_false_iff_ne.2 (by omega);have i1:(p:Int)<(p:Int)+1:=by omega
  clear h0 hn hr h hc;go_enter Tryz.func216,Tryz.ntmps216;go_wp2_with fail;go_ret;exact⟨rfl,HB.out⟩
theorem zoc (A B:Option Addr)(c d n p:Nat)(l m:List Nd)(w:World)(h:Ns w A c l)(k:Ns w B d m)(hn:l.length=n)(hp:m.length=p) :
  Calls Tryz.prog 34 #[.slice A n c,.slice B p d] w fun e w'=>e=.returned (.bool (decide (l=m)))∧∃q,w'=w.drewN q:=by
 have hcl:=h.cap;have hcm:=k.cap;rw[hn] at hcl;rw[hp] at hcm;obtain⟨R,hR⟩:∃R,R=decide (l=m):=⟨_,rfl⟩;rw[←hR];have HR:=Hh hR;clear hR;by_cases hl:n=p
 ·subst hl;have HNL:=Hh h;have HNM:=Hh k;have HL:=Hh hn;have HP:=Hh hp;clear h k hn hp;go_enter Tryz.func34,Tryz.ntmps34;go_wp2_with fail;go_loopw [5] (fun i  wr=>∃(k:Nat) (nd:Nat),wr=w.drewN nd∧k≤n∧i=.int .i64 k∧∀j,j<k→at_ l j=at_ m j) (fun i _=>n-(intOf i).toNat)
  case atStart=>exact⟨0,0,rfl,by omega,rfl,fun j hj=>by omega⟩
  case round =>
   obtain⟨k,nd,rfl,hk,rfl,hall⟩:=hrel;have HA:=Hh hall;clear hall;by_cases hlt:k<n
   ·obtain⟨b,off,rfl,hb,hc⟩:=HNL.out.at_ (by rw[HL.out];omega)
    obtain⟨b2,off2,rfl,hb2,hc2⟩:=HNM.out.at_ (by rw[HP.out];omega)
    obtain⟨c1,c2,c3,c4,c5⟩:=hc k (by rw[HL.out];exact hlt);obtain⟨d1,d2,d3,d4,d5⟩:=hc2 k (by rw[HP.out];exact hlt);have hwx:=HNL.out.wf (i:=k) (by rw[HL.out];exact hlt);have hwy:=HNM.out.wf (i:=k) (by rw[HP.out];exact hlt);clear hc hc2;obtain⟨x,hx⟩:∃x,x=at_ l k:=⟨_,rfl⟩
    obtain⟨y,hy⟩:∃y,y=at_ m k:=⟨_,rfl⟩
    rw[←hx] at c1 c2 c3 c4 c5 hwx;rw[←hy] at d1 d2 d3 d4 d5 hwy;have HX:=Hh hx;have HY:=Hh hy;clear hx hy;have hq:=zta x y hwx hwy;have i1:(k:Int)<(n:Int):=by omega
    have i2:(0:Int)≤(k:Int):=by omega
    clear hwx hwy;by_cases hxy:x=y
    ·have HXY:=Hh hxy;rw[decide_eq_true hxy] at hq;clear hxy;go_wp2_with fail;go_quiet (fail);go_wp2_with fail;go_roundw
     case rel =>
      refine⟨k+1,_,rfl,by omega,by go_num,fun j hj=>?_⟩;rcases Nat.lt_or_ge j k with h1|h1
      ·exact HA.out j h1
      ·rw[show j=k by omega,←HX.out,←HY.out];exact HXY.out
     case measure=>simp[intOf];omega
    ·have HXY:=Hh hxy;rw[decide_eq_false hxy] at hq;clear hxy;go_wp2_with fail;go_quiet (fail);go_wp2_with fail;go_ret;refine⟨nd_b ?_,by first|exact⟨_,rfl⟩|exact⟨_,World.drewN_drewN _ _ _⟩⟩;rw[HR.out];exact(decide_eq_false fun e=>HXY.out (by rw[HX.out,HY.out,e])).symm
   ·go_wp2_with fail;go_ret;refine⟨nd_b ?_,⟨_,rfl⟩⟩;rw[HR.out];exact(decide_eq_true (ztc (HL.out.trans HP.out.symm) fun j hj=>HA.out j (by rw[HL.out] at hj;omega))).symm
 ·have hr:R=false:=by
   rw[HR.out];exact decide_eq_false fun e=>hl (by rw[←hn,←hp,e])
  subst hr;have t1:((n:Int)!=(p:Int))=true:=by rw[bne_iff_ne];omega
  clear hl h k hn hp;go_enter Tryz.func34,Tryz.ntmps34;go_wp2_with fail;go_ret;exact⟨rfl,0,rfl⟩
theorem NdAt.kid {w:World}{b o:Nat}{x:Nd}(h:NdAt w b o x){q:Nat}(hq:q<4):w.cell? ⟨b,o+1+q,none⟩=some (.int .i64 (x.kid q)):=by
 obtain⟨h1,h2,h3,h4,h5⟩:=h
 match q,hq with
 | 0,_=>exact h2
 | 1,_=>exact h3
 | 2,_=>exact h4
 | 3,_=>exact h5
theorem ztd (l:List Nd)(v k:Int)(h:k<0):kidB l v k=false:=by
 unfold kidB;split
 ·exact decide_eq_false (by omega)
 ·exact decide_eq_false (by omega)
theorem zeM {l:List Nd}{k:Nat}(hk:k<l.length)(h:fitB (l.take k) (at_ l k)=false):false=zai l:=by
 cases hq:zai l
 ·rfl
 ·have:=zan.1 hq k hk;rw[h] at this;cases this
theorem zod (A:Option Addr)(c:Nat)(l:List Nd)(w:World)(h:Ns w A c l) :
  Calls Tryz.prog 110 #[.slice A l.length c] w fun e w'=>e=.returned (.bool (zai l))∧∃m,w'=w.drewN m:=by
 have hcap:=h.cap;obtain⟨R,hR⟩:∃R,R=zai l:=⟨_,rfl⟩;rw[←hR];have HR:=Hh hR;have HN:=Hh h;clear hR h;obtain⟨n,hn⟩:∃n,n=l.length:=⟨_,rfl⟩;rw[←hn] at hcap ⊢;have HL:=Hh hn;clear hn;go_enter Tryz.func110,Tryz.ntmps110;go_wp2;go_loopw [3,4,5] (fun i z1 z2 wr=>∃(k:Nat) (v1 v2:Value) (nd:Nat),wr=w.drewN nd∧k≤n∧i=.int .i64 k∧z1=v1∧z2=v2∧(∀j,j<k→fitB (l.take j) (at_ l j)=true)) (fun i _ _ _=>n-(intOf i).toNat)
 case atStart=>exact⟨0,_,_,0,rfl,by omega,rfl,rfl,rfl,fun j hj=>by omega⟩
 case round =>
  obtain⟨k,v1,v2,nd,rfl,hk,rfl,rfl,rfl,hall⟩:=hrel;have HA:=Hh hall;clear hall;by_cases hlt:k<n
  ·obtain⟨b,off,rfl,hb,hc⟩:=HN.out.at_ (by rw[←HL.out];omega)
   have hck:=hc k (by rw[←HL.out];omega);obtain⟨c1,-,-,-,-⟩:=id hck;have HC:=Hh hc;have HCK:=Hh hck;clear hc hck;obtain⟨x,hx⟩:∃x,x=at_ l k:=⟨_,rfl⟩
   rw[←hx] at c1;have HX:=Hh hx;clear hx;have i1:(k:Int)<(n:Int):=by omega
   by_cases hv:1≤x.lv∧x.lv≤1329
   ·obtain⟨hv1,hv2⟩:=hv;obtain⟨wo,hwo⟩:∃wo:World,wo=w.drewN nd:=⟨_,rfl⟩;have c1':wo.cell? ⟨b,off+k*5,none⟩=some (.int .i64 x.lv):=by rw[hwo];exact c1
    have HW:=Hh hwo;rw[←hwo];clear hwo c1;go_wp2;go_loopw [4,5] (fun i z wr=>∃(q:Nat) (v:Value) (m:Nat),wr=wo.drewN m∧q≤4∧i=.int .i64 q∧z=v∧∀j,j<q→kidB (l.take k) x.lv (x.kid j)=true) (fun i _ _=>4-(intOf i).toNat)
    case atStart=>exact⟨0,_,0,rfl,by omega,rfl,rfl,fun j hj=>by omega⟩
    case round =>
     obtain⟨q,v,m,rfl,hq,rfl,rfl,hkq⟩:=hrel;have HQ:=Hh hkq;clear hkq;by_cases hq4:q<4
     ·have hy:=HCK.out.kid hq4;have hwk:=(HN.out.wf (i:=k) (by rw[←HL.out];exact hlt)).kid q;rw[←HX.out] at hy hwk;have hy':wo.cell? ⟨b,off+k*5+1+q,none⟩=some (.int .i64 (x.kid q)):=by rw[HW.out];exact hy
      obtain⟨y,hye⟩:∃y,y=x.kid q:=⟨_,rfl⟩;rw[←hye] at hy' hwk;obtain⟨hw1,hw2⟩:=hwk;have HY:=Hh hye;clear hy hye;have i2:(q:Int)<4:=by omega
      by_cases hn:y<0
      ·have HB:=Hh (show kidB (l.take k) x.lv (x.kid q)=false by rw[←HY.out];exact ztd _ _ _ hn);have t1:decide (y<0)=true:=decide_eq_true hn;go_wp2;go_ret;refine⟨nd_b ?_,by rw[HW.out];first|exact⟨_,rfl⟩|exact⟨_,World.drewN_drewN _ _ _⟩|(simp only[World.drewN_drewN];exact⟨_,rfl⟩)⟩;rw[HR.out];exact zeM (k:=k) (by rw[←HL.out];exact hlt) (by rw[←HX.out];exact zge hq4 HB.out)
      ·have t1:decide (y<0)=false:=decide_eq_false hn;by_cases hl1:x.lv=1
       ·have t2:(x.lv==1)=true:=by rw[beq_iff_eq];exact hl1
        have t3:decide (1<x.lv)=false:=decide_eq_false (by omega);by_cases hy255:y≤255
        ·have HB:=Hh (show kidB (l.take k) x.lv (x.kid q)=true by rw[←HY.out,hl1,zeF];exact decide_eq_true (by omega));have t4:decide (255<y)=false:=decide_eq_false (by omega);clear hl1;go_wp2;go_quiet (fail);go_wp2;go_roundw
         case rel =>
          refine⟨q+1,_,_,rfl,by omega,by go_num,rfl,fun j hj=>?_⟩;rcases Nat.lt_or_ge j q with h1|h1
          ·exact HQ.out j h1
          ·rw[show j=q by omega];exact HB.out
         case measure=>simp[intOf];omega
        ·have HB:=Hh (show kidB (l.take k) x.lv (x.kid q)=false by rw[←HY.out,hl1,zeF];exact decide_eq_false (by omega));have t4:decide (255<y)=true:=decide_eq_true (by omega);clear hl1;go_wp2;go_ret;refine⟨nd_b ?_,by rw[HW.out];first|exact⟨_,rfl⟩|exact⟨_,World.drewN_drewN _ _ _⟩|(simp only[World.drewN_drewN];exact⟨_,rfl⟩)⟩;rw[HR.out];exact zeM (k:=k) (by rw[←HL.out];exact hlt) (by rw[←HX.out];exact zge hq4 HB.out)
       ·have t2:(x.lv==1)=false:=beq_eq_false_iff_ne.2 hl1;have t3:decide (1<x.lv)=true:=decide_eq_true (by omega);rcases(show y=0∨(0<y∧(k:Int)<y)∨(0<y∧y≤(k:Int)) by omega) with h0|⟨h0,h1⟩|⟨h0,h1⟩
        ·have HB:=Hh (show kidB (l.take k) x.lv (x.kid q)=true by rw[←HY.out,h0];exact zjW _ _ hl1);have t4:decide (0<y)=false:=decide_eq_false (by omega);clear hl1 h0;go_wp2;go_quiet (fail);go_wp2;go_roundw
         case rel =>
          refine⟨q+1,_,_,rfl,by omega,by go_num,rfl,fun j hj=>?_⟩;rcases Nat.lt_or_ge j q with h1|h1
          ·exact HQ.out j h1
          ·rw[show j=q by omega];exact HB.out
         case measure=>simp[intOf];omega
        ·have HB:=Hh (show kidB (l.take k) x.lv (x.kid q)=false by rw[←HY.out];exact zsC _ _ _ hl1 (.inr (by rw[List.length_take,←HL.out];omega)));have t4:decide (0<y)=true:=decide_eq_true h0;have t5:decide ((k:Int)<y)=true:=decide_eq_true h1;clear hl1;go_wp2;go_quiet (fail);go_wp2;go_ret;refine⟨nd_b ?_,by rw[HW.out];first|exact⟨_,rfl⟩|exact⟨_,World.drewN_drewN _ _ _⟩|(simp only[World.drewN_drewN];exact⟨_,rfl⟩)⟩;rw[HR.out];exact zeM (k:=k) (by rw[←HL.out];exact hlt) (by rw[←HX.out];exact zge hq4 HB.out)
        ·have t4:decide (0<y)=true:=decide_eq_true h0;have t5:decide ((k:Int)<y)=false:=decide_eq_false (by omega);obtain⟨p,rfl⟩:∃p:Nat,y=(p:Int)+1:=⟨(y-1).toNat,by omega⟩;have hpk:p<k:=by omega
         have cp:wo.cell? ⟨b,off+p*5,none⟩=some (.int .i64 (at_ l p).lv):=by rw[HW.out];exact(HC.out p (by rw[←HL.out];omega)).1
         have e1:IntKind.i64.wrap ((p:Int)+1-1)=(p:Int):=by rw[show(p:Int)+1-1=(p:Int) by omega];exact IntWalk.i64_in _ (by omega)
         have e2:IntKind.i64.wrap (x.lv-1)=x.lv-1:=IntWalk.i64_in _ (by omega);have i3:(p:Int)<(n:Int):=by omega
         have i4:(0:Int)≤(p:Int):=by omega
         by_cases hu:(at_ l p).lv=x.lv-1
         ·have HB:=Hh (show kidB (l.take k) x.lv (x.kid q)=true by rw[←HY.out,zlu _ _ _ hl1 (by rw[List.length_take,←HL.out];omega),zda hpk];exact decide_eq_true hu);have t6:((at_ l p).lv != x.lv-1)=false:=by rw[hu];simp
          generalize (at_ l p).lv=u at *;clear hl1 hu;go_wp2;go_quiet (fail);go_wp2;go_roundw
          case rel =>
           refine⟨q+1,_,_,rfl,by omega,by go_num,rfl,fun j hj=>?_⟩;rcases Nat.lt_or_ge j q with h1|h1
           ·exact HQ.out j h1
           ·rw[show j=q by omega];exact HB.out
          case measure=>simp[intOf];omega
         ·have HB:=Hh (show kidB (l.take k) x.lv (x.kid q)=false by rw[←HY.out,zlu _ _ _ hl1 (by rw[List.length_take,←HL.out];omega),zda hpk];exact decide_eq_false hu);have t6:((at_ l p).lv != x.lv-1)=true:=by rw[bne_iff_ne];exact hu
          generalize (at_ l p).lv=u at *;clear hl1 hu;go_wp2;go_quiet (fail);go_wp2;go_ret;refine⟨nd_b ?_,by rw[HW.out];first|exact⟨_,rfl⟩|exact⟨_,World.drewN_drewN _ _ _⟩|(simp only[World.drewN_drewN];exact⟨_,rfl⟩)⟩;rw[HR.out];exact zeM (k:=k) (by rw[←HL.out];exact hlt) (by rw[←HX.out];exact zge hq4 HB.out)
     ·go_wp2;go_roundw
      case rel =>
       refine⟨k+1,_,_,_,by rw[HW.out,World.drewN_drewN],by omega,by go_num,rfl,rfl,fun j hj=>?_⟩;rcases Nat.lt_or_ge j k with h1|h1
       ·exact HA.out j h1
       ·rw[show j=k by omega,←HX.out];exact zsX ⟨hv1,hv2⟩ (fun j hj=>HQ.out j (by omega))
      case measure=>simp[intOf];omega
   ·have hr:R=false:=HR.out.trans (zeM (k:=k) (by rw[←HL.out];exact hlt) (by rw[←HX.out];exact zvT hv)).symm;subst hr;rcases(show x.lv<1∨(1≤x.lv∧1329<x.lv) by omega) with h|⟨h,h3⟩
    all_goals
     go_wp2;go_ret;exact⟨rfl,_,rfl⟩
  ·go_wp2;go_ret;refine⟨nd_b ?_,_,rfl⟩;rw[HR.out];exact(zan.2 fun i hi=>HA.out i (by rw[←HL.out] at hi;omega)).symm
theorem zgP (A:Option Addr)(c n:Nat)(l:List Nd)(w:World)(h:Ns w A c l)(hn:l.length=n) :
  Calls Tryz.prog 110 #[.slice A n c] w fun e w'=>e=.returned (.bool (zai l))∧∃m,w'=w.drewN m:=by
 subst hn;exact zod A c l w h
theorem Ns.drewN {w:World}{A:Option Addr}{c:Nat}{l:List Nd}(h:Ns w A c l)(m:Nat):Ns (w.drewN m) A c l:=h
end Go.Proofs.YtbabbmdpgpcgjaaGreatDoor
