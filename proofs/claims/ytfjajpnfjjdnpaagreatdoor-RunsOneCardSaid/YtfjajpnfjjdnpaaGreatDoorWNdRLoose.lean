import Derived.Test.YtfjajpnfjjdnpaaGreatDoorWNdsW
import Derived.Maps.Own
import Derived.DeepKeys4
import Derived.Laws.StructEq
import Derived.IntWalk

set_option linter.unusedVariables false
set_option linter.unusedSimpArgs false
set_option maxRecDepth 100000
set_option maxHeartbeats 6400000
namespace Go.Proofs.YtfjajpnfjjdnpaaGreatDoor
open Go.RowKit Nds
theorem zrB (a b c d:Int)(w:World):(Instr.index 68 (.agg #[.int .i64 a,.int .i64 b,.int .i64 c,.int .i64 d]) (.int .i64 0)).run Tryz.prog w=.ok (.int .i64 a) w:=by kernel_rfl
theorem zrC (a b c d:Int)(w:World):(Instr.index 68 (.agg #[.int .i64 a,.int .i64 b,.int .i64 c,.int .i64 d]) (.int .i64 1)).run Tryz.prog w=.ok (.int .i64 b) w:=by kernel_rfl
theorem zrD (a b c d:Int)(w:World):(Instr.index 68 (.agg #[.int .i64 a,.int .i64 b,.int .i64 c,.int .i64 d]) (.int .i64 2)).run Tryz.prog w=.ok (.int .i64 c) w:=by kernel_rfl
theorem zrE (a b c d:Int)(w:World):(Instr.index 68 (.agg #[.int .i64 a,.int .i64 b,.int .i64 c,.int .i64 d]) (.int .i64 3)).run Tryz.prog w=.ok (.int .i64 d) w:=by kernel_rfl
theorem zen (x:Nd)(k:Nat)(hk:k<4)(w:World) :
  (Instr.index 68 (.agg #[.int .i64 x.a,.int .i64 x.b,.int .i64 x.c,.int .i64 x.d]) (.int .i64 (k:Int))).run Tryz.prog w=.ok (.int .i64 (x.kid k)) w:=by
 match k,hk with
 | 0,_=>exact zrB _ _ _ _ w
 | 1,_=>exact zrC _ _ _ _ w
 | 2,_=>exact zrD _ _ _ _ w
 | 3,_=>exact zrE _ _ _ _ w
theorem zoE {l:List Nd}{x:Nd}(h:¬ (1≤x.lv∧x.lv≤1329)):fitB l x=false:=by
 unfold fitB;rw[decide_eq_false h];rfl
theorem zeo {l:List Nd}{x:Nd}{k:Nat}(hk:k<4)(h:kidB l x.lv (x.kid k)=false):fitB l x=false:=by
 unfold fitB;rw[Bool.and_eq_false_iff];right;rw[←Bool.not_eq_true,zaV];intro h2;have:=h2 k hk;rw[h] at this;cases this
theorem zlO {l:List Nd}{x:Nd}(h:1≤x.lv∧x.lv≤1329)(h2:∀k,k<4→kidB l x.lv (x.kid k)=true):fitB l x=true:=by
 unfold fitB;rw[decide_eq_true h,zaV.2 h2];rfl
theorem zrF (A:Option Addr)(c:Nat)(l:List Nd)(x:Nd)(w:World)(h:Ns w A c l)(hx:x.wf) :
  Calls Tryz.prog 214 #[.slice A l.length c,ndv x] w fun e w'=>e=.returned (.bool (fitB l x))∧Below w.heap.size w w':=by
 have hx1:=hx.1.1;have hx2:=hx.1.2;have hi:=zen x;obtain⟨R,hR⟩:∃R,R=fitB l x:=⟨_,rfl⟩;rw[←hR];have HR:=Hh hR;have HI:=Hh hi;have HN:=Hh h;have HX:=Hh hx;clear hR hi h hx;by_cases hv:1≤x.lv∧x.lv≤1329
 ·obtain⟨hv1,hv2⟩:=hv;go_enter Tryz.func214,Tryz.ntmps214;go_wp2;go_loop [17,6] (fun i z=>∃(k:Nat) (v:Value),k≤4∧i=.int .i64 k∧z=v∧∀j,j<k→kidB l x.lv (x.kid j)=true) (fun i _=>4-(intOf i).toNat)
  case atStart=>exact⟨0,_,by omega,rfl,rfl,fun j hj=>by omega⟩
  case round =>
   obtain⟨k,v,hk,rfl,rfl,hall⟩:=hrel;have HA:=Hh hall;clear hall;by_cases hlt:k<4
   ·have hi:=HI.out k hlt;have hw:=HX.out.kid k;generalize hq:x.kid k=q at *;have HQ:=Hh hq;clear hq;cases hb:kidB l x.lv q with
    | true =>
     have HB:=Hh hb;go_wp2_with (go_at_call 251;refine(zgj _ _ _ _ _ _ (HN.out.below ((Below.refl _ _).alloc (Nat.le_refl _) _)) ⟨hv1,hv2⟩ hw).mono ?_;rintro e w1 ⟨rfl,rfl⟩;rw[hb]);go_round
     case rel =>
      refine⟨k+1,_,by omega,by go_num,rfl,fun j hj=>?_⟩;rcases Nat.lt_or_ge j k with h1|h1
      ·exact HA.out j h1
      ·rw[show j=k by omega,HQ.out];exact HB.out
     case measure=>simp[intOf];omega
    | false =>
     have HB:=Hh hb;go_wp2_with (go_at_call 251;refine(zgj _ _ _ _ _ _ (HN.out.below ((Below.refl _ _).alloc (Nat.le_refl _) _)) ⟨hv1,hv2⟩ hw).mono ?_;rintro e w1 ⟨rfl,rfl⟩;rw[hb]);go_ret;refine⟨nd_b ?_,(Below.refl _ _).alloc (Nat.le_refl _) _⟩;rw[HR.out];exact(zeo hlt (by rw[HQ.out];exact HB.out)).symm
   ·go_wp2;go_ret;refine⟨nd_b ?_,(Below.refl _ _).alloc (Nat.le_refl _) _⟩;rw[HR.out,zlO ⟨hv1,hv2⟩ (fun j hj=>HA.out j (by omega))]
 ·have hr:R=false:=HR.out.trans (zoE hv);subst hr;rcases(show x.lv<1∨(1≤x.lv∧1329<x.lv) by omega) with h|⟨h,h3⟩
  all_goals
   go_enter Tryz.func214,Tryz.ntmps214;go_wp2;go_ret;exact⟨rfl,(Below.refl _ _).alloc (Nat.le_refl _) _⟩
theorem Ns.cut {w:World}{A:Option Addr}{c:Nat}{l:List Nd}(h:Ns w A c l)(k:Nat):Ns w A c (l.take k):=by
 refine⟨fun x hx=>h.1 x (List.mem_of_mem_take hx),by have:=List.length_take_le' k l;have:=h.2.1;omega,h.2.2.1,fun hn=>?_⟩;have h0:0<l.length:=by rw[List.length_take] at hn;omega
 obtain⟨b,off,e,hlt,hc⟩:=h.at_ h0
 refine⟨b,off,e,hlt,fun i hi=>?_⟩;rw[List.length_take] at hi;rw[zcD (by omega)];exact hc i (by omega)
theorem NdAt.new (w:World)(x:Nd)(t:TypeId):NdAt (w.alloc (.cells #[.int .i64 x.lv,.int .i64 x.a,.int .i64 x.b,.int .i64 x.c,.int .i64 x.d] t)) w.heap.size 0 x:=by
 have h:=heap_alloc_new w (.cells #[.int .i64 x.lv,.int .i64 x.a,.int .i64 x.b,.int .i64 x.c,.int .i64 x.d] t);exact⟨by rw[cell_of_row _ _ _ _ _ _ h];rfl,by rw[cell_of_row _ _ _ _ _ _ h];rfl,by rw[cell_of_row _ _ _ _ _ _ h];rfl,by rw[cell_of_row _ _ _ _ _ _ h];rfl,by rw[cell_of_row _ _ _ _ _ _ h];rfl⟩
theorem Ns.drew {w:World}{A:Option Addr}{c:Nat}{l:List Nd}(h:Ns w A c l):Ns w.drew A c l:=h
theorem NdAt.drew {w:World}{b o:Nat}{x:Nd}(h:NdAt w b o x):NdAt w.drew b o x:=h
theorem zoF (A:Option Addr)(c n:Nat)(l:List Nd)(x:Nd)(w:World)(h:Ns w A c l)(hn:l.length=n)(hx:x.wf) :
  Calls Tryz.prog 214 #[.slice A n c,ndv x] w fun e w'=>e=.returned (.bool (fitB l x))∧Below w.heap.size w w':=by
 subst hn;exact zrF A c l x w h hx
theorem zoG (A:Option Addr)(c:Nat)(l:List Nd)(w:World)(h:Ns w A c l) :
  Calls Tryz.prog 169 #[.slice A l.length c] w fun e w'=>e=.returned (.bool (zac l))∧Below w.heap.size w w':=by
 have hcap:=h.cap;obtain⟨R,hR⟩:∃R,R=zac l:=⟨_,rfl⟩;rw[←hR];have HR:=Hh hR;have HN:=Hh h;clear hR h;obtain⟨n,hn⟩:∃n,n=l.length:=⟨_,rfl⟩;rw[←hn] at hcap ⊢;have HL:=Hh hn;clear hn;go_enter Tryz.func169,Tryz.ntmps169;go_wp2;go_loopw [7,3,4] (fun i z1 z2 wr=>∃(k:Nat) (v1 v2:Value),k≤n∧i=.int .i64 k∧z1=v1∧z2=v2∧(∀j,j<k→fitB (l.take j) (at_ l j)=true)∧Below w.heap.size w wr) (fun i _ _ _=>n-(intOf i).toNat)
 case atStart=>exact⟨0,_,_,by omega,rfl,rfl,rfl,fun j hj=>by omega,Below.refl _ _⟩
 case round =>
  obtain⟨k,v1,v2,hk,rfl,rfl,rfl,hall,hbw⟩:=hrel;have HA:=Hh hall;clear hall;by_cases hlt:k<n
  ·obtain⟨b,off,rfl,hb,hc⟩:=HN.out.at_ (by rw[←HL.out];omega)
   obtain⟨c1,c2,c3,c4,c5⟩:=(hc k (by rw[←HL.out];omega)).below (hbw.block b hb);clear hc;obtain⟨x,hx⟩:∃x,x=at_ l k:=⟨_,rfl⟩
   rw[←hx] at c1 c2 c3 c4 c5;have HX:=Hh hx;clear hx;have i1:(k:Int)<(n:Int):=by omega
   go_wp2;have hbx:=NdAt.new wr x 70;have HF:=Hh hbx;have hbw2:=hbw.alloc hbw.size (.cells #[.int .i64 x.lv,.int .i64 x.a,.int .i64 x.b,.int .i64 x.c,.int .i64 x.d] 70);have HN2:=Hh ((HN.out.below hbw2).cut k);have hgs:wr.heap.size<(wr.alloc (.cells #[.int .i64 x.lv,.int .i64 x.a,.int .i64 x.b,.int .i64 x.c,.int .i64 x.d] 70)).heap.size:=by simp
   obtain⟨f1,f2,f3,f4,f5⟩:=hbx;have b1:(0:Int)≤(k:Int):=by omega
   have b2:(k:Int)≤(c:Int):=by omega
   have hlen:(l.take k).length=k:=by rw[List.length_take,←HL.out];omega
   have HLN:=Hh hlen;have hwx:x.wf:=by rw[HX.out];exact HN.out.wf (by rw[←HL.out];omega)
   have HWX:=Hh hwx;generalize hW:wr.alloc _=W at *;generalize hg:wr.heap.size=g at *;clear hW hg hlen hwx c1 c2 c3 c4 c5;cases hb:fitB (l.take k) x with
   | true =>
    have HB:=Hh hb;clear hb;go_region_held3 (fun w'=>w'.cell? ⟨g,0,none⟩=some (.int .i64 x.lv)∧w'.cell? ⟨g,1,none⟩=some (.int .i64 x.a)∧w'.cell? ⟨g,2,none⟩=some (.int .i64 x.b)∧w'.cell? ⟨g,3,none⟩=some (.int .i64 x.c)∧w'.cell? ⟨g,4,none⟩=some (.int .i64 x.d))
     (first|go_keep|fail)
     (first|(go_at_call 214;refine(zoF _ _ k _ x _ HN2.out.drew HLN.out HWX.out).mono ?_;rintro e w1 ⟨rfl,bw1⟩;rw[HB.out];obtain⟨f1,f2,f3,f4,f5⟩:=HF.out.drew.below (bw1.block g hgs)))
    go_wp2;go_roundw
    case rel =>
     refine⟨k+1,_,_,by omega,by go_num,rfl,rfl,fun j hj=>?_,hbw2.drew.trans (bw1.mono hbw2.size)⟩;rcases Nat.lt_or_ge j k with h1|h1
     ·exact HA.out j h1
     ·rw[show j=k by omega,←HX.out];exact HB.out
    case measure=>simp[intOf];omega
   | false =>
    have HB:=Hh hb;clear hb;go_region_held3 (fun w'=>w'.cell? ⟨g,0,none⟩=some (.int .i64 x.lv)∧w'.cell? ⟨g,1,none⟩=some (.int .i64 x.a)∧w'.cell? ⟨g,2,none⟩=some (.int .i64 x.b)∧w'.cell? ⟨g,3,none⟩=some (.int .i64 x.c)∧w'.cell? ⟨g,4,none⟩=some (.int .i64 x.d))
     (first|go_keep|fail)
     (first|(go_at_call 214;refine(zoF _ _ k _ x _ HN2.out.drew HLN.out HWX.out).mono ?_;rintro e w1 ⟨rfl,bw1⟩;rw[HB.out];obtain⟨f1,f2,f3,f4,f5⟩:=HF.out.drew.below (bw1.block g hgs)))
    go_wp2;go_ret;refine⟨nd_b ?_,hbw2.drew.trans (bw1.mono hbw2.size)⟩;rw[HR.out];cases hq:zac l
    ·rfl
    ·have:=zai.1 hq k (by rw[←HL.out];omega);rw[←HX.out,HB.out] at this;cases this
  ·go_wp2;go_ret;refine⟨nd_b ?_,hbw⟩;rw[HR.out];exact(zai.2 fun i hi=>HA.out i (by rw[←HL.out] at hi;omega)).symm
theorem zep (A:Option Addr)(c n:Nat)(l:List Nd)(w:World)(h:Ns w A c l)(hn:l.length=n) :
  Calls Tryz.prog 169 #[.slice A n c] w fun e w'=>e=.returned (.bool (zac l))∧Below w.heap.size w w':=by
 subst hn;exact zoG A c l w h
end Go.Proofs.YtfjajpnfjjdnpaaGreatDoor

namespace Go.Proofs.YtfjajpnfjjdnpaaGreatDoor
open Go.RowKit Nds Go.Maps
theorem Tryz.laidOutK:laidOutB Tryz.prog=true:=by kernel_rfl
theorem Tryz.rowK:(70:TypeId)<Tryz.prog.types.size:=of_decide_eq_true (by kernel_rfl)
theorem Tryz.wideK:(match Tryz.prog.underlying 70 with|some (.array _ _)|some (.struct _)=>true|_=>false)=true:=by kernel_rfl
theorem Tryz.nodeLaw:Keyed Tryz.prog 70:=Keyed.of_law (deep_law_laid Tryz.laidOutK (m:=4) (by omega) Tryz.rowK (by kernel_rfl) Tryz.wideK)
theorem Tryz.nodeKT:Tryz.prog.keyType 70=true:=by kernel_rfl
theorem Tryz.cellsN:Tryz.prog.cellsOf 70=5:=by kernel_rfl
theorem Tryz.cells4:Tryz.prog.cellsOf 68=4:=by kernel_rfl
theorem Tryz.cells1:Tryz.prog.cellsOf 3=1:=by kernel_rfl
theorem zgv {n:Int}(h:in64 n)(d:Nat):Tryz.prog.keyLits (d+1) 3 [.int .i64 n]=some [.int .i64 n]:=by
 have hw:(Lit.int .i64 n).wf=true:=WalkArith.wf_i64 h;simp[Program.keyLits,Tryz.underlying3,hw]
theorem ziv {a b c d:Int}(ha:in64 a)(hb:in64 b)(hc:in64 c)(hd:in64 d)(m:Nat) :
  Tryz.prog.keyLits (m+2) 68 [.int .i64 a,.int .i64 b,.int .i64 c,.int .i64 d]=some [.int .i64 a,.int .i64 b,.int .i64 c,.int .i64 d]:=by
 have e:Tryz.prog.keyLits (m+2) 68 [.int .i64 a,.int .i64 b,.int .i64 c,.int .i64 d]=((List.range 4).mapM fun i=>Tryz.prog.keyLits (m+1) 3 (([.int .i64 a,.int .i64 b,.int .i64 c,.int .i64 d].drop (i*Tryz.prog.cellsOf 3)).take (Tryz.prog.cellsOf 3))).map List.flatten:=by
  unfold Program.keyLits;simp only[Tryz.underlying68];rw[if_pos (by rw[Tryz.cells4];rfl)];rfl
 rw[e,Tryz.cells1];simp[List.range,List.range.loop,zgv ha,zgv hb,zgv hc,zgv hd]
theorem ziw (x:Nd)(h:x.wf)(m:Nat):Tryz.prog.keyLits (m+3) 70 [.int .i64 x.lv,.int .i64 x.a,.int .i64 x.b,.int .i64 x.c,.int .i64 x.d]=some [.int .i64 x.lv,.int .i64 x.a,.int .i64 x.b,.int .i64 x.c,.int .i64 x.d]:=by
 obtain⟨h0,h1,h2,h3,h4⟩:=h;unfold Program.keyLits;simp only[Tryz.underlying70];simp[Tryz.cellsN,Tryz.cells4,Tryz.cells1,zgv h0,ziv h1 h2 h3 h4]
theorem zgw (x:Nd):(ndv x).formed Tryz.prog 70=true:=by simp[Value.formed,Tryz.underlying70,Tryz.cellsN]
theorem zjy (a b c d:Int):(Value.agg #[.int .i64 a,.int .i64 b,.int .i64 c,.int .i64 d]).formed Tryz.prog 68=true:=by simp[Value.formed,Tryz.underlying68,Tryz.cells4]
theorem zhD (x y:Nd)(hx:x.wf)(hy:y.wf)(w:World):(Op.equalIn 10000 70 (ndv x) (ndv y)).run Tryz.prog w=.ok (decide (x=y)) w:=by
 obtain⟨r,hr,hi⟩:=run_equalIn_deep (P:=Tryz.prog) 9996 4 70 (by kernel_rfl) w 3 3 (ndv x) (ndv y) _ _ (zgw x) (zgw y) (ziw x hx 0) (ziw y hy 0);have e:r=decide (x=y):=by
  rw[Bool.eq_iff_iff,hi,decide_eq_true_iff];constructor
  ·intro h;simp only[List.cons.injEq,Lit.int.injEq,true_and,and_true] at h;exact Nd.ext' h.1 h.2.1 h.2.2.1 h.2.2.2.1 h.2.2.2.2
  ·rintro rfl;rfl
 rw[←e];exact hr
theorem zrG (x y:Nd)(hx:x.wf)(hy:y.wf)(w:World):(binOp .eql 70 (ndv x) (ndv y)).run Tryz.prog w=.ok (.bool (decide (x=y))) w:=by
 rw[run_eql_struct,zhD x y hx hy];rfl
theorem zrH (x y:Nd)(hx:x.wf)(hy:y.wf)(w:World):(binOp .neq 70 (ndv x) (ndv y)).run Tryz.prog w=.ok (.bool (!decide (x=y))) w:=by
 rw[run_neq_struct,zhD x y hx hy];rfl
theorem zjz:in64 0:=⟨by omega,by omega⟩
theorem zlP (x:Nd)(hx:x.wf)(w:World):(binOp .eql 68 (.agg #[.int .i64 x.a,.int .i64 x.b,.int .i64 x.c,.int .i64 x.d]) (.agg #[.int .i64 0,.int .i64 0,.int .i64 0,.int .i64 0])).run Tryz.prog w=.ok (.bool (x.each (· == 0))) w:=by
 obtain⟨h0,h1,h2,h3,h4⟩:=hx;obtain⟨r,hr,hi⟩:=run_equalIn_deep (P:=Tryz.prog) 9996 4 68 (by kernel_rfl) w 2 2 _ _ _ _ (zjy x.a x.b x.c x.d) (zjy 0 0 0 0) (ziv h1 h2 h3 h4 0) (ziv zjz zjz zjz zjz 0);have e:r=x.each (· == 0):=by
  rw[Bool.eq_iff_iff,hi];unfold Nd.each;simp[and_assoc]
 rw[run_eql_struct,←e,show(10000:Nat)=9996+4 from rfl,hr];rfl
theorem zix (x:Nd)(h:x.wf):∃l,keyOf Tryz.prog 70 (ndv x)=some l:=by
 have hf:=zgw x;obtain⟨m,hm⟩:∃m,Tryz.prog.types.size+1=m+3:=⟨Tryz.prog.types.size-2,by have:(70:Nat)<Tryz.prog.types.size:=Tryz.rowK;omega⟩;have e:=ziw x h m;unfold keyOf;rw[Tryz.underlying70];simp only[Tryz.nodeKT,hf,Bool.and_self,if_true,hm];simp only[Value.cells,e,Option.map_some];exact⟨_,rfl⟩
def NM (w:World)(b:Nat)(S:List Nd):Prop :=
 (∀y∈S,y.wf)∧∃es clock,w.heap[b]?=some (.map es clock)∧(∀e∈es.toList,∃y∈S,e.key=ndv y∧e.val=.bool true)∧∀y∈S,∃e∈es.toList,e.key=ndv y
theorem zoH {x y:Nd}(h:ndv x=ndv y):x=y:=by
 simp only[ndv,Value.agg.injEq,Array.mk.injEq,List.cons.injEq,Value.int.injEq,true_and,and_true] at h;exact Nd.ext' h.1 h.2.1 h.2.2.1 h.2.2.2.1 h.2.2.2.2
theorem NM.keys {S:List Nd}{es:Array MapEntry}(hS:∀y∈S,y.wf)(h:∀e∈es.toList,∃y∈S,e.key=ndv y∧e.val=.bool true):∀e∈es.toList,∃l,keyOf Tryz.prog 70 e.key=some l:=by
 intro e he;obtain⟨y,hy,hk,_⟩:=h e he;rw[hk];exact zix y (hS y hy)
theorem NM.lt {w:World}{b:Nat}{S:List Nd}(h:NM w b S):b<w.heap.size:=by
 obtain⟨_,es,clock,hb,_⟩:=h;exact(Array.getElem?_eq_some_iff.1 hb).1
theorem NM.stay {w w':World}{b:Nat}{S:List Nd}(h:NM w b S)(hb:w'.heap[b]?=w.heap[b]?):NM w' b S:=by
 obtain⟨hS,es,clock,hh,r⟩:=h;exact⟨hS,es,clock,hb.trans hh,r⟩
theorem NM.made (w:World):NM (w.alloc (.map #[] 0)) w.heap.size [] :=
 ⟨by simp,#[],0,heap_alloc_new w _,by simp,by simp⟩
theorem Tryz.zeroB (w:World):(zeroValue 4).run Tryz.prog w=.ok (.bool false) w:=by kernel_rfl
theorem NM.look {w:World}{b:Nat}{S:List Nd}(h:NM w b S)(x:Nd)(hx:x.wf) :
  (Instr.lookup 244 (.map (some b)) (ndv x) false).run Tryz.prog w=.ok (.bool (decide (x∈S))) w:=by
 obtain⟨hS,es,clock,hb,h1,h2⟩:=h;obtain⟨kl,hkey⟩:=zix x hx;rcases Tryz.nodeLaw.find w hkey es.toList (NM.keys hS h1) with⟨f1,f2⟩|⟨j,e0,f1,f2,f3⟩
 ·have hn:x∉S:=fun hm=>by
   obtain⟨e,he,hk⟩:=h2 x hm;exact f2 e he hk
  rw[decide_eq_false hn];simp[Instr.lookup,run_underlying Tryz.underlying244,MapKept.run_getObj_map hb,Tryz.nodeLaw.check w _ hkey,f1,Tryz.zeroB,Result.andThen]
 ·have hm0:e0∈es.toList:=List.mem_of_getElem? f2;obtain⟨y,hy,hk,hv⟩:=h1 e0 hm0;have hm:x∈S:=by
   rw[f3] at hk;rw[zoH hk];exact hy
  rw[decide_eq_true hm];simp[Instr.lookup,run_underlying Tryz.underlying244,MapKept.run_getObj_map hb,Tryz.nodeLaw.check w _ hkey,f1,hv,Result.andThen]
theorem NM.store {w:World}{b:Nat}{S:List Nd}(h:NM w b S)(x:Nd)(hx:x.wf) :
  ∃w',(Instr.mapUpdate 244 (.map (some b)) (ndv x) (.bool true)).run Tryz.prog w=.ok () w'∧NM w' b (x :: S)∧w.grownBy w' (some b):=by
 obtain⟨hS,es,clock,hb,h1,h2⟩:=h;obtain⟨kl,hkey⟩:=zix x hx;have hS':∀y∈x :: S,y.wf:=fun y hy=>by
  rcases List.mem_cons.1 hy with rfl|hy
  ·exact hx
  ·exact hS y hy
 rcases Tryz.nodeLaw.find w hkey es.toList (NM.keys hS h1) with⟨f1,f2⟩|⟨j,e0,f1,f2,f3⟩
 ·refine⟨ChangeMaps.setBlock w b (.map (es.push ⟨ndv x,.bool true,clock⟩) (clock+1)),?_,⟨hS',_,_,ChangeMaps.heap_setBlock_same hb _,?_,?_⟩,⟨rfl,rfl,rfl,by simp[ChangeMaps.setBlock],fun i _ hi=>ChangeMaps.heap_setBlock_other hb _ (fun e=>hi (by rw[e]))⟩⟩
  ·simp[Instr.mapUpdate,run_underlying Tryz.underlying244,MapKept.run_getObj_map hb,Tryz.nodeLaw.check w false hkey,f1,MapKept.run_setObj_map _ hb,Result.andThen,ChangeMaps.setBlock]
  ·intro e he;simp only[Array.toList_push,List.mem_append,List.mem_singleton] at he;rcases he with he|rfl
   ·obtain⟨y,hy,r⟩:=h1 e he;exact⟨y,List.mem_cons_of_mem _ hy,r⟩
   ·exact⟨x,by simp,rfl,rfl⟩
  ·intro y hy;rcases List.mem_cons.1 hy with rfl|hy
   ·exact⟨_,by simp only[Array.toList_push,List.mem_append,List.mem_singleton];exact .inr rfl,rfl⟩
   ·obtain⟨e,he,hk⟩:=h2 y hy;exact⟨e,by simp only[Array.toList_push,List.mem_append];exact .inl he,hk⟩
 ·have hj:es[j]?=some e0:=by simpa using f2
  have hlist:(es.modify j (fun e'=>{ e' with key:=ndv x,val:=.bool true })).toList=es.toList.set j { e0 with key:=ndv x,val:=.bool true }:=by rw[Array.toList_modify,ChangeMaps.modify_eq_set _ _ _ _ f2]
  have hm0:e0∈es.toList:=List.mem_of_getElem? f2;obtain⟨y0,hy0,hk0,hv0⟩:=h1 e0 hm0;refine⟨ChangeMaps.setBlock w b (.map (es.modify j (fun e'=>{ e' with key:=ndv x,val:=.bool true })) clock),?_,⟨hS',_,_,ChangeMaps.heap_setBlock_same hb _,?_,?_⟩,⟨rfl,rfl,rfl,by simp[ChangeMaps.setBlock],fun i _ hi=>ChangeMaps.heap_setBlock_other hb _ (fun e=>hi (by rw[e]))⟩⟩
  ·simp[Instr.mapUpdate,run_underlying Tryz.underlying244,MapKept.run_getObj_map hb,Tryz.nodeLaw.check w false hkey,f1,hj,f3,Tryz.nodeLaw.stays w hkey,MapKept.run_setObj_map _ hb,Result.andThen,ChangeMaps.setBlock]
  ·intro e he;rw[hlist] at he;rcases List.mem_or_eq_of_mem_set he with he|rfl
   ·obtain⟨y,hy,r⟩:=h1 e he;exact⟨y,List.mem_cons_of_mem _ hy,r⟩
   ·exact⟨x,by simp,rfl,rfl⟩
  ·have hjl:j<es.toList.length:=(List.getElem?_eq_some_iff.1 f2).1;intro y hy;have hnew:({ e0 with key:=ndv x,val:=.bool true }:MapEntry)∈es.toList.set j { e0 with key:=ndv x,val:=.bool true }:=List.mem_set hjl _;rw[hlist];rcases List.mem_cons.1 hy with rfl|hy
   ·exact⟨_,hnew,rfl⟩
   ·obtain⟨e,he,hk⟩:=h2 y hy;by_cases hyx:y=x
    ·exact⟨_,hnew,by rw[hyx]⟩
    ·refine⟨e,?_,hk⟩;obtain⟨i,hi⟩:=List.mem_iff_getElem?.1 he;refine List.mem_iff_getElem?.2 ⟨i,?_⟩;rw[List.getElem?_set_ne (fun e1=>?_)]
     ·exact hi
     ·subst e1;rw[f2] at hi;cases hi;rw[f3] at hk;exact hyx (zoH hk).symm
theorem zdi (w:World){ops:Array Oper}{rest:List Oper}{o:Oper}{a:Act}{Q:Exit→Act→World→Prop}
  (hg:o.guard=none) (m x v:Operand) (hop:o.op=Op.mapUpdate 244 m x v) (b:Nat) (S:List Nd) (y:Nd)
  (hm:a.eval m=.map (some b)) (hx:a.eval x=ndv y) (hv:a.eval v=.bool true) (hown:NM w b S) (hy:y.wf)
  (hK:∀w',NM w' b (y :: S)→w.grownBy w' (some b)→wpList Tryz.prog ops Q rest (a.put o.dst undef) w') :
  wpList Tryz.prog ops Q (o :: rest) a w:=by
 refine wpList_plain hg fun K' hK'=>?_;obtain⟨w',hrun,r1,r2⟩:=hown.store y hy;unfold Oper.wp;simp[execOp,hop,hm,hx,hv,hrun,Result.andThen];exact hK' _ _ (hK w' r1 r2)
end Go.Proofs.YtfjajpnfjjdnpaaGreatDoor

namespace Go.Proofs.YtfjajpnfjjdnpaaGreatDoor
open Go.RowKit Nds
theorem zoI (n:Int)(w:World):(Instr.makeMap 244 (some (.int .i64 n))).run Tryz.prog w=.ok (.map (some w.heap.size)) (w.alloc (.map #[] 0)):=by
 simp[Instr.makeMap,run_underlying Tryz.underlying244,asInt,Result.andThen];rfl
theorem zjA (A:Option Addr)(c:Nat)(l:List Nd)(w:World)(h:Ns w A c l) :
  Calls Tryz.prog 170 #[.slice A l.length c] w fun e w'=>e=.returned (.bool (zho l))∧Below w.heap.size w w':=by
 have hcap:=h.cap;obtain⟨R,hR⟩:∃R,R=zho l:=⟨_,rfl⟩;rw[←hR];have HR:=Hh hR;have HN:=Hh h;clear hR h;obtain⟨n,hn⟩:∃n,n=l.length:=⟨_,rfl⟩;rw[←hn] at hcap ⊢;have HL:=Hh hn;clear hn;have hmm:=zoI n;go_enter Tryz.func170,Tryz.ntmps170;go_wp2;obtain⟨g,hg⟩:∃g,g=w.heap.size:=⟨_,rfl⟩;have HG:=Hh hg;rw[←hg];clear hmm;go_loopw [11,5] (fun i z wr=>∃(k:Nat) (v:Value),k≤n∧i=.int .i64 k∧z=v∧(∀j,j<k→(at_ l j).each (· == 0)=false∧at_ l j∉l.take j)∧NM wr g (l.take k).reverse∧Below w.heap.size w wr) (fun i _ _=>n-(intOf i).toNat)
 case atStart=>exact⟨0,_,by omega,rfl,rfl,fun j hj=>by omega,by rw[hg];exact NM.made w,(Below.refl _ _).alloc (Nat.le_refl _) _⟩
 case round =>
  obtain⟨k,v,hk,rfl,rfl,hall,hnm,hbw⟩:=hrel;have HA:=Hh hall;have HM:=Hh hnm;clear hall hnm hg;by_cases hlt:k<n
  ·obtain⟨b,off,rfl,hb,hc⟩:=HN.out.at_ (by rw[←HL.out];omega)
   obtain⟨c1,c2,c3,c4,c5⟩:=(hc k (by rw[←HL.out];omega)).below (hbw.block b hb);clear hc;obtain⟨x,hx⟩:∃x,x=at_ l k:=⟨_,rfl⟩
   rw[←hx] at c1 c2 c3 c4 c5;have HX:=Hh hx;clear hx;have i1:(k:Int)<(n:Int):=by omega
   have hwx:x.wf:=by rw[HX.out];exact HN.out.wf (by rw[←HL.out];exact hlt)
   have hkl:k<l.length:=by rw[←HL.out];exact hlt
   have hq:=zlP x hwx;have hst:(wr.alloc (.cells #[.int .i64 x.lv,.int .i64 x.a,.int .i64 x.b,.int .i64 x.c,.int .i64 x.d] 70)).heap[g]?=wr.heap[g]?:=Below.heap_alloc _ _ _ HM.out.lt;have HM2:=Hh (HM.out.stay hst);have hlk:=HM2.out.look x hwx;have hbw2:=hbw.alloc hbw.size (.cells #[.int .i64 x.lv,.int .i64 x.a,.int .i64 x.b,.int .i64 x.c,.int .i64 x.d] 70);have hgs:wr.heap.size<(wr.alloc (.cells #[.int .i64 x.lv,.int .i64 x.a,.int .i64 x.b,.int .i64 x.c,.int .i64 x.d] 70)).heap.size:=by simp
   have hgl:=HM.out.lt;have HWX:=Hh hwx;have HKL:=Hh hkl;have hgw:w.heap.size≤g:=by rw[HG.out];exact Nat.le_refl _
   clear hst hwx hkl;cases hz:x.each (· == 0) with
   | true =>
    have HZ:=Hh hz;rw[hz] at hq;clear hz;go_wp2;go_ret;refine⟨nd_b ?_,hbw2⟩;rw[HR.out];cases hd:zho l
    ·rfl
    ·have:=(zeh.1 hd k HKL.out).1;rw[←HX.out,HZ.out] at this;cases this
   | false =>
    have HZ:=Hh hz;rw[hz] at hq;clear hz;by_cases hm:x∈(l.take k).reverse
    ·have HI:=Hh hm;rw[decide_eq_true hm] at hlk;clear hm;go_wp2;go_ret;refine⟨nd_b ?_,hbw2⟩;rw[HR.out];cases hd:zho l
     ·rfl
     ·exact absurd (by rw[←HX.out];exact List.mem_reverse.1 HI.out) (zeh.1 hd k HKL.out).2
    ·have HI:=Hh hm;rw[decide_eq_false hm] at hlk;clear hm;go_wp2_with (at_mapUpdate;refine zdi _ rfl _ _ _ rfl g _ x rfl rfl rfl HM2.out HWX.out ?_;intro w1 hm1 hg1);go_roundw
     case rel =>
      refine⟨k+1,_,by omega,by go_num,rfl,fun j hj=>?_,?_,hbw2.grown hg1 hbw2.size (fun i hi=>by cases hi;exact hgw)⟩
      ·rcases Nat.lt_or_ge j k with h1|h1
       ·exact HA.out j h1
       ·rw[show j=k by omega,←HX.out];exact⟨HZ.out,fun h=>HI.out (List.mem_reverse.2 h)⟩
      ·rw[zcE HKL.out,List.reverse_append,←HX.out];exact hm1
     case measure=>simp[intOf];omega
  ·go_wp2;go_ret;refine⟨nd_b ?_,hbw⟩;rw[HR.out];exact(zeh.2 fun i hi=>HA.out i (by rw[←HL.out] at hi;omega)).symm
theorem zcW (A:Option Addr)(c n:Nat)(l:List Nd)(w:World)(h:Ns w A c l)(hn:l.length=n) :
  Calls Tryz.prog 170 #[.slice A n c] w fun e w'=>e=.returned (.bool (zho l))∧Below w.heap.size w w':=by
 subst hn;exact zjA A c l w h
theorem zoJ (w:World)(r:Option Nat):w.grownBy w r:=⟨rfl,rfl,rfl,Nat.le_refl _,fun _ _ _=>rfl⟩
theorem zaW {a b c:World}{r:Option Nat}(h:a.grownBy b r)(k:b.grownBy c r):a.grownBy c r :=
 ⟨k.os.trans h.os,k.tape.trans h.tape,k.output.trans h.output,Nat.le_trans h.size k.size,fun i hi hr=>(k.block i (Nat.lt_of_lt_of_le hi h.size) hr).trans (h.block i hi hr)⟩
theorem Ns.gb {w w':World}{A:Option Addr}{c:Nat}{l:List Nd}{b:Nat}(h:Ns w A c l)(hA:∀a,A=some a→a.block≠b)(hg:w.grownBy w' (some b)):Ns w' A c l :=
 ⟨h.1,h.2.1,h.2.2.1,fun hn=>by
  obtain⟨g,off,e,hlt,hc⟩:=h.2.2.2 hn;have hne:g≠b:=hA _ e;exact⟨g,off,e,Nat.lt_of_lt_of_le hlt hg.size,fun i hi=>(hc i hi).below (hg.block g hlt (fun e=>hne (by cases e;rfl)))⟩⟩
def AllE (l:List Nd)(S:List Nd):Prop:=∀y∈S,zat l y=true
def RetE (l:List Nd)(r:Bool)(b:Nat)(w:World)(e:Ending)(w':World):Prop:=e=.returned (.bool r)∧∃S,NM w' b S∧AllE l S∧w.grownBy w' (some b)
theorem zbM (A:Option Addr)(c n b:Nat)(l:List Nd)(hl:zac l=true)(hn:l.length=n)(hn0:n≤c∧c≤9223372036854775807)(hA:∀a,A=some a→a.block≠b):∀(m:Nat) (x:Nd) (S:List Nd) (w:World),
  x.lv≤m→x.wf→fitB l x=true→Ns w A c l→NM w b S→AllE l S →
  Calls Tryz.prog 215 #[.slice A n c,ndv x,.map (some b)] w (RetE l (zat l x) b w):=by
 intro m
 induction m with
 | zero =>
  intro x S w hm hx hf;have:=zap hf;omega
 | succ m ih =>
  intro x S w hm hx hf hN hM hS;have hv:=zap hf;obtain⟨R,hR⟩:∃R,R=zat l x:=⟨_,rfl⟩;rw[←hR];have HR:=Hh hR;have HN:=Hh hN;have HM:=Hh hM;have HS:=Hh hS;have HL:=Hh hn;have HF:=Hh hf;have HWX:=Hh hx;have hq:=zlP x hx;have hst:(w.alloc (.cells #[.int .i64 x.lv,.int .i64 x.a,.int .i64 x.b,.int .i64 x.c,.int .i64 x.d] 70)).heap[b]?=w.heap[b]?:=Below.heap_alloc _ _ _ hM.lt;have HM2:=Hh (hM.stay hst);have hlk:=HM2.out.look x hx;have HG2:=Hh (World.grownBy_alloc w (.cells #[.int .i64 x.lv,.int .i64 x.a,.int .i64 x.b,.int .i64 x.c,.int .i64 x.d] 70) (some b));clear hR hN hM hS hn hf hx hst;cases hz:x.each (· == 0) with
  | true =>
   have HZ:=Hh hz;rw[hz] at hq;clear hz;go_enter Tryz.func215,Tryz.ntmps215;go_wp2_with fail;go_ret;exact⟨nd_b (HR.out.trans (zlL HZ.out)).symm,S,HM2.out,HS.out,HG2.out⟩
  | false =>
   have HZ:=Hh hz;rw[hz] at hq;clear hz;by_cases hk:x∈S
   ·have HI:=Hh hk;rw[decide_eq_true hk] at hlk;clear hk;go_enter Tryz.func215,Tryz.ntmps215;go_wp2_with fail;go_ret;exact⟨nd_b (HR.out.trans (HS.out x HI.out)).symm,S,HM2.out,HS.out,HG2.out⟩
   ·rw[decide_eq_false hk] at hlk;clear hk;by_cases h1:x.lv=1
    ·have t1:(x.lv==1)=true:=by rw[beq_iff_eq];exact h1
     have HO:=Hh h1;clear h1;go_enter Tryz.func215,Tryz.ntmps215;go_wp2_with fail;go_ret;exact⟨nd_b (HR.out.trans ((ziu HO.out).trans HZ.out)).symm,S,HM2.out,HS.out,HG2.out⟩
    ·have t1:(x.lv==1)=false:=beq_eq_false_iff_ne.2 h1;go_enter Tryz.func215,Tryz.ntmps215;go_wp2_with fail;clear hlk hq;obtain⟨g,hg⟩:∃g,g=w.heap.size:=⟨_,rfl⟩;have hgb:g≠b:=by have:=HM.out.lt;omega
     have HBX:=Hh (show NdAt (w.alloc (.cells #[.int .i64 x.lv,.int .i64 x.a,.int .i64 x.b,.int .i64 x.c,.int .i64 x.d] 70)) g 0 x by rw[hg];exact NdAt.new w x _);have hgs:g<(w.alloc (.cells #[.int .i64 x.lv,.int .i64 x.a,.int .i64 x.b,.int .i64 x.c,.int .i64 x.d] 70)).heap.size:=by rw[hg];simp
     rw[←hg];generalize hW:w.alloc _=W at *;clear hW hg;go_loopw [23,8] (fun i z wr=>∃(k:Nat) (v:Value) (S':List Nd),k≤4∧i=.int .i64 k∧z=v∧(∀j,j<k→(x.kid j==0||empB l (x.kid j).toNat)=true)∧NM wr b S'∧AllE l S'∧W.grownBy wr (some b)) (fun i _ _=>4-(intOf i).toNat)
     case atStart=>exact⟨0,_,S,by omega,rfl,rfl,fun j hj=>by omega,HM2.out,HS.out,zoJ _ _⟩
     case round =>
      obtain⟨k,v,S',hk,rfl,rfl,hall,hnm,hae,hgr⟩:=hrel;have HA:=Hh hall;have HNM:=Hh hnm;have HAE:=Hh hae;clear hall hnm hae;by_cases hlt:k<4
      ·have hi:=zen x k hlt;have hfk:=zaj HF.out hlt;obtain⟨y,hy⟩:∃y,y=x.kid k:=⟨_,rfl⟩;rw[←hy] at hi hfk;have HY:=Hh hy;clear hy;rcases zaA h1 hfk with rfl|⟨p,rfl,hp,hpl⟩
       ·clear hfk;go_wp2_with fail;go_roundw
        case rel =>
         refine⟨k+1,_,S',by omega,by go_num,rfl,fun j hj=>?_,HNM.out,HAE.out,hgr⟩;rcases Nat.lt_or_ge j k with h2|h2
         ·exact HA.out j h2
         ·rw[show j=k by omega,←HY.out];rfl
        case measure=>simp[intOf];omega
       ·have hpn:p<n:=by rw[←HL.out];exact hp
        obtain⟨bb,off,rfl,hb,hc⟩:=HN.out.at_ (by omega)
        have hne:bb≠b:=hA _ rfl;have hbW:bb<W.heap.size:=Nat.lt_of_lt_of_le hb HG2.out.size;have hNW:=HN.out.gb hA HG2.out;have hNr:=Hh (hNW.gb hA hgr);have hcr:wr.heap[bb]?=w.heap[bb]?:=(hgr.block bb hbW (fun e=>hne (by cases e;rfl))).trans (HG2.out.block bb hb (fun e=>hne (by cases e;rfl)));obtain⟨c1,c2,c3,c4,c5⟩:=(hc p hp).below hcr;have hfz:=Hh (zad hl hp);have hwz:=Hh (HN.out.wf hp);have hem:=Hh (zlK hl hp);have hlz:(at_ l p).lv≤(m:Int):=by omega
        clear hc hcr hNW hfk hp;obtain⟨z,hz⟩:∃z,z=at_ l p:=⟨_,rfl⟩
        rw[←hz] at c1 c2 c3 c4 c5 hfz hwz hem hlz;have HZ:=Hh hz;have t2:(((p:Int)+1)!=0)=true:=by rw[bne_iff_ne];omega
        have i1:(p:Int)<(n:Int):=by omega
        clear hz hpl;cases hr:zat l z with
        | true =>
         have HRR:=Hh hr;clear hr;go_wp2_with (go_at_call 215;refine(ih z S' _ hlz hwz.out hfz.out hNr.out HNM.out HAE.out).mono ?_;rintro e w1 ⟨rfl,S2,hm2,hs2,hg2⟩;have HM3:=Hh hm2;have HS3:=Hh hs2;have HG3:=Hh hg2;clear hm2 hs2 hg2;rw[HRR.out]);go_roundw
         case rel =>
          refine⟨k+1,_,S2,by omega,by go_num,rfl,fun j hj=>?_,HM3.out,HS3.out,zaW hgr HG3.out⟩;rcases Nat.lt_or_ge j k with h2|h2
          ·exact HA.out j h2
          ·rw[show j=k by omega,←HY.out,show((p:Int)+1).toNat=p+1 by omega,hem.out,HRR.out];simp
         case measure=>simp[intOf];omega
        | false =>
         have HRR:=Hh hr;clear hr;go_wp2_with (go_at_call 215;refine(ih z S' _ hlz hwz.out hfz.out hNr.out HNM.out HAE.out).mono ?_;rintro e w1 ⟨rfl,S2,hm2,hs2,hg2⟩;have HM3:=Hh hm2;have HS3:=Hh hs2;have HG3:=Hh hg2;clear hm2 hs2 hg2;rw[HRR.out]);go_ret;refine⟨nd_b ?_,S2,HM3.out,HS3.out,zaW HG2.out (zaW hgr HG3.out)⟩;rw[HR.out,zjv (by omega)];refine(zoA hlt ?_).symm;rw[←HY.out,show((p:Int)+1).toNat=p+1 by omega,hem.out,HRR.out,Bool.or_false];exact beq_eq_false_iff_ne.2 (by omega)
      ·have hbr:wr.heap[g]?=W.heap[g]?:=hgr.block g hgs (fun e=>hgb (by cases e;rfl));obtain⟨f1,f2,f3,f4,f5⟩:=HBX.out.below hbr;have hr:zat l x=true:=by
        rw[zjv (by omega),zaV];exact fun j hj=>HA.out j (by omega)
       have HRR:=Hh hr;clear hr hbr;go_wp2_with (at_mapUpdate;refine zdi _ rfl _ _ _ rfl b S' x rfl rfl rfl HNM.out HWX.out ?_;intro w1 hm1 hg1);go_ret;refine⟨nd_b (HR.out.trans HRR.out).symm,x :: S',hm1,?_,zaW HG2.out (zaW hgr hg1)⟩;intro y hy;rcases List.mem_cons.1 hy with rfl|hy
       ·exact HRR.out
       ·exact HAE.out y hy
theorem zbb {a w w':World}{b:Nat}(h:Below a.heap.size a w)(hb:a.heap.size≤b)(hg:w.grownBy w' (some b)):Below a.heap.size a w' :=
 h.grown hg h.size (fun k hk=>by cases hk;exact hb)
def rim (x:Nd)(i:Nat):Nd:=match i with|0=>{ x with d:=0 }|1=>{ x with c:=0 }|2=>{ x with b:=0 }|_=>{ x with a:=0 }
theorem zjB (x:Nd)(i:Nat):(rim x i).lv=x.lv:=by
 unfold rim;split <;> rfl
theorem ztP (x:Nd)(i j:Nat):(rim x i).kid j=0∨(rim x i).kid j=x.kid j:=by
 unfold rim;split <;> (unfold Nd.kid;split <;> simp)
theorem zfu {x:Nd}(h:x.wf)(i:Nat):(rim x i).wf:=by
 obtain⟨h0,h1,h2,h3,h4⟩:=h;have hz:=zjz;unfold rim;split
 ·exact⟨h0,h1,h2,h3,hz⟩
 ·exact⟨h0,h1,h2,hz,h4⟩
 ·exact⟨h0,h1,hz,h3,h4⟩
 ·exact⟨h0,hz,h2,h3,h4⟩
theorem zlQ (l:List Nd)(v:Int):kidB l v 0=true:=by
 unfold kidB;split
 ·exact decide_eq_true (by omega)
 ·exact decide_eq_true (.inl rfl)
theorem zcX {l:List Nd}{x:Nd}(h:fitB l x=true)(i:Nat):fitB l (rim x i)=true:=by
 have hv:=zap h;unfold fitB;rw[zjB,Bool.and_eq_true,zaV];refine⟨decide_eq_true hv,fun j hj=>?_⟩;rcases ztP x i j with e|e
 ·rw[e];exact zlQ _ _
 ·rw[e];exact zaj h hj
def zaT (l:List Nd)(n:Nat):Bool :=
 decide (0<n∧2≤(at_ l (n-1)).lv)&&(List.range 4).all fun i=>decide ((at_ l (n-1)).kid i=0)||zat l (rim (at_ l (((at_ l (n-1)).kid i).toNat-1)) i)
theorem zeX {p:Nat→Bool}{k:Nat}(hk:k<4)(h:p k=false):false=(List.range 4).all p:=by
 cases hq:(List.range 4).all p
 ·rfl
 ·have:=List.all_eq_true.1 hq k (List.mem_range.2 hk);rw[h] at this;cases this
theorem zlR {p:Nat→Bool}(h:∀j,j<4→p j=true):true=(List.range 4).all p :=
 (List.all_eq_true.2 fun j hj=>h j (List.mem_range.1 hj)).symm
theorem zeY (A:Option Addr)(c n:Nat)(l:List Nd)(k:Nat)(w:World)(h:Ns w A c l)(hn:l.length=n)(hl:zac l=true)(hk:k≤n) :
  Calls Tryz.prog 171 #[.slice A n c,.int .i64 (k:Int)] w fun e w'=>e=.returned (.bool (zaT l k))∧Below w.heap.size w w':=by
 have hcap:=h.cap;rw[hn] at hcap;have HN:=Hh h;have HL:=Hh hn;clear h hn;rcases(show k=0∨∃m,k=m+1 by cases k with|zero=>exact .inl rfl|succ m=>exact .inr ⟨m,rfl⟩) with rfl|⟨m,rfl⟩
 ·rw[show zaT l 0=false by unfold zaT;rw[decide_eq_false (by omega)];rfl];go_enter Tryz.func171,Tryz.ntmps171;go_wp2_with fail;go_ret;exact⟨rfl,Below.refl _ _⟩
 ·have hml:m<l.length:=by rw[HL.out];omega
  obtain⟨R,hR⟩:∃R,R=zaT l (m+1):=⟨_,rfl⟩;rw[←hR];have HR:=Hh hR;clear hR;obtain⟨b,off,rfl,hb,hc⟩:=HN.out.at_ (by omega)
  obtain⟨c1,c2,c3,c4,c5⟩:=hc m hml;have hfx:=Hh (zai.1 hl m hml);have HC:=Hh hc;have HLL:=Hh hl;have HML:=Hh hml;have i1:(m:Int)<(n:Int):=by omega
  clear hc hl hml;obtain⟨x,hx⟩:∃x,x=at_ l m:=⟨_,rfl⟩
  rw[←hx] at c1 c2 c3 c4 c5 hfx;have HX:=Hh hx;have hxv:=zap hfx.out;have hmm := @run_makeMap Tryz.prog;have t1:(((m+1:Nat):Int)==0)=false:=beq_eq_false_iff_ne.2 (by omega);have e1:(((m+1:Nat):Int))=(m:Int)+1:=by omega
  rw[e1] at t1 ⊢;clear hx e1;by_cases h2:x.lv<2
  ·have hr:R=false:=by
    rw[HR.out];unfold zaT;rw[decide_eq_false (by rw[show m+1-1=m by omega,←HX.out];omega)];rfl
   subst hr;go_enter Tryz.func171,Tryz.ntmps171;go_wp2_with fail;go_ret;exact⟨rfl,Below.refl _ _⟩
  ·have HNM:=Hh (NM.made w);have hbs:∀a,(some (⟨b,off,none⟩:Addr))=some a→a.block≠w.heap.size:=fun a e=>by cases e;exact Nat.ne_of_lt hb
   have HBS:=Hh hbs;clear hbs;have hr:R=(List.range 4).all fun i=>decide (x.kid i=0)||zat l (rim (at_ l ((x.kid i).toNat-1)) i):=by
    rw[HR.out];unfold zaT;rw[show m+1-1=m by omega,←HX.out,decide_eq_true (by omega)];rfl
   have HR2:=Hh hr;clear hr HR;go_enter Tryz.func171,Tryz.ntmps171;go_wp2_with fail;clear hmm;obtain⟨g,hg⟩:∃g,g=w.heap.size:=⟨_,rfl⟩;have HG:=Hh hg;have HW0:=Hh (show Below w.heap.size w (w.alloc (.map #[] 0)) from(Below.refl _ _).alloc (Nat.le_refl _) _);rw[←hg] at HNM HBS ⊢;have HGW:=Hh (show w.grownBy (w.alloc (.map #[] 0)) (some g) from World.grownBy_alloc w (.map #[] 0) (some g));generalize hW:w.alloc _=W at *;clear hW hg;go_loopw [27,6,7,8] (fun i z1 z2 z3 wr=>∃(k:Nat) (q:Int) (v1 v2 v3:Value) (S':List Nd),q=k∧k≤4∧i=.int .i64 q∧z1=v1∧z2=v2∧z3=v3∧(∀j,j<k→(decide (x.kid j=0)||zat l (rim (at_ l ((x.kid j).toNat-1)) j))=true)∧NM wr g S'∧AllE l S'∧W.grownBy wr (some g)) (fun i _ _ _ _=>4-(intOf i).toNat)
   case atStart=>exact⟨0,0,_,_,_,[],rfl,by omega,rfl,rfl,rfl,rfl,fun j hj=>by omega,HNM.out,(by intro y hy;cases hy),zoJ _ _⟩
   case round =>
    obtain⟨k,q,v1,v2,v3,S',hqk,hk,rfl,rfl,rfl,rfl,hall,hnm,hae,hgr⟩:=hrel;have HA:=Hh hall;have HM:=Hh hnm;have HAE:=Hh hae;have HQK:=Hh hqk;clear hall hnm hae hqk;by_cases hlt:k<4
    ·have hi:=zen x k hlt;rw[←HQK.out] at hi;have hfk:=zit (zaj hfx.out hlt);have q0:0≤q:=by rw[HQK.out];omega
     have q1:q<4:=by rw[HQK.out];omega
     obtain⟨y,hy⟩:∃y,y=x.kid k:=⟨_,rfl⟩;rw[←hy] at hi hfk;have HY:=Hh hy;clear hy;rcases zaA (by omega) hfk with rfl|⟨p,rfl,hp,hpl⟩
     ·clear hfk;go_wp2_with fail;go_roundw
      case rel =>
       refine⟨k+1,q+1,_,_,_,S',by rw[HQK.out];omega,by omega,by go_num,rfl,rfl,rfl,fun j hj=>?_,HM.out,HAE.out,hgr⟩;rcases Nat.lt_or_ge j k with h3|h3
       ·exact HA.out j h3
       ·rw[show j=k by omega,←HY.out];rfl
      case measure=>simp[intOf];omega
     ·have hpn:p<n:=by rw[←HL.out];exact hp
      have hne:b≠g:=HBS.out _ rfl;have hbW:b<W.heap.size:=Nat.lt_of_lt_of_le hb HGW.out.size;have hNr:=Hh ((HN.out.gb HBS.out HGW.out).gb HBS.out hgr);have hcr:wr.heap[b]?=w.heap[b]?:=(hgr.block b hbW (fun e=>hne (by cases e;rfl))).trans (HGW.out.block b hb (fun e=>hne (by cases e;rfl)));obtain⟨d1,d2,d3,d4,d5⟩:=(HC.out p hp).below hcr;have hfz:=Hh (zad HLL.out hp);have hwz:=Hh (HN.out.wf hp);clear hcr hfk hp;obtain⟨z,hz⟩:∃z,z=at_ l p:=⟨_,rfl⟩
      rw[←hz] at d1 d2 d3 d4 d5 hfz hwz hpl;have HZ:=Hh hz;have t2:(((p:Int)+1)==0)=false:=beq_eq_false_iff_ne.2 (by omega);have i2:(p:Int)<(n:Int):=by omega
      have hlz:z.lv≤(1329:Nat):=by omega
      have hgl:=HM.out.lt;have HPL:=Hh hpl;clear hz hpl;rcases(show k=0∨k=1∨k=2∨k=3 by omega) with rfl|rfl|rfl|rfl
      ·obtain rfl:q=0:=by have:=HQK.out;omega
       have e5:rim (at_ l ((x.kid 0).toNat-1)) 0=rim z 0:=by rw[←HY.out,show((p:Int)+1).toNat-1=p by omega,HZ.out]
       have E5:=Hh e5;have hW2:wr.grownBy (wr.alloc (.cells #[.int .i64 (rim z 0).lv,.int .i64 (rim z 0).a,.int .i64 (rim z 0).b,.int .i64 (rim z 0).c,.int .i64 (rim z 0).d] 70)) (some g):=World.grownBy_alloc _ _ _;have HW2:=Hh hW2;have HM2:=Hh (HM.out.stay (Below.heap_alloc wr (.cells #[.int .i64 (rim z 0).lv,.int .i64 (rim z 0).a,.int .i64 (rim z 0).b,.int .i64 (rim z 0).c,.int .i64 (rim z 0).d] 70) g HM.out.lt));have HN2:=Hh (hNr.out.gb HBS.out hW2);have HBW:=Hh (show w.heap.size≤g by rw[HG.out];exact Nat.le_refl _);clear hW2 e5;cases hr:zat l (rim z 0) with
       | true =>
        have HRR:=Hh hr;clear hr;go_wp2_with (go_at_call 215;refine(zbM _ _ n g l HLL.out HL.out hcap HBS.out 1329 (rim z 0) S' _ hlz (zfu hwz.out _) (zcX hfz.out _) HN2.out HM2.out HAE.out).mono ?_;rintro e w1 ⟨rfl,S2,hm2,hs2,hg2⟩;have HM3:=Hh hm2;have HS3:=Hh hs2;have HG3:=Hh hg2;clear hm2 hs2 hg2;rw[HRR.out]);go_roundw
        case rel =>
         refine⟨1,1,_,_,_,S2,rfl,by omega,rfl,rfl,rfl,rfl,fun j hj=>?_,HM3.out,HS3.out,zaW hgr (zaW HW2.out HG3.out)⟩;rcases Nat.lt_or_ge j 0 with h3|h3
         ·exact HA.out j h3
         ·rw[show j=0 by omega,E5.out,HRR.out,Bool.or_true]
        case measure=>simp[intOf]
       | false =>
        have HRR:=Hh hr;clear hr;go_wp2_with (go_at_call 215;refine(zbM _ _ n g l HLL.out HL.out hcap HBS.out 1329 (rim z 0) S' _ hlz (zfu hwz.out _) (zcX hfz.out _) HN2.out HM2.out HAE.out).mono ?_;rintro e w1 ⟨rfl,S2,hm2,hs2,hg2⟩;have HM3:=Hh hm2;have HS3:=Hh hs2;have HG3:=Hh hg2;clear hm2 hs2 hg2;rw[HRR.out]);go_ret;refine⟨nd_b ?_,zbb (zbb (zbb HW0.out HBW.out hgr) HBW.out HW2.out) HBW.out HG3.out⟩;rw[HR2.out];refine zeX (k:=0) (by omega) ?_;rw[E5.out,HRR.out,Bool.or_false];exact decide_eq_false (by rw[←HY.out];omega)
      ·obtain rfl:q=1:=by have:=HQK.out;omega
       have e5:rim (at_ l ((x.kid 1).toNat-1)) 1=rim z 1:=by rw[←HY.out,show((p:Int)+1).toNat-1=p by omega,HZ.out]
       have E5:=Hh e5;have hW2:wr.grownBy (wr.alloc (.cells #[.int .i64 (rim z 1).lv,.int .i64 (rim z 1).a,.int .i64 (rim z 1).b,.int .i64 (rim z 1).c,.int .i64 (rim z 1).d] 70)) (some g):=World.grownBy_alloc _ _ _;have HW2:=Hh hW2;have HM2:=Hh (HM.out.stay (Below.heap_alloc wr (.cells #[.int .i64 (rim z 1).lv,.int .i64 (rim z 1).a,.int .i64 (rim z 1).b,.int .i64 (rim z 1).c,.int .i64 (rim z 1).d] 70) g HM.out.lt));have HN2:=Hh (hNr.out.gb HBS.out hW2);have HBW:=Hh (show w.heap.size≤g by rw[HG.out];exact Nat.le_refl _);clear hW2 e5;cases hr:zat l (rim z 1) with
       | true =>
        have HRR:=Hh hr;clear hr;go_wp2_with (go_at_call 215;refine(zbM _ _ n g l HLL.out HL.out hcap HBS.out 1329 (rim z 1) S' _ hlz (zfu hwz.out _) (zcX hfz.out _) HN2.out HM2.out HAE.out).mono ?_;rintro e w1 ⟨rfl,S2,hm2,hs2,hg2⟩;have HM3:=Hh hm2;have HS3:=Hh hs2;have HG3:=Hh hg2;clear hm2 hs2 hg2;rw[HRR.out]);go_roundw
        case rel =>
         refine⟨2,2,_,_,_,S2,rfl,by omega,rfl,rfl,rfl,rfl,fun j hj=>?_,HM3.out,HS3.out,zaW hgr (zaW HW2.out HG3.out)⟩;rcases Nat.lt_or_ge j 1 with h3|h3
         ·exact HA.out j h3
         ·rw[show j=1 by omega,E5.out,HRR.out,Bool.or_true]
        case measure=>simp[intOf]
       | false =>
        have HRR:=Hh hr;clear hr;go_wp2_with (go_at_call 215;refine(zbM _ _ n g l HLL.out HL.out hcap HBS.out 1329 (rim z 1) S' _ hlz (zfu hwz.out _) (zcX hfz.out _) HN2.out HM2.out HAE.out).mono ?_;rintro e w1 ⟨rfl,S2,hm2,hs2,hg2⟩;have HM3:=Hh hm2;have HS3:=Hh hs2;have HG3:=Hh hg2;clear hm2 hs2 hg2;rw[HRR.out]);go_ret;refine⟨nd_b ?_,zbb (zbb (zbb HW0.out HBW.out hgr) HBW.out HW2.out) HBW.out HG3.out⟩;rw[HR2.out];refine zeX (k:=1) (by omega) ?_;rw[E5.out,HRR.out,Bool.or_false];exact decide_eq_false (by rw[←HY.out];omega)
      ·obtain rfl:q=2:=by have:=HQK.out;omega
       have e5:rim (at_ l ((x.kid 2).toNat-1)) 2=rim z 2:=by rw[←HY.out,show((p:Int)+1).toNat-1=p by omega,HZ.out]
       have E5:=Hh e5;have hW2:wr.grownBy (wr.alloc (.cells #[.int .i64 (rim z 2).lv,.int .i64 (rim z 2).a,.int .i64 (rim z 2).b,.int .i64 (rim z 2).c,.int .i64 (rim z 2).d] 70)) (some g):=World.grownBy_alloc _ _ _;have HW2:=Hh hW2;have HM2:=Hh (HM.out.stay (Below.heap_alloc wr (.cells #[.int .i64 (rim z 2).lv,.int .i64 (rim z 2).a,.int .i64 (rim z 2).b,.int .i64 (rim z 2).c,.int .i64 (rim z 2).d] 70) g HM.out.lt));have HN2:=Hh (hNr.out.gb HBS.out hW2);have HBW:=Hh (show w.heap.size≤g by rw[HG.out];exact Nat.le_refl _);clear hW2 e5;cases hr:zat l (rim z 2) with
       | true =>
        have HRR:=Hh hr;clear hr;go_wp2_with (go_at_call 215;refine(zbM _ _ n g l HLL.out HL.out hcap HBS.out 1329 (rim z 2) S' _ hlz (zfu hwz.out _) (zcX hfz.out _) HN2.out HM2.out HAE.out).mono ?_;rintro e w1 ⟨rfl,S2,hm2,hs2,hg2⟩;have HM3:=Hh hm2;have HS3:=Hh hs2;have HG3:=Hh hg2;clear hm2 hs2 hg2;rw[HRR.out]);go_roundw
        case rel =>
         refine⟨3,3,_,_,_,S2,rfl,by omega,rfl,rfl,rfl,rfl,fun j hj=>?_,HM3.out,HS3.out,zaW hgr (zaW HW2.out HG3.out)⟩;rcases Nat.lt_or_ge j 2 with h3|h3
         ·exact HA.out j h3
         ·rw[show j=2 by omega,E5.out,HRR.out,Bool.or_true]
        case measure=>simp[intOf]
       | false =>
        have HRR:=Hh hr;clear hr;go_wp2_with (go_at_call 215;refine(zbM _ _ n g l HLL.out HL.out hcap HBS.out 1329 (rim z 2) S' _ hlz (zfu hwz.out _) (zcX hfz.out _) HN2.out HM2.out HAE.out).mono ?_;rintro e w1 ⟨rfl,S2,hm2,hs2,hg2⟩;have HM3:=Hh hm2;have HS3:=Hh hs2;have HG3:=Hh hg2;clear hm2 hs2 hg2;rw[HRR.out]);go_ret;refine⟨nd_b ?_,zbb (zbb (zbb HW0.out HBW.out hgr) HBW.out HW2.out) HBW.out HG3.out⟩;rw[HR2.out];refine zeX (k:=2) (by omega) ?_;rw[E5.out,HRR.out,Bool.or_false];exact decide_eq_false (by rw[←HY.out];omega)
      ·obtain rfl:q=3:=by have:=HQK.out;omega
       have e5:rim (at_ l ((x.kid 3).toNat-1)) 3=rim z 3:=by rw[←HY.out,show((p:Int)+1).toNat-1=p by omega,HZ.out]
       have E5:=Hh e5;have hW2:wr.grownBy (wr.alloc (.cells #[.int .i64 (rim z 3).lv,.int .i64 (rim z 3).a,.int .i64 (rim z 3).b,.int .i64 (rim z 3).c,.int .i64 (rim z 3).d] 70)) (some g):=World.grownBy_alloc _ _ _;have HW2:=Hh hW2;have HM2:=Hh (HM.out.stay (Below.heap_alloc wr (.cells #[.int .i64 (rim z 3).lv,.int .i64 (rim z 3).a,.int .i64 (rim z 3).b,.int .i64 (rim z 3).c,.int .i64 (rim z 3).d] 70) g HM.out.lt));have HN2:=Hh (hNr.out.gb HBS.out hW2);have HBW:=Hh (show w.heap.size≤g by rw[HG.out];exact Nat.le_refl _);clear hW2 e5;cases hr:zat l (rim z 3) with
       | true =>
        have HRR:=Hh hr;clear hr;go_wp2_with (go_at_call 215;refine(zbM _ _ n g l HLL.out HL.out hcap HBS.out 1329 (rim z 3) S' _ hlz (zfu hwz.out _) (zcX hfz.out _) HN2.out HM2.out HAE.out).mono ?_;rintro e w1 ⟨rfl,S2,hm2,hs2,hg2⟩;have HM3:=Hh hm2;have HS3:=Hh hs2;have HG3:=Hh hg2;clear hm2 hs2 hg2;rw[HRR.out]);go_roundw
        case rel =>
         refine⟨4,4,_,_,_,S2,rfl,by omega,rfl,rfl,rfl,rfl,fun j hj=>?_,HM3.out,HS3.out,zaW hgr (zaW HW2.out HG3.out)⟩;rcases Nat.lt_or_ge j 3 with h3|h3
         ·exact HA.out j h3
         ·rw[show j=3 by omega,E5.out,HRR.out,Bool.or_true]
        case measure=>simp[intOf]
       | false =>
        have HRR:=Hh hr;clear hr;go_wp2_with (go_at_call 215;refine(zbM _ _ n g l HLL.out HL.out hcap HBS.out 1329 (rim z 3) S' _ hlz (zfu hwz.out _) (zcX hfz.out _) HN2.out HM2.out HAE.out).mono ?_;rintro e w1 ⟨rfl,S2,hm2,hs2,hg2⟩;have HM3:=Hh hm2;have HS3:=Hh hs2;have HG3:=Hh hg2;clear hm2 hs2 hg2;rw[HRR.out]);go_ret;refine⟨nd_b ?_,zbb (zbb (zbb HW0.out HBW.out hgr) HBW.out HW2.out) HBW.out HG3.out⟩;rw[HR2.out];refine zeX (k:=3) (by omega) ?_;rw[E5.out,HRR.out,Bool.or_false];exact decide_eq_false (by rw[←HY.out];omega)
    ·have q4:4≤q:=by have:=HQK.out;omega
     go_wp2_with fail;go_ret;refine⟨nd_b ?_,zbb HW0.out (by rw[HG.out];exact Nat.le_refl _) hgr⟩;rw[HR2.out];exact zlR fun j hj=>HA.out j (by omega)
def resW:Option Nat→Int
 | none=>0
 | some v=>v
theorem nd_i {a b:Int}(h:a=b):Ending.returned (.int .i64 a)=.returned (.int .i64 b):=by rw[h]
theorem zjC {l:List Nd}{m p e e':Nat}(h:(if 1<(at_ l p).lv then zcd (wk l m) (at_ l p) e 4 else some e)=some e'):wk l (m+1) (p+1) e=if p=e' then some (p+1) else none:=by
 unfold wk;rw[show p+1-1=p by omega,h,Option.bind_some];by_cases hp:p=e'
 ·rw[if_pos (by omega),if_pos hp]
 ·rw[if_neg (by omega),if_neg hp]
theorem ztQ {l:List Nd}{m p e:Nat}(hv:1<(at_ l p).lv){k:Nat}(hk:k≤4)(h:zcd (wk l m) (at_ l p) e k=none):wk l (m+1) (p+1) e=none:=by
 have h4:∀d,zcd (wk l m) (at_ l p) e (k+d)=none:=by
  intro d
  induction d with
  | zero=>exact h
  | succ d ih =>
   rw[show k+(d+1)=k+d+1 by omega];unfold zcd;rw[ih];rfl
 unfold wk;rw[show p+1-1=p by omega,if_pos hv,show(4:Nat)=k+(4-k) by omega,h4];rfl
theorem zrI (A:Option Addr)(c n:Nat)(l:List Nd)(w:World)(h:Ns w A c l)(hl:zac l=true)(hn:l.length=n)(hn9:n≤1000000):∀(m p e:Nat),
  p<n→(at_ l p).lv≤m→e≤n →
  Calls Tryz.prog 172 #[.slice A n c,.int .i64 ((p:Int)+1),.int .i64 (e:Int)] w fun ed w'=>ed=.returned (.int .i64 (resW (wk l m (p+1) e)))∧w=w':=by
 have hcap:=h.cap;rw[hn] at hcap;have HN:=Hh h;have HL:=Hh hn;have HLL:=Hh hl;clear h hn hl;intro m
 induction m with
 | zero =>
  intro p e hp hm;have:=zap (zai.1 HLL.out p (by rw[HL.out];exact hp));omega
 | succ m ih =>
  intro p e hp hm he;have hpl:p<l.length:=by rw[HL.out];exact hp
  obtain⟨R,hR⟩:∃R,R=wk l (m+1) (p+1) e:=⟨_,rfl⟩;rw[←hR];have HR:=Hh hR;clear hR;obtain⟨b,off,rfl,hb,hc⟩:=HN.out.at_ (by omega)
  obtain⟨c1,c2,c3,c4,c5⟩:=hc p hpl;have hfx:=Hh (zai.1 HLL.out p hpl);have HPL:=Hh hpl;have i1:(p:Int)<(n:Int):=by omega
  clear hc hpl;obtain⟨x,hx⟩:∃x,x=at_ l p:=⟨_,rfl⟩
  rw[←hx] at c1 c2 c3 c4 c5 hfx hm;have HX:=Hh hx;have hxv:=zap hfx.out;clear hx;by_cases hlv:1<x.lv
  ·have HLV:=Hh (show 1<(at_ l p).lv by rw[←HX.out];exact hlv);go_enter Tryz.func172,Tryz.ntmps172;go_wp2_with fail;go_loop [22,8,2] (fun i z en=>∃(k e':Nat) (v:Value),k≤4∧e'≤n∧i=.int .i64 k∧z=v∧en=.int .i64 e'∧zcd (wk l m) x e k=some e') (fun i _ _=>4-(intOf i).toNat)
   case atStart=>exact⟨0,e,_,by omega,he,rfl,rfl,rfl,rfl⟩
   case round =>
    obtain⟨k,e',v,hk,he',rfl,rfl,rfl,hfo⟩:=hrel;have HF:=Hh hfo;clear hfo;by_cases hlt:k<4
    ·have hi:=zen x k hlt;have hfk:=zaj hfx.out hlt;obtain⟨y,hy⟩:∃y,y=x.kid k:=⟨_,rfl⟩;rw[←hy] at hi hfk;have HY:=Hh hy;clear hy;have hup:=zaA (by omega) hfk;clear hfk;by_cases hgt:(e':Int)<y
     ·rcases hup with rfl|⟨q,rfl,hq,hql⟩
      ·omega
      ·have hqp:q<p:=Nat.lt_of_lt_of_le hq (List.length_take_le _ _);have hq2:(at_ l q).lv≤(m:Int):=by
        rw[zcD hqp] at hql;omega
       have hstep:zcd (wk l m) x e (k+1)=wk l m (q+1) e':=by
        unfold zcd;rw[HF.out];unfold zrA;rw[Option.bind_some,←HY.out,if_pos hgt,show((q:Int)+1).toNat=q+1 by omega]
       have HS:=Hh hstep;clear hql hstep;cases hw:wk l m (q+1) e' with
       | none =>
        have HW:=Hh hw;clear hw;go_wp2_with (go_at_call 172;refine(ih q e' (by omega) hq2 he').mono ?_;rintro ed w1 ⟨rfl,rfl⟩;rw[HW.out];simp only[resW]);go_ret;refine⟨nd_i ?_,rfl⟩;rw[HR.out,ztQ HLV.out (k:=k+1) (by omega) (by rw[←HX.out,HS.out,HW.out])];rfl
       | some v =>
        have hve:=zvf hw;subst hve;have HW:=Hh hw;clear hw;have t0:(((q+1:Nat):Int)==0)=false:=beq_eq_false_iff_ne.2 (by omega);go_wp2_with (go_at_call 172;refine(ih q e' (by omega) hq2 he').mono ?_;rintro ed w1 ⟨rfl,rfl⟩;rw[HW.out];simp only[resW]);go_round
        case rel=>exact⟨k+1,q+1,_,by omega,by omega,by go_num,rfl,rfl,by rw[HS.out,HW.out]⟩
        case measure=>simp[intOf];omega
     ·have hstep:zcd (wk l m) x e (k+1)=some e':=by
       unfold zcd;rw[HF.out];unfold zrA;rw[Option.bind_some,←HY.out,if_neg hgt]
      have HS:=Hh hstep;clear hstep hup;go_wp2_with fail;go_round
      case rel=>exact⟨k+1,e',_,by omega,he',by go_num,rfl,rfl,HS.out⟩
      case measure=>simp[intOf];omega
    ·have hk4:k=4:=by omega
     have HE:=Hh (zjC (m:=m) (p:=p) (e:=e) (e':=e') (by rw[if_pos HLV.out,←HX.out,←hk4];exact HF.out));clear hk4;by_cases hpe:p=e'
     ·have t1:(((p:Int)+1)!=(e':Int)+1)=false:=by rw[hpe];simp
      have t2:((p:Int)==(e':Int))=true:=by rw[hpe];simp
      have HP:=Hh hpe;clear hpe;go_wp2_with fail;go_ret;refine⟨nd_i ?_,rfl⟩;rw[HR.out,HE.out,if_pos HP.out];simp[resW]
     ·have t1:(((p:Int)+1)!=(e':Int)+1)=true:=by rw[bne_iff_ne];omega
      have t2:((p:Int)==(e':Int))=false:=beq_eq_false_iff_ne.2 (by omega);have HP:=Hh hpe;clear hpe;go_wp2_with fail;go_ret;refine⟨nd_i ?_,rfl⟩;rw[HR.out,HE.out,if_neg HP.out];rfl
  ·have HE:=Hh (zjC (m:=m) (p:=p) (e:=e) (e':=e) (by rw[if_neg (by rw[←HX.out];exact hlv)]));by_cases hpe:p=e
   ·have t1:(((p:Int)+1)!=(e:Int)+1)=false:=by rw[hpe];simp
    have t2:((p:Int)==(e:Int))=true:=by rw[hpe];simp
    have HP:=Hh hpe;clear hpe;go_enter Tryz.func172,Tryz.ntmps172;go_wp2_with fail;go_ret;refine⟨nd_i ?_,rfl⟩;rw[HR.out,HE.out,if_pos HP.out];simp[resW]
   ·have t1:(((p:Int)+1)!=(e:Int)+1)=true:=by rw[bne_iff_ne];omega
    have t2:((p:Int)==(e:Int))=false:=beq_eq_false_iff_ne.2 (by omega);have HP:=Hh hpe;clear hpe;go_enter Tryz.func172,Tryz.ntmps172;go_wp2_with fail;go_ret;refine⟨nd_i ?_,rfl⟩;rw[HR.out,HE.out,if_neg HP.out];rfl
theorem zoK (A:Option Addr)(c n:Nat)(l:List Nd)(w:World)(h:Ns w A c l)(hl:zac l=true)(hn:l.length=n)(hn9:n≤1000000)(h0:0<n) :
  Calls Tryz.prog 172 #[.slice A n c,.int .i64 (n:Int),.int .i64 0] w fun ed w'=>ed=.returned (.int .i64 (resW (wk l 1329 n 0)))∧w=w':=by
 obtain⟨p,rfl⟩:∃p,n=p+1:=⟨n-1,by omega⟩;have hv:=(zap (zai.1 hl p (by omega))).2;have:=zrI A c (p+1) l w h hl hn hn9 1329 p 0 (by omega) hv (by omega);rw[show((p+1:Nat):Int)=(p:Int)+1 by omega];exact this
def zeZ (l:List Nd):Bool:=decide (l=[])||(zac l&&(zho l&&(!zaT l l.length&&decide (wk l 1329 l.length 0=some l.length))))
theorem znm (A:Option Addr)(c n:Nat)(l:List Nd)(w:World)(h:Ns w A c l)(hn:l.length=n)(hn9:n≤1000000) :
  Calls Tryz.prog 128 #[.agg #[.slice A n c]] w fun e w'=>e=.returned (.bool (zeZ l))∧Below w.heap.size w w':=by
 have hcap:=h.cap;rw[hn] at hcap;obtain⟨R,hR⟩:∃R,R=zeZ l:=⟨_,rfl⟩;rw[←hR];have HR:=Hh hR;have HL:=Hh hn;have HB:=Hh ((Below.refl w.heap.size w).alloc (Nat.le_refl _) (.cells #[.slice A n c] 28));have HN:=Hh (h.below HB.out);clear hR hn h;by_cases h0:n=0
 ·have hr:R=true:=by
   rw[HR.out];unfold zeZ;rw[decide_eq_true (List.eq_nil_of_length_eq_zero (HL.out.trans h0))];rfl
  subst hr;have t1:((n:Int)==0)=true:=by rw[h0];rfl
  have H0:=Hh h0;clear h0;go_enter Tryz.func128,Tryz.ntmps128;go_wp2_with fail;go_ret;exact⟨rfl,HB.out⟩
 ·have t1:((n:Int)==0)=false:=beq_eq_false_iff_ne.2 (by omega);have hr:R=(zac l&&(zho l&&(!zaT l n&&decide (wk l 1329 n 0=some n)))):=by
   rw[HR.out];unfold zeZ;rw[decide_eq_false (fun e=>h0 (by rw[←HL.out,e];rfl)),Bool.false_or,HL.out]
  have HR2:=Hh hr;clear hr HR;cases q1:zac l with
  | false =>
   have Q1:=Hh q1;have hr:R=false:=by rw[HR2.out,q1];rfl
   subst hr;clear q1;go_enter Tryz.func128,Tryz.ntmps128;go_wp2_with (go_at_call 169;refine(zep _ _ _ l _ HN.out HL.out).mono ?_;rintro e w1 ⟨rfl,b1⟩;have B1:=Hh b1;clear b1;rw[Q1.out]);go_ret;exact⟨rfl,HB.out.trans (B1.out.mono HB.out.size)⟩
  | true =>
   have Q1:=Hh q1;rw[q1,Bool.true_and] at HR2;clear q1;cases q2:zho l with
   | false =>
    have Q2:=Hh q2;have hr:R=false:=by rw[HR2.out,q2];rfl
    subst hr;clear q2;go_enter Tryz.func128,Tryz.ntmps128;go_wp2_with (first
     | (go_at_call 169;refine(zep _ _ _ l _ HN.out HL.out).mono ?_;rintro e w1 ⟨rfl,b1⟩;have B1:=Hh b1;have N1:=Hh (HN.out.below b1);clear b1;rw[Q1.out])
     | (go_at_call 170;refine(zcW _ _ _ l _ N1.out HL.out).mono ?_;rintro e w2 ⟨rfl,b2⟩;have B2:=Hh b2;clear b2;rw[Q2.out]))
    go_ret;exact⟨rfl,(HB.out.trans (B1.out.mono HB.out.size)).trans (B2.out.mono (HB.out.trans (B1.out.mono HB.out.size)).size)⟩
   | true =>
    have Q2:=Hh q2;rw[q2,Bool.true_and] at HR2;clear q2;cases q3:zaT l n with
    | true =>
     have Q3:=Hh q3;have hr:R=false:=by rw[HR2.out,q3];rfl
     subst hr;clear q3;go_enter Tryz.func128,Tryz.ntmps128;go_wp2_with (first
      | (go_at_call 169;refine(zep _ _ _ l _ HN.out HL.out).mono ?_;rintro e w1 ⟨rfl,b1⟩;have B1:=Hh b1;have N1:=Hh (HN.out.below b1);clear b1;rw[Q1.out])
      | (go_at_call 170;refine(zcW _ _ _ l _ N1.out HL.out).mono ?_;rintro e w2 ⟨rfl,b2⟩;have B2:=Hh b2;have N2:=Hh (N1.out.below b2);clear b2;rw[Q2.out])
      | (go_at_call 171;refine(zeY _ _ _ l _ _ N2.out HL.out Q1.out (Nat.le_refl _)).mono ?_;rintro e w3 ⟨rfl,b3⟩;have B3:=Hh b3;clear b3;rw[Q3.out]))
     go_ret;have z1:=HB.out.trans (B1.out.mono HB.out.size);have z2:=z1.trans (B2.out.mono z1.size);exact⟨rfl,z2.trans (B3.out.mono z2.size)⟩
    | false =>
     have Q3:=Hh q3;rw[q3] at HR2;clear q3;have hres:resW (wk l 1329 n 0)=(n:Int)∧R=true∨(resW (wk l 1329 n 0)==(n:Int))=false∧R=false:=by
      rw[HR2.out];cases hw:wk l 1329 n 0 with
      | none=>exact .inr ⟨beq_eq_false_iff_ne.2 (by show(0:Int)≠(n:Int);omega),rfl⟩
      | some v =>
       have:=zvf hw;subst this;exact .inl ⟨rfl,by simp⟩
     have HW:=Hh hres;obtain⟨r,hrr⟩:∃r,r=resW (wk l 1329 n 0):=⟨_,rfl⟩;have HRR:=Hh hrr;rw[←hrr] at hres;clear hrr;have h0':0<n:=by omega
     rcases hres with⟨hres,hR1⟩|⟨hres,hR1⟩
     ·subst hR1;have RR:=Hh hres;clear hres;go_enter Tryz.func128,Tryz.ntmps128;go_wp2_with (first
       | (go_at_call 169;refine(zep _ _ _ l _ HN.out HL.out).mono ?_;rintro e w1 ⟨rfl,b1⟩;have B1:=Hh b1;have N1:=Hh (HN.out.below b1);clear b1;rw[Q1.out])
       | (go_at_call 170;refine(zcW _ _ _ l _ N1.out HL.out).mono ?_;rintro e w2 ⟨rfl,b2⟩;have B2:=Hh b2;have N2:=Hh (N1.out.below b2);clear b2;rw[Q2.out])
       | (go_at_call 171;refine(zeY _ _ _ l _ _ N2.out HL.out Q1.out (Nat.le_refl _)).mono ?_;rintro e w3 ⟨rfl,b3⟩;have B3:=Hh b3;have N3:=Hh (N2.out.below b3);clear b3;rw[Q3.out])
       | (go_at_call 172;refine(zoK _ _ _ l _ N3.out Q1.out HL.out hn9 h0').mono ?_;rintro e w4 ⟨rfl,rfl⟩;rw[←HRR.out,RR.out]))
      go_ret;have z1:=HB.out.trans (B1.out.mono HB.out.size);have z2:=z1.trans (B2.out.mono z1.size);exact⟨nd_b (by simp),z2.trans (B3.out.mono z2.size)⟩
     ·subst hR1;go_enter Tryz.func128,Tryz.ntmps128;go_wp2_with (first
       | (go_at_call 169;refine(zep _ _ _ l _ HN.out HL.out).mono ?_;rintro e w1 ⟨rfl,b1⟩;have B1:=Hh b1;have N1:=Hh (HN.out.below b1);clear b1;rw[Q1.out])
       | (go_at_call 170;refine(zcW _ _ _ l _ N1.out HL.out).mono ?_;rintro e w2 ⟨rfl,b2⟩;have B2:=Hh b2;have N2:=Hh (N1.out.below b2);clear b2;rw[Q2.out])
       | (go_at_call 171;refine(zeY _ _ _ l _ _ N2.out HL.out Q1.out (Nat.le_refl _)).mono ?_;rintro e w3 ⟨rfl,b3⟩;have B3:=Hh b3;have N3:=Hh (N2.out.below b3);clear b3;rw[Q3.out])
       | (go_at_call 172;refine(zoK _ _ _ l _ N3.out Q1.out HL.out hn9 h0').mono ?_;rintro e w4 ⟨rfl,rfl⟩;rw[←HRR.out]))
      go_ret;have z1:=HB.out.trans (B1.out.mono HB.out.size);have z2:=z1.trans (B2.out.mono z1.size);exact⟨nd_b (by simp),z2.trans (B3.out.mono z2.size)⟩
theorem zcr {B:Nat}{a w:World}(h:Below B a w)(n:Nat):Below B a (w.drewN n):=⟨h.os,h.tape,h.output,h.size,h.block⟩
theorem zrJ {l m:List Nd}(hl:l.length=m.length)(h:∀j,j<l.length→at_ l j=at_ m j):l=m:=by
 refine List.ext_getElem hl fun j h1 h2=>?_;have:=h j h1;unfold at_ at this
 rwa [List.getElem?_eq_getElem h1,List.getElem?_eq_getElem h2] at this
def zcs (l:List Nd):Int:=if l=[] then 0 else (at_ l (l.length-1)).lv
theorem znn (A:Option Addr)(c n:Nat)(l:List Nd)(w:World)(h:Ns w A c l)(hn:l.length=n) :
  Calls Tryz.prog 196 #[.agg #[.slice A n c]] w fun e w'=>e=.returned (.int .i64 (zcs l))∧Below w.heap.size w w':=by
 have hcap:=h.cap;rw[hn] at hcap;have HB:=Hh ((Below.refl w.heap.size w).alloc (Nat.le_refl _) (.cells #[.slice A n c] 28));by_cases h0:n=0
 ·have hr:zcs l=0:=by
   unfold zcs;rw[if_pos (List.eq_nil_of_length_eq_zero (hn.trans h0))]
  rw[hr];have t1:((n:Int)==0)=true:=by rw[h0];rfl
  clear h0 hn hr h;go_enter Tryz.func196,Tryz.ntmps196;go_wp2_with fail;go_ret;exact⟨rfl,HB.out⟩
 ·obtain⟨b,off,rfl,hb,hc⟩:=h.at_ (by omega)
  obtain⟨p,rfl⟩:∃p,n=p+1:=⟨n-1,by omega⟩;have c1:=(hc p (by omega)).1;have hr:zcs l=(at_ l p).lv:=by
   unfold zcs;rw[if_neg (fun e=>by rw[e] at hn;cases hn),hn];rfl
  rw[hr];generalize (at_ l p).lv=u at *;have t1:(((p+1:Nat):Int)==0)=false:=beq_eq_false_iff_ne.2 (by omega);have t2:((p:Int)+1==0)=false:=beq_eq_false_iff_ne.2 (by omega);have i1:(p:Int)<(p:Int)+1:=by omega
  clear h0 hn hr h hc;go_enter Tryz.func196,Tryz.ntmps196;go_wp2_with fail;go_ret;exact⟨rfl,HB.out⟩
theorem zno (A B:Option Addr)(c d n p:Nat)(l m:List Nd)(w:World)(h:Ns w A c l)(k:Ns w B d m)(hn:l.length=n)(hp:m.length=p) :
  Calls Tryz.prog 67 #[.slice A n c,.slice B p d] w fun e w'=>e=.returned (.bool (decide (l=m)))∧∃q,w'=w.drewN q:=by
 have hcl:=h.cap;have hcm:=k.cap;rw[hn] at hcl;rw[hp] at hcm;obtain⟨R,hR⟩:∃R,R=decide (l=m):=⟨_,rfl⟩;rw[←hR];have HR:=Hh hR;clear hR;by_cases hl:n=p
 ·subst hl;have HNL:=Hh h;have HNM:=Hh k;have HL:=Hh hn;have HP:=Hh hp;clear h k hn hp;go_enter Tryz.func67,Tryz.ntmps67;go_wp2_with fail;go_loopw [5] (fun i  wr=>∃(k:Nat) (nd:Nat),wr=w.drewN nd∧k≤n∧i=.int .i64 k∧∀j,j<k→at_ l j=at_ m j) (fun i _=>n-(intOf i).toNat)
  case atStart=>exact⟨0,0,rfl,by omega,rfl,fun j hj=>by omega⟩
  case round =>
   obtain⟨k,nd,rfl,hk,rfl,hall⟩:=hrel;have HA:=Hh hall;clear hall;by_cases hlt:k<n
   ·obtain⟨b,off,rfl,hb,hc⟩:=HNL.out.at_ (by rw[HL.out];omega)
    obtain⟨b2,off2,rfl,hb2,hc2⟩:=HNM.out.at_ (by rw[HP.out];omega)
    obtain⟨c1,c2,c3,c4,c5⟩:=hc k (by rw[HL.out];exact hlt);obtain⟨d1,d2,d3,d4,d5⟩:=hc2 k (by rw[HP.out];exact hlt);have hwx:=HNL.out.wf (i:=k) (by rw[HL.out];exact hlt);have hwy:=HNM.out.wf (i:=k) (by rw[HP.out];exact hlt);clear hc hc2;obtain⟨x,hx⟩:∃x,x=at_ l k:=⟨_,rfl⟩
    obtain⟨y,hy⟩:∃y,y=at_ m k:=⟨_,rfl⟩
    rw[←hx] at c1 c2 c3 c4 c5 hwx;rw[←hy] at d1 d2 d3 d4 d5 hwy;have HX:=Hh hx;have HY:=Hh hy;clear hx hy;have hq:=zrH x y hwx hwy;have i1:(k:Int)<(n:Int):=by omega
    have i2:(0:Int)≤(k:Int):=by omega
    clear hwx hwy;by_cases hxy:x=y
    ·have HXY:=Hh hxy;rw[decide_eq_true hxy] at hq;clear hxy;go_wp2_with fail;go_quiet (fail);go_wp2_with fail;go_roundw
     case rel =>
      refine⟨k+1,_,rfl,by omega,by go_num,fun j hj=>?_⟩;rcases Nat.lt_or_ge j k with h1|h1
      ·exact HA.out j h1
      ·rw[show j=k by omega,←HX.out,←HY.out];exact HXY.out
     case measure=>simp[intOf];omega
    ·have HXY:=Hh hxy;rw[decide_eq_false hxy] at hq;clear hxy;go_wp2_with fail;go_quiet (fail);go_wp2_with fail;go_ret;refine⟨nd_b ?_,by first|exact⟨_,rfl⟩|exact⟨_,World.drewN_drewN _ _ _⟩⟩;rw[HR.out];exact(decide_eq_false fun e=>HXY.out (by rw[HX.out,HY.out,e])).symm
   ·go_wp2_with fail;go_ret;refine⟨nd_b ?_,⟨_,rfl⟩⟩;rw[HR.out];exact(decide_eq_true (zrJ (HL.out.trans HP.out.symm) fun j hj=>HA.out j (by rw[HL.out] at hj;omega))).symm
 ·have hr:R=false:=by
   rw[HR.out];exact decide_eq_false fun e=>hl (by rw[←hn,←hp,e])
  subst hr;have t1:((n:Int)!=(p:Int))=true:=by rw[bne_iff_ne];omega
  clear hl h k hn hp;go_enter Tryz.func67,Tryz.ntmps67;go_wp2_with fail;go_ret;exact⟨rfl,0,rfl⟩
theorem zkB {w w':World}(h:∃q,w'=w.drewN q):Below w.heap.size w w':=by
 obtain⟨q,rfl⟩:=h;exact zcr (Below.refl _ _) q
theorem NdAt.kid {w:World}{b o:Nat}{x:Nd}(h:NdAt w b o x){q:Nat}(hq:q<4):w.cell? ⟨b,o+1+q,none⟩=some (.int .i64 (x.kid q)):=by
 obtain⟨h1,h2,h3,h4,h5⟩:=h
 match q,hq with
 | 0,_=>exact h2
 | 1,_=>exact h3
 | 2,_=>exact h4
 | 3,_=>exact h5
theorem zrK (l:List Nd)(v k:Int)(h:k<0):kidB l v k=false:=by
 unfold kidB;split
 ·exact decide_eq_false (by omega)
 ·exact decide_eq_false (by omega)
theorem zeq {l:List Nd}{k:Nat}(hk:k<l.length)(h:fitB (l.take k) (at_ l k)=false):false=zac l:=by
 cases hq:zac l
 ·rfl
 ·have:=zai.1 hq k hk;rw[h] at this;cases this
theorem znp (A:Option Addr)(c:Nat)(l:List Nd)(w:World)(h:Ns w A c l) :
  Calls Tryz.prog 42 #[.slice A l.length c] w fun e w'=>e=.returned (.bool (zac l))∧∃m,w'=w.drewN m:=by
 have hcap:=h.cap;obtain⟨R,hR⟩:∃R,R=zac l:=⟨_,rfl⟩;rw[←hR];have HR:=Hh hR;have HN:=Hh h;clear hR h;obtain⟨n,hn⟩:∃n,n=l.length:=⟨_,rfl⟩;rw[←hn] at hcap ⊢;have HL:=Hh hn;clear hn;go_enter Tryz.func42,Tryz.ntmps42;go_wp2;go_loopw [3,4,5] (fun i z1 z2 wr=>∃(k:Nat) (v1 v2:Value) (nd:Nat),wr=w.drewN nd∧k≤n∧i=.int .i64 k∧z1=v1∧z2=v2∧(∀j,j<k→fitB (l.take j) (at_ l j)=true)) (fun i _ _ _=>n-(intOf i).toNat)
 case atStart=>exact⟨0,_,_,0,rfl,by omega,rfl,rfl,rfl,fun j hj=>by omega⟩
 case round =>
  obtain⟨k,v1,v2,nd,rfl,hk,rfl,rfl,rfl,hall⟩:=hrel;have HA:=Hh hall;clear hall;by_cases hlt:k<n
  ·obtain⟨b,off,rfl,hb,hc⟩:=HN.out.at_ (by rw[←HL.out];omega)
   have hck:=hc k (by rw[←HL.out];omega);obtain⟨c1,-,-,-,-⟩:=id hck;have HC:=Hh hc;have HCK:=Hh hck;clear hc hck;obtain⟨x,hx⟩:∃x,x=at_ l k:=⟨_,rfl⟩
   rw[←hx] at c1;have HX:=Hh hx;clear hx;have i1:(k:Int)<(n:Int):=by omega
   by_cases hv:1≤x.lv∧x.lv≤1329
   ·obtain⟨hv1,hv2⟩:=hv;obtain⟨wo,hwo⟩:∃wo:World,wo=w.drewN nd:=⟨_,rfl⟩;have c1':wo.cell? ⟨b,off+k*5,none⟩=some (.int .i64 x.lv):=by rw[hwo];exact c1
    have HW:=Hh hwo;rw[←hwo];clear hwo c1;go_wp2;go_loopw [4,5] (fun i z wr=>∃(q:Nat) (v:Value) (m:Nat),wr=wo.drewN m∧q≤4∧i=.int .i64 q∧z=v∧∀j,j<q→kidB (l.take k) x.lv (x.kid j)=true) (fun i _ _=>4-(intOf i).toNat)
    case atStart=>exact⟨0,_,0,rfl,by omega,rfl,rfl,fun j hj=>by omega⟩
    case round =>
     obtain⟨q,v,m,rfl,hq,rfl,rfl,hkq⟩:=hrel;have HQ:=Hh hkq;clear hkq;by_cases hq4:q<4
     ·have hy:=HCK.out.kid hq4;have hwk:=(HN.out.wf (i:=k) (by rw[←HL.out];exact hlt)).kid q;rw[←HX.out] at hy hwk;have hy':wo.cell? ⟨b,off+k*5+1+q,none⟩=some (.int .i64 (x.kid q)):=by rw[HW.out];exact hy
      obtain⟨y,hye⟩:∃y,y=x.kid q:=⟨_,rfl⟩;rw[←hye] at hy' hwk;obtain⟨hw1,hw2⟩:=hwk;have HY:=Hh hye;clear hy hye;have i2:(q:Int)<4:=by omega
      by_cases hn:y<0
      ·have HB:=Hh (show kidB (l.take k) x.lv (x.kid q)=false by rw[←HY.out];exact zrK _ _ _ hn);have t1:decide (y<0)=true:=decide_eq_true hn;go_wp2;go_ret;refine⟨nd_b ?_,by rw[HW.out];first|exact⟨_,rfl⟩|exact⟨_,World.drewN_drewN _ _ _⟩|(simp only[World.drewN_drewN];exact⟨_,rfl⟩)⟩;rw[HR.out];exact zeq (k:=k) (by rw[←HL.out];exact hlt) (by rw[←HX.out];exact zeo hq4 HB.out)
      ·have t1:decide (y<0)=false:=decide_eq_false hn;by_cases hl1:x.lv=1
       ·have t2:(x.lv==1)=true:=by rw[beq_iff_eq];exact hl1
        have t3:decide (1<x.lv)=false:=decide_eq_false (by omega);by_cases hy255:y≤255
        ·have HB:=Hh (show kidB (l.take k) x.lv (x.kid q)=true by rw[←HY.out,hl1,zei];exact decide_eq_true (by omega));have t4:decide (255<y)=false:=decide_eq_false (by omega);clear hl1;go_wp2;go_quiet (fail);go_wp2;go_roundw
         case rel =>
          refine⟨q+1,_,_,rfl,by omega,by go_num,rfl,fun j hj=>?_⟩;rcases Nat.lt_or_ge j q with h1|h1
          ·exact HQ.out j h1
          ·rw[show j=q by omega];exact HB.out
         case measure=>simp[intOf];omega
        ·have HB:=Hh (show kidB (l.take k) x.lv (x.kid q)=false by rw[←HY.out,hl1,zei];exact decide_eq_false (by omega));have t4:decide (255<y)=true:=decide_eq_true (by omega);clear hl1;go_wp2;go_ret;refine⟨nd_b ?_,by rw[HW.out];first|exact⟨_,rfl⟩|exact⟨_,World.drewN_drewN _ _ _⟩|(simp only[World.drewN_drewN];exact⟨_,rfl⟩)⟩;rw[HR.out];exact zeq (k:=k) (by rw[←HL.out];exact hlt) (by rw[←HX.out];exact zeo hq4 HB.out)
       ·have t2:(x.lv==1)=false:=beq_eq_false_iff_ne.2 hl1;have t3:decide (1<x.lv)=true:=decide_eq_true (by omega);rcases(show y=0∨(0<y∧(k:Int)<y)∨(0<y∧y≤(k:Int)) by omega) with h0|⟨h0,h1⟩|⟨h0,h1⟩
        ·have HB:=Hh (show kidB (l.take k) x.lv (x.kid q)=true by rw[←HY.out,h0];exact zej _ _ hl1);have t4:decide (0<y)=false:=decide_eq_false (by omega);clear hl1 h0;go_wp2;go_quiet (fail);go_wp2;go_roundw
         case rel =>
          refine⟨q+1,_,_,rfl,by omega,by go_num,rfl,fun j hj=>?_⟩;rcases Nat.lt_or_ge j q with h1|h1
          ·exact HQ.out j h1
          ·rw[show j=q by omega];exact HB.out
         case measure=>simp[intOf];omega
        ·have HB:=Hh (show kidB (l.take k) x.lv (x.kid q)=false by rw[←HY.out];exact zik _ _ _ hl1 (.inr (by rw[List.length_take,←HL.out];omega)));have t4:decide (0<y)=true:=decide_eq_true h0;have t5:decide ((k:Int)<y)=true:=decide_eq_true h1;clear hl1;go_wp2;go_quiet (fail);go_wp2;go_ret;refine⟨nd_b ?_,by rw[HW.out];first|exact⟨_,rfl⟩|exact⟨_,World.drewN_drewN _ _ _⟩|(simp only[World.drewN_drewN];exact⟨_,rfl⟩)⟩;rw[HR.out];exact zeq (k:=k) (by rw[←HL.out];exact hlt) (by rw[←HX.out];exact zeo hq4 HB.out)
        ·have t4:decide (0<y)=true:=decide_eq_true h0;have t5:decide ((k:Int)<y)=false:=decide_eq_false (by omega);obtain⟨p,rfl⟩:∃p:Nat,y=(p:Int)+1:=⟨(y-1).toNat,by omega⟩;have hpk:p<k:=by omega
         have cp:wo.cell? ⟨b,off+p*5,none⟩=some (.int .i64 (at_ l p).lv):=by rw[HW.out];exact(HC.out p (by rw[←HL.out];omega)).1
         have e1:IntKind.i64.wrap ((p:Int)+1-1)=(p:Int):=by rw[show(p:Int)+1-1=(p:Int) by omega];exact IntWalk.i64_in _ (by omega)
         have e2:IntKind.i64.wrap (x.lv-1)=x.lv-1:=IntWalk.i64_in _ (by omega);have i3:(p:Int)<(n:Int):=by omega
         have i4:(0:Int)≤(p:Int):=by omega
         by_cases hu:(at_ l p).lv=x.lv-1
         ·have HB:=Hh (show kidB (l.take k) x.lv (x.kid q)=true by rw[←HY.out,zgi _ _ _ hl1 (by rw[List.length_take,←HL.out];omega),zcD hpk];exact decide_eq_true hu);have t6:((at_ l p).lv != x.lv-1)=false:=by rw[hu];simp
          generalize (at_ l p).lv=u at *;clear hl1 hu;go_wp2;go_quiet (fail);go_wp2;go_roundw
          case rel =>
           refine⟨q+1,_,_,rfl,by omega,by go_num,rfl,fun j hj=>?_⟩;rcases Nat.lt_or_ge j q with h1|h1
           ·exact HQ.out j h1
           ·rw[show j=q by omega];exact HB.out
          case measure=>simp[intOf];omega
         ·have HB:=Hh (show kidB (l.take k) x.lv (x.kid q)=false by rw[←HY.out,zgi _ _ _ hl1 (by rw[List.length_take,←HL.out];omega),zcD hpk];exact decide_eq_false hu);have t6:((at_ l p).lv != x.lv-1)=true:=by rw[bne_iff_ne];exact hu
          generalize (at_ l p).lv=u at *;clear hl1 hu;go_wp2;go_quiet (fail);go_wp2;go_ret;refine⟨nd_b ?_,by rw[HW.out];first|exact⟨_,rfl⟩|exact⟨_,World.drewN_drewN _ _ _⟩|(simp only[World.drewN_drewN];exact⟨_,rfl⟩)⟩;rw[HR.out];exact zeq (k:=k) (by rw[←HL.out];exact hlt) (by rw[←HX.out];exact zeo hq4 HB.out)
     ·go_wp2;go_roundw
      case rel =>
       refine⟨k+1,_,_,_,by rw[HW.out,World.drewN_drewN],by omega,by go_num,rfl,rfl,fun j hj=>?_⟩;rcases Nat.lt_or_ge j k with h1|h1
       ·exact HA.out j h1
       ·rw[show j=k by omega,←HX.out];exact zlO ⟨hv1,hv2⟩ (fun j hj=>HQ.out j (by omega))
      case measure=>simp[intOf];omega
   ·have hr:R=false:=HR.out.trans (zeq (k:=k) (by rw[←HL.out];exact hlt) (by rw[←HX.out];exact zoE hv)).symm;subst hr;rcases(show x.lv<1∨(1≤x.lv∧1329<x.lv) by omega) with h|⟨h,h3⟩
    all_goals
     go_wp2;go_ret;exact⟨rfl,_,rfl⟩
  ·go_wp2;go_ret;refine⟨nd_b ?_,_,rfl⟩;rw[HR.out];exact(zai.2 fun i hi=>HA.out i (by rw[←HL.out] at hi;omega)).symm
theorem zoL (A:Option Addr)(c n:Nat)(l:List Nd)(w:World)(h:Ns w A c l)(hn:l.length=n) :
  Calls Tryz.prog 42 #[.slice A n c] w fun e w'=>e=.returned (.bool (zac l))∧∃m,w'=w.drewN m:=by
 subst hn;exact znp A c l w h
end Go.Proofs.YtfjajpnfjjdnpaaGreatDoor
