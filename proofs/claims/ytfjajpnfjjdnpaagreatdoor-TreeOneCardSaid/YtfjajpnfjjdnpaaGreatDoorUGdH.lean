import Derived.Test.YtfjajpnfjjdnpaaGreatDoorUGdT
import Derived.Test.YtfjajpnfjjdnpaaGreatDoorUPtQ
import Derived.Laws.IdiomStrings

set_option linter.unusedVariables false
set_option linter.unusedSimpArgs false
set_option maxRecDepth 100000
set_option maxHeartbeats 6400000
namespace Go.Proofs.YtfjajpnfjjdnpaaGreatDoor
open Go.RowKit Num Nds
structure Gr where
 x:Bw
 y:Bw
 a:Option Addr
 c:Nat
 L:List (List UInt8)
structure Gr.R (u:Gr)(W:World)(X Y:Int):Prop where
 x:u.x.R W X
 y:u.y.R W Y
 t:Ts W u.a u.c u.L
theorem Gr.R.next {u:Gr}{W W1:World}{X Y:Int}(h:u.R W X Y)(k:Below W.heap.size W W1):u.R W1 X Y:=⟨h.x.next k,h.y.next k,h.t.below k⟩
end Go.Proofs.YtfjajpnfjjdnpaaGreatDoor

namespace Go.Proofs.YtfjajpnfjjdnpaaGreatDoor
open Go.RowKit Nds
def vast (v:Cv):Bool:=decide (50<v.xs.length)||decide (50<v.ys.length)
def zbG (l:List Cv)(most:Int):Bool:=decide (most<(l.length:Int))||l.any vast
theorem zlN {l:List Cv}{most:Int}(h1:¬ most<(l.length:Int))(h:∀i,i<l.length→vast (cat l i)=false):zbG l most=false:=by
 unfold zbG;rw[decide_eq_false h1,Bool.false_or];rw[List.any_eq_false];intro v hv;obtain⟨i,hi,rfl⟩:=List.getElem_of_mem hv;have h2:=h i hi;unfold cat at h2;rw[List.getElem?_eq_getElem hi,Option.getD_some] at h2;simp[h2]
theorem zhz {l:List Cv}{most:Int}{i:Nat}(hi:i<l.length)(h:vast (cat l i)=true):zbG l most=true:=by
 unfold zbG;rw[Bool.or_eq_true];exact Or.inr (List.any_eq_true.2 ⟨cat l i,zci hi,h⟩)
theorem zlO {l:List Cv}{most:Int}(h1:most<(l.length:Int)):zbG l most=true:=by
 unfold zbG;rw[decide_eq_true h1,Bool.true_or]
theorem zfN (A:Option Addr)(c n:Nat)(most:Int)(l:List Cv)(w:World)(h:Cs w A c l)(hn:l.length=n) :
  Calls Tryz.prog 95 #[.slice A n c,.int .i64 most] w fun e w'=>e=.returned (.bool (zbG l most))∧∃q,w'=w.drewN q:=by
 have hcl:=h.cap;rw[hn] at hcl;obtain⟨R,hR⟩:∃R,R=zbG l most:=⟨_,rfl⟩;rw[←hR];have HR:=Hh hR;clear hR;by_cases hl:most<(n:Int)
 ·have t1:decide (most<(n:Int))=true:=decide_eq_true hl;have HL:=Hh (show most<(l.length:Int) by rw[hn];exact hl);clear h hl hn;go_enter Tryz.func95,Tryz.ntmps95;go_wp2_with fail;go_ret;refine⟨?_,0,rfl⟩;rw[HR.out,zlO HL.out];rfl
 ·have t1:decide (most<(n:Int))=false:=decide_eq_false hl;have HNL:=Hh h;have HL:=Hh hn;have HM:=Hh (show(l.length:Int)≤most by rw[hn];exact Int.not_lt.1 hl);clear h hl hn;go_enter Tryz.func95,Tryz.ntmps95;go_wp2_with fail;go_loopw [5] (fun i  wr=>∃(k:Nat) (nd:Nat),wr=w.drewN nd∧k≤n∧i=.int .i64 k∧∀j,j<k→vast (cat l j)=false) (fun i _=>n-(intOf i).toNat)
  case atStart=>exact⟨0,0,rfl,by omega,rfl,fun j hj=>by omega⟩
  case round =>
   obtain⟨k,nd,rfl,hk,rfl,hall⟩:=hrel;have HA:=Hh hall;clear hall;by_cases hlt:k<n
   ·obtain⟨b,off,rfl,hb,hc⟩:=HNL.out.at_ (by rw[HL.out];omega)
    obtain⟨c1,c2,c3,c4,c5⟩:=hc k (by rw[HL.out];exact hlt);have hu:=HNL.out.1 _ (zci (i:=k) (by rw[HL.out];exact hlt));have hu1:=hu.1.cap;have hu2:=hu.2.1.cap;clear hc hu;obtain⟨x,hx⟩:∃x,x=cat l k:=⟨_,rfl⟩;rw[←hx] at c1 c2 c3 c4 c5 hu1 hu2;have HX:=Hh hx;clear hx;have i1:(k:Int)<(n:Int):=by omega
    have i2:(0:Int)≤(k:Int):=by omega
    by_cases hx1:50<x.xs.length
    ·have t2:decide (50<(x.xs.length:Int))=true:=decide_eq_true (by omega);have HV:=Hh (show vast x=true by unfold vast;rw[decide_eq_true hx1,Bool.true_or]);have HLT:=Hh hlt;clear hx1;go_wp2_with fail;go_ret;refine⟨?_,_,rfl⟩;rw[HR.out,zhz (i:=k) (by rw[HL.out];exact HLT.out) (by rw[←HX.out];exact HV.out)];rfl
    ·have t2:decide (50<(x.xs.length:Int))=false:=decide_eq_false (by omega);by_cases hx2:50<x.ys.length
     ·have t3:decide (50<(x.ys.length:Int))=true:=decide_eq_true (by omega);have HV:=Hh (show vast x=true by unfold vast;rw[decide_eq_true hx2,Bool.or_true]);have HLT:=Hh hlt;clear hx1 hx2;go_wp2_with fail;go_ret;refine⟨?_,_,rfl⟩;rw[HR.out,zhz (i:=k) (by rw[HL.out];exact HLT.out) (by rw[←HX.out];exact HV.out)];rfl
     ·have t3:decide (50<(x.ys.length:Int))=false:=decide_eq_false (by omega);have HV:=Hh (show vast x=false by unfold vast;rw[decide_eq_false hx1,decide_eq_false hx2,Bool.or_false]);clear hx1 hx2;go_wp2_with fail;go_roundw
      case rel =>
       refine⟨k+1,_,rfl,by omega,by go_num,fun j hj=>?_⟩;rcases Nat.lt_or_ge j k with h1|h1
       ·exact HA.out j h1
       ·rw[show j=k by omega,←HX.out];exact HV.out
      case measure=>simp[intOf];omega
   ·have HLT:=Hh hlt;have i1:¬ (k:Int)<(n:Int):=by omega
    have t2:decide ((k:Int)<(n:Int))=false:=decide_eq_false i1;go_wp2_with fail;go_ret;refine⟨?_,_,rfl⟩;rw[HR.out,zlN (Int.not_lt.2 HM.out) (fun i hi=>HA.out i (by rw[HL.out] at hi;omega))];rfl
end Go.Proofs.YtfjajpnfjjdnpaaGreatDoor

namespace Go.Proofs.YtfjajpnfjjdnpaaGreatDoor
open Go.RowKit Nds Num
theorem zkh {l:List Cv}{most:Int}(h:zbG l most=false):(l.length:Int)≤most∧∀v∈l,v.xs.length≤50∧v.ys.length≤50:=by
 unfold zbG at h;rw[Bool.or_eq_false_iff,decide_eq_false_iff_not] at h;refine⟨by omega,fun v hv=>?_⟩;have h2:=List.any_eq_false.1 h.2 v hv;unfold vast at h2;rw[Bool.or_eq_true,decide_eq_true_iff,decide_eq_true_iff] at h2;omega
def mayB (l:List Cv)(most:Int):Bool := !zbG l most&&l.all okC&&decide (zbE (zaS (l.map Cv.cl))≤1329)
theorem zlP {l:List Cv}{most:Int}(h:zbG l most=true):mayB l most=false:=by unfold mayB;rw[h];rfl
theorem zlQ {l:List Cv}{most:Int}:mayB l most=true↔zbG l most=false∧l.all okC=true∧zbE (zaS (l.map Cv.cl))≤1329:=by
 unfold mayB;rw[Bool.and_eq_true,Bool.and_eq_true,decide_eq_true_iff,and_assoc];simp
def zqr (l:List Cv)(most:Int)(w:World)(e:Ending)(w':World):Prop :=
 ∃A' c' qn q ok,e=.returned (.tuple #[.agg #[.slice A' qn c'],.bool ok])∧q.length=qn∧Ns w' A' c' q∧(A'=none→c'=0)∧Below w.heap.size w w'∧ok=mayB l most∧(ok=false→q=[])∧(ok=true→zcz (zaS (l.map Cv.cl)) q)
theorem zlR (A:Option Addr)(c n:Nat)(most:Int)(l:List Cv)(w:World)(h:Cs w A c l)(hn:l.length=n)(hm:most≤600) :
  Calls Tryz.prog 49 #[.slice A n c,.int .i64 most] w (zqr l most w):=by
 have hcap:=h.cap;rw[hn] at hcap;obtain⟨W,hW⟩:∃W:World,W=w.alloc (.cells #[.slice none 0 0] 28):=⟨_,rfl⟩;have hb:Below w.heap.size w W:=by rw[hW];exact(Below.refl _ w).alloc (Nat.le_refl _) _
 have hq:W.heap[w.heap.size]?=some (.cells #[.slice none 0 0] 28):=by rw[hW];exact heap_alloc_new w _
 have hWL:w.heap.size<W.heap.size:=by rw[hW];simp
 have HC:=Hh (h.below hb);have HN:=Hh hn;have HW:=Hh hW;have HB:=Hh hb;have HQ:=Hh hq;clear h hn hW hb hq;cases hg:zbG l most with
 | true =>
  have HG:=Hh hg;clear hg;go_enter Tryz.func49,Tryz.ntmps49;go_wp2_with (go_at_call 95;go_loud (rw[←HW.out];refine(zfN A c n most l _ HC.out HN.out).mono ?_;rintro e w2 ⟨rfl,m2,hw2⟩;rw[HG.out];have B2:=Hh (show Below W.heap.size W w2 by rw[hw2];exact zab (Below.refl _ _) m2);have Q2:=Hh ((B2.out.block w.heap.size hWL).trans HQ.out);have q0:=zar Q2.out;have q1:=zbg Q2.out;clear hw2));have e1:=World.cell?_setCell_same _ _ (.slice none 0 0) q0;refine bodyPost_ret (v:=.tuple #[.agg #[.slice none 0 0],.bool false]) (by simp[results,Tryz.results49,go_sem,e1]) rfl ?_;exact⟨none,0,0,[],false,rfl,rfl,zfF _,fun _=>rfl,(HB.out.trans (B2.out.mono HB.out.size)).setCell (Nat.le_refl _) _,(zlP HG.out).symm,fun _=>rfl,fun e=>by cases e⟩
 | false =>
  obtain⟨hn9,hlen⟩:=zkh hg;rw[HN.out] at hn9;have HG:=Hh hg;have HLN:=Hh hlen;have hn6:n≤600:=by omega
  clear hg hlen;go_enter Tryz.func49,Tryz.ntmps49;go_wp2_with (first
   | (go_at_call 95;go_loud (rw[←HW.out];refine(zfN A c n most l _ HC.out HN.out).mono ?_;rintro e w2 ⟨rfl,m2,hw2⟩;rw[HG.out];have B2:=Hh (show Below W.heap.size W w2 by rw[hw2];exact zab (Below.refl _ _) m2);clear hw2))
   | (go_at_call 96;go_loud (refine(zoY A c n l _ (HC.out.below B2.out) HN.out hn6 (fun v hv=>⟨Nat.le_trans (HLN.out v hv).1 (by omega),Nat.le_trans (HLN.out v hv).2 (by omega)⟩)).mono ?_;rintro e w3 ⟨A3,c3,qn,q,er,rfl,l3,n3,a3,b3,u3,u4⟩;have B3:=Hh (B2.out.trans (b3.mono B2.out.size));have BL:=Hh ((Below.refl w3.heap.size w3).alloc (Nat.le_refl _) (.cells #[.slice A3 qn c3] 28));have Q3:=Hh (((B3.out.trans (BL.out.mono B3.out.size)).block w.heap.size hWL).trans HQ.out);have q0:=zar Q3.out;have q1:=zbg Q3.out;have y0:=zar (heap_alloc_new w3 (.cells #[.slice A3 qn c3] 28));have L3:=Hh l3;have N3:=Hh (n3.below BL.out);have A3':=Hh a3;have U3:=Hh u3;have U4:=Hh u4;clear l3 n3 a3 b3 u3 u4)))
  have e1:=World.cell?_setCell_same _ _ (.slice A3 qn c3) q0;refine bodyPost_ret (v:=.tuple #[.agg #[.slice A3 qn c3],.bool (er==0)]) (by simp[results,Tryz.results49,go_sem,e1]) rfl ?_;have hbb:=HB.out.trans ((B3.out.trans (BL.out.mono B3.out.size)).mono HB.out.size);refine⟨A3,c3,qn,q,_,rfl,L3.out,N3.out.boxed Q3.out,A3'.out,hbb.setCell (Nat.le_refl _) _,?_,?_,?_⟩
  all_goals
   cases hok:l.all okC with
   | false =>
    obtain⟨rfl,rfl⟩:=U3.out hok;simp[mayB,hok]
   | true =>
    by_cases h9:zbE (zaS (l.map Cv.cl))≤1329
    ·obtain⟨rfl,h4⟩:=(U4.out hok).2 h9
     first
      | (simp[mayB,hok,h9,HG.out];done)
      | exact fun _=>h4
    ·obtain⟨rfl,rfl⟩:=(U4.out hok).1 (by omega);simp[mayB,hok,h9]
end Go.Proofs.YtfjajpnfjjdnpaaGreatDoor
