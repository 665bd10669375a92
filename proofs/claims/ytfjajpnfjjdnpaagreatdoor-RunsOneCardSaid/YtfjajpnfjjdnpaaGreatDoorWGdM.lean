import Derived.Test.YtfjajpnfjjdnpaaGreatDoorWBxY
import Derived.Test.YtfjajpnfjjdnpaaGreatDoorWClRow

set_option linter.unusedVariables false
set_option linter.unusedSimpArgs false
set_option maxRecDepth 100000
set_option maxHeartbeats 6400000
namespace Go.Proofs.YtfjajpnfjjdnpaaGreatDoor
open Go.RowKit Num Nds
theorem zqd {m:Nat}{t:Tr}(hw:wfT ((m:Int)+1) t)(h:t≠.e):t.lv=(m:Int)+1:=by
 cases t with
 | e=>exact absurd rfl h
 | s k=>exact absurd hw.1 (by omega)
 | n v a b c d =>
  have hw':wfT (((m+1:Nat)):Int) (.n v a b c d):=hw;obtain⟨m',hm,rfl,-⟩:=wf_n hw';have:m=m':=by omega
  subst this;rfl
theorem BxV.cells {q:List Nd}(hg:zaq q){ok:Bool}{X Y V H:Int}(b:BxV q q.length ok X Y V H) :
  (q=[]∧ok=false∧X=0∧Y=0∧V=0∧H=0)∨(ok=true∧(∀x y,zaz (den q q.length) x y≠0→X≤x∧x≤X+V-1∧Y≤y∧y≤Y+H-1) ∧
   (∃x y,zaz (den q q.length) x y≠0∧x=X)∧(∃x y,zaz (den q q.length) x y≠0∧x=X+V-1)∧(∃x y,zaz (den q q.length) x y≠0∧y=Y)∧∃x y,zaz (den q q.length) x y≠0∧y=Y+H-1):=by
 rcases b with⟨h0,h1⟩|⟨h0,rfl,h1⟩
 ·exact .inl ⟨List.length_eq_zero_iff.1 h0,h1⟩
 ·refine .inr ⟨rfl,?_⟩;have hlv:=zap (zad hg.1 (i:=q.length-1) (by omega));obtain⟨m,hm⟩:∃m:Nat,(at_ q (q.length-1)).lv=(m:Int)+1:=⟨(at_ q (q.length-1)).lv.toNat-1,by omega⟩;have hw:=zbv hg.1 (q.length-1) (by omega);rw[Nat.sub_add_cancel (by omega),hm] at hw;have hne:=(hg.2 (q.length-1) (by omega)).1;rw[Nat.sub_add_cancel (by omega)] at hne;have hn:(den q q.length).lv.toNat=(at_ q (q.length-1)).lv.toNat:=by rw[zqd hw hne,hm]
  obtain⟨t1,t2,t3,t4⟩:=h1.touch hn;exact⟨fun x y h=>h1.cell hn h,t1,t2,t3,t4⟩
theorem zde {n:Int}(h : -8≤n∧n<8) : -p2 1330≤n∧n≤p2 1330:=by
 have h1:=zaM (show 3≤1330 by omega);have h2:p2 3=8:=rfl;omega
theorem zaL {s:Bool}{xs:List Nat}(h:zaE s xs):zdO s xs=true:=by
 unfold zdO;rw[Bool.and_eq_true];constructor
 ·have h1:=h.1;unfold zaI at h1;rw[List.getLast?_eq_getElem?] at h1;unfold zhz;rw[Bool.or_eq_true];rcases Nat.eq_zero_or_pos xs.length with h0|h0
  ·exact .inl (by rw[h0];rfl)
  ·right;rw[bne_iff_ne];rw[List.getElem?_eq_getElem (by omega)] at h1 ⊢;exact fun e=>h1 (by rw[←e];rfl)
 ·cases s
  ·rfl
  ·have:=h.2 rfl;simp;exact List.length_pos_iff.2 this
end Go.Proofs.YtfjajpnfjjdnpaaGreatDoor

namespace Go.Proofs.YtfjajpnfjjdnpaaGreatDoor
open Go.RowKit Num Nds Txt
theorem zhX {q:List Nd}(h:zeZ q=true):zaq q:=by
 by_cases hne:q=[]
 ·subst hne;exact zcu
 ·have hl:=znq h;have hi:=((zlS hne hl).1 h).2.1;refine⟨hl,fun i hq=>⟨fun e=>?_,fun j hj e=>?_⟩⟩
  ·have h1:=(hi i hq).1;rw[zdB hl (by omega),e] at h1;cases h1
  ·refine(hi i hq).2 ?_;rw[←e];have:j<(q.take i).length:=by rw[List.length_take];omega
   have e2:at_ q j=(q.take i)[j]:=by
    unfold at_;rw[List.getElem?_eq_getElem (by omega),List.getElem_take]
    rfl
   rw[e2];exact List.getElem_mem _
def WinP (l:List Nd)(n:Nat)(most:Int):Prop:=∃(X Y V H:Int) (ok:Bool),BxV l n ok X Y V H∧V≤most∧H≤most
theorem zgT {l:List Nd}{n:Nat}{ok:Bool}{X Y V H most:Int}(bv:BxV l n ok X Y V H):(decide (V≤most)&&decide (H≤most))=true↔WinP l n most:=by
 rw[Bool.and_eq_true,decide_eq_true_iff,decide_eq_true_iff];constructor
 ·exact fun h=>⟨X,Y,V,H,ok,bv,h.1,h.2⟩
 ·rintro⟨X',Y',V',H',ok',bv',h⟩;obtain⟨-,-,-,rfl,rfl⟩:=bv.one bv';exact h
def ExpP (f:Int)(l:List Nd)(n:Nat)(box:Int):Prop:=f=5∨(WinP l n box∧(f=4∨zdd l%256≤1))
def zeb (b m:Int):Bool:=decide (0≤b∧b≤1000∧0≤m∧m≤100000)
def fmtB (f:Int):Bool:=decide (1≤f∧f≤5)
def mayP (s:ByteArray)(q:List Nd):Bool:=zcH s.data.toList&&zeZ q
def zvH (f:Int)(l:List Nd)(n:Nat)(box:Int)(w:World)(e:Ending)(w':World):Prop :=
 ∃b:Bool,e=.returned (.bool b)∧(b=true↔ExpP f l n box)∧(f=4→∃(X Y V H:Int) (ok:Bool),BxV l n ok X Y V H)∧Below w.heap.size w w'
def CkI (f:Int)(s:ByteArray)(l:List Nd)(n:Nat)(box nodes er:Int):Prop :=
 ((fmtB f&&(mayP s l&&zeb box nodes))=false→er=1)∧((fmtB f&&(mayP s l&&zeb box nodes))=true→(er=0∧ExpP f l n box)∨(er=5∧¬ ExpP f l n box))
theorem zvI (f:Int)(s:ByteArray)(l:List Nd)(n:Nat)(box nodes:Int):∃E:Int,∀er,CkI f s l n box nodes er→er=E:=by
 cases h:(fmtB f&&(mayP s l&&zeb box nodes)) with
 | false=>exact⟨1,fun er k=>k.1 h⟩
 | true =>
  rcases Classical.em (ExpP f l n box) with he|he
  ·exact⟨0,fun er k=>by
    rcases k.2 h with k|k
    ·exact k.1
    ·exact absurd he k.2⟩
  ·exact⟨5,fun er k=>by
    rcases k.2 h with k|k
    ·exact absurd k.2 he
    ·exact k.1⟩
def zwq (f:Int)(s:ByteArray)(l:List Nd)(n:Nat)(box nodes:Int)(w:World)(e:Ending)(w':World):Prop :=
 ∃er:Int,e=.returned (.int .i64 er)∧CkI f s l n box nodes er∧Below w.heap.size w w'
theorem znL {a b:ByteArray}(h:a.toList=b.toList):a=b:=by
 rw[ByteArray.toList_eq,ByteArray.toList_eq] at h;obtain⟨⟨a⟩⟩:=a;obtain⟨⟨b⟩⟩:=b;simp at h;rw[h]
theorem zaZ {w:World}{g:Nat}{b m:Int}(h:w.heap[g]?=some (.cells #[.int .i64 b,.int .i64 m] 24)):w.cell? ⟨g,0,none⟩=some (.int .i64 b)∧w.cell? ⟨g,1,none⟩=some (.int .i64 m):=by
 constructor <;> (rw[cell_of_row _ _ _ _ _ _ h];rfl)
theorem zak {w:World}{g:Nat}{s:ByteArray}{v:Value}(h:w.heap[g]?=some (.cells #[.string s,v] 30)):w.cell? ⟨g,0,none⟩=some (.string s)∧w.cell? ⟨g,1,none⟩=some v:=by
 constructor <;> (rw[cell_of_row _ _ _ _ _ _ h];rfl)
structure Pa (w W:World)(A:Option Addr)(c n:Nat)(q:List Nd)(s:ByteArray)(gp gl:Nat)(box nodes:Int):Prop where
 b:Below w.heap.size w W
 ns:Ns W A c q
 pk:W.heap[gp]?=some (.cells #[.string s,.slice A n c] 30)
 lk:W.heap[gl]?=some (.cells #[.int .i64 box,.int .i64 nodes] 24)
theorem Pa.next {w W W':World}{A:Option Addr}{c n:Nat}{q:List Nd}{s:ByteArray}{gp gl:Nat}{box nodes:Int}(h:Pa w W A c n q s gp gl box nodes)(k:Below W.heap.size W W'):Pa w W' A c n q s gp gl box nodes :=
 ⟨h.b.trans (k.mono h.b.size),h.ns.below k,(k.block _ (zag h.pk)).trans h.pk,(k.block _ (zag h.lk)).trans h.lk⟩
theorem Pa.cells {w W:World}{A:Option Addr}{c n:Nat}{q:List Nd}{s:ByteArray}{gp gl:Nat}{box nodes:Int}(h:Pa w W A c n q s gp gl box nodes) :
  W.cell? ⟨gp,0,none⟩=some (.string s)∧W.cell? ⟨gp,1,none⟩=some (.slice A n c)∧W.cell? ⟨gl,0,none⟩=some (.int .i64 box)∧W.cell? ⟨gl,1,none⟩=some (.int .i64 nodes) :=
 ⟨(zak h.pk).1,(zak h.pk).2,(zaZ h.lk).1,(zaZ h.lk).2⟩
theorem Pa.start {w:World}{A:Option Addr}{c n:Nat}{q:List Nd}(h:Ns w A c q)(s:ByteArray)(box nodes:Int) :
  Pa w ((w.alloc (.cells #[.string s,.slice A n c] 30)).alloc (.cells #[.int .i64 box,.int .i64 nodes] 24)) A c n q s w.heap.size (w.heap.size+1) box nodes:=by
 have b1:=(Below.refl w.heap.size w).alloc (Nat.le_refl _) (.cells #[.string s,.slice A n c] 30);have b2:=b1.alloc b1.size (.cells #[.int .i64 box,.int .i64 nodes] 24);have x2:=heap_alloc_new (w.alloc (.cells #[.string s,.slice A n c] 30)) (.cells #[.int .i64 box,.int .i64 nodes] 24);rw[World.size_alloc] at x2;exact⟨b2,h.below b2,(((Below.refl _ _).alloc (Nat.le_refl _) _).block _ (by rw[World.size_alloc];omega)).trans (heap_alloc_new w _),x2⟩
theorem zjW (b m:Int)(w:World):Calls Tryz.prog 119 #[.agg #[.int .i64 b,.int .i64 m]] w fun e w'=>e=.returned (.bool (zeb b m))∧Below w.heap.size w w':=by
 have HB:=Hh ((Below.refl w.heap.size w).alloc (Nat.le_refl _) (.cells #[.int .i64 b,.int .i64 m] 24));by_cases h0:0≤b
 ·have t0:decide (b≥0)=true:=decide_eq_true (by omega);by_cases h1:b≤1000
  ·have t1:decide (b≤1000)=true:=decide_eq_true (by omega);by_cases h2:0≤m
   ·have t2:decide (m≥0)=true:=decide_eq_true (by omega);by_cases h3:m≤100000
    ·have t3:decide (m≤100000)=true:=decide_eq_true (by omega);rw[show zeb b m=true from decide_eq_true (by omega)];clear h0 h1 h2 h3;go_enter Tryz.func119,Tryz.ntmps119;go_wp2_with fail;go_ret;exact⟨rfl,HB.out⟩
    ·have t3:decide (m≤100000)=false:=decide_eq_false (by omega);rw[show zeb b m=false from decide_eq_false (by omega)];clear h0 h1 h2 h3;go_enter Tryz.func119,Tryz.ntmps119;go_wp2_with fail;go_ret;exact⟨rfl,HB.out⟩
   ·have t2:decide (m≥0)=false:=decide_eq_false (by omega);rw[show zeb b m=false from decide_eq_false (by omega)];clear h0 h1 h2;go_enter Tryz.func119,Tryz.ntmps119;go_wp2_with fail;go_ret;exact⟨rfl,HB.out⟩
  ·have t1:decide (b≤1000)=false:=decide_eq_false (by omega);rw[show zeb b m=false from decide_eq_false (by omega)];clear h0 h1;go_enter Tryz.func119,Tryz.ntmps119;go_wp2_with fail;go_ret;exact⟨rfl,HB.out⟩
 ·have t0:decide (b≥0)=false:=decide_eq_false (by omega);rw[show zeb b m=false from decide_eq_false (by omega)];clear h0;go_enter Tryz.func119,Tryz.ntmps119;go_wp2_with fail;go_ret;exact⟨rfl,HB.out⟩
theorem zfZ (f:Int)(w:World):Calls Tryz.prog 118 #[.int .i64 f] w fun e w'=>e=.returned (.bool (fmtB f))∧w=w':=by
 by_cases h0:1≤f
 ·have t0:decide (f≥1)=true:=decide_eq_true (by omega);by_cases h1:f≤5
  ·have t1:decide (f≤5)=true:=decide_eq_true (by omega);rw[show fmtB f=true from decide_eq_true (by omega)];clear h0 h1;go_enter Tryz.func118,Tryz.ntmps118;go_wp2_with fail;go_ret;exact⟨rfl,rfl⟩
  ·have t1:decide (f≤5)=false:=decide_eq_false (by omega);rw[show fmtB f=false from decide_eq_false (by omega)];clear h0 h1;go_enter Tryz.func118,Tryz.ntmps118;go_wp2_with fail;go_ret;exact⟨rfl,rfl⟩
 ·have t0:decide (f≥1)=false:=decide_eq_false (by omega);rw[show fmtB f=false from decide_eq_false (by omega)];clear h0;go_enter Tryz.func118,Tryz.ntmps118;go_wp2_with fail;go_ret;exact⟨rfl,rfl⟩
theorem zfk (A:Option Addr)(c n:Nat)(s:ByteArray)(q:List Nd)(w:World)(hs:s.size≤maxLen)(h:Ns w A c q)(hn:q.length=n)(hn9:n≤1000000) :
  Calls Tryz.prog 82 #[.agg #[.string s,.slice A n c]] w fun e w'=>e=.returned (.bool (mayP s q))∧Below w.heap.size w w':=by
 have hcap:=h.cap;rw[hn] at hcap;have hb:=(Below.refl w.heap.size w).alloc (Nat.le_refl _) (.cells #[.string s,.slice A n c] 30);have HB:=Hh hb;have HN:=Hh (h.below hb);have HL:=Hh hn;have HS:=Hh hs;cases hr:zcH s.data.toList with
 | false =>
  rw[show mayP s q=false by unfold mayP;rw[hr];rfl];have HR:=Hh hr;clear h hb hn hs hr;go_enter Tryz.func82,Tryz.ntmps82;go_wp2_with (go_at_call 127;go_loud (refine(zlx s _ HS.out).mono ?_;rintro e w1 ⟨rfl,rfl⟩;rw[HR.out]));go_ret;exact⟨rfl,HB.out⟩
 | true =>
  obtain⟨R,hR⟩:∃R,R=zeZ q:=⟨_,rfl⟩;rw[show mayP s q=R by unfold mayP;rw[hr,hR];rfl];have HR:=Hh hr;have HQ:=Hh hR;clear h hb hn hs hr hR;go_enter Tryz.func82,Tryz.ntmps82;go_wp2_with (first
   | (go_at_call 127;go_loud (refine(zlx s _ HS.out).mono ?_;rintro e w1 ⟨rfl,rfl⟩;rw[HR.out]))
   | (go_at_call 128;go_loud (refine(znm A c n q _ HN.out HL.out hn9).mono ?_;rintro e w2 ⟨rfl,b_⟩;rw[←HQ.out];have HB:=Hh (HB.out.trans (b_.mono HB.out.size));clear b_)))
  go_ret;exact⟨rfl,HB.out⟩
theorem znM (A B:Option Addr)(c d n p:Nat)(s t:ByteArray)(q r:List Nd)(w:World)(h:Ns w A c q)(k:Ns w B d r)(hn:q.length=n)(hp:r.length=p) :
  Calls Tryz.prog 24 #[.agg #[.string s,.slice A n c],.agg #[.string t,.slice B p d]] w fun e w'=>e=.returned (.bool (decide (s=t)&&decide (q=r)))∧Below w.heap.size w w':=by
 have hcl:=h.cap;have hcm:=k.cap;rw[hn] at hcl;rw[hp] at hcm;have hb:=((Below.refl w.heap.size w).alloc (Nat.le_refl _) (.cells #[.string s,.slice A n c] 30)).alloc (by simp) (.cells #[.string t,.slice B p d] 30);have HB:=Hh hb;have HN:=Hh (h.below hb);have HK:=Hh (k.below hb);have HL:=Hh hn;have HP:=Hh hp;clear h k hb hn hp;by_cases e:s=t
 ·have t1:(s.toList==t.toList)=true:=by rw[e];exact beq_self_eq_true _
  have t2:decide (s=t)=true:=decide_eq_true e;obtain⟨R,hR⟩:∃R,R=decide (q=r):=⟨_,rfl⟩;rw[show(decide (s=t)&&decide (q=r))=R by rw[t2,hR];rfl];have HR:=Hh hR;clear e hR;go_enter Tryz.func24,Tryz.ntmps24;go_wp2_with (go_at_call 25;go_loud (refine(zpg A B c d n p q r _ HN.out HK.out HL.out HP.out).mono ?_;rintro e w2 ⟨rfl,b_⟩;rw[←HR.out];have HB:=Hh (HB.out.trans (b_.mono HB.out.size));clear b_));go_ret;exact⟨rfl,HB.out⟩
 ·have t1:(s.toList==t.toList)=false:=beq_eq_false_iff_ne.2 (fun h=>e (znL h));have t2:decide (s=t)=false:=decide_eq_false e;rw[show(decide (s=t)&&decide (q=r))=false by rw[t2];rfl];clear e;go_enter Tryz.func24,Tryz.ntmps24;go_wp2_with fail;go_ret;exact⟨rfl,HB.out⟩
theorem zjX (A:Option Addr)(c n:Nat)(s:ByteArray)(q:List Nd)(f box nodes:Int)(w:World)(h:Ns w A c q)(hn:q.length=n)(hn9:n≤900000)(hg:zaq q)(hf:1≤f∧f≤5)(hm : -9223372036854775808≤box∧box≤9223372036854775807) :
  Calls Tryz.prog 120 #[.int .i64 f,.agg #[.string s,.slice A n c],.agg #[.int .i64 box,.int .i64 nodes]] w (zvH f q n box w):=by
 have hcap:=h.cap;rw[hn] at hcap;have PP:=Hh (Pa.start (n:=n) h s box nodes);obtain⟨c0,c1,c2,c3⟩:=PP.out.cells;have HL:=Hh hn;have HG:=Hh hg;obtain⟨M,hM⟩:∃M,M=zdd q%256:=⟨_,rfl⟩;have HM:=Hh hM;have e5:∀g:Int,g≠5→g≠4→(ExpP g q n box↔WinP q n box∧M≤1):=fun g h5 h4=>by
  rw[hM];unfold ExpP;exact⟨fun h=>(h.resolve_left h5).imp_right fun h=>h.resolve_left h4,fun h=>.inr (h.imp_right .inr)⟩
 have e4:ExpP 4 q n box↔WinP q n box:=⟨fun h=>(h.resolve_left (by omega)).1,fun h=>.inr ⟨h,.inl rfl⟩⟩;have E5:=Hh e5;have E4:=Hh e4;clear h hn hg hM e5 e4;by_cases h1:M≤1
 ·have t1:decide (M>1)=false:=decide_eq_false (by omega);have H1:=Hh h1;clear h1;rcases(show f=1∨f=2∨f=3∨f=4∨f=5 by omega) with rfl|rfl|rfl|rfl|rfl
  ·clear hf;go_enter Tryz.func120,Tryz.ntmps120;go_wp2_with (first
    | (go_at_call 131;go_loud (refine(zfh A c n q _ PP.out.ns HL.out).mono ?_;rintro e w1 ⟨rfl,b_⟩;rw[←HM.out];have PP:=Hh (PP.out.next b_);clear c0 c1 c2 c3;obtain⟨c0,c1,c2,c3⟩:=PP.out.cells;clear b_))
    | (go_at_call 121;go_loud (refine(zcO n c A q box _ PP.out.ns HL.out hn9 HG.out hm).mono ?_;rintro e w2 ⟨X,Y,V,H,ok,rfl,bv,b_⟩;have EV:=Hh (show ∃(X Y V H:Int) (ok:Bool),BxV q n ok X Y V H from⟨X,Y,V,H,ok,bv⟩);have BV:=Hh (zgT (most:=box) bv);obtain⟨R,hR⟩:∃R,R=(decide (V≤box)&&decide (H≤box)):=⟨_,rfl⟩;rw[←hR] at BV ⊢;have PP:=Hh (PP.out.next b_);clear c0 c1 c2 c3;obtain⟨c0,c1,c2,c3⟩:=PP.out.cells;clear b_ bv hR)))
   go_ret;exact⟨R,rfl,BV.out.trans ((E5.out _ (by omega) (by omega)).trans ⟨fun h=>h.1,fun h=>⟨h,H1.out⟩⟩).symm,fun h=>absurd h (by omega),PP.out.b⟩
  ·clear hf;go_enter Tryz.func120,Tryz.ntmps120;go_wp2_with (first
    | (go_at_call 131;go_loud (refine(zfh A c n q _ PP.out.ns HL.out).mono ?_;rintro e w1 ⟨rfl,b_⟩;rw[←HM.out];have PP:=Hh (PP.out.next b_);clear c0 c1 c2 c3;obtain⟨c0,c1,c2,c3⟩:=PP.out.cells;clear b_))
    | (go_at_call 121;go_loud (refine(zcO n c A q box _ PP.out.ns HL.out hn9 HG.out hm).mono ?_;rintro e w2 ⟨X,Y,V,H,ok,rfl,bv,b_⟩;have EV:=Hh (show ∃(X Y V H:Int) (ok:Bool),BxV q n ok X Y V H from⟨X,Y,V,H,ok,bv⟩);have BV:=Hh (zgT (most:=box) bv);obtain⟨R,hR⟩:∃R,R=(decide (V≤box)&&decide (H≤box)):=⟨_,rfl⟩;rw[←hR] at BV ⊢;have PP:=Hh (PP.out.next b_);clear c0 c1 c2 c3;obtain⟨c0,c1,c2,c3⟩:=PP.out.cells;clear b_ bv hR)))
   go_ret;exact⟨R,rfl,BV.out.trans ((E5.out _ (by omega) (by omega)).trans ⟨fun h=>h.1,fun h=>⟨h,H1.out⟩⟩).symm,fun h=>absurd h (by omega),PP.out.b⟩
  ·clear hf;go_enter Tryz.func120,Tryz.ntmps120;go_wp2_with (first
    | (go_at_call 131;go_loud (refine(zfh A c n q _ PP.out.ns HL.out).mono ?_;rintro e w1 ⟨rfl,b_⟩;rw[←HM.out];have PP:=Hh (PP.out.next b_);clear c0 c1 c2 c3;obtain⟨c0,c1,c2,c3⟩:=PP.out.cells;clear b_))
    | (go_at_call 121;go_loud (refine(zcO n c A q box _ PP.out.ns HL.out hn9 HG.out hm).mono ?_;rintro e w2 ⟨X,Y,V,H,ok,rfl,bv,b_⟩;have EV:=Hh (show ∃(X Y V H:Int) (ok:Bool),BxV q n ok X Y V H from⟨X,Y,V,H,ok,bv⟩);have BV:=Hh (zgT (most:=box) bv);obtain⟨R,hR⟩:∃R,R=(decide (V≤box)&&decide (H≤box)):=⟨_,rfl⟩;rw[←hR] at BV ⊢;have PP:=Hh (PP.out.next b_);clear c0 c1 c2 c3;obtain⟨c0,c1,c2,c3⟩:=PP.out.cells;clear b_ bv hR)))
   go_ret;exact⟨R,rfl,BV.out.trans ((E5.out _ (by omega) (by omega)).trans ⟨fun h=>h.1,fun h=>⟨h,H1.out⟩⟩).symm,fun h=>absurd h (by omega),PP.out.b⟩
  ·clear hf;go_enter Tryz.func120,Tryz.ntmps120;go_wp2_with (go_at_call 121;go_loud (refine(zcO n c A q box _ PP.out.ns HL.out hn9 HG.out hm).mono ?_;rintro e w2 ⟨X,Y,V,H,ok,rfl,bv,b_⟩;have EV:=Hh (show ∃(X Y V H:Int) (ok:Bool),BxV q n ok X Y V H from⟨X,Y,V,H,ok,bv⟩);have BV:=Hh (zgT (most:=box) bv);obtain⟨R,hR⟩:∃R,R=(decide (V≤box)&&decide (H≤box)):=⟨_,rfl⟩;rw[←hR] at BV ⊢;have PP:=Hh (PP.out.next b_);clear c0 c1 c2 c3;obtain⟨c0,c1,c2,c3⟩:=PP.out.cells;clear b_ bv hR));go_ret;exact⟨R,rfl,BV.out.trans E4.out.symm,fun _=>EV.out,PP.out.b⟩
  ·clear hf;go_enter Tryz.func120,Tryz.ntmps120;go_wp2_with fail;go_ret;exact⟨true,rfl,⟨fun _=>.inl rfl,fun _=>rfl⟩,fun h=>absurd h (by omega),PP.out.b⟩
 ·have t1:decide (M>1)=true:=decide_eq_true (by omega);have H1:=Hh h1;clear h1;rcases(show f=1∨f=2∨f=3∨f=4∨f=5 by omega) with rfl|rfl|rfl|rfl|rfl
  ·clear hf;go_enter Tryz.func120,Tryz.ntmps120;go_wp2_with (go_at_call 131;go_loud (refine(zfh A c n q _ PP.out.ns HL.out).mono ?_;rintro e w1 ⟨rfl,b_⟩;rw[←HM.out];have PP:=Hh (PP.out.next b_);clear c0 c1 c2 c3;obtain⟨c0,c1,c2,c3⟩:=PP.out.cells;clear b_));go_ret;exact⟨false,rfl,⟨fun h=>by(cases h),fun h=>absurd ((E5.out _ (by omega) (by omega)).1 h).2 (by have:=H1.out;omega)⟩,fun h=>absurd h (by omega),PP.out.b⟩
  ·clear hf;go_enter Tryz.func120,Tryz.ntmps120;go_wp2_with (go_at_call 131;go_loud (refine(zfh A c n q _ PP.out.ns HL.out).mono ?_;rintro e w1 ⟨rfl,b_⟩;rw[←HM.out];have PP:=Hh (PP.out.next b_);clear c0 c1 c2 c3;obtain⟨c0,c1,c2,c3⟩:=PP.out.cells;clear b_));go_ret;exact⟨false,rfl,⟨fun h=>by(cases h),fun h=>absurd ((E5.out _ (by omega) (by omega)).1 h).2 (by have:=H1.out;omega)⟩,fun h=>absurd h (by omega),PP.out.b⟩
  ·clear hf;go_enter Tryz.func120,Tryz.ntmps120;go_wp2_with (go_at_call 131;go_loud (refine(zfh A c n q _ PP.out.ns HL.out).mono ?_;rintro e w1 ⟨rfl,b_⟩;rw[←HM.out];have PP:=Hh (PP.out.next b_);clear c0 c1 c2 c3;obtain⟨c0,c1,c2,c3⟩:=PP.out.cells;clear b_));go_ret;exact⟨false,rfl,⟨fun h=>by(cases h),fun h=>absurd ((E5.out _ (by omega) (by omega)).1 h).2 (by have:=H1.out;omega)⟩,fun h=>absurd h (by omega),PP.out.b⟩
  ·clear hf;go_enter Tryz.func120,Tryz.ntmps120;go_wp2_with (go_at_call 121;go_loud (refine(zcO n c A q box _ PP.out.ns HL.out hn9 HG.out hm).mono ?_;rintro e w2 ⟨X,Y,V,H,ok,rfl,bv,b_⟩;have EV:=Hh (show ∃(X Y V H:Int) (ok:Bool),BxV q n ok X Y V H from⟨X,Y,V,H,ok,bv⟩);have BV:=Hh (zgT (most:=box) bv);obtain⟨R,hR⟩:∃R,R=(decide (V≤box)&&decide (H≤box)):=⟨_,rfl⟩;rw[←hR] at BV ⊢;have PP:=Hh (PP.out.next b_);clear c0 c1 c2 c3;obtain⟨c0,c1,c2,c3⟩:=PP.out.cells;clear b_ bv hR));go_ret;exact⟨R,rfl,BV.out.trans E4.out.symm,fun _=>EV.out,PP.out.b⟩
  ·clear hf;go_enter Tryz.func120,Tryz.ntmps120;go_wp2_with fail;go_ret;exact⟨true,rfl,⟨fun _=>.inl rfl,fun _=>rfl⟩,fun h=>absurd h (by omega),PP.out.b⟩
theorem zbN (A:Option Addr)(c n:Nat)(s:ByteArray)(q:List Nd)(f box nodes:Int)(w:World)(h:Ns w A c q)(hn:q.length=n)(hn9:n≤900000)(hg:zaq q)(hf:1≤f∧f≤5)(hm : -9223372036854775808≤box∧box≤9223372036854775807) :
  Calls Tryz.prog 22 #[.int .i64 f,.agg #[.string s,.slice A n c],.agg #[.int .i64 box,.int .i64 nodes]] w (zvH f q n box w):=by
 have hcap:=h.cap;rw[hn] at hcap;have PP:=Hh (Pa.start (n:=n) h s box nodes);obtain⟨c0,c1,c2,c3⟩:=PP.out.cells;have HL:=Hh hn;have HG:=Hh hg;obtain⟨M,hM⟩:∃M,M=zdd q%256:=⟨_,rfl⟩;have HM:=Hh hM;have e5:∀g:Int,g≠5→g≠4→(ExpP g q n box↔WinP q n box∧M≤1):=fun g h5 h4=>by
  rw[hM];unfold ExpP;exact⟨fun h=>(h.resolve_left h5).imp_right fun h=>h.resolve_left h4,fun h=>.inr (h.imp_right .inr)⟩
 have e4:ExpP 4 q n box↔WinP q n box:=⟨fun h=>(h.resolve_left (by omega)).1,fun h=>.inr ⟨h,.inl rfl⟩⟩;have E5:=Hh e5;have E4:=Hh e4;clear h hn hg hM e5 e4;by_cases h5:f=5
 ·subst h5;clear hf;go_enter Tryz.func22,Tryz.ntmps22;go_wp2_with fail;go_ret;exact⟨true,rfl,⟨fun _=>.inl rfl,fun _=>rfl⟩,fun h=>absurd h (by omega),PP.out.b⟩
 ·have t5:(f==5)=false:=beq_eq_false_iff_ne.2 h5;have H5:=Hh h5;by_cases h4:f=4
  ·have t4:(f==4)=true:=beq_iff_eq.2 h4;have H4:=Hh h4;clear h4 h5 hf;go_enter Tryz.func22,Tryz.ntmps22;go_upto_if 14 with(go_at_call 65;go_loud (refine(zhW n c A q box _ PP.out.ns HL.out hn9 HG.out hm).mono ?_;rintro e w2 ⟨X,Y,V,H,ok,rfl,bv,b_⟩;have EV:=Hh (show ∃(X Y V H:Int) (ok:Bool),BxV q n ok X Y V H from⟨X,Y,V,H,ok,bv⟩);have BV:=Hh (zgT (most:=box) bv);obtain⟨R,hR⟩:∃R,R=(decide (V≤box)&&decide (H≤box)):=⟨_,rfl⟩;rw[←hR] at BV ⊢;have PP:=Hh (PP.out.next b_);clear c0 c1 c2 c3;obtain⟨c0,c1,c2,c3⟩:=PP.out.cells;clear b_ bv hR))
   cases hR:R with
   | false =>
    subst hR;go_wp2_with fail;go_ret;refine⟨false,rfl,⟨fun h=>by(cases h),fun h=>?_⟩,fun _=>EV.out,PP.out.b⟩;rw[H4.out] at h;have:=BV.out.2 (E4.out.1 h);cases this
   | true =>
    subst hR;go_wp2_with fail;go_ret;refine⟨true,rfl,⟨fun _=>?_,fun _=>rfl⟩,fun _=>EV.out,PP.out.b⟩;rw[H4.out];exact E4.out.2 (BV.out.1 (by trivial))
  ·have t4:(f==4)=false:=beq_eq_false_iff_ne.2 h4;have H4:=Hh h4;clear h4 h5 hf;go_enter Tryz.func22,Tryz.ntmps22;go_upto_if 14 with(go_at_call 65;go_loud (refine(zhW n c A q box _ PP.out.ns HL.out hn9 HG.out hm).mono ?_;rintro e w2 ⟨X,Y,V,H,ok,rfl,bv,b_⟩;have EV:=Hh (show ∃(X Y V H:Int) (ok:Bool),BxV q n ok X Y V H from⟨X,Y,V,H,ok,bv⟩);have BV:=Hh (zgT (most:=box) bv);obtain⟨R,hR⟩:∃R,R=(decide (V≤box)&&decide (H≤box)):=⟨_,rfl⟩;rw[←hR] at BV ⊢;have PP:=Hh (PP.out.next b_);clear c0 c1 c2 c3;obtain⟨c0,c1,c2,c3⟩:=PP.out.cells;clear b_ bv hR))
   cases hR:R with
   | false =>
    subst hR;go_wp2_with fail;go_ret;exact⟨false,rfl,⟨fun h=>by(cases h),fun h=>by(have:=BV.out.2 ((E5.out _ H5.out H4.out).1 h).1;cases this)⟩,fun _=>EV.out,PP.out.b⟩
   | true =>
    subst hR;go_wp2_with (go_at_call 47;go_loud (refine(zsk A c n q _ PP.out.ns HL.out).mono ?_;rintro e w1 ⟨rfl,b_⟩;rw[←HM.out];have PP:=Hh (PP.out.next b_);clear c0 c1 c2 c3;obtain⟨c0,c1,c2,c3⟩:=PP.out.cells;clear b_));go_ret;exact⟨decide (M≤1),rfl,decide_eq_true_iff.trans ((E5.out _ H5.out H4.out).trans ⟨fun h=>h.2,fun h=>⟨BV.out.1 (by trivial),h⟩⟩).symm,fun _=>EV.out,PP.out.b⟩
theorem znN (A:Option Addr)(c n:Nat)(s:ByteArray)(q:List Nd)(f box nodes:Int)(w:World)(hs:s.size≤maxLen)(h:Ns w A c q)(hn:q.length=n)(hn9:n≤900000)(hm : -9223372036854775808≤box∧box≤9223372036854775807) :
  Calls Tryz.prog 72 #[.int .i64 f,.agg #[.string s,.slice A n c],.agg #[.int .i64 box,.int .i64 nodes]] w (zwq f s q n box nodes w):=by
 have hcap:=h.cap;rw[hn] at hcap;have PP:=Hh (Pa.start (n:=n) h s box nodes);obtain⟨c0,c1,c2,c3⟩:=PP.out.cells;have HL:=Hh hn;have HS:=Hh hs;clear h hn hs;cases hf:fmtB f with
 | false =>
  have HF:=Hh hf;clear hf;go_enter Tryz.func72,Tryz.ntmps72;go_wp2_with (go_at_call 118;go_loud (refine(zfZ f _).mono ?_;rintro e w1 ⟨rfl,rfl⟩;rw[HF.out]));go_ret;exact⟨1,rfl,⟨fun _=>rfl,fun h=>by(rw[HF.out] at h;cases h)⟩,PP.out.b⟩
 | true =>
  have HF:=Hh hf;have H5:=Hh (of_decide_eq_true hf);clear hf;cases hp:mayP s q with
  | false =>
   have HP:=Hh hp;clear hp;go_enter Tryz.func72,Tryz.ntmps72;go_wp2_with (first
    | (go_at_call 118;go_loud (refine(zfZ f _).mono ?_;rintro e w1 ⟨rfl,rfl⟩;rw[HF.out]))
    | (go_at_call 82;go_loud (refine(zfk A c n s q _ HS.out PP.out.ns HL.out (by omega)).mono ?_;rintro e w2 ⟨rfl,b_⟩;rw[HP.out];have PP:=Hh (PP.out.next b_);clear c0 c1 c2 c3;obtain⟨c0,c1,c2,c3⟩:=PP.out.cells;clear b_)))
   go_ret;exact⟨1,rfl,⟨fun _=>rfl,fun h=>by(rw[HF.out,HP.out] at h;cases h)⟩,PP.out.b⟩
  | true =>
   have HP:=Hh hp;have HG:=Hh (zhX (q:=q) (by unfold mayP at hp;rw[Bool.and_eq_true] at hp;exact hp.2));clear hp;cases hi:zeb box nodes with
   | false =>
    have HI:=Hh hi;clear hi;go_enter Tryz.func72,Tryz.ntmps72;go_wp2_with (first
     | (go_at_call 118;go_loud (refine(zfZ f _).mono ?_;rintro e w1 ⟨rfl,rfl⟩;rw[HF.out]))
     | (go_at_call 82;go_loud (refine(zfk A c n s q _ HS.out PP.out.ns HL.out (by omega)).mono ?_;rintro e w2 ⟨rfl,b_⟩;rw[HP.out];have PP:=Hh (PP.out.next b_);clear c0 c1 c2 c3;obtain⟨c0,c1,c2,c3⟩:=PP.out.cells;clear b_))
     | (go_at_call 119;go_loud (refine(zjW box nodes _).mono ?_;rintro e w3 ⟨rfl,b_⟩;rw[HI.out];have PP:=Hh (PP.out.next b_);clear c0 c1 c2 c3;obtain⟨c0,c1,c2,c3⟩:=PP.out.cells;clear b_)))
    go_ret;exact⟨1,rfl,⟨fun _=>rfl,fun h=>by(rw[HF.out,HP.out,HI.out] at h;cases h)⟩,PP.out.b⟩
   | true =>
    have HI:=Hh hi;clear hi;go_enter Tryz.func72,Tryz.ntmps72;go_upto_if 24 with(first
     | (go_at_call 118;go_loud (refine(zfZ f _).mono ?_;rintro e w1 ⟨rfl,rfl⟩;rw[HF.out]))
     | (go_at_call 82;go_loud (refine(zfk A c n s q _ HS.out PP.out.ns HL.out (by omega)).mono ?_;rintro e w2 ⟨rfl,b_⟩;rw[HP.out];have PP:=Hh (PP.out.next b_);clear c0 c1 c2 c3;obtain⟨c0,c1,c2,c3⟩:=PP.out.cells;clear b_))
     | (go_at_call 119;go_loud (refine(zjW box nodes _).mono ?_;rintro e w3 ⟨rfl,b_⟩;rw[HI.out];have PP:=Hh (PP.out.next b_);clear c0 c1 c2 c3;obtain⟨c0,c1,c2,c3⟩:=PP.out.cells;clear b_))
     | (go_at_call 120;go_loud (refine(zjX A c n s q f box nodes _ PP.out.ns HL.out hn9 HG.out H5.out hm).mono ?_;rintro e w4 ⟨R,rfl,hR,-,b_⟩;have HR:=Hh hR;have PP:=Hh (PP.out.next b_);clear c0 c1 c2 c3;obtain⟨c0,c1,c2,c3⟩:=PP.out.cells;clear hR b_)))
    cases hR:R with
    | false =>
     subst hR;go_wp2_with fail;go_ret;exact⟨5,rfl,⟨fun h=>by(rw[HF.out,HP.out,HI.out] at h;cases h),fun _=>.inr ⟨rfl,fun h=>by(have:=HR.out.2 h;cases this)⟩⟩,PP.out.b⟩
    | true =>
     subst hR;go_wp2_with fail;go_ret;exact⟨0,rfl,⟨fun h=>by(rw[HF.out,HP.out,HI.out] at h;cases h),fun _=>.inl ⟨rfl,HR.out.1 (by trivial)⟩⟩,PP.out.b⟩
end Go.Proofs.YtfjajpnfjjdnpaaGreatDoor

namespace Go.Proofs.YtfjajpnfjjdnpaaGreatDoor
open Nds
def zbX (t:Tr)(u v:Int)(M:Int→Int→Int):Int→Int→Int:=fun r c=>if zae t (c-u) (r-v)=0 then M r c else zae t (c-u) (r-v)
theorem zuu (u v:Int)(M:Int→Int→Int):zbX .e u v M=M:=by
 funext r c;unfold zbX;rw[zbw,if_pos rfl]
theorem zst {k:Int}(hk:k≠0)(u v:Int)(M:Int→Int→Int):zbX (st k) u v M=fun r c=>if r=v∧c=u then k else M r c:=by
 funext r c;unfold zbX st;rw[if_neg hk];unfold zae;by_cases h:r=v∧c=u
 ·rw[if_pos (show c-u=0∧r-v=0 by omega),if_neg hk,if_pos h]
 ·rw[if_neg (show ¬ (c-u=0∧r-v=0) by omega),if_pos rfl,if_neg h]
theorem zsu {m:Nat}{a b c d:Tr}(ha:wfT (m:Int) a)(hb:wfT (m:Int) b)(hc:wfT (m:Int) c)(hd:wfT (m:Int) d)(u v:Int)(M:Int→Int→Int) :
  zbX (mk ((m:Int)+1) a b c d) u v M=zbX d (u+p2 m) (v+p2 m) (zbX c u (v+p2 m) (zbX b (u+p2 m) v (zbX a u v M))):=by
 funext y x;unfold zbX;rw[zdZ ha hb hc hd,show x-u-p2 m=x-(u+p2 m) by omega,show y-v-p2 m=y-(v+p2 m) by omega];have ia:=zan a m (x-u) (y-v) ha;have ib:=zan b m (x-(u+p2 m)) (y-v) hb;have ic:=zan c m (x-u) (y-(v+p2 m)) hc;have id:=zan d m (x-(u+p2 m)) (y-(v+p2 m)) hd;revert ia ib ic id;generalize zae a (x-u) (y-v)=ka;generalize zae b (x-(u+p2 m)) (y-v)=kb;generalize zae c (x-u) (y-(v+p2 m))=kc;generalize zae d (x-(u+p2 m)) (y-(v+p2 m))=kd;intro ia ib ic id;by_cases h3:kd=0
 ·by_cases h2:kc=0
  ·by_cases h1:kb=0
   ·subst h1 h2 h3;simp only[Int.add_zero,if_true]
   ·have z0:ka=0:=Classical.byContradiction fun h=>by have:=ia h;have:=ib h1;omega
    subst z0 h2 h3;simp only[Int.add_zero,Int.zero_add,if_true,if_neg h1]
  ·have z0:ka=0:=Classical.byContradiction fun h=>by have:=ia h;have:=ic h2;omega
   have z1:kb=0:=Classical.byContradiction fun h=>by have:=ib h;have:=ic h2;omega
   subst z0 z1 h3;simp only[Int.add_zero,Int.zero_add,if_true,if_neg h2]
 ·have z0:ka=0:=Classical.byContradiction fun h=>by have:=ia h;have:=id h3;omega
  have z1:kb=0:=Classical.byContradiction fun h=>by have:=ib h;have:=id h3;omega
  have z2:kc=0:=Classical.byContradiction fun h=>by have:=ic h;have:=id h3;omega
  subst z0 z1 z2;simp only[Int.zero_add,if_neg h3]
def InP (t:Tr)(u v:Int)(wide high:Nat):Prop:=∀x y,zae t x y≠0→0≤u+x∧u+x<wide∧0≤v+y∧v+y<high
theorem zvJ {k:Int}(hk:k≠0){u v:Int}{wide high:Nat}(h:InP (st k) u v wide high):0≤u∧u<wide∧0≤v∧v<high:=by
 have:=h 0 0 (by unfold st;rw[if_neg hk];exact hk);omega
theorem zvK {m:Nat}{a b c d:Tr}(ha:wfT (m:Int) a)(hb:wfT (m:Int) b)(hc:wfT (m:Int) c)(hd:wfT (m:Int) d){u v:Int}{wide high:Nat}(h:InP (mk ((m:Int)+1) a b c d) u v wide high) :
  InP a u v wide high∧InP b (u+p2 m) v wide high∧InP c u (v+p2 m) wide high∧InP d (u+p2 m) (v+p2 m) wide high:=by
 refine⟨fun x y k=>?_,fun x y k=>?_,fun x y k=>?_,fun x y k=>?_⟩
 ·have i:=zan a m x y ha k;refine h x y ?_;rw[zdZ ha hb hc hd,zbo hb (by omega),zbo hc (by omega),zbo hd (by omega),Int.add_zero,Int.add_zero,Int.add_zero];exact k
 ·have i:=zan b m x y hb k;have:=h (x+p2 m) y (by
   rw[zdZ ha hb hc hd,zbo ha (by omega),zbo hc (by omega),zbo hd (by omega),Int.add_zero,Int.add_zero,Int.zero_add,show x+p2 m-p2 m=x by omega];exact k)
  omega
 ·have i:=zan c m x y hc k;have:=h x (y+p2 m) (by
   rw[zdZ ha hb hc hd,zbo ha (by omega),zbo hb (by omega),zbo hd (by omega),Int.add_zero,Int.add_zero,Int.zero_add,show y+p2 m-p2 m=y by omega];exact k)
  omega
 ·have i:=zan d m x y hd k;have:=h (x+p2 m) (y+p2 m) (by
   rw[zdZ ha hb hc hd,zbo ha (by omega),zbo hb (by omega),zbo hc (by omega),Int.add_zero,Int.add_zero,Int.zero_add,show x+p2 m-p2 m=x by omega,show y+p2 m-p2 m=y by omega];exact k)
  omega
theorem low_add (u:Int)(h:Int):(u%4294967296+h%4294967296)%4294967296=(u+h)%4294967296:=by omega
theorem zmv {u:Int}(h:0≤u∧u<1000):u%4294967296=u:=by omega
theorem zld (t:Tr)(u v r c:Int):zbX t u v (fun _ _=>0) r c=zae t (c-u) (r-v):=by
 unfold zbX;split
 ·rename_i h;rw[h]
 ·rfl
def rowC (M:Int→Int→Int)(X Y:Int)(k wide:Nat):List Cl:=(List.range wide).filterMap fun(i:Nat)=>if M k i=0 then none else some ⟨X+i,Y+k,M k i⟩
def picL (M:Int→Int→Int)(X Y:Int)(wide high:Nat):List Cl:=(List.range high).flatMap fun k=>rowC M X Y k wide
theorem zqe (M:Int→Int→Int)(X Y:Int)(k wide:Nat):rowC M X Y k (wide+1)=rowC M X Y k wide++if M k wide=0 then [] else [⟨X+wide,Y+k,M k wide⟩]:=by
 unfold rowC;rw[List.range_succ,List.filterMap_append];congr 1;by_cases h:M k wide=0
 ·simp[h]
 ·simp[h]
theorem zqf (M:Int→Int→Int)(X Y:Int)(wide high:Nat):picL M X Y wide (high+1)=picL M X Y wide high++rowC M X Y high wide:=by
 unfold picL;rw[List.range_succ,List.flatMap_append,List.flatMap_cons,List.flatMap_nil,List.append_nil]
theorem zga {M:Int→Int→Int}{X Y:Int}{k wide:Nat}{c:Cl}:c∈rowC M X Y k wide↔∃i:Nat,i<wide∧M k i≠0∧c=⟨X+i,Y+k,M k i⟩:=by
 unfold rowC;rw[List.mem_filterMap];refine⟨fun⟨i,h1,h2⟩=>?_,fun⟨i,h1,h2,h3⟩=>⟨i,List.mem_range.2 h1,by rw[if_neg h2,h3]⟩⟩;by_cases h:M k i=0
 ·rw[if_pos h] at h2;cases h2
 ·rw[if_neg h] at h2;exact⟨i,List.mem_range.1 h1,h,(Option.some.inj h2).symm⟩
theorem zeG {M:Int→Int→Int}{X Y:Int}{wide high:Nat}{c:Cl}:c∈picL M X Y wide high↔∃k i:Nat,k<high∧i<wide∧M k i≠0∧c=⟨X+i,Y+k,M k i⟩:=by
 unfold picL;rw[List.mem_flatMap];refine⟨fun⟨k,h1,h2⟩=>?_,fun⟨k,i,h1,h2,h3,h4⟩=>⟨k,List.mem_range.2 h1,zga.2 ⟨i,h2,h3,h4⟩⟩⟩;obtain⟨i,h3,h4,h5⟩:=zga.1 h2;exact⟨k,i,List.mem_range.1 h1,h3,h4,h5⟩
theorem zmw (M:Int→Int→Int)(X Y:Int)(k:Nat):∀wide,Srt (rowC M X Y k wide)
 | 0=>List.Pairwise.nil
 | wide+1=>by
  rw[zqe];refine List.pairwise_append.2 ⟨zmw M X Y k wide,?_,fun a ha b hb=>?_⟩
  ·split
   ·exact List.Pairwise.nil
   ·exact List.pairwise_singleton _ _
  ·obtain⟨i,h1,_,rfl⟩:=zga.1 ha;split at hb
   ·cases hb
   ·rw[List.mem_singleton.1 hb];refine .inr ⟨rfl,?_⟩;show X+(i:Int)<X+(wide:Int);omega
theorem zeH (M:Int→Int→Int)(X Y:Int)(wide:Nat):∀high,Srt (picL M X Y wide high)
 | 0=>List.Pairwise.nil
 | high+1=>by
  rw[zqf];refine List.pairwise_append.2 ⟨zeH M X Y wide high,zmw _ _ _ _ _,fun a ha b hb=>?_⟩;obtain⟨k,i,h1,_,_,rfl⟩:=zeG.1 ha;obtain⟨j,_,_,rfl⟩:=zga.1 hb;refine .inl ?_;show Y+(k:Int)<Y+(high:Int);omega
theorem zle {M:Int→Int→Int}{X Y:Int}{wide high:Nat}:∀c∈picL M X Y wide high,c.s≠0:=fun c hc=>by
 obtain⟨k,i,_,_,h,rfl⟩:=zeG.1 hc;exact h
theorem zlf (M:Int→Int→Int)(X Y:Int)(wide high:Nat)(x y:Int):lk (picL M X Y wide high) x y=if 0≤x-X∧x-X<wide∧0≤y-Y∧y-Y<high then M (y-Y) (x-X) else 0:=by
 by_cases h:0≤x-X∧x-X<wide∧0≤y-Y∧y-Y<high
 ·rw[if_pos h];have e1:(((y-Y).toNat:Nat):Int)=y-Y:=by omega
  have e2:(((x-X).toNat:Nat):Int)=x-X:=by omega
  by_cases h0:M (y-Y) (x-X)=0
  ·rw[h0];refine zcg fun c hc=>?_;obtain⟨k,i,_,_,h1,rfl⟩:=zeG.1 hc;intro he;have a1:X+(i:Int)=x:=he.1;have a2:Y+(k:Int)=y:=he.2;refine h1 ?_;rw[show(k:Int)=y-Y by omega,show(i:Int)=x-X by omega];exact h0
  ·have hm:(⟨x,y,M (y-Y) (x-X)⟩:Cl)∈picL M X Y wide high:=zeG.2 ⟨(y-Y).toNat,(x-X).toNat,by omega,by omega,by rw[e1,e2];exact h0,by
    rw[e1,e2,show X+(x-X)=x by omega,show Y+(y-Y)=y by omega]⟩
   exact zhK (zeH M X Y wide high) hm
 ·rw[if_neg h];refine zcg fun c hc=>?_;obtain⟨k,i,h1,h2,_,rfl⟩:=zeG.1 hc;intro he;have a1:X+(i:Int)=x:=he.1;have a2:Y+(k:Int)=y:=he.2;exact h (by omega)
theorem zsv {M:Int→Int→Int}{X Y:Int}{wide high:Nat}{L:List Cl}(hL:Srt L)(h0:∀c∈L,c.s≠0)
  (h:∀x y,lk L x y=if 0≤x-X∧x-X<wide∧0≤y-Y∧y-Y<high then M (y-Y) (x-X) else 0):picL M X Y wide high=L :=
 zfS (zeH M X Y wide high) hL zle h0 fun x y=>by rw[zlf,h]
end Go.Proofs.YtfjajpnfjjdnpaaGreatDoor

namespace Go.Proofs.YtfjajpnfjjdnpaaGreatDoor
open Go.RowKit
def rowV (R:Nat→Nat)(wide j k:Nat):Value:=if k<j then .slice (some ⟨R k,0,none⟩) wide wide else .slice none 0 0
def zeI (M:Int→Int→Int)(k wide:Nat):List Value:=(List.range wide).map fun(i:Nat)=>.int .u8 (M k i)
structure PicR (tB tR:TypeId)(base g wide high j:Nat)(R:Nat→Nat)(M:Int→Int→Int)(W:World):Prop where
 rows:W.ownsRow base tR 1 (.slice (some ⟨g,0,none⟩) high high) high ((List.range high).map (rowV R wide j))
 row:∀k,k<j→W.ownsRow base tB 1 (.slice (some ⟨R k,0,none⟩) wide wide) wide (zeI M k wide)
 inj:∀a b,a<j→b<j→R a=R b→a=b
 off:∀k,k<j→R k≠g
variable {tB tR:TypeId} {base g wide high j:Nat} {R:Nat→Nat} {M:Int→Int→Int} {W:World}
theorem gbX {w w':World}(h:Below w.heap.size w w'):w.grownBy w' none:=⟨h.os,h.tape,h.output,h.size,fun k hk _=>h.block k hk⟩
theorem ziY {k i:Nat}(h:i<wide):(zeI M k wide)[i]?=some (.int .u8 (M k i)):=by
 unfold zeI;rw[List.getElem?_map,List.getElem?_range h];rfl
theorem PicR.rowAt (h:PicR tB tR base g wide high j R M W){k:Nat}(hk:k<high):W.cell? ⟨g,k,none⟩=some (rowV R wide j k):=by
 rw[h.rows.cellAt k (by omega),List.getElem?_map,List.getElem?_range hk];rfl
theorem PicR.at_ (h:PicR tB tR base g wide high j R M W){k:Nat}(hk:k<high)(hj:k<j):W.cell? ⟨g,k,none⟩=some (.slice (some ⟨R k,0,none⟩) wide wide):=by
 rw[h.rowAt hk];unfold rowV;rw[if_pos hj]
theorem PicR.get (h:PicR tB tR base g wide high j R M W){k i:Nat}(hk:k<j)(hi:i<wide):W.cell? ⟨R k,i,none⟩=some (.int .u8 (M k i)):=by
 rw[(h.row k hk).cellAt i (by omega),ziY hi]
theorem PicR.free (h:PicR tB tR base g wide high j R M W){k:Nat}(hk:k<j)(i:Nat):W.frozen? ⟨R k,i,none⟩=false:=(h.row k hk).frozenAt i
theorem PicR.freeG (h:PicR tB tR base g wide high j R M W)(i:Nat):W.frozen? ⟨g,i,none⟩=false:=h.rows.frozenAt i
theorem PicR.ltG (h:PicR tB tR base g wide high j R M W):base≤g∧g<W.heap.size:=h.rows.lt g rfl
theorem PicR.ltR (h:PicR tB tR base g wide high j R M W){k:Nat}(hk:k<j):base≤R k∧R k<W.heap.size:=(h.row k hk).lt (R k) rfl
theorem PicR.next (h:PicR tB tR base g wide high j R M W){W':World}(b:Below W.heap.size W W'):PicR tB tR base g wide high j R M W' :=
 ⟨h.rows.kept (gbX b) (.inr (by simp[Value.ownBlock])),fun k hk=>(h.row k hk).kept (gbX b) (.inr (by simp[Value.ownBlock])),h.inj,h.off⟩
theorem PicR.other (h:PicR tB tR base g wide high j R M W){p:Addr}(hg:p.block≠g)(hr:∀k,k<j→p.block≠R k)(u:Value):PicR tB tR base g wide high j R M (W.setCell p u):=by
 have key:W.grownBy (W.setCell p u) (some p.block):=⟨rfl,rfl,rfl,by simp[World.setCell],fun k _ hk=>heap_setCell_other W p k u (fun e=>hk (by simp[e]))⟩;exact⟨h.rows.kept key (.inr (by simpa [Value.ownBlock] using fun e=>hg e.symm)),fun k hk=>(h.row k hk).kept key (.inr (by simpa [Value.ownBlock] using fun e=>hr k hk e.symm)),h.inj,h.off⟩
theorem PicR.set (h:PicR tB tR base g wide high j R M W){k i:Nat}(hk:k<j)(hi:i<wide)(s:Int) :
  PicR tB tR base g wide high j R (fun r c=>if r=k∧c=i then s else M r c) (W.setCell ⟨R k,i,none⟩ (.int .u8 s)):=by
 obtain⟨h1,h2⟩:=(h.row k hk).stored i (.int .u8 s);refine⟨h.rows.kept h2 (.inr (by simpa [Value.ownBlock] using fun e=>h.off k hk e.symm)),fun a ha=>?_,h.inj,h.off⟩;by_cases e:a=k
 ·subst e;have e2:zeI (fun r c=>if r=(a:Int)∧c=(i:Int) then s else M r c) a wide=(zeI M a wide).set i (.int .u8 s):=by
   refine List.ext_getElem? fun t=>?_;by_cases ht:t<wide
   ·rw[ziY ht,List.getElem?_set];by_cases hit:i=t
    ·subst hit;rw[if_pos rfl,if_pos (show i<(zeI M a wide).length by unfold zeI;rw[List.length_map,List.length_range];exact ht)];simp
    ·rw[if_neg hit,ziY ht,if_neg (by omega)]
   ·rw[List.getElem?_eq_none (by simp[zeI];omega),List.getElem?_eq_none (by simp[zeI];omega)]
  rw[e2];exact h1
 ·have e2:zeI (fun r c=>if r=(k:Int)∧c=(i:Int) then s else M r c) a wide=zeI M a wide:=by
   unfold zeI;refine List.map_congr_left fun t _=>?_;show Value.int .u8 (if (a:Int)=k∧(t:Int)=i then s else M a t)=_;rw[if_neg (by omega)]
  rw[e2];exact(h.row a ha).kept h2 (.inr (by simpa [Value.ownBlock] using fun e3=>e (h.inj a k ha hk e3)))
theorem PicR.more (h:PicR tB tR base g wide high j R (fun _ _=>0) W)(hj:j<high){W':World}{r:Nat}(b:Below W.heap.size W W')(hr:W.heap.size≤r)
  (ho:W'.ownsRow base tB 1 (.slice (some ⟨r,0,none⟩) wide wide) wide (List.replicate wide (.int .u8 0))) :
  PicR tB tR base g wide high (j+1) (fun k=>if k=j then r else R k) (fun _ _=>0) (W'.setCell ⟨g,j,none⟩ (.slice (some ⟨r,0,none⟩) wide wide)):=by
 have h':=h.next b;obtain⟨h1,h2⟩:=h'.rows.stored j (.slice (some ⟨r,0,none⟩) wide wide);have hg:=h.ltG;refine⟨?_,fun k hk=>?_,fun a b2 ha hb he=>?_,fun k hk=>?_⟩
 ·have e:(List.range high).map (rowV (fun k=>if k=j then r else R k) wide (j+1))=((List.range high).map (rowV R wide j)).set j (.slice (some ⟨r,0,none⟩) wide wide):=by
   refine List.ext_getElem? fun t=>?_;by_cases ht:t<high
   ·rw[List.getElem?_map,List.getElem?_range ht,List.getElem?_set];by_cases hjt:j=t
    ·subst hjt;rw[if_pos rfl,if_pos (by simpa using ht)];show some (rowV _ wide (j+1) j)=_;unfold rowV;rw[if_pos (by omega)];simp
    ·rw[if_neg hjt,List.getElem?_map,List.getElem?_range ht];show some (rowV _ wide (j+1) t)=some (rowV R wide j t);unfold rowV;by_cases hlt:t<j
     ·rw[if_pos (by omega),if_pos hlt];simp[show ¬ t=j by omega]
     ·rw[if_neg (by omega),if_neg hlt]
   ·rw[List.getElem?_eq_none (by simpa using ht),List.getElem?_eq_none (by simpa using ht)]
  rw[e];exact h1
 ·by_cases e:k=j
  ·subst e;simp only[if_true];have e2:zeI (fun _ _=>0) k wide=List.replicate wide (.int .u8 0):=by
    unfold zeI;refine List.ext_getElem? fun t=>?_;by_cases ht:t<wide
    ·rw[List.getElem?_map,List.getElem?_range ht,List.getElem?_replicate,if_pos ht];rfl
    ·rw[List.getElem?_eq_none (by simpa using ht),List.getElem?_eq_none (by simpa using ht)]
   rw[e2];exact ho.kept h2 (.inr (by simp[Value.ownBlock];omega))
  ·simp only[if_neg e];exact(h'.row k (by omega)).kept h2 (.inr (by have:=h.off k (by omega);simpa [Value.ownBlock] using this))
 ·by_cases e1:a=j
  ·by_cases e2:b2=j
   ·omega
   ·simp only[if_pos e1,if_neg e2] at he;have:=h.ltR (k:=b2) (by omega);omega
  ·by_cases e2:b2=j
   ·simp only[if_neg e1,if_pos e2] at he;have:=h.ltR (k:=a) (by omega);omega
   ·simp only[if_neg e1,if_neg e2] at he;exact h.inj a b2 (by omega) (by omega) he
 ·by_cases e:k=j
  ·simp only[if_pos e];omega
  ·simp only[if_neg e];exact h.off k (by omega)
end Go.Proofs.YtfjajpnfjjdnpaaGreatDoor
