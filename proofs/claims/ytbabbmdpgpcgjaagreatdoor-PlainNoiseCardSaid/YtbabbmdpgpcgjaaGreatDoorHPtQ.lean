import Derived.Test.YtbabbmdpgpcgjaaGreatDoorHClPj
import Derived.Test.YtbabbmdpgpcgjaaGreatDoorHNdRow

set_option linter.unusedVariables false
set_option linter.unusedSimpArgs false
set_option maxRecDepth 100000
set_option maxHeartbeats 6400000
namespace Go.Proofs.YtbabbmdpgpcgjaaGreatDoor
open Go.RowKit Nds Num
theorem Ns.boxed {w:World}{A A0:Option Addr}{c n0 c0 g:Nat}{l:List Nd}{u:Value}{t:TypeId}(h:Ns w A c l)(hb:w.heap[g]?=some (.cells #[.slice A0 n0 c0] t)):Ns (w.setCell ⟨g,0,none⟩ u) A c l :=
 ⟨h.1,h.2.1,h.2.2.1,fun h0=>by
  obtain⟨b,off,e,hlt,hc⟩:=h.2.2.2 h0;have hne:b≠g:=fun e2=>by
   subst e2;have h1:=(hc 0 h0).1;rw[cell_of_row w b _ _ _ (0,0) hb] at h1;rcases off with _|off
   ·simp at h1
   ·simp at h1
  exact⟨b,off,e,by simpa [World.setCell] using hlt,fun i hi=>(hc i hi).below (Below.heap_setCell w ⟨g,0,none⟩ u b hne)⟩⟩
theorem zrl {m:Nat}{t:Tr}(hw:wfT ((m:Int)+1) t)(h:t≠.e):t.lv=(m:Int)+1:=by
 cases t with
 | e=>exact absurd rfl h
 | s k=>exact absurd hw.1 (by omega)
 | n v a b c d =>
  have hw':wfT (((m+1:Nat)):Int) (.n v a b c d):=hw;obtain⟨m',hm,rfl,-⟩:=wf_n hw';have:m=m':=by omega
  subst this;rfl
theorem BxV.cells {q:List Nd}(hg:zas q){ok:Bool}{X Y V H:Int}(b:BxV q q.length ok X Y V H) :
  (q=[]∧ok=false∧X=0∧Y=0∧V=0∧H=0)∨(ok=true∧(∀x y,zax (den q q.length) x y≠0→X≤x∧x≤X+V-1∧Y≤y∧y≤Y+H-1) ∧
   (∃x y,zax (den q q.length) x y≠0∧x=X)∧(∃x y,zax (den q q.length) x y≠0∧x=X+V-1)∧(∃x y,zax (den q q.length) x y≠0∧y=Y)∧∃x y,zax (den q q.length) x y≠0∧y=Y+H-1):=by
 rcases b with⟨h0,h1⟩|⟨h0,rfl,h1⟩
 ·exact .inl ⟨List.length_eq_zero_iff.1 h0,h1⟩
 ·refine .inr ⟨rfl,?_⟩;have hlv:=zaH (zaq hg.1 (i:=q.length-1) (by omega));obtain⟨m,hm⟩:∃m:Nat,(at_ q (q.length-1)).lv=(m:Int)+1:=⟨(at_ q (q.length-1)).lv.toNat-1,by omega⟩;have hw:=zbY hg.1 (q.length-1) (by omega);rw[Nat.sub_add_cancel (by omega),hm] at hw;have hne:=(hg.2 (q.length-1) (by omega)).1;rw[Nat.sub_add_cancel (by omega)] at hne;have hn:(den q q.length).lv.toNat=(at_ q (q.length-1)).lv.toNat:=by rw[zrl hw hne,hm]
  obtain⟨t1,t2,t3,t4⟩:=h1.touch hn;exact⟨fun x y h=>h1.cell hn h,t1,t2,t3,t4⟩
theorem zfO {s:Bool}{xs:List Nat}(h:zaC s xs):zbg s xs=true:=by
 unfold zbg;rw[Bool.and_eq_true];constructor
 ·have h1:=h.1;unfold zaS at h1;rw[List.getLast?_eq_getElem?] at h1;unfold zib;rw[Bool.or_eq_true];rcases Nat.eq_zero_or_pos xs.length with h0|h0
  ·exact .inl (by rw[h0];rfl)
  ·right;rw[bne_iff_ne];rw[List.getElem?_eq_getElem (by omega)] at h1 ⊢;exact fun e=>h1 (by rw[←e];rfl)
 ·cases s
  ·rfl
  ·have:=h.2 rfl;simp;exact List.length_pos_iff.2 this
end Go.Proofs.YtbabbmdpgpcgjaaGreatDoor

namespace Go.Proofs.YtbabbmdpgpcgjaaGreatDoor
open Go.RowKit Num Nds Txt
theorem ziA {q:List Nd}(h:zfr q=true):zas q:=by
 by_cases hne:q=[]
 ·subst hne;exact zdZ
 ·have hl:=zoe h;have hi:=((zjd hne hl).1 h).2.1;refine⟨hl,fun i hq=>⟨fun e=>?_,fun j hj e=>?_⟩⟩
  ·have h1:=(hi i hq).1;rw[ztk hl (by omega),e] at h1;cases h1
  ·refine(hi i hq).2 ?_;rw[←e];have:j<(q.take i).length:=by rw[List.length_take];omega
   have e2:at_ q j=(q.take i)[j]:=by
    unfold at_;rw[List.getElem?_eq_getElem (by omega),List.getElem_take]
    rfl
   rw[e2];exact List.getElem_mem _
def WinP (l:List Nd)(n:Nat)(most:Int):Prop:=∃(X Y V H:Int) (ok:Bool),BxV l n ok X Y V H∧V≤most∧H≤most
theorem zvw {l:List Nd}{n:Nat}{ok:Bool}{X Y V H most:Int}(bv:BxV l n ok X Y V H):(decide (V≤most)&&decide (H≤most))=true↔WinP l n most:=by
 rw[Bool.and_eq_true,decide_eq_true_iff,decide_eq_true_iff];constructor
 ·exact fun h=>⟨X,Y,V,H,ok,bv,h.1,h.2⟩
 ·rintro⟨X',Y',V',H',ok',bv',h⟩;obtain⟨-,-,-,rfl,rfl⟩:=bv.one bv';exact h
def ExpP (f:Int)(l:List Nd)(n:Nat)(box:Int):Prop:=f=5∨(WinP l n box∧(f=4∨zbT l%256≤1))
def zbF (b m:Int):Bool:=decide (0≤b∧b≤1000∧0≤m∧m≤100000)
def fmtB (f:Int):Bool:=decide (1≤f∧f≤5)
def mayP (s:ByteArray)(q:List Nd):Bool:=zlv s.data.toList&&zfr q
def zyT (f:Int)(l:List Nd)(n:Nat)(box:Int)(w:World)(e:Ending)(w':World):Prop :=
 ∃b:Bool,e=.returned (.bool b)∧(b=true↔ExpP f l n box)∧(f=4→∃(X Y V H:Int) (ok:Bool),BxV l n ok X Y V H)∧Below w.heap.size w w'
def CkI (f:Int)(s:ByteArray)(l:List Nd)(n:Nat)(box nodes er:Int):Prop :=
 ((fmtB f&&(mayP s l&&zbF box nodes))=false→er=1)∧((fmtB f&&(mayP s l&&zbF box nodes))=true→(er=0∧ExpP f l n box)∨(er=5∧¬ ExpP f l n box))
theorem zyb (f:Int)(s:ByteArray)(l:List Nd)(n:Nat)(box nodes:Int):∃E:Int,∀er,CkI f s l n box nodes er→er=E:=by
 cases h:(fmtB f&&(mayP s l&&zbF box nodes)) with
 | false=>exact⟨1,fun er k=>k.1 h⟩
 | true =>
  rcases Classical.em (ExpP f l n box) with he|he
  ·exact⟨0,fun er k=>by
    rcases k.2 h with k|k
    ·exact k.1
    ·exact absurd he k.2⟩
  ·exact⟨5,fun er k=>by
    rcases k.2 h with k|k
    ·exact absurd k.2 he
    ·exact k.1⟩
def zyU (f:Int)(s:ByteArray)(l:List Nd)(n:Nat)(box nodes:Int)(w:World)(e:Ending)(w':World):Prop :=
 ∃er:Int,e=.returned (.int .i64 er)∧CkI f s l n box nodes er∧Below w.heap.size w w'
theorem zoE {a b:ByteArray}(h:a.toList=b.toList):a=b:=by
 rw[ByteArray.toList_eq,ByteArray.toList_eq] at h;obtain⟨⟨a⟩⟩:=a;obtain⟨⟨b⟩⟩:=b;simp at h;rw[h]
theorem zal {w:World}{g:Nat}{b m:Int}(h:w.heap[g]?=some (.cells #[.int .i64 b,.int .i64 m] 23)):w.cell? ⟨g,0,none⟩=some (.int .i64 b)∧w.cell? ⟨g,1,none⟩=some (.int .i64 m):=by
 constructor <;> (rw[cell_of_row _ _ _ _ _ _ h];rfl)
theorem zad {w:World}{g:Nat}{s:ByteArray}{v:Value}(h:w.heap[g]?=some (.cells #[.string s,v] 29)):w.cell? ⟨g,0,none⟩=some (.string s)∧w.cell? ⟨g,1,none⟩=some v:=by
 constructor <;> (rw[cell_of_row _ _ _ _ _ _ h];rfl)
structure Pa (w W:World)(A:Option Addr)(c n:Nat)(q:List Nd)(s:ByteArray)(gp gl:Nat)(box nodes:Int):Prop where
 b:Below w.heap.size w W
 ns:Ns W A c q
 pk:W.heap[gp]?=some (.cells #[.string s,.slice A n c] 29)
 lk:W.heap[gl]?=some (.cells #[.int .i64 box,.int .i64 nodes] 23)
theorem Pa.next {w W W':World}{A:Option Addr}{c n:Nat}{q:List Nd}{s:ByteArray}{gp gl:Nat}{box nodes:Int}(h:Pa w W A c n q s gp gl box nodes)(k:Below W.heap.size W W'):Pa w W' A c n q s gp gl box nodes :=
 ⟨h.b.trans (k.mono h.b.size),h.ns.below k,(k.block _ (zab h.pk)).trans h.pk,(k.block _ (zab h.lk)).trans h.lk⟩
theorem Pa.cells {w W:World}{A:Option Addr}{c n:Nat}{q:List Nd}{s:ByteArray}{gp gl:Nat}{box nodes:Int}(h:Pa w W A c n q s gp gl box nodes) :
  W.cell? ⟨gp,0,none⟩=some (.string s)∧W.cell? ⟨gp,1,none⟩=some (.slice A n c)∧W.cell? ⟨gl,0,none⟩=some (.int .i64 box)∧W.cell? ⟨gl,1,none⟩=some (.int .i64 nodes) :=
 ⟨(zad h.pk).1,(zad h.pk).2,(zal h.lk).1,(zal h.lk).2⟩
theorem Pa.start {w:World}{A:Option Addr}{c n:Nat}{q:List Nd}(h:Ns w A c q)(s:ByteArray)(box nodes:Int) :
  Pa w ((w.alloc (.cells #[.string s,.slice A n c] 29)).alloc (.cells #[.int .i64 box,.int .i64 nodes] 23)) A c n q s w.heap.size (w.heap.size+1) box nodes:=by
 have b1:=(Below.refl w.heap.size w).alloc (Nat.le_refl _) (.cells #[.string s,.slice A n c] 29);have b2:=b1.alloc b1.size (.cells #[.int .i64 box,.int .i64 nodes] 23);have x2:=heap_alloc_new (w.alloc (.cells #[.string s,.slice A n c] 29)) (.cells #[.int .i64 box,.int .i64 nodes] 23);rw[World.size_alloc] at x2;exact⟨b2,h.below b2,(((Below.refl _ _).alloc (Nat.le_refl _) _).block _ (by rw[World.size_alloc];omega)).trans (heap_alloc_new w _),x2⟩
theorem zkL (b m:Int)(w:World):Calls Tryz.prog 17 #[.agg #[.int .i64 b,.int .i64 m]] w fun e w'=>e=.returned (.bool (zbF b m))∧Below w.heap.size w w':=by
 have HB:=Hh ((Below.refl w.heap.size w).alloc (Nat.le_refl _) (.cells #[.int .i64 b,.int .i64 m] 23));by_cases h0:0≤b
 ·have t0:decide (b≥0)=true:=decide_eq_true (by omega);by_cases h1:b≤1000
  ·have t1:decide (b≤1000)=true:=decide_eq_true (by omega);by_cases h2:0≤m
   ·have t2:decide (m≥0)=true:=decide_eq_true (by omega);by_cases h3:m≤100000
    ·have t3:decide (m≤100000)=true:=decide_eq_true (by omega);rw[show zbF b m=true from decide_eq_true (by omega)];clear h0 h1 h2 h3;go_enter Tryz.func17,Tryz.ntmps17;go_wp2_with fail;go_ret;exact⟨rfl,HB.out⟩
    ·have t3:decide (m≤100000)=false:=decide_eq_false (by omega);rw[show zbF b m=false from decide_eq_false (by omega)];clear h0 h1 h2 h3;go_enter Tryz.func17,Tryz.ntmps17;go_wp2_with fail;go_ret;exact⟨rfl,HB.out⟩
   ·have t2:decide (m≥0)=false:=decide_eq_false (by omega);rw[show zbF b m=false from decide_eq_false (by omega)];clear h0 h1 h2;go_enter Tryz.func17,Tryz.ntmps17;go_wp2_with fail;go_ret;exact⟨rfl,HB.out⟩
  ·have t1:decide (b≤1000)=false:=decide_eq_false (by omega);rw[show zbF b m=false from decide_eq_false (by omega)];clear h0 h1;go_enter Tryz.func17,Tryz.ntmps17;go_wp2_with fail;go_ret;exact⟨rfl,HB.out⟩
 ·have t0:decide (b≥0)=false:=decide_eq_false (by omega);rw[show zbF b m=false from decide_eq_false (by omega)];clear h0;go_enter Tryz.func17,Tryz.ntmps17;go_wp2_with fail;go_ret;exact⟨rfl,HB.out⟩
theorem zkM (b m:Int)(w:World):Calls Tryz.prog 22 #[.agg #[.int .i64 b,.int .i64 m]] w fun e w'=>e=.returned (.bool (zbF b m))∧Below w.heap.size w w':=by
 have HB:=Hh ((Below.refl w.heap.size w).alloc (Nat.le_refl _) (.cells #[.int .i64 b,.int .i64 m] 23));by_cases h0:0≤b
 ·have t0:decide (b≥0)=true:=decide_eq_true (by omega);by_cases h1:b≤1000
  ·have t1:decide (b≤1000)=true:=decide_eq_true (by omega);by_cases h2:0≤m
   ·have t2:decide (m≥0)=true:=decide_eq_true (by omega);by_cases h3:m≤100000
    ·have t3:decide (m≤100000)=true:=decide_eq_true (by omega);rw[show zbF b m=true from decide_eq_true (by omega)];clear h0 h1 h2 h3;go_enter Tryz.func22,Tryz.ntmps22;go_wp2_with fail;go_ret;exact⟨rfl,HB.out⟩
    ·have t3:decide (m≤100000)=false:=decide_eq_false (by omega);rw[show zbF b m=false from decide_eq_false (by omega)];clear h0 h1 h2 h3;go_enter Tryz.func22,Tryz.ntmps22;go_wp2_with fail;go_ret;exact⟨rfl,HB.out⟩
   ·have t2:decide (m≥0)=false:=decide_eq_false (by omega);rw[show zbF b m=false from decide_eq_false (by omega)];clear h0 h1 h2;go_enter Tryz.func22,Tryz.ntmps22;go_wp2_with fail;go_ret;exact⟨rfl,HB.out⟩
  ·have t1:decide (b≤1000)=false:=decide_eq_false (by omega);rw[show zbF b m=false from decide_eq_false (by omega)];clear h0 h1;go_enter Tryz.func22,Tryz.ntmps22;go_wp2_with fail;go_ret;exact⟨rfl,HB.out⟩
 ·have t0:decide (b≥0)=false:=decide_eq_false (by omega);rw[show zbF b m=false from decide_eq_false (by omega)];clear h0;go_enter Tryz.func22,Tryz.ntmps22;go_wp2_with fail;go_ret;exact⟨rfl,HB.out⟩
theorem zgp (f:Int)(w:World):Calls Tryz.prog 57 #[.int .i64 f] w fun e w'=>e=.returned (.bool (fmtB f))∧w=w':=by
 by_cases h0:1≤f
 ·have t0:decide (f≥1)=true:=decide_eq_true (by omega);by_cases h1:f≤5
  ·have t1:decide (f≤5)=true:=decide_eq_true (by omega);rw[show fmtB f=true from decide_eq_true (by omega)];clear h0 h1;go_enter Tryz.func57,Tryz.ntmps57;go_wp2_with fail;go_ret;exact⟨rfl,rfl⟩
  ·have t1:decide (f≤5)=false:=decide_eq_false (by omega);rw[show fmtB f=false from decide_eq_false (by omega)];clear h0 h1;go_enter Tryz.func57,Tryz.ntmps57;go_wp2_with fail;go_ret;exact⟨rfl,rfl⟩
 ·have t0:decide (f≥1)=false:=decide_eq_false (by omega);rw[show fmtB f=false from decide_eq_false (by omega)];clear h0;go_enter Tryz.func57,Tryz.ntmps57;go_wp2_with fail;go_ret;exact⟨rfl,rfl⟩
theorem zey (A:Option Addr)(c n:Nat)(s:ByteArray)(q:List Nd)(w:World)(hs:s.size≤maxLen)(h:Ns w A c q)(hn:q.length=n)(hn9:n≤1000000) :
  Calls Tryz.prog 58 #[.agg #[.string s,.slice A n c]] w fun e w'=>e=.returned (.bool (mayP s q))∧Below w.heap.size w w':=by
 have hcap:=h.cap;rw[hn] at hcap;have hb:=(Below.refl w.heap.size w).alloc (Nat.le_refl _) (.cells #[.string s,.slice A n c] 29);have HB:=Hh hb;have HN:=Hh (h.below hb);have HL:=Hh hn;have HS:=Hh hs;cases hr:zlv s.data.toList with
 | false =>
  rw[show mayP s q=false by unfold mayP;rw[hr];rfl];have HR:=Hh hr;clear h hb hn hs hr;go_enter Tryz.func58,Tryz.ntmps58;go_wp2_with (go_at_call 28;go_loud (refine(zjZ s _ HS.out).mono ?_;rintro e w1 ⟨rfl,rfl⟩;rw[HR.out]));go_ret;exact⟨rfl,HB.out⟩
 | true =>
  obtain⟨R,hR⟩:∃R,R=zfr q:=⟨_,rfl⟩;rw[show mayP s q=R by unfold mayP;rw[hr,hR];rfl];have HR:=Hh hr;have HQ:=Hh hR;clear h hb hn hs hr hR;go_enter Tryz.func58,Tryz.ntmps58;go_wp2_with (first
   | (go_at_call 28;go_loud (refine(zjZ s _ HS.out).mono ?_;rintro e w1 ⟨rfl,rfl⟩;rw[HR.out]))
   | (go_at_call 83;go_loud (refine(zlK A c n q _ HN.out HL.out hn9).mono ?_;rintro e w2 ⟨rfl,b_⟩;rw[←HQ.out];have HB:=Hh (HB.out.trans (b_.mono HB.out.size));clear b_)))
  go_ret;exact⟨rfl,HB.out⟩
theorem zci (A B:Option Addr)(c d n p:Nat)(s t:ByteArray)(q r:List Nd)(w:World)(h:Ns w A c q)(k:Ns w B d r)(hn:q.length=n)(hp:r.length=p) :
  Calls Tryz.prog 9 #[.agg #[.string s,.slice A n c],.agg #[.string t,.slice B p d]] w fun e w'=>e=.returned (.bool (decide (s=t)&&decide (q=r)))∧Below w.heap.size w w':=by
 have hcl:=h.cap;have hcm:=k.cap;rw[hn] at hcl;rw[hp] at hcm;have hb:=((Below.refl w.heap.size w).alloc (Nat.le_refl _) (.cells #[.string s,.slice A n c] 29)).alloc (by simp) (.cells #[.string t,.slice B p d] 29);have HB:=Hh hb;have HN:=Hh (h.below hb);have HK:=Hh (k.below hb);have HL:=Hh hn;have HP:=Hh hp;clear h k hb hn hp;by_cases e:s=t
 ·have t1:(s.toList==t.toList)=true:=by rw[e];exact beq_self_eq_true _
  have t2:decide (s=t)=true:=decide_eq_true e;obtain⟨R,hR⟩:∃R,R=decide (q=r):=⟨_,rfl⟩;rw[show(decide (s=t)&&decide (q=r))=R by rw[t2,hR];rfl];have HR:=Hh hR;clear e hR;go_enter Tryz.func9,Tryz.ntmps9;go_wp2_with (go_at_call 14;go_loud (refine(zqm A B c d n p q r _ HN.out HK.out HL.out HP.out).mono ?_;rintro e w2 ⟨rfl,b_⟩;rw[←HR.out];have HB:=Hh (HB.out.trans (b_.mono HB.out.size));clear b_));go_ret;exact⟨rfl,HB.out⟩
 ·have t1:(s.toList==t.toList)=false:=beq_eq_false_iff_ne.2 (fun h=>e (zoE h));have t2:decide (s=t)=false:=decide_eq_false e;rw[show(decide (s=t)&&decide (q=r))=false by rw[t2];rfl];clear e;go_enter Tryz.func9,Tryz.ntmps9;go_wp2_with fail;go_ret;exact⟨rfl,HB.out⟩
theorem zkN (A:Option Addr)(c n:Nat)(s:ByteArray)(q:List Nd)(f box nodes:Int)(w:World)(h:Ns w A c q)(hn:q.length=n)(hn9:n≤900000)(hg:zas q)(hf:1≤f∧f≤5)(hm : -9223372036854775808≤box∧box≤9223372036854775807) :
  Calls Tryz.prog 11 #[.int .i64 f,.agg #[.string s,.slice A n c],.agg #[.int .i64 box,.int .i64 nodes]] w (zyT f q n box w):=by
 have hcap:=h.cap;rw[hn] at hcap;have PP:=Hh (Pa.start (n:=n) h s box nodes);obtain⟨c0,c1,c2,c3⟩:=PP.out.cells;have HL:=Hh hn;have HG:=Hh hg;obtain⟨M,hM⟩:∃M,M=zbT q%256:=⟨_,rfl⟩;have HM:=Hh hM;have e5:∀g:Int,g≠5→g≠4→(ExpP g q n box↔WinP q n box∧M≤1):=fun g h5 h4=>by
  rw[hM];unfold ExpP;exact⟨fun h=>(h.resolve_left h5).imp_right fun h=>h.resolve_left h4,fun h=>.inr (h.imp_right .inr)⟩
 have e4:ExpP 4 q n box↔WinP q n box:=⟨fun h=>(h.resolve_left (by omega)).1,fun h=>.inr ⟨h,.inl rfl⟩⟩;have E5:=Hh e5;have E4:=Hh e4;clear h hn hg hM e5 e4;by_cases h5:f=5
 ·subst h5;clear hf;go_enter Tryz.func11,Tryz.ntmps11;go_wp2_with fail;go_ret;exact⟨true,rfl,⟨fun _=>.inl rfl,fun _=>rfl⟩,fun h=>absurd h (by omega),PP.out.b⟩
 ·have t5:(f==5)=false:=beq_eq_false_iff_ne.2 h5;have H5:=Hh h5;by_cases h4:f=4
  ·have t4:(f==4)=true:=beq_iff_eq.2 h4;have H4:=Hh h4;clear h4 h5 hf;go_enter Tryz.func11,Tryz.ntmps11;go_upto_if 14 with(go_at_call 29;go_loud (refine(zfB n c A q box _ PP.out.ns HL.out hn9 HG.out hm).mono ?_;rintro e w2 ⟨X,Y,V,H,ok,rfl,bv,b_⟩;have EV:=Hh (show ∃(X Y V H:Int) (ok:Bool),BxV q n ok X Y V H from⟨X,Y,V,H,ok,bv⟩);have BV:=Hh (zvw (most:=box) bv);obtain⟨R,hR⟩:∃R,R=(decide (V≤box)&&decide (H≤box)):=⟨_,rfl⟩;rw[←hR] at BV ⊢;have PP:=Hh (PP.out.next b_);clear c0 c1 c2 c3;obtain⟨c0,c1,c2,c3⟩:=PP.out.cells;clear b_ bv hR))
   cases hR:R with
   | false =>
    subst hR;go_wp2_with fail;go_ret;refine⟨false,rfl,⟨fun h=>by(cases h),fun h=>?_⟩,fun _=>EV.out,PP.out.b⟩;rw[H4.out] at h;have:=BV.out.2 (E4.out.1 h);cases this
   | true =>
    subst hR;go_wp2_with fail;go_ret;refine⟨true,rfl,⟨fun _=>?_,fun _=>rfl⟩,fun _=>EV.out,PP.out.b⟩;rw[H4.out];exact E4.out.2 (BV.out.1 (by trivial))
  ·have t4:(f==4)=false:=beq_eq_false_iff_ne.2 h4;have H4:=Hh h4;clear h4 h5 hf;go_enter Tryz.func11,Tryz.ntmps11;go_upto_if 14 with(go_at_call 29;go_loud (refine(zfB n c A q box _ PP.out.ns HL.out hn9 HG.out hm).mono ?_;rintro e w2 ⟨X,Y,V,H,ok,rfl,bv,b_⟩;have EV:=Hh (show ∃(X Y V H:Int) (ok:Bool),BxV q n ok X Y V H from⟨X,Y,V,H,ok,bv⟩);have BV:=Hh (zvw (most:=box) bv);obtain⟨R,hR⟩:∃R,R=(decide (V≤box)&&decide (H≤box)):=⟨_,rfl⟩;rw[←hR] at BV ⊢;have PP:=Hh (PP.out.next b_);clear c0 c1 c2 c3;obtain⟨c0,c1,c2,c3⟩:=PP.out.cells;clear b_ bv hR))
   cases hR:R with
   | false =>
    subst hR;go_wp2_with fail;go_ret;exact⟨false,rfl,⟨fun h=>by(cases h),fun h=>by(have:=BV.out.2 ((E5.out _ H5.out H4.out).1 h).1;cases this)⟩,fun _=>EV.out,PP.out.b⟩
   | true =>
    subst hR;go_wp2_with (go_at_call 30;go_loud (refine(ztD A c n q _ PP.out.ns HL.out).mono ?_;rintro e w1 ⟨rfl,b_⟩;rw[←HM.out];have PP:=Hh (PP.out.next b_);clear c0 c1 c2 c3;obtain⟨c0,c1,c2,c3⟩:=PP.out.cells;clear b_));go_ret;exact⟨decide (M≤1),rfl,decide_eq_true_iff.trans ((E5.out _ H5.out H4.out).trans ⟨fun h=>h.2,fun h=>⟨BV.out.1 (by trivial),h⟩⟩).symm,fun _=>EV.out,PP.out.b⟩
theorem zme (A:Option Addr)(c n:Nat)(s:ByteArray)(q:List Nd)(f box nodes:Int)(w:World)(hs:s.size≤maxLen)(h:Ns w A c q)(hn:q.length=n)(hn9:n≤900000)(hm : -9223372036854775808≤box∧box≤9223372036854775807) :
  Calls Tryz.prog 31 #[.int .i64 f,.agg #[.string s,.slice A n c],.agg #[.int .i64 box,.int .i64 nodes]] w (zyU f s q n box nodes w):=by
 have hcap:=h.cap;rw[hn] at hcap;have PP:=Hh (Pa.start (n:=n) h s box nodes);obtain⟨c0,c1,c2,c3⟩:=PP.out.cells;have HL:=Hh hn;have HS:=Hh hs;clear h hn hs;cases hf:fmtB f with
 | false =>
  have HF:=Hh hf;clear hf;go_enter Tryz.func31,Tryz.ntmps31;go_wp2_with (go_at_call 57;go_loud (refine(zgp f _).mono ?_;rintro e w1 ⟨rfl,rfl⟩;rw[HF.out]));go_ret;exact⟨1,rfl,⟨fun _=>rfl,fun h=>by(rw[HF.out] at h;cases h)⟩,PP.out.b⟩
 | true =>
  have HF:=Hh hf;have H5:=Hh (of_decide_eq_true hf);clear hf;cases hp:mayP s q with
  | false =>
   have HP:=Hh hp;clear hp;go_enter Tryz.func31,Tryz.ntmps31;go_wp2_with (first
    | (go_at_call 57;go_loud (refine(zgp f _).mono ?_;rintro e w1 ⟨rfl,rfl⟩;rw[HF.out]))
    | (go_at_call 58;go_loud (refine(zey A c n s q _ HS.out PP.out.ns HL.out (by omega)).mono ?_;rintro e w2 ⟨rfl,b_⟩;rw[HP.out];have PP:=Hh (PP.out.next b_);clear c0 c1 c2 c3;obtain⟨c0,c1,c2,c3⟩:=PP.out.cells;clear b_)))
   go_ret;exact⟨1,rfl,⟨fun _=>rfl,fun h=>by(rw[HF.out,HP.out] at h;cases h)⟩,PP.out.b⟩
  | true =>
   have HP:=Hh hp;have HG:=Hh (ziA (q:=q) (by unfold mayP at hp;rw[Bool.and_eq_true] at hp;exact hp.2));clear hp;cases hi:zbF box nodes with
   | false =>
    have HI:=Hh hi;clear hi;go_enter Tryz.func31,Tryz.ntmps31;go_wp2_with (first
     | (go_at_call 57;go_loud (refine(zgp f _).mono ?_;rintro e w1 ⟨rfl,rfl⟩;rw[HF.out]))
     | (go_at_call 58;go_loud (refine(zey A c n s q _ HS.out PP.out.ns HL.out (by omega)).mono ?_;rintro e w2 ⟨rfl,b_⟩;rw[HP.out];have PP:=Hh (PP.out.next b_);clear c0 c1 c2 c3;obtain⟨c0,c1,c2,c3⟩:=PP.out.cells;clear b_))
     | (go_at_call 22;go_loud (refine(zkM box nodes _).mono ?_;rintro e w3 ⟨rfl,b_⟩;rw[HI.out];have PP:=Hh (PP.out.next b_);clear c0 c1 c2 c3;obtain⟨c0,c1,c2,c3⟩:=PP.out.cells;clear b_)))
    go_ret;exact⟨1,rfl,⟨fun _=>rfl,fun h=>by(rw[HF.out,HP.out,HI.out] at h;cases h)⟩,PP.out.b⟩
   | true =>
    have HI:=Hh hi;clear hi;go_enter Tryz.func31,Tryz.ntmps31;go_upto_if 24 with(first
     | (go_at_call 57;go_loud (refine(zgp f _).mono ?_;rintro e w1 ⟨rfl,rfl⟩;rw[HF.out]))
     | (go_at_call 58;go_loud (refine(zey A c n s q _ HS.out PP.out.ns HL.out (by omega)).mono ?_;rintro e w2 ⟨rfl,b_⟩;rw[HP.out];have PP:=Hh (PP.out.next b_);clear c0 c1 c2 c3;obtain⟨c0,c1,c2,c3⟩:=PP.out.cells;clear b_))
     | (go_at_call 22;go_loud (refine(zkM box nodes _).mono ?_;rintro e w3 ⟨rfl,b_⟩;rw[HI.out];have PP:=Hh (PP.out.next b_);clear c0 c1 c2 c3;obtain⟨c0,c1,c2,c3⟩:=PP.out.cells;clear b_))
     | (go_at_call 11;go_loud (refine(zkN A c n s q f box nodes _ PP.out.ns HL.out hn9 HG.out H5.out hm).mono ?_;rintro e w4 ⟨R,rfl,hR,-,b_⟩;have HR:=Hh hR;have PP:=Hh (PP.out.next b_);clear c0 c1 c2 c3;obtain⟨c0,c1,c2,c3⟩:=PP.out.cells;clear hR b_)))
    cases hR:R with
    | false =>
     subst hR;go_wp2_with fail;go_ret;exact⟨5,rfl,⟨fun h=>by(rw[HF.out,HP.out,HI.out] at h;cases h),fun _=>.inr ⟨rfl,fun h=>by(have:=HR.out.2 h;cases this)⟩⟩,PP.out.b⟩
    | true =>
     subst hR;go_wp2_with fail;go_ret;exact⟨0,rfl,⟨fun h=>by(rw[HF.out,HP.out,HI.out] at h;cases h),fun _=>.inl ⟨rfl,HR.out.1 (by trivial)⟩⟩,PP.out.b⟩
end Go.Proofs.YtbabbmdpgpcgjaaGreatDoor
