import Derived.Test.YtfjajpnfjjdnpaaGreatDoorVPtP

set_option linter.unusedVariables false
set_option linter.unusedSimpArgs false
set_option maxRecDepth 100000
set_option maxHeartbeats 6400000
namespace Go.Proofs.YtfjajpnfjjdnpaaGreatDoor
open Go.RowKit Num Nds Txt
theorem ziM {w:World}{g:Nat}{b m:Int}(h:w.heap[g]?=some (.cells #[.int .i64 b,.int .i64 m] 24)):w.cell? ⟨g,0,none⟩=some (.int .i64 b)∧w.cell? ⟨g,1,none⟩=some (.int .i64 m):=by
 constructor <;> (rw[cell_of_row _ _ _ _ _ _ h];rfl)
theorem zcZ {w:World}{g:Nat}{s:ByteArray}{v:Value}(h:w.heap[g]?=some (.cells #[.string s,v] 30)):w.cell? ⟨g,0,none⟩=some (.string s)∧w.cell? ⟨g,1,none⟩=some v:=by
 constructor <;> (rw[cell_of_row _ _ _ _ _ _ h];rfl)
structure Pa (w W:World)(A:Option Addr)(c n:Nat)(q:List Nd)(s:ByteArray)(gp gl:Nat)(box nodes:Int):Prop where
 b:Below w.heap.size w W
 ns:Ns W A c q
 pk:W.heap[gp]?=some (.cells #[.string s,.slice A n c] 30)
 lk:W.heap[gl]?=some (.cells #[.int .i64 box,.int .i64 nodes] 24)
theorem Pa.next {w W W':World}{A:Option Addr}{c n:Nat}{q:List Nd}{s:ByteArray}{gp gl:Nat}{box nodes:Int}(h:Pa w W A c n q s gp gl box nodes)(k:Below W.heap.size W W'):Pa w W' A c n q s gp gl box nodes :=
 ⟨h.b.trans (k.mono h.b.size),h.ns.below k,(k.block _ (zag h.pk)).trans h.pk,(k.block _ (zag h.lk)).trans h.lk⟩
theorem Pa.cells {w W:World}{A:Option Addr}{c n:Nat}{q:List Nd}{s:ByteArray}{gp gl:Nat}{box nodes:Int}(h:Pa w W A c n q s gp gl box nodes) :
  W.cell? ⟨gp,0,none⟩=some (.string s)∧W.cell? ⟨gp,1,none⟩=some (.slice A n c)∧W.cell? ⟨gl,0,none⟩=some (.int .i64 box)∧W.cell? ⟨gl,1,none⟩=some (.int .i64 nodes) :=
 ⟨(zcZ h.pk).1,(zcZ h.pk).2,(ziM h.lk).1,(ziM h.lk).2⟩
theorem Pa.start {w:World}{A:Option Addr}{c n:Nat}{q:List Nd}(h:Ns w A c q)(s:ByteArray)(box nodes:Int) :
  Pa w ((w.alloc (.cells #[.string s,.slice A n c] 30)).alloc (.cells #[.int .i64 box,.int .i64 nodes] 24)) A c n q s w.heap.size (w.heap.size+1) box nodes:=by
 have b1:=(Below.refl w.heap.size w).alloc (Nat.le_refl _) (.cells #[.string s,.slice A n c] 30);have b2:=b1.alloc b1.size (.cells #[.int .i64 box,.int .i64 nodes] 24);have x2:=heap_alloc_new (w.alloc (.cells #[.string s,.slice A n c] 30)) (.cells #[.int .i64 box,.int .i64 nodes] 24);rw[World.size_alloc] at x2;exact⟨b2,h.below b2,(((Below.refl _ _).alloc (Nat.le_refl _) _).block _ (by rw[World.size_alloc];omega)).trans (heap_alloc_new w _),x2⟩
theorem ziN (b m:Int)(w:World):Calls Tryz.prog 119 #[.agg #[.int .i64 b,.int .i64 m]] w fun e w'=>e=.returned (.bool (zeg b m))∧Below w.heap.size w w':=by
 have HB:=Hh ((Below.refl w.heap.size w).alloc (Nat.le_refl _) (.cells #[.int .i64 b,.int .i64 m] 24));by_cases h0:0≤b
 ·have t0:decide (b≥0)=true:=decide_eq_true (by omega);by_cases h1:b≤1000
  ·have t1:decide (b≤1000)=true:=decide_eq_true (by omega);by_cases h2:0≤m
   ·have t2:decide (m≥0)=true:=decide_eq_true (by omega);by_cases h3:m≤100000
    ·have t3:decide (m≤100000)=true:=decide_eq_true (by omega);rw[show zeg b m=true from decide_eq_true (by omega)];clear h0 h1 h2 h3;go_enter Tryz.func119,Tryz.ntmps119;go_wp2_with fail;go_ret;exact⟨rfl,HB.out⟩
    ·have t3:decide (m≤100000)=false:=decide_eq_false (by omega);rw[show zeg b m=false from decide_eq_false (by omega)];clear h0 h1 h2 h3;go_enter Tryz.func119,Tryz.ntmps119;go_wp2_with fail;go_ret;exact⟨rfl,HB.out⟩
   ·have t2:decide (m≥0)=false:=decide_eq_false (by omega);rw[show zeg b m=false from decide_eq_false (by omega)];clear h0 h1 h2;go_enter Tryz.func119,Tryz.ntmps119;go_wp2_with fail;go_ret;exact⟨rfl,HB.out⟩
  ·have t1:decide (b≤1000)=false:=decide_eq_false (by omega);rw[show zeg b m=false from decide_eq_false (by omega)];clear h0 h1;go_enter Tryz.func119,Tryz.ntmps119;go_wp2_with fail;go_ret;exact⟨rfl,HB.out⟩
 ·have t0:decide (b≥0)=false:=decide_eq_false (by omega);rw[show zeg b m=false from decide_eq_false (by omega)];clear h0;go_enter Tryz.func119,Tryz.ntmps119;go_wp2_with fail;go_ret;exact⟨rfl,HB.out⟩
theorem zfw (f:Int)(w:World):Calls Tryz.prog 118 #[.int .i64 f] w fun e w'=>e=.returned (.bool (fmtB f))∧w=w':=by
 by_cases h0:1≤f
 ·have t0:decide (f≥1)=true:=decide_eq_true (by omega);by_cases h1:f≤5
  ·have t1:decide (f≤5)=true:=decide_eq_true (by omega);rw[show fmtB f=true from decide_eq_true (by omega)];clear h0 h1;go_enter Tryz.func118,Tryz.ntmps118;go_wp2_with fail;go_ret;exact⟨rfl,rfl⟩
  ·have t1:decide (f≤5)=false:=decide_eq_false (by omega);rw[show fmtB f=false from decide_eq_false (by omega)];clear h0 h1;go_enter Tryz.func118,Tryz.ntmps118;go_wp2_with fail;go_ret;exact⟨rfl,rfl⟩
 ·have t0:decide (f≥1)=false:=decide_eq_false (by omega);rw[show fmtB f=false from decide_eq_false (by omega)];clear h0;go_enter Tryz.func118,Tryz.ntmps118;go_wp2_with fail;go_ret;exact⟨rfl,rfl⟩
theorem zeJ (A:Option Addr)(c n:Nat)(s:ByteArray)(q:List Nd)(w:World)(hs:s.size≤maxLen)(h:Ns w A c q)(hn:q.length=n)(hn9:n≤1000000) :
  Calls Tryz.prog 82 #[.agg #[.string s,.slice A n c]] w fun e w'=>e=.returned (.bool (mayP s q))∧Below w.heap.size w w':=by
 have hcap:=h.cap;rw[hn] at hcap;have hb:=(Below.refl w.heap.size w).alloc (Nat.le_refl _) (.cells #[.string s,.slice A n c] 30);have HB:=Hh hb;have HN:=Hh (h.below hb);have HL:=Hh hn;have HS:=Hh hs;cases hr:zcL s.data.toList with
 | false =>
  rw[show mayP s q=false by unfold mayP;rw[hr];rfl];have HR:=Hh hr;clear h hb hn hs hr;go_enter Tryz.func82,Tryz.ntmps82;go_wp2_with (go_at_call 127;go_loud (refine(zkm s _ HS.out).mono ?_;rintro e w1 ⟨rfl,rfl⟩;rw[HR.out]));go_ret;exact⟨rfl,HB.out⟩
 | true =>
  obtain⟨R,hR⟩:∃R,R=zfM q:=⟨_,rfl⟩;rw[show mayP s q=R by unfold mayP;rw[hr,hR];rfl];have HR:=Hh hr;have HQ:=Hh hR;clear h hb hn hs hr hR;go_enter Tryz.func82,Tryz.ntmps82;go_wp2_with (first
   | (go_at_call 127;go_loud (refine(zkm s _ HS.out).mono ?_;rintro e w1 ⟨rfl,rfl⟩;rw[HR.out]))
   | (go_at_call 128;go_loud (refine(zlX A c n q _ HN.out HL.out hn9).mono ?_;rintro e w2 ⟨rfl,b_⟩;rw[←HQ.out];have HB:=Hh (HB.out.trans (b_.mono HB.out.size));clear b_)))
  go_ret;exact⟨rfl,HB.out⟩
theorem ziO (A:Option Addr)(c n:Nat)(s:ByteArray)(q:List Nd)(f box nodes:Int)(w:World)(h:Ns w A c q)(hn:q.length=n)(hn9:n≤900000)(hg:zaw q)(hf:1≤f∧f≤5)(hm : -9223372036854775808≤box∧box≤9223372036854775807) :
  Calls Tryz.prog 120 #[.int .i64 f,.agg #[.string s,.slice A n c],.agg #[.int .i64 box,.int .i64 nodes]] w (zuO f q n box w):=by
 have hcap:=h.cap;rw[hn] at hcap;have PP:=Hh (Pa.start (n:=n) h s box nodes);obtain⟨c0,c1,c2,c3⟩:=PP.out.cells;have HL:=Hh hn;have HG:=Hh hg;obtain⟨M,hM⟩:∃M,M=zeB q%256:=⟨_,rfl⟩;have HM:=Hh hM;have e5:∀g:Int,g≠5→g≠4→(ExpP g q n box↔WinP q n box∧M≤1):=fun g h5 h4=>by
  rw[hM];unfold ExpP;exact⟨fun h=>(h.resolve_left h5).imp_right fun h=>h.resolve_left h4,fun h=>.inr (h.imp_right .inr)⟩
 have e4:ExpP 4 q n box↔WinP q n box:=⟨fun h=>(h.resolve_left (by omega)).1,fun h=>.inr ⟨h,.inl rfl⟩⟩;have E5:=Hh e5;have E4:=Hh e4;clear h hn hg hM e5 e4;by_cases h1:M≤1
 ·have t1:decide (M>1)=false:=decide_eq_false (by omega);have H1:=Hh h1;clear h1;rcases(show f=1∨f=2∨f=3∨f=4∨f=5 by omega) with rfl|rfl|rfl|rfl|rfl
  ·clear hf;go_enter Tryz.func120,Tryz.ntmps120;go_wp2_with (first
    | (go_at_call 131;go_loud (refine(zeC A c n q _ PP.out.ns HL.out).mono ?_;rintro e w1 ⟨rfl,b_⟩;rw[←HM.out];have PP:=Hh (PP.out.next b_);clear c0 c1 c2 c3;obtain⟨c0,c1,c2,c3⟩:=PP.out.cells;clear b_))
    | (go_at_call 121;go_loud (refine(zct n c A q box _ PP.out.ns HL.out hn9 HG.out hm).mono ?_;rintro e w2 ⟨X,Y,V,H,ok,rfl,bv,b_⟩;have EV:=Hh (show ∃(X Y V H:Int) (ok:Bool),BxV q n ok X Y V H from⟨X,Y,V,H,ok,bv⟩);have BV:=Hh (ziL (most:=box) bv);obtain⟨R,hR⟩:∃R,R=(decide (V≤box)&&decide (H≤box)):=⟨_,rfl⟩;rw[←hR] at BV ⊢;have PP:=Hh (PP.out.next b_);clear c0 c1 c2 c3;obtain⟨c0,c1,c2,c3⟩:=PP.out.cells;clear b_ bv hR)))
   go_ret;exact⟨R,rfl,BV.out.trans ((E5.out _ (by omega) (by omega)).trans ⟨fun h=>h.1,fun h=>⟨h,H1.out⟩⟩).symm,fun h=>absurd h (by omega),PP.out.b⟩
  ·clear hf;go_enter Tryz.func120,Tryz.ntmps120;go_wp2_with (first
    | (go_at_call 131;go_loud (refine(zeC A c n q _ PP.out.ns HL.out).mono ?_;rintro e w1 ⟨rfl,b_⟩;rw[←HM.out];have PP:=Hh (PP.out.next b_);clear c0 c1 c2 c3;obtain⟨c0,c1,c2,c3⟩:=PP.out.cells;clear b_))
    | (go_at_call 121;go_loud (refine(zct n c A q box _ PP.out.ns HL.out hn9 HG.out hm).mono ?_;rintro e w2 ⟨X,Y,V,H,ok,rfl,bv,b_⟩;have EV:=Hh (show ∃(X Y V H:Int) (ok:Bool),BxV q n ok X Y V H from⟨X,Y,V,H,ok,bv⟩);have BV:=Hh (ziL (most:=box) bv);obtain⟨R,hR⟩:∃R,R=(decide (V≤box)&&decide (H≤box)):=⟨_,rfl⟩;rw[←hR] at BV ⊢;have PP:=Hh (PP.out.next b_);clear c0 c1 c2 c3;obtain⟨c0,c1,c2,c3⟩:=PP.out.cells;clear b_ bv hR)))
   go_ret;exact⟨R,rfl,BV.out.trans ((E5.out _ (by omega) (by omega)).trans ⟨fun h=>h.1,fun h=>⟨h,H1.out⟩⟩).symm,fun h=>absurd h (by omega),PP.out.b⟩
  ·clear hf;go_enter Tryz.func120,Tryz.ntmps120;go_wp2_with (first
    | (go_at_call 131;go_loud (refine(zeC A c n q _ PP.out.ns HL.out).mono ?_;rintro e w1 ⟨rfl,b_⟩;rw[←HM.out];have PP:=Hh (PP.out.next b_);clear c0 c1 c2 c3;obtain⟨c0,c1,c2,c3⟩:=PP.out.cells;clear b_))
    | (go_at_call 121;go_loud (refine(zct n c A q box _ PP.out.ns HL.out hn9 HG.out hm).mono ?_;rintro e w2 ⟨X,Y,V,H,ok,rfl,bv,b_⟩;have EV:=Hh (show ∃(X Y V H:Int) (ok:Bool),BxV q n ok X Y V H from⟨X,Y,V,H,ok,bv⟩);have BV:=Hh (ziL (most:=box) bv);obtain⟨R,hR⟩:∃R,R=(decide (V≤box)&&decide (H≤box)):=⟨_,rfl⟩;rw[←hR] at BV ⊢;have PP:=Hh (PP.out.next b_);clear c0 c1 c2 c3;obtain⟨c0,c1,c2,c3⟩:=PP.out.cells;clear b_ bv hR)))
   go_ret;exact⟨R,rfl,BV.out.trans ((E5.out _ (by omega) (by omega)).trans ⟨fun h=>h.1,fun h=>⟨h,H1.out⟩⟩).symm,fun h=>absurd h (by omega),PP.out.b⟩
  ·clear hf;go_enter Tryz.func120,Tryz.ntmps120;go_wp2_with (go_at_call 121;go_loud (refine(zct n c A q box _ PP.out.ns HL.out hn9 HG.out hm).mono ?_;rintro e w2 ⟨X,Y,V,H,ok,rfl,bv,b_⟩;have EV:=Hh (show ∃(X Y V H:Int) (ok:Bool),BxV q n ok X Y V H from⟨X,Y,V,H,ok,bv⟩);have BV:=Hh (ziL (most:=box) bv);obtain⟨R,hR⟩:∃R,R=(decide (V≤box)&&decide (H≤box)):=⟨_,rfl⟩;rw[←hR] at BV ⊢;have PP:=Hh (PP.out.next b_);clear c0 c1 c2 c3;obtain⟨c0,c1,c2,c3⟩:=PP.out.cells;clear b_ bv hR));go_ret;exact⟨R,rfl,BV.out.trans E4.out.symm,fun _=>EV.out,PP.out.b⟩
  ·clear hf;go_enter Tryz.func120,Tryz.ntmps120;go_wp2_with fail;go_ret;exact⟨true,rfl,⟨fun _=>.inl rfl,fun _=>rfl⟩,fun h=>absurd h (by omega),PP.out.b⟩
 ·have t1:decide (M>1)=true:=decide_eq_true (by omega);have H1:=Hh h1;clear h1;rcases(show f=1∨f=2∨f=3∨f=4∨f=5 by omega) with rfl|rfl|rfl|rfl|rfl
  ·clear hf;go_enter Tryz.func120,Tryz.ntmps120;go_wp2_with (go_at_call 131;go_loud (refine(zeC A c n q _ PP.out.ns HL.out).mono ?_;rintro e w1 ⟨rfl,b_⟩;rw[←HM.out];have PP:=Hh (PP.out.next b_);clear c0 c1 c2 c3;obtain⟨c0,c1,c2,c3⟩:=PP.out.cells;clear b_));go_ret;exact⟨false,rfl,⟨fun h=>by(cases h),fun h=>absurd ((E5.out _ (by omega) (by omega)).1 h).2 (by have:=H1.out;omega)⟩,fun h=>absurd h (by omega),PP.out.b⟩
  ·clear hf;go_enter Tryz.func120,Tryz.ntmps120;go_wp2_with (go_at_call 131;go_loud (refine(zeC A c n q _ PP.out.ns HL.out).mono ?_;rintro e w1 ⟨rfl,b_⟩;rw[←HM.out];have PP:=Hh (PP.out.next b_);clear c0 c1 c2 c3;obtain⟨c0,c1,c2,c3⟩:=PP.out.cells;clear b_));go_ret;exact⟨false,rfl,⟨fun h=>by(cases h),fun h=>absurd ((E5.out _ (by omega) (by omega)).1 h).2 (by have:=H1.out;omega)⟩,fun h=>absurd h (by omega),PP.out.b⟩
  ·clear hf;go_enter Tryz.func120,Tryz.ntmps120;go_wp2_with (go_at_call 131;go_loud (refine(zeC A c n q _ PP.out.ns HL.out).mono ?_;rintro e w1 ⟨rfl,b_⟩;rw[←HM.out];have PP:=Hh (PP.out.next b_);clear c0 c1 c2 c3;obtain⟨c0,c1,c2,c3⟩:=PP.out.cells;clear b_));go_ret;exact⟨false,rfl,⟨fun h=>by(cases h),fun h=>absurd ((E5.out _ (by omega) (by omega)).1 h).2 (by have:=H1.out;omega)⟩,fun h=>absurd h (by omega),PP.out.b⟩
  ·clear hf;go_enter Tryz.func120,Tryz.ntmps120;go_wp2_with (go_at_call 121;go_loud (refine(zct n c A q box _ PP.out.ns HL.out hn9 HG.out hm).mono ?_;rintro e w2 ⟨X,Y,V,H,ok,rfl,bv,b_⟩;have EV:=Hh (show ∃(X Y V H:Int) (ok:Bool),BxV q n ok X Y V H from⟨X,Y,V,H,ok,bv⟩);have BV:=Hh (ziL (most:=box) bv);obtain⟨R,hR⟩:∃R,R=(decide (V≤box)&&decide (H≤box)):=⟨_,rfl⟩;rw[←hR] at BV ⊢;have PP:=Hh (PP.out.next b_);clear c0 c1 c2 c3;obtain⟨c0,c1,c2,c3⟩:=PP.out.cells;clear b_ bv hR));go_ret;exact⟨R,rfl,BV.out.trans E4.out.symm,fun _=>EV.out,PP.out.b⟩
  ·clear hf;go_enter Tryz.func120,Tryz.ntmps120;go_wp2_with fail;go_ret;exact⟨true,rfl,⟨fun _=>.inl rfl,fun _=>rfl⟩,fun h=>absurd h (by omega),PP.out.b⟩
theorem zmx (A:Option Addr)(c n:Nat)(s:ByteArray)(q:List Nd)(f box nodes:Int)(w:World)(hs:s.size≤maxLen)(h:Ns w A c q)(hn:q.length=n)(hn9:n≤900000)(hm : -9223372036854775808≤box∧box≤9223372036854775807) :
  Calls Tryz.prog 72 #[.int .i64 f,.agg #[.string s,.slice A n c],.agg #[.int .i64 box,.int .i64 nodes]] w (zuP f s q n box nodes w):=by
 have hcap:=h.cap;rw[hn] at hcap;have PP:=Hh (Pa.start (n:=n) h s box nodes);obtain⟨c0,c1,c2,c3⟩:=PP.out.cells;have HL:=Hh hn;have HS:=Hh hs;clear h hn hs;cases hf:fmtB f with
 | false =>
  have HF:=Hh hf;clear hf;go_enter Tryz.func72,Tryz.ntmps72;go_wp2_with (go_at_call 118;go_loud (refine(zfw f _).mono ?_;rintro e w1 ⟨rfl,rfl⟩;rw[HF.out]));go_ret;exact⟨1,rfl,⟨fun _=>rfl,fun h=>by(rw[HF.out] at h;cases h)⟩,PP.out.b⟩
 | true =>
  have HF:=Hh hf;have H5:=Hh (of_decide_eq_true hf);clear hf;cases hp:mayP s q with
  | false =>
   have HP:=Hh hp;clear hp;go_enter Tryz.func72,Tryz.ntmps72;go_wp2_with (first
    | (go_at_call 118;go_loud (refine(zfw f _).mono ?_;rintro e w1 ⟨rfl,rfl⟩;rw[HF.out]))
    | (go_at_call 82;go_loud (refine(zeJ A c n s q _ HS.out PP.out.ns HL.out (by omega)).mono ?_;rintro e w2 ⟨rfl,b_⟩;rw[HP.out];have PP:=Hh (PP.out.next b_);clear c0 c1 c2 c3;obtain⟨c0,c1,c2,c3⟩:=PP.out.cells;clear b_)))
   go_ret;exact⟨1,rfl,⟨fun _=>rfl,fun h=>by(rw[HF.out,HP.out] at h;cases h)⟩,PP.out.b⟩
  | true =>
   have HP:=Hh hp;have HG:=Hh (zgV (q:=q) (by unfold mayP at hp;rw[Bool.and_eq_true] at hp;exact hp.2));clear hp;cases hi:zeg box nodes with
   | false =>
    have HI:=Hh hi;clear hi;go_enter Tryz.func72,Tryz.ntmps72;go_wp2_with (first
     | (go_at_call 118;go_loud (refine(zfw f _).mono ?_;rintro e w1 ⟨rfl,rfl⟩;rw[HF.out]))
     | (go_at_call 82;go_loud (refine(zeJ A c n s q _ HS.out PP.out.ns HL.out (by omega)).mono ?_;rintro e w2 ⟨rfl,b_⟩;rw[HP.out];have PP:=Hh (PP.out.next b_);clear c0 c1 c2 c3;obtain⟨c0,c1,c2,c3⟩:=PP.out.cells;clear b_))
     | (go_at_call 119;go_loud (refine(ziN box nodes _).mono ?_;rintro e w3 ⟨rfl,b_⟩;rw[HI.out];have PP:=Hh (PP.out.next b_);clear c0 c1 c2 c3;obtain⟨c0,c1,c2,c3⟩:=PP.out.cells;clear b_)))
    go_ret;exact⟨1,rfl,⟨fun _=>rfl,fun h=>by(rw[HF.out,HP.out,HI.out] at h;cases h)⟩,PP.out.b⟩
   | true =>
    have HI:=Hh hi;clear hi;go_enter Tryz.func72,Tryz.ntmps72;go_upto_if 24 with(first
     | (go_at_call 118;go_loud (refine(zfw f _).mono ?_;rintro e w1 ⟨rfl,rfl⟩;rw[HF.out]))
     | (go_at_call 82;go_loud (refine(zeJ A c n s q _ HS.out PP.out.ns HL.out (by omega)).mono ?_;rintro e w2 ⟨rfl,b_⟩;rw[HP.out];have PP:=Hh (PP.out.next b_);clear c0 c1 c2 c3;obtain⟨c0,c1,c2,c3⟩:=PP.out.cells;clear b_))
     | (go_at_call 119;go_loud (refine(ziN box nodes _).mono ?_;rintro e w3 ⟨rfl,b_⟩;rw[HI.out];have PP:=Hh (PP.out.next b_);clear c0 c1 c2 c3;obtain⟨c0,c1,c2,c3⟩:=PP.out.cells;clear b_))
     | (go_at_call 120;go_loud (refine(ziO A c n s q f box nodes _ PP.out.ns HL.out hn9 HG.out H5.out hm).mono ?_;rintro e w4 ⟨R,rfl,hR,-,b_⟩;have HR:=Hh hR;have PP:=Hh (PP.out.next b_);clear c0 c1 c2 c3;obtain⟨c0,c1,c2,c3⟩:=PP.out.cells;clear hR b_)))
    cases hR:R with
    | false =>
     subst hR;go_wp2_with fail;go_ret;exact⟨5,rfl,⟨fun h=>by(rw[HF.out,HP.out,HI.out] at h;cases h),fun _=>.inr ⟨rfl,fun h=>by(have:=HR.out.2 h;cases this)⟩⟩,PP.out.b⟩
    | true =>
     subst hR;go_wp2_with fail;go_ret;exact⟨0,rfl,⟨fun h=>by(rw[HF.out,HP.out,HI.out] at h;cases h),fun _=>.inl ⟨rfl,HR.out.1 (by trivial)⟩⟩,PP.out.b⟩
end Go.Proofs.YtfjajpnfjjdnpaaGreatDoor

namespace Go.Proofs.YtfjajpnfjjdnpaaGreatDoor
open Go.RowKit Num Nds
structure Oo (w:World)(A:Option Addr)(n c:Nat)(q:List Nd)(W:World):Prop where
 b:Below w.heap.size w W
 qk:W.heap[w.heap.size]?=some (.cells #[.slice A n c] 28)
 rk:W.heap[w.heap.size+1]?=some gr0.obj
 ns:Ns W A c q
theorem Oo.next {w W W':World}{A:Option Addr}{n c:Nat}{q:List Nd}(h:Oo w A n c q W)(k:Below W.heap.size W W'):Oo w A n c q W' :=
 ⟨h.b.trans (k.mono h.b.size),(k.block _ (zag h.qk)).trans h.qk,(k.block _ (zag h.rk)).trans h.rk,h.ns.below k⟩
theorem Oo.start {w:World}{A:Option Addr}{n c:Nat}{q:List Nd}(h:Ns w A c q):Oo w A n c q ((w.alloc (.cells #[.slice A n c] 28)).alloc gr0.obj):=by
 have b1:=(Below.refl w.heap.size w).alloc (Nat.le_refl _) (.cells #[.slice A n c] 28);have b2:=b1.alloc b1.size gr0.obj;have x2:=heap_alloc_new (w.alloc (.cells #[.slice A n c] 28)) gr0.obj;rw[World.size_alloc] at x2;exact⟨b2,(((Below.refl _ _).alloc (Nat.le_refl _) _).block _ (by rw[World.size_alloc];omega)).trans (heap_alloc_new w _),x2,h.below b2⟩
theorem zsW (A:Option Addr)(c n:Nat)(q:List Nd)(most:Int)(w:World)(h:Ns w A c q)(hn:q.length=n)(hn9:n≤900000)(hg:zaw q)(hm : -9223372036854775808≤most∧most≤9223372036854775807)(h1:most<0) :
  Calls Tryz.prog 73 #[.agg #[.slice A n c],.int .i64 most] w (zqU q n most w):=by
 have hcap:=h.cap;rw[hn] at hcap;have HO:=Hh (Oo.start (n:=n) h);have HL:=Hh hn;have HG:=Hh hg;have t1:decide (most<0)=true:=decide_eq_true h1;have hr:=HO.out.rk;obtain⟨e0,e1,e2,e3,e4⟩:=Gr.cells hr;dsimp only[gr0,bw0,List.length_nil] at e0 e1 e2 e3 e4;have HH:=Hh (show most<0∨1000<most by omega);clear h hn hg hr;go_enter Tryz.func73,Tryz.ntmps73;go_wp2_with fail;refine bodyPost_ret (v:=.tuple #[gr0.val,.int .i64 1]) (by simp[results,Tryz.results73,go_sem,e0,e1,e2,e3,e4,gr0,bw0]) rfl ?_;exact⟨gr0,0,0,1,rfl,zqT _,⟨Nat.zero_le _,Nat.zero_le _⟩,fun _=>rfl,HO.out.b,.inl ⟨HH.out,rfl,rfl,rfl,rfl⟩⟩
theorem zsX (A:Option Addr)(c n:Nat)(q:List Nd)(most:Int)(w:World)(h:Ns w A c q)(hn:q.length=n)(hn9:n≤900000)(hg:zaw q)(hm : -9223372036854775808≤most∧most≤9223372036854775807)(h1:0≤most)(h2:1000<most) :
  Calls Tryz.prog 73 #[.agg #[.slice A n c],.int .i64 most] w (zqU q n most w):=by
 have hcap:=h.cap;rw[hn] at hcap;have HO:=Hh (Oo.start (n:=n) h);have HL:=Hh hn;have HG:=Hh hg;have t1:decide (most<0)=false:=decide_eq_false (by omega);have t2:decide (most>1000)=true:=decide_eq_true h2;have hr:=HO.out.rk;obtain⟨e0,e1,e2,e3,e4⟩:=Gr.cells hr;dsimp only[gr0,bw0,List.length_nil] at e0 e1 e2 e3 e4;have HH:=Hh (show most<0∨1000<most by omega);clear h hn hg hr;go_enter Tryz.func73,Tryz.ntmps73;go_wp2_with fail;refine bodyPost_ret (v:=.tuple #[gr0.val,.int .i64 1]) (by simp[results,Tryz.results73,go_sem,e0,e1,e2,e3,e4,gr0,bw0]) rfl ?_;exact⟨gr0,0,0,1,rfl,zqT _,⟨Nat.zero_le _,Nat.zero_le _⟩,fun _=>rfl,HO.out.b,.inl ⟨HH.out,rfl,rfl,rfl,rfl⟩⟩
theorem zsY (A:Option Addr)(c n:Nat)(q:List Nd)(most:Int)(w:World)(h:Ns w A c q)(hn:q.length=n)(hn9:n≤900000)(hg:zaw q)(hm : -9223372036854775808≤most∧most≤9223372036854775807)(h1:0≤most)(h2:most≤1000) :
  Calls Tryz.prog 73 #[.agg #[.slice A n c],.int .i64 most] w (zqU q n most w):=by
 have hcap:=h.cap;rw[hn] at hcap;have HO:=Hh (Oo.start (n:=n) h);have HL:=Hh hn;have HG:=Hh hg;have t1:decide (most<0)=false:=decide_eq_false (by omega);have t2:decide (most>1000)=false:=decide_eq_false (by omega);have y0:=zab HO.out.qk;clear h hn hg;go_enter Tryz.func73,Tryz.ntmps73;go_upto_if 18 with(go_at_call 121;go_loud (refine(zct n c A q most _ HO.out.ns HL.out hn9 HG.out hm).mono ?_;rintro e w2 ⟨X,Y,V,H,ok,rfl,bv,b_⟩;have BV:=Hh bv;obtain⟨R,hR⟩:∃R,R=(decide (V≤most)&&decide (H≤most)):=⟨_,rfl⟩;rw[←hR];have HR:=Hh hR;have HO:=Hh (HO.out.next b_);clear b_ bv hR;obtain⟨z0,z1,z2,z3,z4⟩:=Gr.cells HO.out.rk;obtain⟨f0,f1,f2,f3,f4⟩:=Gr.free HO.out.rk;have y0:=zab HO.out.qk;dsimp only[gr0,bw0,List.length_nil] at z0 z1 z2 z3 z4))
 cases R with
 | false =>
  have hlim:most<V∨most<H:=by
   have:=HR.out;by_cases a:V≤most
   ·by_cases b:H≤most
    ·rw[decide_eq_true a,decide_eq_true b] at this;cases this
    ·omega
   ·omega
  have HLM:=Hh hlim;clear hlim;go_wp2_with fail;have QV:=zjR HO.out.rk gr0;obtain⟨e0,e1,e2,e3,e4⟩:=Gr.cells QV;dsimp only[gr0,bw0,putG,List.length_nil] at e0 e1 e2 e3 e4;refine bodyPost_ret (v:=.tuple #[gr0.val,.int .i64 4]) (by simp[results,Tryz.results73,go_sem,e0,e1,e2,e3,e4,gr0,bw0]) rfl ?_;exact⟨gr0,0,0,4,rfl,(zqT _),⟨Nat.zero_le _,Nat.zero_le _⟩,fun _=>rfl,zeI HO.out.b (by omega) gr0,.inr ⟨⟨h1,h2⟩,ok,X,Y,V,H,BV.out,.inl ⟨HLM.out,rfl,rfl,rfl,rfl⟩⟩⟩
 | true =>
  have hlim:V≤most∧H≤most:=by
   have:=HR.out.symm;rw[Bool.and_eq_true,decide_eq_true_iff,decide_eq_true_iff] at this;exact this
  have HLM:=Hh hlim;clear hlim;go_upto_if 26 with(go_at_call 122;go_loud (refine(zor n c A q _ HO.out.ns HL.out hn9 HG.out).mono ?_;rintro e w3 ⟨u,X2,Y2,V2,H2,ok2,rfl,ru,su,b_,bv⟩;have hal:=(Below.refl w3.heap.size w3).alloc (Nat.le_refl _) u.obj;have BV2:=Hh (show BxV q n ok2 X2 Y2 V2 H2 from bv);have RU:=Hh (ru.next hal);have SU:=Hh su;have HG6:=Hh (show w.heap.size+1<w3.heap.size from zag (HO.out.next b_).rk);have HO:=Hh ((HO.out.next b_).next hal);have UB:=Hh (heap_alloc_new w3 u.obj);clear b_ bv ru su hal z0 z1 z2 z3 z4 f0 f1 f2 f3 f4 y0;obtain⟨z0,z1,z2,z3,z4⟩:=Gr.cells HO.out.rk;obtain⟨f0,f1,f2,f3,f4⟩:=Gr.free HO.out.rk;have y0:=zab HO.out.qk;dsimp only[gr0,bw0,List.length_nil] at z0 z1 z2 z3 z4))
  obtain⟨hk1,hk2,hk3,hk4,hk5⟩:=BV.out.one BV2.out;have HE:=Hh (And.intro hk1 (And.intro hk2 (And.intro hk3 (And.intro hk4 hk5))));clear hk1 hk2 hk3 hk4 hk5;cases ok2 with
  | false =>
   have hz:X2=0∧Y2=0∧V2=0∧H2=0:=by
    rcases BV2.out with⟨-,-,h⟩|⟨-,h,-⟩
    ·exact h
    ·cases h
   have HZ:=Hh hz;clear hz;go_wp2_with fail;have QV:=zjR HO.out.rk gr0;obtain⟨e0,e1,e2,e3,e4⟩:=Gr.cells QV;dsimp only[gr0,bw0,putG,List.length_nil] at e0 e1 e2 e3 e4;refine bodyPost_ret (v:=.tuple #[gr0.val,.int .i64 0]) (by simp[results,Tryz.results73,go_sem,e0,e1,e2,e3,e4,gr0,bw0]) rfl ?_;refine⟨gr0,0,0,0,rfl,(zqT _),⟨Nat.zero_le _,Nat.zero_le _⟩,fun _=>rfl,zeI HO.out.b (by omega) gr0,.inr ⟨⟨h1,h2⟩,false,X2,Y2,V2,H2,BV2.out,.inr ⟨by have:=HLM.out;have:=HE.out;omega,rfl,HZ.out.1.symm,HZ.out.2.1.symm,?_⟩⟩⟩;rw[HZ.out.2.2.1,HZ.out.2.2.2];rfl
  | true =>
   have hwd:=(show BxV q q.length true X2 Y2 V2 H2 by rw[HL.out];exact BV2.out).wide HG.out;obtain⟨wide,hwide⟩:∃k:Nat,V2=(k:Int):=⟨V2.toNat,by omega⟩;obtain⟨high,hhigh⟩:∃k:Nat,H2=(k:Int):=⟨H2.toNat,by omega⟩;have HWD:=Hh (And.intro hwide hhigh);have hbx:0<n∧BoxT (den q n) (at_ q (n-1)).lv.toNat X2 Y2 V2 H2:=by
    rcases BV2.out with⟨-,h,-⟩|⟨h,-,k⟩
    ·cases h
    ·exact⟨h,k⟩
   have HBX:=Hh hbx;have HMO:=Hh (show(0≤most∧most≤1000)∧V2≤most∧H2≤most by have:=HLM.out;have:=HE.out;omega);clear hwd hwide hhigh hbx;go_wp2_with fail;obtain⟨g6,hg6⟩:∃g,g=w3.heap.size:=⟨_,rfl⟩;obtain⟨W1,hW1⟩:∃W1:World,W1=(w3.alloc u.obj).drew:=⟨_,rfl⟩;have hd:=Below.drew' (Below.refl (w3.alloc u.obj).heap.size (w3.alloc u.obj));have HO1:=Hh (HO.out.next hd);have UB1:=Hh ((hd.block _ (zag UB.out)).trans UB.out);have RU1:=Hh (RU.out.next hd);rw[←hW1] at HO1 UB1 RU1;rw[←hg6] at UB1 HG6 ⊢;refine wp_region_noPanic ?_;refine wp_region_held (S:=fun w'=>w'.cell? ⟨w.heap.size,0,none⟩=some (.slice A n c)∧w'.cell? ⟨g6,0,none⟩=some (.bool u.x.s)∧w'.cell? ⟨g6,1,none⟩=some (.slice u.x.a u.x.xs.length u.x.c)∧w'.cell? ⟨g6,2,none⟩=some (.bool u.y.s)∧w'.cell? ⟨g6,3,none⟩=some (.slice u.y.a u.y.xs.length u.y.c)∧w'.cell? ⟨g6,4,none⟩=some (.bool u.w.s)∧w'.cell? ⟨g6,5,none⟩=some (.slice u.w.a u.w.xs.length u.w.c)∧w'.cell? ⟨g6,6,none⟩=some (.bool u.h.s)∧w'.cell? ⟨g6,7,none⟩=some (.slice u.h.a u.h.xs.length u.h.c)) (by kernel_rfl) ?_;change wpAnyH _ _ _ _ _ _ _ _ (w3.alloc u.obj).drew;rw[←hW1];clear hW1 hg6 hd HO UB RU z0 z1 z2 z3 z4 f0 f1 f2 f3 f4 y0;have hS0:=And.intro (zab HO1.out.qk) (Xb.cells UB1.out);refine Tk1 (v:=?_) 0 hS0 ?_ ?_;rotate_left
   ·rintro w' ⟨_,_,_,_,_,_,_,_,_⟩;go_simp;first|done|with_reducible rfl|rfl
   simp only[Act.put,LA];refine Tk1 (v:=?_) 1 hS0 ?_ ?_;rotate_left
   ·rintro w' ⟨_,_,_,_,_,_,_,_,_⟩;go_simp;first|done|with_reducible rfl|rfl
   simp only[Act.put,LA];refine Tk1 (v:=?_) 2 hS0 ?_ ?_;rotate_left
   ·rintro w' ⟨_,_,_,_,_,_,_,_,_⟩;go_simp;first|done|with_reducible rfl|rfl
   simp only[Act.put,LA];refine Tk1 (v:=?_) 3 hS0 ?_ ?_;rotate_left
   ·rintro w' ⟨_,_,_,_,_,_,_,_,_⟩;go_simp;first|done|with_reducible rfl|rfl
   simp only[Act.put,LA];refine Tk1 (v:=?_) 4 hS0 ?_ ?_;rotate_left
   ·rintro w' ⟨_,_,_,_,_,_,_,_,_⟩;go_simp;first|done|with_reducible rfl|rfl
   simp only[Act.put,LA];refine Tk1 (v:=?_) 5 hS0 ?_ ?_;rotate_left
   ·rintro w' ⟨_,_,_,_,_,_,_,_,_⟩;go_simp;first|done|with_reducible rfl|rfl
   simp only[Act.put,LA];refine Rd1 6 fun K hK=>?_;go_simp;refine(zmt A n c wide high q u X2 Y2 W1 HO1.out.ns HL.out HBX.out.1 hn9 HG.out (by rw[←HWD.out.1,←HWD.out.2];exact RU1.out) SU.out (by rw[←HWD.out.1,←HWD.out.2];exact HBX.out.2) (by have:=HMO.out;have:=HWD.out;omega) (by have:=HMO.out;have:=HWD.out;omega)).mono ?_;rintro e w8 ⟨ra,rc,rfl,rt,rn,b_⟩;dsimp only;have HO8:=Hh (HO1.out.next b_);have UB8:=Hh ((b_.block _ (zag UB1.out)).trans UB1.out);have RU8:=Hh (RU1.out.next b_);have RT:=Hh rt;have RN:=Hh rn;clear rt rn b_;have hS8:=And.intro (zab HO8.out.qk) (Xb.cells UB8.out);refine hK.out _ _ hS8 (fun _=>?_);clear hK K;refine Tk1 (v:=?_) 7 hS8 ?_ ?_;rotate_left
   ·rintro w' ⟨_,_,_,_,_,_,_,_,_⟩;go_simp;first|done|with_reducible rfl|rfl
   simp only[Act.put,LA];obtain⟨z0,z1,z2,z3,z4⟩:=Gr.cells HO8.out.rk;obtain⟨f0,f1,f2,f3,f4⟩:=Gr.free HO8.out.rk;dsimp only[gr0,bw0,List.length_nil] at z0 z1 z2 z3 z4;refine Rd1 8 fun K hK=>?_;go_simp;have hrl:(zeZ (picM (den q n) X2 Y2) wide high).length=high:=ziJ _ _ _;have hg6n:g6≠w.heap.size+1:=fun e=>by have:=HG6.out;omega
   obtain⟨v,hv⟩:∃v:Gr,v=⟨u.x,u.y,ra,rc,zeZ (picM (den q n) X2 Y2) wide high⟩:=⟨_,rfl⟩;have hS9:(fun w':World=>w'.cell? ⟨w.heap.size,0,none⟩=some (.slice A n c)∧w'.cell? ⟨g6,0,none⟩=some (.bool u.x.s)∧w'.cell? ⟨g6,1,none⟩=some (.slice u.x.a u.x.xs.length u.x.c)∧w'.cell? ⟨g6,2,none⟩=some (.bool u.y.s)∧w'.cell? ⟨g6,3,none⟩=some (.slice u.y.a u.y.xs.length u.y.c)∧w'.cell? ⟨g6,4,none⟩=some (.bool u.w.s)∧w'.cell? ⟨g6,5,none⟩=some (.slice u.w.a u.w.xs.length u.w.c)∧w'.cell? ⟨g6,6,none⟩=some (.bool u.h.s)∧w'.cell? ⟨g6,7,none⟩=some (.slice u.h.a u.h.xs.length u.h.c)) (putG w8 (w.heap.size+1) v) :=
    And.intro (zab ((zfv (by omega) v).trans HO8.out.qk)) (Xb.cells ((zfv hg6n v).trans UB8.out))
   rw[hv] at hS9;dsimp only[putG] at hS9;rw[hrl] at hS9;refine hK.out _ _ hS9 (fun _=>?_);clear hK K;refine Tk1 (v:=?_) 9 hS9 ?_ ?_;rotate_left
   ·rintro w' ⟨_,_,_,_,_,_,_,_,_⟩;go_simp;first|done|with_reducible rfl|rfl
   simp only[Act.put,LA];refine wpAnyH_done (by kernel_rfl) ?_ _;refine NoPanic.normal ?_;go_wp2_with fail;have QV:=zjR HO8.out.rk v;obtain⟨e0,e1,e2,e3,e4⟩:=Gr.cells QV;have RV:=Gr.R.putG (v:=v) (u:=v) (W:=w8) (X:=X2) (Y:=Y2) (by rw[hv];exact⟨RU8.out.x,RU8.out.y,RT.out⟩) HO8.out.rk;have hbv:=zeI HO8.out.b (show w.heap.size≤w.heap.size+1 by omega) v;rw[hv] at e0 e1 e2 e3 e4;dsimp only[putG] at e0 e1 e2 e3 e4;rw[hrl] at e0 e1 e2 e3 e4;refine bodyPost_ret (v:=.tuple #[v.val,.int .i64 0]) (by simp[results,Tryz.results73,go_sem,e0,e1,e2,e3,e4,hv,hrl]) rfl ?_;have hL:v.L=zeZ (picM (den q n) X2 Y2) wide high:=by rw[hv]
   have hsh:=SU.out;refine⟨v,X2,Y2,0,rfl,?_,?_,?_,?_,.inr ⟨HMO.out.1,true,X2,Y2,V2,H2,BV2.out,.inr ⟨HMO.out.2,rfl,rfl,rfl,?_⟩⟩⟩
   ·rw[hv] at RV ⊢;dsimp only[putG] at RV;rw[hrl] at RV;exact RV
   ·rw[hv];exact⟨hsh.x,hsh.y⟩
   ·rw[hv];exact RN.out
   ·rw[hv] at hbv;dsimp only[putG] at hbv;rw[hrl] at hbv;exact hbv
   ·rw[hL,HWD.out.1,HWD.out.2,Int.toNat_natCast,Int.toNat_natCast]
theorem zsZ (A:Option Addr)(c n:Nat)(q:List Nd)(most:Int)(w:World)(h:Ns w A c q)(hn:q.length=n)(hn9:n≤900000)(hg:zaw q)(hm : -9223372036854775808≤most∧most≤9223372036854775807) :
  Calls Tryz.prog 73 #[.agg #[.slice A n c],.int .i64 most] w (zqU q n most w):=by
 by_cases h1:most<0
 ·exact zsW A c n q most w h hn hn9 hg hm h1
 ·by_cases h2:1000<most
  ·exact zsX A c n q most w h hn hn9 hg hm (by omega) h2
  ·exact zsY A c n q most w h hn hn9 hg hm (by omega) (by omega)
end Go.Proofs.YtfjajpnfjjdnpaaGreatDoor

namespace Go.Proofs.YtfjajpnfjjdnpaaGreatDoor
open Go.RowKit Nds
def vast (v:Cv):Bool:=decide (50<v.xs.length)||decide (50<v.ys.length)
def zbW (l:List Cv)(most:Int):Bool:=decide (most<(l.length:Int))||l.any vast
theorem zoO {l:List Cv}{most:Int}(h1:¬ most<(l.length:Int))(h:∀i,i<l.length→vast (cat l i)=false):zbW l most=false:=by
 unfold zbW;rw[decide_eq_false h1,Bool.false_or];rw[List.any_eq_false];intro v hv;obtain⟨i,hi,rfl⟩:=List.getElem_of_mem hv;have h2:=h i hi;unfold cat at h2;rw[List.getElem?_eq_getElem hi,Option.getD_some] at h2;simp[h2]
theorem ziP {l:List Cv}{most:Int}{i:Nat}(hi:i<l.length)(h:vast (cat l i)=true):zbW l most=true:=by
 unfold zbW;rw[Bool.or_eq_true];exact Or.inr (List.any_eq_true.2 ⟨cat l i,zcD hi,h⟩)
theorem zoP {l:List Cv}{most:Int}(h1:most<(l.length:Int)):zbW l most=true:=by
 unfold zbW;rw[decide_eq_true h1,Bool.true_or]
theorem zgW (A:Option Addr)(c n:Nat)(most:Int)(l:List Cv)(w:World)(h:Cs w A c l)(hn:l.length=n) :
  Calls Tryz.prog 95 #[.slice A n c,.int .i64 most] w fun e w'=>e=.returned (.bool (zbW l most))∧∃q,w'=w.drewN q:=by
 have hcl:=h.cap;rw[hn] at hcl;obtain⟨R,hR⟩:∃R,R=zbW l most:=⟨_,rfl⟩;rw[←hR];have HR:=Hh hR;clear hR;by_cases hl:most<(n:Int)
 ·have t1:decide (most<(n:Int))=true:=decide_eq_true hl;have HL:=Hh (show most<(l.length:Int) by rw[hn];exact hl);clear h hl hn;go_enter Tryz.func95,Tryz.ntmps95;go_wp2_with fail;go_ret;refine⟨?_,0,rfl⟩;rw[HR.out,zoP HL.out];rfl
 ·have t1:decide (most<(n:Int))=false:=decide_eq_false hl;have HNL:=Hh h;have HL:=Hh hn;have HM:=Hh (show(l.length:Int)≤most by rw[hn];exact Int.not_lt.1 hl);clear h hl hn;go_enter Tryz.func95,Tryz.ntmps95;go_wp2_with fail;go_loopw [5] (fun i  wr=>∃(k:Nat) (nd:Nat),wr=w.drewN nd∧k≤n∧i=.int .i64 k∧∀j,j<k→vast (cat l j)=false) (fun i _=>n-(intOf i).toNat)
  case atStart=>exact⟨0,0,rfl,by omega,rfl,fun j hj=>by omega⟩
  case round =>
   obtain⟨k,nd,rfl,hk,rfl,hall⟩:=hrel;have HA:=Hh hall;clear hall;by_cases hlt:k<n
   ·obtain⟨b,off,rfl,hb,hc⟩:=HNL.out.at_ (by rw[HL.out];omega)
    obtain⟨c1,c2,c3,c4,c5⟩:=hc k (by rw[HL.out];exact hlt);have hu:=HNL.out.1 _ (zcD (i:=k) (by rw[HL.out];exact hlt));have hu1:=hu.1.cap;have hu2:=hu.2.1.cap;clear hc hu;obtain⟨x,hx⟩:∃x,x=cat l k:=⟨_,rfl⟩;rw[←hx] at c1 c2 c3 c4 c5 hu1 hu2;have HX:=Hh hx;clear hx;have i1:(k:Int)<(n:Int):=by omega
    have i2:(0:Int)≤(k:Int):=by omega
    by_cases hx1:50<x.xs.length
    ·have t2:decide (50<(x.xs.length:Int))=true:=decide_eq_true (by omega);have HV:=Hh (show vast x=true by unfold vast;rw[decide_eq_true hx1,Bool.true_or]);have HLT:=Hh hlt;clear hx1;go_wp2_with fail;go_ret;refine⟨?_,_,rfl⟩;rw[HR.out,ziP (i:=k) (by rw[HL.out];exact HLT.out) (by rw[←HX.out];exact HV.out)];rfl
    ·have t2:decide (50<(x.xs.length:Int))=false:=decide_eq_false (by omega);by_cases hx2:50<x.ys.length
     ·have t3:decide (50<(x.ys.length:Int))=true:=decide_eq_true (by omega);have HV:=Hh (show vast x=true by unfold vast;rw[decide_eq_true hx2,Bool.or_true]);have HLT:=Hh hlt;clear hx1 hx2;go_wp2_with fail;go_ret;refine⟨?_,_,rfl⟩;rw[HR.out,ziP (i:=k) (by rw[HL.out];exact HLT.out) (by rw[←HX.out];exact HV.out)];rfl
     ·have t3:decide (50<(x.ys.length:Int))=false:=decide_eq_false (by omega);have HV:=Hh (show vast x=false by unfold vast;rw[decide_eq_false hx1,decide_eq_false hx2,Bool.or_false]);clear hx1 hx2;go_wp2_with fail;go_roundw
      case rel =>
       refine⟨k+1,_,rfl,by omega,by go_num,fun j hj=>?_⟩;rcases Nat.lt_or_ge j k with h1|h1
       ·exact HA.out j h1
       ·rw[show j=k by omega,←HX.out];exact HV.out
      case measure=>simp[intOf];omega
   ·have HLT:=Hh hlt;have i1:¬ (k:Int)<(n:Int):=by omega
    have t2:decide ((k:Int)<(n:Int))=false:=decide_eq_false i1;go_wp2_with fail;go_ret;refine⟨?_,_,rfl⟩;rw[HR.out,zoO (Int.not_lt.2 HM.out) (fun i hi=>HA.out i (by rw[HL.out] at hi;omega))];rfl
end Go.Proofs.YtfjajpnfjjdnpaaGreatDoor

namespace Go.Proofs.YtfjajpnfjjdnpaaGreatDoor
open Go.RowKit Nds Num
theorem zmy {l:List Cv}{most:Int}(h:zbW l most=false):(l.length:Int)≤most∧∀v∈l,v.xs.length≤50∧v.ys.length≤50:=by
 unfold zbW at h;rw[Bool.or_eq_false_iff,decide_eq_false_iff_not] at h;refine⟨by omega,fun v hv=>?_⟩;have h2:=List.any_eq_false.1 h.2 v hv;unfold vast at h2;rw[Bool.or_eq_true,decide_eq_true_iff,decide_eq_true_iff] at h2;omega
def mayB (l:List Cv)(most:Int):Bool := !zbW l most&&l.all okC&&decide (zce (zbo (l.map Cv.cl))≤1329)
theorem zoQ {l:List Cv}{most:Int}(h:zbW l most=true):mayB l most=false:=by unfold mayB;rw[h];rfl
theorem zta {l:List Cv}{most:Int}:mayB l most=true↔zbW l most=false∧l.all okC=true∧zce (zbo (l.map Cv.cl))≤1329:=by
 unfold mayB;rw[Bool.and_eq_true,Bool.and_eq_true,decide_eq_true_iff,and_assoc];simp
def zuQ (l:List Cv)(most:Int)(w:World)(e:Ending)(w':World):Prop :=
 ∃A' c' qn q ok,e=.returned (.tuple #[.agg #[.slice A' qn c'],.bool ok])∧q.length=qn∧Ns w' A' c' q∧(A'=none→c'=0)∧Below w.heap.size w w'∧ok=mayB l most∧(ok=false→q=[])∧(ok=true→zcr (zbo (l.map Cv.cl)) q)
theorem zoR (A:Option Addr)(c n:Nat)(most:Int)(l:List Cv)(w:World)(h:Cs w A c l)(hn:l.length=n)(hm:most≤600) :
  Calls Tryz.prog 49 #[.slice A n c,.int .i64 most] w (zuQ l most w):=by
 have hcap:=h.cap;rw[hn] at hcap;obtain⟨W,hW⟩:∃W:World,W=w.alloc (.cells #[.slice none 0 0] 28):=⟨_,rfl⟩;have hb:Below w.heap.size w W:=by rw[hW];exact(Below.refl _ w).alloc (Nat.le_refl _) _
 have hq:W.heap[w.heap.size]?=some (.cells #[.slice none 0 0] 28):=by rw[hW];exact heap_alloc_new w _
 have hWL:w.heap.size<W.heap.size:=by rw[hW];simp
 have HC:=Hh (h.below hb);have HN:=Hh hn;have HW:=Hh hW;have HB:=Hh hb;have HQ:=Hh hq;clear h hn hW hb hq;cases hg:zbW l most with
 | true =>
  have HG:=Hh hg;clear hg;go_enter Tryz.func49,Tryz.ntmps49;go_wp2_with (go_at_call 95;go_loud (rw[←HW.out];refine(zgW A c n most l _ HC.out HN.out).mono ?_;rintro e w2 ⟨rfl,m2,hw2⟩;rw[HG.out];have B2:=Hh (show Below W.heap.size W w2 by rw[hw2];exact zaa (Below.refl _ _) m2);have Q2:=Hh ((B2.out.block w.heap.size hWL).trans HQ.out);have q0:=zab Q2.out;have q1:=zbz Q2.out;clear hw2));have e1:=World.cell?_setCell_same _ _ (.slice none 0 0) q0;refine bodyPost_ret (v:=.tuple #[.agg #[.slice none 0 0],.bool false]) (by simp[results,Tryz.results49,go_sem,e1]) rfl ?_;exact⟨none,0,0,[],false,rfl,rfl,zkQ _,fun _=>rfl,(HB.out.trans (B2.out.mono HB.out.size)).setCell (Nat.le_refl _) _,(zoQ HG.out).symm,fun _=>rfl,fun e=>by cases e⟩
 | false =>
  obtain⟨hn9,hlen⟩:=zmy hg;rw[HN.out] at hn9;have HG:=Hh hg;have HLN:=Hh hlen;have hn6:n≤600:=by omega
  clear hg hlen;go_enter Tryz.func49,Tryz.ntmps49;go_wp2_with (first
   | (go_at_call 95;go_loud (rw[←HW.out];refine(zgW A c n most l _ HC.out HN.out).mono ?_;rintro e w2 ⟨rfl,m2,hw2⟩;rw[HG.out];have B2:=Hh (show Below W.heap.size W w2 by rw[hw2];exact zaa (Below.refl _ _) m2);clear hw2))
   | (go_at_call 96;go_loud (refine(zsO A c n l _ (HC.out.below B2.out) HN.out hn6 (fun v hv=>⟨Nat.le_trans (HLN.out v hv).1 (by omega),Nat.le_trans (HLN.out v hv).2 (by omega)⟩)).mono ?_;rintro e w3 ⟨A3,c3,qn,q,er,rfl,l3,n3,a3,b3,u3,u4⟩;have B3:=Hh (B2.out.trans (b3.mono B2.out.size));have BL:=Hh ((Below.refl w3.heap.size w3).alloc (Nat.le_refl _) (.cells #[.slice A3 qn c3] 28));have Q3:=Hh (((B3.out.trans (BL.out.mono B3.out.size)).block w.heap.size hWL).trans HQ.out);have q0:=zab Q3.out;have q1:=zbz Q3.out;have y0:=zab (heap_alloc_new w3 (.cells #[.slice A3 qn c3] 28));have L3:=Hh l3;have N3:=Hh (n3.below BL.out);have A3':=Hh a3;have U3:=Hh u3;have U4:=Hh u4;clear l3 n3 a3 b3 u3 u4)))
  have e1:=World.cell?_setCell_same _ _ (.slice A3 qn c3) q0;refine bodyPost_ret (v:=.tuple #[.agg #[.slice A3 qn c3],.bool (er==0)]) (by simp[results,Tryz.results49,go_sem,e1]) rfl ?_;have hbb:=HB.out.trans ((B3.out.trans (BL.out.mono B3.out.size)).mono HB.out.size);refine⟨A3,c3,qn,q,_,rfl,L3.out,N3.out.boxed Q3.out,A3'.out,hbb.setCell (Nat.le_refl _) _,?_,?_,?_⟩
  all_goals
   cases hok:l.all okC with
   | false =>
    obtain⟨rfl,rfl⟩:=U3.out hok;simp[mayB,hok]
   | true =>
    by_cases h9:zce (zbo (l.map Cv.cl))≤1329
    ·obtain⟨rfl,h4⟩:=(U4.out hok).2 h9
     first
      | (simp[mayB,hok,h9,HG.out];done)
      | exact fun _=>h4
    ·obtain⟨rfl,rfl⟩:=(U4.out hok).1 (by omega);simp[mayB,hok,h9]
theorem zoS {r a v:Bw}{W W1 W2:World}{X Y:Int}(hr:r.R W X)(ha:a.R W1 Y)(hv:v.R W2 (X+Y))(h1:r.xs.length≤50)(h2:a.xs.length≤50):v.xs.length≤60:=by
 have e1:=zbN (s:=r.s) hr.us.1 h1;have e2:=zbN (s:=a.s) ha.us.1 h2;rw[hr.v] at e1;rw[ha.v] at e2;have:=zbl hv.cn hv.v 51 (zsg e1 e2);omega
end Go.Proofs.YtfjajpnfjjdnpaaGreatDoor
