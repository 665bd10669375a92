import Derived.Test.YtcippfaljoagaaaGreatDoorGRuAp

set_option linter.unusedVariables false
set_option linter.unusedSimpArgs false
set_option maxRecDepth 100000
set_option maxHeartbeats 6400000
namespace Go.Proofs.YtcippfaljoagaaaGreatDoor
open Go.RowKit Num Nds Txt
structure P13 (w W:World)(A:Option Addr)(c:Nat)(g2:Nat):Prop where
 b:Below w.heap.size w W
 np:Ns W A c zaA
 k2:W.heap[g2]?=some (.cells #[.string zbH,.slice A 6 c] 30)
theorem P13.next {w W W':World}{A:Option Addr}{c g2:Nat}(h:P13 w W A c g2)(k:Below W.heap.size W W'):P13 w W' A c g2 :=
 ⟨h.b.trans (k.mono h.b.size),h.np.below k,(k.block _ (zak h.k2)).trans h.k2⟩
theorem P13.cells {w W:World}{A:Option Addr}{c g2:Nat}(h:P13 w W A c g2) :
  W.cell? ⟨g2,0,none⟩=some (.string zbH)∧W.cell? ⟨g2,1,none⟩=some (.slice A 6 c) :=
 ⟨(cell_of_row W _ 0 _ _ (0,0) h.k2).trans rfl,(cell_of_row W _ 1 _ _ (0,0) h.k2).trans rfl⟩
theorem P13.start {w w2:World}{A:Option Addr}{c:Nat}(hb:Below w.heap.size w w2)(np:Ns w2 A c zaA) :
  P13 w (w2.alloc (.cells #[.string zbH,.slice A 6 c] 30)) A c w2.heap.size :=
 have a2:=(Below.refl w2.heap.size w2).alloc (Nat.le_refl _) (.cells #[.string zbH,.slice A 6 c] 30)
 ⟨hb.trans (a2.mono hb.size),np.below a2,heap_alloc_new w2 _⟩
theorem zen {W:World}{b off c:Nat}(h:Ts W (some ⟨b,off,none⟩) c zrr) :
  W.cell? ⟨b,off,none⟩=some (.string ⟨#[46]⟩)∧W.cell? ⟨b,off+1,none⟩=some (.string ⟨#[50,66]⟩)∧W.cell? ⟨b,off+2,none⟩=some (.string ⟨#[50,36]⟩)∧W.cell? ⟨b,off+3,none⟩=some (.string ⟨#[112,65]⟩)∧W.cell? ⟨b,off+4,none⟩=some (.string ⟨#[33]⟩):=by
 obtain⟨b',off',e,-,k⟩:=h.at_ (by decide)
 cases e;exact⟨k 0 (by decide),k 1 (by decide),k 2 (by decide),k 3 (by decide),k 4 (by decide)⟩
theorem zdD (w:World):Calls Tryz.prog 28 #[] w fun e w'=>e=.returned (.bool true)∧Below w.heap.size w w':=by
 have q0:True:=trivial;go_enter Tryz.func28,Tryz.ntmps28;rw[show(⟨#[66,51,47,83,50,51]⟩:ByteArray)=zbH from rfl];go_wp2_with (first
  | (have _t:=q0;go_at_call 41;clear _t;go_loud (refine(zbi 1 _ (by omega) (by omega)).mono ?_;rintro e_ w1 h_;obtain⟨a,rfl,r_,b_⟩:=zaG h_;have hca:=r_.us.cap;have la:=zbe r_ (zcK (by omega)).1 (zcK (by omega)).2;have Ra:=Hh r_;have B:=Hh b_;clear h_ r_ b_;have q1:=q0;clear q0))
  | (have _t:=q1;go_at_call 41;clear _t;go_loud (refine(zbi 2 _ (by omega) (by omega)).mono ?_;rintro e_ w2 h_;obtain⟨b,rfl,r_,b_⟩:=zaG h_;have hcb:=r_.us.cap;have lb:=zbe r_ (zcK (by omega)).1 (zcK (by omega)).2;have Ra:=Hh (Ra.out.next b_);have Rb:=Hh r_;have B:=Hh (B.out.trans (b_.mono B.out.size));clear h_ r_ b_;have q2:=q1;clear q1))
  | (have _t:=q2;go_at_call 41;clear _t;go_loud (refine(zbi 1 _ (by omega) (by omega)).mono ?_;rintro e_ w3 h_;obtain⟨c,rfl,r_,b_⟩:=zaG h_;have hcc:=r_.us.cap;have lc:=zbe r_ (zcK (by omega)).1 (zcK (by omega)).2;have Ra:=Hh (Ra.out.next b_);have Rb:=Hh (Rb.out.next b_);have Rc:=Hh r_;have B:=Hh (B.out.trans (b_.mono B.out.size));clear h_ r_ b_;have q3:=q2;clear q2))
  | (have _t:=q3;go_at_call 41;clear _t;go_loud (refine(zbi 2 _ (by omega) (by omega)).mono ?_;rintro e_ w4 h_;obtain⟨d,rfl,r_,b_⟩:=zaG h_;have hcd:=r_.us.cap;have ld:=zbe r_ (zcK (by omega)).1 (zcK (by omega)).2;have Ra:=Hh (Ra.out.next b_);have Rb:=Hh (Rb.out.next b_);have Rc:=Hh (Rc.out.next b_);have Rd:=Hh r_;have B:=Hh (B.out.trans (b_.mono B.out.size));clear h_ r_ b_;have q4:=q3;clear q3))
  | (have _t:=q4;go_at_call 41;clear _t;go_loud (refine(zbi 1 _ (by omega) (by omega)).mono ?_;rintro e_ w5 h_;obtain⟨e,rfl,r_,b_⟩:=zaG h_;have hce:=r_.us.cap;have le:=zbe r_ (zcK (by omega)).1 (zcK (by omega)).2;have Ra:=Hh (Ra.out.next b_);have Rb:=Hh (Rb.out.next b_);have Rc:=Hh (Rc.out.next b_);have Rd:=Hh (Rd.out.next b_);have Re:=Hh r_;have B:=Hh (B.out.trans (b_.mono B.out.size));clear h_ r_ b_;have q5:=q4;clear q4))
  | (have _t:=q5;go_at_call 41;clear _t;go_loud (refine(zbi 2 _ (by omega) (by omega)).mono ?_;rintro e_ w6 h_;obtain⟨f,rfl,r_,b_⟩:=zaG h_;have hcf:=r_.us.cap;have lf:=zbe r_ (zcK (by omega)).1 (zcK (by omega)).2;have Ra:=Hh (Ra.out.next b_);have Rb:=Hh (Rb.out.next b_);have Rc:=Hh (Rc.out.next b_);have Rd:=Hh (Rd.out.next b_);have Re:=Hh (Re.out.next b_);have Rf:=Hh r_;have B:=Hh (B.out.trans (b_.mono B.out.size));clear h_ r_ b_;have q6:=q5;clear q5))
  | (have _t:=q6;go_at_call 41;clear _t;go_loud (refine(zbi 2 _ (by omega) (by omega)).mono ?_;rintro e_ w7 h_;obtain⟨g,rfl,r_,b_⟩:=zaG h_;have hcg:=r_.us.cap;have lg:=zbe r_ (zcK (by omega)).1 (zcK (by omega)).2;have Ra:=Hh (Ra.out.next b_);have Rb:=Hh (Rb.out.next b_);have Rc:=Hh (Rc.out.next b_);have Rd:=Hh (Rd.out.next b_);have Re:=Hh (Re.out.next b_);have Rf:=Hh (Rf.out.next b_);have Rg:=Hh r_;have B:=Hh (B.out.trans (b_.mono B.out.size));clear h_ r_ b_;have q7:=q6;clear q6))
  | (have _t:=q7;go_at_call 41;clear _t;go_loud (refine(zbi 2 _ (by omega) (by omega)).mono ?_;rintro e_ w8 h_;obtain⟨h,rfl,r_,b_⟩:=zaG h_;have hch:=r_.us.cap;have lh:=zbe r_ (zcK (by omega)).1 (zcK (by omega)).2;have Ra:=Hh (Ra.out.next b_);have Rb:=Hh (Rb.out.next b_);have Rc:=Hh (Rc.out.next b_);have Rd:=Hh (Rd.out.next b_);have Re:=Hh (Re.out.next b_);have Rf:=Hh (Rf.out.next b_);have Rg:=Hh (Rg.out.next b_);have Rh:=Hh r_;have B:=Hh (B.out.trans (b_.mono B.out.size));clear h_ r_ b_;have q8:=q7;clear q7))
  | (have _t:=q8;go_at_call 12;clear _t;go_loud (have hal:=(Below.refl w8.heap.size w8).alloc (Nat.le_refl _) (.cells #[.bool a.s,.slice a.a a.xs.length a.c,.bool false,.slice none 0 0,.int .u8 1,.bool b.s,.slice b.a b.xs.length b.c,.bool c.s,.slice c.a c.xs.length c.c,.int .u8 1,.bool false,.slice none 0 0,.bool d.s,.slice d.a d.xs.length d.c,.int .u8 1,.bool e.s,.slice e.a e.xs.length e.c,.bool f.s,.slice f.a f.xs.length f.c,.int .u8 1,.bool g.s,.slice g.a g.xs.length g.c,.bool h.s,.slice h.a h.xs.length h.c,.int .u8 1] 70);have NN:=Hh (show N13 w8 a b c d e f g h from⟨Ra.out,Rb.out,Rc.out,Rd.out,Re.out,Rf.out,Rg.out,Rh.out⟩);refine(zqL (some ⟨w8.heap.size,0,none⟩) 5 5 5 zbH (cv13 a b c d e f g h) _ (by decide) (zsK _ _ _ _ _ (heap_alloc_new w8 _) ⟨Ra.out.us.below hal,Us.nil _,by show 1≤255;omega⟩ ⟨Rb.out.us.below hal,Rc.out.us.below hal,by show 1≤255;omega⟩ ⟨Us.nil _,Rd.out.us.below hal,by show 1≤255;omega⟩ ⟨Re.out.us.below hal,Rf.out.us.below hal,by show 1≤255;omega⟩ ⟨Rg.out.us.below hal,Rh.out.us.below hal,by show 1≤255;omega⟩) rfl (by omega)).mono ?_;rintro e_ w9 ⟨A5,c5v,qn,q,ok,rfl,l5,n5,a5,b5,hok,-,hqo⟩;rw[ztQ NN.out] at hok;subst hok;have e5:q=zaA:=zka (by have:=hqo rfl;rwa [zoX NN.out] at this);subst e5;have e6:qn=6:=l5.symm;subst e6;have hc5:=n5.cap;have N5:=Hh n5;have B2:=Hh (B.out.trans ((hal.trans (b5.mono hal.size)).mono B.out.size));clear l5 n5 a5 b5 hqo hal NN;have q9:=q8;clear q8))
  | (have _t:=q9;go_at_call 37;clear _t;go_loud (have PP:=Hh (P13.start B2.out N5.out);obtain⟨c0,c1⟩:=PP.out.cells;refine(zhc A5 c5v 6 zbH zaA 3 0 _ (by decide) PP.out.np rfl (by omega) (by omega) (zrq 3 (by omega))).mono ?_;rintro e_ w10 ⟨er,T,rfl,h_,b_⟩;obtain⟨rfl,rfl⟩:=fc13 h_;clear h_;have PP:=Hh (PP.out.next b_);clear c0 c1 b_;obtain⟨c0,c1⟩:=PP.out.cells;have q10:=q9;clear q9))
  | (have _t:=q10;go_at_call 37;clear _t;go_loud (refine(zhc A5 c5v 6 zbH zaA 2 0 _ (by decide) PP.out.np rfl (by omega) (by omega) (zrq 2 (by omega))).mono ?_;rintro e_ w11 ⟨er,T,rfl,h_,b_⟩;have e7:=zuv h_;subst e7;clear h_;have PP:=Hh (PP.out.next b_);clear c0 c1 b_;obtain⟨c0,c1⟩:=PP.out.cells;have q11:=q10;clear q10))
  | (have _t:=q11;go_at_call 34;clear _t;go_loud (have hal:=(Below.refl w11.heap.size w11).alloc (Nat.le_refl _) (.cells #[.string ⟨#[0,2,2]⟩,.string ⟨#[0,0,0]⟩,.string ⟨#[25,0,0]⟩] 9);have PP:=Hh (PP.out.next ((Below.refl w11.heap.size w11).alloc (Nat.le_refl _) (.cells #[.string ⟨#[0,2,2]⟩,.string ⟨#[0,0,0]⟩,.string ⟨#[25,0,0]⟩] 9)));refine(zdC ⟨bw0,bw0,some ⟨w11.heap.size,0,none⟩,3,zlt⟩ _ (ztD (heap_alloc_new w11 (.cells #[.string ⟨#[0,2,2]⟩,.string ⟨#[0,0,0]⟩,.string ⟨#[25,0,0]⟩] 9)) (show ∀r∈zlt,r.length≤maxLen from by decide) (show 3≤maxLen from by decide)) (show ∀r∈zlt,r.length≤99 from by decide) (show 3≤99 from by decide)).mono ?_;rintro e_ w12 ⟨At,ct,nt,rfl,ln_,t_,b_⟩;rw[zoW] at ln_ t_;have e8:nt=5:=ln_.symm;subst e8;have hct:=t_.cap;obtain⟨tb,toff,rfl,-,hat⟩:=t_.at_ (by decide);have PP:=Hh (PP.out.next b_);clear c0 c1 b_ hal ln_;have TT:=Hh t_;clear t_;obtain⟨k0,k1,k2,k3,k4⟩:=zen TT.out;clear hat;have q12:=q11;clear q11))
  | (have _t:=q12;go_at_call 31;clear _t;go_loud (refine(zcw false 255 _ (by omega)).mono ?_;rintro e_ w13 ⟨rfl,b_⟩;have PP:=Hh (PP.out.next b_);have TT:=Hh (TT.out.below b_);clear k0 k1 k2 k3 k4 b_;obtain⟨k0,k1,k2,k3,k4⟩:=zen TT.out;have q13:=q12;clear q12))
  | (have _t:=q13;go_at_call 31;clear _t;go_loud (refine(zcw true 48 _ (by omega)).mono ?_;rintro e_ w14 ⟨rfl,b_⟩;have PP:=Hh (PP.out.next b_);have TT:=Hh (TT.out.below b_);clear k0 k1 k2 k3 k4 b_;obtain⟨k0,k1,k2,k3,k4⟩:=zen TT.out;have q14:=q13;clear q13))
  | (have _t:=q14;go_at_call 31;clear _t;go_loud (refine(zcw true 1 _ (by omega)).mono ?_;rintro e_ w15 ⟨rfl,b_⟩;have PP:=Hh (PP.out.next b_);have TT:=Hh (TT.out.below b_);clear k0 k1 k2 k3 k4 b_;obtain⟨k0,k1,k2,k3,k4⟩:=zen TT.out;have q15:=q14;clear q14)))
 go_ret;exact⟨rfl,PP.out.b⟩
theorem zms (A A':Option Addr)(c c' n:Nat)(L:List (List UInt8))(w:World)(h:Ts w A c L)(k:Ts w A' c' L)(hn:L.length=n) :
  Calls Tryz.prog 33 #[.slice A n c,.slice A' n c'] w fun e w'=>e=.returned (.bool true)∧Below w.heap.size w w':=by
 have hcap:=h.cap;rw[hn] at hcap;have HA:=Hh h;have HB:=Hh k;have HN:=Hh hn;have t0:((n:Int)!=(n:Int))=false:=by unfold bne;rw[beq_self_eq_true];rfl
 clear h k hn;go_enter Tryz.func33,Tryz.ntmps33;go_wp2_with fail;go_loopw [5] (fun z wr=>∃(k:Nat),z=.int .i64 k∧k≤n∧Below w.heap.size w wr) (fun z _=>n-(intOf z).toNat)
 case atStart=>exact⟨0,rfl,Nat.zero_le _,Below.refl _ _⟩
 case round =>
  obtain⟨k,rfl,hk,hb⟩:=hrel;have HA:=Hh (HA.out.below hb);have HB:=Hh (HB.out.below hb);have BB:=Hh hb;clear hb;by_cases hlt:k<n
  ·have kw:IntKind.i64.wrap ((k:Int)+1)=(k:Int)+1:=IntWalk.i64_in _ (by omega);obtain⟨b,off,rfl,hb,hc⟩:=HA.out.at_ (by rw[HN.out];omega)
   obtain⟨b2,off2,rfl,hb2,hc2⟩:=HB.out.at_ (by rw[HN.out];omega)
   have c1:=hc k (by rw[HN.out];exact hlt);have d1:=hc2 k (by rw[HN.out];exact hlt);unfold strV at c1 d1;have hq:=ztC (tat L k) (tat L k);rw[decide_eq_true rfl] at hq;obtain⟨s,hs⟩:∃s:ByteArray,s=⟨(tat L k).toArray⟩:=⟨_,rfl⟩;rw[←hs] at c1 d1 hq;have hq2:(s.toList != s.toList)=false:=by unfold bne;rw[hq];rfl
   have t1:decide ((k:Int)<(n:Int))=true:=decide_eq_true (by omega);have HK:=Hh hlt;clear hlt hc hc2 hb hb2 hs;go_wp2_with fail;go_quiet (fail);go_wp2_with fail;go_roundw
   case rel=>exact⟨k+1,by go_num,by have:=HK.out;omega,zaa BB.out _⟩
   case measure=>have:=HK.out;simp[intOf];omega
  ·have t9:decide ((k:Int)<(n:Int))=false:=decide_eq_false (by omega);go_wp2_with fail;go_ret;exact⟨rfl,BB.out⟩
theorem zee.rows {u:Gr}{m:Nat}(h:zee u m):∀r∈u.L,r.length≤m:=fun r hr=>by
 obtain⟨i,hi,rfl⟩:=List.getElem_of_mem hr;have:=h.2.2.2 i hi;unfold tat at this
 rwa [List.getElem?_eq_getElem hi] at this
theorem zja (st:Nat)(u:Gr)(w:World)(hst:st≤255)(h:u.U w)(hS:¬ zee u 40) :
  Calls Tryz.prog 7 #[.int .u8 (st:Int),u.val] w fun e w'=>e=.returned (.bool true)∧Below w.heap.size w w':=by
 have hcap:=h.t.cap;have GB:=Hh (GrB.start h);obtain⟨c0,c1,c2,c3,c4⟩:=Gr.cells GB.out.k;have q0:True:=trivial;clear h;go_enter Tryz.func7,Tryz.ntmps7;go_wp2_with (first
  | (have _t:=q0;go_at_call 28;clear _t;go_loud (refine(zdD _).mono ?_;rintro e w1 ⟨rfl,b_⟩;have GB:=Hh (GB.out.next b_);clear c0 c1 c2 c3 c4 b_;obtain⟨c0,c1,c2,c3,c4⟩:=Gr.cells GB.out.k;have q1:=q0;clear q0))
  | (have _t:=q1;go_at_call 29;clear _t;go_loud (refine(zeK u 40 true ⟨fun e=>(by cases e),fun _=>hS⟩ _ GB.out.u (by omega)).mono ?_;rintro e w2 ⟨rfl,b_⟩;have GB:=Hh (GB.out.next b_);clear c0 c1 c2 c3 c4 b_;obtain⟨c0,c1,c2,c3,c4⟩:=Gr.cells GB.out.k;have q2:=q1;clear q1)))
 go_ret;exact⟨rfl,GB.out.b⟩
theorem zmt (st:Nat)(u:Gr)(w:World)(hst:st≤255)(h:u.U w)(hS:zee u 40)(hR:zeQ u=false) :
  Calls Tryz.prog 7 #[.int .u8 (st:Int),u.val] w fun e w'=>e=.returned (.bool true)∧Below w.heap.size w w':=by
 have hcap:=h.t.cap;have GB:=Hh (GrB.start h);obtain⟨c0,c1,c2,c3,c4⟩:=Gr.cells GB.out.k;have q0:True:=trivial;clear h;have HS:=Hh hS;have HR:=Hh hR;clear hS hR;go_enter Tryz.func7,Tryz.ntmps7;go_wp2_with (first
  | (have _t:=q0;go_at_call 28;clear _t;go_loud (refine(zdD _).mono ?_;rintro e w1 ⟨rfl,b_⟩;have GB:=Hh (GB.out.next b_);clear c0 c1 c2 c3 c4 b_;obtain⟨c0,c1,c2,c3,c4⟩:=Gr.cells GB.out.k;have q1:=q0;clear q0))
  | (have _t:=q1;go_at_call 29;clear _t;go_loud (refine(zeK u 40 false ⟨fun _=>HS.out,fun e=>(by cases e)⟩ _ GB.out.u (by omega)).mono ?_;rintro e w2 ⟨rfl,b_⟩;have GB:=Hh (GB.out.next b_);clear c0 c1 c2 c3 c4 b_;obtain⟨c0,c1,c2,c3,c4⟩:=Gr.cells GB.out.k;have q2:=q1;clear q1))
  | (have _t:=q2;go_at_call 30;clear _t;go_loud (refine(zgh u _ GB.out.u (by have:=HS.out.1;omega) (by have:=HS.out.2.1;omega) (by have:=HS.out.2.2.1;omega)).mono ?_;rintro e w3 ⟨rfl,b_⟩;rw[HR.out];have GB:=Hh (GB.out.next b_);clear c0 c1 c2 c3 c4 b_;obtain⟨c0,c1,c2,c3,c4⟩:=Gr.cells GB.out.k;have q3:=q2;clear q2)))
 go_ret;exact⟨rfl,GB.out.b⟩
theorem zkb (st:Nat)(u:Gr)(w:World)(hst:st≤255)(h:u.U w)(hS:zee u 40)(hR:zeQ u=true) :
  Calls Tryz.prog 7 #[.int .u8 (st:Int),u.val] w fun e w'=>e=.returned (.bool true)∧Below w.heap.size w w':=by
 have hcap:=h.t.cap;have GB:=Hh (GrB.start h);obtain⟨c0,c1,c2,c3,c4⟩:=Gr.cells GB.out.k;have q0:True:=trivial;clear h;have HS:=Hh hS;have HR:=Hh hR;have HT:=Hh hst;clear hS hR;obtain⟨s1,e1⟩:∃s:ByteArray,s=⟨(sgnR true st).toArray⟩:=⟨_,rfl⟩;obtain⟨s2,e2⟩:∃s:ByteArray,s=⟨(sgnR false st).toArray⟩:=⟨_,rfl⟩;have E1:=Hh e1;have E2:=Hh e2;clear e1 e2;have y1:(s1.toList==s1.toList)=true:=beq_self_eq_true _;have y2:(s2.toList==s2.toList)=true:=beq_self_eq_true _;go_enter Tryz.func7,Tryz.ntmps7;go_upto_region 5 with(first
  | (have _t:=q0;go_at_call 28;clear _t;go_loud (refine(zdD _).mono ?_;rintro e w1 ⟨rfl,b_⟩;have GB:=Hh (GB.out.next b_);clear c0 c1 c2 c3 c4 b_;obtain⟨c0,c1,c2,c3,c4⟩:=Gr.cells GB.out.k;have q1:=q0;clear q0))
  | (have _t:=q1;go_at_call 29;clear _t;go_loud (refine(zeK u 40 false ⟨fun _=>HS.out,fun e=>(by cases e)⟩ _ GB.out.u (by omega)).mono ?_;rintro e w2 ⟨rfl,b_⟩;have GB:=Hh (GB.out.next b_);clear c0 c1 c2 c3 c4 b_;obtain⟨c0,c1,c2,c3,c4⟩:=Gr.cells GB.out.k;have q2:=q1;clear q1))
  | (have _t:=q2;go_at_call 30;clear _t;go_loud (refine(zgh u _ GB.out.u (by have:=HS.out.1;omega) (by have:=HS.out.2.1;omega) (by have:=HS.out.2.2.1;omega)).mono ?_;rintro e w3 ⟨rfl,b_⟩;rw[HR.out];have GB:=Hh (GB.out.next b_);clear c0 c1 c2 c3 c4 b_;obtain⟨c0,c1,c2,c3,c4⟩:=Gr.cells GB.out.k;have q3:=q2;clear q2)))
 have p0:=GB.out.next (Below.drew' (Below.refl _ w3));clear GB c0 c1 c2 c3 c4 q3;go_region_held3 (fun w'=>w'.cell? ⟨w.heap.size,0,none⟩=some (.bool u.x.s)∧w'.cell? ⟨w.heap.size,1,none⟩=some (.slice u.x.a u.x.xs.length u.x.c)∧w'.cell? ⟨w.heap.size,2,none⟩=some (.bool u.y.s)∧w'.cell? ⟨w.heap.size,3,none⟩=some (.slice u.y.a u.y.xs.length u.y.c)∧w'.cell? ⟨w.heap.size,4,none⟩=some (.slice u.a u.L.length u.c))
  (exact Gr.cells (GrB.k (by assumption)))
  (first
  | (have _t:=p0;go_at_call 31;clear _t;go_loud (refine(zcw true st _ HT.out).mono ?_;rintro e v1 ⟨rfl,b_⟩;rw[←E1.out];have p1:=p0.next b_;clear p0 b_))
  | (have _t:=p1;go_at_call 32;clear _t;go_loud (refine(zbt true st _ HT.out).mono ?_;rintro e v2 ⟨rfl,b_⟩;rw[←E1.out];have p2:=p1.next b_;clear p1 b_))
  | (have _t:=p2;go_at_call 31;clear _t;go_loud (refine(zcw false st _ HT.out).mono ?_;rintro e v3 ⟨rfl,b_⟩;rw[←E2.out];have p3:=p2.next b_;clear p2 b_))
  | (have _t:=p3;go_at_call 32;clear _t;go_loud (refine(zbt false st _ HT.out).mono ?_;rintro e v4 ⟨rfl,b_⟩;rw[←E2.out];have p4:=p3.next b_;clear p3 b_))
  | (have _t:=p4;go_at_call 34;clear _t;go_loud (refine(zdC u _ p4.u.t (fun r hr=>by have:=HS.out.rows r hr;omega) (by have:=HS.out.1;omega)).mono ?_;rintro e v5 ⟨A1,k1,n1,rfl,l1,t1,b_⟩;have p5:=p4.next b_;clear p4 b_))
  | (have _t:=p5;go_at_call 35;clear _t;go_loud (refine(zjY u _ p5.u (fun r hr=>by have:=HS.out.rows r hr;omega) (by have:=HS.out.1;omega)).mono ?_;rintro e v6 ⟨A2,k2,n2,rfl,l2,t2,b_⟩;obtain rfl:n2=n1:=l2.symm.trans l1;have p6:=p5.next b_;have t1:=t1.below b_;clear p5 b_))
  | (have _t:=p6;go_at_call 33;clear _t;go_loud (refine(zms A1 A2 k1 k2 _ (zbn u.L) _ t1 t2 l1).mono ?_;rintro e v7 ⟨rfl,b_⟩;have p7:=p6.next b_;clear p6 t1 t2 l1 l2 b_)))
 have P7:=Hh p7;clear p7;go_wp2_with fail;go_ret;exact⟨rfl,P7.out.b⟩
theorem zmu (st:Nat)(u:Gr)(w:World)(hst:st≤255)(h:u.U w) :
  Calls Tryz.prog 7 #[.int .u8 (st:Int),u.val] w fun e w'=>e=.returned (.bool true)∧Below w.heap.size w w':=by
 by_cases hS:zee u 40
 ·cases hR:zeQ u with
  | true=>exact zkb st u w hst h hS hR
  | false=>exact zmt st u w hst h hS hR
 ·exact zja st u w hst h hS
end Go.Proofs.YtcippfaljoagaaaGreatDoor
