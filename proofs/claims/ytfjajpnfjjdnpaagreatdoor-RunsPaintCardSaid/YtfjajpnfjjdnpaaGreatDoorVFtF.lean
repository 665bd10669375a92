import Derived.Test.YtfjajpnfjjdnpaaGreatDoorVRuAp

set_option linter.unusedVariables false
set_option linter.unusedSimpArgs false
set_option maxRecDepth 100000
set_option maxHeartbeats 6400000
namespace Go.Proofs.YtfjajpnfjjdnpaaGreatDoor
open Go.RowKit Num Nds Txt
structure P13 (w W:World)(A:Option Addr)(c:Nat)(g2:Nat):Prop where
 b:Below w.heap.size w W
 np:Ns W A c zaB
 k2:W.heap[g2]?=some (.cells #[.string zbF,.slice A 6 c] 30)
theorem P13.next {w W W':World}{A:Option Addr}{c g2:Nat}(h:P13 w W A c g2)(k:Below W.heap.size W W'):P13 w W' A c g2 :=
 ⟨h.b.trans (k.mono h.b.size),h.np.below k,(k.block _ (zag h.k2)).trans h.k2⟩
theorem P13.cells {w W:World}{A:Option Addr}{c g2:Nat}(h:P13 w W A c g2) :
  W.cell? ⟨g2,0,none⟩=some (.string zbF)∧W.cell? ⟨g2,1,none⟩=some (.slice A 6 c) :=
 ⟨(cell_of_row W _ 0 _ _ (0,0) h.k2).trans rfl,(cell_of_row W _ 1 _ _ (0,0) h.k2).trans rfl⟩
theorem P13.start {w w2:World}{A:Option Addr}{c:Nat}(hb:Below w.heap.size w w2)(np:Ns w2 A c zaB) :
  P13 w (w2.alloc (.cells #[.string zbF,.slice A 6 c] 30)) A c w2.heap.size :=
 have a2:=(Below.refl w2.heap.size w2).alloc (Nat.le_refl _) (.cells #[.string zbF,.slice A 6 c] 30)
 ⟨hb.trans (a2.mono hb.size),np.below a2,heap_alloc_new w2 _⟩
theorem zem {W:World}{b off c:Nat}(h:Ts W (some ⟨b,off,none⟩) c zrN) :
  W.cell? ⟨b,off,none⟩=some (.string ⟨#[46]⟩)∧W.cell? ⟨b,off+1,none⟩=some (.string ⟨#[50,66]⟩)∧W.cell? ⟨b,off+2,none⟩=some (.string ⟨#[50,36]⟩)∧W.cell? ⟨b,off+3,none⟩=some (.string ⟨#[112,65]⟩)∧W.cell? ⟨b,off+4,none⟩=some (.string ⟨#[33]⟩):=by
 obtain⟨b',off',e,-,k⟩:=h.at_ (by decide)
 cases e;exact⟨k 0 (by decide),k 1 (by decide),k 2 (by decide),k 3 (by decide),k 4 (by decide)⟩
theorem zdF (w:World):Calls Tryz.prog 29 #[] w fun e w'=>e=.returned (.bool true)∧Below w.heap.size w w':=by
 have q0:True:=trivial;go_enter Tryz.func29,Tryz.ntmps29;rw[show(⟨#[66,51,47,83,50,51]⟩:ByteArray)=zbF from rfl];go_wp2_with (first
  | (have _t:=q0;go_at_call 48;clear _t;go_loud (refine(zaZ 1 _ (by omega) (by omega)).mono ?_;rintro e_ w1 h_;obtain⟨a,rfl,r_,b_⟩:=zaD h_;have hca:=r_.us.cap;have la:=zaR r_ (zcJ (by omega)).1 (zcJ (by omega)).2;have Ra:=Hh r_;have B:=Hh b_;clear h_ r_ b_;have q1:=q0;clear q0))
  | (have _t:=q1;go_at_call 48;clear _t;go_loud (refine(zaZ 2 _ (by omega) (by omega)).mono ?_;rintro e_ w2 h_;obtain⟨b,rfl,r_,b_⟩:=zaD h_;have hcb:=r_.us.cap;have lb:=zaR r_ (zcJ (by omega)).1 (zcJ (by omega)).2;have Ra:=Hh (Ra.out.next b_);have Rb:=Hh r_;have B:=Hh (B.out.trans (b_.mono B.out.size));clear h_ r_ b_;have q2:=q1;clear q1))
  | (have _t:=q2;go_at_call 48;clear _t;go_loud (refine(zaZ 1 _ (by omega) (by omega)).mono ?_;rintro e_ w3 h_;obtain⟨c,rfl,r_,b_⟩:=zaD h_;have hcc:=r_.us.cap;have lc:=zaR r_ (zcJ (by omega)).1 (zcJ (by omega)).2;have Ra:=Hh (Ra.out.next b_);have Rb:=Hh (Rb.out.next b_);have Rc:=Hh r_;have B:=Hh (B.out.trans (b_.mono B.out.size));clear h_ r_ b_;have q3:=q2;clear q2))
  | (have _t:=q3;go_at_call 48;clear _t;go_loud (refine(zaZ 2 _ (by omega) (by omega)).mono ?_;rintro e_ w4 h_;obtain⟨d,rfl,r_,b_⟩:=zaD h_;have hcd:=r_.us.cap;have ld:=zaR r_ (zcJ (by omega)).1 (zcJ (by omega)).2;have Ra:=Hh (Ra.out.next b_);have Rb:=Hh (Rb.out.next b_);have Rc:=Hh (Rc.out.next b_);have Rd:=Hh r_;have B:=Hh (B.out.trans (b_.mono B.out.size));clear h_ r_ b_;have q4:=q3;clear q3))
  | (have _t:=q4;go_at_call 48;clear _t;go_loud (refine(zaZ 1 _ (by omega) (by omega)).mono ?_;rintro e_ w5 h_;obtain⟨e,rfl,r_,b_⟩:=zaD h_;have hce:=r_.us.cap;have le:=zaR r_ (zcJ (by omega)).1 (zcJ (by omega)).2;have Ra:=Hh (Ra.out.next b_);have Rb:=Hh (Rb.out.next b_);have Rc:=Hh (Rc.out.next b_);have Rd:=Hh (Rd.out.next b_);have Re:=Hh r_;have B:=Hh (B.out.trans (b_.mono B.out.size));clear h_ r_ b_;have q5:=q4;clear q4))
  | (have _t:=q5;go_at_call 48;clear _t;go_loud (refine(zaZ 2 _ (by omega) (by omega)).mono ?_;rintro e_ w6 h_;obtain⟨f,rfl,r_,b_⟩:=zaD h_;have hcf:=r_.us.cap;have lf:=zaR r_ (zcJ (by omega)).1 (zcJ (by omega)).2;have Ra:=Hh (Ra.out.next b_);have Rb:=Hh (Rb.out.next b_);have Rc:=Hh (Rc.out.next b_);have Rd:=Hh (Rd.out.next b_);have Re:=Hh (Re.out.next b_);have Rf:=Hh r_;have B:=Hh (B.out.trans (b_.mono B.out.size));clear h_ r_ b_;have q6:=q5;clear q5))
  | (have _t:=q6;go_at_call 48;clear _t;go_loud (refine(zaZ 2 _ (by omega) (by omega)).mono ?_;rintro e_ w7 h_;obtain⟨g,rfl,r_,b_⟩:=zaD h_;have hcg:=r_.us.cap;have lg:=zaR r_ (zcJ (by omega)).1 (zcJ (by omega)).2;have Ra:=Hh (Ra.out.next b_);have Rb:=Hh (Rb.out.next b_);have Rc:=Hh (Rc.out.next b_);have Rd:=Hh (Rd.out.next b_);have Re:=Hh (Re.out.next b_);have Rf:=Hh (Rf.out.next b_);have Rg:=Hh r_;have B:=Hh (B.out.trans (b_.mono B.out.size));clear h_ r_ b_;have q7:=q6;clear q6))
  | (have _t:=q7;go_at_call 48;clear _t;go_loud (refine(zaZ 2 _ (by omega) (by omega)).mono ?_;rintro e_ w8 h_;obtain⟨h,rfl,r_,b_⟩:=zaD h_;have hch:=r_.us.cap;have lh:=zaR r_ (zcJ (by omega)).1 (zcJ (by omega)).2;have Ra:=Hh (Ra.out.next b_);have Rb:=Hh (Rb.out.next b_);have Rc:=Hh (Rc.out.next b_);have Rd:=Hh (Rd.out.next b_);have Re:=Hh (Re.out.next b_);have Rf:=Hh (Rf.out.next b_);have Rg:=Hh (Rg.out.next b_);have Rh:=Hh r_;have B:=Hh (B.out.trans (b_.mono B.out.size));clear h_ r_ b_;have q8:=q7;clear q7))
  | (have _t:=q8;go_at_call 13;clear _t;go_loud (have hal:=(Below.refl w8.heap.size w8).alloc (Nat.le_refl _) (.cells #[.bool a.s,.slice a.a a.xs.length a.c,.bool false,.slice none 0 0,.int .u8 1,.bool b.s,.slice b.a b.xs.length b.c,.bool c.s,.slice c.a c.xs.length c.c,.int .u8 1,.bool false,.slice none 0 0,.bool d.s,.slice d.a d.xs.length d.c,.int .u8 1,.bool e.s,.slice e.a e.xs.length e.c,.bool f.s,.slice f.a f.xs.length f.c,.int .u8 1,.bool g.s,.slice g.a g.xs.length g.c,.bool h.s,.slice h.a h.xs.length h.c,.int .u8 1] 78);have NN:=Hh (show N13 w8 a b c d e f g h from⟨Ra.out,Rb.out,Rc.out,Rd.out,Re.out,Rf.out,Rg.out,Rh.out⟩);refine(zri (some ⟨w8.heap.size,0,none⟩) 5 5 5 zbF (cv13 a b c d e f g h) _ (by decide) (ztj _ _ _ _ _ (heap_alloc_new w8 _) ⟨Ra.out.us.below hal,Us.nil _,by show 1≤255;omega⟩ ⟨Rb.out.us.below hal,Rc.out.us.below hal,by show 1≤255;omega⟩ ⟨Us.nil _,Rd.out.us.below hal,by show 1≤255;omega⟩ ⟨Re.out.us.below hal,Rf.out.us.below hal,by show 1≤255;omega⟩ ⟨Rg.out.us.below hal,Rh.out.us.below hal,by show 1≤255;omega⟩) rfl (by omega)).mono ?_;rintro e_ w9 ⟨A5,c5v,qn,q,ok,rfl,l5,n5,a5,b5,hok,-,hqo⟩;rw[zuo NN.out] at hok;subst hok;have e5:q=zaB:=zjZ (by have:=hqo rfl;rwa [zpu NN.out] at this);subst e5;have e6:qn=6:=l5.symm;subst e6;have hc5:=n5.cap;have N5:=Hh n5;have B2:=Hh (B.out.trans ((hal.trans (b5.mono hal.size)).mono B.out.size));clear l5 n5 a5 b5 hqo hal NN;have q9:=q8;clear q8))
  | (have _t:=q9;go_at_call 30;clear _t;go_loud (have PP:=Hh (P13.start B2.out N5.out);obtain⟨c0,c1⟩:=PP.out.cells;refine(zha A5 c5v 6 zbF zaB 3 0 _ (by decide) PP.out.np rfl (by omega) (by omega) (zrM 3 (by omega))).mono ?_;rintro e_ w10 ⟨er,T,rfl,h_,b_⟩;obtain⟨rfl,rfl⟩:=fc13 h_;clear h_;have PP:=Hh (PP.out.next b_);clear c0 c1 b_;obtain⟨c0,c1⟩:=PP.out.cells;have q10:=q9;clear q9))
  | (have _t:=q10;go_at_call 30;clear _t;go_loud (refine(zha A5 c5v 6 zbF zaB 2 0 _ (by decide) PP.out.np rfl (by omega) (by omega) (zrM 2 (by omega))).mono ?_;rintro e_ w11 ⟨er,T,rfl,h_,b_⟩;have e7:=zuX h_;subst e7;clear h_;have PP:=Hh (PP.out.next b_);clear c0 c1 b_;obtain⟨c0,c1⟩:=PP.out.cells;have q11:=q10;clear q10))
  | (have _t:=q11;go_at_call 33;clear _t;go_loud (have hal:=(Below.refl w11.heap.size w11).alloc (Nat.le_refl _) (.cells #[.string ⟨#[0,2,2]⟩,.string ⟨#[0,0,0]⟩,.string ⟨#[25,0,0]⟩] 9);have PP:=Hh (PP.out.next ((Below.refl w11.heap.size w11).alloc (Nat.le_refl _) (.cells #[.string ⟨#[0,2,2]⟩,.string ⟨#[0,0,0]⟩,.string ⟨#[25,0,0]⟩] 9)));refine(zdE ⟨bw0,bw0,some ⟨w11.heap.size,0,none⟩,3,zlE⟩ _ (zue (heap_alloc_new w11 (.cells #[.string ⟨#[0,2,2]⟩,.string ⟨#[0,0,0]⟩,.string ⟨#[25,0,0]⟩] 9)) (show ∀r∈zlE,r.length≤maxLen from by decide) (show 3≤maxLen from by decide)) (show ∀r∈zlE,r.length≤99 from by decide) (show 3≤99 from by decide)).mono ?_;rintro e_ w12 ⟨At,ct,nt,rfl,ln_,t_,b_⟩;rw[zpt] at ln_ t_;have e8:nt=5:=ln_.symm;subst e8;have hct:=t_.cap;obtain⟨tb,toff,rfl,-,hat⟩:=t_.at_ (by decide);have PP:=Hh (PP.out.next b_);clear c0 c1 b_ hal ln_;have TT:=Hh t_;clear t_;obtain⟨k0,k1,k2,k3,k4⟩:=zem TT.out;clear hat;have q12:=q11;clear q11))
  | (have _t:=q12;go_at_call 36;clear _t;go_loud (refine(zcw false 255 _ (by omega)).mono ?_;rintro e_ w13 ⟨rfl,b_⟩;have PP:=Hh (PP.out.next b_);have TT:=Hh (TT.out.below b_);clear k0 k1 k2 k3 k4 b_;obtain⟨k0,k1,k2,k3,k4⟩:=zem TT.out;have q13:=q12;clear q12))
  | (have _t:=q13;go_at_call 36;clear _t;go_loud (refine(zcw true 48 _ (by omega)).mono ?_;rintro e_ w14 ⟨rfl,b_⟩;have PP:=Hh (PP.out.next b_);have TT:=Hh (TT.out.below b_);clear k0 k1 k2 k3 k4 b_;obtain⟨k0,k1,k2,k3,k4⟩:=zem TT.out;have q14:=q13;clear q13))
  | (have _t:=q14;go_at_call 36;clear _t;go_loud (refine(zcw true 1 _ (by omega)).mono ?_;rintro e_ w15 ⟨rfl,b_⟩;have PP:=Hh (PP.out.next b_);have TT:=Hh (TT.out.below b_);clear k0 k1 k2 k3 k4 b_;obtain⟨k0,k1,k2,k3,k4⟩:=zem TT.out;have q15:=q14;clear q14)))
 go_ret;exact⟨rfl,PP.out.b⟩
theorem zeh.rows {u:Gr}{m:Nat}(h:zeh u m):∀r∈u.L,r.length≤m:=fun r hr=>by
 obtain⟨i,hi,rfl⟩:=List.getElem_of_mem hr;have:=h.2.2.2 i hi;unfold tat at this
 rwa [List.getElem?_eq_getElem hi] at this
theorem ztk {L:List (List UInt8)}{k:Nat}(hk:k<L.length):tat L k∈L:=by
 unfold tat;rw[List.getElem?_eq_getElem hk];exact List.getElem_mem hk
end Go.Proofs.YtfjajpnfjjdnpaaGreatDoor
