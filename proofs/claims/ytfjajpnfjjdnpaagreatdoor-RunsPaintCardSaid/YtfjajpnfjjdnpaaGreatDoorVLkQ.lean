import Derived.Test.YtfjajpnfjjdnpaaGreatDoorVClOx

set_option linter.unusedVariables false
set_option linter.unusedSimpArgs false
set_option maxRecDepth 100000
set_option maxHeartbeats 6400000
namespace Go.Proofs.YtfjajpnfjjdnpaaGreatDoor
open Go.RowKit Num
def FrU (B:Nat)(A:Option Addr):Prop:=∀a,A=some a→B≤a.block
def zcW (n:Int)(w:World)(e:Ending)(w':World):Prop :=
 ∃A c s rs,e=.returned (.agg #[.bool s,.slice A rs.length c])∧Us w' A c rs∧zaE s rs∧ival s rs=n∧Below w.heap.size w w'∧FrU w.heap.size A
theorem zcW.box {w w1:World}{g:Nat}{A A0:Option Addr}{c n0 c0:Nat}{s s0:Bool}{rs:List Nat}{n:Int}(hg:w.heap.size≤g)(hb:Box w1 g (.bool s0) (.slice A0 n0 c0))(q:Us w1 A c rs)(k:zaE s rs)(v:ival s rs=n)(b:Below w.heap.size w w1)(f:FrU w.heap.size A) :
  zcW n w (.returned (.agg #[.bool s,.slice A rs.length c])) ((w1.setCell ⟨g,0,none⟩ (.bool s)).setCell ⟨g,1,none⟩ (.slice A rs.length c)) :=
 ⟨A,c,s,rs,rfl,q.boxed hb _ _,k,v,(b.setCell (p:=⟨g,0,none⟩) hg _).setCell (p:=⟨g,1,none⟩) hg _,f⟩
def ztR (n:Nat)(w:World)(e:Ending)(w':World):Prop :=
 ∃A c rs,e=.returned (.slice A rs.length c)∧Us w' A c rs∧zaG rs∧val rs=n∧Below w.heap.size w w'∧FrU w.heap.size A
theorem ztS (A:Option Addr)(c:Nat)(bs:List Bool)(w:World)(h:Bl w A c bs)(hl:bs.length≤100000000) :
  Calls Tryz.prog 157 #[.slice A bs.length c] w (ztR (bval bs) w):=by
 obtain⟨i0,hi,hz0,hz1,hz2⟩:=info_parts Tryz.infoU;have HH:=Hh h;have HI:=Hh (And.intro hi (And.intro hz0 (And.intro hz1 hz2)));clear h hi hz0 hz1 hz2;obtain⟨s,hs⟩:∃s,s=bval bs:=⟨_,rfl⟩;rw[←hs];have HS:=Hh hs;clear hs;go_enter Tryz.func157,Tryz.ntmps157;go_wp2_with (go_at_call 202;refine(zjh A c bs _ HH.out hl).mono ?_;rintro e w0 ⟨n,hn,rfl,hcan,hval,hb0⟩);obtain⟨ds,hds⟩:∃ds,ds=bs.take n:=⟨_,rfl⟩;have hdl:n=ds.length:=by rw[hds,List.length_take,Nat.min_eq_left hn]
 have hD:Bl w0 A c ds:=by rw[hds];exact(HH.out.below hb0).take hn
 rw[←hds] at hcan hval;have hnl:n≤100000000:=by omega
 have HD:=Hh hD;have HDL:=Hh hdl;have HC:=Hh (And.intro hcan hval);have HB0:=Hh hb0;clear hds hdl hD hcan hval hb0 hn hl HH;go_loopw [3,4,5,6,7] (fun v iv _ _ _ wr=>∃i:Nat,i<n+32∧iv=.int .i64 i∧zeW i ds w0 v wr) (fun _ iv _ _ _ _=>n-(intOf iv).toNat)
 case atStart=>exact⟨0,by omega,rfl,zeW.start _ _ _ (Below.refl _ _)⟩
 case round =>
  obtain⟨i,hi,rfl,R⟩:=hrel;have HR:=Hh R;clear R;by_cases hlt:i<n
  ·obtain⟨wo,rfl⟩:∃wo:World,wo=wr:=⟨_,rfl⟩;go_wp2;go_loopw [5,6,7] (fun xv pv kv wr=>∃k x p:Nat,i≤k∧k≤i+32∧k≤n∧kv=.int .i64 (k:Int)∧xv=.int .u32 (x:Int)∧pv=.int .u32 (p:Int)∧OfIn ds i k x p∧wr=wo) (fun _ _ kv _=>i+32-(intOf kv).toNat)
   case atStart=>exact⟨i,0,1,Nat.le_refl _,by omega,by omega,rfl,rfl,rfl,OfIn.start _ _,rfl⟩
   case round =>
    obtain⟨k,x,p,hk1,hk2,hk3,rfl,rfl,rfl,hin,rfl⟩:=hrel;by_cases hgo:k<n∧k<i+32
    ·obtain⟨hg1,hg2⟩:=hgo;obtain⟨b,off,hA,hb,hc⟩:=HD.out.at_ (by rw[←HDL.out];omega)
     have hbw:Below w0.heap.size w0 wr:=by obtain⟨_,_,_,_,_,_,_,_,h⟩:=HR.out;exact h
     have ex:=(hbw.cell (p:=⟨b,off+k,none⟩) hb).trans (hc k (by rw[←HDL.out];exact hg1));obtain⟨bt,hbt⟩:∃bt,bt=ds[k]?.getD false:=⟨_,rfl⟩;rw[←hbt] at ex;obtain⟨hx1,hx2⟩:=hin.bound hk1 hg2;have HN1:=Hh (hin.next hk1 hg2 (by rw[←HDL.out];exact hg1) hbt);clear hc hbt hbw hin;subst hA;cases bt
     ·go_wp2;go_roundw
      case rel=>exact⟨k+1,_,p*2%4294967296,by omega,by omega,by omega,by go_num,rfl,by simp,HN1.out,by first|trivial|rfl⟩
      case measure=>simp[intOf] <;> omega
     ·go_wp2;go_roundw
      case rel=>exact⟨k+1,x+p,p*2%4294967296,by omega,by omega,by omega,by go_num,by simp,by simp,HN1.out,by first|trivial|rfl⟩
      case measure=>simp[intOf] <;> omega
    ·have hx:=hin.last hk1 hk2 (by rw[←HDL.out];exact hk3) (by rw[←HDL.out];omega);obtain⟨q,rs,r0,r1,r2,r3,r4,r5,r6⟩:=HR.out;have HX:=Hh hx;have HO:=Hh (And.intro r0 (And.intro r1 (And.intro r2 (And.intro r3 r6))));have hrl:rs.length≤100000000:=by omega
     clear hx r0 r1 r2 r3 r4 r5 r6 hin HR;have hstop:¬ (k<n∧k<i+32):=hgo;by_cases hkn:k<n
     ·have hki:¬ k<i+32:=by omega
      clear hgo hstop;go_wp2_with (at_builtin;refine wpList_append_own_at _ rfl _ _ 46 rfl w0.heap.size 137 i0 (.int .u32 0) 1 4 Tryz.underlying46 HI.out.1 HI.out.2.1 HI.out.2.2.1 HI.out.2.2.2 rfl (by decide) _ _ _ rfl (HO.out.2.1.2.alloc _) ⟨_,0,none⟩ 1 1 [.int .u32 (x:Int)] rfl rfl (cell_one_new _ _ _) (by simp[Value.oneCell']) (by simp only[maxLen];omega) (by omega) (by have:=HO.out.2.2.2.2.size;simp;omega) ?_;intro v2 w2 own2 grow2 _ at2);go_roundw
      case rel=>exact⟨i+32,by omega,by go_num,zeW.next HO.out.1 HO.out.2.1 HO.out.2.2.1 HO.out.2.2.2.1 HO.out.2.2.2.2 (by rw[←HDL.out];exact hlt) HX.out own2 grow2⟩
      case measure=>simp[intOf] <;> omega
     ·clear hgo hstop;go_wp2_with (at_builtin;refine wpList_append_own_at _ rfl _ _ 46 rfl w0.heap.size 137 i0 (.int .u32 0) 1 4 Tryz.underlying46 HI.out.1 HI.out.2.1 HI.out.2.2.1 HI.out.2.2.2 rfl (by decide) _ _ _ rfl (HO.out.2.1.2.alloc _) ⟨_,0,none⟩ 1 1 [.int .u32 (x:Int)] rfl rfl (cell_one_new _ _ _) (by simp[Value.oneCell']) (by simp only[maxLen];omega) (by omega) (by have:=HO.out.2.2.2.2.size;simp;omega) ?_;intro v2 w2 own2 grow2 _ at2);go_roundw
      case rel=>exact⟨i+32,by omega,by go_num,zeW.next HO.out.1 HO.out.2.1 HO.out.2.2.1 HO.out.2.2.2.1 HO.out.2.2.2.2 (by rw[←HDL.out];exact hlt) HX.out own2 grow2⟩
      case measure=>simp[intOf] <;> omega
  ·obtain⟨q,rs,r0,r1,r2,r3,r4,r5,r6⟩:=HR.out;obtain⟨A1,c1,hv⟩:=r1.shape;subst hv;have HFR:=Hh (show FrU w0.heap.size A1 from fun a ea=>by subst ea;exact(World.ownsRow.lt r1.2 _ rfl).1);have HO:=Hh (And.intro r1 (And.intro r3 (And.intro r5 r6)));clear r0 r1 r2 r3 r4 r5 r6 HR;go_wp2;go_ret;refine⟨A1,c1,rs,rfl,HO.out.1.reads rfl,HO.out.2.2.1 (by rw[←HDL.out];omega) HC.out.1,?_,HB0.out.trans (HO.out.2.2.2.mono HB0.out.size),fun a ea=>Nat.le_trans HB0.out.size (HFR.out a ea)⟩;rw[HO.out.2.1,List.take_of_length_le (by rw[←HDL.out];omega),HC.out.2,HS.out]
theorem zqA (A:Option Addr)(c:Nat)(xs:List Nat)(w:World)(h:Us w A c xs)(hl:xs.length≤1000000) :
  Calls Tryz.prog 143 #[.slice A xs.length c] w (ztR (val xs) w):=by
 have HH:=Hh h;have hd:=h.1;clear h;go_enter Tryz.func143,Tryz.ntmps143;go_wp2_with (first
  | (go_at_call 155;refine(zbw A c xs _ HH.out hl).mono ?_;rintro e w1 ⟨A1,c1,bs,rfl,q1,k1,v1,b1⟩)
  | (go_at_call 157;refine(ztS A1 c1 bs _ q1 (by have:=zbJ hd k1 v1;omega)).mono ?_;rintro e w2 ⟨A2,c2,rs,rfl,q2,k2,v2,b2,f2⟩;have HF:=Hh (And.intro b1.size f2);clear f2))
 go_ret;exact⟨A2,c2,rs,rfl,q2,k2,v2.trans v1,b1.trans (b2.mono b1.size),fun a ea=>Nat.le_trans HF.out.1 (HF.out.2 a ea)⟩
theorem zfr (s:Bool)(A:Option Addr)(c:Nat)(xs:List Nat)(w:World)(h:Us w A c xs)(hl:xs.length≤100000) :
  Calls Tryz.prog 94 #[.bool s,.slice A xs.length c] w (zcW (ival s xs) w):=by
 have hcap:=h.cap;have b0:=Hh ((Below.refl w.heap.size w).alloc (Nat.le_refl _) (.cells #[.bool false,.slice none 0 0] 48));have H1:=Hh h;clear h;go_enter Tryz.func94,Tryz.ntmps94;cases s
 all_goals
  go_wp2_with (go_at_call 143;refine(zqA _ _ xs _ (H1.out.below b0.out) (by omega)).mono ?_;rintro e w1 ⟨A1,c1,r1,rfl,q,k1,v1,b,f1⟩;have HF1:=Hh (show FrU w.heap.size A1 from fun a ea=>Nat.le_trans (by simp) (f1 a ea));clear f1;have hcap1:=q.cap;obtain⟨x1,x2,x3,x4,x5⟩:=(Box.new w _ _ _).below b;have HQ:=Hh (And.intro q (And.intro k1 (And.intro v1 b)));clear q k1 v1 b)
 all_goals
  have HB:=(Box.new w (.bool false) (.slice none 0 0) 48).below HQ.out.2.2.2;have hw1:Below w.heap.size w w1:=b0.out.trans (HQ.out.2.2.2.mono (by simp));clear x1 x2 x3 x4 x5
 ·obtain⟨e1,e2,_,_,_⟩:=HB.set (.bool false) (.slice A1 r1.length c1);refine bodyPost_ret (v:=.agg #[.bool false,.slice A1 r1.length c1]) (by simp[results,Tryz.results94,go_sem,e1,e2]) rfl ?_;exact zcW.box (Nat.le_refl _) HB HQ.out.1 ⟨HQ.out.2.1,by simp⟩ (by unfold ival;simp[HQ.out.2.2.1]) hw1 HF1.out
 ·obtain⟨e1,e2,_,_,_⟩:=HB.set (.bool (decide (0<r1.length))) (.slice A1 r1.length c1);refine bodyPost_ret (v:=.agg #[.bool (decide (0<r1.length)),.slice A1 r1.length c1]) (by simp[results,Tryz.results94,go_sem,e1,e2]) rfl ?_;refine zcW.box (Nat.le_refl _) HB HQ.out.1 (by simpa using zfH HQ.out.2.1 true) ?_ hw1 HF1.out;have:=zjk r1 true;simp only[Bool.true_and] at this;rw[this];unfold ival;simp[HQ.out.2.2.1]
theorem zjH (s:Bool)(A B:Option Addr)(c d:Nat)(xs ys:List Nat)(w:World)(h:Us w A c xs)(k:Us w B d ys)(hl:xs.length≤60000)(kl:ys.length≤60000) :
  Calls Tryz.prog 71 #[.agg #[.bool s,.slice A xs.length c],.agg #[.bool s,.slice B ys.length d]] w (zcW (ival s xs+ival s ys) w):=by
 have hcap:=h.cap;have kcap:=k.cap;obtain⟨hX,hY,hR,hB⟩:=box3 w (.bool s) (.slice A xs.length c) (.bool s) (.slice B ys.length d) (.bool false) (.slice none 0 0) 48;have HX:=Hh hX.drew;have HY:=Hh hY.drew;have HR:=Hh hR.drew;have HB:=Hh (Below.drew' hB);have H1:=Hh (h.below HB.out);have H2:=Hh (k.below HB.out);have hd:=h.1;have kd:=k.1;clear h k hX hY hR hB;have n1:¬ w.heap.size=w.heap.size+1+1:=by omega
 have n2:¬ w.heap.size+1+1=w.heap.size:=by omega
 go_enter Tryz.func71,Tryz.ntmps71;go_wp2_with fail;go_region_held3 (fun w'=>w'.cell? ⟨w.heap.size,0,none⟩=some (.bool s)∧w'.cell? ⟨w.heap.size,1,none⟩=some (.slice A xs.length c)∧w'.cell? ⟨w.heap.size+1,1,none⟩=some (.slice B ys.length d))
  (first|go_keep|fail)
  (first
   | (go_at_call 116;refine(zkt _ _ _ _ xs ys _ H1.out H2.out (by omega) (by omega)).mono ?_;rintro e w1 ⟨A1,c1,r1,rfl,q1,k1,v1,b1⟩;obtain⟨x1,x2,_,_,_⟩:=HX.out.below b1;obtain⟨_,z2,_,_,_⟩:=HY.out.below b1;have l1:=zjl hd kd hl kl k1 v1)
   | (go_at_call 94;refine(zfr s _ _ r1 _ q1 (by omega)).mono ?_;rintro e w2 ⟨A2,c2,s2,r2,rfl,q2,k2,v2,b2,f2⟩;have HF2:=Hh f2;clear f2;obtain⟨x1,x2,_,_,_⟩:=(HX.out.below b1).below b2;obtain⟨_,z2,_,_,_⟩:=(HY.out.below b1).below b2;obtain⟨y1,y2,y3,y4,_⟩:=(HR.out.below b1).below b2))
 go_wp2;obtain⟨e1,e2,_,_,_⟩:=(((HR.out.below b1).below b2).set (.bool s2) (.slice A2 r2.length c2));refine bodyPost_ret (v:=.agg #[.bool s2,.slice A2 r2.length c2]) (by simp[results,Tryz.results71,go_sem,e1,e2]) rfl ?_;refine zcW.box (by omega) ((HR.out.below b1).below b2) q2 k2 (v2.trans ?_) ((HB.out.trans (b1.mono HB.out.size)).trans (b2.mono (HB.out.trans (b1.mono HB.out.size)).size)) (fun a ea=>Nat.le_trans HB.out.size (Nat.le_trans b1.size (HF2.out a ea)));unfold ival;rw[v1];cases s <;> simp <;> omega
theorem zjI (s:Bool)(A B:Option Addr)(c d:Nat)(xs ys:List Nat)(w:World)(h:Us w A c xs)(k:Us w B d ys)(hl:xs.length≤60000)(kl:ys.length≤60000)(hle:val ys≤val xs) :
  Calls Tryz.prog 71 #[.agg #[.bool s,.slice A xs.length c],.agg #[.bool (!s),.slice B ys.length d]] w (zcW (ival s xs+ival (!s) ys) w):=by
 have hcap:=h.cap;have kcap:=k.cap;obtain⟨hX,hY,hR,hB⟩:=box3 w (.bool s) (.slice A xs.length c) (.bool (!s)) (.slice B ys.length d) (.bool false) (.slice none 0 0) 48;have HX:=Hh hX;have HY:=Hh hY;have HR:=Hh hR;have HB:=Hh (hB);have H1:=Hh (h.below HB.out);have H2:=Hh (k.below HB.out);have hd:=h.1;have kd:=k.1;clear h k hX hY hR hB;have n1:¬ w.heap.size=w.heap.size+1+1:=by omega
 have n2:¬ w.heap.size+1+1=w.heap.size:=by omega
 have HL:=Hh hle;clear hle;have hst:(s == !s)=false:=by cases s <;> rfl
 go_enter Tryz.func71,Tryz.ntmps71;go_wp2_with (first
  | (go_at_call_of 117 (Value.slice A xs.length c);go_loud (refine(zdg _ _ _ _ xs ys _ H1.out H2.out (by omega) (by omega)).mono ?_;intro e w1 h;obtain⟨A1,c1,r1,rfl,q1,k1,v1,b1⟩:=h.2 HL.out;clear h;obtain⟨x1,x2,_,_,_⟩:=HX.out.below b1;obtain⟨z1,z2,_,_,_⟩:=HY.out.below b1;have l1:=zdh hd hl k1 v1;have HV:=Hh v1;clear v1))
  | (go_at_call 94;go_loud (refine(zfr s _ _ r1 _ q1 (by omega)).mono ?_;rintro e w2 ⟨A2,c2,s2,r2,rfl,q2,k2,v2,b2,f2⟩;have HF2:=Hh f2;clear f2;obtain⟨y1,y2,y3,y4,_⟩:=(HR.out.below b1).below b2;have HV2:=Hh v2;clear v2)))
 obtain⟨e1,e2,_,_,_⟩:=(((HR.out.below b1).below b2).set (.bool s2) (.slice A2 r2.length c2));refine bodyPost_ret (v:=.agg #[.bool s2,.slice A2 r2.length c2]) (by simp[results,Tryz.results71,go_sem,e1,e2]) rfl ?_;refine zcW.box (by omega) ((HR.out.below b1).below b2) q2 k2 (HV2.out.trans ?_) ((HB.out.trans (b1.mono HB.out.size)).trans (b2.mono (HB.out.trans (b1.mono HB.out.size)).size)) (fun a ea=>Nat.le_trans HB.out.size (Nat.le_trans b1.size (HF2.out a ea)));have hle:=HL.out;unfold ival;rw[HV.out];cases s <;> simp <;> omega
theorem zjJ (s:Bool)(A B:Option Addr)(c d:Nat)(xs ys:List Nat)(w:World)(h:Us w A c xs)(k:Us w B d ys)(hl:xs.length≤60000)(kl:ys.length≤60000)(hle:val xs<val ys) :
  Calls Tryz.prog 71 #[.agg #[.bool s,.slice A xs.length c],.agg #[.bool (!s),.slice B ys.length d]] w (zcW (ival s xs+ival (!s) ys) w):=by
 have hcap:=h.cap;have kcap:=k.cap;obtain⟨hX,hY,hR,hB⟩:=box3 w (.bool s) (.slice A xs.length c) (.bool (!s)) (.slice B ys.length d) (.bool false) (.slice none 0 0) 48;have HX:=Hh hX;have HY:=Hh hY;have HR:=Hh hR;have HB:=Hh (hB);have H1:=Hh (h.below HB.out);have H2:=Hh (k.below HB.out);have hd:=h.1;have kd:=k.1;clear h k hX hY hR hB;have n1:¬ w.heap.size=w.heap.size+1+1:=by omega
 have n2:¬ w.heap.size+1+1=w.heap.size:=by omega
 have HL:=Hh hle;clear hle;have hst:(s == !s)=false:=by cases s <;> rfl
 have tok0:True:=trivial;go_enter Tryz.func71,Tryz.ntmps71;go_wp2_with (first
  | (go_at_call 117;have _t:=tok0;refine(zdg A B _ _ xs ys _ H1.out H2.out (by omega) (by omega)).mono ?_;intro e w1 h;obtain⟨rfl,b1⟩:=h.1 HL.out;clear h tok0 _t;obtain⟨x1,x2,_,_,_⟩:=HX.out.below b1;obtain⟨z1,z2,_,_,_⟩:=HY.out.below b1)
  | (go_at_call 117;go_loud (refine(zdg B A _ _ ys xs _ (H2.out.below b1) (H1.out.below b1) (by omega) (by omega)).mono ?_;intro e w3 h;obtain⟨A1,c1,r1,rfl,q1,k1,v1,b3⟩:=h.2 (Nat.le_of_lt HL.out);clear h x1 x2 z1 z2;obtain⟨x1,x2,_,_,_⟩:=(HX.out.below b1).below b3;obtain⟨z1,z2,_,_,_⟩:=(HY.out.below b1).below b3;have l1:=zdh kd kl k1 v1;have HV:=Hh v1;clear v1))
  | (go_at_call 94;go_loud (refine(zfr (!s) _ _ r1 _ q1 (by omega)).mono ?_;rintro e w2 ⟨A2,c2,s2,r2,rfl,q2,k2,v2,b2,f2⟩;have HF2:=Hh f2;clear f2;obtain⟨y1,y2,y3,y4,_⟩:=((HR.out.below b1).below b3).below b2;have HV2:=Hh v2;clear v2)))
 obtain⟨e1,e2,_,_,_⟩:=((((HR.out.below b1).below b3).below b2).set (.bool s2) (.slice A2 r2.length c2));refine bodyPost_ret (v:=.agg #[.bool s2,.slice A2 r2.length c2]) (by simp[results,Tryz.results71,go_sem,e1,e2]) rfl ?_;have hb1:=HB.out.trans (b1.mono HB.out.size);have hb3:=hb1.trans (b3.mono hb1.size);refine zcW.box (by omega) (((HR.out.below b1).below b3).below b2) q2 k2 (HV2.out.trans ?_) (hb3.trans (b2.mono hb3.size)) (fun a ea=>Nat.le_trans hb3.size (HF2.out a ea));have hle:=HL.out;unfold ival;rw[HV.out];cases s <;> simp <;> omega
theorem zhL (s t:Bool)(A B:Option Addr)(c d:Nat)(xs ys:List Nat)(w:World)(h:Us w A c xs)(k:Us w B d ys)(hl:xs.length≤60000)(kl:ys.length≤60000) :
  Calls Tryz.prog 71 #[.agg #[.bool s,.slice A xs.length c],.agg #[.bool t,.slice B ys.length d]] w (zcW (ival s xs+ival t ys) w):=by
 by_cases hst:s=t
 ·subst hst;exact zjH s A B c d xs ys w h k hl kl
 ·obtain rfl:t = !s:=by cases s <;> cases t <;> simp_all
  rcases Nat.lt_or_ge (val xs) (val ys) with hlt|hge
  ·exact zjJ s A B c d xs ys w h k hl kl hlt
  ·exact zjI s A B c d xs ys w h k hl kl hge
end Go.Proofs.YtfjajpnfjjdnpaaGreatDoor

namespace Go.Proofs.YtfjajpnfjjdnpaaGreatDoor
open Go.RowKit Nds Num
theorem Cs.cells {w:World}{A:Option Addr}{c:Nat}{l:List Cv}{ad:Addr}(h:Cs w A c l)(e:A=some ad):∀j u,(cvcs l)[j]?=some u→w.cell? (ad.add j)=some u:=by
 intro j u hu;have hj:=(List.getElem?_eq_some_iff.1 hu).1;rw[zdY] at hj;obtain⟨b,off,e2,_,hc⟩:=h.at_ (by omega)
 rw[e] at e2;cases e2;obtain⟨i,k,rfl,hk⟩:∃i k,j=i*5+k∧k<5:=⟨j / 5,j%5,by omega,by omega⟩;have hi:i<l.length:=by omega
 rw[zjE l i k hi hk] at hu;obtain⟨h0,h1,h2,h3,h4⟩:=hc i hi;have hadd:(⟨b,off,none⟩:Addr).add (i*5+k)=⟨b,off+i*5+k,none⟩:=by
  unfold Addr.add;split
  ·rename_i h;rw[show off+i*5+k=off by omega]
  ·simp;omega
 rw[hadd]
 match k,hk with
 | 0,_=>exact h0.trans hu
 | 1,_=>exact h1.trans hu
 | 2,_=>exact h2.trans hu
 | 3,_=>exact h3.trans hu
 | 4,_=>exact h4.trans hu
theorem zdZ (w:World)(base:Nat)(v:Value)(xs ys:List Cv)(ty:TypeId)(A:Option Addr)(m c:Nat)(how:OwnC w base v xs)(hN:Cs w A c ys)(hm:ys.length=m)(hA:A=none→c=0)(hs:xs.length+m≤1000000)(hb:base≤w.heap.size) :
  ∃v' w',(Builtin.append_ #[22,22] ty #[v,.slice A m c]).run Tryz.prog w=.ok v' w'∧OwnC w' base v' (xs++ys)∧w.grownBy w' v.ownBlock∧(v'.ownBlock=v.ownBlock∨v'.ownBlock=some w.heap.size):=by
 obtain⟨i0,hi,hz0,hz1,hz2⟩:=info_parts Tryz.infoC;cases A with
 | none =>
  have hc:=hA rfl;have hy:ys=[]:=by
   rcases Nat.eq_zero_or_pos ys.length with h|h
   ·exact List.eq_nil_of_length_eq_zero h
   ·obtain⟨b,off,e,_⟩:=hN.at_ h
    cases e
  subst hy;subst hc;subst hm;refine⟨v,w,run_append_owned_none (P:=Tryz.prog) (w:=w) base _ ty 78 i0 5 Tryz.underlying22 hi v _ _ how,?_,⟨rfl,rfl,rfl,Nat.le_refl _,fun _ _ _=>rfl⟩,.inl rfl⟩;rw[List.append_nil];exact how
 | some ad=>exact zbb w base v xs ys ty ad m c how (hN.cells rfl) hm hs hb
theorem zbc (w:World){ops:Array Oper}{rest:List Oper}{o:Oper}{a:Act}{Q:Exit→Act→World→Prop}(hg:o.guard=none)(s x:Operand)
  (hop:o.op=Op.call { callee:=Callee.builtin Builtin.append,args:=#[s,x],argTypes:=#[22,22] }) (base:Nat) (v:Value) (xs ys:List Cv) (A:Option Addr) (m c:Nat)
  (hs:a.eval s=v) (hx:a.eval x=.slice A m c) (how:OwnC w base v xs) (hN:Cs w A c ys) (hm:ys.length=m) (hA:A=none→c=0) (hsz:xs.length+m≤1000000) (hb:base≤w.heap.size)
  (hK:∀v' w',OwnC w' base v' (xs++ys)→w.grownBy w' v.ownBlock→(v'.ownBlock=v.ownBlock∨v'.ownBlock=some w.heap.size)→wpList Tryz.prog ops Q rest (a.put o.dst v') w') :
  wpList Tryz.prog ops Q (o :: rest) a w:=by
 refine wpList_plain hg fun K hK'=>?_;obtain⟨v',w',hrun,h1,h2,h3⟩:=zdZ w base v xs ys o.type A m c how hN hm hA hsz hb;unfold Oper.wp execOp;simp only[hop,resolve,invoke,builtin,Sem.run_bind,Sem.run_pure,Result.andThen_ok,List.map_toArray,List.map_cons,List.map_nil,hs,hx,hrun];exact hK' _ _ (hK v' w' h1 h2 h3)
def Ori (base:Nat)(P:Nat→Prop)(u:Cv):Prop:=(0<u.xs.length→∀a,u.ax=some a→base≤a.block∨P a.block)∧(0<u.ys.length→∀a,u.ay=some a→base≤a.block∨P a.block)
structure RlO (base:Nat)(P:Nat→Prop)(W:World)(v:Value)(M:List Cv):Prop where
 o:OwnC W base v M
 ok:∀u∈M,CvU W u∧CvR u∧(∀q,v.ownBlock=some q→Off q u)∧Ori base P u
theorem RlO.nil (base:Nat)(P:Nat→Prop)(W:World):RlO base P W (.slice none 0 0) []:=⟨OwnC.nil W base,fun u hu=>by cases hu⟩
theorem RlO.next {base:Nat}{P:Nat→Prop}{W W1:World}{v:Value}{M:List Cv}(h:RlO base P W v M)(k:Below W.heap.size W W1):RlO base P W1 v M :=
 ⟨h.o.kept (gbN k) (zjB (fun q _ e=>by cases e)),fun u hu=>by
  obtain⟨h1,h2⟩:=h.ok u hu;exact⟨h1.below k,h2⟩⟩
theorem RlO.more {base:Nat}{P:Nat→Prop}{W W1:World}{v v2:Value}{M N:List Cv}(h:RlO base P W v M)(hN:∀u∈N,CvU W u∧CvR u∧(∀q,v.ownBlock=some q→Off q u)∧Ori base P u)
  (hf:OwnC W1 base v2 (M++N)) (hg:W.grownBy W1 v.ownBlock) (hat:v2.ownBlock=v.ownBlock∨v2.ownBlock=some W.heap.size):RlO base P W1 v2 (M++N):=by
 have offN:∀u,CvU W u→Off W.heap.size u:=fun u hu=>⟨fun h0 a ea=>by have:=zbv hu.1 h0 a ea;omega,fun h0 a ea=>by have:=zbv hu.2.1 h0 a ea;omega⟩;have turn:∀u,CvU W u→(∀q,v.ownBlock=some q→Off q u)→CvU W1 u:=fun u h1 h2=>by
  cases hv:v.ownBlock with
  | none=>exact h1.below ⟨hg.os,hg.tape,hg.output,hg.size,fun q hq=>hg.block q hq (by rw[hv];simp)⟩
  | some g=>exact zqx h1 (fun q h3 h4=>hg.block q h3 (fun e=>h4 (by rw[hv] at e;cases e;rfl))) hg.size (h2 g hv)
 have off:∀u,CvU W u→(∀q,v.ownBlock=some q→Off q u)→∀q,v2.ownBlock=some q→Off q u:=fun u h1 h2 q hq=>by
  rcases hat with e|e
  ·exact h2 q (e.symm.trans hq)
  ·rw[←Option.some.inj (e.symm.trans hq)];exact offN u h1
 refine⟨hf,fun u hu=>?_⟩;have hu':CvU W u∧CvR u∧(∀q,v.ownBlock=some q→Off q u)∧Ori base P u:=by
  rcases List.mem_append.1 hu with h1|h1
  ·exact h.ok u h1
  ·exact hN u h1
 exact⟨turn u hu'.1 hu'.2.2.1,hu'.2.1,off u hu'.1 hu'.2.2.1,hu'.2.2.2⟩
theorem zbA {s:Bool}{xs:List Nat}{z:Int}(hc:zaE s xs)(hv:ival s xs=z)(h0 : -p2 1330≤z)(h1:z≤p2 1330):xs.length≤50:=by
 refine zbl hc hv 50 ?_;obtain⟨M,hM⟩:∃M,M=50:=⟨_,rfl⟩;obtain⟨N,hN⟩:∃N,N=1330:=⟨_,rfl⟩;rw[←hN] at h0 h1;have h2:(p2 N).natAbs<4294967296^M:=by
  unfold p2;rw[show((2:Int)^N).natAbs=2^N by rw[Int.natAbs_pow];rfl,show(4294967296:Nat)=2^32 by decide,←Nat.pow_mul];exact Nat.pow_lt_pow_right (by decide) (by omega)
 rw[←hM];omega
theorem znS (k:Nat):p2 k=((2^k:Nat):Int):=by
 unfold p2;rw[Int.natCast_pow];rfl
end Go.Proofs.YtfjajpnfjjdnpaaGreatDoor
