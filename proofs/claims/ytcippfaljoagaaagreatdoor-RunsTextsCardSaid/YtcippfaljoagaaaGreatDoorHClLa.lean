import Derived.Test.YtcippfaljoagaaaGreatDoorHClPb
import Derived.ArgAppend

set_option linter.unusedVariables false
set_option linter.unusedSimpArgs false
set_option maxRecDepth 100000
set_option maxHeartbeats 6400000
namespace Go.Proofs.YtcippfaljoagaaaGreatDoor
open Go.RowKit Num
def zuY (n:Nat)(w:World)(e:Ending)(w':World):Prop :=
 ∃A c rs,e=.returned (.slice A rs.length c)∧Us w' A c rs∧zaT rs∧val rs=n∧Below w.heap.size w w'∧FrU w.heap.size A
theorem zuZ (A:Option Addr)(c:Nat)(bs:List Bool)(w:World)(h:Bl w A c bs)(hl:bs.length≤100000000) :
  Calls Tryz.prog 134 #[.slice A bs.length c] w (zuY (bval bs) w):=by
 obtain⟨i0,hi,hz0,hz1,hz2⟩:=info_parts Tryz.infoU;have HH:=Hh h;have HI:=Hh (And.intro hi (And.intro hz0 (And.intro hz1 hz2)));clear h hi hz0 hz1 hz2;obtain⟨s,hs⟩:∃s,s=bval bs:=⟨_,rfl⟩;rw[←hs];have HS:=Hh hs;clear hs;go_enter Tryz.func134,Tryz.ntmps134;go_wp2_with (go_at_call 177;refine(zkr A c bs _ HH.out hl).mono ?_;rintro e w0 ⟨n,hn,rfl,hcan,hval,hb0⟩);obtain⟨ds,hds⟩:∃ds,ds=bs.take n:=⟨_,rfl⟩;have hdl:n=ds.length:=by rw[hds,List.length_take,Nat.min_eq_left hn]
 have hD:Bl w0 A c ds:=by rw[hds];exact(HH.out.below hb0).take hn
 rw[←hds] at hcan hval;have hnl:n≤100000000:=by omega
 have HD:=Hh hD;have HDL:=Hh hdl;have HC:=Hh (And.intro hcan hval);have HB0:=Hh hb0;clear hds hdl hD hcan hval hb0 hn hl HH;go_loopw [3,4,5,6,7] (fun v iv _ _ _ wr=>∃i:Nat,i<n+32∧iv=.int .i64 i∧zfI i ds w0 v wr) (fun _ iv _ _ _ _=>n-(intOf iv).toNat)
 case atStart=>exact⟨0,by omega,rfl,zfI.start _ _ _ (Below.refl _ _)⟩
 case round =>
  obtain⟨i,hi,rfl,R⟩:=hrel;have HR:=Hh R;clear R;by_cases hlt:i<n
  ·obtain⟨wo,rfl⟩:∃wo:World,wo=wr:=⟨_,rfl⟩;go_wp2;go_loopw [5,6,7] (fun xv pv kv wr=>∃k x p:Nat,i≤k∧k≤i+32∧k≤n∧kv=.int .i64 (k:Int)∧xv=.int .u32 (x:Int)∧pv=.int .u32 (p:Int)∧OfIn ds i k x p∧wr=wo) (fun _ _ kv _=>i+32-(intOf kv).toNat)
   case atStart=>exact⟨i,0,1,Nat.le_refl _,by omega,by omega,rfl,rfl,rfl,OfIn.start _ _,rfl⟩
   case round =>
    obtain⟨k,x,p,hk1,hk2,hk3,rfl,rfl,rfl,hin,rfl⟩:=hrel;by_cases hgo:k<n∧k<i+32
    ·obtain⟨hg1,hg2⟩:=hgo;obtain⟨b,off,hA,hb,hc⟩:=HD.out.at_ (by rw[←HDL.out];omega)
     have hbw:Below w0.heap.size w0 wr:=by obtain⟨_,_,_,_,_,_,_,_,h⟩:=HR.out;exact h
     have ex:=(hbw.cell (p:=⟨b,off+k,none⟩) hb).trans (hc k (by rw[←HDL.out];exact hg1));obtain⟨bt,hbt⟩:∃bt,bt=ds[k]?.getD false:=⟨_,rfl⟩;rw[←hbt] at ex;obtain⟨hx1,hx2⟩:=hin.bound hk1 hg2;have HN1:=Hh (hin.next hk1 hg2 (by rw[←HDL.out];exact hg1) hbt);clear hc hbt hbw hin;subst hA;cases bt
     ·go_wp2;go_roundw
      case rel=>exact⟨k+1,_,p*2%4294967296,by omega,by omega,by omega,by go_num,rfl,by simp,HN1.out,by first|trivial|rfl⟩
      case measure=>simp[intOf] <;> omega
     ·go_wp2;go_roundw
      case rel=>exact⟨k+1,x+p,p*2%4294967296,by omega,by omega,by omega,by go_num,by simp,by simp,HN1.out,by first|trivial|rfl⟩
      case measure=>simp[intOf] <;> omega
    ·have hx:=hin.last hk1 hk2 (by rw[←HDL.out];exact hk3) (by rw[←HDL.out];omega);obtain⟨q,rs,r0,r1,r2,r3,r4,r5,r6⟩:=HR.out;have HX:=Hh hx;have HO:=Hh (And.intro r0 (And.intro r1 (And.intro r2 (And.intro r3 r6))));have hrl:rs.length≤100000000:=by omega
     clear hx r0 r1 r2 r3 r4 r5 r6 hin HR;have hstop:¬ (k<n∧k<i+32):=hgo;by_cases hkn:k<n
     ·have hki:¬ k<i+32:=by omega
      clear hgo hstop;go_wp2_with (at_builtin;refine wpList_append_own_at _ rfl _ _ 46 rfl w0.heap.size 121 i0 (.int .u32 0) 1 4 Tryz.underlying46 HI.out.1 HI.out.2.1 HI.out.2.2.1 HI.out.2.2.2 rfl (by decide) _ _ _ rfl (HO.out.2.1.2.alloc _) ⟨_,0,none⟩ 1 1 [.int .u32 (x:Int)] rfl rfl (cell_one_new _ _ _) (by simp[Value.oneCell']) (by simp only[maxLen];omega) (by omega) (by have:=HO.out.2.2.2.2.size;simp;omega) ?_;intro v2 w2 own2 grow2 _ at2);go_roundw
      case rel=>exact⟨i+32,by omega,by go_num,zfI.next HO.out.1 HO.out.2.1 HO.out.2.2.1 HO.out.2.2.2.1 HO.out.2.2.2.2 (by rw[←HDL.out];exact hlt) HX.out own2 grow2⟩
      case measure=>simp[intOf] <;> omega
     ·clear hgo hstop;go_wp2_with (at_builtin;refine wpList_append_own_at _ rfl _ _ 46 rfl w0.heap.size 121 i0 (.int .u32 0) 1 4 Tryz.underlying46 HI.out.1 HI.out.2.1 HI.out.2.2.1 HI.out.2.2.2 rfl (by decide) _ _ _ rfl (HO.out.2.1.2.alloc _) ⟨_,0,none⟩ 1 1 [.int .u32 (x:Int)] rfl rfl (cell_one_new _ _ _) (by simp[Value.oneCell']) (by simp only[maxLen];omega) (by omega) (by have:=HO.out.2.2.2.2.size;simp;omega) ?_;intro v2 w2 own2 grow2 _ at2);go_roundw
      case rel=>exact⟨i+32,by omega,by go_num,zfI.next HO.out.1 HO.out.2.1 HO.out.2.2.1 HO.out.2.2.2.1 HO.out.2.2.2.2 (by rw[←HDL.out];exact hlt) HX.out own2 grow2⟩
      case measure=>simp[intOf] <;> omega
  ·obtain⟨q,rs,r0,r1,r2,r3,r4,r5,r6⟩:=HR.out;obtain⟨A1,c1,hv⟩:=r1.shape;subst hv;have HFR:=Hh (show FrU w0.heap.size A1 from fun a ea=>by subst ea;exact(World.ownsRow.lt r1.2 _ rfl).1);have HO:=Hh (And.intro r1 (And.intro r3 (And.intro r5 r6)));clear r0 r1 r2 r3 r4 r5 r6 HR;go_wp2;go_ret;refine⟨A1,c1,rs,rfl,HO.out.1.reads rfl,HO.out.2.2.1 (by rw[←HDL.out];omega) HC.out.1,?_,HB0.out.trans (HO.out.2.2.2.mono HB0.out.size),fun a ea=>Nat.le_trans HB0.out.size (HFR.out a ea)⟩;rw[HO.out.2.1,List.take_of_length_le (by rw[←HDL.out];omega),HC.out.2,HS.out]
theorem zru (A:Option Addr)(c:Nat)(xs:List Nat)(w:World)(h:Us w A c xs)(hl:xs.length≤1000000) :
  Calls Tryz.prog 118 #[.slice A xs.length c] w (zuY (val xs) w):=by
 have HH:=Hh h;have hd:=h.1;clear h;go_enter Tryz.func118,Tryz.ntmps118;go_wp2_with (first
  | (go_at_call 132;refine(zbL A c xs _ HH.out hl).mono ?_;rintro e w1 ⟨A1,c1,bs,rfl,q1,k1,v1,b1⟩)
  | (go_at_call 134;refine(zuZ A1 c1 bs _ q1 (by have:=zcd hd k1 v1;omega)).mono ?_;rintro e w2 ⟨A2,c2,rs,rfl,q2,k2,v2,b2,f2⟩;have HF:=Hh (And.intro b1.size f2);clear f2))
 go_ret;exact⟨A2,c2,rs,rfl,q2,k2,v2.trans v1,b1.trans (b2.mono b1.size),fun a ea=>Nat.le_trans HF.out.1 (HF.out.2 a ea)⟩
theorem zfY (s:Bool)(A:Option Addr)(c:Nat)(xs:List Nat)(w:World)(h:Us w A c xs)(hl:xs.length≤100000) :
  Calls Tryz.prog 81 #[.bool s,.slice A xs.length c] w (zdZ (ival s xs) w):=by
 have hcap:=h.cap;have b0:=Hh ((Below.refl w.heap.size w).alloc (Nat.le_refl _) (.cells #[.bool false,.slice none 0 0] 48));have H1:=Hh h;clear h;go_enter Tryz.func81,Tryz.ntmps81;cases s
 all_goals
  go_wp2_with (go_at_call 118;refine(zru _ _ xs _ (H1.out.below b0.out) (by omega)).mono ?_;rintro e w1 ⟨A1,c1,r1,rfl,q,k1,v1,b,f1⟩;have HF1:=Hh (show FrU w.heap.size A1 from fun a ea=>Nat.le_trans (by simp) (f1 a ea));clear f1;have hcap1:=q.cap;obtain⟨x1,x2,x3,x4,x5⟩:=(Box.new w _ _ _).below b;have HQ:=Hh (And.intro q (And.intro k1 (And.intro v1 b)));clear q k1 v1 b)
 all_goals
  have HB:=(Box.new w (.bool false) (.slice none 0 0) 48).below HQ.out.2.2.2;have hw1:Below w.heap.size w w1:=b0.out.trans (HQ.out.2.2.2.mono (by simp));clear x1 x2 x3 x4 x5
 ·obtain⟨e1,e2,_,_,_⟩:=HB.set (.bool false) (.slice A1 r1.length c1);refine bodyPost_ret (v:=.agg #[.bool false,.slice A1 r1.length c1]) (by simp[results,Tryz.results81,go_sem,e1,e2]) rfl ?_;exact zdZ.box (Nat.le_refl _) HB HQ.out.1 ⟨HQ.out.2.1,by simp⟩ (by unfold ival;simp[HQ.out.2.2.1]) hw1 HF1.out
 ·obtain⟨e1,e2,_,_,_⟩:=HB.set (.bool (decide (0<r1.length))) (.slice A1 r1.length c1);refine bodyPost_ret (v:=.agg #[.bool (decide (0<r1.length)),.slice A1 r1.length c1]) (by simp[results,Tryz.results81,go_sem,e1,e2]) rfl ?_;refine zdZ.box (Nat.le_refl _) HB HQ.out.1 (by simpa using zgv HQ.out.2.1 true) ?_ hw1 HF1.out;have:=zku r1 true;simp only[Bool.true_and] at this;rw[this];unfold ival;simp[HQ.out.2.2.1]
theorem zkS (s:Bool)(A B:Option Addr)(c d:Nat)(xs ys:List Nat)(w:World)(h:Us w A c xs)(k:Us w B d ys)(hl:xs.length≤60000)(kl:ys.length≤60000) :
  Calls Tryz.prog 65 #[.agg #[.bool s,.slice A xs.length c],.agg #[.bool s,.slice B ys.length d]] w (zdZ (ival s xs+ival s ys) w):=by
 have hcap:=h.cap;have kcap:=k.cap;obtain⟨hX,hY,hR,hB⟩:=box3 w (.bool s) (.slice A xs.length c) (.bool s) (.slice B ys.length d) (.bool false) (.slice none 0 0) 48;have HX:=Hh hX.drew;have HY:=Hh hY.drew;have HR:=Hh hR.drew;have HB:=Hh (Below.drew' hB);have H1:=Hh (h.below HB.out);have H2:=Hh (k.below HB.out);have hd:=h.1;have kd:=k.1;clear h k hX hY hR hB;have n1:¬ w.heap.size=w.heap.size+1+1:=by omega
 have n2:¬ w.heap.size+1+1=w.heap.size:=by omega
 go_enter Tryz.func65,Tryz.ntmps65;go_wp2_with fail;go_region_held3 (fun w'=>w'.cell? ⟨w.heap.size,0,none⟩=some (.bool s)∧w'.cell? ⟨w.heap.size,1,none⟩=some (.slice A xs.length c)∧w'.cell? ⟨w.heap.size+1,1,none⟩=some (.slice B ys.length d))
  (first|go_keep|fail)
  (first
   | (go_at_call 104;refine(zlz _ _ _ _ xs ys _ H1.out H2.out (by omega) (by omega)).mono ?_;rintro e w1 ⟨A1,c1,r1,rfl,q1,k1,v1,b1⟩;obtain⟨x1,x2,_,_,_⟩:=HX.out.below b1;obtain⟨_,z2,_,_,_⟩:=HY.out.below b1;have l1:=zkv hd kd hl kl k1 v1)
   | (go_at_call 81;refine(zfY s _ _ r1 _ q1 (by omega)).mono ?_;rintro e w2 ⟨A2,c2,s2,r2,rfl,q2,k2,v2,b2,f2⟩;have HF2:=Hh f2;clear f2;obtain⟨x1,x2,_,_,_⟩:=(HX.out.below b1).below b2;obtain⟨_,z2,_,_,_⟩:=(HY.out.below b1).below b2;obtain⟨y1,y2,y3,y4,_⟩:=(HR.out.below b1).below b2))
 go_wp2;obtain⟨e1,e2,_,_,_⟩:=(((HR.out.below b1).below b2).set (.bool s2) (.slice A2 r2.length c2));refine bodyPost_ret (v:=.agg #[.bool s2,.slice A2 r2.length c2]) (by simp[results,Tryz.results65,go_sem,e1,e2]) rfl ?_;refine zdZ.box (by omega) ((HR.out.below b1).below b2) q2 k2 (v2.trans ?_) ((HB.out.trans (b1.mono HB.out.size)).trans (b2.mono (HB.out.trans (b1.mono HB.out.size)).size)) (fun a ea=>Nat.le_trans HB.out.size (Nat.le_trans b1.size (HF2.out a ea)));unfold ival;rw[v1];cases s <;> simp <;> omega
theorem zkT (s:Bool)(A B:Option Addr)(c d:Nat)(xs ys:List Nat)(w:World)(h:Us w A c xs)(k:Us w B d ys)(hl:xs.length≤60000)(kl:ys.length≤60000)(hle:val ys≤val xs) :
  Calls Tryz.prog 65 #[.agg #[.bool s,.slice A xs.length c],.agg #[.bool (!s),.slice B ys.length d]] w (zdZ (ival s xs+ival (!s) ys) w):=by
 have hcap:=h.cap;have kcap:=k.cap;obtain⟨hX,hY,hR,hB⟩:=box3 w (.bool s) (.slice A xs.length c) (.bool (!s)) (.slice B ys.length d) (.bool false) (.slice none 0 0) 48;have HX:=Hh hX;have HY:=Hh hY;have HR:=Hh hR;have HB:=Hh (hB);have H1:=Hh (h.below HB.out);have H2:=Hh (k.below HB.out);have hd:=h.1;have kd:=k.1;clear h k hX hY hR hB;have n1:¬ w.heap.size=w.heap.size+1+1:=by omega
 have n2:¬ w.heap.size+1+1=w.heap.size:=by omega
 have HL:=Hh hle;clear hle;have hst:(s == !s)=false:=by cases s <;> rfl
 go_enter Tryz.func65,Tryz.ntmps65;go_wp2_with (first
  | (go_at_call_of 105 (Value.slice A xs.length c);go_loud (refine(zdL _ _ _ _ xs ys _ H1.out H2.out (by omega) (by omega)).mono ?_;intro e w1 h;obtain⟨A1,c1,r1,rfl,q1,k1,v1,b1⟩:=h.2 HL.out;clear h;obtain⟨x1,x2,_,_,_⟩:=HX.out.below b1;obtain⟨z1,z2,_,_,_⟩:=HY.out.below b1;have l1:=zdM hd hl k1 v1;have HV:=Hh v1;clear v1))
  | (go_at_call 81;go_loud (refine(zfY s _ _ r1 _ q1 (by omega)).mono ?_;rintro e w2 ⟨A2,c2,s2,r2,rfl,q2,k2,v2,b2,f2⟩;have HF2:=Hh f2;clear f2;obtain⟨y1,y2,y3,y4,_⟩:=(HR.out.below b1).below b2;have HV2:=Hh v2;clear v2)))
 obtain⟨e1,e2,_,_,_⟩:=(((HR.out.below b1).below b2).set (.bool s2) (.slice A2 r2.length c2));refine bodyPost_ret (v:=.agg #[.bool s2,.slice A2 r2.length c2]) (by simp[results,Tryz.results65,go_sem,e1,e2]) rfl ?_;refine zdZ.box (by omega) ((HR.out.below b1).below b2) q2 k2 (HV2.out.trans ?_) ((HB.out.trans (b1.mono HB.out.size)).trans (b2.mono (HB.out.trans (b1.mono HB.out.size)).size)) (fun a ea=>Nat.le_trans HB.out.size (Nat.le_trans b1.size (HF2.out a ea)));have hle:=HL.out;unfold ival;rw[HV.out];cases s <;> simp <;> omega
theorem zkU (s:Bool)(A B:Option Addr)(c d:Nat)(xs ys:List Nat)(w:World)(h:Us w A c xs)(k:Us w B d ys)(hl:xs.length≤60000)(kl:ys.length≤60000)(hle:val xs<val ys) :
  Calls Tryz.prog 65 #[.agg #[.bool s,.slice A xs.length c],.agg #[.bool (!s),.slice B ys.length d]] w (zdZ (ival s xs+ival (!s) ys) w):=by
 have hcap:=h.cap;have kcap:=k.cap;obtain⟨hX,hY,hR,hB⟩:=box3 w (.bool s) (.slice A xs.length c) (.bool (!s)) (.slice B ys.length d) (.bool false) (.slice none 0 0) 48;have HX:=Hh hX;have HY:=Hh hY;have HR:=Hh hR;have HB:=Hh (hB);have H1:=Hh (h.below HB.out);have H2:=Hh (k.below HB.out);have hd:=h.1;have kd:=k.1;clear h k hX hY hR hB;have n1:¬ w.heap.size=w.heap.size+1+1:=by omega
 have n2:¬ w.heap.size+1+1=w.heap.size:=by omega
 have HL:=Hh hle;clear hle;have hst:(s == !s)=false:=by cases s <;> rfl
 have tok0:True:=trivial;go_enter Tryz.func65,Tryz.ntmps65;go_wp2_with (first
  | (go_at_call 105;have _t:=tok0;refine(zdL A B _ _ xs ys _ H1.out H2.out (by omega) (by omega)).mono ?_;intro e w1 h;obtain⟨rfl,b1⟩:=h.1 HL.out;clear h tok0 _t;obtain⟨x1,x2,_,_,_⟩:=HX.out.below b1;obtain⟨z1,z2,_,_,_⟩:=HY.out.below b1)
  | (go_at_call 105;go_loud (refine(zdL B A _ _ ys xs _ (H2.out.below b1) (H1.out.below b1) (by omega) (by omega)).mono ?_;intro e w3 h;obtain⟨A1,c1,r1,rfl,q1,k1,v1,b3⟩:=h.2 (Nat.le_of_lt HL.out);clear h x1 x2 z1 z2;obtain⟨x1,x2,_,_,_⟩:=(HX.out.below b1).below b3;obtain⟨z1,z2,_,_,_⟩:=(HY.out.below b1).below b3;have l1:=zdM kd kl k1 v1;have HV:=Hh v1;clear v1))
  | (go_at_call 81;go_loud (refine(zfY (!s) _ _ r1 _ q1 (by omega)).mono ?_;rintro e w2 ⟨A2,c2,s2,r2,rfl,q2,k2,v2,b2,f2⟩;have HF2:=Hh f2;clear f2;obtain⟨y1,y2,y3,y4,_⟩:=((HR.out.below b1).below b3).below b2;have HV2:=Hh v2;clear v2)))
 obtain⟨e1,e2,_,_,_⟩:=((((HR.out.below b1).below b3).below b2).set (.bool s2) (.slice A2 r2.length c2));refine bodyPost_ret (v:=.agg #[.bool s2,.slice A2 r2.length c2]) (by simp[results,Tryz.results65,go_sem,e1,e2]) rfl ?_;have hb1:=HB.out.trans (b1.mono HB.out.size);have hb3:=hb1.trans (b3.mono hb1.size);refine zdZ.box (by omega) (((HR.out.below b1).below b3).below b2) q2 k2 (HV2.out.trans ?_) (hb3.trans (b2.mono hb3.size)) (fun a ea=>Nat.le_trans hb3.size (HF2.out a ea));have hle:=HL.out;unfold ival;rw[HV.out];cases s <;> simp <;> omega
theorem zoS (s t:Bool)(A B:Option Addr)(c d:Nat)(xs ys:List Nat)(w:World)(h:Us w A c xs)(k:Us w B d ys)(hl:xs.length≤60000)(kl:ys.length≤60000) :
  Calls Tryz.prog 65 #[.agg #[.bool s,.slice A xs.length c],.agg #[.bool t,.slice B ys.length d]] w (zdZ (ival s xs+ival t ys) w):=by
 by_cases hst:s=t
 ·subst hst;exact zkS s A B c d xs ys w h k hl kl
 ·obtain rfl:t = !s:=by cases s <;> cases t <;> simp_all
  rcases Nat.lt_or_ge (val xs) (val ys) with hlt|hge
  ·exact zkU s A B c d xs ys w h k hl kl hlt
  ·exact zkT s A B c d xs ys w h k hl kl hge
end Go.Proofs.YtcippfaljoagaaaGreatDoor

namespace Go.Proofs.YtcippfaljoagaaaGreatDoor
open Go.RowKit Nds Num
theorem Cs.cells {w:World}{A:Option Addr}{c:Nat}{l:List Cv}{ad:Addr}(h:Cs w A c l)(e:A=some ad):∀j u,(cvcs l)[j]?=some u→w.cell? (ad.add j)=some u:=by
 intro j u hu;have hj:=(List.getElem?_eq_some_iff.1 hu).1;rw[zeL] at hj;obtain⟨b,off,e2,_,hc⟩:=h.at_ (by omega)
 rw[e] at e2;cases e2;obtain⟨i,k,rfl,hk⟩:∃i k,j=i*5+k∧k<5:=⟨j / 5,j%5,by omega,by omega⟩;have hi:i<l.length:=by omega
 rw[zkO l i k hi hk] at hu;obtain⟨h0,h1,h2,h3,h4⟩:=hc i hi;have hadd:(⟨b,off,none⟩:Addr).add (i*5+k)=⟨b,off+i*5+k,none⟩:=by
  unfold Addr.add;split
  ·rename_i h;rw[show off+i*5+k=off by omega]
  ·simp;omega
 rw[hadd]
 match k,hk with
 | 0,_=>exact h0.trans hu
 | 1,_=>exact h1.trans hu
 | 2,_=>exact h2.trans hu
 | 3,_=>exact h3.trans hu
 | 4,_=>exact h4.trans hu
theorem zeM (w:World)(base:Nat)(v:Value)(xs ys:List Cv)(ty:TypeId)(A:Option Addr)(m c:Nat)(how:OwnC w base v xs)(hN:Cs w A c ys)(hm:ys.length=m)(hA:A=none→c=0)(hs:xs.length+m≤1000000)(hb:base≤w.heap.size) :
  ∃v' w',(Builtin.append_ #[22,22] ty #[v,.slice A m c]).run Tryz.prog w=.ok v' w'∧OwnC w' base v' (xs++ys)∧w.grownBy w' v.ownBlock∧(v'.ownBlock=v.ownBlock∨v'.ownBlock=some w.heap.size):=by
 obtain⟨i0,hi,hz0,hz1,hz2⟩:=info_parts Tryz.infoC;cases A with
 | none =>
  have hc:=hA rfl;have hy:ys=[]:=by
   rcases Nat.eq_zero_or_pos ys.length with h|h
   ·exact List.eq_nil_of_length_eq_zero h
   ·obtain⟨b,off,e,_⟩:=hN.at_ h
    cases e
  subst hy;subst hc;subst hm;refine⟨v,w,run_append_owned_none (P:=Tryz.prog) (w:=w) base _ ty 70 i0 5 Tryz.underlying22 hi v _ _ how,?_,⟨rfl,rfl,rfl,Nat.le_refl _,fun _ _ _=>rfl⟩,.inl rfl⟩;rw[List.append_nil];exact how
 | some ad=>exact zbX w base v xs ys ty ad m c how (hN.cells rfl) hm hs hb
theorem zbq (w:World){ops:Array Oper}{rest:List Oper}{o:Oper}{a:Act}{Q:Exit→Act→World→Prop}(hg:o.guard=none)(s x:Operand)
  (hop:o.op=Op.call { callee:=Callee.builtin Builtin.append,args:=#[s,x],argTypes:=#[22,22] }) (base:Nat) (v:Value) (xs ys:List Cv) (A:Option Addr) (m c:Nat)
  (hs:a.eval s=v) (hx:a.eval x=.slice A m c) (how:OwnC w base v xs) (hN:Cs w A c ys) (hm:ys.length=m) (hA:A=none→c=0) (hsz:xs.length+m≤1000000) (hb:base≤w.heap.size)
  (hK:∀v' w',OwnC w' base v' (xs++ys)→w.grownBy w' v.ownBlock→(v'.ownBlock=v.ownBlock∨v'.ownBlock=some w.heap.size)→wpList Tryz.prog ops Q rest (a.put o.dst v') w') :
  wpList Tryz.prog ops Q (o :: rest) a w:=by
 refine wpList_plain hg fun K hK'=>?_;obtain⟨v',w',hrun,h1,h2,h3⟩:=zeM w base v xs ys o.type A m c how hN hm hA hsz hb;unfold Oper.wp execOp;simp only[hop,resolve,invoke,builtin,Sem.run_bind,Sem.run_pure,Result.andThen_ok,List.map_toArray,List.map_cons,List.map_nil,hs,hx,hrun];exact hK' _ _ (hK v' w' h1 h2 h3)
theorem zbg {s:Bool}{xs:List Nat}{z:Int}(hc:zaO s xs)(hv:ival s xs=z)(h0 : -p2 1330≤z)(h1:z≤p2 1330):xs.length≤50:=by
 refine zbN hc hv 50 ?_;obtain⟨M,hM⟩:∃M,M=50:=⟨_,rfl⟩;obtain⟨N,hN⟩:∃N,N=1330:=⟨_,rfl⟩;rw[←hN] at h0 h1;have h2:(p2 N).natAbs<4294967296^M:=by
  unfold p2;rw[show((2:Int)^N).natAbs=2^N by rw[Int.natAbs_pow];rfl,show(4294967296:Nat)=2^32 by decide,←Nat.pow_mul];exact Nat.pow_lt_pow_right (by decide) (by omega)
 rw[←hM];omega
def PXY (A:Option Addr)(xs:List Nat)(B:Option Addr)(ys:List Nat):Nat→Prop:=fun q=>(0<xs.length∧∃a,A=some a∧a.block=q)∨(0<ys.length∧∃a,B=some a∧a.block=q)
section
variable {w:World} {A:Option Addr} {c:Nat} {l:List Nd} {x:Nd} {m:Nat} {sx:Bool} {Ax:Option Addr} {cx:Nat} {xs:List Nat} {sy:Bool} {Ay:Option Addr} {cy:Nat} {ys:List Nat} {gh:Nat} {sh:Bool} {Ah:Option Addr} {ch:Nat} {hs:List Nat} {X Y:Int} {k:Nat} {v:Value} {M:List Cv} {W W1:World}
end
structure RlB (P:Nat→Prop)(B:Nat)(wr:World)(ga gb:Nat)(sa:Bool)(Aa:Option Addr)(ca:Nat)(us:List Nat)(zx:Int)(sb:Bool)(Ab:Option Addr)(cb:Nat)(vs:List Nat)(zy:Int)(wx:World):Prop where
 b:Below wr.heap.size wr wx
 a:HX wx ga sa Aa ca us zx
 d:HX wx gb sb Ab cb vs zy
 gea:wr.heap.size≤ga
 geb:wr.heap.size≤gb
 ne:ga≠gb
 la:0<us.length→∀a,Aa=some a→wr.heap.size≤a.block∨(P a.block∧a.block<B)
 lb:0<vs.length→∀a,Ab=some a→wr.heap.size≤a.block∨(P a.block∧a.block<B)
section
variable {P:Nat→Prop} {B:Nat} {wr:World} {ga gb:Nat} {sa:Bool} {Aa:Option Addr} {ca:Nat} {us:List Nat} {zx:Int} {sb:Bool} {Ab:Option Addr} {cb:Nat} {vs:List Nat} {zy:Int} {wx W1:World}
theorem RlB.next (h:RlB P B wr ga gb sa Aa ca us zx sb Ab cb vs zy wx)(q:Below wx.heap.size wx W1):RlB P B wr ga gb sa Aa ca us zx sb Ab cb vs zy W1 :=
 ⟨h.b.trans (q.mono h.b.size),h.a.next q,h.d.next q,h.gea,h.geb,h.ne,h.la,h.lb⟩
theorem zsH {g g2:Nat}{s:Bool}{A:Option Addr}{c:Nat}{xs:List Nat}{n:Int}{s0:Bool}{A0:Option Addr}{n0 c0:Nat}(h:HX wx g s A c xs n)(hne:g≠g2)(h2:wx.heap[g2]?=some (.cells #[.bool s0,.slice A0 n0 c0] 48))(x y:Value):HX ((wx.setCell ⟨g2,0,none⟩ x).setCell ⟨g2,1,none⟩ y) g s A c xs n:=by
 have hg:=zsG (zfX wx g2 0 x) (zfX _ g2 1 y);exact⟨(hg.block g h.lt (fun e=>hne (Option.some.inj e))).trans h.box,zcI h.us (fun q h1 h3=>hg.block q h1 (fun e=>h3 (by cases e;rfl))) hg.size (zef h.us (zgI h2)),h.cn,h.v,h.off⟩
theorem RlB.setA (h:RlB P B wr ga gb sa Aa ca us zx sb Ab cb vs zy wx){s2:Bool}{A2:Option Addr}{c2:Nat}{xs2:List Nat}{z2:Int}(hu:Us wx A2 c2 xs2)(hc:zaO s2 xs2)(hv:ival s2 xs2=z2)(hf:FrU wr.heap.size A2) :
  RlB P B wr ga gb s2 A2 c2 xs2 z2 sb Ab cb vs zy ((wx.setCell ⟨ga,0,none⟩ (.bool s2)).setCell ⟨ga,1,none⟩ (.slice A2 xs2.length c2)) :=
 ⟨(h.b.setCell (p:=⟨ga,0,none⟩) h.gea _).setCell (p:=⟨ga,1,none⟩) h.gea _,h.a.set hu hc hv,zsH h.d h.ne.symm h.a.box _ _,h.gea,h.geb,h.ne,fun _ a ea=>.inl (hf a ea),h.lb⟩
theorem RlB.setB (h:RlB P B wr ga gb sa Aa ca us zx sb Ab cb vs zy wx){s2:Bool}{A2:Option Addr}{c2:Nat}{xs2:List Nat}{z2:Int}(hu:Us wx A2 c2 xs2)(hc:zaO s2 xs2)(hv:ival s2 xs2=z2)(hf:FrU wr.heap.size A2) :
  RlB P B wr ga gb sa Aa ca us zx s2 A2 c2 xs2 z2 ((wx.setCell ⟨gb,0,none⟩ (.bool s2)).setCell ⟨gb,1,none⟩ (.slice A2 xs2.length c2)) :=
 ⟨(h.b.setCell (p:=⟨gb,0,none⟩) h.geb _).setCell (p:=⟨gb,1,none⟩) h.geb _,zsH h.a h.ne h.d.box _ _,h.d.set hu hc hv,h.gea,h.geb,h.ne,h.la,fun _ a ea=>.inl (hf a ea)⟩
end
theorem znl (wr:World){sx:Bool}{Ax:Option Addr}{cx:Nat}{xs:List Nat}{X:Int}{sy:Bool}{Ay:Option Addr}{cy:Nat}{ys:List Nat}{Y:Int}{P:Nat→Prop}{B gx gy:Nat}(hX:HX wr gx sx Ax cx xs X)(hY:HX wr gy sy Ay cy ys Y)
  (lx:0<xs.length→∀a,Ax=some a→P a.block∧a.block<B) (ly:0<ys.length→∀a,Ay=some a→P a.block∧a.block<B) :
  RlB P B wr wr.heap.size (wr.heap.size+1) sx Ax cx xs X sy Ay cy ys Y (((wr.alloc (.cells #[.bool sx,.slice Ax xs.length cx] 48)).alloc (.cells #[.bool sy,.slice Ay ys.length cy] 48)).drew) ∧
  RlB P B wr (wr.heap.size+1) wr.heap.size sx Ax cx xs X sy Ay cy ys Y (((wr.alloc (.cells #[.bool sy,.slice Ay ys.length cy] 48)).alloc (.cells #[.bool sx,.slice Ax xs.length cx] 48)).drew):=by
 have key:∀(s:Bool) (A:Option Addr) (c:Nat) (zs:List Nat) (t:Bool) (D:Option Addr) (d:Nat) (us:List Nat) (z u:Int),Us wr A c zs→zaO s zs→ival s zs=z→Us wr D d us→zaO t us→ival t us=u →
   Below wr.heap.size wr (((wr.alloc (.cells #[.bool s,.slice A zs.length c] 48)).alloc (.cells #[.bool t,.slice D us.length d] 48)).drew) ∧
   HX (((wr.alloc (.cells #[.bool s,.slice A zs.length c] 48)).alloc (.cells #[.bool t,.slice D us.length d] 48)).drew) wr.heap.size s A c zs z ∧
   HX (((wr.alloc (.cells #[.bool s,.slice A zs.length c] 48)).alloc (.cells #[.bool t,.slice D us.length d] 48)).drew) (wr.heap.size+1) t D d us u:=by
  intro s A c zs t D d us z u h1 h2 h3 k1 k2 k3;have hb:Below wr.heap.size wr (((wr.alloc (.cells #[.bool s,.slice A zs.length c] 48)).alloc (.cells #[.bool t,.slice D us.length d] 48)).drew):=zaa (((Below.refl _ wr).alloc (Nat.le_refl _) _).alloc (by simp) _) 1;refine⟨hb,⟨?_,h1.below hb,h2,h3,fun h0 a ea=>by have:=zbS h1 h0 a ea;omega⟩,⟨?_,k1.below hb,k2,k3,fun h0 a ea=>by have:=zbS k1 h0 a ea;omega⟩⟩
  ·exact(Below.heap_alloc _ _ _ (by simp)).trans (heap_alloc_new wr _)
  ·have h:=heap_alloc_new (wr.alloc (.cells #[.bool s,.slice A zs.length c] 48)) (.cells #[.bool t,.slice D us.length d] 48);rw[show(wr.alloc (.cells #[.bool s,.slice A zs.length c] 48)).heap.size=wr.heap.size+1 by simp] at h;exact h
 obtain⟨b1,x1,y1⟩:=key sx Ax cx xs sy Ay cy ys X Y hX.us hX.cn hX.v hY.us hY.cn hY.v;obtain⟨b2,y2,x2⟩:=key sy Ay cy ys sx Ax cx xs Y X hY.us hY.cn hY.v hX.us hX.cn hX.v;exact⟨⟨b1,x1,y1,Nat.le_refl _,Nat.le_succ _,by omega,fun h0 a ea=>.inr (lx h0 a ea),fun h0 a ea=>.inr (ly h0 a ea)⟩,⟨b2,x2,y2,Nat.le_succ _,Nat.le_refl _,by omega,fun h0 a ea=>.inr (lx h0 a ea),fun h0 a ea=>.inr (ly h0 a ea)⟩⟩
theorem zoT (h:Int){k:Nat}(hk:k<4):(offI h k=0∨offI h k=h)∧(offJ h k=0∨offJ h k=h):=by
 obtain rfl|rfl|rfl|rfl:k=0∨k=1∨k=2∨k=3:=by omega
 ·exact⟨.inl rfl,.inl rfl⟩
 ·exact⟨.inr rfl,.inl rfl⟩
 ·exact⟨.inl rfl,.inr rfl⟩
 ·exact⟨.inr rfl,.inr rfl⟩
theorem zft {X Y:Int}{m k:Nat}(h : -p2 1329≤X∧X+p2 (m+1)≤p2 1329∧-p2 1329≤Y∧Y+p2 (m+1)≤p2 1329)(hk:k<4) : -p2 1329≤X+offI (p2 m) k∧X+offI (p2 m) k+p2 m≤p2 1329∧-p2 1329≤Y+offJ (p2 m) k∧Y+offJ (p2 m) k+p2 m≤p2 1329:=by
 obtain⟨h1,h2⟩:=zoT (p2 m) hk;have h3:=zan m;have h4:=zam m;omega
theorem ztJ {X Y:Int}{m k:Nat}(h : -p2 1329≤X∧X+p2 (m+1)≤p2 1329∧-p2 1329≤Y∧Y+p2 (m+1)≤p2 1329)(hk:k<4) : -p2 1330≤X+offI (p2 m) k∧X+offI (p2 m) k≤p2 1330∧-p2 1330≤Y+offJ (p2 m) k∧Y+offJ (p2 m) k≤p2 1330:=by
 have h1:=zft h hk;have h2:=zam m;have h3:p2 1330=p2 1329+p2 1329:=zan 1329;have h4:=zam 1329;omega
theorem zrv {k:Nat}{h:Int}(e:false=((k:Int)%2==1))(hk:k<4):offI h k=0:=by
 obtain rfl|rfl|rfl|rfl:k=0∨k=1∨k=2∨k=3:=by omega
 ·rfl
 ·cases e
 ·rfl
 ·cases e
theorem zrw {k:Nat}{h:Int}(e:true=((k:Int)%2==1))(hk:k<4):offI h k=h:=by
 obtain rfl|rfl|rfl|rfl:k=0∨k=1∨k=2∨k=3:=by omega
 ·cases e
 ·rfl
 ·cases e
 ·rfl
theorem zoU {k:Nat}{h:Int}(e:false=decide ((k:Int)>1))(hk:k<4):offJ h k=0:=by
 obtain rfl|rfl|rfl|rfl:k=0∨k=1∨k=2∨k=3:=by omega
 ·rfl
 ·rfl
 ·cases e
 ·cases e
theorem zoV {k:Nat}{h:Int}(e:true=decide ((k:Int)>1))(hk:k<4):offJ h k=h:=by
 obtain rfl|rfl|rfl|rfl:k=0∨k=1∨k=2∨k=3:=by omega
 ·cases e
 ·cases e
 ·rfl
 ·rfl
end Go.Proofs.YtcippfaljoagaaaGreatDoor

namespace Go.Proofs.YtcippfaljoagaaaGreatDoor
open Go.RowKit Nds Num Go.Shelf
theorem OwnC.mono {w:World}{base base':Nat}{v:Value}{l:List Cv}(h:OwnC w base v l)(hb:base'≤base):OwnC w base' v l:=by
 refine⟨h.1,?_⟩;rcases h.2 with h|⟨g,cap,cur,e,hb',rest⟩
 ·exact .inl h
 ·exact .inr ⟨g,cap,cur,e,by omega,rest⟩
end Go.Proofs.YtcippfaljoagaaaGreatDoor

namespace Go.Proofs.YtcippfaljoagaaaGreatDoor
open Go.RowKit Nds Num
theorem zoW {v u:Cv}:ordC v u<0↔ltB v.cl u.cl=true:=by
 rw[ziu];unfold ordC ltC Cv.cl;dsimp only;split
 ·rename_i h;rw[zdA] at h;rw[zma];omega
 ·rename_i h;rw[zdA] at h;rw[zma];omega
theorem zoX {v u:Cv}:ordC v u=0↔(v.cl.x=u.cl.x∧v.cl.y=u.cl.y):=by
 unfold ordC Cv.cl;dsimp only;split
 ·rename_i h;rw[zdA] at h;rw[zdA];exact⟨fun e=>⟨e,h⟩,fun e=>e.1⟩
 ·rename_i h;rw[zdA] at h ⊢;exact⟨fun e=>absurd e h,fun e=>absurd e.2 h⟩
def insV:List Cv→Cv→List Cv
 | [],c=>[c]
 | a :: l,c=>if ordC a c<0 then a :: insV l c else if ordC a c=0 then c :: l else c :: a :: l
theorem zoY:∀(l:List Cv) (c:Cv),(insV l c).map Cv.cl=insC (l.map Cv.cl) c.cl
 | [],c=>rfl
 | a :: l,c=>by
  rw[List.map_cons];unfold insV insC;by_cases h1:ordC a c<0
  ·rw[if_pos h1,if_pos (zoW.1 h1),List.map_cons,zoY l c]
  ·rw[if_neg h1,if_neg (fun e=>h1 (zoW.2 e))];by_cases h2:ordC a c=0
   ·rw[if_pos h2,if_pos (zoX.1 h2)];rfl
   ·rw[if_neg h2,if_neg (fun e=>h2 (zoX.2 e))];rfl
theorem zmd:∀{l:List Cv} {c d:Cv},d∈insV l c→d=c∨d∈l
 | [],c,d,h=>.inl (List.mem_singleton.1 h)
 | a :: l,c,d,h=>by
  unfold insV at h;split at h
  ·rcases List.mem_cons.1 h with h|h
   ·exact .inr (by simp[h])
   ·rcases zmd h with h|h
    ·exact .inl h
    ·exact .inr (by simp[h])
  ·split at h
   ·rcases List.mem_cons.1 h with h|h
    ·exact .inl h
    ·exact .inr (by simp[h])
   ·rcases List.mem_cons.1 h with h|h
    ·exact .inl h
    ·exact .inr h
theorem zme:∀(l:List Cv) (c:Cv),(insV l c).length≤l.length+1
 | [],c=>Nat.le_refl _
 | a :: l,c=>by
  unfold insV;split
  ·have:=zme l c;simp only[List.length_cons];omega
  ·split <;> simp
theorem zoZ:∀(l:List Cv) (c:Cv) (p:Nat),p≤l.length→(∀j,j<p→ordC (cat l j) c<0)→(p<l.length→¬ ordC (cat l p) c<0) →
  insV l c=(l.take p++[c])++(l.drop p).drop (if p<l.length∧ordC (cat l p) c=0 then 1 else 0)
 | [],c,p,h,_,_=>by
  obtain rfl:p=0:=by simpa using h
  rfl
 | a :: l,c,0,_,_,h3=>by
  have h4:¬ ordC a c<0:=h3 (by simp);unfold insV;rw[if_neg h4];by_cases h5:ordC a c=0
  ·rw[if_pos h5,if_pos ⟨by simp,h5⟩];rfl
  ·rw[if_neg h5,if_neg (fun e=>h5 e.2)];rfl
 | a :: l,c,p+1,h1,h2,h3=>by
  have h4:ordC a c<0:=h2 0 (by omega);have ih:=zoZ l c p (by simpa using h1) (fun j hj=>h2 (j+1) (by omega)) (fun hp=>h3 (by simpa using hp));unfold insV;rw[if_pos h4,ih];have e:(p+1<(a :: l).length∧ordC (cat (a :: l) (p+1)) c=0)↔(p<l.length∧ordC (cat l p) c=0):=by
   rw[List.length_cons,Nat.add_lt_add_iff_right];rfl
  simp only[e,List.take_succ_cons,List.drop_succ_cons,List.cons_append]
def zeN (l:List Cv):List Cv:=l.foldl insV []
theorem zhF (l:List Cv)(c:Cv):zeN (l++[c])=insV (zeN l) c:=by
 unfold zeN;rw[List.foldl_append];rfl
theorem zhG (l:List Cv):∀k,k≤l.length→(zeN (l.take k)).map Cv.cl=zdn ((l.take k).map Cv.cl)∧(∀u∈zeN (l.take k),u∈l)∧(zeN (l.take k)).length≤k:=by
 intro k
 induction k with
 | zero=>exact fun _=>⟨rfl,(fun u hu=>by cases hu),Nat.le_refl _⟩
 | succ k ih =>
  intro hk;obtain⟨i1,i2,i3⟩:=ih (by omega);rw[List.take_succ_eq_append_getElem (by omega),zhF];refine⟨?_,fun u hu=>?_,?_⟩
  ·rw[zoY,i1,List.map_append,List.map_singleton,zgD]
  ·rcases zmd hu with rfl|hu
   ·exact List.getElem_mem _
   ·exact i2 u hu
  ·have:=zme (zeN (l.take k)) l[k];omega
theorem znm (l:List Cv){k:Nat}(hk:k<l.length):zeN (l.take (k+1))=insV (zeN (l.take k)) (cat l k):=by
 rw[List.take_succ_eq_append_getElem hk,zhF,ziA hk]
theorem Cs.cut {w:World}{A:Option Addr}{c:Nat}{l:List Cv}(h:Cs w A c l)(k:Nat):Cs w A c (l.take k):=by
 refine⟨fun v hv=>h.1 v (List.mem_of_mem_take hv),Nat.le_trans (by rw[List.length_take];omega) h.2.1,h.2.2.1,fun hn=>?_⟩;rw[List.length_take] at hn;obtain⟨b,off,e,hb,hc⟩:=h.2.2.2 (by omega);refine⟨b,off,e,hb,fun i hi=>?_⟩;rw[List.length_take] at hi;have e2:cat (l.take k) i=cat l i:=by
  unfold cat;rw[List.getElem?_take,if_pos (by omega)]
 rw[e2];exact hc i (by omega)
theorem Cs.rest {w:World}{b off c:Nat}{l:List Cv}(h:Cs w (some ⟨b,off,none⟩) c l){k:Nat}(hk:k≤l.length):Cs w (some ⟨b,off+k*5,none⟩) (c-k) (l.drop k):=by
 refine⟨fun v hv=>h.1 v (List.mem_of_mem_drop hv),by have:=h.2.1;rw[List.length_drop];omega,by have:=h.2.2.1;omega,fun hn=>?_⟩;rw[List.length_drop] at hn;obtain⟨b',off',e,hb,hc⟩:=h.2.2.2 (by omega);cases e;refine⟨b,off+k*5,rfl,hb,fun i hi=>?_⟩;rw[List.length_drop] at hi;have e2:cat (l.drop k) i=cat l (k+i):=by
  unfold cat;rw[List.getElem?_drop]
 rw[e2,show off+k*5+i*5=off+(k+i)*5 by omega];exact hc (k+i) (by omega)
theorem zhj (w:World)(y:Cv)(ty:TypeId)(A:Option Addr)(p d:Nat)(xs:List Cv)(ad:Addr)(hp:xs.length=p)(hN:Cs w A d xs)(hA:A=none→p=0)(hy:∀j u,(cvcs [y])[j]?=some u→w.cell? (ad.add j)=some u)(c:Nat)(hs:p+1≤1000000) :
  ∃v' w',(Builtin.append_ #[22,22] ty #[.slice A p p,.slice (some ad) 1 c]).run Tryz.prog w=.ok v' w'∧OwnC w' w.heap.size v' (xs++[y])∧w.grownBy w' none:=by
 obtain⟨i0,hi,hz0,hz1,hz2⟩:=info_parts Tryz.infoC;subst hp;cases A with
 | none =>
  have h0:=List.eq_nil_of_length_eq_zero (hA rfl);subst h0;obtain⟨v',w',hrun,h1,h2,_⟩:=zbX w w.heap.size (.slice none 0 0) [] [y] ty ad 1 c (OwnC.nil w _) hy rfl (by simp) (Nat.le_refl _);exact⟨v',w',hrun,h1,h2⟩
 | some b =>
  obtain⟨v',w',hrun,h1,h2⟩:=run_append_arg_grows (P:=Tryz.prog) w 22 ty 70 i0 (cvv cv0) 5 72 Tryz.underlying22 hi hz0 hz1 hz2 rfl (by omega) b xs.length xs.length (cvcs xs) (zeL xs) (hN.cells rfl) ad 1 c (cvcs [y]) (zeL [y]) hy (by omega) (by simp only[maxLen];omega) (by omega);refine⟨v',w',hrun,?_,h2⟩;unfold OwnC;rw[zmb,List.length_append];exact h1
theorem zaW {w:World}{o:Oper}{a:Act}{K:Act→World→Prop}{Q:Exit→Act→World→Prop}(s x:Operand)
  (hop:o.op=Op.call { callee:=Callee.builtin Builtin.append,args:=#[s,x],argTypes:=#[22,22] }) (y:Cv) (A:Option Addr) (p d:Nat) (xs:List Cv) (ad:Addr) (c:Nat)
  (hs:a.eval s=.slice A p p) (hx:a.eval x=.slice (some ad) 1 c) (hp:xs.length=p) (hN:Cs w A d xs) (hA:A=none→p=0) (hy:∀j u,(cvcs [y])[j]?=some u→w.cell? (ad.add j)=some u) (hsz:p+1≤1000000)
  (h:∀v' w',OwnC w' w.heap.size v' (xs++[y])→w.grownBy w' none→K (a.put o.dst v') w'):Oper.wp Tryz.prog o a w K Q:=by
 obtain⟨v',w',hrun,h1,h2⟩:=zhj w y o.type A p d xs ad hp hN hA hy c hsz;unfold Oper.wp execOp;simp only[hop,resolve,invoke,builtin,Sem.run_bind,Sem.run_pure,Result.andThen_ok,List.map_toArray,List.map_cons,List.map_nil,hs,hx,hrun];exact h v' w' h1 h2
theorem zbc {w:World}{o:Oper}{a:Act}{K:Act→World→Prop}{Q:Exit→Act→World→Prop}(s x:Operand)
  (hop:o.op=Op.call { callee:=Callee.builtin Builtin.append,args:=#[s,x],argTypes:=#[22,22] }) (base:Nat) (v:Value) (xs ys:List Cv) (A:Option Addr) (m c:Nat)
  (hs:a.eval s=v) (hx:a.eval x=.slice A m c) (how:OwnC w base v xs) (hN:Cs w A c ys) (hm:ys.length=m) (hA:A=none→c=0) (hsz:xs.length+m≤1000000) (hb:base≤w.heap.size)
  (h:∀v' w',OwnC w' base v' (xs++ys)→w.grownBy w' v.ownBlock→(v'.ownBlock=v.ownBlock∨v'.ownBlock=some w.heap.size)→K (a.put o.dst v') w'):Oper.wp Tryz.prog o a w K Q:=by
 obtain⟨v',w',hrun,h1,h2,h3⟩:=zeM w base v xs ys o.type A m c how hN hm hA hsz hb;unfold Oper.wp execOp;simp only[hop,resolve,invoke,builtin,Sem.run_bind,Sem.run_pure,Result.andThen_ok,List.map_toArray,List.map_cons,List.map_nil,hs,hx,hrun];exact h v' w' h1 h2 h3
theorem ziE (w:World)(A:Option Addr){c:Nat}(h:c≤maxLen):Cs w A c []:=⟨(fun v hv=>by cases hv),Nat.zero_le _,h,fun h0=>absurd h0 (Nat.lt_irrefl 0)⟩
theorem zcV (w:World){base:Nat}(h:base≤w.heap.size):OwnC (w.alloc (.cells #[] 70)) base (.slice (some ⟨w.heap.size,0,none⟩) 0 0) []:=World.ownsRow_made w #[] 0 h (by simp[maxLen]) rfl
theorem zpa {l M:List Cv}{i p:Nat}{x:Cv}(hM:M=zeN (l.take i))(hx:x=cat l i)(hi:i<l.length)(hp:p≤M.length)(h1:∀j,j<p→ordC (cat M j) x<0)(h2:p<M.length→¬ ordC (cat M p) x<0) :
  zeN (l.take (i+1))=(M.take p++[x])++(M.drop p).drop (if p<M.length∧ordC (cat M p) x=0 then 1 else 0):=by
 rw[znm l hi,←hM,←hx];exact zoZ M x p hp h1 h2
theorem zgK:∀M:List Cv,(M.filter fun u=>u.st != 0).map Cv.cl=(M.map Cv.cl).filter fun c=>c.s != 0
 | []=>rfl
 | u :: M=>by
  have e:(u.cl.s != 0)=(u.st != 0):=by
   show(((u.st:Nat):Int)!=0)=_;rw[Bool.eq_iff_iff];simp
  rw[List.map_cons,List.filter_cons,List.filter_cons,e];split
  ·rw[List.map_cons,zgK M]
  ·exact zgK M
theorem ztK {l M:List Cv}{n:Nat}(hM:M=zeN (l.take n))(hn:l.length=n):(M.filter fun u=>u.st != 0).map Cv.cl=zbC (l.map Cv.cl):=by
 subst hn;rw[zgK,hM,(zhG l l.length (Nat.le_refl _)).1,List.take_length];rfl
theorem zkV {M:List Cv}{q:Nat}{y:Cv}(hq:q<M.length)(hy:y=cat M q):(M.take (q+1)).filter (fun u=>u.st != 0)=(M.take q).filter (fun u=>u.st != 0)++(if y.st=0 then [] else [y]):=by
 rw[List.take_succ_eq_append_getElem hq,List.filter_append,←ziA hq,←hy];congr 1;rw[List.filter_cons,List.filter_nil];by_cases h:y.st=0
 ·rw[if_pos h,if_neg (by rw[h];decide)]
 ·rw[if_neg h,if_pos (by simpa using h)]
end Go.Proofs.YtcippfaljoagaaaGreatDoor
