import Derived.Test.YtfjajpnfjjdnpaaGreatDoorWClPb

set_option linter.unusedVariables false
set_option linter.unusedSimpArgs false
set_option maxRecDepth 100000
set_option maxHeartbeats 6400000
namespace Go.Proofs.YtfjajpnfjjdnpaaGreatDoor
open Go.RowKit Num
def zvp (n:Nat)(w:World)(e:Ending)(w':World):Prop :=
 ∃A c rs,e=.returned (.slice A rs.length c)∧Us w' A c rs∧zaI rs∧val rs=n∧Below w.heap.size w w'∧FrU w.heap.size A
theorem zvq (A:Option Addr)(c:Nat)(bs:List Bool)(w:World)(h:Bl w A c bs)(hl:bs.length≤100000000) :
  Calls Tryz.prog 157 #[.slice A bs.length c] w (zvp (bval bs) w):=by
 obtain⟨i0,hi,hz0,hz1,hz2⟩:=info_parts Tryz.infoU;have HH:=Hh h;have HI:=Hh (And.intro hi (And.intro hz0 (And.intro hz1 hz2)));clear h hi hz0 hz1 hz2;obtain⟨s,hs⟩:∃s,s=bval bs:=⟨_,rfl⟩;rw[←hs];have HS:=Hh hs;clear hs;go_enter Tryz.func157,Tryz.ntmps157;go_wp2_with (go_at_call 202;refine(zkt A c bs _ HH.out hl).mono ?_;rintro e w0 ⟨n,hn,rfl,hcan,hval,hb0⟩);obtain⟨ds,hds⟩:∃ds,ds=bs.take n:=⟨_,rfl⟩;have hdl:n=ds.length:=by rw[hds,List.length_take,Nat.min_eq_left hn]
 have hD:Bl w0 A c ds:=by rw[hds];exact(HH.out.below hb0).take hn
 rw[←hds] at hcan hval;have hnl:n≤100000000:=by omega
 have HD:=Hh hD;have HDL:=Hh hdl;have HC:=Hh (And.intro hcan hval);have HB0:=Hh hb0;clear hds hdl hD hcan hval hb0 hn hl HH;go_loopw [3,4,5,6,7] (fun v iv _ _ _ wr=>∃i:Nat,i<n+32∧iv=.int .i64 i∧zfB i ds w0 v wr) (fun _ iv _ _ _ _=>n-(intOf iv).toNat)
 case atStart=>exact⟨0,by omega,rfl,zfB.start _ _ _ (Below.refl _ _)⟩
 case round =>
  obtain⟨i,hi,rfl,R⟩:=hrel;have HR:=Hh R;clear R;by_cases hlt:i<n
  ·obtain⟨wo,rfl⟩:∃wo:World,wo=wr:=⟨_,rfl⟩;go_wp2;go_loopw [5,6,7] (fun xv pv kv wr=>∃k x p:Nat,i≤k∧k≤i+32∧k≤n∧kv=.int .i64 (k:Int)∧xv=.int .u32 (x:Int)∧pv=.int .u32 (p:Int)∧OfIn ds i k x p∧wr=wo) (fun _ _ kv _=>i+32-(intOf kv).toNat)
   case atStart=>exact⟨i,0,1,Nat.le_refl _,by omega,by omega,rfl,rfl,rfl,OfIn.start _ _,rfl⟩
   case round =>
    obtain⟨k,x,p,hk1,hk2,hk3,rfl,rfl,rfl,hin,rfl⟩:=hrel;by_cases hgo:k<n∧k<i+32
    ·obtain⟨hg1,hg2⟩:=hgo;obtain⟨b,off,hA,hb,hc⟩:=HD.out.at_ (by rw[←HDL.out];omega)
     have hbw:Below w0.heap.size w0 wr:=by obtain⟨_,_,_,_,_,_,_,_,h⟩:=HR.out;exact h
     have ex:=(hbw.cell (p:=⟨b,off+k,none⟩) hb).trans (hc k (by rw[←HDL.out];exact hg1));obtain⟨bt,hbt⟩:∃bt,bt=ds[k]?.getD false:=⟨_,rfl⟩;rw[←hbt] at ex;obtain⟨hx1,hx2⟩:=hin.bound hk1 hg2;have HN1:=Hh (hin.next hk1 hg2 (by rw[←HDL.out];exact hg1) hbt);clear hc hbt hbw hin;subst hA;cases bt
     ·go_wp2;go_roundw
      case rel=>exact⟨k+1,_,p*2%4294967296,by omega,by omega,by omega,by go_num,rfl,by simp,HN1.out,by first|trivial|rfl⟩
      case measure=>simp[intOf] <;> omega
     ·go_wp2;go_roundw
      case rel=>exact⟨k+1,x+p,p*2%4294967296,by omega,by omega,by omega,by go_num,by simp,by simp,HN1.out,by first|trivial|rfl⟩
      case measure=>simp[intOf] <;> omega
    ·have hx:=hin.last hk1 hk2 (by rw[←HDL.out];exact hk3) (by rw[←HDL.out];omega);obtain⟨q,rs,r0,r1,r2,r3,r4,r5,r6⟩:=HR.out;have HX:=Hh hx;have HO:=Hh (And.intro r0 (And.intro r1 (And.intro r2 (And.intro r3 r6))));have hrl:rs.length≤100000000:=by omega
     clear hx r0 r1 r2 r3 r4 r5 r6 hin HR;have hstop:¬ (k<n∧k<i+32):=hgo;by_cases hkn:k<n
     ·have hki:¬ k<i+32:=by omega
      clear hgo hstop;go_wp2_with (at_builtin;refine wpList_append_own_at _ rfl _ _ 46 rfl w0.heap.size 137 i0 (.int .u32 0) 1 4 Tryz.underlying46 HI.out.1 HI.out.2.1 HI.out.2.2.1 HI.out.2.2.2 rfl (by decide) _ _ _ rfl (HO.out.2.1.2.alloc _) ⟨_,0,none⟩ 1 1 [.int .u32 (x:Int)] rfl rfl (cell_one_new _ _ _) (by simp[Value.oneCell']) (by simp only[maxLen];omega) (by omega) (by have:=HO.out.2.2.2.2.size;simp;omega) ?_;intro v2 w2 own2 grow2 _ at2);go_roundw
      case rel=>exact⟨i+32,by omega,by go_num,zfB.next HO.out.1 HO.out.2.1 HO.out.2.2.1 HO.out.2.2.2.1 HO.out.2.2.2.2 (by rw[←HDL.out];exact hlt) HX.out own2 grow2⟩
      case measure=>simp[intOf] <;> omega
     ·clear hgo hstop;go_wp2_with (at_builtin;refine wpList_append_own_at _ rfl _ _ 46 rfl w0.heap.size 137 i0 (.int .u32 0) 1 4 Tryz.underlying46 HI.out.1 HI.out.2.1 HI.out.2.2.1 HI.out.2.2.2 rfl (by decide) _ _ _ rfl (HO.out.2.1.2.alloc _) ⟨_,0,none⟩ 1 1 [.int .u32 (x:Int)] rfl rfl (cell_one_new _ _ _) (by simp[Value.oneCell']) (by simp only[maxLen];omega) (by omega) (by have:=HO.out.2.2.2.2.size;simp;omega) ?_;intro v2 w2 own2 grow2 _ at2);go_roundw
      case rel=>exact⟨i+32,by omega,by go_num,zfB.next HO.out.1 HO.out.2.1 HO.out.2.2.1 HO.out.2.2.2.1 HO.out.2.2.2.2 (by rw[←HDL.out];exact hlt) HX.out own2 grow2⟩
      case measure=>simp[intOf] <;> omega
  ·obtain⟨q,rs,r0,r1,r2,r3,r4,r5,r6⟩:=HR.out;obtain⟨A1,c1,hv⟩:=r1.shape;subst hv;have HFR:=Hh (show FrU w0.heap.size A1 from fun a ea=>by subst ea;exact(World.ownsRow.lt r1.2 _ rfl).1);have HO:=Hh (And.intro r1 (And.intro r3 (And.intro r5 r6)));clear r0 r1 r2 r3 r4 r5 r6 HR;go_wp2;go_ret;refine⟨A1,c1,rs,rfl,HO.out.1.reads rfl,HO.out.2.2.1 (by rw[←HDL.out];omega) HC.out.1,?_,HB0.out.trans (HO.out.2.2.2.mono HB0.out.size),fun a ea=>Nat.le_trans HB0.out.size (HFR.out a ea)⟩;rw[HO.out.2.1,List.take_of_length_le (by rw[←HDL.out];omega),HC.out.2,HS.out]
theorem zsd (A:Option Addr)(c:Nat)(xs:List Nat)(w:World)(h:Us w A c xs)(hl:xs.length≤1000000) :
  Calls Tryz.prog 143 #[.slice A xs.length c] w (zvp (val xs) w):=by
 have HH:=Hh h;have hd:=h.1;clear h;go_enter Tryz.func143,Tryz.ntmps143;go_wp2_with (first
  | (go_at_call 155;refine(zbF A c xs _ HH.out hl).mono ?_;rintro e w1 ⟨A1,c1,bs,rfl,q1,k1,v1,b1⟩)
  | (go_at_call 157;refine(zvq A1 c1 bs _ q1 (by have:=zbW hd k1 v1;omega)).mono ?_;rintro e w2 ⟨A2,c2,rs,rfl,q2,k2,v2,b2,f2⟩;have HF:=Hh (And.intro b1.size f2);clear f2))
 go_ret;exact⟨A2,c2,rs,rfl,q2,k2,v2.trans v1,b1.trans (b2.mono b1.size),fun a ea=>Nat.le_trans HF.out.1 (HF.out.2 a ea)⟩
theorem zfU (s:Bool)(A:Option Addr)(c:Nat)(xs:List Nat)(w:World)(h:Us w A c xs)(hl:xs.length≤100000) :
  Calls Tryz.prog 94 #[.bool s,.slice A xs.length c] w (zdL (ival s xs) w):=by
 have hcap:=h.cap;have b0:=Hh ((Below.refl w.heap.size w).alloc (Nat.le_refl _) (.cells #[.bool false,.slice none 0 0] 48));have H1:=Hh h;clear h;go_enter Tryz.func94,Tryz.ntmps94;cases s
 all_goals
  go_wp2_with (go_at_call 143;refine(zsd _ _ xs _ (H1.out.below b0.out) (by omega)).mono ?_;rintro e w1 ⟨A1,c1,r1,rfl,q,k1,v1,b,f1⟩;have HF1:=Hh (show FrU w.heap.size A1 from fun a ea=>Nat.le_trans (by simp) (f1 a ea));clear f1;have hcap1:=q.cap;obtain⟨x1,x2,x3,x4,x5⟩:=(Box.new w _ _ _).below b;have HQ:=Hh (And.intro q (And.intro k1 (And.intro v1 b)));clear q k1 v1 b)
 all_goals
  have HB:=(Box.new w (.bool false) (.slice none 0 0) 48).below HQ.out.2.2.2;have hw1:Below w.heap.size w w1:=b0.out.trans (HQ.out.2.2.2.mono (by simp));clear x1 x2 x3 x4 x5
 ·obtain⟨e1,e2,_,_,_⟩:=HB.set (.bool false) (.slice A1 r1.length c1);refine bodyPost_ret (v:=.agg #[.bool false,.slice A1 r1.length c1]) (by simp[results,Tryz.results94,go_sem,e1,e2]) rfl ?_;exact zdL.box (Nat.le_refl _) HB HQ.out.1 ⟨HQ.out.2.1,by simp⟩ (by unfold ival;simp[HQ.out.2.2.1]) hw1 HF1.out
 ·obtain⟨e1,e2,_,_,_⟩:=HB.set (.bool (decide (0<r1.length))) (.slice A1 r1.length c1);refine bodyPost_ret (v:=.agg #[.bool (decide (0<r1.length)),.slice A1 r1.length c1]) (by simp[results,Tryz.results94,go_sem,e1,e2]) rfl ?_;refine zdL.box (Nat.le_refl _) HB HQ.out.1 (by simpa using zgr HQ.out.2.1 true) ?_ hw1 HF1.out;have:=zkw r1 true;simp only[Bool.true_and] at this;rw[this];unfold ival;simp[HQ.out.2.2.1]
theorem zkV (s:Bool)(A B:Option Addr)(c d:Nat)(xs ys:List Nat)(w:World)(h:Us w A c xs)(k:Us w B d ys)(hl:xs.length≤60000)(kl:ys.length≤60000) :
  Calls Tryz.prog 71 #[.agg #[.bool s,.slice A xs.length c],.agg #[.bool s,.slice B ys.length d]] w (zdL (ival s xs+ival s ys) w):=by
 have hcap:=h.cap;have kcap:=k.cap;obtain⟨hX,hY,hR,hB⟩:=box3 w (.bool s) (.slice A xs.length c) (.bool s) (.slice B ys.length d) (.bool false) (.slice none 0 0) 48;have HX:=Hh hX.drew;have HY:=Hh hY.drew;have HR:=Hh hR.drew;have HB:=Hh (Below.drew' hB);have H1:=Hh (h.below HB.out);have H2:=Hh (k.below HB.out);have hd:=h.1;have kd:=k.1;clear h k hX hY hR hB;have n1:¬ w.heap.size=w.heap.size+1+1:=by omega
 have n2:¬ w.heap.size+1+1=w.heap.size:=by omega
 go_enter Tryz.func71,Tryz.ntmps71;go_wp2_with fail;go_region_held3 (fun w'=>w'.cell? ⟨w.heap.size,0,none⟩=some (.bool s)∧w'.cell? ⟨w.heap.size,1,none⟩=some (.slice A xs.length c)∧w'.cell? ⟨w.heap.size+1,1,none⟩=some (.slice B ys.length d))
  (first|go_keep|fail)
  (first
   | (go_at_call 116;refine(zlE _ _ _ _ xs ys _ H1.out H2.out (by omega) (by omega)).mono ?_;rintro e w1 ⟨A1,c1,r1,rfl,q1,k1,v1,b1⟩;obtain⟨x1,x2,_,_,_⟩:=HX.out.below b1;obtain⟨_,z2,_,_,_⟩:=HY.out.below b1;have l1:=zkx hd kd hl kl k1 v1)
   | (go_at_call 94;refine(zfU s _ _ r1 _ q1 (by omega)).mono ?_;rintro e w2 ⟨A2,c2,s2,r2,rfl,q2,k2,v2,b2,f2⟩;have HF2:=Hh f2;clear f2;obtain⟨x1,x2,_,_,_⟩:=(HX.out.below b1).below b2;obtain⟨_,z2,_,_,_⟩:=(HY.out.below b1).below b2;obtain⟨y1,y2,y3,y4,_⟩:=(HR.out.below b1).below b2))
 go_wp2;obtain⟨e1,e2,_,_,_⟩:=(((HR.out.below b1).below b2).set (.bool s2) (.slice A2 r2.length c2));refine bodyPost_ret (v:=.agg #[.bool s2,.slice A2 r2.length c2]) (by simp[results,Tryz.results71,go_sem,e1,e2]) rfl ?_;refine zdL.box (by omega) ((HR.out.below b1).below b2) q2 k2 (v2.trans ?_) ((HB.out.trans (b1.mono HB.out.size)).trans (b2.mono (HB.out.trans (b1.mono HB.out.size)).size)) (fun a ea=>Nat.le_trans HB.out.size (Nat.le_trans b1.size (HF2.out a ea)));unfold ival;rw[v1];cases s <;> simp <;> omega
theorem zkW (s:Bool)(A B:Option Addr)(c d:Nat)(xs ys:List Nat)(w:World)(h:Us w A c xs)(k:Us w B d ys)(hl:xs.length≤60000)(kl:ys.length≤60000)(hle:val ys≤val xs) :
  Calls Tryz.prog 71 #[.agg #[.bool s,.slice A xs.length c],.agg #[.bool (!s),.slice B ys.length d]] w (zdL (ival s xs+ival (!s) ys) w):=by
 have hcap:=h.cap;have kcap:=k.cap;obtain⟨hX,hY,hR,hB⟩:=box3 w (.bool s) (.slice A xs.length c) (.bool (!s)) (.slice B ys.length d) (.bool false) (.slice none 0 0) 48;have HX:=Hh hX;have HY:=Hh hY;have HR:=Hh hR;have HB:=Hh (hB);have H1:=Hh (h.below HB.out);have H2:=Hh (k.below HB.out);have hd:=h.1;have kd:=k.1;clear h k hX hY hR hB;have n1:¬ w.heap.size=w.heap.size+1+1:=by omega
 have n2:¬ w.heap.size+1+1=w.heap.size:=by omega
 have HL:=Hh hle;clear hle;have hst:(s == !s)=false:=by cases s <;> rfl
 go_enter Tryz.func71,Tryz.ntmps71;go_wp2_with (first
  | (go_at_call_of 117 (Value.slice A xs.length c);go_loud (refine(zdv _ _ _ _ xs ys _ H1.out H2.out (by omega) (by omega)).mono ?_;intro e w1 h;obtain⟨A1,c1,r1,rfl,q1,k1,v1,b1⟩:=h.2 HL.out;clear h;obtain⟨x1,x2,_,_,_⟩:=HX.out.below b1;obtain⟨z1,z2,_,_,_⟩:=HY.out.below b1;have l1:=zdw hd hl k1 v1;have HV:=Hh v1;clear v1))
  | (go_at_call 94;go_loud (refine(zfU s _ _ r1 _ q1 (by omega)).mono ?_;rintro e w2 ⟨A2,c2,s2,r2,rfl,q2,k2,v2,b2,f2⟩;have HF2:=Hh f2;clear f2;obtain⟨y1,y2,y3,y4,_⟩:=(HR.out.below b1).below b2;have HV2:=Hh v2;clear v2)))
 obtain⟨e1,e2,_,_,_⟩:=(((HR.out.below b1).below b2).set (.bool s2) (.slice A2 r2.length c2));refine bodyPost_ret (v:=.agg #[.bool s2,.slice A2 r2.length c2]) (by simp[results,Tryz.results71,go_sem,e1,e2]) rfl ?_;refine zdL.box (by omega) ((HR.out.below b1).below b2) q2 k2 (HV2.out.trans ?_) ((HB.out.trans (b1.mono HB.out.size)).trans (b2.mono (HB.out.trans (b1.mono HB.out.size)).size)) (fun a ea=>Nat.le_trans HB.out.size (Nat.le_trans b1.size (HF2.out a ea)));have hle:=HL.out;unfold ival;rw[HV.out];cases s <;> simp <;> omega
theorem zkX (s:Bool)(A B:Option Addr)(c d:Nat)(xs ys:List Nat)(w:World)(h:Us w A c xs)(k:Us w B d ys)(hl:xs.length≤60000)(kl:ys.length≤60000)(hle:val xs<val ys) :
  Calls Tryz.prog 71 #[.agg #[.bool s,.slice A xs.length c],.agg #[.bool (!s),.slice B ys.length d]] w (zdL (ival s xs+ival (!s) ys) w):=by
 have hcap:=h.cap;have kcap:=k.cap;obtain⟨hX,hY,hR,hB⟩:=box3 w (.bool s) (.slice A xs.length c) (.bool (!s)) (.slice B ys.length d) (.bool false) (.slice none 0 0) 48;have HX:=Hh hX;have HY:=Hh hY;have HR:=Hh hR;have HB:=Hh (hB);have H1:=Hh (h.below HB.out);have H2:=Hh (k.below HB.out);have hd:=h.1;have kd:=k.1;clear h k hX hY hR hB;have n1:¬ w.heap.size=w.heap.size+1+1:=by omega
 have n2:¬ w.heap.size+1+1=w.heap.size:=by omega
 have HL:=Hh hle;clear hle;have hst:(s == !s)=false:=by cases s <;> rfl
 have tok0:True:=trivial;go_enter Tryz.func71,Tryz.ntmps71;go_wp2_with (first
  | (go_at_call 117;have _t:=tok0;refine(zdv A B _ _ xs ys _ H1.out H2.out (by omega) (by omega)).mono ?_;intro e w1 h;obtain⟨rfl,b1⟩:=h.1 HL.out;clear h tok0 _t;obtain⟨x1,x2,_,_,_⟩:=HX.out.below b1;obtain⟨z1,z2,_,_,_⟩:=HY.out.below b1)
  | (go_at_call 117;go_loud (refine(zdv B A _ _ ys xs _ (H2.out.below b1) (H1.out.below b1) (by omega) (by omega)).mono ?_;intro e w3 h;obtain⟨A1,c1,r1,rfl,q1,k1,v1,b3⟩:=h.2 (Nat.le_of_lt HL.out);clear h x1 x2 z1 z2;obtain⟨x1,x2,_,_,_⟩:=(HX.out.below b1).below b3;obtain⟨z1,z2,_,_,_⟩:=(HY.out.below b1).below b3;have l1:=zdw kd kl k1 v1;have HV:=Hh v1;clear v1))
  | (go_at_call 94;go_loud (refine(zfU (!s) _ _ r1 _ q1 (by omega)).mono ?_;rintro e w2 ⟨A2,c2,s2,r2,rfl,q2,k2,v2,b2,f2⟩;have HF2:=Hh f2;clear f2;obtain⟨y1,y2,y3,y4,_⟩:=((HR.out.below b1).below b3).below b2;have HV2:=Hh v2;clear v2)))
 obtain⟨e1,e2,_,_,_⟩:=((((HR.out.below b1).below b3).below b2).set (.bool s2) (.slice A2 r2.length c2));refine bodyPost_ret (v:=.agg #[.bool s2,.slice A2 r2.length c2]) (by simp[results,Tryz.results71,go_sem,e1,e2]) rfl ?_;have hb1:=HB.out.trans (b1.mono HB.out.size);have hb3:=hb1.trans (b3.mono hb1.size);refine zdL.box (by omega) (((HR.out.below b1).below b3).below b2) q2 k2 (HV2.out.trans ?_) (hb3.trans (b2.mono hb3.size)) (fun a ea=>Nat.le_trans hb3.size (HF2.out a ea));have hle:=HL.out;unfold ival;rw[HV.out];cases s <;> simp <;> omega
theorem zpn (s t:Bool)(A B:Option Addr)(c d:Nat)(xs ys:List Nat)(w:World)(h:Us w A c xs)(k:Us w B d ys)(hl:xs.length≤60000)(kl:ys.length≤60000) :
  Calls Tryz.prog 71 #[.agg #[.bool s,.slice A xs.length c],.agg #[.bool t,.slice B ys.length d]] w (zdL (ival s xs+ival t ys) w):=by
 by_cases hst:s=t
 ·subst hst;exact zkV s A B c d xs ys w h k hl kl
 ·obtain rfl:t = !s:=by cases s <;> cases t <;> simp_all
  rcases Nat.lt_or_ge (val xs) (val ys) with hlt|hge
  ·exact zkX s A B c d xs ys w h k hl kl hlt
  ·exact zkW s A B c d xs ys w h k hl kl hge
end Go.Proofs.YtfjajpnfjjdnpaaGreatDoor

namespace Go.Proofs.YtfjajpnfjjdnpaaGreatDoor
open Go.RowKit Nds Num
theorem Cs.cells {w:World}{A:Option Addr}{c:Nat}{l:List Cv}{ad:Addr}(h:Cs w A c l)(e:A=some ad):∀j u,(cvcs l)[j]?=some u→w.cell? (ad.add j)=some u:=by
 intro j u hu;have hj:=(List.getElem?_eq_some_iff.1 hu).1;rw[zey] at hj;obtain⟨b,off,e2,_,hc⟩:=h.at_ (by omega)
 rw[e] at e2;cases e2;obtain⟨i,k,rfl,hk⟩:∃i k,j=i*5+k∧k<5:=⟨j / 5,j%5,by omega,by omega⟩;have hi:i<l.length:=by omega
 rw[zkP l i k hi hk] at hu;obtain⟨h0,h1,h2,h3,h4⟩:=hc i hi;have hadd:(⟨b,off,none⟩:Addr).add (i*5+k)=⟨b,off+i*5+k,none⟩:=by
  unfold Addr.add;split
  ·rename_i h;rw[show off+i*5+k=off by omega]
  ·simp;omega
 rw[hadd]
 match k,hk with
 | 0,_=>exact h0.trans hu
 | 1,_=>exact h1.trans hu
 | 2,_=>exact h2.trans hu
 | 3,_=>exact h3.trans hu
 | 4,_=>exact h4.trans hu
theorem zeB (w:World)(base:Nat)(v:Value)(xs ys:List Cv)(ty:TypeId)(A:Option Addr)(m c:Nat)(how:OwnC w base v xs)(hN:Cs w A c ys)(hm:ys.length=m)(hA:A=none→c=0)(hs:xs.length+m≤1000000)(hb:base≤w.heap.size) :
  ∃v' w',(Builtin.append_ #[22,22] ty #[v,.slice A m c]).run Tryz.prog w=.ok v' w'∧OwnC w' base v' (xs++ys)∧w.grownBy w' v.ownBlock∧(v'.ownBlock=v.ownBlock∨v'.ownBlock=some w.heap.size):=by
 obtain⟨i0,hi,hz0,hz1,hz2⟩:=info_parts Tryz.infoC;cases A with
 | none =>
  have hc:=hA rfl;have hy:ys=[]:=by
   rcases Nat.eq_zero_or_pos ys.length with h|h
   ·exact List.eq_nil_of_length_eq_zero h
   ·obtain⟨b,off,e,_⟩:=hN.at_ h
    cases e
  subst hy;subst hc;subst hm;refine⟨v,w,run_append_owned_none (P:=Tryz.prog) (w:=w) base _ ty 78 i0 5 Tryz.underlying22 hi v _ _ how,?_,⟨rfl,rfl,rfl,Nat.le_refl _,fun _ _ _=>rfl⟩,.inl rfl⟩;rw[List.append_nil];exact how
 | some ad=>exact zbR w base v xs ys ty ad m c how (hN.cells rfl) hm hs hb
theorem zbm (w:World){ops:Array Oper}{rest:List Oper}{o:Oper}{a:Act}{Q:Exit→Act→World→Prop}(hg:o.guard=none)(s x:Operand)
  (hop:o.op=Op.call { callee:=Callee.builtin Builtin.append,args:=#[s,x],argTypes:=#[22,22] }) (base:Nat) (v:Value) (xs ys:List Cv) (A:Option Addr) (m c:Nat)
  (hs:a.eval s=v) (hx:a.eval x=.slice A m c) (how:OwnC w base v xs) (hN:Cs w A c ys) (hm:ys.length=m) (hA:A=none→c=0) (hsz:xs.length+m≤1000000) (hb:base≤w.heap.size)
  (hK:∀v' w',OwnC w' base v' (xs++ys)→w.grownBy w' v.ownBlock→(v'.ownBlock=v.ownBlock∨v'.ownBlock=some w.heap.size)→wpList Tryz.prog ops Q rest (a.put o.dst v') w') :
  wpList Tryz.prog ops Q (o :: rest) a w:=by
 refine wpList_plain hg fun K hK'=>?_;obtain⟨v',w',hrun,h1,h2,h3⟩:=zeB w base v xs ys o.type A m c how hN hm hA hsz hb;unfold Oper.wp execOp;simp only[hop,resolve,invoke,builtin,Sem.run_bind,Sem.run_pure,Result.andThen_ok,List.map_toArray,List.map_cons,List.map_nil,hs,hx,hrun];exact hK' _ _ (hK v' w' h1 h2 h3)
def Ori (base:Nat)(P:Nat→Prop)(u:Cv):Prop:=(0<u.xs.length→∀a,u.ax=some a→base≤a.block∨P a.block)∧(0<u.ys.length→∀a,u.ay=some a→base≤a.block∨P a.block)
structure RlO (base:Nat)(P:Nat→Prop)(W:World)(v:Value)(M:List Cv):Prop where
 o:OwnC W base v M
 ok:∀u∈M,CvU W u∧CvR u∧(∀q,v.ownBlock=some q→Off q u)∧Ori base P u
theorem zbn {s:Bool}{xs:List Nat}{z:Int}(hc:zaE s xs)(hv:ival s xs=z)(h0 : -p2 1330≤z)(h1:z≤p2 1330):xs.length≤50:=by
 refine zbH hc hv 50 ?_;obtain⟨M,hM⟩:∃M,M=50:=⟨_,rfl⟩;obtain⟨N,hN⟩:∃N,N=1330:=⟨_,rfl⟩;rw[←hN] at h0 h1;have h2:(p2 N).natAbs<4294967296^M:=by
  unfold p2;rw[show((2:Int)^N).natAbs=2^N by rw[Int.natAbs_pow];rfl,show(4294967296:Nat)=2^32 by decide,←Nat.pow_mul];exact Nat.pow_lt_pow_right (by decide) (by omega)
 rw[←hM];omega
end Go.Proofs.YtfjajpnfjjdnpaaGreatDoor

namespace Go.Proofs.YtfjajpnfjjdnpaaGreatDoor
open Go.RowKit Nds
theorem zab {w:World}{g:Nat}{u:Value}{t:TypeId}(h:w.heap[g]?=some (.cells #[u] t)):w.cell? ⟨g,0,none⟩=some u:=by
 rw[cell_of_row w g _ _ _ _ h];rfl
theorem zbJ {w:World}{g:Nat}{u:Value}{t:TypeId}(h:w.heap[g]?=some (.cells #[u] t)):w.frozen? ⟨g,0,none⟩=false:=frozen_of_row w g 0 _ _ h
theorem zto (A:Option Addr)(c n:Nat)(l:List Nd)(k:Int)(w:World)(h:Ns w A c l)(hn:l.length=n)(hno:zac l=false∨k<0∨(n:Int)<k) :
  Calls Tryz.prog 46 #[.slice A n c,.int .i64 k] w (RetO l k w):=by
 have hcap:=h.cap;rw[hn] at hcap;have hR:=zvm (zvn (by rw[hn];exact hno));obtain⟨R,hRR⟩:∃R,R=RetO l k w:=⟨_,rfl⟩;rw[←hRR];have HR:=Hh hRR;have HQ:=Hh hR;have hb:=(Below.refl w.heap.size w).alloc (Nat.le_refl _) (.cells #[.slice none 0 0] 28);have HB:=Hh hb;have HN:=Hh (h.below hb);have HL:=Hh hn;have hgc:(w.alloc (.cells #[.slice none 0 0] 28)).heap[w.heap.size]?=some (.cells #[.slice none 0 0] 28):=heap_alloc_new w _;have HGC:=Hh hgc;have hlt:w.heap.size<(w.alloc (.cells #[.slice none 0 0] 28)).heap.size:=by simp
 have HLT:=Hh hlt;have hcases:zac l=false∨(zac l=true∧k<0)∨(zac l=true∧0≤k∧(n:Int)<k):=by
  cases hq:zac l
  ·exact .inl rfl
  ·rcases hno with h|h
   ·rw[hq] at h;cases h
   ·rcases h with h|h
    ·exact .inr (.inl ⟨rfl,h⟩)
    ·by_cases h0:k<0
     ·exact .inr (.inl ⟨rfl,h0⟩)
     ·exact .inr (.inr ⟨rfl,by omega,h⟩)
 clear h hn hno hb hgc hlt hR hRR;rcases hcases with hq|⟨hq,h0⟩|⟨hq,h0,h1⟩
 all_goals
  have HLL:=Hh hq;clear hq;go_enter Tryz.func46,Tryz.ntmps46;go_wp2_with (go_at_call 42;go_loud (refine(zmf _ _ n l _ HN.out HL.out).mono ?_;rintro e w1 ⟨rfl,b1⟩;have HB1:=Hh b1;have hcg:=(b1.block w.heap.size HLT.out).trans HGC.out;have cg:=zab hcg;have fg:=zbJ hcg;clear b1 hcg;rw[HLL.out]));have e1:=World.cell?_setCell_same _ _ (.slice none 0 0) cg;refine bodyPost_ret (v:=.tuple #[.agg #[.slice none 0 0],.int .i64 1]) (by simp[results,Tryz.results46,go_sem,e1]) rfl ?_;rw[HR.out];refine⟨none,0,?_,?_,fun _=>rfl,(HB.out.trans (HB1.out.mono HB.out.size)).setCell (Nat.le_refl _) _⟩
  ·rw[HQ.out.1,HQ.out.2];rfl
  ·rw[HQ.out.1];exact zmg _
theorem zdn {P:Program}{w:World}{o:Oper}{a:Act}{K:Act→World→Prop}{Q:Exit→Act→World→Prop}
  (l c:Operand) (t:TypeId) (hop:o.op=Op.makeSlice t l c)
  (base:Nat) (e:TypeId) (i:TypeInfo) (z:Value) (size:Nat) (h1:P.underlying t=some (.slice e)) (h2:P.info? e=some i) (h3:i.zero=some z) (h4:i.size=size)
  (kl kc:IntKind) (L C:Int) (n:Nat) (hl:a.eval l=.int kl L) (hc:a.eval c=.int kc C) (hL:L=(n:Int)) (hC:C=(n:Int)) (b2:i.bytes*n≤281474976710656) (b3:n≤maxLen) (b4:base≤w.heap.size)
  (hK:∀w',w'.ownsRow base e size (.slice (some ⟨w.heap.size,0,none⟩) n n) n (madeCells z.cells (n*size)).toList→w.grownBy w' none→K (a.put o.dst (.slice (some ⟨w.heap.size,0,none⟩) n n)) w') :
  Oper.wp P o a w K Q:=by
 obtain⟨w',hrun,r1,r2⟩:=run_make_full (P:=P) w base t e i z size h1 h2 h3 h4 kl kc n b2 b3 b4;subst hL;subst hC;unfold Oper.wp;simp[execOp,hop,hl,hc,hrun,Result.andThen];exact hK w' r1 r2
theorem ztp (l:List Nd)(n:Nat):Dn l [] (List.replicate n 0):=by
 intro i hi h0;exfalso;rw[List.getD_eq_getElem?_getD,List.getElem?_replicate] at h0;split at h0 <;> simp at h0
theorem zuf (A:Option Addr)(c n k:Nat)(l:List Nd)(w:World)(h:Ns w A c l)(hn:l.length=n)(hn9:n≤900000)(hl:zac l=true)(hk:k≤n)(hA:A=none→c=0) :
  Calls Tryz.prog 46 #[.slice A n c,.int .i64 (k:Int)] w (RetO l (k:Int) w):=by
 have hcap:=h.cap;rw[hn] at hcap;have HQ:=Hh (zue hl (n:=k) (by omega));obtain⟨i0,hi,hz0,hz1,hz2⟩:=info_parts Tryz.infoI;have HI:=Hh (And.intro hi (And.intro hz0 (And.intro hz1 hz2)));obtain⟨R,hRR⟩:∃R,R=RetO l (k:Int) w:=⟨_,rfl⟩;rw[←hRR];have HR:=Hh hRR;have hb:=(Below.refl w.heap.size w).alloc (Nat.le_refl _) (.cells #[.slice none 0 0] 28);have HB:=Hh hb;have HN:=Hh (h.below hb);have HL:=Hh hn;have HLL:=Hh hl;have HA:=Hh hA;have hgc:(w.alloc (.cells #[.slice none 0 0] 28)).heap[w.heap.size]?=some (.cells #[.slice none 0 0] 28):=heap_alloc_new w _;have HGC:=Hh hgc;have hlt:w.heap.size<(w.alloc (.cells #[.slice none 0 0] 28)).heap.size:=by simp
 have HLT:=Hh hlt;have t0:decide ((k:Int)<0)=false:=decide_eq_false (by omega);have t1:decide ((n:Int)<(k:Int))=false:=decide_eq_false (by omega);clear h hn hb hgc hlt hRR hi hz0 hz1 hz2 hA hl;go_enter Tryz.func46,Tryz.ntmps46;go_wp2_with (first
  | (go_at_call 42;go_loud (refine(zmf _ _ n l _ HN.out HL.out).mono ?_;rintro e w1 ⟨rfl,b1⟩;have HB1:=Hh b1;have HN1:=Hh (HN.out.below b1);clear b1;rw[HLL.out]))
  | (go_at_call 92;go_loud (refine(zkS _ _ n l k _ HN1.out HL.out HLL.out hn9 HA.out hk).mono ?_;rintro e w3 ⟨v2,cur,j,rfl,s1,s2,s3,s4,s5,s6⟩;obtain⟨A2,c2,hv2,hn2,_,hA2⟩:=s1.shape;have HV2:=Hh hv2;have HN2':=Hh hn2;have HO2:=Hh s1;have HCL:=Hh s2;have HJ:=Hh s3;have HJD:=Hh s4;have HCN':=Hh s5;have HB3:=Hh s6;clear hv2 hn2 hA2 s1 s2 s3 s4 s5 s6)))
 have hv2:=HV2.out;obtain⟨cn,hcn⟩:∃cn,cn=cur.length:=⟨_,rfl⟩;rw[←hcn] at hv2;subst hv2;have HCN:=Hh hcn;have hcn9:cn≤901329:=by have:=HCN'.out;have:=HL.out;omega
 have hc2:=HN2'.out.cap;rw[←hcn] at hc2;have HBW3:=Hh (HB.out.trans ((HB1.out.trans (HB3.out.mono HB1.out.size)).mono HB.out.size));have HGQ3:=Hh ((HB3.out.block w.heap.size (Nat.lt_of_lt_of_le HLT.out HB1.out.size)).trans ((HB1.out.block w.heap.size HLT.out).trans HGC.out));clear hcn;refine wp_region_noPanic ?_;refine wp_region_held (S:=fun _=>True) (by kernel_rfl) ?_;obtain⟨W0,hW0⟩:∃W0:World,W0=w3.drew:=⟨_,rfl⟩;have HN2:=Hh (show Ns W0 A2 c2 cur by rw[hW0];exact HN2'.out.drew);have HBW:=Hh (show Below w.heap.size w W0 by rw[hW0];exact Below.drew HBW3.out);have HGQ:=Hh (show W0.heap[w.heap.size]?=some (.cells #[.slice none 0 0] 28) by rw[hW0];exact HGQ3.out);have HLQ:=Hh (show w.heap.size<W0.heap.size from(Array.getElem?_eq_some_iff.1 HGQ.out).1);have HA2:=Hh (show ∀a,A2=some a→a.block<W0.heap.size from fun a ea=>by rw[hW0];exact(HO2.out.lt a.block (by rw[ea];rfl)).2);have HLV:=Hh (show 0<j→(at_ cur (j-1)).lv≤((1329:Nat):Int) from fun h0=>(zap (zad HCL.out (by have:=HJ.out;omega))).2);have B0:=Hh (Below.refl W0.heap.size W0);have e0:IntKind.i64.wrap ((cn:Int)+1)=(cn:Int)+1:=IntWalk.i64_in _ (by omega);change wpAnyH _ _ _ _ _ _ _ _ w3.drew;rw[←hW0];clear hW0;refine Tk1 (v:=?_) 0 trivial ?_ ?_;rotate_left
 ·rintro w' _;go_simp;first|done|with_reducible rfl|rfl
 simp only[Act.put,LA];refine Tk1 (v:=?_) 1 trivial ?_ ?_;rotate_left
 ·rintro w' _;go_simp;first|done|with_reducible rfl|rfl
 simp only[Act.put,LA];refine Tk1 (v:=?_) 3 trivial ?_ ?_;rotate_left
 ·rintro w' _;go_simp;first|done|with_reducible rfl|rfl
 simp only[Act.put,LA];refine Tk1 (v:=?_) 4 trivial ?_ ?_;rotate_left
 ·rintro w' _;go_simp;first|done|with_reducible rfl|rfl
 simp only[Act.put,LA];refine Tk1 (v:=?_) 5 trivial ?_ ?_;rotate_left
 ·rintro w' _;go_simp;first|done|with_reducible rfl|rfl
 simp only[Act.put,LA];refine Tk1 (v:=?_) 6 trivial ?_ ?_;rotate_left
 ·rintro w' _;go_simp;first|done|with_reducible rfl|rfl
 simp only[Act.put,LA];refine Rd2 2 7 (fun K hK=>?_) fun K hK=>?_
 ·go_simp;refine(zcY A2 c2 cn cur _ (HN2.out.below B0.out) HCN.out.symm HCL.out (by omega)).mono ?_;rintro e W4 ⟨E,rfl,x1,x2,x3,x4⟩;dsimp only;have B4:=Hh (B0.out.trans (x4.mono B0.out.size));have HE1:=Hh x1;have HE3:=Hh x3;have HE4:=Hh x4;have HE2:=Hh x2;refine hK.out _ _ trivial (fun _=>?_);clear hK K x1 x2 x3 x4;refine Rd1 7 fun K hK=>?_;rw[if_pos (by rfl)];refine zdn (.tmp 38) (.tmp 38) 99 rfl W0.heap.size 3 i0 _ 1 Tryz.underlying99 HI.out.1 HI.out.2.1 HI.out.2.2.1 .i64 .i64 _ _ (cn+1) rfl rfl (by omega) (by omega) (by rw[HI.out.2.2.2];omega) (by unfold maxLen;omega) B4.out.size ?_;intro W5 own grow;simp only[Act.put,LA];have B5:=Hh (B4.out.grown grow B4.out.size (fun k hk=>by cases hk));have OD:=Hh (OwnD.made own);have GR:=Hh grow;refine hK.out _ _ trivial (fun _=>?_);clear hK K own grow;have HEG:=Hh (show E≠W4.heap.size by have:=HE2.out;omega);have HGB:=Hh (show W0.heap.size≤W4.heap.size from B4.out.size);have HEC:=Hh (show ∀i,i≤cn→W5.cell? ⟨E,i,none⟩=some (.bool (empB cur i)) from fun i hi=>(World.cell?_of_block (w:=W4) (GR.out.block E HE2.out (by simp))).trans (HE3.out i hi));have HNV:=Hh (HN2.out.below B5.out);have hsz:=B5.out.size;refine Rd1 8 fun K hK=>?_;go_simp;refine(zhM A2 c2 cn E W0.heap.size _ cur HCL.out HCN.out.symm (by omega) HA2.out HEG.out HGB.out 1329 j [] (List.replicate (cn+1) 0) (.slice none 0 0) _ (by rw[HCN.out];exact HJ.out) HLV.out (zkI _) (ztp _ _) HNV.out HEC.out (zgH _ _) OD.out (by simp[Value.ownBlock]) (by simp[Value.ownBlock]) hsz).mono ?_;rintro e W7 ⟨v7,ds7,rfl,z1,z2,z3,z4,z5,z6⟩;dsimp only;obtain⟨A7,c7,hv7,hn7,hA7,hA7b⟩:=z1.shape;have hA7bb:=Hh hA7b;clear hA7b;obtain⟨qn,hqn⟩:∃qn,qn=(enc (den cur j) []).1.length:=⟨_,rfl⟩;rw[←hqn] at hv7;subst hv7;have HQN:=Hh hqn;have B7:=Hh (B5.out.trans (z6.to hsz (fun k hk=>by
   rcases hk with h|h
   ·subst h;exact HGB.out
   ·simp[Value.ownBlock] at h)))
  have HN7:=Hh hn7;have HA7:=Hh hA7;refine hK.out _ _ trivial (fun _=>?_);clear hK K z1 z2 z3 z4 z5 z6 hn7 hA7 hqn;refine Tk1 (v:=?_) 9 trivial ?_ ?_;rotate_left
  ·rintro w' _;go_simp;first|done|with_reducible rfl|rfl
  simp only[Act.put,LA];refine Tk1 (v:=?_) 10 trivial ?_ ?_;rotate_left
  ·rintro w' _;go_simp;first|done|with_reducible rfl|rfl
  simp only[Act.put,LA];refine Tk1 (v:=?_) 11 trivial ?_ ?_;rotate_left
  ·rintro w' _;go_simp;first|done|with_reducible rfl|rfl
  simp only[Act.put,LA];refine Tk1 (v:=?_) 12 trivial ?_ ?_;rotate_left
  ·rintro w' _;go_simp;first|done|with_reducible rfl|rfl
  simp only[Act.put,LA];refine Tk1 (v:=?_) 13 trivial ?_ ?_;rotate_left
  ·rintro w' _;go_simp;first|done|with_reducible rfl|rfl
  simp only[Act.put,LA];refine Tk1 (v:=?_) 14 trivial ?_ ?_;rotate_left
  ·rintro w' _;go_simp;first|done|with_reducible rfl|rfl
  simp only[Act.put,LA];refine Tk1 (v:=?_) 15 trivial ?_ ?_;rotate_left
  ·rintro w' _;go_simp;first|done|with_reducible rfl|rfl
  simp only[Act.put,LA];refine wpAnyH_done (by kernel_rfl) ?_ _;refine NoPanic.normal ?_;have hc7:=(B7.out.block _ HLQ.out).trans HGQ.out;have cg:=zab hc7;have fg:=zbJ hc7;clear hc7;go_wp2_with fail;have e1:=World.cell?_setCell_same _ _ (.slice A7 qn c7) cg;refine bodyPost_ret (v:=.tuple #[.agg #[.slice A7 qn c7],.int .i64 0]) (by simp[results,Tryz.results46,go_sem,e1]) rfl ?_;rw[HR.out];have hq7:(enc (den cur j) []).1=ofQ l (k:Int):=by rw[HJD.out,HQ.out.1];rfl
  have hqn:=HQN.out;rw[hq7] at hqn HN7;have hA7b:=hA7bb.out;refine⟨A7,c7,?_,?_,HA7.out,(HBW.out.trans (B7.out.mono HBW.out.size)).setCell (Nat.le_refl _) _⟩
  ·rw[HQ.out.2,hqn]
  ·exact HN7.out.gbr (zbD _ _ _) (fun a ea e=>by have h1:=hA7b a ea;have h2:=HLQ.out;have h3:a.block=w.heap.size:=Option.some.inj e;omega)
 ·rw[if_pos (by rfl)];refine zdn (.tmp 38) (.tmp 38) 99 rfl W0.heap.size 3 i0 _ 1 Tryz.underlying99 HI.out.1 HI.out.2.1 HI.out.2.2.1 .i64 .i64 _ _ (cn+1) rfl rfl (by omega) (by omega) (by rw[HI.out.2.2.2];omega) (by unfold maxLen;omega) B0.out.size ?_;intro W4 own grow;simp only[Act.put,LA];have B4:=Hh (B0.out.grown grow B0.out.size (fun k hk=>by cases hk));have OD:=Hh (OwnD.made own);have GR:=Hh grow;refine hK.out _ _ trivial (fun _=>?_);clear hK K own grow;refine Rd1 2 fun K hK=>?_;go_simp;refine(zcY A2 c2 cn cur _ (HN2.out.below B4.out) HCN.out.symm HCL.out (by omega)).mono ?_;rintro e W5 ⟨E,rfl,x1,x2,x3,x4⟩;dsimp only;have B5:=Hh (B4.out.trans (x4.mono B4.out.size));have HE1:=Hh x1;have HE3:=Hh x3;have HE4:=Hh x4;have HE2:=Hh x2;refine hK.out _ _ trivial (fun _=>?_);clear hK K x1 x2 x3 x4;have HEG:=Hh (show E≠W0.heap.size by have:=HE1.out;have:=OD.out.lt.2;omega);have HGB:=Hh (Nat.le_refl W0.heap.size);have HEC:=Hh HE3.out;have OD:=Hh (show OwnD W5 W0.heap.size W0.heap.size (cn+1) (List.replicate (cn+1) 0) from OD.out.gbr (row:=none) ⟨HE4.out.os,HE4.out.tape,HE4.out.output,HE4.out.size,fun i hi _=>HE4.out.block i hi⟩ (by simp));have HNV:=Hh (HN2.out.below B5.out);have hsz:=B5.out.size;refine Rd1 8 fun K hK=>?_;go_simp;refine(zhM A2 c2 cn E W0.heap.size _ cur HCL.out HCN.out.symm (by omega) HA2.out HEG.out HGB.out 1329 j [] (List.replicate (cn+1) 0) (.slice none 0 0) _ (by rw[HCN.out];exact HJ.out) HLV.out (zkI _) (ztp _ _) HNV.out HEC.out (zgH _ _) OD.out (by simp[Value.ownBlock]) (by simp[Value.ownBlock]) hsz).mono ?_;rintro e W7 ⟨v7,ds7,rfl,z1,z2,z3,z4,z5,z6⟩;dsimp only;obtain⟨A7,c7,hv7,hn7,hA7,hA7b⟩:=z1.shape;have hA7bb:=Hh hA7b;clear hA7b;obtain⟨qn,hqn⟩:∃qn,qn=(enc (den cur j) []).1.length:=⟨_,rfl⟩;rw[←hqn] at hv7;subst hv7;have HQN:=Hh hqn;have B7:=Hh (B5.out.trans (z6.to hsz (fun k hk=>by
   rcases hk with h|h
   ·subst h;exact HGB.out
   ·simp[Value.ownBlock] at h)))
  have HN7:=Hh hn7;have HA7:=Hh hA7;refine hK.out _ _ trivial (fun _=>?_);clear hK K z1 z2 z3 z4 z5 z6 hn7 hA7 hqn;refine Tk1 (v:=?_) 9 trivial ?_ ?_;rotate_left
  ·rintro w' _;go_simp;first|done|with_reducible rfl|rfl
  simp only[Act.put,LA];refine Tk1 (v:=?_) 10 trivial ?_ ?_;rotate_left
  ·rintro w' _;go_simp;first|done|with_reducible rfl|rfl
  simp only[Act.put,LA];refine Tk1 (v:=?_) 11 trivial ?_ ?_;rotate_left
  ·rintro w' _;go_simp;first|done|with_reducible rfl|rfl
  simp only[Act.put,LA];refine Tk1 (v:=?_) 12 trivial ?_ ?_;rotate_left
  ·rintro w' _;go_simp;first|done|with_reducible rfl|rfl
  simp only[Act.put,LA];refine Tk1 (v:=?_) 13 trivial ?_ ?_;rotate_left
  ·rintro w' _;go_simp;first|done|with_reducible rfl|rfl
  simp only[Act.put,LA];refine Tk1 (v:=?_) 14 trivial ?_ ?_;rotate_left
  ·rintro w' _;go_simp;first|done|with_reducible rfl|rfl
  simp only[Act.put,LA];refine Tk1 (v:=?_) 15 trivial ?_ ?_;rotate_left
  ·rintro w' _;go_simp;first|done|with_reducible rfl|rfl
  simp only[Act.put,LA];refine wpAnyH_done (by kernel_rfl) ?_ _;refine NoPanic.normal ?_;have hc7:=(B7.out.block _ HLQ.out).trans HGQ.out;have cg:=zab hc7;have fg:=zbJ hc7;clear hc7;go_wp2_with fail;have e1:=World.cell?_setCell_same _ _ (.slice A7 qn c7) cg;refine bodyPost_ret (v:=.tuple #[.agg #[.slice A7 qn c7],.int .i64 0]) (by simp[results,Tryz.results46,go_sem,e1]) rfl ?_;rw[HR.out];have hq7:(enc (den cur j) []).1=ofQ l (k:Int):=by rw[HJD.out,HQ.out.1];rfl
  have hqn:=HQN.out;rw[hq7] at hqn HN7;have hA7b:=hA7bb.out;refine⟨A7,c7,?_,?_,HA7.out,(HBW.out.trans (B7.out.mono HBW.out.size)).setCell (Nat.le_refl _) _⟩
  ·rw[HQ.out.2,hqn]
  ·exact HN7.out.gbr (zbD _ _ _) (fun a ea e=>by have h1:=hA7b a ea;have h2:=HLQ.out;have h3:a.block=w.heap.size:=Option.some.inj e;omega)
theorem zug (A:Option Addr)(c n:Nat)(l:List Nd)(k:Int)(w:World)(h:Ns w A c l)(hn:l.length=n)(hn9:n≤900000)(hA:A=none→c=0) :
  Calls Tryz.prog 46 #[.slice A n c,.int .i64 k] w (RetO l k w):=by
 cases hl:zac l with
 | false=>exact zto A c n l k w h hn (.inl hl)
 | true =>
  by_cases hk:0≤k∧k≤(n:Int)
  ·obtain⟨j,rfl⟩:∃j:Nat,k=j:=⟨k.toNat,by omega⟩;exact zuf A c n j l w h hn hn9 hl (by omega) hA
  ·exact zto A c n l k w h hn (.inr (by omega))
end Go.Proofs.YtfjajpnfjjdnpaaGreatDoor
