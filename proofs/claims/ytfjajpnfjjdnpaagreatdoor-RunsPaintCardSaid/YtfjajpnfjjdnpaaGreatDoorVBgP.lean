import Derived.Test.YtfjajpnfjjdnpaaGreatDoorVClSe

set_option linter.unusedVariables false
set_option linter.unusedSimpArgs false
set_option maxRecDepth 100000
set_option maxHeartbeats 6400000
namespace Go.Proofs.YtfjajpnfjjdnpaaGreatDoor
open Go.RowKit Nds Num
def okC (v:Cv):Bool:=zbs v.sx v.xs&&zbs v.sy v.ys
theorem ztV {c:Cl}:∀{lv:Nat},lv≤1330→upL c lv≤1329→inL c (upL c lv)=true:=fun {lv}=>by
 suffices h:∀d lv,lv+d=1330→upL c lv≤1329→inL c (upL c lv)=true from fun hl h1=>h (1330-lv) lv (by omega) h1
 intro d
 induction d with
 | zero=>intro lv he h1;rw[zjF (by omega)] at h1;omega
 | succ d ih =>
  intro lv he h1;cases hq:inL c lv with
  | true=>rw[zhJ hq];exact hq
  | false =>
   rw[zhK (by omega) hq] at h1 ⊢;exact ih (lv+1) (by omega) h1
theorem ztW (c:Cl):∀(lv:Nat),lv≤1330→lv≤upL c lv∧upL c lv≤1330:=fun lv hl=>by
 suffices h:∀d lv,lv+d=1330→lv≤upL c lv∧upL c lv≤1330 from h (1330-lv) lv (by omega)
 intro d
 induction d with
 | zero=>intro lv he;rw[zjF (by omega)];omega
 | succ d ih =>
  intro lv he;cases hq:inL c lv with
  | true=>rw[zhJ hq];omega
  | false =>
   rw[zhK (by omega) hq];have:=ih (lv+1) (by omega);omega
theorem ztX {c:Cl}{a b:Nat}(h:inL c a=true)(hab:a≤b):inL c b=true:=by
 unfold inL inH at h ⊢;simp only[Bool.and_eq_true,decide_eq_true_eq] at h ⊢;have:=zbE (show a-1≤b-1 by omega);omega
theorem zlg:∀(l:List Cl) (lv:Nat),lv≤1330→lv≤l.foldl (fun lv c=>upL c lv) lv∧l.foldl (fun lv c=>upL c lv) lv≤1330∧(l.foldl (fun lv c=>upL c lv) lv≤1329→∀c∈l,inL c (l.foldl (fun lv c=>upL c lv) lv)=true)
 | [],lv,h=>⟨Nat.le_refl _,h,fun _ c hc=>by cases hc⟩
 | c :: l,lv,h=>by
  obtain⟨g1,g2⟩:=ztW c lv h;obtain⟨h1,h2,h3⟩:=zlg l (upL c lv) g2;refine⟨Nat.le_trans g1 h1,h2,fun h9 d hd=>?_⟩;rcases List.mem_cons.1 hd with rfl|hd
  ·exact ztX (ztV h (Nat.le_trans h1 h9)) h1
  ·exact h3 h9 d hd
theorem zuL {l out:List Cv}(h:out.map Cv.cl=zbo (l.map Cv.cl)){lv:Nat}(hl:lv=zce (zbo (l.map Cv.cl)))(h9:lv≤1329){x:Cv}(hx:x∈out):inL x.cl lv=true:=by
 have hm:x.cl∈zbo (l.map Cv.cl):=by rw[←h];exact List.mem_map_of_mem hx
 have:=(zlg (zbo (l.map Cv.cl)) 1 (by omega)).2.2;unfold zce at hl;rw[←hl] at this;exact this h9 _ hm
theorem zbh {s:Bool}{xs:List Nat}(h:zbs s xs=true):zaE s xs:=by
 unfold zbs at h;rw[Bool.and_eq_true] at h;refine⟨?_,fun hs e=>?_⟩
 ·have h1:=h.1;simp[zgD] at h1;unfold zaG;rw[List.getLast?_eq_getElem?];intro e;rcases h1 with rfl|h1
  ·simp at e
  ·rw[e] at h1;exact h1 rfl
 ·subst hs e;simp at h
end Go.Proofs.YtfjajpnfjjdnpaaGreatDoor

namespace Go.Proofs.YtfjajpnfjjdnpaaGreatDoor
open Nds
def outP (m:Nat)(out:List Nd)(X Y:Int)(L:List Cl):Nat→List Nd
 | 0=>out
 | k+1=>(zar m (outP m out X Y L k) (X+offI (p2 m) k) (Y+offJ (p2 m) k) (L.filter (sqB (X+offI (p2 m) k) (Y+offJ (p2 m) k) (p2 m)))).1
def kidP (m:Nat)(out:List Nd)(X Y:Int)(L:List Cl)(k:Nat):Int :=
 (zar m (outP m out X Y L k) (X+offI (p2 m) k) (Y+offJ (p2 m) k) (L.filter (sqB (X+offI (p2 m) k) (Y+offJ (p2 m) k) (p2 m)))).2
def topP (m:Nat)(out:List Nd)(X Y:Int)(L:List Cl):Nd:=⟨(m:Int)+1,kidP m out X Y L 0,kidP m out X Y L 1,kidP m out X Y L 2,kidP m out X Y L 3⟩
theorem zhQ (m:Nat)(out:List Nd)(X Y:Int)(L:List Cl){k:Nat}(hk:k<4):(topP m out X Y L).kid k=kidP m out X Y L k:=by
 match k,hk with
 | 0,_=>rfl
 | 1,_=>rfl
 | 2,_=>rfl
 | 3,_=>rfl
theorem zeG (m:Nat)(out:List Nd)(X Y:Int):zar m out X Y []=(out,0):=by
 cases m <;> rfl
theorem zdB {m:Nat}{out:List Nd}{X Y:Int}{L:List Cl}(hne:L≠[]):zar (m+1) out X Y L=(outP m out X Y L 4++[topP m out X Y L],(((outP m out X Y L 4).length+1:Nat):Int)):=by
 have h0:L.isEmpty=false:=by
  cases L with
  | nil=>exact absurd rfl hne
  | cons c L=>rfl
 conv=>lhs;unfold zar
 rw[h0];rfl
theorem ziI (h X Y:Int)(hh:0<h)(L:List Cl):(L.filter (sqB (X+offI h 0) (Y+offJ h 0) h)).length+(L.filter (sqB (X+offI h 1) (Y+offJ h 1) h)).length+(L.filter (sqB (X+offI h 2) (Y+offJ h 2) h)).length+(L.filter (sqB (X+offI h 3) (Y+offJ h 3) h)).length≤L.length:=by
 induction L with
 | nil=>exact Nat.le_refl 0
 | cons c L ih =>
  have s0:=zaU (X:=X+offI h 0) (Y:=Y+offJ h 0) (h:=h) (c:=c);have s1:=zaU (X:=X+offI h 1) (Y:=Y+offJ h 1) (h:=h) (c:=c);have s2:=zaU (X:=X+offI h 2) (Y:=Y+offJ h 2) (h:=h) (c:=c);have s3:=zaU (X:=X+offI h 3) (Y:=Y+offJ h 3) (h:=h) (c:=c);rw[List.filter_cons,List.filter_cons,List.filter_cons,List.filter_cons,List.length_cons];simp only[offI,offJ,Int.add_zero] at s0 s1 s2 s3 ih ⊢;generalize sqB X Y h c=b0 at s0 ⊢;generalize sqB (X+h) Y h c=b1 at s1 ⊢;generalize sqB X (Y+h) h c=b2 at s2 ⊢;generalize sqB (X+h) (Y+h) h c=b3 at s3 ⊢;cases b0 <;> cases b1 <;> cases b2 <;> cases b3 <;> simp at s0 s1 s2 s3 ⊢ <;> omega
theorem zaY:∀(m:Nat) (out:List Nd) (X Y:Int) (L:List Cl),(zar m out X Y L).1.length≤out.length+m*L.length
 | 0,out,X,Y,L=>Nat.le_add_right _ _
 | m+1,out,X,Y,L=>by
  by_cases hne:L=[]
  ·subst hne;rw[zeG];exact Nat.le_add_right _ _
  ·have hp:0<L.length:=List.length_pos_iff.2 hne;have h0:(outP m out X Y L 1).length≤_:=zaY m out (X+offI (p2 m) 0) (Y+offJ (p2 m) 0) (L.filter (sqB (X+offI (p2 m) 0) (Y+offJ (p2 m) 0) (p2 m)));have h1:(outP m out X Y L 2).length≤_:=zaY m (outP m out X Y L 1) (X+offI (p2 m) 1) (Y+offJ (p2 m) 1) (L.filter (sqB (X+offI (p2 m) 1) (Y+offJ (p2 m) 1) (p2 m)));have h2:(outP m out X Y L 3).length≤_:=zaY m (outP m out X Y L 2) (X+offI (p2 m) 2) (Y+offJ (p2 m) 2) (L.filter (sqB (X+offI (p2 m) 2) (Y+offJ (p2 m) 2) (p2 m)));have h3:(outP m out X Y L 4).length≤_:=zaY m (outP m out X Y L 3) (X+offI (p2 m) 3) (Y+offJ (p2 m) 3) (L.filter (sqB (X+offI (p2 m) 3) (Y+offJ (p2 m) 3) (p2 m)));have hq:=ziI (p2 m) X Y (zay m) L;have hm:=Nat.mul_le_mul_left m hq;rw[Nat.mul_add,Nat.mul_add,Nat.mul_add] at hm;rw[zdB hne,Nat.add_mul,Nat.one_mul];show(outP m out X Y L 4++[topP m out X Y L]).length≤_;rw[List.length_append,List.length_singleton];omega
theorem zhR (m:Nat)(out:List Nd)(X Y:Int)(L:List Cl)(k:Nat)(hk:k<4):(outP m out X Y L k).length+m*(L.filter (sqB (X+offI (p2 m) k) (Y+offJ (p2 m) k) (p2 m))).length≤out.length+m*L.length:=by
 have h0:(outP m out X Y L 1).length≤_:=zaY m out (X+offI (p2 m) 0) (Y+offJ (p2 m) 0) (L.filter (sqB (X+offI (p2 m) 0) (Y+offJ (p2 m) 0) (p2 m)));have h1:(outP m out X Y L 2).length≤_:=zaY m (outP m out X Y L 1) (X+offI (p2 m) 1) (Y+offJ (p2 m) 1) (L.filter (sqB (X+offI (p2 m) 1) (Y+offJ (p2 m) 1) (p2 m)));have h2:(outP m out X Y L 3).length≤_:=zaY m (outP m out X Y L 2) (X+offI (p2 m) 2) (Y+offJ (p2 m) 2) (L.filter (sqB (X+offI (p2 m) 2) (Y+offJ (p2 m) 2) (p2 m)));have hq:=ziI (p2 m) X Y (zay m) L;have hm:=Nat.mul_le_mul_left m hq;rw[Nat.mul_add,Nat.mul_add,Nat.mul_add] at hm;have e0:(outP m out X Y L 0).length=out.length:=rfl
 match k,hk with
 | 0,_=>omega
 | 1,_=>omega
 | 2,_=>omega
 | 3,_=>omega
theorem zoy (m:Nat)(out:List Nd)(X Y:Int)(L:List Cl):(outP m out X Y L 4).length≤out.length+m*L.length:=by
 have h:=zhR m out X Y L 3 (by omega);have h3:(outP m out X Y L 4).length≤_:=zaY m (outP m out X Y L 3) (X+offI (p2 m) 3) (Y+offJ (p2 m) 3) (L.filter (sqB (X+offI (p2 m) 3) (Y+offJ (p2 m) 3) (p2 m)));omega
theorem zoz (m:Nat)(out:List Nd)(X Y:Int){L:List Cl}(h:∀c∈L,0≤c.s∧c.s≤255):0≤(zar m out X Y L).2∧(zar m out X Y L).2≤255+((zar m out X Y L).1.length:Int):=by
 cases m with
 | zero =>
  cases L with
  | nil=>exact⟨Int.le_refl 0,by show(0:Int)≤255+((out.length:Nat):Int);omega⟩
  | cons c L =>
   have:=h c (by simp);exact⟨this.1,by show c.s≤255+((out.length:Nat):Int);omega⟩
 | succ m =>
  by_cases hne:L=[]
  ·subst hne;rw[zeG];exact⟨Int.le_refl 0,by show(0:Int)≤255+((out.length:Nat):Int);omega⟩
  ·rw[zdB hne];dsimp only;rw[List.length_append,List.length_singleton];omega
theorem zsK {m:Nat}{out:List Nd}{X Y:Int}{L:List Cl}(hm:m≤1328)(h:∀c∈L,0≤c.s∧c.s≤255)(hl:out.length+m*L.length≤900000):(topP m out X Y L).wf:=by
 have key:∀k,k<4→in64 (kidP m out X Y L k):=fun k hk=>by
  have h1:=zoz m (outP m out X Y L k) (X+offI (p2 m) k) (Y+offJ (p2 m) k) (L:=L.filter (sqB (X+offI (p2 m) k) (Y+offJ (p2 m) k) (p2 m))) (fun c hc=>h c (List.mem_filter.1 hc).1);have h2:=zaY m (outP m out X Y L k) (X+offI (p2 m) k) (Y+offJ (p2 m) k) (L.filter (sqB (X+offI (p2 m) k) (Y+offJ (p2 m) k) (p2 m)));have h3:=zhR m out X Y L k hk;unfold kidP;exact⟨by omega,by omega⟩
 exact⟨⟨by show _≤(m:Int)+1;omega,by show(m:Int)+1≤_;omega⟩,key 0 (by omega),key 1 (by omega),key 2 (by omega),key 3 (by omega)⟩
end Go.Proofs.YtfjajpnfjjdnpaaGreatDoor

namespace Go.Proofs.YtfjajpnfjjdnpaaGreatDoor
open Go.RowKit Num
theorem zsL (s:Bool)(A:Option Addr)(c:Nat)(xs:List Nat)(n:Int)(w:World)(h:Us w A c xs)(hl:xs.length≤60000) :
  Calls Tryz.prog 153 #[.agg #[.bool s,.slice A xs.length c],.int .i64 n] w (zcW (shlI (ival s xs) n) w):=by
 have hcap:=h.cap;obtain⟨hX,hR,hB⟩:=box2 w (.bool s) (.slice A xs.length c) (.bool false) (.slice none 0 0) 48;have HX:=Hh hX.drew;have HR:=Hh hR.drew;have HB:=Hh (Below.drew' hB);have hd:=h.1;have H1:=Hh (h.below HB.out);clear h hX hR hB;go_enter Tryz.func153,Tryz.ntmps153;go_wp2_with fail;go_region_held3 (fun w'=>w'.cell? ⟨w.heap.size,0,none⟩=some (.bool s)∧w'.cell? ⟨w.heap.size,1,none⟩=some (.slice A xs.length c))
  (first|go_keep|fail)
  (first
   | (go_at_call 201;refine(zrr _ _ xs n _ H1.out (by omega)).mono ?_;rintro e w1 ⟨A1,c1,r1,rfl,q1,k1,v1,b1⟩;obtain⟨x1,x2,_,_,_⟩:=HX.out.below b1)
   | (go_at_call 94;refine(zfr s _ _ r1 _ q1 (by have:=znd hd hl k1 v1;omega)).mono ?_;rintro e w2 ⟨A2,c2,s2,r2,rfl,q2,k2,v2,b2,f2⟩;have HF2:=Hh f2;clear f2;obtain⟨x1,x2,_,_,_⟩:=(HX.out.below b1).below b2;obtain⟨y1,y2,y3,y4,_⟩:=(HR.out.below b1).below b2))
 go_wp2;obtain⟨e1,e2,_,_,_⟩:=(((HR.out.below b1).below b2).set (.bool s2) (.slice A2 r2.length c2));refine bodyPost_ret (v:=.agg #[.bool s2,.slice A2 r2.length c2]) (by simp[results,Tryz.results153,go_sem,e1,e2]) rfl ?_;exact zcW.box (by omega) ((HR.out.below b1).below b2) q2 k2 (v2.trans (zhm s v1)) ((HB.out.trans (b1.mono HB.out.size)).trans (b2.mono (HB.out.trans (b1.mono HB.out.size)).size)) (fun a ea=>Nat.le_trans HB.out.size (Nat.le_trans b1.size (HF2.out a ea)))
theorem zsM (n:Int)(w:World) :
  Calls Tryz.prog 109 #[.int .i64 n] w (zcW (shlI 1 n) w):=by
 obtain⟨hR,hB⟩:=box1 w (.bool false) (.slice none 0 0) 48;have HR:=Hh hR;have HB:=Hh hB;clear hR hB;go_enter Tryz.func109,Tryz.ntmps109;go_wp2_with (first
  | (go_at_call 48;refine(zaZ 1 _ (by decide) (by decide)).mono ?_;rintro e w1 ⟨A1,c1,s1,r1,rfl,q1,k1,v1,b1⟩;have l1:r1.length≤1:=zbl k1 v1 1 (by decide);have HV:=Hh v1;clear v1)
  | (go_at_call 153;refine(zsL s1 _ _ r1 n _ q1 (by omega)).mono ?_;rintro e w2 ⟨A2,c2,s2,r2,rfl,q2,k2,v2,b2,f2⟩;have HF2:=Hh f2;clear f2;obtain⟨y1,y2,y3,y4,_⟩:=(HR.out.below b1).below b2;have HV2:=Hh v2;clear v2))
 obtain⟨e1,e2,_,_,_⟩:=(((HR.out.below b1).below b2).set (.bool s2) (.slice A2 r2.length c2));refine bodyPost_ret (v:=.agg #[.bool s2,.slice A2 r2.length c2]) (by simp[results,Tryz.results109,go_sem,e1,e2]) rfl ?_;exact zcW.box (by omega) ((HR.out.below b1).below b2) q2 k2 (by rw[HV2.out,HV.out]) ((HB.out.trans (b1.mono HB.out.size)).trans (b2.mono (HB.out.trans (b1.mono HB.out.size)).size)) (fun a ea=>Nat.le_trans HB.out.size (Nat.le_trans b1.size (HF2.out a ea)))
end Go.Proofs.YtfjajpnfjjdnpaaGreatDoor
