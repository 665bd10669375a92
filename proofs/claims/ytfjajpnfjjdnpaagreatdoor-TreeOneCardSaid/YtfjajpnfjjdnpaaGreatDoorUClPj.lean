import Derived.Test.YtfjajpnfjjdnpaaGreatDoorUClLa
import Derived.Test.YtfjajpnfjjdnpaaGreatDoorUClNp
import Derived.Test.YtfjajpnfjjdnpaaGreatDoorULkRi

set_option linter.unusedVariables false
set_option linter.unusedSimpArgs false
set_option maxRecDepth 100000
set_option maxHeartbeats 6400000
namespace Go.Proofs.YtfjajpnfjjdnpaaGreatDoor
open Go.RowKit Nds Num
def okC (v:Cv):Bool:=zcT v.sx v.xs&&zcT v.sy v.ys
theorem zpL {c:Cl}:∀{lv:Nat},lv≤1330→upL c lv≤1329→inL c (upL c lv)=true:=fun {lv}=>by
 suffices h:∀d lv,lv+d=1330→upL c lv≤1329→inL c (upL c lv)=true from fun hl h1=>h (1330-lv) lv (by omega) h1
 intro d
 induction d with
 | zero=>intro lv he h1;rw[zig (by omega)] at h1;omega
 | succ d ih =>
  intro lv he h1;cases hq:inL c lv with
  | true=>rw[zgD hq];exact hq
  | false =>
   rw[zgE (by omega) hq] at h1 ⊢;exact ih (lv+1) (by omega) h1
theorem zpM (c:Cl):∀(lv:Nat),lv≤1330→lv≤upL c lv∧upL c lv≤1330:=fun lv hl=>by
 suffices h:∀d lv,lv+d=1330→lv≤upL c lv∧upL c lv≤1330 from h (1330-lv) lv (by omega)
 intro d
 induction d with
 | zero=>intro lv he;rw[zig (by omega)];omega
 | succ d ih =>
  intro lv he;cases hq:inL c lv with
  | true=>rw[zgD hq];omega
  | false =>
   rw[zgE (by omega) hq];have:=ih (lv+1) (by omega);omega
theorem zpN {c:Cl}{a b:Nat}(h:inL c a=true)(hab:a≤b):inL c b=true:=by
 unfold inL inH at h ⊢;simp only[Bool.and_eq_true,decide_eq_true_eq] at h ⊢;have:=zgu (show a-1≤b-1 by omega);omega
theorem zjz:∀(l:List Cl) (lv:Nat),lv≤1330→lv≤l.foldl (fun lv c=>upL c lv) lv∧l.foldl (fun lv c=>upL c lv) lv≤1330∧(l.foldl (fun lv c=>upL c lv) lv≤1329→∀c∈l,inL c (l.foldl (fun lv c=>upL c lv) lv)=true)
 | [],lv,h=>⟨Nat.le_refl _,h,fun _ c hc=>by cases hc⟩
 | c :: l,lv,h=>by
  obtain⟨g1,g2⟩:=zpM c lv h;obtain⟨h1,h2,h3⟩:=zjz l (upL c lv) g2;refine⟨Nat.le_trans g1 h1,h2,fun h9 d hd=>?_⟩;rcases List.mem_cons.1 hd with rfl|hd
  ·exact zpN (zpL h (Nat.le_trans h1 h9)) h1
  ·exact h3 h9 d hd
theorem zqq {l out:List Cv}(h:out.map Cv.cl=zaS (l.map Cv.cl)){lv:Nat}(hl:lv=zbE (zaS (l.map Cv.cl)))(h9:lv≤1329){x:Cv}(hx:x∈out):inL x.cl lv=true:=by
 have hm:x.cl∈zaS (l.map Cv.cl):=by rw[←h];exact List.mem_map_of_mem hx
 have:=(zjz (zaS (l.map Cv.cl)) 1 (by omega)).2.2;unfold zbE at hl;rw[←hl] at this;exact this h9 _ hm
theorem zdY {s:Bool}{xs:List Nat}(h:zcT s xs=true):zaD s xs:=by
 unfold zcT at h;rw[Bool.and_eq_true] at h;refine⟨?_,fun hs e=>?_⟩
 ·have h1:=h.1;simp[zfr] at h1;unfold zbu;rw[List.getLast?_eq_getElem?];intro e;rcases h1 with rfl|h1
  ·simp at e
  ·rw[e] at h1;exact h1 rfl
 ·subst hs e;simp at h
end Go.Proofs.YtfjajpnfjjdnpaaGreatDoor

namespace Go.Proofs.YtfjajpnfjjdnpaaGreatDoor
open Nds
def outP (m:Nat)(out:List Nd)(X Y:Int)(L:List Cl):Nat→List Nd
 | 0=>out
 | k+1=>(zan m (outP m out X Y L k) (X+offI (p2 m) k) (Y+offJ (p2 m) k) (L.filter (sqB (X+offI (p2 m) k) (Y+offJ (p2 m) k) (p2 m)))).1
def kidP (m:Nat)(out:List Nd)(X Y:Int)(L:List Cl)(k:Nat):Int :=
 (zan m (outP m out X Y L k) (X+offI (p2 m) k) (Y+offJ (p2 m) k) (L.filter (sqB (X+offI (p2 m) k) (Y+offJ (p2 m) k) (p2 m)))).2
def topP (m:Nat)(out:List Nd)(X Y:Int)(L:List Cl):Nd:=⟨(m:Int)+1,kidP m out X Y L 0,kidP m out X Y L 1,kidP m out X Y L 2,kidP m out X Y L 3⟩
theorem zgI (m:Nat)(out:List Nd)(X Y:Int)(L:List Cl){k:Nat}(hk:k<4):(topP m out X Y L).kid k=kidP m out X Y L k:=by
 match k,hk with
 | 0,_=>rfl
 | 1,_=>rfl
 | 2,_=>rfl
 | 3,_=>rfl
theorem zdR (m:Nat)(out:List Nd)(X Y:Int):zan m out X Y []=(out,0):=by
 cases m <;> rfl
theorem zda {m:Nat}{out:List Nd}{X Y:Int}{L:List Cl}(hne:L≠[]):zan (m+1) out X Y L=(outP m out X Y L 4++[topP m out X Y L],(((outP m out X Y L 4).length+1:Nat):Int)):=by
 have h0:L.isEmpty=false:=by
  cases L with
  | nil=>exact absurd rfl hne
  | cons c L=>rfl
 conv=>lhs;unfold zan
 rw[h0];rfl
theorem zhx (h X Y:Int)(hh:0<h)(L:List Cl):(L.filter (sqB (X+offI h 0) (Y+offJ h 0) h)).length+(L.filter (sqB (X+offI h 1) (Y+offJ h 1) h)).length+(L.filter (sqB (X+offI h 2) (Y+offJ h 2) h)).length+(L.filter (sqB (X+offI h 3) (Y+offJ h 3) h)).length≤L.length:=by
 induction L with
 | nil=>exact Nat.le_refl 0
 | cons c L ih =>
  have s0:=zaQ (X:=X+offI h 0) (Y:=Y+offJ h 0) (h:=h) (c:=c);have s1:=zaQ (X:=X+offI h 1) (Y:=Y+offJ h 1) (h:=h) (c:=c);have s2:=zaQ (X:=X+offI h 2) (Y:=Y+offJ h 2) (h:=h) (c:=c);have s3:=zaQ (X:=X+offI h 3) (Y:=Y+offJ h 3) (h:=h) (c:=c);rw[List.filter_cons,List.filter_cons,List.filter_cons,List.filter_cons,List.length_cons];simp only[offI,offJ,Int.add_zero] at s0 s1 s2 s3 ih ⊢;generalize sqB X Y h c=b0 at s0 ⊢;generalize sqB (X+h) Y h c=b1 at s1 ⊢;generalize sqB X (Y+h) h c=b2 at s2 ⊢;generalize sqB (X+h) (Y+h) h c=b3 at s3 ⊢;cases b0 <;> cases b1 <;> cases b2 <;> cases b3 <;> simp at s0 s1 s2 s3 ⊢ <;> omega
theorem zaW:∀(m:Nat) (out:List Nd) (X Y:Int) (L:List Cl),(zan m out X Y L).1.length≤out.length+m*L.length
 | 0,out,X,Y,L=>Nat.le_add_right _ _
 | m+1,out,X,Y,L=>by
  by_cases hne:L=[]
  ·subst hne;rw[zdR];exact Nat.le_add_right _ _
  ·have hp:0<L.length:=List.length_pos_iff.2 hne;have h0:(outP m out X Y L 1).length≤_:=zaW m out (X+offI (p2 m) 0) (Y+offJ (p2 m) 0) (L.filter (sqB (X+offI (p2 m) 0) (Y+offJ (p2 m) 0) (p2 m)));have h1:(outP m out X Y L 2).length≤_:=zaW m (outP m out X Y L 1) (X+offI (p2 m) 1) (Y+offJ (p2 m) 1) (L.filter (sqB (X+offI (p2 m) 1) (Y+offJ (p2 m) 1) (p2 m)));have h2:(outP m out X Y L 3).length≤_:=zaW m (outP m out X Y L 2) (X+offI (p2 m) 2) (Y+offJ (p2 m) 2) (L.filter (sqB (X+offI (p2 m) 2) (Y+offJ (p2 m) 2) (p2 m)));have h3:(outP m out X Y L 4).length≤_:=zaW m (outP m out X Y L 3) (X+offI (p2 m) 3) (Y+offJ (p2 m) 3) (L.filter (sqB (X+offI (p2 m) 3) (Y+offJ (p2 m) 3) (p2 m)));have hq:=zhx (p2 m) X Y (zaV m) L;have hm:=Nat.mul_le_mul_left m hq;rw[Nat.mul_add,Nat.mul_add,Nat.mul_add] at hm;rw[zda hne,Nat.add_mul,Nat.one_mul];show(outP m out X Y L 4++[topP m out X Y L]).length≤_;rw[List.length_append,List.length_singleton];omega
theorem zgJ (m:Nat)(out:List Nd)(X Y:Int)(L:List Cl)(k:Nat)(hk:k<4):(outP m out X Y L k).length+m*(L.filter (sqB (X+offI (p2 m) k) (Y+offJ (p2 m) k) (p2 m))).length≤out.length+m*L.length:=by
 have h0:(outP m out X Y L 1).length≤_:=zaW m out (X+offI (p2 m) 0) (Y+offJ (p2 m) 0) (L.filter (sqB (X+offI (p2 m) 0) (Y+offJ (p2 m) 0) (p2 m)));have h1:(outP m out X Y L 2).length≤_:=zaW m (outP m out X Y L 1) (X+offI (p2 m) 1) (Y+offJ (p2 m) 1) (L.filter (sqB (X+offI (p2 m) 1) (Y+offJ (p2 m) 1) (p2 m)));have h2:(outP m out X Y L 3).length≤_:=zaW m (outP m out X Y L 2) (X+offI (p2 m) 2) (Y+offJ (p2 m) 2) (L.filter (sqB (X+offI (p2 m) 2) (Y+offJ (p2 m) 2) (p2 m)));have hq:=zhx (p2 m) X Y (zaV m) L;have hm:=Nat.mul_le_mul_left m hq;rw[Nat.mul_add,Nat.mul_add,Nat.mul_add] at hm;have e0:(outP m out X Y L 0).length=out.length:=rfl
 match k,hk with
 | 0,_=>omega
 | 1,_=>omega
 | 2,_=>omega
 | 3,_=>omega
theorem zlJ (m:Nat)(out:List Nd)(X Y:Int)(L:List Cl):(outP m out X Y L 4).length≤out.length+m*L.length:=by
 have h:=zgJ m out X Y L 3 (by omega);have h3:(outP m out X Y L 4).length≤_:=zaW m (outP m out X Y L 3) (X+offI (p2 m) 3) (Y+offJ (p2 m) 3) (L.filter (sqB (X+offI (p2 m) 3) (Y+offJ (p2 m) 3) (p2 m)));omega
theorem zlK (m:Nat)(out:List Nd)(X Y:Int){L:List Cl}(h:∀c∈L,0≤c.s∧c.s≤255):0≤(zan m out X Y L).2∧(zan m out X Y L).2≤255+((zan m out X Y L).1.length:Int):=by
 cases m with
 | zero =>
  cases L with
  | nil=>exact⟨Int.le_refl 0,by show(0:Int)≤255+((out.length:Nat):Int);omega⟩
  | cons c L =>
   have:=h c (by simp);exact⟨this.1,by show c.s≤255+((out.length:Nat):Int);omega⟩
 | succ m =>
  by_cases hne:L=[]
  ·subst hne;rw[zdR];exact⟨Int.le_refl 0,by show(0:Int)≤255+((out.length:Nat):Int);omega⟩
  ·rw[zda hne];dsimp only;rw[List.length_append,List.length_singleton];omega
theorem zoU {m:Nat}{out:List Nd}{X Y:Int}{L:List Cl}(hm:m≤1328)(h:∀c∈L,0≤c.s∧c.s≤255)(hl:out.length+m*L.length≤900000):(topP m out X Y L).wf:=by
 have key:∀k,k<4→in64 (kidP m out X Y L k):=fun k hk=>by
  have h1:=zlK m (outP m out X Y L k) (X+offI (p2 m) k) (Y+offJ (p2 m) k) (L:=L.filter (sqB (X+offI (p2 m) k) (Y+offJ (p2 m) k) (p2 m))) (fun c hc=>h c (List.mem_filter.1 hc).1);have h2:=zaW m (outP m out X Y L k) (X+offI (p2 m) k) (Y+offJ (p2 m) k) (L.filter (sqB (X+offI (p2 m) k) (Y+offJ (p2 m) k) (p2 m)));have h3:=zgJ m out X Y L k hk;unfold kidP;exact⟨by omega,by omega⟩
 exact⟨⟨by show _≤(m:Int)+1;omega,by show(m:Int)+1≤_;omega⟩,key 0 (by omega),key 1 (by omega),key 2 (by omega),key 3 (by omega)⟩
end Go.Proofs.YtfjajpnfjjdnpaaGreatDoor

namespace Go.Proofs.YtfjajpnfjjdnpaaGreatDoor
open Go.RowKit Num
theorem zoV (s:Bool)(A:Option Addr)(c:Nat)(xs:List Nat)(n:Int)(w:World)(h:Us w A c xs)(hl:xs.length≤60000) :
  Calls Tryz.prog 153 #[.agg #[.bool s,.slice A xs.length c],.int .i64 n] w (zcR (shlI (ival s xs) n) w):=by
 have hcap:=h.cap;obtain⟨hX,hR,hB⟩:=box2 w (.bool s) (.slice A xs.length c) (.bool false) (.slice none 0 0) 48;have HX:=Hh hX.drew;have HR:=Hh hR.drew;have HB:=Hh (Below.drew' hB);have hd:=h.1;have H1:=Hh (h.below HB.out);clear h hX hR hB;go_enter Tryz.func153,Tryz.ntmps153;go_wp2_with fail;go_region_held3 (fun w'=>w'.cell? ⟨w.heap.size,0,none⟩=some (.bool s)∧w'.cell? ⟨w.heap.size,1,none⟩=some (.slice A xs.length c))
  (first|go_keep|fail)
  (first
   | (go_at_call 201;refine(znL _ _ xs n _ H1.out (by omega)).mono ?_;rintro e w1 ⟨A1,c1,r1,rfl,q1,k1,v1,b1⟩;obtain⟨x1,x2,_,_,_⟩:=HX.out.below b1)
   | (go_at_call 94;refine(zei s _ _ r1 _ q1 (by have:=zkF hd hl k1 v1;omega)).mono ?_;rintro e w2 ⟨A2,c2,s2,r2,rfl,q2,k2,v2,b2,f2⟩;have HF2:=Hh f2;clear f2;obtain⟨x1,x2,_,_,_⟩:=(HX.out.below b1).below b2;obtain⟨y1,y2,y3,y4,_⟩:=(HR.out.below b1).below b2))
 go_wp2;obtain⟨e1,e2,_,_,_⟩:=(((HR.out.below b1).below b2).set (.bool s2) (.slice A2 r2.length c2));refine bodyPost_ret (v:=.agg #[.bool s2,.slice A2 r2.length c2]) (by simp[results,Tryz.results153,go_sem,e1,e2]) rfl ?_;exact zcR.box (by omega) ((HR.out.below b1).below b2) q2 k2 (v2.trans (ziK s v1)) ((HB.out.trans (b1.mono HB.out.size)).trans (b2.mono (HB.out.trans (b1.mono HB.out.size)).size)) (fun a ea=>Nat.le_trans HB.out.size (Nat.le_trans b1.size (HF2.out a ea)))
theorem zoW (n:Int)(w:World) :
  Calls Tryz.prog 109 #[.int .i64 n] w (zcR (shlI 1 n) w):=by
 obtain⟨hR,hB⟩:=box1 w (.bool false) (.slice none 0 0) 48;have HR:=Hh hR;have HB:=Hh hB;clear hR hB;go_enter Tryz.func109,Tryz.ntmps109;go_wp2_with (first
  | (go_at_call 48;refine(zge 1 _ (by decide) (by decide)).mono ?_;rintro e w1 ⟨A1,c1,s1,r1,rfl,q1,k1,v1,b1⟩;have l1:r1.length≤1:=zbq k1 v1 1 (by decide);have HV:=Hh v1;clear v1)
  | (go_at_call 153;refine(zoV s1 _ _ r1 n _ q1 (by omega)).mono ?_;rintro e w2 ⟨A2,c2,s2,r2,rfl,q2,k2,v2,b2,f2⟩;have HF2:=Hh f2;clear f2;obtain⟨y1,y2,y3,y4,_⟩:=(HR.out.below b1).below b2;have HV2:=Hh v2;clear v2))
 obtain⟨e1,e2,_,_,_⟩:=(((HR.out.below b1).below b2).set (.bool s2) (.slice A2 r2.length c2));refine bodyPost_ret (v:=.agg #[.bool s2,.slice A2 r2.length c2]) (by simp[results,Tryz.results109,go_sem,e1,e2]) rfl ?_;exact zcR.box (by omega) ((HR.out.below b1).below b2) q2 k2 (by rw[HV2.out,HV.out]) ((HB.out.trans (b1.mono HB.out.size)).trans (b2.mono (HB.out.trans (b1.mono HB.out.size)).size)) (fun a ea=>Nat.le_trans HB.out.size (Nat.le_trans b1.size (HF2.out a ea)))
end Go.Proofs.YtfjajpnfjjdnpaaGreatDoor

namespace Go.Proofs.YtfjajpnfjjdnpaaGreatDoor
open Go.RowKit Nds Num
theorem Ky.usP {P:Nat→Prop}{w w':World}(h:Ky P w w'){A:Option Addr}{c:Nat}{xs:List Nat}(u:Us w A c xs)(hp:0<xs.length→∀a,A=some a→¬ P a.block):Us w' A c xs :=
 ⟨u.1,u.2.1,u.2.2.1,fun hn=>by
  obtain⟨b,off,e,hlt,hc⟩:=u.2.2.2 hn;exact⟨b,off,e,Nat.lt_of_lt_of_le hlt h.size,fun j v hv=>h.cell (hc j v hv) (show ¬ P b from hp (by simpa using hn) ⟨b,off,none⟩ e)⟩⟩
theorem Ky.hxP {P:Nat→Prop}{w w':World}(h:Ky P w w'){g:Nat}{s:Bool}{A:Option Addr}{c:Nat}{xs:List Nat}{n:Int}(x:HX w g s A c xs n)(hg:¬ P g)(hp:0<xs.length→∀a,A=some a→¬ P a.block):HX w' g s A c xs n :=
 ⟨(h.block g x.lt hg).trans x.box,h.usP x.us hp,x.cn,x.v,x.off⟩
theorem Ky.csP {P:Nat→Prop}{w w':World}(h:Ky P w w'){A:Option Addr}{c:Nat}{l:List Cv}(k:Cs w A c l)(hl:∀u∈l,(0<u.xs.length→∀a,u.ax=some a→¬ P a.block)∧(0<u.ys.length→∀a,u.ay=some a→¬ P a.block))(hb:0<l.length→∀a,A=some a→¬ P a.block):Cs w' A c l :=
 ⟨fun u hu=>⟨h.usP (k.1 u hu).1 (hl u hu).1,h.usP (k.1 u hu).2.1 (hl u hu).2,(k.1 u hu).2.2⟩,k.2.1,k.2.2.1,fun hn=>by
  obtain⟨b,off,e,hlt,hc⟩:=k.2.2.2 hn;exact⟨b,off,e,Nat.lt_of_lt_of_le hlt h.size,fun i hi=>(hc i hi).below (h.block b hlt (hb hn _ e))⟩⟩
def zin (M:Nat)(out:List Nd)(X Y:Int)(L:List Cl)(base:Nat)(v:Value)(w:World)(e:Ending)(w':World):Prop :=
 ∃v',e=.returned (.tuple #[v',.int .i64 (zan M out X Y L).2])∧OwnN w' base v' (zan M out X Y L).1∧(∀k,v'.ownBlock=some k→v.ownBlock=some k∨w.heap.size≤k)∧Ky (fun k=>v.ownBlock=some k) w w'
theorem zkd (base M:Nat)(out:List Nd)(v:Value)(lv:Int)(Ax Ay B:Option Addr)(cx cy d:Nat)(sx sy:Bool)(xs ys:List Nat)(X Y:Int)(w:World)(h:OwnN w base v out) :
  Calls Tryz.prog 145 #[v,.int .i64 lv,.agg #[.bool sx,.slice Ax xs.length cx],.agg #[.bool sy,.slice Ay ys.length cy],.slice B 0 d] w (zin M out X Y [] base v w):=by
 have hb:Ky (fun k=>v.ownBlock=some k) w ((w.alloc (.cells #[.bool sx,.slice Ax xs.length cx] 48)).alloc (.cells #[.bool sy,.slice Ay ys.length cy] 48)):=((Ky.refl _ _).alloc _).alloc _;have HB:=Hh hb;have HO:=Hh ((h.alloc (.cells #[.bool sx,.slice Ax xs.length cx] 48)).alloc (.cells #[.bool sy,.slice Ay ys.length cy] 48));obtain⟨R,hR⟩:∃R,R=zin M out X Y [] base v w:=⟨_,rfl⟩;rw[←hR];have HR:=Hh hR;clear hb h hR;go_enter Tryz.func145,Tryz.ntmps145;go_wp2_with fail
 first|go_ret2|skip
 rw[HR.out];unfold zin;rw[zdR];exact⟨v,rfl,HO.out,fun k hk=>.inl hk,HB.out⟩
structure FarP (B0:Nat)(v0:Value)(Ax:Option Addr)(xs:List Nat)(Ay:Option Addr)(ys:List Nat)(B:Option Addr)(l:List Cv):Prop where
 fv:∀q,v0.ownBlock=some q→q<B0
 fx:0<xs.length→∀a,Ax=some a→a.block<B0∧v0.ownBlock≠some a.block
 fy:0<ys.length→∀a,Ay=some a→a.block<B0∧v0.ownBlock≠some a.block
 fl:∀u∈l,(0<u.xs.length→∀a,u.ax=some a→a.block<B0∧v0.ownBlock≠some a.block)∧(0<u.ys.length→∀a,u.ay=some a→a.block<B0∧v0.ownBlock≠some a.block)
 fb:0<l.length→∀a,B=some a→a.block<B0∧v0.ownBlock≠some a.block
structure PlJ (w:World)(base:Nat)(v0:Value)(B:Option Addr)(d:Nat)(l:List Cv)(sx:Bool)(Ax:Option Addr)(cx:Nat)(xs:List Nat)(X:Int)(sy:Bool)(Ay:Option Addr)(cy:Nat)(ys:List Nat)(Y:Int)(gh:Nat)(sh:Bool)(Ah:Option Addr)(ch:Nat)(hs:List Nat)(m gn:Nat)(y:Nd)(k:Nat)(v:Value)(o:List Nd)(W:World):Prop where
 b:Ky (fun q=>v0.ownBlock=some q) w W
 cs:Cs W B d l
 bx:HX W w.heap.size sx Ax cx xs X
 by_:HX W (w.heap.size+1) sy Ay cy ys Y
 bh:HX W gh sh Ah ch hs (p2 m)
 lt:w.heap.size+1<gh
 ln:gh<gn
 hl:0<hs.length→∀a,Ah=some a→w.heap.size≤a.block∧a.block<gn
 nb:zau W gn (mix ⟨(m:Int)+1,0,0,0,0⟩ y k)
 o:OwnN W base v o
 ob:∀q,v.ownBlock=some q→v0.ownBlock=some q∨gn<q
section
variable {w:World} {base:Nat} {v0:Value} {B:Option Addr} {d:Nat} {l:List Cv} {sx:Bool} {Ax:Option Addr} {cx:Nat} {xs:List Nat} {X:Int} {sy:Bool} {Ay:Option Addr} {cy:Nat} {ys:List Nat} {Y:Int} {gh:Nat} {sh:Bool} {Ah:Option Addr} {ch:Nat} {hs:List Nat} {m gn:Nat} {y:Nd} {k:Nat} {v:Value} {o:List Nd} {W W1:World}
theorem PlJ.nextP (h:PlJ w base v0 B d l sx Ax cx xs X sy Ay cy ys Y gh sh Ah ch hs m gn y k v o W)(q:Below W.heap.size W W1):PlJ w base v0 B d l sx Ax cx xs X sy Ay cy ys Y gh sh Ah ch hs m gn y k v o W1 :=
 ⟨h.b.below q,h.cs.below q,h.bx.next q,h.by_.next q,h.bh.next q,h.lt,h.ln,h.hl,h.nb.stay (q.block gn h.nb.lt),h.o.stays q,h.ob⟩
theorem PlJ.keepP {P:Nat→Prop}(h:PlJ w base v0 B d l sx Ax cx xs X sy Ay cy ys Y gh sh Ah ch hs m gn y k v o W)(F:FarP w.heap.size v0 Ax xs Ay ys B l)(hk:Ky P W W1)(hP:∀t,t<gn→(t<w.heap.size→v0.ownBlock≠some t)→¬ P t) :
  Cs W1 B d l∧HX W1 w.heap.size sx Ax cx xs X∧HX W1 (w.heap.size+1) sy Ay cy ys Y∧HX W1 gh sh Ah ch hs (p2 m):=by
 have h1:=h.lt;have h2:=h.ln;have old:∀t,t<w.heap.size∧v0.ownBlock≠some t→¬ P t:=fun t ht=>hP t (by omega) (fun _=>ht.2);exact⟨hk.csP h.cs (fun u hu=>⟨fun h0 a ea=>old _ ((F.fl u hu).1 h0 a ea),fun h0 a ea=>old _ ((F.fl u hu).2 h0 a ea)⟩) (fun h0 a ea=>old _ (F.fb h0 a ea)),
  hk.hxP h.bx (hP _ (by omega) (fun e=>absurd e (by omega))) (fun h0 a ea=>old _ (F.fx h0 a ea)),
  hk.hxP h.by_ (hP _ (by omega) (fun e=>absurd e (by omega))) (fun h0 a ea=>old _ (F.fy h0 a ea)),
  hk.hxP h.bh (hP _ h2 (fun e=>absurd e (by omega))) (fun h0 a ea=>hP _ (h.hl h0 a ea).2 (fun e=>absurd e (by have:=(h.hl h0 a ea).1;omega)))⟩
theorem PlJ.offP (h:PlJ w base v0 B d l sx Ax cx xs X sy Ay cy ys Y gh sh Ah ch hs m gn y k v o W){t:Nat}(ht:t≤gn)(hv:t<w.heap.size→v0.ownBlock≠some t)(hf:∀q,v0.ownBlock=some q→q<w.heap.size):v.ownBlock≠some t:=fun e=>by
 rcases h.ob t e with e2|e2
 ·exact hv (hf t e2) e2
 ·omega
theorem PlJ.callP {v2:Value}{o2:List Nd}(h:PlJ w base v0 B d l sx Ax cx xs X sy Ay cy ys Y gh sh Ah ch hs m gn y k v o W)(F:FarP w.heap.size v0 Ax xs Ay ys B l)(hk:Ky (fun q=>v.ownBlock=some q) W W1)(ho:OwnN W1 base v2 o2)(h2:∀q,v2.ownBlock=some q→v.ownBlock=some q∨W.heap.size≤q) :
  PlJ w base v0 B d l sx Ax cx xs X sy Ay cy ys Y gh sh Ah ch hs m gn y k v2 o2 W1:=by
 have h0:=h.lt;have h1:=h.ln;have hgn:=h.nb.lt;obtain⟨k1,k2,k3,k4⟩:=h.keepP F hk fun t ht hv=>h.offP (by omega) hv F.fv;refine⟨h.b.trans hk (fun i hi e=>?_),k1,k2,k3,k4,h0,h1,h.hl,h.nb.stay (hk.block gn hgn (h.offP (Nat.le_refl _) (fun e=>absurd e (by omega)) F.fv)),ho,fun q hq=>?_⟩
 ·rcases h.ob i e with e2|e2
  ·exact e2
  ·omega
 ·rcases h2 q hq with e|e
  ·exact h.ob q e
  ·exact .inr (by omega)
theorem PlJ.putP (h:PlJ w base v0 B d l sx Ax cx xs X sy Ay cy ys Y gh sh Ah ch hs m gn y k v o W)(F:FarP w.heap.size v0 Ax xs Ay ys B l)(hk4:k<4){r:Nat}(hr:r=1+k){u:Int}(hu:u=y.kid k) :
  PlJ w base v0 B d l sx Ax cx xs X sy Ay cy ys Y gh sh Ah ch hs m gn y (k+1) v o (W.setCell ⟨gn,r,none⟩ (.int .i64 u)):=by
 have h0:=h.lt;have h1:=h.ln;have hk:Ky (fun q=>q=gn) W (W.setCell ⟨gn,r,none⟩ (.int .i64 u)):=Ky.set (P:=fun q=>q=gn) (Ky.refl _ _) ⟨gn,r,none⟩ (fun _=>rfl) _;obtain⟨k1,k2,k3,k4⟩:=h.keepP F hk fun t ht _ e=>by omega
 exact⟨h.b.set _ (fun e=>absurd (show gn<w.heap.size from e) (by omega)) _,k1,k2,k3,k4,h0,h1,h.hl,h.nb.setKid hk4 hr hu,h.o.gbr (zay _ _ _) (.inr (show v.ownBlock≠some gn from h.offP (Nat.le_refl _) (fun e=>absurd e (by omega)) F.fv)),h.ob⟩
end
def sqC (X Y h:Int)(u:Cv):Bool:=sqB X Y h u.cl
theorem zoX (X Y h:Int)(l:List Cv):(l.filter (sqC X Y h)).map Cv.cl=(l.map Cv.cl).filter (sqB X Y h):=by
 rw[List.filter_map];rfl
theorem zeV {l:List Cv}{p:Cv→Bool}{i:Nat}(hi:i<l.length):(l.take (i+1)).filter p=(l.take i).filter p++(if p (cat l i)=true then [cat l i] else []):=by
 rw[List.take_succ_eq_append_getElem hi,List.filter_append];have e:cat l i=l[i]:=by
  unfold cat;rw[List.getElem?_eq_getElem hi];rfl
 rw[e];congr 1;by_cases hp:p l[i]=true
 ·rw[if_pos hp,List.filter_cons_of_pos hp,List.filter_nil]
 ·rw[if_neg hp,List.filter_cons_of_neg hp,List.filter_nil]
theorem zfl {w w':World}(hb:Below w.heap.size w w'){p:Addr}{u:Value}(h:w.cell? p=some u):w'.cell? p=some u:=(hb.cell (p:=p) (World.block_lt_of_cell? w p h)).trans h
end Go.Proofs.YtfjajpnfjjdnpaaGreatDoor
