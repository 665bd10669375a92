import Derived.Test.YtfjajpnfjjdnpaaGreatDoorTNcOr
import Derived.Laws.EntriesVeiled
import Derived.Test.YtfjajpnfjjdnpaaGreatDoorTLkP
import Derived.ArgAppend
import Derived.LoopN

set_option linter.unusedVariables false
set_option linter.unusedSimpArgs false
set_option maxRecDepth 100000
set_option maxHeartbeats 6400000
namespace Go.Proofs.YtfjajpnfjjdnpaaGreatDoor
open Go.RowKit Nds
theorem zbx {l:List Nd}{t:Nd}{k:Nat}(h:t.kid k=0):wdK l t (k+1)=wdK l t k:=if_pos h
theorem zby {l:List Nd}{t:Nd}{k:Nat}(h:t.kid k≠0):wdK l t (k+1)=((wdK l t k).1++[chK ⟨t.lv,0,0,0,0⟩ (3-k) (t.kid k)],chK (wdK l t k).2 k (((wdK l t k).1.length+1:Nat):Int)):=if_neg h
theorem zgI (l:List Nd)(t:Nd):∀k,(wdK l t k).1.length≤l.length+k
 | 0=>Nat.le_refl _
 | k+1=>by
  have:=zgI l t k;by_cases h:t.kid k=0
  ·rw[zbx h];omega
  ·rw[zby h];simp;omega
theorem zlA {x:Nd}(h:x.wf)(k:Nat){u:Int}(hu:in64 u):(chK x k u).wf:=by
 obtain⟨h0,h1,h2,h3,h4⟩:=h
 match k with
 | 0=>exact⟨h0,hu,h2,h3,h4⟩
 | 1=>exact⟨h0,h1,hu,h3,h4⟩
 | 2=>exact⟨h0,h1,h2,hu,h4⟩
 | _+3=>exact⟨h0,h1,h2,h3,hu⟩
theorem zlB {l:List Nd}{t:Nd}(ht:1≤t.lv∧t.lv≤1329)(hl:l.length≤990000):∀k,k≤4→(wdK l t k).2.wf
 | 0,_=>⟨⟨by show _≤t.lv+1;omega,by show t.lv+1≤_;omega⟩,zbl,zbl,zbl,zbl⟩
 | k+1,hk=>by
  have ih:=zlB ht hl k (by omega);by_cases h:t.kid k=0
  ·rw[zbx h];exact ih
  ·rw[zby h];have:=zgI l t k;exact zlA ih k ⟨by omega,by omega⟩
theorem zat.chK {w:World}{g:Nat}{x:Nd}(h:zat w g x){k:Nat}(hk:k<4){o:Nat}(ho:o=1+k)(u:Int):zat (w.setCell ⟨g,o,none⟩ (.int .i64 u)) g (chK x k u):=by
 subst ho;refine(heap_setCell_same w g (1+k) _ _ _ h).trans ?_
 match k,hk with
 | 0,_=>rfl
 | 1,_=>rfl
 | 2,_=>rfl
 | 3,_=>rfl
theorem zat.cells {w:World}{g:Nat}{x:Nd}(h:zat w g x):w.cell? ⟨g,0,none⟩=some (.int .i64 x.lv)∧w.cell? ⟨g,1,none⟩=some (.int .i64 x.a)∧w.cell? ⟨g,2,none⟩=some (.int .i64 x.b)∧w.cell? ⟨g,3,none⟩=some (.int .i64 x.c)∧w.cell? ⟨g,4,none⟩=some (.int .i64 x.d):=h.at_
theorem zat.grow2 {w w6:World}{g:Nat}{x:Nd}{o1 o2:Obj}{r:Option Nat}(h:zat w g x)(hg:((w.alloc o1).alloc o2).grownBy w6 r)(hr:some g≠r):zat w6 g x:=by
 have h1:=h.stay (Below.heap_alloc w o1 _ h.lt);have h2:=h1.stay (Below.heap_alloc _ o2 _ h1.lt);exact h2.stay (hg.block _ h2.lt hr)
theorem zbT {w:World}{v v':Value}{o1 o2:Obj}(h:v'.ownBlock=v.ownBlock∨v'.ownBlock=some ((w.alloc o1).alloc o2).heap.size):v'.ownBlock=v.ownBlock∨v'.ownBlock=some (w.heap.size+2):=by
 rcases h with h|h
 ·exact .inl h
 ·exact .inr (by rw[h];simp)
theorem zaq {v v':Value}{s a b:Nat}(h:∀k,v.ownBlock=some k→k≠a∧k≠b)(hk:v'.ownBlock=v.ownBlock∨v'.ownBlock=some (s+2))(hs:a<s∧b<s):∀k,v'.ownBlock=some k→k≠a∧k≠b:=by
 intro k e;rcases hk with h1|h1
 ·exact h k (h1.symm.trans e)
 ·rw[h1] at e;cases e;omega
theorem zlC (n base:Nat)(val:Value)(l:List Nd)(w:World)(h:OwnN w base val l)(hn:l.length=n)(hn9:n≤900000)(h0:0<n)(hl:zaa l=true)(hu:(at_ l (n-1)).lv≤1328)(hb:base≤w.heap.size) :
  Calls Tryz.prog 175 #[val] w fun e w'=>∃v,e=.returned v∧OwnN w' base v (zcw l)∧Below base w w':=by
 obtain⟨A,c,rfl,hns,-,-⟩:=h.shape;have hcap:=hns.cap;rw[hn] at hcap ⊢;obtain⟨p,rfl⟩:∃p,n=p+1:=⟨n-1,by omega⟩;rw[show p+1-1=p by omega] at hu;obtain⟨b,off,rfl,hbl,hc⟩:=hns.at_ (by omega)
 obtain⟨c1,c2,c3,c4,c5⟩:=hc p (by omega);have hf:=zad hl (i:=p) (by omega);have hwF:zcw l=(wdK l (at_ l p) 4).1++[(wdK l (at_ l p) 4).2]:=by unfold zcw;rw[hn];rfl
 obtain⟨t,ht⟩:∃t,t=at_ l p:=⟨_,rfl⟩
 rw[←ht] at c1 c2 c3 c4 c5 hf hu hwF;have hv:=zam hf;have htw:=zlo hf (by rw[hn];omega);rw[hn] at h;have i1:(p:Int)<(p:Int)+1:=by omega
 obtain⟨W,hW⟩:∃W:World,W=(w.alloc (.cells #[.int .i64 t.lv,.int .i64 t.a,.int .i64 t.b,.int .i64 t.c,.int .i64 t.d] 70)).alloc (.cells #[.int .i64 (t.lv+1),.int .i64 0,.int .i64 0,.int .i64 0,.int .i64 0] 70):=⟨_,rfl⟩;obtain⟨gt,hgt⟩:∃gt,gt=w.heap.size:=⟨_,rfl⟩;obtain⟨gw,hgw⟩:∃gw,gw=w.heap.size+1:=⟨_,rfl⟩;have HBT:=Hh (show zat W gt t by rw[hW,hgt];exact(zat.new w t).stay (Below.heap_alloc _ _ w.heap.size (by simp)));have HBX:=Hh (show zat W gw (wdK l t 0).2 by
  rw[hW,hgw];have h1:=zat.new (w.alloc (.cells #[.int .i64 t.lv,.int .i64 t.a,.int .i64 t.b,.int .i64 t.c,.int .i64 t.d] 70)) ⟨t.lv+1,0,0,0,0⟩
  rwa [show(w.alloc (.cells #[.int .i64 t.lv,.int .i64 t.a,.int .i64 t.b,.int .i64 t.c,.int .i64 t.d] 70)).heap.size=w.heap.size+1 by simp] at h1)
 have HOW:=Hh (show OwnN W base (.slice (some ⟨b,off,none⟩) (p+1) c) (wdK l t 0).1 by rw[hW];exact(h.alloc _).alloc _);have HBB:=Hh (show Below base w W by rw[hW];exact((Below.refl base w).alloc hb _).alloc (by simp;omega) _);have HAP:=Hh (show ∀k,(Value.slice (some ⟨b,off,none⟩) (p+1) c).ownBlock=some k→k≠gt∧k≠gw from fun k hk=>by have:=(h.lt k hk).2;omega);have HGG:=Hh (show base≤gt∧gw=gt+1 by omega);have HWF:=Hh hwF;have HL:=Hh hn;have HV:=Hh hv;have HTW:=Hh htw;have HW:=Hh hW;have hv1:=hv.1;clear h hn hns hc h0 hbl hl hf hwF ht htw hW hv;go_enter Tryz.func175,Tryz.ntmps175;go_wp2_with fail;rw[←HW.out,←hgw,←hgt];clear c1 c2 c3 c4 c5 hgt hgw hb;go_loopw [20,0,5,6,7] (fun z1 z2 z3 z4 z5 wr=>∃(q:Nat) (v u3 u4 u5:Value),q≤4∧z1=.int .i64 q∧v=z2∧z3=u3∧z4=u4∧z5=u5∧OwnN wr base v (wdK l t q).1∧zat wr gw (wdK l t q).2∧zat wr gt t∧Below base w wr∧(∀k,v.ownBlock=some k→k≠gt∧k≠gw)) (fun z1 _ _ _ _ _=>4-(intOf z1).toNat)
 case atStart=>exact⟨0,_,_,_,_,by omega,rfl,rfl,rfl,rfl,rfl,HOW.out,HBX.out,HBT.out,HBB.out,HAP.out⟩
 case round =>
  obtain⟨q,v,u3,u4,u5,hq,rfl,rfl,rfl,rfl,rfl,how,hbx,hbt,hbw,hap⟩:=hrel;have hm9:=zgI l t q;have hxw:=zlB (l:=l) HV.out (by rw[HL.out];omega) q hq;obtain⟨G,hG⟩:∃G,G=(wdK l t q).1:=⟨_,rfl⟩;obtain⟨x,hx⟩:∃x,x=(wdK l t q).2:=⟨_,rfl⟩;obtain⟨m,hm⟩:∃m,m=G.length:=⟨_,rfl⟩;rw[←hG] at how hm9;rw[←hx] at hbx hxw;rw[←hm,HL.out] at hm9;have HO:=Hh how;have HX:=Hh hbx;have HT:=Hh hbt;have HB:=Hh hbw;have HP:=Hh hap;obtain⟨A2,c2,hv2,hn2,-,-⟩:=HO.out.shape;have hc2:=hn2.cap;rw[←hm] at hv2 hc2;subst hv2;have HM:=Hh hm;have HG:=Hh hG;have HXX:=Hh hx;have HXW:=Hh hxw;clear how hbx hbt hbw hap hn2 hm hG hx hxw;by_cases hq4:q<4
  ·have hi:=zeP t q hq4;have i2:(q:Int)<4:=by omega
   obtain⟨y,hy⟩:∃y,y=t.kid q:=⟨_,rfl⟩;rw[←hy] at hi;have HY:=Hh hy;have hyw:in64 y:=by rw[hy];exact HTW.out.kid q
   have HYW:=Hh hyw;clear hyw;by_cases hy0:y=0
   ·subst hy0;have HS:=Hh (zbx (l:=l) hy.symm);clear hy;go_wp2_with fail;go_roundw
    case rel=>exact⟨q+1,_,_,_,_,by omega,by go_num,rfl,rfl,rfl,rfl,by rw[HS.out,←HG.out];exact HO.out,by rw[HS.out,←HXX.out];exact HX.out,HT.out,HB.out,HP.out⟩
    case measure=>simp[intOf];omega
   ·have t2:(y==0)=false:=beq_eq_false_iff_ne.2 hy0;have HS:=Hh (zby (l:=l) (show t.kid q≠0 by rw[←hy];exact hy0));obtain⟨d1,d2,d3,d4,d5⟩:=HT.out.cells;have hso:base≤wr.heap.size:=Nat.le_of_lt (Nat.lt_of_le_of_lt HGG.out.1 HT.out.lt);have HBS:=Hh hso;have hgw:=HX.out.lt;have fz:=HX.out.free (1+q);have HCW:=Hh (show ∀k,(chK ⟨t.lv,0,0,0,0⟩ k y).wf from fun k=>zlA (x:=⟨t.lv,0,0,0,0⟩) ⟨HTW.out.1,zbl,zbl,zbl,zbl⟩ k HYW.out);have hq4':q=0∨q=1∨q=2∨q=3:=by omega
    have HNE:=Hh hy0;clear hy hso hy0;rcases hq4' with rfl|rfl|rfl|rfl
    ·rw[show((0:Nat):Int)=0 from rfl] at hi i2 ⊢;have HS':=Hh (show wdK l t 1=(G++[(chK ⟨t.lv,0,0,0,0⟩ 3 y)],chK x 0 ((m:Int)+1)) by
      have h:=HS.out;rw[←HG.out,←HXX.out,←HM.out,←HY.out,show((m+1:Nat):Int)=(m:Int)+1 by omega] at h;exact h)
     go_wp2_with (at_builtin;go_loud (refine zac _ rfl _ _ rfl base _ G [(chK ⟨t.lv,0,0,0,0⟩ 3 y)] _ 1 1 rfl rfl ((HO.out.alloc _).alloc _) (zba _ _ (chK ⟨t.lv,0,0,0,0⟩ 3 y) (HCW.out 3) (by simp)) rfl (fun e=>by cases e) (by rw[←HM.out];omega) (by have:=HBS.out;simp;omega) ?_;intro v6 w6 ho6 hg6 hk6;obtain⟨A6,c6,hv6,-,-,-⟩:=ho6.shape;rw[List.length_append,←HM.out,List.length_singleton] at hv6;subst hv6;have hx6:=HX.out.grow2 hg6 (fun e=>(HP.out gw e.symm).2 rfl);have ht6:=HT.out.grow2 hg6 (fun e=>(HP.out gt e.symm).1 rfl);have HX6:=Hh hx6;have HT6:=Hh ht6;have HO6:=Hh ho6;have HB6:=Hh ((((HB.out.alloc HBS.out _).alloc (by have:=HBS.out;simp;omega) _)).grown hg6 (by have:=HBS.out;simp;omega) (fun k hk=>(HO.out.lt k hk).1));have HK6:=Hh (zbT hk6);obtain⟨x0,x1,x2,x3,x4⟩:=hx6.cells;have z1:=hx6.free 1;clear ho6 hg6 hk6 hx6 ht6));go_roundw
     case rel =>
      refine⟨1,_,_,_,_,by omega,by go_num,rfl,rfl,rfl,rfl,?_,?_,?_,?_,?_⟩
      ·rw[HS'.out];exact HO6.out.gbr (zan _ _ _) (zbZ fun k hk e=>by have h1:=Option.some.inj e;exact(zaq HP.out HK6.out (by have:=HX.out.lt;have:=HGG.out.2;omega) k hk).2 h1.symm)
      ·rw[HS'.out];exact HX6.out.chK (k:=0) (by omega) rfl _
      ·exact HT6.out.stay (Below.heap_setCell _ _ _ _ (by have:=HGG.out.2;show gt≠gw;omega))
      ·exact HB6.out.setCell (by have:=HGG.out;show base≤gw;omega) _
      ·exact zaq HP.out HK6.out (by have:=HX.out.lt;have:=HGG.out.2;omega)
     case measure=>simp[intOf];try omega
    ·rw[show((1:Nat):Int)=1 from rfl] at hi i2 ⊢;have HS':=Hh (show wdK l t 2=(G++[(chK ⟨t.lv,0,0,0,0⟩ 2 y)],chK x 1 ((m:Int)+1)) by
      have h:=HS.out;rw[←HG.out,←HXX.out,←HM.out,←HY.out,show((m+1:Nat):Int)=(m:Int)+1 by omega] at h;exact h)
     go_wp2_with (at_builtin;go_loud (refine zac _ rfl _ _ rfl base _ G [(chK ⟨t.lv,0,0,0,0⟩ 2 y)] _ 1 1 rfl rfl ((HO.out.alloc _).alloc _) (zba _ _ (chK ⟨t.lv,0,0,0,0⟩ 2 y) (HCW.out 2) (by simp)) rfl (fun e=>by cases e) (by rw[←HM.out];omega) (by have:=HBS.out;simp;omega) ?_;intro v6 w6 ho6 hg6 hk6;obtain⟨A6,c6,hv6,-,-,-⟩:=ho6.shape;rw[List.length_append,←HM.out,List.length_singleton] at hv6;subst hv6;have hx6:=HX.out.grow2 hg6 (fun e=>(HP.out gw e.symm).2 rfl);have ht6:=HT.out.grow2 hg6 (fun e=>(HP.out gt e.symm).1 rfl);have HX6:=Hh hx6;have HT6:=Hh ht6;have HO6:=Hh ho6;have HB6:=Hh ((((HB.out.alloc HBS.out _).alloc (by have:=HBS.out;simp;omega) _)).grown hg6 (by have:=HBS.out;simp;omega) (fun k hk=>(HO.out.lt k hk).1));have HK6:=Hh (zbT hk6);obtain⟨x0,x1,x2,x3,x4⟩:=hx6.cells;have z1:=hx6.free 2;clear ho6 hg6 hk6 hx6 ht6));go_roundw
     case rel =>
      refine⟨2,_,_,_,_,by omega,by go_num,rfl,rfl,rfl,rfl,?_,?_,?_,?_,?_⟩
      ·rw[HS'.out];exact HO6.out.gbr (zan _ _ _) (zbZ fun k hk e=>by have h1:=Option.some.inj e;exact(zaq HP.out HK6.out (by have:=HX.out.lt;have:=HGG.out.2;omega) k hk).2 h1.symm)
      ·rw[HS'.out];exact HX6.out.chK (k:=1) (by omega) rfl _
      ·exact HT6.out.stay (Below.heap_setCell _ _ _ _ (by have:=HGG.out.2;show gt≠gw;omega))
      ·exact HB6.out.setCell (by have:=HGG.out;show base≤gw;omega) _
      ·exact zaq HP.out HK6.out (by have:=HX.out.lt;have:=HGG.out.2;omega)
     case measure=>simp[intOf];try omega
    ·rw[show((2:Nat):Int)=2 from rfl] at hi i2 ⊢;have HS':=Hh (show wdK l t 3=(G++[(chK ⟨t.lv,0,0,0,0⟩ 1 y)],chK x 2 ((m:Int)+1)) by
      have h:=HS.out;rw[←HG.out,←HXX.out,←HM.out,←HY.out,show((m+1:Nat):Int)=(m:Int)+1 by omega] at h;exact h)
     go_wp2_with (at_builtin;go_loud (refine zac _ rfl _ _ rfl base _ G [(chK ⟨t.lv,0,0,0,0⟩ 1 y)] _ 1 1 rfl rfl ((HO.out.alloc _).alloc _) (zba _ _ (chK ⟨t.lv,0,0,0,0⟩ 1 y) (HCW.out 1) (by simp)) rfl (fun e=>by cases e) (by rw[←HM.out];omega) (by have:=HBS.out;simp;omega) ?_;intro v6 w6 ho6 hg6 hk6;obtain⟨A6,c6,hv6,-,-,-⟩:=ho6.shape;rw[List.length_append,←HM.out,List.length_singleton] at hv6;subst hv6;have hx6:=HX.out.grow2 hg6 (fun e=>(HP.out gw e.symm).2 rfl);have ht6:=HT.out.grow2 hg6 (fun e=>(HP.out gt e.symm).1 rfl);have HX6:=Hh hx6;have HT6:=Hh ht6;have HO6:=Hh ho6;have HB6:=Hh ((((HB.out.alloc HBS.out _).alloc (by have:=HBS.out;simp;omega) _)).grown hg6 (by have:=HBS.out;simp;omega) (fun k hk=>(HO.out.lt k hk).1));have HK6:=Hh (zbT hk6);obtain⟨x0,x1,x2,x3,x4⟩:=hx6.cells;have z1:=hx6.free 3;clear ho6 hg6 hk6 hx6 ht6));go_roundw
     case rel =>
      refine⟨3,_,_,_,_,by omega,by go_num,rfl,rfl,rfl,rfl,?_,?_,?_,?_,?_⟩
      ·rw[HS'.out];exact HO6.out.gbr (zan _ _ _) (zbZ fun k hk e=>by have h1:=Option.some.inj e;exact(zaq HP.out HK6.out (by have:=HX.out.lt;have:=HGG.out.2;omega) k hk).2 h1.symm)
      ·rw[HS'.out];exact HX6.out.chK (k:=2) (by omega) rfl _
      ·exact HT6.out.stay (Below.heap_setCell _ _ _ _ (by have:=HGG.out.2;show gt≠gw;omega))
      ·exact HB6.out.setCell (by have:=HGG.out;show base≤gw;omega) _
      ·exact zaq HP.out HK6.out (by have:=HX.out.lt;have:=HGG.out.2;omega)
     case measure=>simp[intOf];try omega
    ·rw[show((3:Nat):Int)=3 from rfl] at hi i2 ⊢;have HS':=Hh (show wdK l t 4=(G++[(chK ⟨t.lv,0,0,0,0⟩ 0 y)],chK x 3 ((m:Int)+1)) by
      have h:=HS.out;rw[←HG.out,←HXX.out,←HM.out,←HY.out,show((m+1:Nat):Int)=(m:Int)+1 by omega] at h;exact h)
     go_wp2_with (at_builtin;go_loud (refine zac _ rfl _ _ rfl base _ G [(chK ⟨t.lv,0,0,0,0⟩ 0 y)] _ 1 1 rfl rfl ((HO.out.alloc _).alloc _) (zba _ _ (chK ⟨t.lv,0,0,0,0⟩ 0 y) (HCW.out 0) (by simp)) rfl (fun e=>by cases e) (by rw[←HM.out];omega) (by have:=HBS.out;simp;omega) ?_;intro v6 w6 ho6 hg6 hk6;obtain⟨A6,c6,hv6,-,-,-⟩:=ho6.shape;rw[List.length_append,←HM.out,List.length_singleton] at hv6;subst hv6;have hx6:=HX.out.grow2 hg6 (fun e=>(HP.out gw e.symm).2 rfl);have ht6:=HT.out.grow2 hg6 (fun e=>(HP.out gt e.symm).1 rfl);have HX6:=Hh hx6;have HT6:=Hh ht6;have HO6:=Hh ho6;have HB6:=Hh ((((HB.out.alloc HBS.out _).alloc (by have:=HBS.out;simp;omega) _)).grown hg6 (by have:=HBS.out;simp;omega) (fun k hk=>(HO.out.lt k hk).1));have HK6:=Hh (zbT hk6);obtain⟨x0,x1,x2,x3,x4⟩:=hx6.cells;have z1:=hx6.free 4;clear ho6 hg6 hk6 hx6 ht6));go_roundw
     case rel =>
      refine⟨4,_,_,_,_,by omega,by go_num,rfl,rfl,rfl,rfl,?_,?_,?_,?_,?_⟩
      ·rw[HS'.out];exact HO6.out.gbr (zan _ _ _) (zbZ fun k hk e=>by have h1:=Option.some.inj e;exact(zaq HP.out HK6.out (by have:=HX.out.lt;have:=HGG.out.2;omega) k hk).2 h1.symm)
      ·rw[HS'.out];exact HX6.out.chK (k:=3) (by omega) rfl _
      ·exact HT6.out.stay (Below.heap_setCell _ _ _ _ (by have:=HGG.out.2;show gt≠gw;omega))
      ·exact HB6.out.setCell (by have:=HGG.out;show base≤gw;omega) _
      ·exact zaq HP.out HK6.out (by have:=HX.out.lt;have:=HGG.out.2;omega)
     case measure=>simp[intOf];try omega
  ·have hq5:q=4:=by omega
   subst hq5;obtain⟨x0,x1,x2,x3,x4⟩:=HX.out.cells;have hso:base≤wr.heap.size:=Nat.le_of_lt (Nat.lt_of_le_of_lt HGG.out.1 HT.out.lt);have HBS:=Hh hso;clear hso;go_wp2_with (at_builtin;go_loud (refine zac _ rfl _ _ rfl base _ G [x] _ 1 1 rfl rfl (HO.out.alloc _) (zba _ _ x HXW.out rfl) rfl (fun e=>by cases e) (by rw[←HM.out];omega) (by have:=HBS.out;simp;omega) ?_;intro v6 w6 ho6 hg6 hk6;have HO6:=Hh ho6;have HB6:=Hh ((HB.out.alloc HBS.out _).grown hg6 (by have:=HBS.out;simp;omega) (fun k hk=>(HO.out.lt k hk).1));clear ho6 hg6 hk6));go_ret;refine⟨v6,rfl,?_,HB6.out⟩;rw[HWF.out,←HG.out,←HXX.out];exact HO6.out
def zaT (lv:Nat)(q:List Nd):List Nd:=if q.length=0 then [] else zgH (lv-(at_ q (q.length-1)).lv.toNat) q
theorem zgJ (l:List Nd)(t:Nd):∀k,l.length≤(wdK l t k).1.length
 | 0=>Nat.le_refl _
 | k+1=>by
  have:=zgJ l t k;by_cases h:t.kid k=0
  ·rw[zbx h];omega
  ·rw[zby h];simp;omega
theorem zlD (l:List Nd):l.length+1≤(zcw l).length:=by
 unfold zcw;have:=zgJ l (at_ l (l.length-1)) 4;rw[List.length_append,List.length_singleton];omega
theorem zoR {w:World}{base n:Nat}{v:Value}{l:List Nd}(h:OwnN w base v l)(hn:l.length=n+1) :
  ∃A c g off,v=.slice (some ⟨g,off,none⟩) (n+1) c∧w.cell? ⟨g,off+n*5,none⟩=some (.int .i64 (at_ l n).lv)∧(n+1≤c∧A=some (⟨g,off,none⟩:Addr)):=by
 obtain⟨A,c,hv,hns,-,-⟩:=h.shape;have hcap:=hns.cap;obtain⟨g,off,rfl,-,hc⟩:=hns.at_ (by omega)
 exact⟨_,c,g,off,by rw[hv,hn],(hc n (by omega)).1,by omega,rfl⟩
structure GrS (lv:Nat)(q:List Nd)(d m:Nat)(g:List Nd):Prop where
 loose:zaa g=true
 size:g.length=m+1
 low:(lv:Int)≤(at_ g m).lv+d
 up:0<d→(at_ g m).lv+d=lv
 len:m+5*d≤q.length+6645
 same:zgH d g=zaT lv q
theorem GrS.start {lv:Nat}{q:List Nd}(hl:zaa q=true)(h9:lv≤1329){p:Nat}(hp:q.length=p+1):GrS lv q (lv-(at_ q p).lv.toNat) p q:=by
 have hv:=zam (zad hl (i:=p) (by omega));refine⟨hl,hp,by omega,fun h=>by omega,by omega,?_⟩;unfold zaT;rw[if_neg (by omega),hp,Nat.add_sub_cancel]
theorem GrS.next {lv:Nat}{q g:List Nd}(h9:lv≤1329){d m:Nat}(h:GrS lv q (d+1) m g):∃m2,GrS lv q d m2 (zcw g)∧m<m2∧m2≤m+5:=by
 have hu:=h.up (by omega);have hf:=zam (zad h.loose (i:=m) (by rw[h.size];omega));obtain⟨k,hk⟩:∃k:Nat,(at_ g m).lv=(k:Int)+1:=⟨((at_ g m).lv-1).toNat,by omega⟩;have hs:=h.size;obtain⟨w1,w2⟩:=zhs h.loose (m:=k) (by omega) (by rw[hs,Nat.add_sub_cancel];exact hk) (by omega);have hm:=zlD g;have hlv:=w1.lv;obtain⟨m2,hm2⟩:∃m2,(zcw g).length=m2+1:=⟨(zcw g).length-1,by omega⟩;rw[hm2,Nat.add_sub_cancel] at hlv;have hlen:=h.len;exact⟨m2,⟨w1.loose,hm2,by rw[hlv];omega,fun h2=>by rw[hlv];omega,by omega,h.same⟩,by omega,by omega⟩
theorem zoS (A:Option Addr)(c n lv:Nat)(q:List Nd)(w:World)(h:Ns w A c q)(hn:q.length=n)(hn9:n≤800000)(hl:zaa q=true)(hlv:lv≤1329)(hA:A=none→c=0) :
  Calls Tryz.prog 132 #[.agg #[.slice A n c],.int .i64 (lv:Int)] w fun e w'=>∃v,e=.returned (.tuple #[v,.int .i64 ((zaT lv q).length:Nat)])∧OwnN w' w.heap.size v (zaT lv q)∧Below w.heap.size w w':=by
 have hcap:=h.cap;rw[hn] at hcap;have hb:=(Below.refl w.heap.size w).alloc (Nat.le_refl _) (.cells #[.slice A n c] 28);have HB:=Hh hb;have HN:=Hh (h.below hb);have HA:=Hh hA;have HL:=Hh hn;have HLL:=Hh hl;obtain⟨R,hR⟩:∃R,R=zaT lv q:=⟨_,rfl⟩;rw[←hR];have HR:=Hh hR;have t9:decide ((lv:Int)>1329)=false:=decide_eq_false (by omega);have t8:decide ((1329:Int)<(lv:Int))=false:=t9;rcases Nat.eq_zero_or_pos n with h0|h0
 ·subst h0;have HZ:=Hh (show R=[] by rw[hR];unfold zaT;rw[if_pos hn]);have HQ:=Hh (List.eq_nil_of_length_eq_zero hn);clear h hb hA hn hl hR;go_enter Tryz.func132,Tryz.ntmps132;go_wp2_with (go_at_call 174;go_loud (refine(zht _ _ 0 q _ HN.out HL.out (by omega) HA.out).mono ?_;rintro e w1 ⟨v,rfl,o1,b1⟩;obtain⟨A1,c1,hv,-,-,-⟩:=o1.shape;rw[HL.out] at hv;subst hv;have HO:=Hh (o1.mono HB.out.size);have HB1:=Hh (HB.out.trans (b1.mono HB.out.size));clear o1 b1));go_ret2;refine⟨_,by rw[HZ.out];rfl,?_,HB1.out⟩;rw[HZ.out,←HQ.out];exact HO.out
 ·obtain⟨p,rfl⟩:∃p,n=p+1:=⟨n-1,by omega⟩;have HS:=Hh (GrS.start hl hlv hn);have t7:((p:Int)+1==0)=false:=beq_eq_false_iff_ne.2 (by omega);clear h hb hA hn hl hR;go_enter Tryz.func132,Tryz.ntmps132;go_wp2_with (go_at_call 174;go_loud (refine(zht _ _ (p+1) q _ HN.out HL.out (by omega) HA.out).mono ?_;rintro e w1 ⟨v,rfl,o1,b1⟩;obtain⟨A1,c1,hv,-,-,-⟩:=o1.shape;rw[HL.out] at hv;subst hv;have HO:=Hh (o1.mono HB.out.size);have HB1:=Hh (HB.out.trans (b1.mono HB.out.size));clear o1 b1));go_loopw [6] (fun z6 wr=>∃(d m:Nat) (g:List Nd) (v:Value),v=z6∧OwnN wr w.heap.size v g∧Below w.heap.size w wr∧GrS lv q d m g) (fun z6 _=>p+10000-lenOf z6)
  case atStart=>exact⟨_,_,_,_,rfl,HO.out,HB1.out,HS.out⟩
  case round =>
   obtain⟨d,m,g,v,rfl,how,hbw,hgs⟩:=hrel;obtain⟨A2,c2,g2,off,hv2,hcl,hcp,-⟩:=zoR how hgs.size;subst hv2;have hm9:m≤890000:=by have:=hgs.len;have:=HL.out;omega
   obtain⟨u,hu⟩:∃u,u=(at_ g m).lv:=⟨_,rfl⟩;rw[←hu] at hcl;have HOW:=Hh how;have HBW:=Hh hbw;have HGS:=Hh hgs;have HU:=Hh hu;have i1:(m:Int)<(m:Int)+1:=by omega
   cases d with
   | zero =>
    have t1:decide (u<(lv:Int))=false:=decide_eq_false (by have:=hgs.low;rw[hu];omega);have HG:=Hh (show g=R by rw[HR.out];exact hgs.same);clear how hbw hgs hu;go_wp2_with fail;go_ret2;refine⟨_,?_,by rw[←HG.out];exact HOW.out,HBW.out⟩;rw[←HG.out,HGS.out.size];rfl
   | succ d =>
    have hup:=hgs.up (by omega);have t1:decide (u<(lv:Int))=true:=decide_eq_true (by rw[hu];omega);have HUP:=Hh hup;obtain⟨m2,hn2,hm2,hm25⟩:=hgs.next hlv;have HN2:=Hh hn2;clear how hbw hgs hu hup hn2;go_wp2_with (go_at_call 175;go_loud (refine(zlC (m+1) w.heap.size _ g _ HOW.out HGS.out.size (by omega) (by omega) HGS.out.loose (by rw[Nat.add_sub_cancel];have:=HUP.out;omega) HBW.out.size).mono ?_;rintro e w2 ⟨v2,rfl,o2,b2⟩;have HO2:=Hh o2;have HB2:=Hh (HBW.out.trans b2);clear o2 b2));go_roundw
    case rel=>exact⟨d,m2,zcw g,v2,rfl,HO2.out,HB2.out,HN2.out⟩
    case measure =>
     have h1:=HO2.out.len;rw[HN2.out.size] at h1;have h2:lenOf (Value.slice (some ⟨g2,off,none⟩) (m+1) c2)=m+1:=rfl;have h3:=HN2.out.len;have h4:=HL.out;rw[h1,h2];omega
end Go.Proofs.YtfjajpnfjjdnpaaGreatDoor

namespace Go.Proofs.YtfjajpnfjjdnpaaGreatDoor
open Go.RowKit Num Nds
def maxN (x:Nd):Int:=max (max (max x.a x.b) x.c) x.d
def zaz (l:List Nd):Int:=l.foldl (fun m x=>if x.lv=1 then max m (maxN x) else m) 0
theorem zlE (l:List Nd)(x:Nd):zaz (l++[x])=if x.lv=1 then max (zaz l) (maxN x) else zaz l:=by
 unfold zaz;rw[List.foldl_append];rfl
theorem zdH {l:List Nd}{i:Nat}(hi:i<l.length):zaz (l.take (i+1))=if (at_ l i).lv=1 then max (zaz (l.take i)) (maxN (at_ l i)) else zaz (l.take i):=by
 rw[zbV hi,zlE]
theorem znv (g:Nat)(x:Nd)(w:World)(h:zat w g x) :
  Calls Tryz.prog 173 #[.slice (some ⟨g,1,none⟩) 4 4] w fun e w'=>e=.returned (.int .i64 (maxN x))∧w'=w:=by
 obtain⟨c0,c1,c2,c3,c4⟩:=h.cells;obtain⟨m,hm⟩:∃m,m=maxN x:=⟨_,rfl⟩;rw[←hm];have HM:=Hh hm;clear h hm;go_enter Tryz.func173,Tryz.ntmps173;go_wp2_with fail;refine wp_loop_rounds 4 ?_;rw[rounds_succ];go_wp2_with fail;rw[rounds_succ];go_wp2_with fail;rw[rounds_succ];go_wp2_with fail;rw[rounds_succ];go_wp2_with fail;go_ret;refine⟨?_,rfl⟩;show Ending.returned (.int .i64 (max x.a (max x.b (max x.c x.d))))=_;rw[HM.out];exact zgh (by unfold maxN;omega)
theorem zlF (A:Option Addr)(c n:Nat)(q:List Nd)(w:World)(h:Ns w A c q)(hn:q.length=n) :
  Calls Tryz.prog 131 #[.agg #[.slice A n c]] w fun e w'=>e=.returned (.int .u8 (zaz q%256))∧Below w.heap.size w w':=by
 have hcap:=h.cap;rw[hn] at hcap;have hb:=(Below.refl w.heap.size w).alloc (Nat.le_refl _) (.cells #[.slice A n c] 28);have HB:=Hh hb;have HN:=Hh (h.below hb);have HL:=Hh hn;clear h hb hn;go_enter Tryz.func131,Tryz.ntmps131;go_wp2_with fail;go_loopw [9,5,3] (fun z1 z2 z3 wr=>∃(i:Nat) (u:Value),i≤n∧z1=.int .i64 i∧z2=u∧z3=.int .i64 (zaz (q.take i))∧Below (w.alloc (.cells #[.slice A n c] 28)).heap.size (w.alloc (.cells #[.slice A n c] 28)) wr) (fun z1 _ _ _=>n-(intOf z1).toNat)
 case atStart=>exact⟨0,_,by omega,rfl,rfl,rfl,Below.refl _ _⟩
 case round =>
  obtain⟨i,u,hi,rfl,rfl,rfl,hbw⟩:=hrel;have HBW:=Hh hbw;obtain⟨M,hM⟩:∃M,M=zaz (q.take i):=⟨_,rfl⟩;rw[←hM];have HM:=Hh hM;by_cases hlt:i<n
  ·have hil:i<q.length:=by rw[HL.out];exact hlt
   have hmt:=zdH hil;obtain⟨b,off,rfl,hbl,hcl⟩:=(HN.out.below hbw).at_ (by omega)
   obtain⟨c1,c2,c3,c4,c5⟩:=hcl i hil;obtain⟨x,hx⟩:∃x,x=at_ q i:=⟨_,rfl⟩
   rw[←hx] at c1 c2 c3 c4 c5 hmt;rw[←hM] at hmt;have HMT:=Hh hmt;have i1:(i:Int)<(n:Int):=by omega
   have hnb:=zat.new wr x;have HNB:=Hh hnb;have HB2:=Hh (hbw.alloc hbw.size (.cells #[.int .i64 x.lv,.int .i64 x.a,.int .i64 x.b,.int .i64 x.c,.int .i64 x.d] 70));clear hbw hM hil hmt hbl hcl hx hnb;by_cases h1:x.lv=1
   ·have t1:(x.lv==1)=true:=beq_iff_eq.2 h1;have HO:=Hh h1;clear h1;go_wp2_with (go_at_call 173;go_loud (refine(znv _ x _ HNB.out).mono ?_;rintro e w2 ⟨rfl,rfl⟩));go_roundw
    case rel=>exact⟨i+1,_,by omega,by go_num,rfl,by rw[HMT.out,if_pos HO.out],HB2.out⟩
    case measure=>simp[intOf];omega
   ·have t1:(x.lv==1)=false:=beq_eq_false_iff_ne.2 h1;go_wp2_with fail;go_roundw
    case rel=>exact⟨i+1,_,by omega,by go_num,rfl,by rw[HMT.out,if_neg h1],HB2.out⟩
    case measure=>simp[intOf];omega
  ·have e:i=n:=by omega
   subst e;have HMQ:=Hh (show M=zaz q by rw[hM,List.take_of_length_le (by rw[HL.out];omega)]);clear hbw hM;go_wp2_with fail;go_ret;exact⟨by rw[←HMQ.out];rfl,HB.out.trans (HBW.out.mono HB.out.size)⟩
def maxK (M:Int)(x:Nd):Nat→Int
 | 0=>M
 | k+1=>max (maxK M x k) (x.kid k)
theorem zlG (M:Int)(x:Nd):maxK M x 4=max M (maxN x):=by
 show max (max (max (max M x.a) x.b) x.c) x.d=max M (max (max (max x.a x.b) x.c) x.d);omega
theorem zjt (A:Option Addr)(c n:Nat)(q:List Nd)(w:World)(h:Ns w A c q)(hn:q.length=n) :
  Calls Tryz.prog 47 #[.agg #[.slice A n c]] w fun e w'=>e=.returned (.int .u8 (zaz q%256))∧Below w.heap.size w w':=by
 have hcap:=h.cap;rw[hn] at hcap;obtain⟨W,hW⟩:∃W:World,W=w.alloc (.cells #[.slice A n c] 28):=⟨_,rfl⟩;have hb:Below w.heap.size w W:=by rw[hW];exact(Below.refl w.heap.size w).alloc (Nat.le_refl _) _
 have HB:=Hh hb;have HN:=Hh (h.below hb);have HL:=Hh hn;have hbx:W.heap[w.heap.size]?=some (.cells #[.slice A n c] 28):=by rw[hW];exact heap_alloc_new w _
 have a0:=zaK hbx;have HA0:=Hh a0;have HW:=Hh hW;clear h hb hn hbx hW;go_enter Tryz.func47,Tryz.ntmps47;go_wp2_with fail;rw[←HW.out];go_loopw [4,5,3] (fun z1 z2 z3 wr=>∃(i:Nat) (u:Value),i≤n∧z1=.int .i64 i∧z2=u∧z3=.int .i64 (zaz (q.take i))∧W=wr) (fun z1 _ _ _=>n-(intOf z1).toNat)
 case atStart=>exact⟨0,_,by omega,rfl,rfl,rfl,rfl⟩
 case round =>
  obtain⟨i,u,hi,rfl,rfl,rfl,rfl⟩:=hrel;obtain⟨M,hM⟩:∃M,M=zaz (q.take i):=⟨_,rfl⟩;rw[←hM];by_cases hlt:i<n
  ·have hil:i<q.length:=by rw[HL.out];exact hlt
   have hmt:=zdH hil;obtain⟨b,off,rfl,hbl,hcl⟩:=HN.out.at_ (by omega)
   have hci:=hcl i hil;obtain⟨x,hx⟩:∃x,x=at_ q i:=⟨_,rfl⟩
   rw[←hx] at hci hmt;rw[←hM] at hmt;have HMT:=Hh hmt;have HCI:=Hh hci;have c1:=hci.1;have i1:(i:Int)<(n:Int):=by omega
   have hco:=HA0.out;clear hM hil hmt hbl hcl hx hci;by_cases h1:x.lv=1
   ·have t1:(x.lv==1)=true:=beq_iff_eq.2 h1;have HO:=Hh h1;clear h1;go_wp2_with fail;go_loopw [5,3] (fun z1 z2 wr=>∃(j:Nat),j≤4∧z1=.int .i64 j∧z2=.int .i64 (maxK M x j)∧W=wr) (fun z1 _ _=>4-(intOf z1).toNat)
    case atStart=>exact⟨0,by omega,rfl,rfl,rfl⟩
    case round =>
     obtain⟨j,hj,rfl,rfl,rfl⟩:=hrel;by_cases hj4:j<4
     ·have hk:=HCI.out.kid hj4;have i2:(j:Int)<4:=by omega
      have i3:(0:Int)≤(j:Int):=by omega
      obtain⟨K_,hK_⟩:∃K_,K_=maxK M x j:=⟨_,rfl⟩;rw[←hK_];have HK_:=Hh hK_;have t2:decide ((j:Int)<4)=true:=decide_eq_true i2;clear hK_;go_wp2_with fail;go_roundw
      case rel=>exact⟨j+1,by omega,by go_num,by rw[HK_.out];rfl,trivial⟩
      case measure=>simp[intOf];omega
     ·have hj5:j=4:=by omega
      subst hj5;go_wp2_with fail;go_roundw
      case rel=>exact⟨i+1,_,by omega,by go_num,rfl,by rw[HMT.out,if_pos HO.out,zlG],trivial⟩
      case measure=>simp[intOf];omega
   ·have t1:(x.lv==1)=false:=beq_eq_false_iff_ne.2 h1;go_wp2_with fail;refine wp_loop_rounds 1 ?_;rw[rounds_succ];go_wp2_with fail;go_roundw
    case rel=>exact⟨i+1,_,by omega,by go_num,rfl,by rw[HMT.out,if_neg h1],trivial⟩
    case measure=>simp[intOf];omega
  ·have e:i=n:=by omega
   subst e;have HMQ:=Hh (show M=zaz q by rw[hM,List.take_of_length_le (by rw[HL.out];omega)]);clear hM;go_wp2_with fail;go_ret;exact⟨by rw[←HMQ.out];rfl,HB.out⟩
end Go.Proofs.YtfjajpnfjjdnpaaGreatDoor

namespace Go.Proofs.YtfjajpnfjjdnpaaGreatDoor
open Go.RowKit Nds
theorem zpO (A:Option Addr)(c n:Nat)(l:List Nd)(k:Int)(q:List Nd)(qn:Nat)(er:Int)(w:World)(h:Ns w A c l)(hn:l.length=n)(hn9:n≤900000)(hA:A=none→c=0)(hq:ofQ l k=q)(hqn:q.length=qn)(he:ofE l k=er) :
  Calls Tryz.prog 46 #[.slice A n c,.int .i64 k] w fun e w'=>∃A' c',e=.returned (.tuple #[.agg #[.slice A' qn c'],.int .i64 er])∧Ns w' A' c' q∧(A'=none→c'=0)∧Below w.heap.size w w' :=
 (zoP A c n l k w h hn hn9 hA).mono fun e w' ⟨A',c',h1,h2,h3,h4⟩=>⟨A',c',by rw[←hqn,←hq,←he];exact h1,by rw[←hq];exact h2,h3,h4⟩
end Go.Proofs.YtfjajpnfjjdnpaaGreatDoor

namespace Go.Proofs.YtfjajpnfjjdnpaaGreatDoor
open Nds
theorem zju:∀(l:List Cl) (c:Cl),(insC l c).length≤l.length+1
 | [],c=>Nat.le_refl _
 | a :: l,c=>by
  have h:=zju l c;unfold insC;split
  ·rw[List.length_cons,List.length_cons];omega
  ·split
   ·rw[List.length_cons,List.length_cons];omega
   ·rw[List.length_cons,List.length_cons];omega
theorem zjv:∀(l m:List Cl),(l.foldl insC m).length≤m.length+l.length
 | [],m=>Nat.le_refl _
 | c :: l,m=>by
  have h:=zjv l (insC m c);have h2:=zju m c;rw[List.foldl_cons,List.length_cons];omega
theorem znw (l:List Cl):(zaN l).length≤l.length:=by
 unfold zaN zcs;have h:=zjv l [];have h2:=List.length_filter_le (fun c:Cl=>c.s != 0) (l.foldl insC []);simp only[List.length_nil,Nat.zero_add] at h;exact Nat.le_trans h2 h
end Go.Proofs.YtfjajpnfjjdnpaaGreatDoor

namespace Go.Proofs.YtfjajpnfjjdnpaaGreatDoor
open Go.RowKit Nds
theorem zpP {l:List Nd}{t:Tr}:∀(m:Nat) (cur:List Nd) (p:Nat),(at_ cur p).lv≤m→SS l t cur p→∃cur' p',SS l t cur' p'∧holT (den cur' (p'+1))=false:=by
 intro m
 induction m with
 | zero =>
  intro cur p hm h;have:=zam (zad h.1 h.2.1);omega
 | succ m ih =>
  intro cur p hm h;cases hh:holT (den cur (p+1)) with
  | false=>exact⟨cur,p,h,hh⟩
  | true =>
   refine ih _ _ ?_ (h.next hh);rw[zbY];show(at_ cur p).lv-1≤_;omega
theorem zoT {l:List Nd}(hl:zaa l=true){n:Nat}(hn:n≤l.length):(OfL l n).length≤l.length+1328:=by
 cases n with
 | zero =>
  unfold OfL;rw[zar,zoC];exact Nat.zero_le _
 | succ p =>
  by_cases he:den l (p+1)=.e
  ·unfold OfL;rw[he,zoC];exact Nat.zero_le _
  ·have hs:=SS.start hl (p:=p) (by omega) he;have hv:=zam (zad hl (i:=p) (by omega));obtain⟨cur,q,h1,h2⟩:=zpP 1329 l p hv.2 hs;have h3:=h1.len;have h4:=zln h1.1 (q+1) [] (by have:=h1.2.1;omega) (zhV cur);have h5:=h4.len;have h6:den cur (q+1)=shrT (den l (p+1)):=by rw[←h1.2.2.2.1,zbP h2]
   rw[h6] at h5;exact Nat.le_trans h5 h3
theorem zoU (l:List Nd)(k:Int):(ofQ l k).length≤l.length+1328:=by
 unfold ofQ;split
 ·rename_i h;unfold okB at h;rw[Bool.and_eq_true,decide_eq_true_iff] at h;exact zoT h.1 (by omega)
 ·exact Nat.zero_le _
end Go.Proofs.YtfjajpnfjjdnpaaGreatDoor
