import Derived.Test.YtcippfaljoagaaaGreatDoorHLkPp

set_option linter.unusedVariables false
set_option linter.unusedSimpArgs false
set_option maxRecDepth 100000
set_option maxHeartbeats 6400000
namespace Go.Proofs.YtcippfaljoagaaaGreatDoor
open Go.RowKit Num Nds
def inR (X:Int):Prop := -p2 1328≤X∧X<p2 1328
instance (X:Int):Decidable (inR X):=inferInstanceAs (Decidable (_∧_))
def maxN (x:Nd):Int:=max (max (max x.a x.b) x.c) x.d
def zdq (l:List Nd):Int:=l.foldl (fun m x=>if x.lv=1 then max m (maxN x) else m) 0
theorem zpf (l:List Nd)(x:Nd):zdq (l++[x])=if x.lv=1 then max (zdq l) (maxN x) else zdq l:=by
 unfold zdq;rw[List.foldl_append];rfl
theorem zjB {l:List Nd}{i:Nat}(hi:i<l.length):zdq (l.take (i+1))=if (at_ l i).lv=1 then max (zdq (l.take i)) (maxN (at_ l i)) else zdq (l.take i):=by
 rw[zcG hi,zpf]
theorem zrB (g:Nat)(x:Nd)(w:World)(h:zbo w g x) :
  Calls Tryz.prog 186 #[.slice (some ⟨g,1,none⟩) 4 4] w fun e w'=>e=.returned (.int .i64 (maxN x))∧w'=w:=by
 obtain⟨c0,c1,c2,c3,c4⟩:=h.cells;obtain⟨m,hm⟩:∃m,m=maxN x:=⟨_,rfl⟩;rw[←hm];have HM:=Hh hm;clear h hm;go_enter Tryz.func186,Tryz.ntmps186;go_wp2_with fail;refine wp_loop_rounds 4 ?_;rw[rounds_succ];go_wp2_with fail;rw[rounds_succ];go_wp2_with fail;rw[rounds_succ];go_wp2_with fail;rw[rounds_succ];go_wp2_with fail;go_ret;refine⟨?_,rfl⟩;show Ending.returned (.int .i64 (max x.a (max x.b (max x.c x.d))))=_;rw[HM.out];exact zfk (by unfold maxN;omega)
theorem zfu (A:Option Addr)(c n:Nat)(q:List Nd)(w:World)(h:Ns w A c q)(hn:q.length=n) :
  Calls Tryz.prog 142 #[.agg #[.slice A n c]] w fun e w'=>e=.returned (.int .u8 (zdq q%256))∧Below w.heap.size w w':=by
 have hcap:=h.cap;rw[hn] at hcap;have hb:=(Below.refl w.heap.size w).alloc (Nat.le_refl _) (.cells #[.slice A n c] 28);have HB:=Hh hb;have HN:=Hh (h.below hb);have HL:=Hh hn;clear h hb hn;go_enter Tryz.func142,Tryz.ntmps142;go_wp2_with fail;go_loopw [9,5,3] (fun z1 z2 z3 wr=>∃(i:Nat) (u:Value),i≤n∧z1=.int .i64 i∧z2=u∧z3=.int .i64 (zdq (q.take i))∧Below (w.alloc (.cells #[.slice A n c] 28)).heap.size (w.alloc (.cells #[.slice A n c] 28)) wr) (fun z1 _ _ _=>n-(intOf z1).toNat)
 case atStart=>exact⟨0,_,by omega,rfl,rfl,rfl,Below.refl _ _⟩
 case round =>
  obtain⟨i,u,hi,rfl,rfl,rfl,hbw⟩:=hrel;have HBW:=Hh hbw;obtain⟨M,hM⟩:∃M,M=zdq (q.take i):=⟨_,rfl⟩;rw[←hM];have HM:=Hh hM;by_cases hlt:i<n
  ·have hil:i<q.length:=by rw[HL.out];exact hlt
   have hmt:=zjB hil;obtain⟨b,off,rfl,hbl,hcl⟩:=(HN.out.below hbw).at_ (by omega)
   obtain⟨c1,c2,c3,c4,c5⟩:=hcl i hil;obtain⟨x,hx⟩:∃x,x=at_ q i:=⟨_,rfl⟩
   rw[←hx] at c1 c2 c3 c4 c5 hmt;rw[←hM] at hmt;have HMT:=Hh hmt;have i1:(i:Int)<(n:Int):=by omega
   have hnb:=zbo.new wr x;have HNB:=Hh hnb;have HB2:=Hh (hbw.alloc hbw.size (.cells #[.int .i64 x.lv,.int .i64 x.a,.int .i64 x.b,.int .i64 x.c,.int .i64 x.d] 95));clear hbw hM hil hmt hbl hcl hx hnb;by_cases h1:x.lv=1
   ·have t1:(x.lv==1)=true:=beq_iff_eq.2 h1;have HO:=Hh h1;clear h1;go_wp2_with (go_at_call 186;go_loud (refine(zrB _ x _ HNB.out).mono ?_;rintro e w2 ⟨rfl,rfl⟩));go_roundw
    case rel=>exact⟨i+1,_,by omega,by go_num,rfl,by rw[HMT.out,if_pos HO.out],HB2.out⟩
    case measure=>simp[intOf];omega
   ·have t1:(x.lv==1)=false:=beq_eq_false_iff_ne.2 h1;go_wp2_with fail;go_roundw
    case rel=>exact⟨i+1,_,by omega,by go_num,rfl,by rw[HMT.out,if_neg h1],HB2.out⟩
    case measure=>simp[intOf];omega
  ·have e:i=n:=by omega
   subst e;have HMQ:=Hh (show M=zdq q by rw[hM,List.take_of_length_le (by rw[HL.out];omega)]);clear hbw hM;go_wp2_with fail;go_ret;exact⟨by rw[←HMQ.out];rfl,HB.out.trans (HBW.out.mono HB.out.size)⟩
def maxK (M:Int)(x:Nd):Nat→Int
 | 0=>M
 | k+1=>max (maxK M x k) (x.kid k)
theorem zpg (M:Int)(x:Nd):maxK M x 4=max M (maxN x):=by
 show max (max (max (max M x.a) x.b) x.c) x.d=max M (max (max (max x.a x.b) x.c) x.d);omega
theorem zrC (A:Option Addr)(c n:Nat)(q:List Nd)(w:World)(h:Ns w A c q)(hn:q.length=n) :
  Calls Tryz.prog 59 #[.agg #[.slice A n c]] w fun e w'=>e=.returned (.int .u8 (zdq q%256))∧Below w.heap.size w w':=by
 have hcap:=h.cap;rw[hn] at hcap;obtain⟨W,hW⟩:∃W:World,W=w.alloc (.cells #[.slice A n c] 28):=⟨_,rfl⟩;have hb:Below w.heap.size w W:=by rw[hW];exact(Below.refl w.heap.size w).alloc (Nat.le_refl _) _
 have HB:=Hh hb;have HN:=Hh (h.below hb);have HL:=Hh hn;have hbx:W.heap[w.heap.size]?=some (.cells #[.slice A n c] 28):=by rw[hW];exact heap_alloc_new w _
 have a0:=zab hbx;have HA0:=Hh a0;have HW:=Hh hW;clear h hb hn hbx hW;go_enter Tryz.func59,Tryz.ntmps59;go_wp2_with fail;rw[←HW.out];go_loopw [4,5,3] (fun z1 z2 z3 wr=>∃(i:Nat) (u:Value),i≤n∧z1=.int .i64 i∧z2=u∧z3=.int .i64 (zdq (q.take i))∧W=wr) (fun z1 _ _ _=>n-(intOf z1).toNat)
 case atStart=>exact⟨0,_,by omega,rfl,rfl,rfl,rfl⟩
 case round =>
  obtain⟨i,u,hi,rfl,rfl,rfl,rfl⟩:=hrel;obtain⟨M,hM⟩:∃M,M=zdq (q.take i):=⟨_,rfl⟩;rw[←hM];by_cases hlt:i<n
  ·have hil:i<q.length:=by rw[HL.out];exact hlt
   have hmt:=zjB hil;obtain⟨b,off,rfl,hbl,hcl⟩:=HN.out.at_ (by omega)
   have hci:=hcl i hil;obtain⟨x,hx⟩:∃x,x=at_ q i:=⟨_,rfl⟩
   rw[←hx] at hci hmt;rw[←hM] at hmt;have HMT:=Hh hmt;have HCI:=Hh hci;have c1:=hci.1;have i1:(i:Int)<(n:Int):=by omega
   have hco:=HA0.out;clear hM hil hmt hbl hcl hx hci;by_cases h1:x.lv=1
   ·have t1:(x.lv==1)=true:=beq_iff_eq.2 h1;have HO:=Hh h1;clear h1;go_wp2_with fail;go_loopw [5,3] (fun z1 z2 wr=>∃(j:Nat),j≤4∧z1=.int .i64 j∧z2=.int .i64 (maxK M x j)∧W=wr) (fun z1 _ _=>4-(intOf z1).toNat)
    case atStart=>exact⟨0,by omega,rfl,rfl,rfl⟩
    case round =>
     obtain⟨j,hj,rfl,rfl,rfl⟩:=hrel;by_cases hj4:j<4
     ·have hk:=HCI.out.kid hj4;have i2:(j:Int)<4:=by omega
      have i3:(0:Int)≤(j:Int):=by omega
      obtain⟨K_,hK_⟩:∃K_,K_=maxK M x j:=⟨_,rfl⟩;rw[←hK_];have HK_:=Hh hK_;have t2:decide ((j:Int)<4)=true:=decide_eq_true i2;clear hK_;go_wp2_with fail;go_roundw
      case rel=>exact⟨j+1,by omega,by go_num,by rw[HK_.out];rfl,trivial⟩
      case measure=>simp[intOf];omega
     ·have hj5:j=4:=by omega
      subst hj5;go_wp2_with fail;go_roundw
      case rel=>exact⟨i+1,_,by omega,by go_num,rfl,by rw[HMT.out,if_pos HO.out,zpg],trivial⟩
      case measure=>simp[intOf];omega
   ·have t1:(x.lv==1)=false:=beq_eq_false_iff_ne.2 h1;go_wp2_with fail;refine wp_loop_rounds 1 ?_;rw[rounds_succ];go_wp2_with fail;go_roundw
    case rel=>exact⟨i+1,_,by omega,by go_num,rfl,by rw[HMT.out,if_neg h1],trivial⟩
    case measure=>simp[intOf];omega
  ·have e:i=n:=by omega
   subst e;have HMQ:=Hh (show M=zdq q by rw[hM,List.take_of_length_le (by rw[HL.out];omega)]);clear hM;go_wp2_with fail;go_ret;exact⟨by rw[←HMQ.out];rfl,HB.out⟩
structure I2 (w:World)(g h:Nat)(s:Bool)(A:Option Addr)(c:Nat)(xs:List Nat)(X:Int)(t:Bool)(B:Option Addr)(d:Nat)(ys:List Nat)(Y:Int)(W:World):Prop where
 b:Below w.heap.size w W
 x:HX W g s A c xs X
 y:HX W h t B d ys Y
theorem I2.next {w:World}{g h:Nat}{s:Bool}{A:Option Addr}{c:Nat}{xs:List Nat}{X:Int}{t:Bool}{B:Option Addr}{d:Nat}{ys:List Nat}{Y:Int}{W W1:World}(k:I2 w g h s A c xs X t B d ys Y W)(q:Below W.heap.size W W1):I2 w g h s A c xs X t B d ys Y W1 :=
 ⟨k.b.trans (q.mono k.b.size),k.x.next q,k.y.next q⟩
theorem I2.at_ {w:World}{g h:Nat}{s:Bool}{A:Option Addr}{c:Nat}{xs:List Nat}{X:Int}{t:Bool}{B:Option Addr}{d:Nat}{ys:List Nat}{Y:Int}{W:World}(k:I2 w g h s A c xs X t B d ys Y W) :
  W.cell? ⟨g,0,none⟩=some (.bool s)∧W.cell? ⟨g,1,none⟩=some (.slice A xs.length c)∧W.cell? ⟨h,0,none⟩=some (.bool t)∧W.cell? ⟨h,1,none⟩=some (.slice B ys.length d):=⟨k.x.c0,k.x.c1,k.y.c0,k.y.c1⟩
def inM (X:Int)(m:Nat):Bool:=decide (-p2 m≤X)&&decide (X<p2 m)
theorem ziH (X:Int)(m:Nat):inM X m=true↔rcI X≤m:=by
 unfold inM;rw[zjz,Bool.and_eq_true,decide_eq_true_iff,decide_eq_true_iff]
theorem zsI {w:World}{s:Bool}{A:Option Addr}{c:Nat}{xs:List Nat}{X:Int}(h:Us w A c xs)(hk:zaO s xs)(hv:ival s xs=X):HX (w.alloc (.cells #[.bool s,.slice A xs.length c] 48)) w.heap.size s A c xs X :=
 ⟨heap_alloc_new w _,h.below ((Below.refl _ w).alloc (Nat.le_refl _) _),hk,hv,fun hx a e=>by have:=zbS h hx a e;omega⟩
theorem zjC (s:Bool)(A:Option Addr)(c:Nat)(xs:List Nat)(m:Nat)(w:World)(h:Us w A c xs)(hk:zaO s xs)(hl:xs.length≤50000)(hm:m≤1330) :
  Calls Tryz.prog 102 #[.agg #[.bool s,.slice A xs.length c],.int .i64 ((m:Int)+1)] w fun e w'=>e=.returned (.bool (inM (ival s xs) m))∧Below w.heap.size w w':=by
 have hcap:=h.cap;obtain⟨X,hX⟩:∃X,X=ival s xs:=⟨_,rfl⟩;rw[←hX];obtain⟨W,hW⟩:∃W:World,W=w.alloc (.cells #[.bool s,.slice A xs.length c] 48):=⟨_,rfl⟩;have hb:Below w.heap.size w W:=by rw[hW];exact(Below.refl _ w).alloc (Nat.le_refl _) _
 have hx0:HX W w.heap.size s A c xs X:=by rw[hW];exact zsI h hk hX.symm
 have HW:=Hh hW;have HB:=Hh hb;have HX0:=Hh hx0;obtain⟨R,hR⟩:∃R,R=inM X m:=⟨_,rfl⟩;rw[←hR];obtain⟨ra,hra⟩:∃r,r=ordI X (-p2 m):=⟨_,rfl⟩;obtain⟨rb,hrb⟩:∃r,r=ordI X (p2 m):=⟨_,rfl⟩;have ea:decide (ra≥0)=decide (-p2 m≤X):=by rw[hra,zeo]
 have eb:decide (rb<0)=decide (X<p2 m):=by rw[hrb,zfs]
 have hR':R=(decide (ra≥0)&&decide (rb<0)):=by rw[hR,ea,eb];rfl
 have HR:=Hh hR';have HRA:=Hh hra;have HRB:=Hh hrb;have f0:IntKind.i64.wrap ((m:Int)+1-1)=(m:Int):=by rw[show(m:Int)+1-1=(m:Int) by omega];exact IntWalk.i64_in _ (by omega)
 have hmm:=zaI (show m≤1330 by omega);have hpm:=zam m;have HPM:=Hh (show -p2 1330≤p2 m∧p2 m≤p2 1330∧-p2 1330 ≤ -p2 m∧-p2 m≤p2 1330 from⟨by omega,hmm,by omega,by omega⟩);obtain⟨gx,hgx⟩:∃g,g=w.heap.size:=⟨_,rfl⟩;have HGX:=Hh hgx;rw[←hgx] at HX0;clear h hk hW hb hx0 hR hra hrb ea eb hR' hmm hpm hX hgx;go_enter Tryz.func102,Tryz.ntmps102;go_wp2_with (go_at_call 97;go_loud (rw[←HW.out];refine(zaR _ _).mono ?_;rintro e w5 ⟨A5,c5,s5,r5,rfl,u5,k5,v5,b5⟩;rw[zbY m (by omega)] at v5;have L5:=Hh (zbg k5 v5 HPM.out.1 HPM.out.2.1);have I5:=Hh (show I2 w gx w5.heap.size s A c xs X s5 A5 c5 r5 (p2 m) (w5.alloc (.cells #[.bool s5,.slice A5 r5.length c5] 48)).drew from I2.next (W:=w5.alloc (.cells #[.bool s5,.slice A5 r5.length c5] 48)) ⟨(HB.out.trans (b5.mono HB.out.size)).alloc (Nat.le_trans HB.out.size b5.size) _,(HX0.out.next b5).next ((Below.refl _ w5).alloc (Nat.le_refl _) _),zsI u5 k5 v5⟩ (Below.drew' (Below.refl _ _)));clear u5 k5 v5 b5));rw[←HGX.out];obtain⟨gp,hgp⟩:∃g,g=w5.heap.size:=⟨_,rfl⟩;have hgp':=hgp;rw[←hgp] at I5;rw[←hgp];refine wp_region_noPanic ?_;refine wp_region_held (S:=fun w'=>w'.cell? ⟨gx,0,none⟩=some (.bool s)∧w'.cell? ⟨gx,1,none⟩=some (.slice A xs.length c)∧w'.cell? ⟨gp,0,none⟩=some (.bool s5)∧w'.cell? ⟨gp,1,none⟩=some (.slice A5 r5.length c5)) (by kernel_rfl) ?_;obtain⟨W0,hW0⟩:∃W0:World,W0=(w5.alloc (.cells #[.bool s5,.slice A5 r5.length c5] 48)).drew:=⟨_,rfl⟩;rw[←hW0] at I5;change wpAnyH _ _ _ _ _ _ _ _ (w5.alloc (.cells #[.bool s5,.slice A5 r5.length c5] 48)).drew;rw[←hW0];clear hW0 hgp hgp';have hS0:=I5.out.at_
 refine Tk1 (v:=?_) 0 hS0 ?_ ?_;rotate_left
 ·rintro w' ⟨s1,s2,s3,s4⟩;go_simp;first|done|with_reducible rfl|rfl
 simp only[Act.put,LA];refine Tk1 (v:=?_) 1 hS0 ?_ ?_;rotate_left
 ·rintro w' ⟨s1,s2,s3,s4⟩;go_simp;first|done|with_reducible rfl|rfl
 simp only[Act.put,LA];refine Rd1 2 fun K hK=>?_;go_simp;refine(zbu s5 A5 c5 r5 _ I5.out.y.us (by have:=L5.out;omega)).mono ?_;rintro e w6 ⟨A6,c6,s6,r6,rfl,u6,k6,v6,b6⟩;dsimp only;rw[I5.out.y.v] at v6;have I6:=Hh (I5.out.next b6);have U6:=Hh u6;have V6:=Hh v6;have L6:=Hh (zbg k6 v6 HPM.out.2.2.1 HPM.out.2.2.2);clear u6 k6 v6 b6;refine hK.out _ _ I6.out.at_ (fun hS1=>?_)
 clear hK K;refine Rd1 3 fun K hK=>?_;go_simp;refine(zae s s6 A A6 c c6 xs r6 _ I6.out.x.us U6.out (by omega) (by have:=L6.out;omega)).mono ?_;rintro e w7 ⟨rfl,b7⟩;dsimp only;rw[I6.out.x.v,V6.out,←HRA.out];have I7:=Hh (I6.out.next b7);clear b7;refine hK.out _ _ I7.out.at_ (fun hS2=>?_)
 clear hK K;by_cases ta:ra≥0
 ·have xa:decide (ra≥0)=true:=decide_eq_true ta;clear ta;refine Tk1 (v:=?_) 4 hS2 ?_ ?_;rotate_left
  ·rintro w' ⟨s1,s2,s3,s4⟩;go_simp;first|done|with_reducible rfl|rfl
  simp only[Act.put,LA];refine Tk1 (v:=?_) 5 hS2 ?_ ?_;rotate_left
  ·rintro w' ⟨s1,s2,s3,s4⟩;go_simp;first|done|with_reducible rfl|rfl
  simp only[Act.put,LA];refine Tk1 (v:=?_) 6 hS2 ?_ ?_;rotate_left
  ·rintro w' ⟨s1,s2,s3,s4⟩;go_simp;first|done|with_reducible rfl|rfl
  simp only[Act.put,LA];refine Tk1 (v:=?_) 7 hS2 ?_ ?_;rotate_left
  ·rintro w' ⟨s1,s2,s3,s4⟩;go_simp;first|done|with_reducible rfl|rfl
  simp only[Act.put,LA];refine Rd1 8 fun K hK=>?_;go_simp;refine(zae s s5 A A5 c c5 xs r5 _ I7.out.x.us I7.out.y.us (by omega) (by have:=L5.out;omega)).mono ?_;rintro e w8 ⟨rfl,b8⟩;dsimp only;rw[I7.out.x.v,I7.out.y.v,←HRB.out];have I8:=Hh (I7.out.next b8);clear b8;refine hK.out _ _ I8.out.at_ (fun hS3=>?_)
  clear hK K;refine Tk1 (v:=?_) 9 hS3 ?_ ?_;rotate_left
  ·rintro w' ⟨s1,s2,s3,s4⟩;go_simp;first|done|with_reducible rfl|rfl
  simp only[Act.put,LA];refine Tk1 (v:=?_) 10 hS3 ?_ ?_;rotate_left
  ·rintro w' ⟨s1,s2,s3,s4⟩;go_simp;first|done|with_reducible rfl|rfl
  simp only[Act.put,LA];refine Tk1 (v:=?_) 11 hS3 ?_ ?_;rotate_left
  ·rintro w' ⟨s1,s2,s3,s4⟩;go_simp;first|done|with_reducible rfl|rfl
  simp only[Act.put,LA];refine wpAnyH_done (by kernel_rfl) ?_ _;refine NoPanic.normal ?_;go_wp2_with fail;go_ret;refine⟨?_,I8.out.b⟩;rw[HR.out,xa];rfl
 ·have xa:decide (ra≥0)=false:=decide_eq_false ta;clear ta;refine Tk1 (v:=?_) 4 hS2 ?_ ?_;rotate_left
  ·rintro w' ⟨s1,s2,s3,s4⟩;go_simp;first|done|with_reducible rfl|rfl
  simp only[Act.put,LA];refine Tk1 (v:=?_) 5 hS2 ?_ ?_;rotate_left
  ·rintro w' ⟨s1,s2,s3,s4⟩;go_simp;first|done|with_reducible rfl|rfl
  simp only[Act.put,LA];refine Tk0 6 hS2 ?_;simp only[Act.put,LA];refine Tk0 7 hS2 ?_;simp only[Act.put,LA];refine Tk0 8 hS2 ?_;simp only[Act.put,LA];refine Tk0 9 hS2 ?_;simp only[Act.put,LA];refine Tk1 (v:=?_) 10 hS2 ?_ ?_;rotate_left
  ·rintro w' ⟨s1,s2,s3,s4⟩;go_simp;first|done|with_reducible rfl|rfl
  simp only[Act.put,LA];refine Tk1 (v:=?_) 11 hS2 ?_ ?_;rotate_left
  ·rintro w' ⟨s1,s2,s3,s4⟩;go_simp;first|done|with_reducible rfl|rfl
  simp only[Act.put,LA];refine wpAnyH_done (by kernel_rfl) ?_ _;refine NoPanic.normal ?_;go_wp2_with fail;go_ret;refine⟨?_,I7.out.b⟩;rw[HR.out,xa];rfl
end Go.Proofs.YtcippfaljoagaaaGreatDoor
