import Derived.Test.YtfjajpnfjjdnpaaGreatDoorWLkRq

set_option linter.unusedVariables false
set_option linter.unusedSimpArgs false
set_option maxRecDepth 100000
set_option maxHeartbeats 6400000
namespace Go.Proofs.YtfjajpnfjjdnpaaGreatDoor
open Go.RowKit Num Nds
def inR (X:Int):Prop := -p2 1328≤X∧X<p2 1328
instance (X:Int):Decidable (inR X):=inferInstanceAs (Decidable (_∧_))
def maxN (x:Nd):Int:=max (max (max x.a x.b) x.c) x.d
def zdd (l:List Nd):Int:=l.foldl (fun m x=>if x.lv=1 then max m (maxN x) else m) 0
theorem zpI (l:List Nd)(x:Nd):zdd (l++[x])=if x.lv=1 then max (zdd l) (maxN x) else zdd l:=by
 unfold zdd;rw[List.foldl_append];rfl
theorem zjO {l:List Nd}{i:Nat}(hi:i<l.length):zdd (l.take (i+1))=if (at_ l i).lv=1 then max (zdd (l.take i)) (maxN (at_ l i)) else zdd (l.take i):=by
 rw[zcE hi,zpI]
theorem zsj (g:Nat)(x:Nd)(w:World)(h:zbk w g x) :
  Calls Tryz.prog 173 #[.slice (some ⟨g,1,none⟩) 4 4] w fun e w'=>e=.returned (.int .i64 (maxN x))∧w'=w:=by
 obtain⟨c0,c1,c2,c3,c4⟩:=h.cells;obtain⟨m,hm⟩:∃m,m=maxN x:=⟨_,rfl⟩;rw[←hm];have HM:=Hh hm;clear h hm;go_enter Tryz.func173,Tryz.ntmps173;go_wp2_with fail;refine wp_loop_rounds 4 ?_;rw[rounds_succ];go_wp2_with fail;rw[rounds_succ];go_wp2_with fail;rw[rounds_succ];go_wp2_with fail;rw[rounds_succ];go_wp2_with fail;go_ret;refine⟨?_,rfl⟩;show Ending.returned (.int .i64 (max x.a (max x.b (max x.c x.d))))=_;rw[HM.out];exact zeW (by unfold maxN;omega)
theorem zfh (A:Option Addr)(c n:Nat)(q:List Nd)(w:World)(h:Ns w A c q)(hn:q.length=n) :
  Calls Tryz.prog 131 #[.agg #[.slice A n c]] w fun e w'=>e=.returned (.int .u8 (zdd q%256))∧Below w.heap.size w w':=by
 have hcap:=h.cap;rw[hn] at hcap;have hb:=(Below.refl w.heap.size w).alloc (Nat.le_refl _) (.cells #[.slice A n c] 28);have HB:=Hh hb;have HN:=Hh (h.below hb);have HL:=Hh hn;clear h hb hn;go_enter Tryz.func131,Tryz.ntmps131;go_wp2_with fail;go_loopw [9,5,3] (fun z1 z2 z3 wr=>∃(i:Nat) (u:Value),i≤n∧z1=.int .i64 i∧z2=u∧z3=.int .i64 (zdd (q.take i))∧Below (w.alloc (.cells #[.slice A n c] 28)).heap.size (w.alloc (.cells #[.slice A n c] 28)) wr) (fun z1 _ _ _=>n-(intOf z1).toNat)
 case atStart=>exact⟨0,_,by omega,rfl,rfl,rfl,Below.refl _ _⟩
 case round =>
  obtain⟨i,u,hi,rfl,rfl,rfl,hbw⟩:=hrel;have HBW:=Hh hbw;obtain⟨M,hM⟩:∃M,M=zdd (q.take i):=⟨_,rfl⟩;rw[←hM];have HM:=Hh hM;by_cases hlt:i<n
  ·have hil:i<q.length:=by rw[HL.out];exact hlt
   have hmt:=zjO hil;obtain⟨b,off,rfl,hbl,hcl⟩:=(HN.out.below hbw).at_ (by omega)
   obtain⟨c1,c2,c3,c4,c5⟩:=hcl i hil;obtain⟨x,hx⟩:∃x,x=at_ q i:=⟨_,rfl⟩
   rw[←hx] at c1 c2 c3 c4 c5 hmt;rw[←hM] at hmt;have HMT:=Hh hmt;have i1:(i:Int)<(n:Int):=by omega
   have hnb:=zbk.new wr x;have HNB:=Hh hnb;have HB2:=Hh (hbw.alloc hbw.size (.cells #[.int .i64 x.lv,.int .i64 x.a,.int .i64 x.b,.int .i64 x.c,.int .i64 x.d] 70));clear hbw hM hil hmt hbl hcl hx hnb;by_cases h1:x.lv=1
   ·have t1:(x.lv==1)=true:=beq_iff_eq.2 h1;have HO:=Hh h1;clear h1;go_wp2_with (go_at_call 173;go_loud (refine(zsj _ x _ HNB.out).mono ?_;rintro e w2 ⟨rfl,rfl⟩));go_roundw
    case rel=>exact⟨i+1,_,by omega,by go_num,rfl,by rw[HMT.out,if_pos HO.out],HB2.out⟩
    case measure=>simp[intOf];omega
   ·have t1:(x.lv==1)=false:=beq_eq_false_iff_ne.2 h1;go_wp2_with fail;go_roundw
    case rel=>exact⟨i+1,_,by omega,by go_num,rfl,by rw[HMT.out,if_neg h1],HB2.out⟩
    case measure=>simp[intOf];omega
  ·have e:i=n:=by omega
   subst e;have HMQ:=Hh (show M=zdd q by rw[hM,List.take_of_length_le (by rw[HL.out];omega)]);clear hbw hM;go_wp2_with fail;go_ret;exact⟨by rw[←HMQ.out];rfl,HB.out.trans (HBW.out.mono HB.out.size)⟩
def maxK (M:Int)(x:Nd):Nat→Int
 | 0=>M
 | k+1=>max (maxK M x k) (x.kid k)
theorem zpJ (M:Int)(x:Nd):maxK M x 4=max M (maxN x):=by
 show max (max (max (max M x.a) x.b) x.c) x.d=max M (max (max (max x.a x.b) x.c) x.d);omega
theorem zsk (A:Option Addr)(c n:Nat)(q:List Nd)(w:World)(h:Ns w A c q)(hn:q.length=n) :
  Calls Tryz.prog 47 #[.agg #[.slice A n c]] w fun e w'=>e=.returned (.int .u8 (zdd q%256))∧Below w.heap.size w w':=by
 have hcap:=h.cap;rw[hn] at hcap;obtain⟨W,hW⟩:∃W:World,W=w.alloc (.cells #[.slice A n c] 28):=⟨_,rfl⟩;have hb:Below w.heap.size w W:=by rw[hW];exact(Below.refl w.heap.size w).alloc (Nat.le_refl _) _
 have HB:=Hh hb;have HN:=Hh (h.below hb);have HL:=Hh hn;have hbx:W.heap[w.heap.size]?=some (.cells #[.slice A n c] 28):=by rw[hW];exact heap_alloc_new w _
 have a0:=zab hbx;have HA0:=Hh a0;have HW:=Hh hW;clear h hb hn hbx hW;go_enter Tryz.func47,Tryz.ntmps47;go_wp2_with fail;rw[←HW.out];go_loopw [4,5,3] (fun z1 z2 z3 wr=>∃(i:Nat) (u:Value),i≤n∧z1=.int .i64 i∧z2=u∧z3=.int .i64 (zdd (q.take i))∧W=wr) (fun z1 _ _ _=>n-(intOf z1).toNat)
 case atStart=>exact⟨0,_,by omega,rfl,rfl,rfl,rfl⟩
 case round =>
  obtain⟨i,u,hi,rfl,rfl,rfl,rfl⟩:=hrel;obtain⟨M,hM⟩:∃M,M=zdd (q.take i):=⟨_,rfl⟩;rw[←hM];by_cases hlt:i<n
  ·have hil:i<q.length:=by rw[HL.out];exact hlt
   have hmt:=zjO hil;obtain⟨b,off,rfl,hbl,hcl⟩:=HN.out.at_ (by omega)
   have hci:=hcl i hil;obtain⟨x,hx⟩:∃x,x=at_ q i:=⟨_,rfl⟩
   rw[←hx] at hci hmt;rw[←hM] at hmt;have HMT:=Hh hmt;have HCI:=Hh hci;have c1:=hci.1;have i1:(i:Int)<(n:Int):=by omega
   have hco:=HA0.out;clear hM hil hmt hbl hcl hx hci;by_cases h1:x.lv=1
   ·have t1:(x.lv==1)=true:=beq_iff_eq.2 h1;have HO:=Hh h1;clear h1;go_wp2_with fail;go_loopw [5,3] (fun z1 z2 wr=>∃(j:Nat),j≤4∧z1=.int .i64 j∧z2=.int .i64 (maxK M x j)∧W=wr) (fun z1 _ _=>4-(intOf z1).toNat)
    case atStart=>exact⟨0,by omega,rfl,rfl,rfl⟩
    case round =>
     obtain⟨j,hj,rfl,rfl,rfl⟩:=hrel;by_cases hj4:j<4
     ·have hk:=HCI.out.kid hj4;have i2:(j:Int)<4:=by omega
      have i3:(0:Int)≤(j:Int):=by omega
      obtain⟨K_,hK_⟩:∃K_,K_=maxK M x j:=⟨_,rfl⟩;rw[←hK_];have HK_:=Hh hK_;have t2:decide ((j:Int)<4)=true:=decide_eq_true i2;clear hK_;go_wp2_with fail;go_roundw
      case rel=>exact⟨j+1,by omega,by go_num,by rw[HK_.out];rfl,trivial⟩
      case measure=>simp[intOf];omega
     ·have hj5:j=4:=by omega
      subst hj5;go_wp2_with fail;go_roundw
      case rel=>exact⟨i+1,_,by omega,by go_num,rfl,by rw[HMT.out,if_pos HO.out,zpJ],trivial⟩
      case measure=>simp[intOf];omega
   ·have t1:(x.lv==1)=false:=beq_eq_false_iff_ne.2 h1;go_wp2_with fail;refine wp_loop_rounds 1 ?_;rw[rounds_succ];go_wp2_with fail;go_roundw
    case rel=>exact⟨i+1,_,by omega,by go_num,rfl,by rw[HMT.out,if_neg h1],trivial⟩
    case measure=>simp[intOf];omega
  ·have e:i=n:=by omega
   subst e;have HMQ:=Hh (show M=zdd q by rw[hM,List.take_of_length_le (by rw[HL.out];omega)]);clear hM;go_wp2_with fail;go_ret;exact⟨by rw[←HMQ.out];rfl,HB.out⟩
end Go.Proofs.YtfjajpnfjjdnpaaGreatDoor
