import Derived.Test.YtfjajpnfjjdnpaaGreatDoorVLkSp

set_option linter.unusedVariables false
set_option linter.unusedSimpArgs false
set_option maxRecDepth 100000
set_option maxHeartbeats 6400000
namespace Go.Proofs.YtfjajpnfjjdnpaaGreatDoor
open Go.RowKit Num Nds
def maxN (x:Nd):Int:=max (max (max x.a x.b) x.c) x.d
def zeB (l:List Nd):Int:=l.foldl (fun m x=>if x.lv=1 then max m (maxN x) else m) 0
theorem znU (l:List Nd)(x:Nd):zeB (l++[x])=if x.lv=1 then max (zeB l) (maxN x) else zeB l:=by
 unfold zeB;rw[List.foldl_append];rfl
theorem znV {l:List Nd}{i:Nat}(hi:i<l.length):zeB (l.take (i+1))=if (at_ l i).lv=1 then max (zeB (l.take i)) (maxN (at_ l i)) else zeB (l.take i):=by
 rw[zci hi,znU]
theorem zqB (g:Nat)(x:Nd)(w:World)(h:zaX w g x) :
  Calls Tryz.prog 173 #[.slice (some ⟨g,1,none⟩) 4 4] w fun e w'=>e=.returned (.int .i64 (maxN x))∧w'=w:=by
 obtain⟨c0,c1,c2,c3,c4⟩:=h.cells;obtain⟨m,hm⟩:∃m,m=maxN x:=⟨_,rfl⟩;rw[←hm];have HM:=Hh hm;clear h hm;go_enter Tryz.func173,Tryz.ntmps173;go_wp2_with fail;refine wp_loop_rounds 4 ?_;rw[rounds_succ];go_wp2_with fail;rw[rounds_succ];go_wp2_with fail;rw[rounds_succ];go_wp2_with fail;rw[rounds_succ];go_wp2_with fail;go_ret;refine⟨?_,rfl⟩;show Ending.returned (.int .i64 (max x.a (max x.b (max x.c x.d))))=_;rw[HM.out];exact zet (by unfold maxN;omega)
theorem zeC (A:Option Addr)(c n:Nat)(q:List Nd)(w:World)(h:Ns w A c q)(hn:q.length=n) :
  Calls Tryz.prog 131 #[.agg #[.slice A n c]] w fun e w'=>e=.returned (.int .u8 (zeB q%256))∧Below w.heap.size w w':=by
 have hcap:=h.cap;rw[hn] at hcap;have hb:=(Below.refl w.heap.size w).alloc (Nat.le_refl _) (.cells #[.slice A n c] 28);have HB:=Hh hb;have HN:=Hh (h.below hb);have HL:=Hh hn;clear h hb hn;go_enter Tryz.func131,Tryz.ntmps131;go_wp2_with fail;go_loopw [9,5,3] (fun z1 z2 z3 wr=>∃(i:Nat) (u:Value),i≤n∧z1=.int .i64 i∧z2=u∧z3=.int .i64 (zeB (q.take i))∧Below (w.alloc (.cells #[.slice A n c] 28)).heap.size (w.alloc (.cells #[.slice A n c] 28)) wr) (fun z1 _ _ _=>n-(intOf z1).toNat)
 case atStart=>exact⟨0,_,by omega,rfl,rfl,rfl,Below.refl _ _⟩
 case round =>
  obtain⟨i,u,hi,rfl,rfl,rfl,hbw⟩:=hrel;have HBW:=Hh hbw;obtain⟨M,hM⟩:∃M,M=zeB (q.take i):=⟨_,rfl⟩;rw[←hM];have HM:=Hh hM;by_cases hlt:i<n
  ·have hil:i<q.length:=by rw[HL.out];exact hlt
   have hmt:=znV hil;obtain⟨b,off,rfl,hbl,hcl⟩:=(HN.out.below hbw).at_ (by omega)
   obtain⟨c1,c2,c3,c4,c5⟩:=hcl i hil;obtain⟨x,hx⟩:∃x,x=at_ q i:=⟨_,rfl⟩
   rw[←hx] at c1 c2 c3 c4 c5 hmt;rw[←hM] at hmt;have HMT:=Hh hmt;have i1:(i:Int)<(n:Int):=by omega
   have hnb:=zaX.new wr x;have HNB:=Hh hnb;have HB2:=Hh (hbw.alloc hbw.size (.cells #[.int .i64 x.lv,.int .i64 x.a,.int .i64 x.b,.int .i64 x.c,.int .i64 x.d] 70));clear hbw hM hil hmt hbl hcl hx hnb;by_cases h1:x.lv=1
   ·have t1:(x.lv==1)=true:=beq_iff_eq.2 h1;have HO:=Hh h1;clear h1;go_wp2_with (go_at_call 173;go_loud (refine(zqB _ x _ HNB.out).mono ?_;rintro e w2 ⟨rfl,rfl⟩));go_roundw
    case rel=>exact⟨i+1,_,by omega,by go_num,rfl,by rw[HMT.out,if_pos HO.out],HB2.out⟩
    case measure=>simp[intOf];omega
   ·have t1:(x.lv==1)=false:=beq_eq_false_iff_ne.2 h1;go_wp2_with fail;go_roundw
    case rel=>exact⟨i+1,_,by omega,by go_num,rfl,by rw[HMT.out,if_neg h1],HB2.out⟩
    case measure=>simp[intOf];omega
  ·have e:i=n:=by omega
   subst e;have HMQ:=Hh (show M=zeB q by rw[hM,List.take_of_length_le (by rw[HL.out];omega)]);clear hbw hM;go_wp2_with fail;go_ret;exact⟨by rw[←HMQ.out];rfl,HB.out.trans (HBW.out.mono HB.out.size)⟩
end Go.Proofs.YtfjajpnfjjdnpaaGreatDoor
