import Derived.Test.YtbabbmdpgpcgjaaGreatDoorHNcPB
import Derived.Test.YtbabbmdpgpcgjaaGreatDoorHNcOr
import Derived.Laws.EntriesVeiled
import Derived.ArgAppend
import Derived.LoopN

set_option linter.unusedVariables false
set_option linter.unusedSimpArgs false
set_option maxRecDepth 100000
set_option maxHeartbeats 6400000
namespace Go.Proofs.YtbabbmdpgpcgjaaGreatDoor
open Go.RowKit Nds
theorem zbs.cells {w:World}{g:Nat}{x:Nd}(h:zbs w g x):w.cell? ⟨g,0,none⟩=some (.int .i64 x.lv)∧w.cell? ⟨g,1,none⟩=some (.int .i64 x.a)∧w.cell? ⟨g,2,none⟩=some (.int .i64 x.b)∧w.cell? ⟨g,3,none⟩=some (.int .i64 x.c)∧w.cell? ⟨g,4,none⟩=some (.int .i64 x.d):=h.at_
end Go.Proofs.YtbabbmdpgpcgjaaGreatDoor

namespace Go.Proofs.YtbabbmdpgpcgjaaGreatDoor
open Go.RowKit Num Nds
def maxN (x:Nd):Int:=max (max (max x.a x.b) x.c) x.d
def zbT (l:List Nd):Int:=l.foldl (fun m x=>if x.lv=1 then max m (maxN x) else m) 0
theorem zhh (l:List Nd)(x:Nd):zbT (l++[x])=if x.lv=1 then max (zbT l) (maxN x) else zbT l:=by
 unfold zbT;rw[List.foldl_append];rfl
theorem zhi {l:List Nd}{i:Nat}(hi:i<l.length):zbT (l.take (i+1))=if (at_ l i).lv=1 then max (zbT (l.take i)) (maxN (at_ l i)) else zbT (l.take i):=by
 rw[zdb hi,zhh]
def maxK (M:Int)(x:Nd):Nat→Int
 | 0=>M
 | k+1=>max (maxK M x k) (x.kid k)
theorem zqI (M:Int)(x:Nd):maxK M x 4=max M (maxN x):=by
 show max (max (max (max M x.a) x.b) x.c) x.d=max M (max (max (max x.a x.b) x.c) x.d);omega
theorem ztD (A:Option Addr)(c n:Nat)(q:List Nd)(w:World)(h:Ns w A c q)(hn:q.length=n) :
  Calls Tryz.prog 30 #[.agg #[.slice A n c]] w fun e w'=>e=.returned (.int .u8 (zbT q%256))∧Below w.heap.size w w':=by
 have hcap:=h.cap;rw[hn] at hcap;obtain⟨W,hW⟩:∃W:World,W=w.alloc (.cells #[.slice A n c] 27):=⟨_,rfl⟩;have hb:Below w.heap.size w W:=by rw[hW];exact(Below.refl w.heap.size w).alloc (Nat.le_refl _) _
 have HB:=Hh hb;have HN:=Hh (h.below hb);have HL:=Hh hn;have hbx:W.heap[w.heap.size]?=some (.cells #[.slice A n c] 27):=by rw[hW];exact heap_alloc_new w _
 have a0:=zaa hbx;have HA0:=Hh a0;have HW:=Hh hW;clear h hb hn hbx hW;go_enter Tryz.func30,Tryz.ntmps30;go_wp2_with fail;rw[←HW.out];go_loopw [4,5,3] (fun z1 z2 z3 wr=>∃(i:Nat) (u:Value),i≤n∧z1=.int .i64 i∧z2=u∧z3=.int .i64 (zbT (q.take i))∧W=wr) (fun z1 _ _ _=>n-(intOf z1).toNat)
 case atStart=>exact⟨0,_,by omega,rfl,rfl,rfl,rfl⟩
 case round =>
  obtain⟨i,u,hi,rfl,rfl,rfl,rfl⟩:=hrel;obtain⟨M,hM⟩:∃M,M=zbT (q.take i):=⟨_,rfl⟩;rw[←hM];by_cases hlt:i<n
  ·have hil:i<q.length:=by rw[HL.out];exact hlt
   have hmt:=zhi hil;obtain⟨b,off,rfl,hbl,hcl⟩:=HN.out.at_ (by omega)
   have hci:=hcl i hil;obtain⟨x,hx⟩:∃x,x=at_ q i:=⟨_,rfl⟩
   rw[←hx] at hci hmt;rw[←hM] at hmt;have HMT:=Hh hmt;have HCI:=Hh hci;have c1:=hci.1;have i1:(i:Int)<(n:Int):=by omega
   have hco:=HA0.out;clear hM hil hmt hbl hcl hx hci;by_cases h1:x.lv=1
   ·have t1:(x.lv==1)=true:=beq_iff_eq.2 h1;have HO:=Hh h1;clear h1;go_wp2_with fail;go_loopw [5,3] (fun z1 z2 wr=>∃(j:Nat),j≤4∧z1=.int .i64 j∧z2=.int .i64 (maxK M x j)∧W=wr) (fun z1 _ _=>4-(intOf z1).toNat)
    case atStart=>exact⟨0,by omega,rfl,rfl,rfl⟩
    case round =>
     obtain⟨j,hj,rfl,rfl,rfl⟩:=hrel;by_cases hj4:j<4
     ·have hk:=HCI.out.kid hj4;have i2:(j:Int)<4:=by omega
      have i3:(0:Int)≤(j:Int):=by omega
      obtain⟨K_,hK_⟩:∃K_,K_=maxK M x j:=⟨_,rfl⟩;rw[←hK_];have HK_:=Hh hK_;have t2:decide ((j:Int)<4)=true:=decide_eq_true i2;clear hK_;go_wp2_with fail;go_roundw
      case rel=>exact⟨j+1,by omega,by go_num,by rw[HK_.out];rfl,trivial⟩
      case measure=>simp[intOf];omega
     ·have hj5:j=4:=by omega
      subst hj5;go_wp2_with fail;go_roundw
      case rel=>exact⟨i+1,_,by omega,by go_num,rfl,by rw[HMT.out,if_pos HO.out,zqI],trivial⟩
      case measure=>simp[intOf];omega
   ·have t1:(x.lv==1)=false:=beq_eq_false_iff_ne.2 h1;go_wp2_with fail;refine wp_loop_rounds 1 ?_;rw[rounds_succ];go_wp2_with fail;go_roundw
    case rel=>exact⟨i+1,_,by omega,by go_num,rfl,by rw[HMT.out,if_neg h1],trivial⟩
    case measure=>simp[intOf];omega
  ·have e:i=n:=by omega
   subst e;have HMQ:=Hh (show M=zbT q by rw[hM,List.take_of_length_le (by rw[HL.out];omega)]);clear hM;go_wp2_with fail;go_ret;exact⟨by rw[←HMQ.out];rfl,HB.out⟩
end Go.Proofs.YtbabbmdpgpcgjaaGreatDoor

namespace Go.Proofs.YtbabbmdpgpcgjaaGreatDoor
theorem zjt {P:Program}{md:Region.Mode}{ops:Array Oper}{Q:Exit→Act→World→Prop}{S:World→Prop}{T:Type}(rank:T→Nat)(mask:T→Array Bool)(left:T→Nat)(inv:T→Act→World→Prop)
  (h:∀s,(∀s',rank s'<rank s→∀a w,inv s' a w→wpAnyH P md ops Q S (left s') (mask s') a w)→∀a w,inv s a w→wpAnyH P md ops Q S (left s) (mask s) a w) :
  ∀(s:T) (a:Act) (w:World),inv s a w→wpAnyH P md ops Q S (left s) (mask s) a w:=by
 have key:∀(n:Nat) (s:T),rank s≤n→∀(a:Act) (w:World),inv s a w→wpAnyH P md ops Q S (left s) (mask s) a w:=by
  intro n
  induction n with
  | zero=>exact fun s hs=>h s (fun s' hs'=>by omega)
  | succ n ih=>exact fun s hs=>h s (fun s' hs'=>ih s' (by omega))
 exact fun s=>key (rank s) s (Nat.le_refl _)
theorem zhS {P:Program}{md:Region.Mode}{ops:Array Oper}{Q:Exit→Act→World→Prop}{S:World→Prop}{T:Type}(rank:T→Nat)(mask:T→Array Bool)(left:T→Nat)(inv:T→Act→World→Prop)
  (h:∀s,(∀s' k m,rank s'<rank s→k=left s'→m=mask s'→∀a w,inv s' a w→wpAnyH P md ops Q S k m a w)→∀a w,inv s a w→wpAnyH P md ops Q S (left s) (mask s) a w) :
  ∀(s:T) (k:Nat) (m:Array Bool),k=left s→m=mask s→∀(a:Act) (w:World),inv s a w→wpAnyH P md ops Q S k m a w:=by
 intro s k m hk hm a w hi;subst hk hm;exact zjt rank mask left inv (fun s ih=>h s (fun s' k m hr hk hm a w hi=>by subst hk hm;exact ih s' hr a w hi)) s a w hi
end Go.Proofs.YtbabbmdpgpcgjaaGreatDoor

namespace Go.Proofs.YtbabbmdpgpcgjaaGreatDoor
open Go.RowKit Nds
structure Al (w W:World)(L:List (Option Addr × Nat × List Nd))(M:List (Nat × Value)):Prop where
 sn:Sn w W L
 bx:∀t∈M,W.heap[t.1]?=some (.cells #[t.2] 27)
theorem Al.start (w:World):Al w w [] []:=⟨Sn.start w,by simp⟩
theorem Al.step {w W W':World}{L:List (Option Addr × Nat × List Nd)}{M:List (Nat × Value)}(s:Al w W L M)(b:Below W.heap.size W W'):Al w W' L M :=
 ⟨s.sn.step b,fun t ht=>(b.block t.1 (zxI (s.bx t ht))).trans (s.bx t ht)⟩
theorem Al.alloc {w W:World}{L:List (Option Addr × Nat × List Nd)}{M:List (Nat × Value)}(s:Al w W L M)(o:Obj):Al w (W.alloc o) L M:=s.step ((Below.refl _ W).alloc (Nat.le_refl _) o)
theorem Al.addN {w W:World}{L:List (Option Addr × Nat × List Nd)}{M:List (Nat × Value)}(s:Al w W L M){A:Option Addr}{c:Nat}{l:List Nd}(h:Ns W A c l):Al w W ((A,c,l) :: L) M:=⟨s.sn.add h,s.bx⟩
theorem Al.addB {w W:World}{L:List (Option Addr × Nat × List Nd)}{M:List (Nat × Value)}(s:Al w W L M)(v:Value):Al w (W.alloc (.cells #[v] 27)) L ((W.heap.size,v) :: M) :=
 ⟨(s.alloc _).sn,fun t ht=>by
  rcases List.mem_cons.1 ht with rfl|ht
  ·exact heap_alloc_new W _
  ·exact(s.alloc _).bx t ht⟩
theorem Al.getN {w W:World}{L:List (Option Addr × Nat × List Nd)}{M:List (Nat × Value)}(s:Al w W L M){A:Option Addr}{c:Nat}{l:List Nd}(h:(A,c,l)∈L):Ns W A c l:=s.sn.get h
theorem Al.getB {w W:World}{L:List (Option Addr × Nat × List Nd)}{M:List (Nat × Value)}(s:Al w W L M){g:Nat}{v:Value}(h:(g,v)∈M):W.cell? ⟨g,0,none⟩=some v:=ztC (s.bx _ h)
end Go.Proofs.YtbabbmdpgpcgjaaGreatDoor

namespace Go.Proofs.YtbabbmdpgpcgjaaGreatDoor
open Nds
theorem zdI:∀(t:Tr) (n:Nat),wfT (n:Int) t→t≠.e→1≤zaV t
 | .e,_,_,h=>absurd rfl h
 | .s k,_,_,_=>Nat.le_refl 1
 | .n v a b c d,n,h,_=>by
  have hv:=h.1;obtain⟨m,rfl,hv2,ha,hb,hc,hd,_⟩:=wf_n h;obtain⟨i,hi,hne⟩:=znd h;show 1≤zaV a+zaV b+zaV c+zaV d
  match i,hi with
  | 0,_=>have:=zdI a m ha hne;omega
  | 1,_=>have:=zdI b m hb hne;omega
  | 2,_=>have:=zdI c m hc hne;omega
  | 3,_=>have:=zdI d m hd hne;omega
theorem zxJ (out:List Nd)(x:Nd):(add out x).1.length≤out.length+1:=by
 unfold add;split
 ·simp
 ·exact Nat.le_succ _
theorem zhj:∀(t:Tr) (n:Nat) (out:List Nd),wfT (n:Int) t→(enc t out).1.length≤out.length+n*zaV t
 | .e,n,out,_=>Nat.le_add_right _ _
 | .s k,n,out,_=>Nat.le_add_right _ _
 | .n v a b c d,n,out,h=>by
  have hp:1≤zaV a+zaV b+zaV c+zaV d:=zdI (.n v a b c d) n h (by simp);obtain⟨m,rfl,hv2,ha,hb,hc,hd,_⟩:=wf_n h;have h0:=zhj a m out ha;have h1:=zhj b m (outK (Tr.n v a b c d).q out 1) hb;have h2:=zhj c m (outK (Tr.n v a b c d).q out 2) hc;have h3:=zhj d m (outK (Tr.n v a b c d).q out 3) hd;have h4:=zxJ (outK (Tr.n v a b c d).q out 4) (topN (Tr.n v a b c d).q out v);have e1:(outK (Tr.n v a b c d).q out 1).length=(enc a out).1.length:=rfl;have e2:(outK (Tr.n v a b c d).q out 2).length=(enc b (outK (Tr.n v a b c d).q out 1)).1.length:=rfl;have e3:(outK (Tr.n v a b c d).q out 3).length=(enc c (outK (Tr.n v a b c d).q out 2)).1.length:=rfl;have e4:(outK (Tr.n v a b c d).q out 4).length=(enc d (outK (Tr.n v a b c d).q out 3)).1.length:=rfl;rw[zog];show(add (outK (Tr.n v a b c d).q out 4) (topN (Tr.n v a b c d).q out v)).1.length≤out.length+(m+1)*(zaV a+zaV b+zaV c+zaV d);rw[Nat.add_mul,Nat.one_mul,Nat.mul_add,Nat.mul_add,Nat.mul_add];omega
theorem zaW.lenF {X:List Cl}{out:List Nd}(h:zaW (zaR X) out):zaV (Nds.den out out.length)=(zaR X).length∧out.length≤1329*(zaR X).length:=by
 have h1:=zqD h.good.1;rw[h.cells (zdH X) fun c hc=>((zbx X).2.2 c hc).1] at h1;refine⟨h1.symm,?_⟩;obtain⟨t,n,w1,w2,w3,rfl,w5⟩:=h;by_cases he:t=.e
 ·subst he;exact Nat.zero_le _
 ·obtain⟨_,_,hd⟩:=zni w1 he w2;rw[hd] at h1;have h2:=zhj t n [] w1;rw[h1];have hn:n≤1329:=by
   cases t with
   | e=>exact absurd rfl he
   | s k=>exact absurd rfl (w2 k)
   | n v a b c d =>
    have:=w1.1;have:=w1.2.2.1;omega
  have h3:=Nat.mul_le_mul_right (zaV t) hn;rw[List.length_nil,Nat.zero_add] at h2;exact Nat.le_trans h2 h3
end Go.Proofs.YtbabbmdpgpcgjaaGreatDoor
