import Derived.Test.YtcippfaljoagaaaGreatDoorGGdJp

set_option linter.unusedVariables false
set_option linter.unusedSimpArgs false
set_option maxRecDepth 100000
set_option maxHeartbeats 6400000
namespace Go.Proofs.YtcippfaljoagaaaGreatDoor
open Go.RowKit Num Nds
structure Rb (w:World)(A:Option Addr)(n c:Nat)(q:List Nd)(g6:Nat)(u:Xb)(X Y V H:Int)(W:World):Prop where
 o:Oo w A n c q W
 ub:W.heap[g6]?=some u.obj
 r:u.R W X Y V H
structure Rf (W8:World)(M:Int→Int→Int)(u:Xb)(wide k:Nat)(a:Option Addr)(c:Nat)(W:World):Prop where
 bb:Below W8.heap.size W8 W
 gk:W.heap[W8.heap.size]?=some (.cells #[.bool u.x.s,.slice u.x.a u.x.xs.length u.x.c,.bool u.y.s,.slice u.y.a u.y.xs.length u.y.c,.slice a k c] 51)
 own:W.ownsRow (W8.heap.size+1) 9 1 (.slice a k c) k ((zeW M wide k).map strV)
section
variable {W8 W W':World} {M:Int→Int→Int} {u:Xb} {wide k:Nat} {a:Option Addr} {c:Nat}
end
section
variable {w:World} {A:Option Addr} {n c:Nat} {q:List Nd} {g6:Nat} {u:Xb} {X Y V H:Int} {W8:World} {M:Int→Int→Int} {wide k:Nat} {a:Option Addr} {cc gr i:Nat} {W W':World}
end
def zee (u:Gr)(m:Nat):Prop:=u.L.length≤m∧u.x.xs.length≤50∧u.y.xs.length≤50∧∀i,i<u.L.length→(tat u.L i).length≤m
theorem zjS {r:List UInt8}{s:ByteArray}(h:s=⟨r.toArray⟩):s.size=r.length:=by rw[h,zax]
theorem zeK (u:Gr)(m:Nat)(R:Bool)(hR:(R=false→zee u m)∧(R=true→¬ zee u m))(w:World)(h:u.U w)(hm:m≤1000) :
  Calls Tryz.prog 29 #[u.val,.int .i64 (m:Int)] w fun e w'=>e=.returned (.bool R)∧Below w.heap.size w w':=by
 have HB:=Hh (GrB.start h);have hcap:=h.t.cap;obtain⟨c0,c1,c2,c3,c4⟩:=Gr.cells HB.out.k;dsimp only[Gr.obj] at c0 c1 c2 c3 c4;clear h;have ht:∀(p:Prop),p→(p→¬ zee u m)→R=true:=fun p h1 h2=>by
  cases R with
  | true=>rfl
  | false=>exact absurd (hR.1 rfl) (h2 h1)
 have HT:=Hh ht;clear ht;by_cases t1:m<u.L.length
 ·obtain rfl:=HT.out _ t1 (fun h1 h2=>by have:=h2.1;omega);have e1:decide ((u.L.length:Int)>(m:Int))=true:=decide_eq_true (by omega);go_enter Tryz.func29,Tryz.ntmps29;go_wp2_with fail;go_ret;exact⟨rfl,HB.out.b⟩
 have e1:decide ((u.L.length:Int)>(m:Int))=false:=decide_eq_false (by omega);by_cases t2:50<u.x.xs.length
 ·obtain rfl:=HT.out _ t2 (fun h1 h2=>by have:=h2.2.1;omega);have e2:decide ((u.x.xs.length:Int)>50)=true:=decide_eq_true (by omega);go_enter Tryz.func29,Tryz.ntmps29;go_wp2_with fail;go_ret;exact⟨rfl,HB.out.b⟩
 have e2:decide ((u.x.xs.length:Int)>50)=false:=decide_eq_false (by omega);by_cases t3:50<u.y.xs.length
 ·obtain rfl:=HT.out _ t3 (fun h1 h2=>by have:=h2.2.2.1;omega);have e3:decide ((u.y.xs.length:Int)>50)=true:=decide_eq_true (by omega);go_enter Tryz.func29,Tryz.ntmps29;go_wp2_with fail;go_ret;exact⟨rfl,HB.out.b⟩
 have e3:decide ((u.y.xs.length:Int)>50)=false:=decide_eq_false (by omega);have T3:=Hh (show u.x.xs.length≤50∧u.y.xs.length≤50 by omega);have hl9:u.L.length≤m:=by omega
 clear t1 t2 t3;go_enter Tryz.func29,Tryz.ntmps29;go_wp2_with fail;go_loopw [5] (fun z1 wr=>∃(k:Nat),z1=.int .i64 k∧k≤u.L.length∧(∀i,i<k→(tat u.L i).length≤m)∧GrB w u wr) (fun z1 _=>u.L.length-(intOf z1).toNat)
 case atStart=>exact⟨0,rfl,Nat.zero_le _,fun i hi=>by omega,HB.out⟩
 case round =>
   obtain⟨k,rfl,hk,hall,hb⟩:=hrel;clear HB c0 c1 c2 c3 c4;have HB:=Hh hb;obtain⟨c0,c1,c2,c3,c4⟩:=Gr.cells HB.out.k;have kw:IntKind.i64.wrap ((k:Int)+1)=(k:Int)+1:=IntWalk.i64_in _ (by omega);have HAL:=Hh hall;clear hall;by_cases hlt:k<u.L.length
   ·
    -- a row
    obtain⟨b2,o2,hA2,-,hcc⟩:=hb.u.t.at_ (by omega)
    rw[hA2] at c4;have s0:=hcc k hlt;unfold strV at s0;obtain⟨s,hs⟩:∃s:ByteArray,s=⟨(tat u.L k).toArray⟩:=⟨_,rfl⟩;have hs2:=zjS hs;rw[←hs] at s0;have j0:(0:Int)≤(k:Int):=by omega
    have j1:(k:Int)<(u.L.length:Int):=by omega
    have j3:decide ((k:Int)<(u.L.length:Int))=true:=decide_eq_true j1;have HLT:=Hh hlt;have HS2:=Hh hs2;clear hcc hs hb hlt;by_cases hg:s.size≤m
    ·have u1:decide ((s.size:Int)>(m:Int))=false:=decide_eq_false (by omega);have u2:decide (m<s.size)=false:=decide_eq_false (by omega);have u3:(m<s.size)=False:=eq_false (by omega);have HK:=Hh (show ∀i,i<k+1→(tat u.L i).length≤m from fun i hi=>by
      rcases Nat.lt_or_ge i k with h3|h3
      ·exact HAL.out i h3
      ·rw[show i=k by omega,←HS2.out];exact hg)
     clear hg hs2;go_wp2_with fail;go_roundw
     case rel=>exact⟨k+1,by go_num,HLT.out,HK.out,HB.out⟩
     case measure=>have:=HLT.out;simp[intOf];omega
    ·obtain rfl:=HT.out _ hg (fun h1 h2=>h1 (by rw[HS2.out];exact h2.2.2.2 k HLT.out));have u1:decide ((s.size:Int)>(m:Int))=true:=decide_eq_true (by omega);have u2:decide (m<s.size)=true:=decide_eq_true (by omega);have u3:(m<s.size)=True:=eq_true (by omega);clear hg hs2;go_wp2_with fail;go_ret;exact⟨rfl,HB.out.b⟩
   ·have e:k=u.L.length:=by omega
    have j3:decide ((k:Int)<(u.L.length:Int))=false:=decide_eq_false (by omega);have j5:decide (k<u.L.length)=false:=decide_eq_false hlt;have j6:(k<u.L.length)=False:=eq_false hlt;clear hb;have hR0:R=false:=by
     cases R with
     | false=>rfl
     | true=>exact absurd ⟨hl9,T3.out.1,T3.out.2,fun i hi=>HAL.out i (by omega)⟩ (hR.2 rfl)
    subst hR0;go_wp2_with fail;go_ret;exact⟨rfl,HB.out.b⟩
theorem zoC {L:List (List UInt8)}{k:Nat}(hk:k<L.length)(h:¬ (tat L k).length≤1000):zhW L=false:=by
 by_cases e:(tat L k).length=zcL L
 ·unfold zhW;rw[decide_eq_false (show ¬ zcL L≤1000 by omega)];rfl
 ·exact zov hk e
theorem zqy {L:List (List UInt8)}(h:∀i,i<L.length→(tat L i).length=zcL L∧(tat L i).length≤1000):zhW L=decide (L.length≤1000):=by
 by_cases h9:L.length≤1000
 ·rw[decide_eq_true h9];refine zqw ?_ h9 fun i hi=>(h i hi).1;cases L with
  | nil=>exact Nat.zero_le _
  | cons r L=>exact(h 0 (by simp)).2
 ·rw[decide_eq_false h9];unfold zhW;rw[decide_eq_false h9,Bool.and_false,Bool.false_and]
theorem zgh (u:Gr)(w:World)(h:u.U w)(hl9:u.L.length≤9223372036854775000)(hlx:u.x.xs.length≤60000)(hly:u.y.xs.length≤60000) :
  Calls Tryz.prog 30 #[u.val] w fun e w'=>e=.returned (.bool (zeQ u))∧Below w.heap.size w w':=by
 have HB:=Hh (GrB.start h);have hcap:=h.t.cap;obtain⟨c0,c1,c2,c3,c4⟩:=Gr.cells HB.out.k;dsimp only[Gr.obj] at c0 c1 c2 c3 c4;obtain⟨R,hR⟩:∃R,R=zeQ u:=⟨_,rfl⟩;rw[←hR];have HRR:=Hh hR;have q0:True:=trivial;clear h hR;go_enter Tryz.func30,Tryz.ntmps30;go_wp2_with fail;go_loopw [3] (fun z1 wr=>∃(k:Nat),z1=.int .i64 k∧k≤u.L.length∧(∀i,i<k→(tat u.L i).length=zcL u.L∧(tat u.L i).length≤1000)∧GrB w u wr) (fun z1 _=>u.L.length-(intOf z1).toNat)
 case atStart=>exact⟨0,rfl,Nat.zero_le _,fun i hi=>by omega,HB.out⟩
 case round =>
   obtain⟨k,rfl,hk,hall,hb⟩:=hrel;clear HB c0 c1 c2 c3 c4;have HB:=Hh hb;obtain⟨c0,c1,c2,c3,c4⟩:=Gr.cells HB.out.k;have kw:IntKind.i64.wrap ((k:Int)+1)=(k:Int)+1:=IntWalk.i64_in _ (by omega);have HAL:=Hh hall;clear hall;by_cases hlt:k<u.L.length
   ·
    -- a row
    obtain⟨b2,o2,hA2,-,hcc⟩:=hb.u.t.at_ (by omega)
    rw[hA2] at c4;have s0:=hcc k hlt;unfold strV at s0;obtain⟨s,hs⟩:∃s:ByteArray,s=⟨(tat u.L k).toArray⟩:=⟨_,rfl⟩;have hs2:=zjS hs;rw[←hs] at s0;have j0:(0:Int)≤(k:Int):=by omega
    have j1:(k:Int)<(u.L.length:Int):=by omega
    have j3:decide ((k:Int)<(u.L.length:Int))=true:=decide_eq_true j1;have HLT:=Hh hlt;have HS2:=Hh hs2;have hw0:=hcc 0 (by omega);rw[Nat.add_zero] at hw0;unfold strV at hw0;obtain⟨t,ht⟩:∃t:ByteArray,t=⟨(tat u.L 0).toArray⟩:=⟨_,rfl⟩;have ht2:t.size=zcL u.L:=zjS ht;rw[←ht] at hw0;have j9:(0:Int)<(u.L.length:Int):=by omega
    clear hcc hs hb hlt ht;by_cases he:s.size=t.size
    ·have u1:((s.size:Int)!=(t.size:Int))=false:=by rw[he];exact bne_self_eq_false _
     by_cases hg:s.size≤1000
     ·have u2:decide ((s.size:Int)>1000)=false:=decide_eq_false (by omega);have HK:=Hh (show ∀i,i<k+1→(tat u.L i).length=zcL u.L∧(tat u.L i).length≤1000 from fun i hi=>by
       rcases Nat.lt_or_ge i k with h3|h3
       ·exact HAL.out i h3
       ·rw[show i=k by omega,←HS2.out];exact⟨he.trans ht2,hg⟩)
      clear hg hs2 ht2 he;go_wp2_with fail;go_quiet (fail);go_wp2_with fail;go_roundw
      case rel=>exact⟨k+1,by go_num,HLT.out,HK.out,HB.out.next (zaa (Below.refl _ _) _)⟩
      case measure=>have:=HLT.out;simp[intOf];omega
     ·have u2:decide ((s.size:Int)>1000)=true:=decide_eq_true (by omega);have hr:R=false:=by
       rw[HRR.out];unfold zeQ;rw[zoC HLT.out (by rw[←HS2.out];exact hg),Bool.and_false,Bool.and_false]
      subst hr;clear hg hs2 ht2 he;go_wp2_with fail;go_quiet (fail);go_wp2_with fail;go_ret;exact⟨rfl,zaa HB.out.b _⟩
    ·have u1:((s.size:Int)!=(t.size:Int))=true:=by rw[bne_iff_ne];omega
     have hr:R=false:=by
      rw[HRR.out];unfold zeQ;rw[zov HLT.out (by rw[←HS2.out,←ht2];exact he),Bool.and_false,Bool.and_false]
     subst hr;clear hs2 ht2 he;go_wp2_with fail;go_quiet (fail);go_wp2_with fail;go_ret;exact⟨rfl,zaa HB.out.b _⟩
   ·have e:k=u.L.length:=by omega
    have j3:decide ((k:Int)<(u.L.length:Int))=false:=decide_eq_false (by omega);have j5:decide (k<u.L.length)=false:=decide_eq_false hlt;have j6:(k<u.L.length)=False:=eq_false hlt;have hrow:=zqy (L:=u.L) fun i hi=>HAL.out i (by omega);have hr:R=(zbG u.x.s u.x.xs&&(zbG u.y.s u.y.xs&&decide (u.L.length≤1000))):=by
     rw[HRR.out];unfold zeQ;rw[hrow]
    clear hb hrow e;cases hx:zbG u.x.s u.x.xs with
    | false =>
     rw[hx,Bool.false_and] at hr;have HRx:=Hh hx;subst hr;clear hx;go_wp2_with (first
     | (have _t:=q0;go_at_call 66;clear _t;go_loud (refine(zaB u.x.s u.x.a u.x.c u.x.xs _ HB.out.u.x hlx).mono ?_;rintro e w2 ⟨rfl,b_⟩;rw[HRx.out];have HB:=Hh (HB.out.next b_);clear c0 c1 c2 c3 c4 b_;obtain⟨c0,c1,c2,c3,c4⟩:=Gr.cells HB.out.k;have q1:=q0;clear q0)))
     go_ret;exact⟨rfl,HB.out.b⟩
    | true =>
     rw[hx,Bool.true_and] at hr;have HRx:=Hh hx;clear hx;cases hy:zbG u.y.s u.y.xs with
     | false =>
      rw[hy,Bool.false_and] at hr;have HRy:=Hh hy;subst hr;clear hy;go_wp2_with (first
     | (have _t:=q0;go_at_call 66;clear _t;go_loud (refine(zaB u.x.s u.x.a u.x.c u.x.xs _ HB.out.u.x hlx).mono ?_;rintro e w2 ⟨rfl,b_⟩;rw[HRx.out];have HB:=Hh (HB.out.next b_);clear c0 c1 c2 c3 c4 b_;obtain⟨c0,c1,c2,c3,c4⟩:=Gr.cells HB.out.k;have q1:=q0;clear q0))
     | (have _t:=q1;go_at_call 66;clear _t;go_loud (refine(zaB u.y.s u.y.a u.y.c u.y.xs _ HB.out.u.y hly).mono ?_;rintro e w2 ⟨rfl,b_⟩;rw[HRy.out];have HB:=Hh (HB.out.next b_);clear c0 c1 c2 c3 c4 b_;obtain⟨c0,c1,c2,c3,c4⟩:=Gr.cells HB.out.k;have q2:=q1;clear q1)))
      go_ret;exact⟨rfl,HB.out.b⟩
     | true =>
      rw[hy,Bool.true_and] at hr;have HRy:=Hh hy;clear hy;have hd2:R=decide ((u.L.length:Int)≤1000):=by rw[hr,decide_eq_decide];omega
      subst hd2;clear hr;go_wp2_with (first
     | (have _t:=q0;go_at_call 66;clear _t;go_loud (refine(zaB u.x.s u.x.a u.x.c u.x.xs _ HB.out.u.x hlx).mono ?_;rintro e w2 ⟨rfl,b_⟩;rw[HRx.out];have HB:=Hh (HB.out.next b_);clear c0 c1 c2 c3 c4 b_;obtain⟨c0,c1,c2,c3,c4⟩:=Gr.cells HB.out.k;have q1:=q0;clear q0))
     | (have _t:=q1;go_at_call 66;clear _t;go_loud (refine(zaB u.y.s u.y.a u.y.c u.y.xs _ HB.out.u.y hly).mono ?_;rintro e w2 ⟨rfl,b_⟩;rw[HRy.out];have HB:=Hh (HB.out.next b_);clear c0 c1 c2 c3 c4 b_;obtain⟨c0,c1,c2,c3,c4⟩:=Gr.cells HB.out.k;have q2:=q1;clear q1)))
      go_ret;exact⟨rfl,HB.out.b⟩
structure Rc (w:World)(u:Gr)(X Y:Int)(v:Value)(N:List Cv)(W:World):Prop where
 b:Below w.heap.size w W
 k:W.heap[w.heap.size]?=some u.obj
 r0:u.R w X Y
 rl:RlO (w.heap.size+1) (fun _=>False) W v N
section
variable {w W W1:World} {u:Gr} {X Y:Int} {v:Value} {N:List Cv}
end
end Go.Proofs.YtcippfaljoagaaaGreatDoor

namespace Go.Proofs.YtcippfaljoagaaaGreatDoor.Digs
def dig (d:Nat):UInt8:=UInt8.ofNat (48+d)
theorem zhX {d:Nat}(h:d<10):(dig d).toNat=48+d:=by
 unfold dig;simp;omega
theorem zsA {d e:Nat}(h:d<10)(k:e<10)(he:dig d=dig e):d=e:=by
 have h1:=zhX h;have h2:=zhX k;rw[he] at h1;omega
def low:Nat→Nat→List UInt8
 | 0,_=>[]
 | k+1,n=>dig (n%10) :: low k (n / 10)
theorem zau:∀(k n:Nat),(low k n).length=k
 | 0,_=>rfl
 | k+1,n=>by simp[low,zau k]
theorem low_add:∀(j k n:Nat),low (j+k) n=low j n++low k (n / 10^j)
 | 0,k,n=>by simp[low]
 | j+1,k,n=>by
  rw[show j+1+k=(j+k)+1 by omega];simp only[low,List.cons_append];rw[low_add j k (n / 10),Nat.div_div_eq_div_mul,Nat.pow_succ,Nat.mul_comm 10]
theorem zfu (k n:Nat):low (k+1) n=low k n++[dig (n / 10^k%10)]:=by
 rw[low_add k 1 n];rfl
theorem zoD:∀(k n m:Nat),low k (n+10^k*m)=low k n
 | 0,_,_=>rfl
 | k+1,n,m=>by
  simp only[low];have e:n+10^(k+1)*m=n+10*(10^k*m):=by rw[Nat.pow_succ,Nat.mul_comm (10^k) 10,Nat.mul_assoc]
  rw[e,Nat.add_mul_mod_self_left,Nat.add_mul_div_left _ _ (by decide),zoD k]
def size (n:Nat):Nat:=if n=0 then 0 else size (n / 10)+1
theorem zbW:size 0=0:=by unfold size;simp
theorem zef {n:Nat}(h:0<n):size n=size (n / 10)+1:=by
 rw[size,if_neg (by omega)]
theorem zjT (n:Nat):n<10^size n:=by
 induction n using Nat.strongRecOn with
 | ind n ih =>
  rcases Nat.eq_zero_or_pos n with rfl|hn
  ·rw[zbW];decide
  ·rw[zef hn,Nat.pow_succ];have:=ih (n / 10) (by omega);omega
theorem zoE {n:Nat}(h:0<n):10^(size n-1)≤n:=by
 induction n using Nat.strongRecOn with
 | ind n ih =>
  rw[zef h,Nat.add_sub_cancel];rcases Nat.eq_zero_or_pos (n / 10) with h0|h0
  ·rw[h0,zbW];exact h
  ·have h1:=ih (n / 10) (by omega) h0;have h2:=zef h0;have h3:10^size (n / 10)=10^(size (n / 10)-1)*10:=by rw[←Nat.pow_succ];congr 1;omega
   omega
theorem zgi {n k:Nat}(h:n<10^k):size n≤k:=by
 rcases Nat.eq_zero_or_pos n with rfl|hn
 ·rw[zbW];exact Nat.zero_le _
 ·have h1:=zoE hn;rcases Nat.lt_or_ge k (size n) with hk|hk
  ·have h2:10^k≤10^(size n-1):=Nat.pow_le_pow_right (by decide) (by omega);omega
  ·exact hk
theorem zoF {n k:Nat}(h:n<10^(k+1))(h2:10^k≤n):size n=k+1:=by
 have h3:=zgi h;have h4:=zjT n;rcases Nat.lt_or_ge k (size n) with hk|hk
 ·omega
 ·have:10^size n≤10^k:=Nat.pow_le_pow_right (by decide) hk;omega
def digs (n:Nat):List UInt8:=if n=0 then [48] else (low (size n) n).reverse
def text (s:Bool)(n:Nat):List UInt8:=if s then 45 :: digs n else digs n
theorem zlh:∀k,low k 0=List.replicate k 48
 | 0=>rfl
 | k+1=>by simp only[low,Nat.zero_mod,Nat.zero_div,zlh k,List.replicate_succ];rfl
theorem zqz {n k:Nat}(h:n<10^k):low k n=low (size n) n++List.replicate (k-size n) 48:=by
 have h1:=zgi h;obtain⟨j,hj⟩:∃j,k=size n+j:=⟨k-size n,by omega⟩;rw[hj,low_add,Nat.div_eq_of_lt (zjT n),zlh,Nat.add_sub_cancel_left]
theorem zqA {n:Nat}(h:0<n):∃r d,low (size n) n=r++[dig d]∧0<d∧d<10:=by
 have h1:=zef h;have h2:=zoE h;have h3:=zjT n;obtain⟨k,hk⟩:∃k,size n=k+1:=⟨_,h1⟩;rw[hk,zfu];refine⟨_,_,rfl,?_,Nat.mod_lt _ (by decide)⟩;rw[hk] at h2 h3;rw[Nat.add_sub_cancel] at h2;rw[Nat.pow_succ] at h3;have h4:n / 10^k<10:=by rw[Nat.div_lt_iff_lt_mul (Nat.pow_pos (by decide))];omega
 have h5:1≤n / 10^k:=(Nat.le_div_iff_mul_le (Nat.pow_pos (by decide))).2 (by omega);omega
theorem zgj {n:Nat}(h:0<n):(digs n).length=size n:=by
 unfold digs;rw[if_neg (by omega)];simp[zau]
theorem digs_length_le {n k:Nat}(h:n<10^k)(hk:0<k):(digs n).length≤k:=by
 rcases Nat.eq_zero_or_pos n with rfl|hn
 ·unfold digs;exact hk
 ·rw[zgj hn];exact zgi h
end Go.Proofs.YtcippfaljoagaaaGreatDoor.Digs
