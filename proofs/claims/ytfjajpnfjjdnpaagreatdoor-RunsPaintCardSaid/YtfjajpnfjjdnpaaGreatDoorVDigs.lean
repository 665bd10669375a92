import Derived.Test.YtfjajpnfjjdnpaaGreatDoorVGdJp

set_option linter.unusedVariables false
set_option linter.unusedSimpArgs false
set_option maxRecDepth 100000
set_option maxHeartbeats 6400000
namespace Go.Proofs.YtfjajpnfjjdnpaaGreatDoor
open Go.RowKit Num Nds
structure Rb (w:World)(A:Option Addr)(n c:Nat)(q:List Nd)(g6:Nat)(u:Xb)(X Y V H:Int)(W:World):Prop where
 o:Oo w A n c q W
 ub:W.heap[g6]?=some u.obj
 r:u.R W X Y V H
structure Rf (W8:World)(M:Int→Int→Int)(u:Xb)(wide k:Nat)(a:Option Addr)(c:Nat)(W:World):Prop where
 bb:Below W8.heap.size W8 W
 gk:W.heap[W8.heap.size]?=some (.cells #[.bool u.x.s,.slice u.x.a u.x.xs.length u.x.c,.bool u.y.s,.slice u.y.a u.y.xs.length u.y.c,.slice a k c] 51)
 own:W.ownsRow (W8.heap.size+1) 9 1 (.slice a k c) k ((zeZ M wide k).map strV)
theorem zcf {n:Nat}(h:n≤1000) : -p2 1330≤(n:Int)∧(n:Int)≤p2 1330:=by
 have h1:=zbE (show 10≤1330 by omega);have h2:p2 10=1024:=rfl;omega
def zeh (u:Gr)(m:Nat):Prop:=u.L.length≤m∧u.x.xs.length≤50∧u.y.xs.length≤50∧∀i,i<u.L.length→(tat u.L i).length≤m
theorem zhW {r:List UInt8}{s:ByteArray}(h:s=⟨r.toArray⟩):s.size=r.length:=by rw[h,zaT]
theorem zeK (u:Gr)(m:Nat)(R:Bool)(hR:(R=false→zeh u m)∧(R=true→¬ zeh u m))(w:World)(h:u.U w)(hm:m≤1000) :
  Calls Tryz.prog 31 #[u.val,.int .i64 (m:Int)] w fun e w'=>e=.returned (.bool R)∧Below w.heap.size w w':=by
 have HB:=Hh (GrB.start h);have hcap:=h.t.cap;obtain⟨c0,c1,c2,c3,c4⟩:=Gr.cells HB.out.k;dsimp only[Gr.obj] at c0 c1 c2 c3 c4;clear h;have ht:∀(p:Prop),p→(p→¬ zeh u m)→R=true:=fun p h1 h2=>by
  cases R with
  | true=>rfl
  | false=>exact absurd (hR.1 rfl) (h2 h1)
 have HT:=Hh ht;clear ht;by_cases t1:m<u.L.length
 ·obtain rfl:=HT.out _ t1 (fun h1 h2=>by have:=h2.1;omega);have e1:decide ((u.L.length:Int)>(m:Int))=true:=decide_eq_true (by omega);go_enter Tryz.func31,Tryz.ntmps31;go_wp2_with fail;go_ret;exact⟨rfl,HB.out.b⟩
 have e1:decide ((u.L.length:Int)>(m:Int))=false:=decide_eq_false (by omega);by_cases t2:50<u.x.xs.length
 ·obtain rfl:=HT.out _ t2 (fun h1 h2=>by have:=h2.2.1;omega);have e2:decide ((u.x.xs.length:Int)>50)=true:=decide_eq_true (by omega);go_enter Tryz.func31,Tryz.ntmps31;go_wp2_with fail;go_ret;exact⟨rfl,HB.out.b⟩
 have e2:decide ((u.x.xs.length:Int)>50)=false:=decide_eq_false (by omega);by_cases t3:50<u.y.xs.length
 ·obtain rfl:=HT.out _ t3 (fun h1 h2=>by have:=h2.2.2.1;omega);have e3:decide ((u.y.xs.length:Int)>50)=true:=decide_eq_true (by omega);go_enter Tryz.func31,Tryz.ntmps31;go_wp2_with fail;go_ret;exact⟨rfl,HB.out.b⟩
 have e3:decide ((u.y.xs.length:Int)>50)=false:=decide_eq_false (by omega);have T3:=Hh (show u.x.xs.length≤50∧u.y.xs.length≤50 by omega);have hl9:u.L.length≤m:=by omega
 clear t1 t2 t3;go_enter Tryz.func31,Tryz.ntmps31;go_wp2_with fail;go_loopw [5] (fun z1 wr=>∃(k:Nat),z1=.int .i64 k∧k≤u.L.length∧(∀i,i<k→(tat u.L i).length≤m)∧GrB w u wr) (fun z1 _=>u.L.length-(intOf z1).toNat)
 case atStart=>exact⟨0,rfl,Nat.zero_le _,fun i hi=>by omega,HB.out⟩
 case round =>
   obtain⟨k,rfl,hk,hall,hb⟩:=hrel;clear HB c0 c1 c2 c3 c4;have HB:=Hh hb;obtain⟨c0,c1,c2,c3,c4⟩:=Gr.cells HB.out.k;have kw:IntKind.i64.wrap ((k:Int)+1)=(k:Int)+1:=IntWalk.i64_in _ (by omega);have HAL:=Hh hall;clear hall;by_cases hlt:k<u.L.length
   ·
    -- a row
    obtain⟨b2,o2,hA2,-,hcc⟩:=hb.u.t.at_ (by omega)
    rw[hA2] at c4;have s0:=hcc k hlt;unfold strV at s0;obtain⟨s,hs⟩:∃s:ByteArray,s=⟨(tat u.L k).toArray⟩:=⟨_,rfl⟩;have hs2:=zhW hs;rw[←hs] at s0;have j0:(0:Int)≤(k:Int):=by omega
    have j1:(k:Int)<(u.L.length:Int):=by omega
    have j3:decide ((k:Int)<(u.L.length:Int))=true:=decide_eq_true j1;have HLT:=Hh hlt;have HS2:=Hh hs2;clear hcc hs hb hlt;by_cases hg:s.size≤m
    ·have u1:decide ((s.size:Int)>(m:Int))=false:=decide_eq_false (by omega);have u2:decide (m<s.size)=false:=decide_eq_false (by omega);have u3:(m<s.size)=False:=eq_false (by omega);have HK:=Hh (show ∀i,i<k+1→(tat u.L i).length≤m from fun i hi=>by
      rcases Nat.lt_or_ge i k with h3|h3
      ·exact HAL.out i h3
      ·rw[show i=k by omega,←HS2.out];exact hg)
     clear hg hs2;go_wp2_with fail;go_roundw
     case rel=>exact⟨k+1,by go_num,HLT.out,HK.out,HB.out⟩
     case measure=>have:=HLT.out;simp[intOf];omega
    ·obtain rfl:=HT.out _ hg (fun h1 h2=>h1 (by rw[HS2.out];exact h2.2.2.2 k HLT.out));have u1:decide ((s.size:Int)>(m:Int))=true:=decide_eq_true (by omega);have u2:decide (m<s.size)=true:=decide_eq_true (by omega);have u3:(m<s.size)=True:=eq_true (by omega);clear hg hs2;go_wp2_with fail;go_ret;exact⟨rfl,HB.out.b⟩
   ·have e:k=u.L.length:=by omega
    have j3:decide ((k:Int)<(u.L.length:Int))=false:=decide_eq_false (by omega);have j5:decide (k<u.L.length)=false:=decide_eq_false hlt;have j6:(k<u.L.length)=False:=eq_false hlt;clear hb;have hR0:R=false:=by
     cases R with
     | false=>rfl
     | true=>exact absurd ⟨hl9,T3.out.1,T3.out.2,fun i hi=>HAL.out i (by omega)⟩ (hR.2 rfl)
    subst hR0;go_wp2_with fail;go_ret;exact⟨rfl,HB.out.b⟩
theorem zoV {L:List (List UInt8)}{k:Nat}(hk:k<L.length)(h:¬ (tat L k).length≤1000):zcX L=false:=by
 by_cases e:(tat L k).length=zbV L
 ·unfold zcX;rw[decide_eq_false (show ¬ zbV L≤1000 by omega)];rfl
 ·exact zoL hk e
theorem zqX {L:List (List UInt8)}(h:∀i,i<L.length→(tat L i).length=zbV L∧(tat L i).length≤1000):zcX L=decide (L.length≤1000):=by
 by_cases h9:L.length≤1000
 ·rw[decide_eq_true h9];refine zqV ?_ h9 fun i hi=>(h i hi).1;cases L with
  | nil=>exact Nat.zero_le _
  | cons r L=>exact(h 0 (by simp)).2
 ·rw[decide_eq_false h9];unfold zcX;rw[decide_eq_false h9,Bool.and_false,Bool.false_and]
theorem zgk (u:Gr)(w:World)(h:u.U w)(hl9:u.L.length≤9223372036854775000)(hlx:u.x.xs.length≤60000)(hly:u.y.xs.length≤60000) :
  Calls Tryz.prog 32 #[u.val] w fun e w'=>e=.returned (.bool (zcY u))∧Below w.heap.size w w':=by
 have HB:=Hh (GrB.start h);have hcap:=h.t.cap;obtain⟨c0,c1,c2,c3,c4⟩:=Gr.cells HB.out.k;dsimp only[Gr.obj] at c0 c1 c2 c3 c4;obtain⟨R,hR⟩:∃R,R=zcY u:=⟨_,rfl⟩;rw[←hR];have HRR:=Hh hR;have q0:True:=trivial;clear h hR;go_enter Tryz.func32,Tryz.ntmps32;go_wp2_with fail;go_loopw [3] (fun z1 wr=>∃(k:Nat),z1=.int .i64 k∧k≤u.L.length∧(∀i,i<k→(tat u.L i).length=zbV u.L∧(tat u.L i).length≤1000)∧GrB w u wr) (fun z1 _=>u.L.length-(intOf z1).toNat)
 case atStart=>exact⟨0,rfl,Nat.zero_le _,fun i hi=>by omega,HB.out⟩
 case round =>
   obtain⟨k,rfl,hk,hall,hb⟩:=hrel;clear HB c0 c1 c2 c3 c4;have HB:=Hh hb;obtain⟨c0,c1,c2,c3,c4⟩:=Gr.cells HB.out.k;have kw:IntKind.i64.wrap ((k:Int)+1)=(k:Int)+1:=IntWalk.i64_in _ (by omega);have HAL:=Hh hall;clear hall;by_cases hlt:k<u.L.length
   ·
    -- a row
    obtain⟨b2,o2,hA2,-,hcc⟩:=hb.u.t.at_ (by omega)
    rw[hA2] at c4;have s0:=hcc k hlt;unfold strV at s0;obtain⟨s,hs⟩:∃s:ByteArray,s=⟨(tat u.L k).toArray⟩:=⟨_,rfl⟩;have hs2:=zhW hs;rw[←hs] at s0;have j0:(0:Int)≤(k:Int):=by omega
    have j1:(k:Int)<(u.L.length:Int):=by omega
    have j3:decide ((k:Int)<(u.L.length:Int))=true:=decide_eq_true j1;have HLT:=Hh hlt;have HS2:=Hh hs2;have hw0:=hcc 0 (by omega);rw[Nat.add_zero] at hw0;unfold strV at hw0;obtain⟨t,ht⟩:∃t:ByteArray,t=⟨(tat u.L 0).toArray⟩:=⟨_,rfl⟩;have ht2:t.size=zbV u.L:=zhW ht;rw[←ht] at hw0;have j9:(0:Int)<(u.L.length:Int):=by omega
    clear hcc hs hb hlt ht;by_cases he:s.size=t.size
    ·have u1:((s.size:Int)!=(t.size:Int))=false:=by rw[he];exact bne_self_eq_false _
     by_cases hg:s.size≤1000
     ·have u2:decide ((s.size:Int)>1000)=false:=decide_eq_false (by omega);have HK:=Hh (show ∀i,i<k+1→(tat u.L i).length=zbV u.L∧(tat u.L i).length≤1000 from fun i hi=>by
       rcases Nat.lt_or_ge i k with h3|h3
       ·exact HAL.out i h3
       ·rw[show i=k by omega,←HS2.out];exact⟨he.trans ht2,hg⟩)
      clear hg hs2 ht2 he;go_wp2_with fail;go_quiet (fail);go_wp2_with fail;go_roundw
      case rel=>exact⟨k+1,by go_num,HLT.out,HK.out,HB.out.next (zaa (Below.refl _ _) _)⟩
      case measure=>have:=HLT.out;simp[intOf];omega
     ·have u2:decide ((s.size:Int)>1000)=true:=decide_eq_true (by omega);have hr:R=false:=by
       rw[HRR.out];unfold zcY;rw[zoV HLT.out (by rw[←HS2.out];exact hg),Bool.and_false,Bool.and_false]
      subst hr;clear hg hs2 ht2 he;go_wp2_with fail;go_quiet (fail);go_wp2_with fail;go_ret;exact⟨rfl,zaa HB.out.b _⟩
    ·have u1:((s.size:Int)!=(t.size:Int))=true:=by rw[bne_iff_ne];omega
     have hr:R=false:=by
      rw[HRR.out];unfold zcY;rw[zoL HLT.out (by rw[←HS2.out,←ht2];exact he),Bool.and_false,Bool.and_false]
     subst hr;clear hs2 ht2 he;go_wp2_with fail;go_quiet (fail);go_wp2_with fail;go_ret;exact⟨rfl,zaa HB.out.b _⟩
   ·have e:k=u.L.length:=by omega
    have j3:decide ((k:Int)<(u.L.length:Int))=false:=decide_eq_false (by omega);have j5:decide (k<u.L.length)=false:=decide_eq_false hlt;have j6:(k<u.L.length)=False:=eq_false hlt;have hrow:=zqX (L:=u.L) fun i hi=>HAL.out i (by omega);have hr:R=(zbs u.x.s u.x.xs&&(zbs u.y.s u.y.xs&&decide (u.L.length≤1000))):=by
     rw[HRR.out];unfold zcY;rw[hrow]
    clear hb hrow e;cases hx:zbs u.x.s u.x.xs with
    | false =>
     rw[hx,Bool.false_and] at hr;have HRx:=Hh hx;subst hr;clear hx;go_wp2_with (first
     | (have _t:=q0;go_at_call 77;clear _t;go_loud (refine(zaC u.x.s u.x.a u.x.c u.x.xs _ HB.out.u.x hlx).mono ?_;rintro e w2 ⟨rfl,b_⟩;rw[HRx.out];have HB:=Hh (HB.out.next b_);clear c0 c1 c2 c3 c4 b_;obtain⟨c0,c1,c2,c3,c4⟩:=Gr.cells HB.out.k;have q1:=q0;clear q0)))
     go_ret;exact⟨rfl,HB.out.b⟩
    | true =>
     rw[hx,Bool.true_and] at hr;have HRx:=Hh hx;clear hx;cases hy:zbs u.y.s u.y.xs with
     | false =>
      rw[hy,Bool.false_and] at hr;have HRy:=Hh hy;subst hr;clear hy;go_wp2_with (first
     | (have _t:=q0;go_at_call 77;clear _t;go_loud (refine(zaC u.x.s u.x.a u.x.c u.x.xs _ HB.out.u.x hlx).mono ?_;rintro e w2 ⟨rfl,b_⟩;rw[HRx.out];have HB:=Hh (HB.out.next b_);clear c0 c1 c2 c3 c4 b_;obtain⟨c0,c1,c2,c3,c4⟩:=Gr.cells HB.out.k;have q1:=q0;clear q0))
     | (have _t:=q1;go_at_call 77;clear _t;go_loud (refine(zaC u.y.s u.y.a u.y.c u.y.xs _ HB.out.u.y hly).mono ?_;rintro e w2 ⟨rfl,b_⟩;rw[HRy.out];have HB:=Hh (HB.out.next b_);clear c0 c1 c2 c3 c4 b_;obtain⟨c0,c1,c2,c3,c4⟩:=Gr.cells HB.out.k;have q2:=q1;clear q1)))
      go_ret;exact⟨rfl,HB.out.b⟩
     | true =>
      rw[hy,Bool.true_and] at hr;have HRy:=Hh hy;clear hy;have hd2:R=decide ((u.L.length:Int)≤1000):=by rw[hr,decide_eq_decide];omega
      subst hd2;clear hr;go_wp2_with (first
     | (have _t:=q0;go_at_call 77;clear _t;go_loud (refine(zaC u.x.s u.x.a u.x.c u.x.xs _ HB.out.u.x hlx).mono ?_;rintro e w2 ⟨rfl,b_⟩;rw[HRx.out];have HB:=Hh (HB.out.next b_);clear c0 c1 c2 c3 c4 b_;obtain⟨c0,c1,c2,c3,c4⟩:=Gr.cells HB.out.k;have q1:=q0;clear q0))
     | (have _t:=q1;go_at_call 77;clear _t;go_loud (refine(zaC u.y.s u.y.a u.y.c u.y.xs _ HB.out.u.y hly).mono ?_;rintro e w2 ⟨rfl,b_⟩;rw[HRy.out];have HB:=Hh (HB.out.next b_);clear c0 c1 c2 c3 c4 b_;obtain⟨c0,c1,c2,c3,c4⟩:=Gr.cells HB.out.k;have q2:=q1;clear q1)))
      go_ret;exact⟨rfl,HB.out.b⟩
theorem zlp {n:Int}{w w':World}{e:Ending}(h:zcW n w e w'):∃u:Bw,e=.returned u.val∧u.R w' n∧Below w.heap.size w w'∧FrU w.heap.size u.a:=by
 obtain⟨A,c,s,r,he,hu,hk,hv,hb,hf⟩:=h;exact⟨⟨s,A,c,r⟩,he,⟨hu,hk,hv⟩,hb,hf⟩
theorem zoW {W:World}{A:Option Addr}{base:Nat}{v:Value}{N:List Cv}(f:FrU W.heap.size A)(o:OwnC W base v N)(hb:base≤W.heap.size):∀a,A=some a→base≤a.block∧∀q,v.ownBlock=some q→a.block≠q:=fun a e=>by
 have h1:=f a e;exact⟨by omega,fun q hq=>by have:=(o.lt q hq).2;omega⟩
structure Rc (w:World)(u:Gr)(X Y:Int)(v:Value)(N:List Cv)(W:World):Prop where
 b:Below w.heap.size w W
 k:W.heap[w.heap.size]?=some u.obj
 r0:u.R w X Y
 rl:RlO (w.heap.size+1) (fun _=>False) W v N
section
variable {w W W1:World} {u:Gr} {X Y:Int} {v:Value} {N:List Cv}
theorem Rc.next (h:Rc w u X Y v N W)(k:Below W.heap.size W W1):Rc w u X Y v N W1:=⟨h.b.trans (k.mono h.b.size),(k.block _ (zag h.k)).trans h.k,h.r0,h.rl.next k⟩
theorem Rc.r (h:Rc w u X Y v N W):u.R W X Y:=h.r0.next h.b
theorem Rc.s (h:Rc w u X Y v N W){b o:Nat}(e:u.a=some ⟨b,o,none⟩){k:Nat}(hk:k<u.L.length){s:ByteArray}(hs:s=⟨(tat u.L k).toArray⟩) :
  W.cell? ⟨w.heap.size,0,none⟩=some (.bool u.x.s)∧W.cell? ⟨w.heap.size,1,none⟩=some (.slice u.x.a u.x.xs.length u.x.c)∧W.cell? ⟨w.heap.size,2,none⟩=some (.bool u.y.s)∧W.cell? ⟨w.heap.size,3,none⟩=some (.slice u.y.a u.y.xs.length u.y.c)∧W.cell? ⟨w.heap.size,4,none⟩=some (.slice (some ⟨b,o,none⟩) u.L.length u.c)∧W.cell? ⟨b,o+k,none⟩=some (.string s):=by
 obtain⟨c0,c1,c2,c3,c4⟩:=Gr.cells h.k;obtain⟨b2,o2,e2,-,hc⟩:=h.r.t.at_ (by omega)
 rw[e] at e2;injection e2 with e2
 injection e2 with e3 e4
 subst e3;subst e4;refine⟨c0,c1,c2,c3,by rw[c4,e],?_⟩;rw[hc k hk,hs];rfl
theorem Rc.more (h:Rc w u X Y v N W){x:Cv}{v2:Value}(hx:CvU W x)(hr:CvR x)(fx:∀a,x.ax=some a→w.heap.size+1≤a.block∧∀q,v.ownBlock=some q→a.block≠q)(fy:∀a,x.ay=some a→w.heap.size+1≤a.block∧∀q,v.ownBlock=some q→a.block≠q)
  (ho:OwnC W1 (w.heap.size+1) v2 (N++[x])) (hg:W.grownBy W1 v.ownBlock) (hat:v2.ownBlock=v.ownBlock∨v2.ownBlock=some W.heap.size):Rc w u X Y v2 (N++[x]) W1:=by
 have hne:∀q,v.ownBlock=some q→w.heap.size+1≤q:=fun q hq=>(h.rl.o.lt q hq).1;refine⟨h.b.grown hg (Nat.le_of_lt (zag h.k)) (fun q hq=>by have:=hne q hq;omega),(hg.block _ (zag h.k) (fun e=>by have:=hne _ e.symm;omega)).trans h.k,h.r0,h.rl.more (N:=[x]) (fun y hy=>?_) ho hg hat⟩;rw[List.mem_singleton.1 hy];exact⟨hx,hr,fun q hq=>⟨fun _ a e=>(fx a e).2 q hq,fun _ a e=>(fy a e).2 q hq⟩,⟨fun _ a e=>.inl (fx a e).1,fun _ a e=>.inl (fy a e).1⟩⟩
end
def zuR (u:Gr)(X Y:Int)(w:World)(e:Ending)(w':World):Prop :=
 ∃A c n N,e=.returned (.slice A n c)∧N.length=n∧Cs w' A c N∧(A=none→c=0)∧Below w.heap.size w w'∧N.map Cv.cl=picL (picS u.L) X Y (zbV u.L) u.L.length∧∀x∈N,CvR x
theorem zgl (u:Gr)(X Y:Int)(w:World)(h:u.R w X Y)(hlx:u.x.xs.length≤50)(hly:u.y.xs.length≤50)(hrb:zcX u.L=true) :
  Calls Tryz.prog 28 #[u.val] w (zuR u X Y w):=by
 have hsz:=zoU hrb;have w9:=hsz.1;have h9:=hsz.2;have HRB:=Hh hrb;have RB:=Hh (show Rc w u X Y (.slice none 0 0) [] (w.alloc u.obj) from⟨(Below.refl _ w).alloc (Nat.le_refl _) _,heap_alloc_new w _,h,RlO.nil _ _ _⟩);have hcap:=h.t.cap;obtain⟨wide,hw⟩:∃k,k=zbV u.L:=⟨_,rfl⟩;rw[←hw] at w9;have HW:=Hh hw;obtain⟨M,hM⟩:∃M,M=picS u.L:=⟨_,rfl⟩;have HMM:=Hh hM;obtain⟨c0,c1,c2,c3,c4⟩:=Gr.cells RB.out.k;clear h hrb hsz hw hM;go_enter Tryz.func28,Tryz.ntmps28;go_wp2_with fail;go_loopw [4,3] (fun z1 z2 wr=>∃(k:Nat) (v:Value) (N:List Cv),z1=.int .i64 k∧v=z2∧k≤u.L.length∧Rc w u X Y v N wr∧N.map Cv.cl=picL M X Y wide k) (fun z1 _ _=>u.L.length-(intOf z1).toNat)
 case atStart=>exact⟨0,_,_,rfl,rfl,Nat.zero_le _,RB.out,rfl⟩
 case round =>
  obtain⟨k,v,N,rfl,rfl,hk,hrc,hN⟩:=hrel;clear RB c0 c1 c2 c3 c4;have RB:=Hh hrc;have HN:=Hh hN;obtain⟨c0,c1,c2,c3,c4⟩:=Gr.cells RB.out.k;have kw:IntKind.i64.wrap ((k:Int)+1)=(k:Int)+1:=IntWalk.i64_in _ (by omega);by_cases hlt:k<u.L.length
  ·obtain⟨b2,o2,hA2,-,-⟩:=hrc.r.t.at_ (by omega)
   have HA:=Hh hA2;obtain⟨s,hs⟩:∃s:ByteArray,s=⟨(tat u.L k).toArray⟩:=⟨_,rfl⟩;have hs2:s.size=wide:=by rw[zhW hs,zlo HRB.out hlt,HW.out]
   rw[hA2] at c4;have s0:=(hrc.s hA2 hlt hs).2.2.2.2.2;have j0:(0:Int)≤(k:Int):=by omega
   have j1:(k:Int)<(u.L.length:Int):=by omega
   have j3:decide ((k:Int)<(u.L.length:Int))=true:=decide_eq_true j1;have HS:=Hh hs;have HLT:=Hh hlt;have HS2:=Hh hs2;clear hs hrc hA2 hlt hN;go_wp2_with fail;go_loopw [5,3] (fun z1 z2 wr=>∃(i:Nat) (v:Value) (N:List Cv),z1=.int .i64 i∧v=z2∧i≤wide∧Rc w u X Y v N wr∧N.map Cv.cl=picL M X Y wide k++rowC M X Y k i) (fun z1 _ _=>wide-(intOf z1).toNat)
   case atStart=>exact⟨0,_,_,rfl,rfl,Nat.zero_le _,RB.out,by rw[zoC,List.append_nil];exact HN.out⟩
   case round =>
    clear RB HN c0 c1 c2 c3 c4 s0;obtain⟨i,v,N,rfl,rfl,hi,hrc,hN⟩:=hrel;have RB:=Hh hrc;have HN:=Hh hN;obtain⟨c0,c1,c2,c3,c4,s0⟩:=hrc.s HA.out HLT.out HS.out;have iw:IntKind.i64.wrap ((i:Int)+1)=(i:Int)+1:=IntWalk.i64_in _ (by omega);clear hrc hN;by_cases hlt:i<wide
    ·have hlt':i<s.size:=by omega
     have hl2:i<(tat u.L k).length:=by rw[zlo HRB.out HLT.out,←HW.out];exact hlt
     have HGT:=Hh (zcG hlt');have hMb:M k i=((s[i]'hlt').toNat:Int):=by
      rw[HMM.out,zoT HLT.out hl2,zud HS.out hlt' hl2]
     have HMB:=Hh hMb;have HB9:=Hh (show(s[i]'hlt').toNat≤255 by have:=(s[i]'hlt').toNat_lt;omega);have HI:=Hh hlt;have i0:(0:Int)≤(i:Int):=by omega
     have x1:(i:Int)<(s.size:Int):=by omega
     have x3:decide ((i:Int)<(s.size:Int))=true:=decide_eq_true x1;clear hMb;by_cases hz:(s[i]'hlt').toNat=0
     ·have u1:((((s[i]'hlt').toNat:Nat):Int)!=0)=false:=by rw[hz];rfl
      have HZ:=Hh (show M k i=0 by rw[HMB.out,hz];rfl);clear hz;go_wp2_with fail;go_roundw
      case rel=>exact⟨i+1,_,_,by go_num,rfl,HI.out,RB.out,by rw[HN.out,zed,if_pos HZ.out,List.append_nil]⟩
      case measure=>have:=HI.out;simp[intOf];omega
     ·have u1:((((s[i]'hlt').toNat:Nat):Int)!=0)=true:=by rw[bne_iff_ne];omega
      have HZ:=Hh (show ¬ M k i=0 by rw[HMB.out];omega);have HLE:=Hh (show N.length≤999999 by
       have e1:(N.map Cv.cl).length=N.length:=List.length_map _;rw[HN.out,List.length_append] at e1;have e2:=zln M X Y wide k;have e3:=zhU M X Y k i;have e4:wide*k≤1000*999:=Nat.mul_le_mul w9 (by have:=HLT.out;omega);omega)
      clear hz;obtain⟨W0,hW0⟩:∃W0:World,W0=wr.drew:=⟨_,rfl⟩;have P0:=Hh (RB.out.next (Below.drew' (Below.refl _ _)));rw[←hW0] at P0;clear RB hi;go_wp2_with fail;refine wp_region_noPanic ?_;refine wp_region_held (S:=fun w'=>w'.cell? ⟨w.heap.size,0,none⟩=some (.bool u.x.s)∧w'.cell? ⟨w.heap.size,1,none⟩=some (.slice u.x.a u.x.xs.length u.x.c)∧w'.cell? ⟨w.heap.size,2,none⟩=some (.bool u.y.s)∧w'.cell? ⟨w.heap.size,3,none⟩=some (.slice u.y.a u.y.xs.length u.y.c)∧w'.cell? ⟨w.heap.size,4,none⟩=some (.slice (some ⟨b2,o2,none⟩) u.L.length u.c)∧w'.cell? ⟨b2,o2+k,none⟩=some (.string s)) (by kernel_rfl) ?_;change wpAnyH _ _ _ _ _ _ _ _ wr.drew;rw[←hW0];clear hW0 c0 c1 c2 c3 c4 s0;have hS0:=P0.out.s HA.out HLT.out HS.out;refine Tk1 (v:=?_) 0 hS0 ?_ ?_;rotate_left
      ·rintro w' ⟨_,_,_,_,_,_⟩;go_simp;first|done|with_reducible rfl|rfl
      simp only[Act.put,LA];refine Tk1 (v:=?_) 1 hS0 ?_ ?_;rotate_left
      ·rintro w' ⟨_,_,_,_,_,_⟩;go_simp;first|done|with_reducible rfl|rfl
      simp only[Act.put,LA];refine Tk1 (v:=?_) 2 hS0 ?_ ?_;rotate_left
      ·rintro w' ⟨_,_,_,_,_,_⟩;go_simp;first|done|with_reducible rfl|rfl
      simp only[Act.put,LA];refine Tk1 (v:=?_) 3 hS0 ?_ ?_;rotate_left
      ·rintro w' ⟨_,_,_,_,_,_⟩;go_simp;first|done|with_reducible rfl|rfl
      simp only[Act.put,LA];refine Tk1 (v:=?_) 6 hS0 ?_ ?_;rotate_left
      ·rintro w' ⟨_,_,_,_,_,_⟩;go_simp;first|done|with_reducible rfl|rfl
      simp only[Act.put,LA];refine Tk1 (v:=?_) 7 hS0 ?_ ?_;rotate_left
      ·rintro w' ⟨_,_,_,_,_,_⟩;go_simp;first|done|with_reducible rfl|rfl
      simp only[Act.put,LA];refine Tk1 (v:=?_) 8 hS0 ?_ ?_;rotate_left
      ·rintro w' ⟨_,_,_,_,_,_⟩;go_simp;first|done|with_reducible rfl|rfl
      simp only[Act.put,LA];refine Tk1 (v:=?_) 11 hS0 ?_ ?_;rotate_left
      ·rintro w' ⟨_,_,_,_,_,_⟩;go_simp;first|done|with_reducible rfl|rfl
      simp only[Act.put,LA];refine Tk1 (v:=?_) 12 hS0 ?_ ?_;rotate_left
      ·rintro w' ⟨_,_,_,_,_,_⟩;go_simp;first|done|with_reducible rfl|rfl
      simp only[Act.put,LA];refine Tk1 (v:=?_) 13 hS0 ?_ ?_;rotate_left
      ·rintro w' ⟨_,_,_,_,_,_⟩;go_simp;first|done|with_reducible rfl|rfl
      simp only[Act.put,LA];refine Tk1 (v:=?_) 14 hS0 ?_ ?_;rotate_left
      ·rintro w' ⟨_,_,_,_,_,_⟩;go_simp;first|done|with_reducible rfl|rfl
      simp only[Act.put,LA];refine Tk1 (v:=?_) 15 hS0 ?_ ?_;rotate_left
      ·rintro w' ⟨_,_,_,_,_,_⟩;go_simp;first|done|with_reducible rfl|rfl
      simp only[Act.put,LA];refine Tk1 (v:=?_) 16 hS0 ?_ ?_;rotate_left
      ·rintro w' ⟨_,_,_,_,_,_⟩;go_simp;first|done|with_reducible rfl|rfl
      simp only[Act.put,LA];refine Tk1 (v:=?_) 17 hS0 ?_ ?_;rotate_left
      ·rintro w' ⟨_,_,_,_,_,_⟩;go_simp;first|done|with_reducible rfl|rfl
      simp only[Act.put,LA];refine Rd1 4 fun K hK=>?_;go_simp;refine(zaZ (i:Int) _ (by omega) (by omega)).mono ?_;rintro e v1 h_;obtain⟨a1,rfl,ra,b_⟩:=zaD h_;have RA:=Hh ra;clear ra h_;dsimp only;have P1:=Hh (P0.out.next b_);have hS1:=P1.out.s HA.out HLT.out HS.out;refine hK.out _ _ hS1 (fun _=>?_);clear hK K b_;refine Rd1 5 fun K hK=>?_;go_simp;refine(zhL u.x.s a1.s u.x.a a1.a u.x.c a1.c u.x.xs a1.xs _ P1.out.r.x.us RA.out.us (by omega) (by have:=zaR RA.out (zcf (by omega)).1 (zcf (by omega)).2;omega)).mono ?_;rintro e v2 h_;obtain⟨x9,rfl,rx,b_,fx⟩:=zlp h_;rw[P1.out.r.x.v,RA.out.v] at rx;have RX:=Hh rx;have FX:=Hh (zoW fx P1.out.rl.o (zag P1.out.k));have LX:=Hh (zoS P1.out.r.x RA.out rx hlx (zaR RA.out (zcf (by omega)).1 (zcf (by omega)).2));clear rx h_ fx;dsimp only;have P2:=Hh (P1.out.next b_);have hS2:=P2.out.s HA.out HLT.out HS.out;refine hK.out _ _ hS2 (fun _=>?_);clear hK K b_;refine Rd1 9 fun K hK=>?_;go_simp;refine(zaZ (k:Int) _ (by omega) (by omega)).mono ?_;rintro e v3 h_;obtain⟨a3,rfl,rb,b_⟩:=zaD h_;have RB3:=Hh rb;have RX:=Hh (RX.out.next b_);clear rb h_;dsimp only;have P3:=Hh (P2.out.next b_);have hS3:=P3.out.s HA.out HLT.out HS.out;refine hK.out _ _ hS3 (fun _=>?_);clear hK K b_;refine Rd1 10 fun K hK=>?_;go_simp;refine(zhL u.y.s a3.s u.y.a a3.a u.y.c a3.c u.y.xs a3.xs _ P3.out.r.y.us RB3.out.us (by omega) (by have:=zaR RB3.out (zcf (by omega)).1 (zcf (by omega)).2;omega)).mono ?_;rintro e v4 h_;obtain⟨y9,rfl,ry,b_,fy⟩:=zlp h_;rw[P3.out.r.y.v,RB3.out.v] at ry;have RY:=Hh ry;have FY:=Hh (zoW fy P3.out.rl.o (zag P3.out.k));have LY:=Hh (zoS P3.out.r.y RB3.out ry hly (zaR RB3.out (zcf (by omega)).1 (zcf (by omega)).2));have RX:=Hh (RX.out.next b_);clear ry h_ fy;dsimp only;have P4:=Hh (P3.out.next b_);have hS4:=P4.out.s HA.out HLT.out HS.out;refine hK.out _ _ hS4 (fun _=>?_);clear hK K b_;refine Tk1 (v:=?_) 18 hS4 ?_ ?_;rotate_left
      ·rintro w' ⟨_,_,_,_,_,_⟩;go_simp;first|done|with_reducible rfl|rfl
      simp only[Act.put,LA];refine Rd1 19 fun K hK=>?_;go_simp;have hal:=(Below.refl v4.heap.size v4).alloc (Nat.le_refl _) (.cells #[.bool x9.s,.slice x9.a x9.xs.length x9.c,.bool y9.s,.slice y9.a y9.xs.length y9.c,.int .u8 (((s[i]'hlt').toNat:Nat):Int)] 78);have P5:=Hh (P4.out.next hal);have RX:=Hh (RX.out.next hal);have RY:=Hh (RY.out.next hal);have hS5:=P5.out.s HA.out HLT.out HS.out;refine hK.out _ _ hS5 (fun _=>?_);clear hK K hal;refine Rd1 20 fun K hK=>?_
      try rw[if_pos (by rfl)]
      refine zeY (.tmp 31) (.tmp 50) rfl (w.heap.size+1) v N ⟨x9.s,x9.a,x9.c,x9.xs,y9.s,y9.a,y9.c,y9.xs,(s[i]'hlt').toNat⟩ ⟨v4.heap.size,0,none⟩ 1 rfl rfl P5.out.rl.o (zbK v4 _) (by have:=HLE.out;omega) (Nat.le_trans (zag P5.out.k) (Nat.le_refl _)) ?_;intro v6 w6 ho hg hk9;simp only[Act.put,LA];have P6:=Hh (P5.out.more (x:=⟨x9.s,x9.a,x9.c,x9.xs,y9.s,y9.a,y9.c,y9.xs,(s[i]'hlt').toNat⟩) ⟨RX.out.us,RY.out.us,HB9.out⟩ ⟨RX.out.cn,RY.out.cn,by have:=LX.out;show x9.xs.length≤60000;omega,by have:=LY.out;show y9.xs.length≤60000;omega⟩ FX.out FY.out ho hg hk9);clear ho hg hk9;have hS6:=P6.out.s HA.out HLT.out HS.out;refine hK.out _ _ hS6 (fun _=>?_);clear hK K;have hS6:=P6.out.s HA.out HLT.out HS.out;refine Tk1 (v:=?_) 21 hS6 ?_ ?_;rotate_left
      ·rintro w' ⟨_,_,_,_,_,_⟩;go_simp;first|done|with_reducible rfl|rfl
      simp only[Act.put,LA];refine wpAnyH_done (by kernel_rfl) ?_ _;refine NoPanic.normal ?_;go_wp2_with fail;go_roundw
      case rel=>exact⟨i+1,_,_,by go_num,rfl,HI.out,P6.out,by
       rw[List.map_append,HN.out,zed,if_neg HZ.out,List.append_assoc];congr 2;show[Cl.mk (ival x9.s x9.xs) (ival y9.s y9.xs) _]=_;rw[RX.out.v,RY.out.v,HMB.out]⟩
      case measure=>have:=HI.out;simp[intOf];omega
    ·have e:i=wide:=by omega
     have HE:=Hh e;have t9:decide ((i:Int)<(s.size:Int))=false:=decide_eq_false (by omega);have t10:decide (i<s.size)=false:=decide_eq_false (by omega);have t11:(i<wide)=False:=eq_false (by omega);have t12:decide ((i:Int)<(wide:Int))=false:=decide_eq_false (by omega);have t13:decide (i<wide)=false:=decide_eq_false (by omega);clear hlt e;go_wp2_with fail;go_roundw
     case rel=>exact⟨k+1,_,_,by go_num,rfl,HLT.out,RB.out,by rw[HN.out,HE.out,zgi]⟩
     case measure=>have:=HLT.out;simp[intOf];omega
  ·have e:k=u.L.length:=by omega
   have HE:=Hh e;have t9:decide ((k:Int)<(u.L.length:Int))=false:=decide_eq_false (by omega);have t10:decide (k<u.L.length)=false:=decide_eq_false hlt;have t11:(k<u.L.length)=False:=eq_false hlt;obtain⟨A',c',hv,hcs,hnone,-⟩:=hrc.rl.o.cs (fun x hx=>(hrc.rl.ok x hx).1);have HCS:=Hh hcs;have HNO:=Hh hnone;have HCR:=Hh (show ∀x∈N,CvR x from fun x hx=>(hrc.rl.ok x hx).2.1);subst hv;clear hrc hlt e hcs hnone hN;go_wp2_with fail;go_ret;exact⟨A',c',_,N,rfl,rfl,HCS.out,HNO.out,RB.out.b,by rw[HN.out,HMM.out,HW.out,HE.out],HCR.out⟩
end Go.Proofs.YtfjajpnfjjdnpaaGreatDoor

namespace Go.Proofs.YtfjajpnfjjdnpaaGreatDoor.Digs
def isd (b:UInt8):Bool:=decide (48≤b.toNat∧b.toNat≤57)
def dig (d:Nat):UInt8:=UInt8.ofNat (48+d)
theorem zeL {d:Nat}(h:d<10):(dig d).toNat=48+d:=by
 unfold dig;simp;omega
theorem zoX {d:Nat}(h:d<10):isd (dig d)=true:=by
 unfold isd;rw[zeL h];simp;omega
theorem ztb {b:UInt8}:isd b=true↔∃d,d<10∧b=dig d:=by
 constructor
 ·intro h;unfold isd at h;simp at h;refine⟨b.toNat-48,by omega,?_⟩;unfold dig;rw[show 48+(b.toNat-48)=b.toNat by omega];simp
 ·rintro⟨d,hd,rfl⟩;exact zoX hd
theorem ztc {d e:Nat}(h:d<10)(k:e<10)(he:dig d=dig e):d=e:=by
 have h1:=zeL h;have h2:=zeL k;rw[he] at h1;omega
def low:Nat→Nat→List UInt8
 | 0,_=>[]
 | k+1,n=>dig (n%10) :: low k (n / 10)
theorem zaz:∀(k n:Nat),(low k n).length=k
 | 0,_=>rfl
 | k+1,n=>by simp[low,zaz k]
theorem low_add:∀(j k n:Nat),low (j+k) n=low j n++low k (n / 10^j)
 | 0,k,n=>by simp[low]
 | j+1,k,n=>by
  rw[show j+1+k=(j+k)+1 by omega];simp only[low,List.cons_append];rw[low_add j k (n / 10),Nat.div_div_eq_div_mul,Nat.pow_succ,Nat.mul_comm 10]
theorem zlq (k n:Nat):low (k+1) n=low k n++[dig (n / 10^k%10)]:=by
 rw[low_add k 1 n];rfl
theorem zoY:∀(k n:Nat),∀b∈low k n,isd b=true
 | 0,_,b,h=>by cases h
 | k+1,n,b,h=>by
  rcases List.mem_cons.1 h with rfl|h
  ·exact zoX (Nat.mod_lt _ (by decide))
  ·exact zoY k _ b h
theorem zoZ:∀(k n m:Nat),low k (n+10^k*m)=low k n
 | 0,_,_=>rfl
 | k+1,n,m=>by
  simp only[low];have e:n+10^(k+1)*m=n+10*(10^k*m):=by rw[Nat.pow_succ,Nat.mul_comm (10^k) 10,Nat.mul_assoc]
  rw[e,Nat.add_mul_mod_self_left,Nat.add_mul_div_left _ _ (by decide),zoZ k]
def num (l:List UInt8):Nat:=l.foldl (fun a b=>a*10+(b.toNat-48)) 0
theorem num_snoc (l:List UInt8)(b:UInt8):num (l++[b])=num l*10+(b.toNat-48):=by
 unfold num;rw[List.foldl_append];rfl
def size (n:Nat):Nat:=if n=0 then 0 else size (n / 10)+1
theorem zbX:size 0=0:=by unfold size;simp
theorem zei {n:Nat}(h:0<n):size n=size (n / 10)+1:=by
 rw[size,if_neg (by omega)]
theorem zjS (n:Nat):n<10^size n:=by
 induction n using Nat.strongRecOn with
 | ind n ih =>
  rcases Nat.eq_zero_or_pos n with rfl|hn
  ·rw[zbX];decide
  ·rw[zei hn,Nat.pow_succ];have:=ih (n / 10) (by omega);omega
theorem zpa {n:Nat}(h:0<n):10^(size n-1)≤n:=by
 induction n using Nat.strongRecOn with
 | ind n ih =>
  rw[zei h,Nat.add_sub_cancel];rcases Nat.eq_zero_or_pos (n / 10) with h0|h0
  ·rw[h0,zbX];exact h
  ·have h1:=ih (n / 10) (by omega) h0;have h2:=zei h0;have h3:10^size (n / 10)=10^(size (n / 10)-1)*10:=by rw[←Nat.pow_succ];congr 1;omega
   omega
theorem zhX {n k:Nat}(h:n<10^k):size n≤k:=by
 rcases Nat.eq_zero_or_pos n with rfl|hn
 ·rw[zbX];exact Nat.zero_le _
 ·have h1:=zpa hn;rcases Nat.lt_or_ge k (size n) with hk|hk
  ·have h2:10^k≤10^(size n-1):=Nat.pow_le_pow_right (by decide) (by omega);omega
  ·exact hk
def digs (n:Nat):List UInt8:=if n=0 then [48] else (low (size n) n).reverse
def text (s:Bool)(n:Nat):List UInt8:=if s then 45 :: digs n else digs n
theorem zpb:∀(k n:Nat),num (low k n).reverse=n%10^k
 | 0,n=>by simp[low,num];omega
 | k+1,n=>by
  simp only[low,List.reverse_cons];rw[num_snoc,zpb k,zeL (Nat.mod_lt _ (by decide)),Nat.pow_succ,Nat.mul_comm (10^k) 10,Nat.mod_mul];omega
theorem num_digs (n:Nat):num (digs n)=n:=by
 unfold digs;split
 ·rename_i h;rw[h];rfl
 ·rw[zpb,Nat.mod_eq_of_lt (zjS n)]
theorem num_lt:∀(l:List UInt8),(∀b∈l,isd b=true)→num l<10^l.length:=by
 intro l
 induction h:l.length generalizing l with
 | zero=>intro _;rw[List.eq_nil_of_length_eq_zero h];decide
 | succ k ih =>
  intro hd;have hne:l≠[]:=by intro e;subst e;simp at h
  obtain⟨r,b,rfl⟩:∃r b,l=r++[b]:=⟨_,_,(List.dropLast_concat_getLast hne).symm⟩;have h1:=ih r (by simpa using h) (fun x hx=>hd x (by simp[hx]));obtain⟨d,hd2,rfl⟩:=ztb.1 (hd b (by simp));rw[num_snoc,zeL hd2,Nat.pow_succ];omega
theorem zlr:∀k,low k 0=List.replicate k 48
 | 0=>rfl
 | k+1=>by simp only[low,Nat.zero_mod,Nat.zero_div,zlr k,List.replicate_succ];rfl
theorem zqY {n k:Nat}(h:n<10^k):low k n=low (size n) n++List.replicate (k-size n) 48:=by
 have h1:=zhX h;obtain⟨j,hj⟩:∃j,k=size n+j:=⟨k-size n,by omega⟩;rw[hj,low_add,Nat.div_eq_of_lt (zjS n),zlr,Nat.add_sub_cancel_left]
theorem zls {n:Nat}(h:0<n):∃r d,low (size n) n=r++[dig d]∧0<d∧d<10:=by
 have h1:=zei h;have h2:=zpa h;have h3:=zjS n;obtain⟨k,hk⟩:∃k,size n=k+1:=⟨_,h1⟩;rw[hk,zlq];refine⟨_,_,rfl,?_,Nat.mod_lt _ (by decide)⟩;rw[hk] at h2 h3;rw[Nat.add_sub_cancel] at h2;rw[Nat.pow_succ] at h3;have h4:n / 10^k<10:=by rw[Nat.div_lt_iff_lt_mul (Nat.pow_pos (by decide))];omega
 have h5:1≤n / 10^k:=(Nat.le_div_iff_mul_le (Nat.pow_pos (by decide))).2 (by omega);omega
theorem zqZ {n:Nat}(h:0<n):∃r d,digs n=dig d :: r∧0<d∧d<10:=by
 obtain⟨r,d,h1,h2,h3⟩:=zls h;refine⟨r.reverse,d,?_,h2,h3⟩;unfold digs;rw[if_neg (by omega),h1];simp
theorem digs_isd (n:Nat):∀b∈digs n,isd b=true:=by
 unfold digs;split
 ·intro b hb;simp at hb;subst hb;rfl
 ·intro b hb;exact zoY _ _ b (by simpa using hb)
theorem digs_ne (n:Nat):digs n≠[]:=by
 rcases Nat.eq_zero_or_pos n with rfl|h
 ·unfold digs;simp
 ·obtain⟨r,d,h1,_⟩:=zqZ h;rw[h1];simp
theorem zgm {n:Nat}(h:0<n):(digs n).length=size n:=by
 unfold digs;rw[if_neg (by omega)];simp[zaz]
theorem digs_length_le {n k:Nat}(h:n<10^k)(hk:0<k):(digs n).length≤k:=by
 rcases Nat.eq_zero_or_pos n with rfl|hn
 ·unfold digs;exact hk
 ·rw[zgm hn];exact zhX h
end Go.Proofs.YtfjajpnfjjdnpaaGreatDoor.Digs
