import Derived.Test.YtikehjindobpkaaGreatGGdRo

set_option linter.unusedVariables false
set_option linter.unusedSimpArgs false
set_option maxRecDepth 100000
set_option maxHeartbeats 6400000
namespace Go.Proofs.YtikehjindobpkaaGreat
open Go.RowKit Num Nds
def zcd (u:Gr)(m:Nat):Prop:=u.L.length≤m∧u.x.xs.length≤50∧u.y.xs.length≤50∧∀i,i<u.L.length→(tat u.L i).length≤m
theorem zja {r:List UInt8}{s:ByteArray}(h:s=⟨r.toArray⟩):s.size=r.length:=by rw[h,zed]
theorem zcY (u:Gr)(m:Nat)(R:Bool)(hR:(R=false→zcd u m)∧(R=true→¬ zcd u m))(w:World)(h:u.U w)(hm:m≤1000) :
  Calls Tryz.prog 14 #[u.val,.int .i64 (m:Int)] w fun e w'=>e=.returned (.bool R)∧Below w.heap.size w w':=by
 have HB:=Hh (GrB.start h);have hcap:=h.t.cap;obtain⟨c0,c1,c2,c3,c4⟩:=Gr.cells HB.out.k;dsimp only[Gr.obj] at c0 c1 c2 c3 c4;clear h;have ht:∀(p:Prop),p→(p→¬ zcd u m)→R=true:=fun p h1 h2=>by
  cases R with
  | true=>rfl
  | false=>exact absurd (hR.1 rfl) (h2 h1)
 have HT:=Hh ht;clear ht;by_cases t1:m<u.L.length
 ·obtain rfl:=HT.out _ t1 (fun h1 h2=>by have:=h2.1;omega);have e1:decide ((u.L.length:Int)>(m:Int))=true:=decide_eq_true (by omega);go_enter Tryz.func14,Tryz.ntmps14;go_wp2_with fail;go_ret;exact⟨rfl,HB.out.b⟩
 have e1:decide ((u.L.length:Int)>(m:Int))=false:=decide_eq_false (by omega);by_cases t2:50<u.x.xs.length
 ·obtain rfl:=HT.out _ t2 (fun h1 h2=>by have:=h2.2.1;omega);have e2:decide ((u.x.xs.length:Int)>50)=true:=decide_eq_true (by omega);go_enter Tryz.func14,Tryz.ntmps14;go_wp2_with fail;go_ret;exact⟨rfl,HB.out.b⟩
 have e2:decide ((u.x.xs.length:Int)>50)=false:=decide_eq_false (by omega);by_cases t3:50<u.y.xs.length
 ·obtain rfl:=HT.out _ t3 (fun h1 h2=>by have:=h2.2.2.1;omega);have e3:decide ((u.y.xs.length:Int)>50)=true:=decide_eq_true (by omega);go_enter Tryz.func14,Tryz.ntmps14;go_wp2_with fail;go_ret;exact⟨rfl,HB.out.b⟩
 have e3:decide ((u.y.xs.length:Int)>50)=false:=decide_eq_false (by omega);have T3:=Hh (show u.x.xs.length≤50∧u.y.xs.length≤50 by omega);have hl9:u.L.length≤m:=by omega
 clear t1 t2 t3;go_enter Tryz.func14,Tryz.ntmps14;go_wp2_with fail;go_loopw [5] (fun z1 wr=>∃(k:Nat),z1=.int .i64 k∧k≤u.L.length∧(∀i,i<k→(tat u.L i).length≤m)∧GrB w u wr) (fun z1 _=>u.L.length-(intOf z1).toNat)
 case atStart=>exact⟨0,rfl,Nat.zero_le _,fun i hi=>by omega,HB.out⟩
 case round =>
   obtain⟨k,rfl,hk,hall,hb⟩:=hrel;clear HB c0 c1 c2 c3 c4;have HB:=Hh hb;obtain⟨c0,c1,c2,c3,c4⟩:=Gr.cells HB.out.k;have kw:IntKind.i64.wrap ((k:Int)+1)=(k:Int)+1:=IntWalk.i64_in _ (by omega);have HAL:=Hh hall;clear hall;by_cases hlt:k<u.L.length
   ·
    -- a row
    obtain⟨b2,o2,hA2,-,hcc⟩:=hb.u.t.at_ (by omega)
    rw[hA2] at c4;have s0:=hcc k hlt;unfold strV at s0;obtain⟨s,hs⟩:∃s:ByteArray,s=⟨(tat u.L k).toArray⟩:=⟨_,rfl⟩;have hs2:=zja hs;rw[←hs] at s0;have j0:(0:Int)≤(k:Int):=by omega
    have j1:(k:Int)<(u.L.length:Int):=by omega
    have j3:decide ((k:Int)<(u.L.length:Int))=true:=decide_eq_true j1;have HLT:=Hh hlt;have HS2:=Hh hs2;clear hcc hs hb hlt;by_cases hg:s.size≤m
    ·have u1:decide ((s.size:Int)>(m:Int))=false:=decide_eq_false (by omega);have u2:decide (m<s.size)=false:=decide_eq_false (by omega);have u3:(m<s.size)=False:=eq_false (by omega);have HK:=Hh (show ∀i,i<k+1→(tat u.L i).length≤m from fun i hi=>by
      rcases Nat.lt_or_ge i k with h3|h3
      ·exact HAL.out i h3
      ·rw[show i=k by omega,←HS2.out];exact hg)
     clear hg hs2;go_wp2_with fail;go_roundw
     case rel=>exact⟨k+1,by go_num,HLT.out,HK.out,HB.out⟩
     case measure=>have:=HLT.out;simp[intOf];omega
    ·obtain rfl:=HT.out _ hg (fun h1 h2=>h1 (by rw[HS2.out];exact h2.2.2.2 k HLT.out));have u1:decide ((s.size:Int)>(m:Int))=true:=decide_eq_true (by omega);have u2:decide (m<s.size)=true:=decide_eq_true (by omega);have u3:(m<s.size)=True:=eq_true (by omega);clear hg hs2;go_wp2_with fail;go_ret;exact⟨rfl,HB.out.b⟩
   ·have e:k=u.L.length:=by omega
    have j3:decide ((k:Int)<(u.L.length:Int))=false:=decide_eq_false (by omega);have j5:decide (k<u.L.length)=false:=decide_eq_false hlt;have j6:(k<u.L.length)=False:=eq_false hlt;clear hb;have hR0:R=false:=by
     cases R with
     | false=>rfl
     | true=>exact absurd ⟨hl9,T3.out.1,T3.out.2,fun i hi=>HAL.out i (by omega)⟩ (hR.2 rfl)
    subst hR0;go_wp2_with fail;go_ret;exact⟨rfl,HB.out.b⟩
theorem zqD {L:List (List UInt8)}{k:Nat}(hk:k<L.length)(h:¬ (tat L k).length≤1000):zch L=false:=by
 by_cases e:(tat L k).length=zaC L
 ·unfold zch;rw[decide_eq_false (show ¬ zaC L≤1000 by omega)];rfl
 ·exact zlc hk e
theorem zsy {L:List (List UInt8)}(h:∀i,i<L.length→(tat L i).length=zaC L∧(tat L i).length≤1000):zch L=decide (L.length≤1000):=by
 by_cases h9:L.length≤1000
 ·rw[decide_eq_true h9];refine zmt ?_ h9 fun i hi=>(h i hi).1;cases L with
  | nil=>exact Nat.zero_le _
  | cons r L=>exact(h 0 (by simp)).2
 ·rw[decide_eq_false h9];unfold zch;rw[decide_eq_false h9,Bool.and_false,Bool.false_and]
theorem zeu (u:Gr)(w:World)(h:u.U w)(hl9:u.L.length≤9223372036854775000)(hlx:u.x.xs.length≤60000)(hly:u.y.xs.length≤60000) :
  Calls Tryz.prog 18 #[u.val] w fun e w'=>e=.returned (.bool (zbb u))∧Below w.heap.size w w':=by
 have HB:=Hh (GrB.start h);have hcap:=h.t.cap;obtain⟨c0,c1,c2,c3,c4⟩:=Gr.cells HB.out.k;dsimp only[Gr.obj] at c0 c1 c2 c3 c4;obtain⟨R,hR⟩:∃R,R=zbb u:=⟨_,rfl⟩;rw[←hR];have HRR:=Hh hR;have q0:True:=trivial;clear h hR;go_enter Tryz.func18,Tryz.ntmps18;go_wp2_with fail;go_loopw [3] (fun z1 wr=>∃(k:Nat),z1=.int .i64 k∧k≤u.L.length∧(∀i,i<k→(tat u.L i).length=zaC u.L∧(tat u.L i).length≤1000)∧GrB w u wr) (fun z1 _=>u.L.length-(intOf z1).toNat)
 case atStart=>exact⟨0,rfl,Nat.zero_le _,fun i hi=>by omega,HB.out⟩
 case round =>
   obtain⟨k,rfl,hk,hall,hb⟩:=hrel;clear HB c0 c1 c2 c3 c4;have HB:=Hh hb;obtain⟨c0,c1,c2,c3,c4⟩:=Gr.cells HB.out.k;have kw:IntKind.i64.wrap ((k:Int)+1)=(k:Int)+1:=IntWalk.i64_in _ (by omega);have HAL:=Hh hall;clear hall;by_cases hlt:k<u.L.length
   ·
    -- a row
    obtain⟨b2,o2,hA2,-,hcc⟩:=hb.u.t.at_ (by omega)
    rw[hA2] at c4;have s0:=hcc k hlt;unfold strV at s0;obtain⟨s,hs⟩:∃s:ByteArray,s=⟨(tat u.L k).toArray⟩:=⟨_,rfl⟩;have hs2:=zja hs;rw[←hs] at s0;have j0:(0:Int)≤(k:Int):=by omega
    have j1:(k:Int)<(u.L.length:Int):=by omega
    have j3:decide ((k:Int)<(u.L.length:Int))=true:=decide_eq_true j1;have HLT:=Hh hlt;have HS2:=Hh hs2;have hw0:=hcc 0 (by omega);rw[Nat.add_zero] at hw0;unfold strV at hw0;obtain⟨t,ht⟩:∃t:ByteArray,t=⟨(tat u.L 0).toArray⟩:=⟨_,rfl⟩;have ht2:t.size=zaC u.L:=zja ht;rw[←ht] at hw0;have j9:(0:Int)<(u.L.length:Int):=by omega
    clear hcc hs hb hlt ht;by_cases he:s.size=t.size
    ·have u1:((s.size:Int)!=(t.size:Int))=false:=by rw[he];exact bne_self_eq_false _
     by_cases hg:s.size≤1000
     ·have u2:decide ((s.size:Int)>1000)=false:=decide_eq_false (by omega);have HK:=Hh (show ∀i,i<k+1→(tat u.L i).length=zaC u.L∧(tat u.L i).length≤1000 from fun i hi=>by
       rcases Nat.lt_or_ge i k with h3|h3
       ·exact HAL.out i h3
       ·rw[show i=k by omega,←HS2.out];exact⟨he.trans ht2,hg⟩)
      clear hg hs2 ht2 he;go_wp2_with fail;go_quiet (fail);go_wp2_with fail;go_roundw
      case rel=>exact⟨k+1,by go_num,HLT.out,HK.out,HB.out.next (zab (Below.refl _ _) _)⟩
      case measure=>have:=HLT.out;simp[intOf];omega
     ·have u2:decide ((s.size:Int)>1000)=true:=decide_eq_true (by omega);have hr:R=false:=by
       rw[HRR.out];unfold zbb;rw[zqD HLT.out (by rw[←HS2.out];exact hg),Bool.and_false,Bool.and_false]
      subst hr;clear hg hs2 ht2 he;go_wp2_with fail;go_quiet (fail);go_wp2_with fail;go_ret;exact⟨rfl,zab HB.out.b _⟩
    ·have u1:((s.size:Int)!=(t.size:Int))=true:=by rw[bne_iff_ne];omega
     have hr:R=false:=by
      rw[HRR.out];unfold zbb;rw[zlc HLT.out (by rw[←HS2.out,←ht2];exact he),Bool.and_false,Bool.and_false]
     subst hr;clear hs2 ht2 he;go_wp2_with fail;go_quiet (fail);go_wp2_with fail;go_ret;exact⟨rfl,zab HB.out.b _⟩
   ·have e:k=u.L.length:=by omega
    have j3:decide ((k:Int)<(u.L.length:Int))=false:=decide_eq_false (by omega);have j5:decide (k<u.L.length)=false:=decide_eq_false hlt;have j6:(k<u.L.length)=False:=eq_false hlt;have hrow:=zsy (L:=u.L) fun i hi=>HAL.out i (by omega);have hr:R=(zaM u.x.s u.x.xs&&(zaM u.y.s u.y.xs&&decide (u.L.length≤1000))):=by
     rw[HRR.out];unfold zbb;rw[hrow]
    clear hb hrow e;cases hx:zaM u.x.s u.x.xs with
    | false =>
     rw[hx,Bool.false_and] at hr;have HRx:=Hh hx;subst hr;clear hx;go_wp2_with (first
     | (have _t:=q0;go_at_call 39;clear _t;go_loud (refine(zaU u.x.s u.x.a u.x.c u.x.xs _ HB.out.u.x hlx).mono ?_;rintro e w2 ⟨rfl,b_⟩;rw[HRx.out];have HB:=Hh (HB.out.next b_);clear c0 c1 c2 c3 c4 b_;obtain⟨c0,c1,c2,c3,c4⟩:=Gr.cells HB.out.k;have q1:=q0;clear q0)))
     go_ret;exact⟨rfl,HB.out.b⟩
    | true =>
     rw[hx,Bool.true_and] at hr;have HRx:=Hh hx;clear hx;cases hy:zaM u.y.s u.y.xs with
     | false =>
      rw[hy,Bool.false_and] at hr;have HRy:=Hh hy;subst hr;clear hy;go_wp2_with (first
     | (have _t:=q0;go_at_call 39;clear _t;go_loud (refine(zaU u.x.s u.x.a u.x.c u.x.xs _ HB.out.u.x hlx).mono ?_;rintro e w2 ⟨rfl,b_⟩;rw[HRx.out];have HB:=Hh (HB.out.next b_);clear c0 c1 c2 c3 c4 b_;obtain⟨c0,c1,c2,c3,c4⟩:=Gr.cells HB.out.k;have q1:=q0;clear q0))
     | (have _t:=q1;go_at_call 39;clear _t;go_loud (refine(zaU u.y.s u.y.a u.y.c u.y.xs _ HB.out.u.y hly).mono ?_;rintro e w2 ⟨rfl,b_⟩;rw[HRy.out];have HB:=Hh (HB.out.next b_);clear c0 c1 c2 c3 c4 b_;obtain⟨c0,c1,c2,c3,c4⟩:=Gr.cells HB.out.k;have q2:=q1;clear q1)))
      go_ret;exact⟨rfl,HB.out.b⟩
     | true =>
      rw[hy,Bool.true_and] at hr;have HRy:=Hh hy;clear hy;have hd2:R=decide ((u.L.length:Int)≤1000):=by rw[hr,decide_eq_decide];omega
      subst hd2;clear hr;go_wp2_with (first
     | (have _t:=q0;go_at_call 39;clear _t;go_loud (refine(zaU u.x.s u.x.a u.x.c u.x.xs _ HB.out.u.x hlx).mono ?_;rintro e w2 ⟨rfl,b_⟩;rw[HRx.out];have HB:=Hh (HB.out.next b_);clear c0 c1 c2 c3 c4 b_;obtain⟨c0,c1,c2,c3,c4⟩:=Gr.cells HB.out.k;have q1:=q0;clear q0))
     | (have _t:=q1;go_at_call 39;clear _t;go_loud (refine(zaU u.y.s u.y.a u.y.c u.y.xs _ HB.out.u.y hly).mono ?_;rintro e w2 ⟨rfl,b_⟩;rw[HRy.out];have HB:=Hh (HB.out.next b_);clear c0 c1 c2 c3 c4 b_;obtain⟨c0,c1,c2,c3,c4⟩:=Gr.cells HB.out.k;have q2:=q1;clear q1)))
      go_ret;exact⟨rfl,HB.out.b⟩
theorem zmx {n:Int}{w w':World}{e:Ending}(h:zdE n w e w'):∃u:Bw,e=.returned u.val∧u.R w' n∧Below w.heap.size w w'∧FrU w.heap.size u.a:=by
 obtain⟨A,c,s,r,he,hu,hk,hv,hb,hf⟩:=h;exact⟨⟨s,A,c,r⟩,he,⟨hu,hk,hv⟩,hb,hf⟩
theorem zqE {W:World}{A:Option Addr}{base:Nat}{v:Value}{N:List Cv}(f:FrU W.heap.size A)(o:OwnC W base v N)(hb:base≤W.heap.size):∀a,A=some a→base≤a.block∧∀q,v.ownBlock=some q→a.block≠q:=fun a e=>by
 have h1:=f a e;exact⟨by omega,fun q hq=>by have:=(o.lt q hq).2;omega⟩
structure Rc (w:World)(u:Gr)(X Y:Int)(v:Value)(N:List Cv)(W:World):Prop where
 b:Below w.heap.size w W
 k:W.heap[w.heap.size]?=some u.obj
 r0:u.R w X Y
 rl:RlO (w.heap.size+1) (fun _=>False) W v N
section
variable {w W W1:World} {u:Gr} {X Y:Int} {v:Value} {N:List Cv}
theorem Rc.next (h:Rc w u X Y v N W)(k:Below W.heap.size W W1):Rc w u X Y v N W1:=⟨h.b.trans (k.mono h.b.size),(k.block _ (zac h.k)).trans h.k,h.r0,h.rl.next k⟩
theorem Rc.r (h:Rc w u X Y v N W):u.R W X Y:=h.r0.next h.b
theorem Rc.s (h:Rc w u X Y v N W){b o:Nat}(e:u.a=some ⟨b,o,none⟩){k:Nat}(hk:k<u.L.length){s:ByteArray}(hs:s=⟨(tat u.L k).toArray⟩) :
  W.cell? ⟨w.heap.size,0,none⟩=some (.bool u.x.s)∧W.cell? ⟨w.heap.size,1,none⟩=some (.slice u.x.a u.x.xs.length u.x.c)∧W.cell? ⟨w.heap.size,2,none⟩=some (.bool u.y.s)∧W.cell? ⟨w.heap.size,3,none⟩=some (.slice u.y.a u.y.xs.length u.y.c)∧W.cell? ⟨w.heap.size,4,none⟩=some (.slice (some ⟨b,o,none⟩) u.L.length u.c)∧W.cell? ⟨b,o+k,none⟩=some (.string s):=by
 obtain⟨c0,c1,c2,c3,c4⟩:=Gr.cells h.k;obtain⟨b2,o2,e2,-,hc⟩:=h.r.t.at_ (by omega)
 rw[e] at e2;injection e2 with e2
 injection e2 with e3 e4
 subst e3;subst e4;refine⟨c0,c1,c2,c3,by rw[c4,e],?_⟩;rw[hc k hk,hs];rfl
theorem Rc.more (h:Rc w u X Y v N W){x:Cv}{v2:Value}(hx:CvU W x)(hr:CvR x)(fx:∀a,x.ax=some a→w.heap.size+1≤a.block∧∀q,v.ownBlock=some q→a.block≠q)(fy:∀a,x.ay=some a→w.heap.size+1≤a.block∧∀q,v.ownBlock=some q→a.block≠q)
  (ho:OwnC W1 (w.heap.size+1) v2 (N++[x])) (hg:W.grownBy W1 v.ownBlock) (hat:v2.ownBlock=v.ownBlock∨v2.ownBlock=some W.heap.size):Rc w u X Y v2 (N++[x]) W1:=by
 have hne:∀q,v.ownBlock=some q→w.heap.size+1≤q:=fun q hq=>(h.rl.o.lt q hq).1;refine⟨h.b.grown hg (Nat.le_of_lt (zac h.k)) (fun q hq=>by have:=hne q hq;omega),(hg.block _ (zac h.k) (fun e=>by have:=hne _ e.symm;omega)).trans h.k,h.r0,h.rl.more (N:=[x]) (fun y hy=>?_) ho hg hat⟩;rw[List.mem_singleton.1 hy];exact⟨hx,hr,fun q hq=>⟨fun _ a e=>(fx a e).2 q hq,fun _ a e=>(fy a e).2 q hq⟩,⟨fun _ a e=>.inl (fx a e).1,fun _ a e=>.inl (fy a e).1⟩⟩
end
def zwu (u:Gr)(X Y:Int)(w:World)(e:Ending)(w':World):Prop :=
 ∃A c n N,e=.returned (.slice A n c)∧N.length=n∧Cs w' A c N∧(A=none→c=0)∧Below w.heap.size w w'∧N.map Cv.cl=picL (picS u.L) X Y (zaC u.L) u.L.length∧∀x∈N,CvR x
theorem zlk (u:Gr)(X Y:Int)(w:World)(h:u.R w X Y)(hlx:u.x.xs.length≤50)(hly:u.y.xs.length≤50)(hrb:zch u.L=true) :
  Calls Tryz.prog 36 #[u.val] w (zwu u X Y w):=by
 have hsz:=zhk hrb;have w9:=hsz.1;have h9:=hsz.2;have HRB:=Hh hrb;have RB:=Hh (show Rc w u X Y (.slice none 0 0) [] (w.alloc u.obj) from⟨(Below.refl _ w).alloc (Nat.le_refl _) _,heap_alloc_new w _,h,RlO.nil _ _ _⟩);have hcap:=h.t.cap;obtain⟨wide,hw⟩:∃k,k=zaC u.L:=⟨_,rfl⟩;rw[←hw] at w9;have HW:=Hh hw;obtain⟨M,hM⟩:∃M,M=picS u.L:=⟨_,rfl⟩;have HMM:=Hh hM;obtain⟨c0,c1,c2,c3,c4⟩:=Gr.cells RB.out.k;clear h hrb hsz hw hM;go_enter Tryz.func36,Tryz.ntmps36;go_wp2_with fail;go_loopw [4,3] (fun z1 z2 wr=>∃(k:Nat) (v:Value) (N:List Cv),z1=.int .i64 k∧v=z2∧k≤u.L.length∧Rc w u X Y v N wr∧N.map Cv.cl=picL M X Y wide k) (fun z1 _ _=>u.L.length-(intOf z1).toNat)
 case atStart=>exact⟨0,_,_,rfl,rfl,Nat.zero_le _,RB.out,rfl⟩
 case round =>
  obtain⟨k,v,N,rfl,rfl,hk,hrc,hN⟩:=hrel;clear RB c0 c1 c2 c3 c4;have RB:=Hh hrc;have HN:=Hh hN;obtain⟨c0,c1,c2,c3,c4⟩:=Gr.cells RB.out.k;have kw:IntKind.i64.wrap ((k:Int)+1)=(k:Int)+1:=IntWalk.i64_in _ (by omega);by_cases hlt:k<u.L.length
  ·obtain⟨b2,o2,hA2,-,-⟩:=hrc.r.t.at_ (by omega)
   have HA:=Hh hA2;obtain⟨s,hs⟩:∃s:ByteArray,s=⟨(tat u.L k).toArray⟩:=⟨_,rfl⟩;have hs2:s.size=wide:=by rw[zja hs,zeg HRB.out hlt,HW.out]
   rw[hA2] at c4;have s0:=(hrc.s hA2 hlt hs).2.2.2.2.2;have j0:(0:Int)≤(k:Int):=by omega
   have j1:(k:Int)<(u.L.length:Int):=by omega
   have j3:decide ((k:Int)<(u.L.length:Int))=true:=decide_eq_true j1;have HS:=Hh hs;have HLT:=Hh hlt;have HS2:=Hh hs2;clear hs hrc hA2 hlt hN;go_wp2_with fail;go_loopw [5,3] (fun z1 z2 wr=>∃(i:Nat) (v:Value) (N:List Cv),z1=.int .i64 i∧v=z2∧i≤wide∧Rc w u X Y v N wr∧N.map Cv.cl=picL M X Y wide k++rowC M X Y k i) (fun z1 _ _=>wide-(intOf z1).toNat)
   case atStart=>exact⟨0,_,_,rfl,rfl,Nat.zero_le _,RB.out,by rw[zhg,List.append_nil];exact HN.out⟩
   case round =>
    clear RB HN c0 c1 c2 c3 c4 s0;obtain⟨i,v,N,rfl,rfl,hi,hrc,hN⟩:=hrel;have RB:=Hh hrc;have HN:=Hh hN;obtain⟨c0,c1,c2,c3,c4,s0⟩:=hrc.s HA.out HLT.out HS.out;have iw:IntKind.i64.wrap ((i:Int)+1)=(i:Int)+1:=IntWalk.i64_in _ (by omega);clear hrc hN;by_cases hlt:i<wide
    ·have hlt':i<s.size:=by omega
     have hl2:i<(tat u.L k).length:=by rw[zeg HRB.out HLT.out,←HW.out];exact hlt
     have HGT:=Hh (zqf hlt');have hMb:M k i=((s[i]'hlt').toNat:Int):=by
      rw[HMM.out,zlg HLT.out hl2,zqx HS.out hlt' hl2]
     have HMB:=Hh hMb;have HB9:=Hh (show(s[i]'hlt').toNat≤255 by have:=(s[i]'hlt').toNat_lt;omega);have HI:=Hh hlt;have i0:(0:Int)≤(i:Int):=by omega
     have x1:(i:Int)<(s.size:Int):=by omega
     have x3:decide ((i:Int)<(s.size:Int))=true:=decide_eq_true x1;clear hMb;by_cases hz:(s[i]'hlt').toNat=0
     ·have u1:((((s[i]'hlt').toNat:Nat):Int)!=0)=false:=by rw[hz];rfl
      have HZ:=Hh (show M k i=0 by rw[HMB.out,hz];rfl);clear hz;go_wp2_with fail;go_roundw
      case rel=>exact⟨i+1,_,_,by go_num,rfl,HI.out,RB.out,by rw[HN.out,zca,if_pos HZ.out,List.append_nil]⟩
      case measure=>have:=HI.out;simp[intOf];omega
     ·have u1:((((s[i]'hlt').toNat:Nat):Int)!=0)=true:=by rw[bne_iff_ne];omega
      have HZ:=Hh (show ¬ M k i=0 by rw[HMB.out];omega);have HLE:=Hh (show N.length≤999999 by
       have e1:(N.map Cv.cl).length=N.length:=List.length_map _;rw[HN.out,List.length_append] at e1;have e2:=zdl M X Y wide k;have e3:=zfe M X Y k i;have e4:wide*k≤1000*999:=Nat.mul_le_mul w9 (by have:=HLT.out;omega);omega)
      clear hz;obtain⟨W0,hW0⟩:∃W0:World,W0=wr.drew:=⟨_,rfl⟩;have P0:=Hh (RB.out.next (Below.drew' (Below.refl _ _)));rw[←hW0] at P0;clear RB hi;go_wp2_with fail;refine wp_region_noPanic ?_;refine wp_region_held (S:=fun w'=>w'.cell? ⟨w.heap.size,0,none⟩=some (.bool u.x.s)∧w'.cell? ⟨w.heap.size,1,none⟩=some (.slice u.x.a u.x.xs.length u.x.c)∧w'.cell? ⟨w.heap.size,2,none⟩=some (.bool u.y.s)∧w'.cell? ⟨w.heap.size,3,none⟩=some (.slice u.y.a u.y.xs.length u.y.c)∧w'.cell? ⟨w.heap.size,4,none⟩=some (.slice (some ⟨b2,o2,none⟩) u.L.length u.c)∧w'.cell? ⟨b2,o2+k,none⟩=some (.string s)) (by kernel_rfl) ?_;change wpAnyH _ _ _ _ _ _ _ _ wr.drew;rw[←hW0];clear hW0 c0 c1 c2 c3 c4 s0;have hS0:=P0.out.s HA.out HLT.out HS.out;refine Tk1 (v:=?_) 0 hS0 ?_ ?_;rotate_left
      ·rintro w' ⟨_,_,_,_,_,_⟩;go_simp;first|done|with_reducible rfl|rfl
      simp only[Act.put,LA];refine Tk1 (v:=?_) 1 hS0 ?_ ?_;rotate_left
      ·rintro w' ⟨_,_,_,_,_,_⟩;go_simp;first|done|with_reducible rfl|rfl
      simp only[Act.put,LA];refine Tk1 (v:=?_) 2 hS0 ?_ ?_;rotate_left
      ·rintro w' ⟨_,_,_,_,_,_⟩;go_simp;first|done|with_reducible rfl|rfl
      simp only[Act.put,LA];refine Tk1 (v:=?_) 3 hS0 ?_ ?_;rotate_left
      ·rintro w' ⟨_,_,_,_,_,_⟩;go_simp;first|done|with_reducible rfl|rfl
      simp only[Act.put,LA];refine Tk1 (v:=?_) 6 hS0 ?_ ?_;rotate_left
      ·rintro w' ⟨_,_,_,_,_,_⟩;go_simp;first|done|with_reducible rfl|rfl
      simp only[Act.put,LA];refine Tk1 (v:=?_) 7 hS0 ?_ ?_;rotate_left
      ·rintro w' ⟨_,_,_,_,_,_⟩;go_simp;first|done|with_reducible rfl|rfl
      simp only[Act.put,LA];refine Tk1 (v:=?_) 8 hS0 ?_ ?_;rotate_left
      ·rintro w' ⟨_,_,_,_,_,_⟩;go_simp;first|done|with_reducible rfl|rfl
      simp only[Act.put,LA];refine Tk1 (v:=?_) 11 hS0 ?_ ?_;rotate_left
      ·rintro w' ⟨_,_,_,_,_,_⟩;go_simp;first|done|with_reducible rfl|rfl
      simp only[Act.put,LA];refine Tk1 (v:=?_) 12 hS0 ?_ ?_;rotate_left
      ·rintro w' ⟨_,_,_,_,_,_⟩;go_simp;first|done|with_reducible rfl|rfl
      simp only[Act.put,LA];refine Tk1 (v:=?_) 13 hS0 ?_ ?_;rotate_left
      ·rintro w' ⟨_,_,_,_,_,_⟩;go_simp;first|done|with_reducible rfl|rfl
      simp only[Act.put,LA];refine Tk1 (v:=?_) 14 hS0 ?_ ?_;rotate_left
      ·rintro w' ⟨_,_,_,_,_,_⟩;go_simp;first|done|with_reducible rfl|rfl
      simp only[Act.put,LA];refine Tk1 (v:=?_) 15 hS0 ?_ ?_;rotate_left
      ·rintro w' ⟨_,_,_,_,_,_⟩;go_simp;first|done|with_reducible rfl|rfl
      simp only[Act.put,LA];refine Tk1 (v:=?_) 16 hS0 ?_ ?_;rotate_left
      ·rintro w' ⟨_,_,_,_,_,_⟩;go_simp;first|done|with_reducible rfl|rfl
      simp only[Act.put,LA];refine Tk1 (v:=?_) 17 hS0 ?_ ?_;rotate_left
      ·rintro w' ⟨_,_,_,_,_,_⟩;go_simp;first|done|with_reducible rfl|rfl
      simp only[Act.put,LA];refine Rd1 4 fun K hK=>?_;go_simp;refine(zbn (i:Int) _ (by omega) (by omega)).mono ?_;rintro e v1 h_;obtain⟨a1,rfl,ra,b_⟩:=zah h_;have RA:=Hh ra;clear ra h_;dsimp only;have P1:=Hh (P0.out.next b_);have hS1:=P1.out.s HA.out HLT.out HS.out;refine hK.out _ _ hS1 (fun _=>?_);clear hK K b_;refine Rd1 5 fun K hK=>?_;go_simp;refine(ziF u.x.s a1.s u.x.a a1.a u.x.c a1.c u.x.xs a1.xs _ P1.out.r.x.us RA.out.us (by omega) (by have:=zaA RA.out (zbE (by omega)).1 (zbE (by omega)).2;omega)).mono ?_;rintro e v2 h_;obtain⟨x9,rfl,rx,b_,fx⟩:=zmx h_;rw[P1.out.r.x.v,RA.out.v] at rx;have RX:=Hh rx;have FX:=Hh (zqE fx P1.out.rl.o (zac P1.out.k));have LX:=Hh (zle P1.out.r.x RA.out rx hlx (zaA RA.out (zbE (by omega)).1 (zbE (by omega)).2));clear rx h_ fx;dsimp only;have P2:=Hh (P1.out.next b_);have hS2:=P2.out.s HA.out HLT.out HS.out;refine hK.out _ _ hS2 (fun _=>?_);clear hK K b_;refine Rd1 9 fun K hK=>?_;go_simp;refine(zbn (k:Int) _ (by omega) (by omega)).mono ?_;rintro e v3 h_;obtain⟨a3,rfl,rb,b_⟩:=zah h_;have RB3:=Hh rb;have RX:=Hh (RX.out.next b_);clear rb h_;dsimp only;have P3:=Hh (P2.out.next b_);have hS3:=P3.out.s HA.out HLT.out HS.out;refine hK.out _ _ hS3 (fun _=>?_);clear hK K b_;refine Rd1 10 fun K hK=>?_;go_simp;refine(ziF u.y.s a3.s u.y.a a3.a u.y.c a3.c u.y.xs a3.xs _ P3.out.r.y.us RB3.out.us (by omega) (by have:=zaA RB3.out (zbE (by omega)).1 (zbE (by omega)).2;omega)).mono ?_;rintro e v4 h_;obtain⟨y9,rfl,ry,b_,fy⟩:=zmx h_;rw[P3.out.r.y.v,RB3.out.v] at ry;have RY:=Hh ry;have FY:=Hh (zqE fy P3.out.rl.o (zac P3.out.k));have LY:=Hh (zle P3.out.r.y RB3.out ry hly (zaA RB3.out (zbE (by omega)).1 (zbE (by omega)).2));have RX:=Hh (RX.out.next b_);clear ry h_ fy;dsimp only;have P4:=Hh (P3.out.next b_);have hS4:=P4.out.s HA.out HLT.out HS.out;refine hK.out _ _ hS4 (fun _=>?_);clear hK K b_;refine Tk1 (v:=?_) 18 hS4 ?_ ?_;rotate_left
      ·rintro w' ⟨_,_,_,_,_,_⟩;go_simp;first|done|with_reducible rfl|rfl
      simp only[Act.put,LA];refine Rd1 19 fun K hK=>?_;go_simp;have hal:=(Below.refl v4.heap.size v4).alloc (Nat.le_refl _) (.cells #[.bool x9.s,.slice x9.a x9.xs.length x9.c,.bool y9.s,.slice y9.a y9.xs.length y9.c,.int .u8 (((s[i]'hlt').toNat:Nat):Int)] 83);have P5:=Hh (P4.out.next hal);have RX:=Hh (RX.out.next hal);have RY:=Hh (RY.out.next hal);have hS5:=P5.out.s HA.out HLT.out HS.out;refine hK.out _ _ hS5 (fun _=>?_);clear hK K hal;refine Rd1 20 fun K hK=>?_
      try rw[if_pos (by rfl)]
      refine zdp (.tmp 31) (.tmp 50) rfl (w.heap.size+1) v N ⟨x9.s,x9.a,x9.c,x9.xs,y9.s,y9.a,y9.c,y9.xs,(s[i]'hlt').toNat⟩ ⟨v4.heap.size,0,none⟩ 1 rfl rfl P5.out.rl.o (zbA v4 _) (by have:=HLE.out;omega) (Nat.le_trans (zac P5.out.k) (Nat.le_refl _)) ?_;intro v6 w6 ho hg hk9;simp only[Act.put,LA];have P6:=Hh (P5.out.more (x:=⟨x9.s,x9.a,x9.c,x9.xs,y9.s,y9.a,y9.c,y9.xs,(s[i]'hlt').toNat⟩) ⟨RX.out.us,RY.out.us,HB9.out⟩ ⟨RX.out.cn,RY.out.cn,by have:=LX.out;show x9.xs.length≤60000;omega,by have:=LY.out;show y9.xs.length≤60000;omega⟩ FX.out FY.out ho hg hk9);clear ho hg hk9;have hS6:=P6.out.s HA.out HLT.out HS.out;refine hK.out _ _ hS6 (fun _=>?_);clear hK K;have hS6:=P6.out.s HA.out HLT.out HS.out;refine Tk1 (v:=?_) 21 hS6 ?_ ?_;rotate_left
      ·rintro w' ⟨_,_,_,_,_,_⟩;go_simp;first|done|with_reducible rfl|rfl
      simp only[Act.put,LA];refine wpAnyH_done (by kernel_rfl) ?_ _;refine NoPanic.normal ?_;go_wp2_with fail;go_roundw
      case rel=>exact⟨i+1,_,_,by go_num,rfl,HI.out,P6.out,by
       rw[List.map_append,HN.out,zca,if_neg HZ.out,List.append_assoc];congr 2;show[Cl.mk (ival x9.s x9.xs) (ival y9.s y9.xs) _]=_;rw[RX.out.v,RY.out.v,HMB.out]⟩
      case measure=>have:=HI.out;simp[intOf];omega
    ·have e:i=wide:=by omega
     have HE:=Hh e;have t9:decide ((i:Int)<(s.size:Int))=false:=decide_eq_false (by omega);have t10:decide (i<s.size)=false:=decide_eq_false (by omega);have t11:(i<wide)=False:=eq_false (by omega);have t12:decide ((i:Int)<(wide:Int))=false:=decide_eq_false (by omega);have t13:decide (i<wide)=false:=decide_eq_false (by omega);clear hlt e;go_wp2_with fail;go_roundw
     case rel=>exact⟨k+1,_,_,by go_num,rfl,HLT.out,RB.out,by rw[HN.out,HE.out,zdI]⟩
     case measure=>have:=HLT.out;simp[intOf];omega
  ·have e:k=u.L.length:=by omega
   have HE:=Hh e;have t9:decide ((k:Int)<(u.L.length:Int))=false:=decide_eq_false (by omega);have t10:decide (k<u.L.length)=false:=decide_eq_false hlt;have t11:(k<u.L.length)=False:=eq_false hlt;obtain⟨A',c',hv,hcs,hnone,-⟩:=hrc.rl.o.cs (fun x hx=>(hrc.rl.ok x hx).1);have HCS:=Hh hcs;have HNO:=Hh hnone;have HCR:=Hh (show ∀x∈N,CvR x from fun x hx=>(hrc.rl.ok x hx).2.1);subst hv;clear hrc hlt e hcs hnone hN;go_wp2_with fail;go_ret;exact⟨A',c',_,N,rfl,rfl,HCS.out,HNO.out,RB.out.b,by rw[HN.out,HMM.out,HW.out,HE.out],HCR.out⟩
theorem zsz {u:Gr}{N:List Cv}{out:List Nd}{er:Int}(hr:zbb u=true)(hN:N.map Cv.cl=picL (picS u.L) (ival u.x.s u.x.xs) (ival u.y.s u.y.xs) (zaC u.L) u.L.length)(hR:∀x∈N,CvR x)
  (h:(N.all okC=false→er=1∧out=[])∧(N.all okC=true→(1329<zaz (zau (N.map Cv.cl))→er=4∧out=[])∧(zaz (zau (N.map Cv.cl))≤1329→er=0∧zaP (zau (N.map Cv.cl)) out))):GqI u er out:=by
 refine⟨fun e=>by(rw[hr] at e;cases e),fun _=>?_⟩;have hok:N.all okC=true:=List.all_eq_true.2 fun v hv=>zvJ (hR v hv);have hl:zau (N.map Cv.cl)=ziX u:=by rw[hN];exact zjR _ _ _ _ _
 have h2:=h.2 hok;rw[hl] at h2;exact h2
theorem zie (u:Gr)(w:World)(h:u.U w)(hlx:u.x.xs.length≤50)(hly:u.y.xs.length≤50)(hl9:u.L.length≤9223372036854775000)(hct:zbb u=true→(picL (picS u.L) 0 0 (zaC u.L) u.L.length).length≤600) :
  Calls Tryz.prog 16 #[u.val] w (zvI u w):=by
 have HQ:=Hh (Qq.start h);obtain⟨c0,c1,c2,c3,c4⟩:=Gr.cells HQ.out.gk;have z0:=zaa HQ.out.rk;have f0:=zaj HQ.out.rk;cases hr:zbb u with
 | false =>
  have HR:=Hh hr;clear h hct hr;go_enter Tryz.func16,Tryz.ntmps16;go_wp2_with (go_at_call 18;go_loud (refine(zeu u _ HQ.out.u hl9 (by omega) (by omega)).mono ?_;rintro e w2 ⟨rfl,b_⟩;rw[HR.out];have HQ:=Hh (HQ.out.next b_);clear c0 c1 c2 c3 c4 z0 f0 b_;obtain⟨c0,c1,c2,c3,c4⟩:=Gr.cells HQ.out.gk;have z0:=zaa HQ.out.rk;have f0:=zaj HQ.out.rk));have e1:=World.cell?_setCell_same _ _ (.slice none 0 0) z0;refine bodyPost_ret (v:=.tuple #[.agg #[.slice none 0 0],.int .i64 1]) (by simp[results,Tryz.results16,go_sem,e1]) rfl ?_;exact⟨none,0,0,[],1,rfl,rfl,zfG _,fun _=>rfl,HQ.out.b.setCell (p:=⟨w.heap.size+1,0,none⟩) (by show w.heap.size≤w.heap.size+1;omega) _,fun _=>⟨rfl,rfl⟩,fun e=>by(rw[HR.out] at e;cases e)⟩
 | true =>
  have HR:=Hh hr;have HCT:=Hh (hct hr);have HRW:=Hh (zhk (zeh hr));clear h hct hr;go_enter Tryz.func16,Tryz.ntmps16;go_wp2_with (first
   | (go_at_call 18;go_loud (refine(zeu u _ HQ.out.u hl9 (by omega) (by omega)).mono ?_;rintro e w2 ⟨rfl,b_⟩;rw[HR.out];have HQ:=Hh (HQ.out.next b_);clear c0 c1 c2 c3 c4 z0 f0 b_;obtain⟨c0,c1,c2,c3,c4⟩:=Gr.cells HQ.out.gk;have z0:=zaa HQ.out.rk;have f0:=zaj HQ.out.rk))
   | (go_at_call 36;go_loud (refine(zlk u _ _ _ (zqy HQ.out.u HR.out) hlx hly (zeh HR.out)).mono ?_;rintro e w3 ⟨A3,c3',n3,N,rfl,hn3,cs3,a3,b_,hN,hNR⟩;have HQ:=Hh (HQ.out.next b_);have CS:=Hh cs3;have HN:=Hh hN;have HN3:=Hh hn3;have HNR:=Hh hNR;have LE6:=Hh (show n3≤600 by(have h1:(N.map Cv.cl).length=N.length:=List.length_map _;rw[hN,zhj _ _ _ 0 0] at h1;have:=HCT.out;omega));clear cs3 a3 b_ hN hNR hn3 c0 c1 c2 c3 c4 z0 f0;obtain⟨c0,c1,c2,c3,c4⟩:=Gr.cells HQ.out.gk;have z0:=zaa HQ.out.rk;have f0:=zaj HQ.out.rk))
   | (go_at_call 25;go_loud (refine(zpC A3 c3' n3 N _ CS.out HN3.out LE6.out (fun v hv=>⟨(HNR.out v hv).2.2.1,(HNR.out v hv).2.2.2⟩)).mono ?_;rintro e w4 ⟨A4,c4',qn,out,er,rfl,ql,n4,a4,b_,ofc⟩;have HQ:=Hh (HQ.out.next b_);have N4:=Hh n4;have A4':=Hh a4;have QL:=Hh ql;have OFC:=Hh ofc;clear b_ ofc n4 a4 ql c0 c1 c2 c3 c4 z0 f0;obtain⟨c0,c1,c2,c3,c4⟩:=Gr.cells HQ.out.gk;have z0:=zaa HQ.out.rk;have f0:=zaj HQ.out.rk)))
  have e1:=World.cell?_setCell_same _ _ (.slice A4 qn c4') z0;refine bodyPost_ret (v:=.tuple #[.agg #[.slice A4 qn c4'],.int .i64 er]) (by simp[results,Tryz.results16,go_sem,e1]) rfl ?_;exact⟨A4,c4',_,out,er,rfl,QL.out,N4.out.boxed HQ.out.rk,A4'.out,HQ.out.b.setCell (p:=⟨w.heap.size+1,0,none⟩) (by show w.heap.size≤w.heap.size+1;omega) _,zsz HR.out HN.out HNR.out OFC.out⟩
theorem zuM {q:List Nd}{n:Nat}{most er X Y:Int}{L:List (List UInt8)}(g:GoI q n most er X Y L):L.length≤9223372036854775000:=by
 rcases g with⟨-,-,-,-,rfl⟩|⟨h0,ok,X',Y',V,H,b,h1⟩
 ·exact Nat.zero_le _
 ·rcases h1 with⟨-,-,-,-,rfl⟩|⟨h4,-,-,-,rfl⟩
  ·exact Nat.zero_le _
  ·rw[zcb];omega
theorem znF (A:Option Addr)(c n:Nat)(q:List Nd)(most:Int)(w:World)(h:Ns w A c q)(hn:q.length=n)(hn9:n≤900000)(hg:zao q)(hm : -9223372036854775808≤most∧most≤9223372036854775807)
  (hct:∀er X Y L,GoI q n most er X Y L→(picL (picS L) 0 0 (zaC L) L.length).length≤600) :
  Calls Tryz.prog 11 #[.agg #[.slice A n c],.int .i64 most] w (zvK q n most w):=by
 have HO:=Hh (Oh.start (n:=n) h);have HL:=Hh hn;have HG:=Hh hg;have HCT:=Hh hct;have y0:=zaa HO.out.qk;have z0:=zaa HO.out.rk;have f0:=zaj HO.out.rk;clear h hn hg hct;go_enter Tryz.func11,Tryz.ntmps11;go_upto_if 15 with(go_at_call 9;go_loud (refine(zmw A c n q most _ HO.out.ns HL.out hn9 HG.out hm).mono ?_;rintro e w2 ⟨u,X,Y,er,rfl,ru,-,ua,b_,gi⟩;have hal:=(Below.refl w2.heap.size w2).alloc (Nat.le_refl _) u.obj;have UB:=Hh (heap_alloc_new w2 u.obj);have RU:=Hh (ru.next hal);have GI:=Hh gi;have HO:=Hh ((HO.out.next b_).next hal);clear ru ua b_ gi hal y0 z0 f0;have y0:=zaa HO.out.qk;have z0:=zaa HO.out.rk;have f0:=zaj HO.out.rk;obtain⟨u0,u1,u2,u3,u4⟩:=Gr.cells UB.out))
 by_cases he:er=0
 ·subst he;go_wp2_with (go_at_call 16;go_loud (refine(zie (Gr.mk bw0 bw0 u.a u.c u.L) _ (zuK RU.out.t) (Nat.zero_le _) (Nat.zero_le _) (zuM GI.out) (fun _=>HCT.out _ _ _ _ GI.out)).mono ?_;rintro e w3 ⟨A3,c3,m,p,er3,rfl,l3,n3,a3,b_,gq⟩;have HO:=Hh (HO.out.next b_);have L3:=Hh l3;have N3:=Hh n3;have A3':=Hh a3;have GQ:=Hh gq;clear l3 n3 a3 b_ gq y0 z0 f0 u0 u1 u2 u3 u4;have y0:=zaa HO.out.qk;have z0:=zaa HO.out.rk;have f0:=zaj HO.out.rk));have e1:=World.cell?_setCell_same _ _ (.slice A3 m c3) z0;refine bodyPost_ret (v:=.tuple #[.agg #[.slice A3 m c3],.int .i64 er3]) (by simp[results,Tryz.results11,go_sem,e1]) rfl ?_;exact⟨A3,c3,m,p,er3,rfl,L3.out,N3.out.boxed HO.out.rk,A3'.out,HO.out.b.setCell (p:=⟨w.heap.size+1,0,none⟩) (by show w.heap.size≤w.heap.size+1;omega) _,0,X,Y,u.L,GI.out,.inr ⟨rfl,GQ.out⟩⟩
 ·have t1:(er != 0)=true:=by rw[bne_iff_ne];exact he
  have HE:=Hh he;clear he;go_wp2_with fail;have e1:=World.cell?_setCell_same _ _ (.slice none 0 0) z0;refine bodyPost_ret (v:=.tuple #[.agg #[.slice none 0 0],.int .i64 er]) (by simp[results,Tryz.results11,go_sem,e1]) rfl ?_;exact⟨none,0,0,[],er,rfl,rfl,zfG _,fun _=>rfl,HO.out.b.setCell (p:=⟨w.heap.size+1,0,none⟩) (by show w.heap.size≤w.heap.size+1;omega) _,er,X,Y,u.L,GI.out,.inl ⟨HE.out,rfl,rfl⟩⟩
theorem zqF {l:List Cl}{q:List Nd}{n:Nat}{most er X Y:Int}{L:List (List UInt8)}(hq:zaP (zau l) q)(hn:q.length=n)(few:(zau l).length≤600)(g:GoI q n most er X Y L):(picL (picS L) 0 0 (zaC L) L.length).length≤600:=by
 subst hn;rcases g with⟨-,-,-,-,rfl⟩|⟨-,ok,X',Y',V,H,b,h1⟩
 ·exact Nat.zero_le _
 ·obtain⟨hb,h2,h3⟩:=b.boxp hq.good;rcases h1 with⟨-,-,-,-,rfl⟩|⟨h4,-,-,-,rfl⟩
  ·exact Nat.zero_le _
  ·rw[zfD _ hb.flat,zcb,zhj _ 0 0 X' Y',hb.list hq];exact few
theorem zqG
  (A:Option Addr) (c n:Nat) (l:List Cv) (most:Int) (w:World) (h:Cs w A c l) (hn:l.length=n) (hmo : -9223372036854775808≤most∧most≤9223372036854775807) (hm:mayB l 20=false) :
  Calls Tryz.prog 3 #[.slice A n c,.int .i64 most] w fun e w'=>e=.returned (.bool true)∧Below w.heap.size w w':=by
 have HC:=Hh h;have HN:=Hh hn;have HM:=Hh hm;have q0:True:=trivial;clear h hn hm;go_enter Tryz.func3,Tryz.ntmps3;go_wp2_with (first
  | (have _t:=q0;go_at_call 6;clear _t;go_loud (refine(zbm _).mono ?_;rintro e w1 ⟨rfl,b_⟩;have SS:=Hh ((Sx.start w).next b_);have HC:=Hh (HC.out.below b_);clear b_;have q1:=q0;clear q0))
  | (have _t:=q1;go_at_call 7;clear _t;go_loud (refine(zdL A c n 20 l _ HC.out HN.out (by omega)).mono ?_;rintro e w2 ⟨A3,c3,qn,q,ok,rfl,l_,n_,-,b_,ok_,-,-⟩;rw[HM.out] at ok_;subst ok_;have SS:=Hh (SS.out.next b_);clear l_ n_ b_;have q2:=q1;clear q1)))
 go_ret;exact⟨rfl,SS.out.b.alloc SS.out.b.size _⟩
theorem znG
  (A:Option Addr) (c n:Nat) (l:List Cv) (most:Int) (w:World) (h:Cs w A c l) (hn:l.length=n) (hmo : -9223372036854775808≤most∧most≤9223372036854775807) (hm:mayB l 20=true) (h1:40<most) (h2:most≤1000) :
  Calls Tryz.prog 3 #[.slice A n c,.int .i64 most] w fun e w'=>e=.returned (.bool true)∧Below w.heap.size w w':=by
 have HC:=Hh h;have HN:=Hh hn;have HM:=Hh hm;have q0:True:=trivial;have HL:=Hh (ziW.1 hm).2.2;have HF:=Hh (show(zau (l.map Cv.cl)).length≤20 by
  have h1:=zgg (l.map Cv.cl);rw[List.length_map] at h1;have h2:=(zqv hm).1;omega)
 have t4:decide (most>40)=true:=decide_eq_true h1;have t5:decide (most≤1000)=true:=decide_eq_true h2;clear h hn hm;go_enter Tryz.func3,Tryz.ntmps3;go_wp2_with (first
  | (have _t:=q0;go_at_call 6;clear _t;go_loud (refine(zbm _).mono ?_;rintro e w1 ⟨rfl,b_⟩;have SS:=Hh ((Sx.start w).next b_);have HC:=Hh (HC.out.below b_);clear b_;have q1:=q0;clear q0))
  | (have _t:=q1;go_at_call 7;clear _t;go_loud (refine(zdL A c n 20 l _ HC.out HN.out (by omega)).mono ?_;rintro e w2 ⟨A3,c3,qn,q,ok,rfl,l_,n_,-,b_,ok_,-,hq_⟩;rw[HM.out] at ok_;subst ok_;have QQ:=Hh (hq_ rfl);have LQ:=Hh (show q.length=qn∧qn≤900000 from⟨l_,by have h1:=QQ.out.lenF.2;have h2:=HF.out;omega⟩);have HC:=Hh (HC.out.below (b_.trans ((Below.refl w2.heap.size w2).alloc (Nat.le_refl _) (.cells #[.slice A3 qn c3] 26) |>.mono b_.size)));have SS:=Hh (((SS.out.next b_).addQ n_).box (.cells #[.slice A3 qn c3] 26));clear l_ n_ b_ hq_;have b0:=zaa (SS.out.bx 0 _ _ rfl);have q2:=q1;clear q1)))
 go_ret;exact⟨rfl,SS.out.b⟩
theorem zif
  (A:Option Addr) (c n:Nat) (l:List Cv) (most:Int) (w:World) (h:Cs w A c l) (hn:l.length=n) (hmo : -9223372036854775808≤most∧most≤9223372036854775807) (hm:mayB l 20=true) (hb:(decide (most>40)=false∧True)∨(decide (most>40)=true∧decide (most≤1000)=false)) :
  Calls Tryz.prog 3 #[.slice A n c,.int .i64 most] w fun e w'=>e=.returned (.bool true)∧Below w.heap.size w w':=by
 have HC:=Hh h;have HN:=Hh hn;have HM:=Hh hm;have q0:True:=trivial;have HL:=Hh (ziW.1 hm).2.2;have HF:=Hh (show(zau (l.map Cv.cl)).length≤20 by
  have h1:=zgg (l.map Cv.cl);rw[List.length_map] at h1;have h2:=(zqv hm).1;omega)
 clear h hn hm;rcases hb with⟨t4,t5⟩|⟨t4,t5⟩ <;> (
  go_enter Tryz.func3,Tryz.ntmps3;go_wp2_with (first
   | (have _t:=q0;go_at_call 6;clear _t;go_loud (refine(zbm _).mono ?_;rintro e w1 ⟨rfl,b_⟩;have SS:=Hh ((Sx.start w).next b_);have HC:=Hh (HC.out.below b_);clear b_;have q1:=q0;clear q0))
   | (have _t:=q1;go_at_call 7;clear _t;go_loud (refine(zdL A c n 20 l _ HC.out HN.out (by omega)).mono ?_;rintro e w2 ⟨A3,c3,qn,q,ok,rfl,l_,n_,-,b_,ok_,-,hq_⟩;rw[HM.out] at ok_;subst ok_;have QQ:=Hh (hq_ rfl);have LQ:=Hh (show q.length=qn∧qn≤900000 from⟨l_,by have h1:=QQ.out.lenF.2;have h2:=HF.out;omega⟩);have HC:=Hh (HC.out.below (b_.trans ((Below.refl w2.heap.size w2).alloc (Nat.le_refl _) (.cells #[.slice A3 qn c3] 26) |>.mono b_.size)));have SS:=Hh (((SS.out.next b_).addQ n_).box (.cells #[.slice A3 qn c3] 26));clear l_ n_ b_ hq_;have b0:=zaa (SS.out.bx 0 _ _ rfl);have q2:=q1;clear q1))
   | (have _t:=q2;go_at_call 8;clear _t;go_loud (refine(zfC A3 c3 qn q most _ (SS.out.qs 0 _ _ _ rfl) LQ.out.1 LQ.out.2 QQ.out.good hmo).mono ?_;rintro e w3 ⟨u,X,Y,er,rfl,r_,lu_,-,b_,g_⟩;have GI:=Hh g_;have LU:=Hh lu_;have SS:=Hh (((SS.out.next b_).addG r_).box u.obj);clear r_ b_ g_ lu_;clear b0;have b0:=zaa (SS.out.bx 0 _ _ rfl);obtain⟨g0,g1,g2,g3,g4⟩:=Gr.cells (SS.out.bx 1 _ _ rfl);have q3:=q2;clear q2))
   | (have _t:=q3;go_at_call 9;clear _t;go_loud (refine(zmw A3 c3 qn q most _ (SS.out.qs 0 _ _ _ rfl) LQ.out.1 LQ.out.2 QQ.out.good hmo).mono ?_;rintro e w4 ⟨v,X9,Y9,er9,rfl,r_,-,-,b_,g_⟩;obtain⟨rfl,rfl,rfl,lh_⟩:=GI.out.one g_;have LH:=Hh lh_;have SS:=Hh (((SS.out.next b_).addG r_).box v.obj);clear r_ b_ g_ lh_;clear b0 g0 g1 g2 g3 g4;have b0:=zaa (SS.out.bx 0 _ _ rfl);obtain⟨g0,g1,g2,g3,g4⟩:=Gr.cells (SS.out.bx 1 _ _ rfl);obtain⟨k0,k1,k2,k3,k4⟩:=Gr.cells (SS.out.bx 2 _ _ rfl);have q4:=q3;clear q3))
   | (have _t:=q4;go_at_call 10;clear _t;go_loud (refine(zka A3 c3 qn q most _ (SS.out.qs 0 _ _ _ rfl) LQ.out.1 LQ.out.2 QQ.out.good hmo (fun er X Y L k=>zqF QQ.out LQ.out.1 (Nat.le_trans HF.out (by omega)) k)).mono ?_;rintro e w5 ⟨A5,c5,m5,p,e5,rfl,l_,n_,-,b_,g_⟩;have GH:=Hh g_;have L5:=Hh l_;have SS:=Hh (((SS.out.next b_).addQ n_).box (.cells #[.slice A5 m5 c5] 26));clear l_ n_ b_ g_;clear b0 g0 g1 g2 g3 g4 k0 k1 k2 k3 k4;have b0:=zaa (SS.out.bx 0 _ _ rfl);obtain⟨g0,g1,g2,g3,g4⟩:=Gr.cells (SS.out.bx 1 _ _ rfl);obtain⟨k0,k1,k2,k3,k4⟩:=Gr.cells (SS.out.bx 2 _ _ rfl);have h0:=zaa (SS.out.bx 3 _ _ rfl);have q5:=q4;clear q4))
   | (have _t:=q5;go_at_call 11;clear _t;go_loud (refine(znF A3 c3 qn q most _ (SS.out.qs 0 _ _ _ rfl) LQ.out.1 LQ.out.2 QQ.out.good hmo (fun er X Y L k=>zqF QQ.out LQ.out.1 (Nat.le_trans HF.out (by omega)) k)).mono ?_;rintro e w6 ⟨A6,c6,m6,p9,e9,rfl,l_,n_,-,b_,g_⟩;obtain⟨rfl,rfl⟩:=GH.out.one g_;have L6:=Hh l_;have SS:=Hh (((SS.out.next b_).addQ n_).box (.cells #[.slice A6 m6 c6] 26));clear l_ n_ b_ g_;clear b0 g0 g1 g2 g3 g4 k0 k1 k2 k3 k4 h0;have b0:=zaa (SS.out.bx 0 _ _ rfl);obtain⟨g0,g1,g2,g3,g4⟩:=Gr.cells (SS.out.bx 1 _ _ rfl);obtain⟨k0,k1,k2,k3,k4⟩:=Gr.cells (SS.out.bx 2 _ _ rfl);have h0:=zaa (SS.out.bx 3 _ _ rfl);have p0:=zaa (SS.out.bx 4 _ _ rfl);have q6:=q5;clear q5))
   | (have _t:=q6;go_at_call 12;clear _t;go_loud (refine(zei u v _ (SS.out.gs 0 _ _ _ rfl).u (SS.out.gs 1 _ _ _ rfl).u LU.out.1 LU.out.2).mono ?_;rintro e w7 ⟨rfl,b_⟩;rw[zfi (SS.out.gs 0 _ _ _ rfl) (SS.out.gs 1 _ _ _ rfl) LH.out];have u6:(er==er)=true:=beq_self_eq_true _;have SS:=Hh (SS.out.next b_);clear b_;clear b0 g0 g1 g2 g3 g4 k0 k1 k2 k3 k4 h0 p0;have b0:=zaa (SS.out.bx 0 _ _ rfl);obtain⟨g0,g1,g2,g3,g4⟩:=Gr.cells (SS.out.bx 1 _ _ rfl);obtain⟨k0,k1,k2,k3,k4⟩:=Gr.cells (SS.out.bx 2 _ _ rfl);have h0:=zaa (SS.out.bx 3 _ _ rfl);have p0:=zaa (SS.out.bx 4 _ _ rfl);have q7:=q6;clear q6))
   | (have _t:=q7;go_at_call 13;clear _t;go_loud (refine(zjv A5 A6 c5 c6 m5 m6 p p _ (SS.out.qs 1 _ _ _ rfl) (SS.out.qs 2 _ _ _ rfl) L5.out L6.out).mono ?_;rintro e w8 ⟨rfl,b_⟩;rw[decide_eq_true (rfl:p=p)];have u7:(e5==e5)=true:=beq_self_eq_true _;have SS:=Hh (SS.out.next b_);clear b_;clear b0 g0 g1 g2 g3 g4 k0 k1 k2 k3 k4 h0 p0;have b0:=zaa (SS.out.bx 0 _ _ rfl);obtain⟨g0,g1,g2,g3,g4⟩:=Gr.cells (SS.out.bx 1 _ _ rfl);obtain⟨k0,k1,k2,k3,k4⟩:=Gr.cells (SS.out.bx 2 _ _ rfl);have h0:=zaa (SS.out.bx 3 _ _ rfl);have p0:=zaa (SS.out.bx 4 _ _ rfl);have q8:=q7;clear q7)))
  go_ret;exact⟨rfl,SS.out.b⟩)
theorem znH (A:Option Addr)(c:Nat)(l:List Cv)(most:Int)(w:World)(h:Cs w A c l)(hmo : -9223372036854775808≤most∧most≤9223372036854775807) :
  Calls Tryz.prog 3 #[.slice A l.length c,.int .i64 most] w fun e w'=>e=.returned (.bool true)∧Below w.heap.size w w':=by
 cases hm:mayB l 20 with
 | false=>exact zqG A c _ l most w h rfl hmo hm
 | true =>
  by_cases h1:40<most
  ·by_cases h2:most≤1000
   ·exact znG A c _ l most w h rfl hmo hm h1 h2
   ·exact zif A c _ l most w h rfl hmo hm (.inr ⟨decide_eq_true h1,decide_eq_false h2⟩)
  ·exact zif A c _ l most w h rfl hmo hm (.inl ⟨decide_eq_false h1,trivial⟩)
end Go.Proofs.YtikehjindobpkaaGreat
