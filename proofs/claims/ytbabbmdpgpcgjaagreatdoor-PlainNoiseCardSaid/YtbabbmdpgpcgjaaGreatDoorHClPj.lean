import Derived.Test.YtbabbmdpgpcgjaaGreatDoorHClNp

set_option linter.unusedVariables false
set_option linter.unusedSimpArgs false
set_option maxRecDepth 100000
set_option maxHeartbeats 6400000
namespace Go.Proofs.YtbabbmdpgpcgjaaGreatDoor
open Go.RowKit Nds Num
def zxU (base bb bm:Nat)(v:Value)(r:List Nd × Int)(w:World)(e:Ending)(w':World):Prop :=
 ∃v',e=.returned (.int .i64 r.2)∧Bd w' base bb bm v' r.1∧(∀k,v'.ownBlock=some k→v.ownBlock=some k∨w.heap.size≤k)∧Ky (BdP bb bm v) w w'
theorem Cs.take {w:World}{A:Option Addr}{c:Nat}{l:List Cv}(h:Cs w A c l)(k:Nat):Cs w A c (l.take k):=by
 refine⟨fun v hv=>h.1 v (List.mem_of_mem_take hv),by rw[List.length_take];have:=h.2.1;omega,h.2.2.1,fun hn=>?_⟩;rw[List.length_take] at hn;obtain⟨b,off,e,hb,hc⟩:=h.2.2.2 (by omega);refine⟨b,off,e,hb,fun i hi=>?_⟩;rw[List.length_take] at hi;have e1:cat (l.take k) i=cat l i:=by
  unfold cat;rw[List.getElem?_take,if_pos (by omega)]
 rw[e1];exact hc i (by omega)
theorem Cs.drop {w:World}{b off c:Nat}{l:List Cv}(h:Cs w (some ⟨b,off,none⟩) c l)(k:Nat)(hk:k≤l.length)(A':Option Addr)(hA:k<l.length→A'=some ⟨b,off+k*5,none⟩):Cs w A' (c-k) (l.drop k):=by
 have h1:=h.2.1;refine⟨fun v hv=>h.1 v (List.mem_of_mem_drop hv),by rw[List.length_drop];omega,by have:=h.2.2.1;omega,fun hn=>?_⟩;rw[List.length_drop] at hn;obtain⟨b2,off2,e,hb,hc⟩:=h.2.2.2 (by omega);cases e;refine⟨b,off+k*5,hA (by omega),hb,fun i hi=>?_⟩;rw[List.length_drop] at hi;have e1:cat (l.drop k) i=cat l (k+i):=by
  unfold cat;rw[List.getElem?_drop]
 rw[e1,show off+k*5+i*5=off+(k+i)*5 by omega];exact hc (k+i) (by omega)
def zwq (W:World)(B:Nat):Nat:=match W.cell? ⟨B,0,none⟩ with|some (.slice _ n _)=>n|_=>0
theorem znw {W:World}{B:Nat}{A:Option Addr}{n c:Nat}(h:W.cell? ⟨B,0,none⟩=some (.slice A n c)):zwq W B=n:=by
 unfold zwq;rw[h]
theorem zrh (base bb bm:Nat)(v:Value)(out:List Nd)(A:Option Addr)(c n:Nat)(l:List Cv)(w:World)(hC:Cs w A c l)(hn:l.length=n)(hn0:0<n)(h:Bd w base bb bm v out) :
  Calls Tryz.prog 144 #[.pointer (some ⟨bb,0,none⟩),.slice A n c,.int .i64 0] w (zxU base bb bm v (enc (zaF 0 l) out) w):=by
 have hcap:=hC.cap;rw[hn] at hcap;obtain⟨b,off,rfl,hbl,hc⟩:=hC.at_ (by omega)
 obtain⟨c1,c2,c3,c4,c5⟩:=hc 0 (by omega);simp only[Nat.zero_mul,Nat.add_zero] at c1 c2 c3 c4 c5;have hu:=hC.1 _ (zaZ (i:=0) (by omega));have he:enc (zaF 0 l) out=(out,((cat l 0).st:Int)):=by
  cases l with
  | nil=>simp at hn;omega
  | cons u l=>rfl
 obtain⟨s,hs⟩:∃s,s=(cat l 0).st:=⟨_,rfl⟩;have hs9:s≤255:=by rw[hs];exact hu.2.2
 rw[he];rw[←hs] at c5 ⊢;have HB:=Hh h;have i1:(0:Int)<(n:Int):=by omega
 obtain⟨W,hW⟩:∃W:World,W=(w.alloc (.cells #[.slice (some ⟨b,off,none⟩) n c] 35)).alloc (.cells #[.int .i64 0] 3):=⟨_,rfl⟩;have HL:=Hh (show Below w.heap.size w W by rw[hW];exact((Below.refl _ w).alloc (Nat.le_refl _) _).alloc (by simp) _);have HW:=Hh hW;clear hC hc hu he hs h hW c1 c2 c3 c4;go_enter Tryz.func144,Tryz.ntmps144;go_wp2_with fail;go_ret;rw[←HW.out];exact⟨v,zcH rfl,HB.out.next HL.out,fun k hk=>.inl hk,(Ky.refl _ w).below HL.out⟩
theorem zbs.kidAt {w:World}{g:Nat}{x:Nd}(h:zbs w g x){k:Nat}(hk:k<4):w.cell? ⟨g,1+k,none⟩=some (.int .i64 (x.kid k)):=by
 obtain⟨h0,h1,h2,h3,h4⟩:=h.at_
 match k,hk with
 | 0,_=>exact h1
 | 1,_=>exact h2
 | 2,_=>exact h3
 | 3,_=>exact h4
structure NJ (w0 w:World)(base bb bm:Nat)(v:Value)(out:List Nd)(m:Nat)(l:List Cv)(j:Nat)(v1:Value)(A:Option Addr)(c r:Nat)(W:World):Prop where
 hr:(remQ l m j).length=r
 cs:Cs w0 A c (remQ l m j)
 bl:W.heap[w.heap.size]?=some (.cells #[.slice A r c] 35)
 bv:W.heap[w.heap.size+1]?=some (.cells #[.int .i64 ((m:Int)+1)] 3)
 bx:zbs W (w.heap.size+2) (mix ⟨(m:Int)+1,0,0,0,0⟩ (topN (fQ m l) out ((m:Int)+1)) j)
 bd:Bd W base bb bm v1 (outK (fQ m l) out j)
 vb:∀k,v1.ownBlock=some k→v.ownBlock=some k∨w.heap.size+3≤k
 ky:Ky (BdP bb bm v) w W
 sz:w.heap.size+3≤W.heap.size
theorem NJ.next {w0 w:World}{base bb bm:Nat}{v:Value}{out:List Nd}{m:Nat}{l:List Cv}{j:Nat}{v1:Value}{A:Option Addr}{c r:Nat}{W W1:World}(h:NJ w0 w base bb bm v out m l j v1 A c r W)(k:Below W.heap.size W W1):NJ w0 w base bb bm v out m l j v1 A c r W1 :=
 have hs:=h.sz
 ⟨h.hr,h.cs,(k.block _ (by omega)).trans h.bl,(k.block _ (by omega)).trans h.bv,h.bx.stay (k.block _ (by omega)),h.bd.next k,h.vb,h.ky.below k,Nat.le_trans h.sz k.size⟩
theorem NJ.below {w0 w:World}{base bb bm:Nat}{v:Value}{out:List Nd}{m:Nat}{l:List Cv}{j:Nat}{v1:Value}{A:Option Addr}{c r:Nat}{W:World}(h:NJ w0 w base bb bm v out m l j v1 A c r W)(hb:Below w0.heap.size w0 w)(h1:w0.heap.size≤bb∧w0.heap.size≤bm∧w0.heap.size≤base)(ho:∀k,v.ownBlock=some k→base≤k):Below w0.heap.size w0 W :=
 hb.trans (h.ky.to hb.size (fun k hk=>by
  rcases hk with rfl|rfl|hk
  ·exact h1.1
  ·exact h1.2.1
  ·exact Nat.le_trans h1.2.2 (ho k hk)))
def cntQ (m:Nat)(l:List Cv)(k:Nat):Nat:=l.countP fun v=>decide (quaC v m<k)
theorem zkI (m:Nat)(l:List Cv)(k:Nat):cntQ m l (k+1)=cntQ m l k+(l.filter (inQ m k)).length:=by
 unfold cntQ;rw[←List.countP_eq_length_filter]
 induction l with
 | nil=>rfl
 | cons v l ih =>
  rw[List.countP_cons,List.countP_cons,List.countP_cons,ih];unfold inQ;rcases Nat.lt_trichotomy (quaC v m) k with h|h|h
  ·rw[if_pos (by simp;omega),if_pos (by simpa using h),if_neg (by simp;omega)];omega
  ·rw[if_pos (by simp;omega),if_neg (by simp;omega),if_pos (by simpa using h)];omega
  ·rw[if_neg (by simp;omega),if_neg (by simp;omega),if_neg (by simp;omega)];omega
theorem zwr (m:Nat)(l:List Cv)(k:Nat):cntQ m l k≤l.length:=List.countP_le_length
theorem znx (m:Nat)(l:List Cv)(out:List Nd):∀k,(outK (fQ m l) out k).length≤out.length+m*cntQ m l k
 | 0=>Nat.le_add_right _ _
 | k+1=>by
  have h1:=znx m l out k;have h2:=zfC m (l.filter (inQ m k)) (outK (fQ m l) out k);rw[zkI,Nat.mul_add];show(enc (zaF m (l.filter (inQ m k))) (outK (fQ m l) out k)).1.length≤_;omega
theorem ztR (base bb bm:Nat)(w0:World)(hd:bb≠bm)(hb:bb<base∧bm<base)(hlo:w0.heap.size≤bb∧w0.heap.size≤bm):∀(m:Nat),m≤1329→∀(A:Option Addr) (c n:Nat) (l:List Cv) (hx hy:Nat) (v:Value) (out:List Nd) (w:World),
  l.length=n→0<n→n≤900000→Cs w0 A c l→Below w0.heap.size w0 w→Bd w base bb bm v out→zas out→HiB m hx hy l→Zs l→(∀u∈l,1≤u.st∧u.st≤255)→(∀u∈l,u.xs.length≤60000∧u.ys.length≤60000)→out.length+m*n≤900000→base≤w.heap.size →
  Calls Tryz.prog 144 #[.pointer (some ⟨bb,0,none⟩),.slice A n c,.int .i64 (m:Int)] w (zxU base bb bm v (enc (zaF m l) out) w):=by
 intro m
 induction m with
 | zero =>
  intro hm A c n l hx hy v out w hn hn0 hn9 hC hw hB hg hHi hZ hst hln hlen hbs;exact zrh base bb bm v out A c n l w (hC.below hw) hn hn0 hB
 | succ m ih =>
  intro hm A c n l hx hy v out w hn hn0 hn9 hC hw hB hg hHi hZ hst hln hlen hbs;have hne:l≠[]:=fun e=>by subst e;simp at hn;omega
  have hcap:=hC.cap;rw[hn] at hcap;have hQ:=hZ.quarters hHi;have hvo:∀k,v.ownBlock=some k→base≤k∧k<w.heap.size:=fun k hk=>hB.o.lt k hk;obtain⟨W,hW⟩:∃W:World,W=(((w.alloc (.cells #[.slice A n c] 35)).alloc (.cells #[.int .i64 ((m:Int)+1)] 3)).alloc (.cells #[.int .i64 ((m:Int)+1),.int .i64 0,.int .i64 0,.int .i64 0,.int .i64 0] 112)):=⟨_,rfl⟩;have hL:Below w.heap.size w W:=by rw[hW];exact(((Below.refl _ w).alloc (Nat.le_refl _) _).alloc (by simp) _).alloc (by simp;omega) _
  have hJ0:NJ w0 w base bb bm v out m l 0 v A c n W:=by
   refine⟨by rw[znv];exact hn,by rw[znv];exact hC,?_,?_,?_,hB.next hL,fun k hk=>.inl hk,(Ky.refl _ w).below hL,by rw[hW];simp only[World.size_alloc];omega⟩
   ·rw[hW];exact(Below.heap_alloc _ _ _ (by simp only[World.size_alloc];omega)).trans ((Below.heap_alloc _ _ _ (by simp only[World.size_alloc];omega)).trans (heap_alloc_new w _))
   ·rw[hW];refine(Below.heap_alloc _ _ _ (by simp only[World.size_alloc];omega)).trans ?_;have:=heap_alloc_new (w.alloc (.cells #[.slice A n c] 35)) (.cells #[.int .i64 ((m:Int)+1)] 3)
    rwa [World.size_alloc] at this
   ·rw[hW];have:=zbs.new ((w.alloc (.cells #[.slice A n c] 35)).alloc (.cells #[.int .i64 ((m:Int)+1)] 3)) ⟨(m:Int)+1,0,0,0,0⟩
    rwa [World.size_alloc,World.size_alloc] at this
  have HJ0:=Hh hJ0;have HW:=Hh hW;have HIH:=Hh ih;have HQQ:=Hh hQ;have HST:=Hh hst;have HLN:=Hh hln;have HHI:=Hh hHi;have HZZ:=Hh hZ;have HGG:=Hh hg;have HBB:=Hh hB;have HW0:=Hh hw;have HVO:=Hh hvo;have HNE:=Hh hne;have HN:=Hh hn;have HLEN:=Hh hlen;have i0:(((m+1:Nat):Int))=(m:Int)+1:=by omega
  have i1:(((m:Int)+1)==0)=false:=by rw[beq_eq_false_iff_ne];omega
  rw[i0];clear ih hQ hst hln hHi hZ hg hB hw hvo hne hn hlen hW hJ0 hL hC i0;go_enter Tryz.func144,Tryz.ntmps144;go_wp2_with fail;go_loopw [9] (fun z wr=>∃(j:Nat) (u v1:Value) (A1:Option Addr) (c1 r1:Nat),z=u∧j≤4∧NJ w0 w base bb bm v out m l j v1 A1 c1 r1 wr) (fun _ W=>zwq W w.heap.size)
  case atStart=>exact⟨0,_,v,A,c,n,rfl,by omega,by rw[←HW.out];exact HJ0.out⟩
  case round =>
   obtain⟨j,u,v1,A1,c1,r1,rfl,hj4,hJ⟩:=hrel;have HJ:=Hh hJ;have cL:=zaa hJ.bl;have fL:=zam hJ.bl;have cV:=zaa hJ.bv;have hrc:=hJ.cs.cap;rw[hJ.hr] at hrc;obtain⟨x1,x2,x3,x4,x5⟩:=hJ.bx.at_
   rw[show w.heap.size+2=w.heap.size+1+1 by omega] at x1 x2 x3 x4 x5;by_cases hr0:r1=0
   ·subst hr0;have t1:decide (0<(0:Nat))=false:=rfl;have hre:remQ l m j=[]:=List.eq_nil_of_length_eq_zero hJ.hr;have hemp:∀k,j≤k→k<4→l.filter (inQ m k)=[]:=fun k hk _=>List.filter_eq_nil_iff.2 fun u hu e=>by
     have h1:quaC u m=k:=by unfold inQ at e;simpa using e
     have h2:u∈remQ l m j:=List.mem_filter.2 ⟨hu,by simp;omega⟩;rw[hre] at h2;cases h2
    have hmix:=zvr (out:=out) (v:=(m:Int)+1) hj4 (Nat.le_refl 4) hemp;have hout:=zrg (out:=out) hj4 hemp;rw[ztq (x:=⟨(m:Int)+1,0,0,0,0⟩) (y:=topN (fQ m l) out ((m:Int)+1)) rfl] at hmix;rw[←hmix] at x1 x2 x3 x4 x5;have HBD:=Hh (show Bd wr base bb bm v1 (outK (fQ m l) out 4) by rw[hout];exact hJ.bd);have hk4:=zxT (l:=l) (m:=m) (by omega) HST.out HGG.out 4 (Nat.le_refl 4);have hl4:(outK (fQ m l) out 4).length≤900000:=by
     have h1:(add (outK (fQ m l) out 4) (topN (fQ m l) out ((m:Int)+1))).1.length≤out.length+(m+1)*l.length:=by
      have:=zfC (m+1) l out;rw[ztQ HNE.out] at this;exact this
     have h2:(outK (fQ m l) out 4).length≤(add (outK (fQ m l) out 4) (topN (fQ m l) out ((m:Int)+1))).1.length:=by
      unfold add;split
      ·simp
      ·exact Nat.le_refl _
     have h3:=HLEN.out;have h4:=HN.out;rw[h4] at h1;omega
    have hwf:=zwo (out:=out) hm HNE.out HST.out HGG.out (by omega);obtain⟨y,hy⟩:∃y,y=topN (fQ m l) out ((m:Int)+1):=⟨_,rfl⟩;rw[←hy] at x1 x2 x3 x4 x5 hwf;have HY:=Hh hy;have HWF:=Hh hwf;have HK4:=Hh hk4.good;have HL4:=Hh hl4;clear hJ hre hemp hmix hout hk4 hl4 hwf hy;go_wp2_with (go_at_call 181;go_loud (refine(zoz base bb bm v1 (outK (fQ m l) out 4) y _ HBD.out HK4.out HWF.out hd hb (by have:=HJ.out.sz;omega) HL4.out).mono ?_;rintro e w5 ⟨v5,rfl,bd5,vb5,ky5⟩;have HB5:=Hh bd5;have HV5:=Hh vb5;have HK5:=Hh ky5;clear bd5 vb5 ky5));go_ret;refine⟨v5,?_,?_,fun k hk=>?_,?_⟩
    ·rw[ztQ HNE.out,←HY.out];rfl
    ·rw[ztQ HNE.out,←HY.out];exact HB5.out
    ·rcases HV5.out k hk with h1|h1
     ·rcases HJ.out.vb k h1 with h2|h2
      ·exact .inl h2
      ·exact .inr (by omega)
     ·have:=HJ.out.sz;exact .inr (by omega)
    ·refine HJ.out.ky.trans HK5.out (fun i hi hp=>?_);rcases hp with h1|h1|h1
     ·exact .inl h1
     ·exact .inr (.inl h1)
     ·rcases HJ.out.vb i h1 with h2|h2
      ·exact .inr (.inr h2)
      ·omega
   ·have t1:decide (0<r1)=true:=decide_eq_true (by omega);have i2:(0:Int)<(r1:Int):=by omega
    have i3:0<r1:=by omega
    have hrne:remQ l m j≠[]:=fun e=>by have:=hJ.hr;rw[e] at this;simp at this;omega
    obtain⟨i,hi⟩:∃i,i=quaC (cat (remQ l m j) 0) m:=⟨_,rfl⟩;have hnx:=ztP HQQ.out hrne hi;have hbw:=hJ.below HW0.out ⟨hlo.1,hlo.2,by omega⟩ (fun k hk=>(HVO.out k hk).1);obtain⟨b,off,hA1,hbl,hcl⟩:=(hJ.cs.below hbw).at_ (by rw[hJ.hr];omega)
    subst hA1;obtain⟨c1_,c2_,c3_,c4_,c5_⟩:=hcl 0 (by rw[hJ.hr];omega);simp only[Nat.zero_mul,Nat.add_zero] at c1_ c2_ c3_ c4_ c5_;have hm0:cat (remQ l m j) 0∈l:=zrf (zaZ (by rw[hJ.hr];omega));have hu:=(hJ.cs.below hbw).1 _ (zaZ (i:=0) (by rw[hJ.hr];omega));have hu2:=HLN.out _ hm0;obtain⟨x,hxx⟩:∃x,x=cat (remQ l m j) 0:=⟨_,rfl⟩;rw[←hxx] at c1_ c2_ c3_ c4_ c5_ hu hu2 hi;have HXX:=Hh hxx;have HI:=Hh hi;have HU:=Hh hu;have HNX:=Hh hnx;have HBW:=Hh hbw;have hx1:=hu.1.cap;have hx2:=hu.2.1.cap;have HCV:=Hh (show CvAt wr b off x from⟨c1_,c2_,c3_,c4_,c5_⟩);have HLb:=Hh hbl;have HRN:=Hh hrne;have HSZ:=Hh hJ.sz;have st:Gro wr wr.drew:=(Gro.refl wr).drewN 1;clear hJ hnx hbw hcl hm0 hu hxx hi hrne x1 x2 x3 x4 x5;have n1:=World.new_ne wr _ cL;have n2:=World.new_ne wr _ cV;have n3:=World.new_ne wr _ c1_;have n4:=World.new_ne wr _ c2_;have n5:=World.new_ne wr _ c3_;have n6:=World.new_ne wr _ c4_;have n7:=World.new_ne wr _ c5_;go_wp2_with fail;go_cut [8] from 22 to 26 (fun s8 wx=>∃gi,s8=.pointer (some ⟨gi,0,none⟩)∧wx.heap[gi]?=some (.cells #[.int .i64 (i:Int)] 3)∧Below wr.heap.size wr wx∧wr.heap.size≤gi)
    case first =>
     go_region_held3 (fun w'=>w'.cell? ⟨w.heap.size,0,none⟩=some (.slice (some ⟨b,off,none⟩) r1 c1)∧w'.cell? ⟨w.heap.size+1,0,none⟩=some (.int .i64 ((m:Int)+1))∧(w'.cell? ⟨b,off,none⟩=some (.bool x.sx)∧w'.cell? ⟨b,off+1,none⟩=some (.slice x.ax x.xs.length x.cx)∧w'.cell? ⟨b,off+2,none⟩=some (.bool x.sy)∧w'.cell? ⟨b,off+3,none⟩=some (.slice x.ay x.ys.length x.cy)∧w'.cell? ⟨b,off+4,none⟩=some (.int .u8 x.st)))
      (first|go_keep|exact⟨k0,k1,⟨e1,e2,e3,e4,e5⟩⟩)
      (first|(go_at_call 178;go_loud (refine(zha x m _ (HU.out.below (by first|exact st.b|exact(st.alloc _).b)) hu2.1 hu2.2 (by omega)).mono ?_;rintro e w1 ⟨rfl,g1⟩;rw[←HI.out];have st1:Gro wr w1:=(by first|exact st.trans g1|exact(st.alloc _).trans g1);have k0:=(st1.b.cell (p:=⟨w.heap.size,0,none⟩) (by have:=HSZ.out;show w.heap.size<_;omega)).trans cL;have k1:=(st1.b.cell (p:=⟨w.heap.size+1,0,none⟩) (by have:=HSZ.out;show w.heap.size+1<_;omega)).trans cV;obtain⟨e1,e2,e3,e4,e5⟩:=HCV.out.below (st1.b.block b HLb.out);(try (have kab:=g1.b.block wr.heap.size (by simp);have ka:w1.cell? ⟨wr.heap.size,0,none⟩=some (.int .i64 0):=zaa (kab.trans (heap_alloc_new wr.drew _));have kf:w1.frozen? ⟨wr.heap.size,0,none⟩=false:=zam (kab.trans (heap_alloc_new wr.drew _)))))))
     all_goals
      go_wp2_with fail;go_meet
      first
       | exact⟨_,rfl,heap_setCell_same _ _ 0 _ _ _ ((g1.b.block _ (by simp)).trans (heap_alloc_new wr.drew _)),st1.b.setCell (p:=⟨wr.heap.size,0,none⟩) (Nat.le_refl _) _,Nat.le_refl _⟩
       | exact⟨_,rfl,heap_alloc_new w1 _,st1.b.alloc st1.b.size _,st1.b.size⟩
    case rest =>
     obtain⟨gi,rfl,hgi,hbc,hgil⟩:=hcut;have hJc:=HJ.out.next hbc;have HJC:=Hh hJc;have HGI:=Hh hgi;have HBC:=Hh hbc;have HGL:=Hh hgil;obtain⟨n1',n2',n3',n4',n5',n6'⟩:=HNX.out;have cL2:=zaa hJc.bl;have cV2:=zaa hJc.bv;have cI2:=zaa hgi;have hbwc:=hJc.below HW0.out ⟨hlo.1,hlo.2,by omega⟩ (fun k hk=>(HVO.out k hk).1);have hsorted:(remQ l m j).Pairwise fun a b=>quaC a m≤quaC b m:=HQQ.out.filter _;have hse:=zoA w.heap.size (w.heap.size+1) gi (some ⟨b,off,none⟩) c1 r1 m i (remQ l m j) wc cL2 cV2 cI2 (hJc.cs.below hbwc) hJc.hr (fun u hu=>HLN.out u (zrf hu)) (by omega) (by have:=HJ.out.hr;have h2:=List.length_filter_le (fun v=>decide (j≤quaC v m)) l;unfold remQ at this;have:=HN.out;omega)
      (fun p q hpq hq=>by
       rcases Nat.lt_or_ge p q with h1|h1
       ·rw[zcr (by rw[hJc.hr];omega),zcr (by rw[hJc.hr];omega)];exact List.pairwise_iff_getElem.1 hsorted p q _ _ h1
       ·rw[show p=q by omega];exact Nat.le_refl _)
     have HSE:=Hh hse;obtain⟨q,hq⟩:∃q,q=endQ (remQ l m j) m i:=⟨_,rfl⟩;have HQE:=Hh hq;have hqr:q≤r1:=by rw[hq,←hJc.hr];exact List.countP_le_length
     have hq0:0<q:=by rw[hq];exact n6'
     have HFL:=Hh (show(l.filter (inQ m i)).length=q by
      have h1:=congrArg List.length n4';rw[List.length_take,hJc.hr,←hq] at h1;omega)
     have HTK:=Hh (show(remQ l m j).take q=l.filter (inQ m i) by rw[hq];exact n4');have HDR:=Hh (show(remQ l m j).drop q=remQ l m (i+1) by rw[hq];exact n5');have HJI:=Hh (And.intro n1' (And.intro n2' n3'));have hOI:=zrg (out:=out) n1' n3';have hMI:=zvr (out:=out) (v:=(m:Int)+1) n1' (by omega) n3';have HOI:=Hh hOI;have HMI:=Hh hMI;clear hJc hgi hbc hgil hbwc hsorted hse hq n4' n5' n6' n3' hOI hMI;go_wp2_with (go_at_call 179;go_loud (refine HSE.out.mono ?_;rintro e w6 ⟨rfl,g6⟩;rw[←HQE.out];have G6:=Hh g6;clear g6));have hJ6:=HJC.out.next G6.out.b;have hI6:=(G6.out.b.block gi (Array.getElem?_eq_some_iff.1 HGI.out).1).trans HGI.out;have HJ6:=Hh hJ6;have HI6:=Hh hI6;have cL6:=zaa hJ6.bl;have fL6:=zam hJ6.bl;have cV6:=zaa hJ6.bv;have cI6:=zaa hI6;have m1:=World.new_ne w6 _ cL6;have m2:=World.new_ne w6 _ cV6;have m3:=World.new_ne w6 _ cI6;have jw1:IntKind.i64.wrap ((m:Int)+1-1)=(m:Int):=by rw[show(m:Int)+1-1=(m:Int) by omega];simp[IntKind.wrap,IntKind.bits,IntKind.signed];omega
     have jw2:IntKind.i64.wrap (m:Int)=(m:Int):=by simp[IntKind.wrap,IntKind.bits,IntKind.signed];omega
     have q1:(0:Int)≤(q:Int):=by omega
     have q2:(q:Int)≤(c1:Int):=by omega
     have q3:(q:Int)≤(r1:Int):=by omega
     have q4:(0:Int)≤(i:Int):=by omega
     have q5:(i:Int)<4:=by omega
     have hGX:gi≠w.heap.size∧gi≠w.heap.size+1∧gi≠w.heap.size+2:=by have h1:=HGL.out;have h2:=HSZ.out;omega
     have HGX:=Hh hGX;have hlenI:(outK (fQ m l) out i).length+m*q≤900000:=by
      have h1:=znx m l out i;have h2:=zkI m l i;have h3:=zwr m l (i+1);rw[HFL.out] at h2;have h4:=HN.out;have h5:=HLEN.out;have h6:m*cntQ m l i+m*q≤m*n:=by rw[←Nat.mul_add];exact Nat.mul_le_mul_left _ (by omega)
      rw[Nat.add_mul,Nat.one_mul] at h5;omega
     have HLI:=Hh hlenI;have hv1:∀k,v1.ownBlock=some k→base≤k∧k≠w.heap.size∧k≠w.heap.size+1∧k≠w.heap.size+2∧k≠gi:=fun k hk=>by
      have h1:=(HJ.out.bd.o.lt k hk);have h2:=HGL.out;rcases HJ.out.vb k hk with h3|h3
      ·have h4:=(HVO.out k h3).2;have h5:=HSZ.out;omega
      ·omega
     have HV1:=Hh hv1;have hnp:∀k,(k=w.heap.size∨k=w.heap.size+1∨k=w.heap.size+2∨k=gi)→¬ BdP bb bm v1 k:=fun k hk hp=>by
      have h1:=HGL.out;have h5:=HSZ.out;rcases hp with h2|h2|h2
      ·omega
      ·omega
      ·have:=hv1 k h2;omega
     have HNP:=Hh hnp;have st6:Below w6.heap.size w6 w6.drew:=zac (Below.refl _ w6) 1;have hbd6:Bd w6.drew base bb bm v1 (outK (fQ m l) out i):=by rw[HOI.out];exact hJ6.bd.next st6
     have hw6:=(hJ6.next st6).below HW0.out ⟨hlo.1,hlo.2,by omega⟩ (fun k hk=>(HVO.out k hk).1);have hcall:=HIH.out (by omega) (some ⟨b,off,none⟩) c1 q (l.filter (inQ m i)) _ _ v1 (outK (fQ m l) out i) w6.drew HFL.out hq0 (by have:=HFL.out;have h2:=List.length_filter_le (inQ m i) l;have:=HN.out;omega) (by rw[←HTK.out];exact HJ.out.cs.take q) hw6 hbd6 (zxT (l:=l) (m:=m) (by omega) HST.out HGG.out i (by omega)).good (zix HHI.out HJI.out.2.1) (HZZ.out.filter _) (fun u hu=>HST.out u (List.mem_filter.1 hu).1) (fun u hu=>HLN.out u (List.mem_filter.1 hu).1) hlenI (by have h1:=(hJ6.next st6).sz;omega);have HCALL:=Hh hcall;clear hJ6 hI6 hGX hlenI hv1 hnp hbd6 hw6 hcall;go_region_held3 (fun w'=>w'.cell? ⟨w.heap.size,0,none⟩=some (.slice (some ⟨b,off,none⟩) r1 c1)∧w'.cell? ⟨w.heap.size+1,0,none⟩=some (.int .i64 ((m:Int)+1))∧w'.cell? ⟨gi,0,none⟩=some (.int .i64 (i:Int)))
      (first|go_keep|exact⟨k0,k1,k2⟩)
      (first|(go_at_call 144;go_loud (refine HCALL.out.mono ?_;rintro e w7 ⟨v7,rfl,bd7,vb7,ky7⟩;have k0:=zaa ((ky7.block w.heap.size (by have:=(HJ6.out.next st6).sz;omega) (HNP.out _ (.inl rfl))).trans (HJ6.out.next st6).bl);have k1:=zaa ((ky7.block (w.heap.size+1) (by have:=(HJ6.out.next st6).sz;omega) (HNP.out _ (.inr (.inl rfl)))).trans (HJ6.out.next st6).bv);have k2:=zaa ((ky7.block gi (Array.getElem?_eq_some_iff.1 HI6.out).1 (HNP.out _ (.inr (.inr (.inr rfl))))).trans HI6.out);have kx:=(HJ6.out.next st6).bx.stay (ky7.block (w.heap.size+2) (by have:=(HJ6.out.next st6).sz;omega) (HNP.out _ (.inr (.inr (.inl rfl)))));have k3:=kx.kidAt HJI.out.2.1;have k4:=kx.free (1+i);rw[show w.heap.size+2=w.heap.size+1+1 by omega] at k3 k4;have z1:w.heap.size+1+1≠w.heap.size:=(by omega);have z2:w.heap.size+1+1≠w.heap.size+1:=(by omega);have z3:w.heap.size+1+1≠gi:=(by have:=HGX.out;omega);have z4:=z1.symm;have z5:=z2.symm;have z6:=z3.symm)))
     all_goals
      have bl7:=(ky7.block w.heap.size (by have:=(HJ6.out.next st6).sz;omega) (HNP.out _ (.inl rfl))).trans (HJ6.out.next st6).bl;have bv7:=(ky7.block (w.heap.size+1) (by have:=(HJ6.out.next st6).sz;omega) (HNP.out _ (.inr (.inl rfl)))).trans (HJ6.out.next st6).bv;have sz7:=Nat.le_trans (HJ6.out.next st6).sz ky7.size;rw[←HMI.out] at kx;have kx8:=kx.setKid (o:=1+i) (u:=(enc (zaF m (l.filter (inQ m i))) (outK (fQ m l) out i)).2) HJI.out.2.1 rfl (by rw[zjh _ _ _ HJI.out.2.1];rfl);have gs8:=zcR w7 ⟨w.heap.size+2,1+i,none⟩ (.int .i64 (enc (zaF m (l.filter (inQ m i))) (outK (fQ m l) out i)).2);have bl8:=(gs8.block w.heap.size (by omega) (fun e=>by have:=Option.some.inj e;dsimp only at this;omega)).trans bl7;have bv8:=(gs8.block (w.heap.size+1) (by omega) (fun e=>by have:=Option.some.inj e;dsimp only at this;omega)).trans bv7;have bd8:Bd (w7.setCell ⟨w.heap.size+2,1+i,none⟩ (.int .i64 (enc (zaF m (l.filter (inQ m i))) (outK (fQ m l) out i)).2)) base bb bm v7 (outK (fQ m l) out (i+1)) :=
       ⟨(gs8.block bb bd7.lt (fun e=>by have:=Option.some.inj e;dsimp only at this;omega)).trans bd7.bx,bd7.o.gbr gs8 (zbK (fun k hk e=>by
        have h1:=Option.some.inj e;dsimp only at h1;rcases vb7 k hk with h2|h2
        ·have:=HV1.out k h2;omega
        ·have h3:=(HJ6.out.next st6).sz;omega)),bd7.k.stay (gs8.block bm bd7.k.lt (fun e=>by have:=Option.some.inj e;dsimp only at this;omega))⟩
      have ky8:Ky (BdP bb bm v) w (w7.setCell ⟨w.heap.size+2,1+i,none⟩ (.int .i64 (enc (zaF m (l.filter (inQ m i))) (outK (fQ m l) out i)).2)) :=
       (((HJ6.out.next st6).ky.trans ky7 (fun k hk hp=>by
        rcases hp with h1|h1|h1
        ·exact .inl h1
        ·exact .inr (.inl h1)
        ·rcases HJ.out.vb k h1 with h2|h2
         ·exact .inr (.inr h2)
         ·omega)).gb gs8 (fun k hk e=>by have:=Option.some.inj e;dsimp only at this;omega))
      have sz8:w.heap.size+3≤(w7.setCell ⟨w.heap.size+2,1+i,none⟩ (.int .i64 (enc (zaF m (l.filter (inQ m i))) (outK (fQ m l) out i)).2)).heap.size:=Nat.le_trans sz7 gs8.size;have HVB7:=Hh vb7;rw[show w.heap.size+2=w.heap.size+1+1 by omega] at bl8 bv8 bd8 ky8 sz8;rw[show(⟨w.heap.size+2,1+i,none⟩:Addr)=⟨w.heap.size+1+1,1+i,none⟩ by rw[show w.heap.size+2=w.heap.size+1+1 by omega]] at kx8;generalize w7.setCell ⟨w.heap.size+1+1,1+i,none⟩ (.int .i64 (enc (zaF m (l.filter (inQ m i))) (outK (fQ m l) out i)).2)=W8 at *;have HBL8:=Hh bl8;have HBV8:=Hh bv8;have HBD8:=Hh bd8;have HKY8:=Hh ky8;have HSZ8:=Hh sz8;have HKX8:=Hh kx8;have r0:=zaa bl8;have r0f:=zam bl8;have hsz6:=(HJ6.out.next st6).sz;clear kx k0 k1 k2 k3 k4 bl7 bv7 sz7 gs8 bl8 bv8 bd8 ky8 sz8 kx8 vb7 ky7 bd7 cL6 fL6 cV6 cI6 cL2 cV2 cI2 cL fL cV;go_wp2_with fail;obtain⟨A9,hA9⟩:∃A9:Option Addr,A9=if c1=q then some ⟨b,off,none⟩ else some ⟨b,off+q*5,none⟩:=⟨_,rfl⟩
      rw[←hA9];have gs9:=zcR W8 ⟨w.heap.size,0,none⟩ (.slice A9 (r1-q) (c1-q));have hbl9:=heap_setCell_same W8 w.heap.size 0 _ _ (.slice A9 (r1-q) (c1-q)) HBL8.out;have ne9:∀k,k≠w.heap.size→(some k:Option Nat)≠some (⟨w.heap.size,0,none⟩:Addr).block:=fun k hk e=>hk (Option.some.inj e);have hrl:=HJ.out.hr;have hs8:=HSZ8.out;refine⟨⟨i+1,_,v7,A9,c1-q,r1-q,rfl,by have:=HJI.out.2.1;omega,?_⟩,?_⟩
      ·refine⟨by rw[←HDR.out,List.length_drop,hrl],?_,hbl9,(gs9.block _ (by omega) (ne9 _ (by omega))).trans HBV8.out,HKX8.out.stay (gs9.block _ (by omega) (ne9 _ (by omega))),?_,fun k hk=>?_,HKY8.out.gb gs9 (fun k hk e=>by have:=Option.some.inj e;dsimp only at this;omega),Nat.le_trans HSZ8.out gs9.size⟩
       ·rw[←HDR.out];refine HJ.out.cs.drop q (by rw[hrl];exact hqr) A9 (fun hlt=>?_);rw[hrl] at hlt;rw[hA9,if_neg (by omega)]
       ·refine⟨(gs9.block bb HBD8.out.lt (ne9 _ (by omega))).trans HBD8.out.bx,HBD8.out.o.gbr gs9 (zbK (fun k hk e=>?_)),HBD8.out.k.stay (gs9.block bm HBD8.out.k.lt (ne9 _ (by omega)))⟩;have h1:=Option.some.inj e;dsimp only at h1;rcases HVB7.out k hk with h2|h2
        ·have:=HV1.out k h2;omega
        ·omega
       ·rcases HVB7.out k hk with h2|h2
        ·exact HJ.out.vb k h2
        ·exact .inr (by omega)
      ·rw[znw (zaa hbl9),znw (zaa HJ.out.bl)];omega
end Go.Proofs.YtbabbmdpgpcgjaaGreatDoor

namespace Go.Proofs.YtbabbmdpgpcgjaaGreatDoor
open Go.RowKit Nds Num Go.Shelf
def CvN (v:Cv):Prop:=v.sx=false∧v.sy=false
theorem zhs {v u:Cv}(hv:CvN v)(hu:CvN u):cfQ v u<0↔zq (val v.xs) (val v.ys)<zq (val u.xs) (val u.ys):=by
 rw[←zqn];unfold cfQ zim;rw[hv.1,hv.2,hu.1,hu.2];split
 ·rw[zgj];unfold ival;simp only[Bool.false_eq_true,if_false];omega
 ·rw[zgj];unfold ival;simp only[Bool.false_eq_true,if_false];omega
def shC (h:Int)(c:Cl):Cl:=⟨c.x+h,c.y+h,c.s⟩
structure InC (W:World)(gi:Nat)(h:Int)(v u:Cv):Prop where
 us:CvU W u
 rt:CvR u
 nn:CvN u
 off:Off gi u
 xx:ival u.sx u.xs=ival v.sx v.xs+h
 yy:ival u.sy u.ys=ival v.sy v.ys+h
 stt:u.st=v.st
theorem zvs {s:Bool}{xs:List Nat}{n:Nat}{z:Int}(hc:zaC s xs)(hv:ival s xs=z)(h0:0≤z)(h1:z<p2 n)(hn:n≤1330):xs.length≤50:=by
 refine zcz hc hv 50 ?_;obtain⟨M,hM⟩:∃M,M=50:=⟨_,rfl⟩;have h2:(p2 n).natAbs<4294967296^M:=by
  unfold p2;rw[show((2:Int)^n).natAbs=2^n by rw[Int.natAbs_pow];rfl,show(4294967296:Nat)=2^32 by decide,←Nat.pow_mul];exact Nat.pow_lt_pow_right (by decide) (by omega)
 rw[←hM];omega
theorem zvt {s:Bool}{xs:List Nat}(hc:zaC s xs)(h0:0≤ival s xs):s=false:=by
 cases s with
 | false=>rfl
 | true =>
  have h1:=hc.2 rfl;have h2:val xs≠0:=fun e=>h1 (zbw hc.1 e);unfold ival at h0;simp only[if_true] at h0;omega
structure NR (w:World)(gh gi bc:Nat)(s:Bool)(A:Option Addr)(c:Nat)(xs:List Nat)(hh:Int)(n:Nat)(L:List Cv)(x:Cv)(W:World):Prop where
 b:Below w.heap.size w W
 h:HX W gh s A c xs hh
 own:OwnC W w.heap.size (.slice (some ⟨gi,0,none⟩) n n) L
 lt:bc<W.heap.size
 cv:CvAt W bc 0 x
 cu:CvU W x
theorem NR.next {w:World}{gh gi bc:Nat}{s:Bool}{A:Option Addr}{c:Nat}{xs:List Nat}{hh:Int}{n:Nat}{L:List Cv}{x:Cv}{W W1:World}(k:NR w gh gi bc s A c xs hh n L x W)(q:Below W.heap.size W W1):NR w gh gi bc s A c xs hh n L x W1 :=
 ⟨k.b.trans (q.mono k.b.size),k.h.next q,k.own.kept (gbN q) (zbK (fun k hk e=>by cases e)),Nat.lt_of_lt_of_le k.lt q.size,k.cv.below (q.block _ k.lt),k.cu.below q⟩
theorem NR.row {w:World}{gh gi bc:Nat}{s:Bool}{A:Option Addr}{c:Nat}{xs:List Nat}{hh:Int}{n:Nat}{L:List Cv}{x:Cv}{W:World}(k:NR w gh gi bc s A c xs hh n L x W)(hL:L.length=n){i:Nat}(hi:i<n):CvAt W gi (i*5) (cat L i)∧∀o,W.frozen? ⟨gi,o,none⟩=false:=by
 obtain⟨A',c',e1,_,_,_,e5⟩:=k.own.shape;cases e1;obtain⟨g,e,_,_,h1,h2⟩:=e5 _ rfl;cases e;exact⟨h1 i (by omega),h2⟩
theorem zkJ {L:List Cv}{i:Nat}(h:i<L.length)(u:Cv):cat (L.set i u) i=u:=by
 unfold cat;rw[List.getElem?_set,if_pos rfl,if_pos h];rfl
theorem zoB {L:List Cv}{i j:Nat}(h:i≠j)(u:Cv):cat (L.set i u) j=cat L j:=by
 unfold cat;rw[List.getElem?_set,if_neg h]
theorem InC.kept {W W1:World}{gi:Nat}{h:Int}{v u:Cv}(k:InC W gi h v u)(hk:∀q,q<W.heap.size→q≠gi→W1.heap[q]?=W.heap[q]?)(hs:W.heap.size≤W1.heap.size):InC W1 gi h v u :=
 ⟨zdk k.us hk hs k.off,k.rt,k.nn,k.off,k.xx,k.yy,k.stt⟩
theorem NR.put {w:World}{gh gi bc:Nat}{s:Bool}{A:Option Addr}{c:Nat}{xs:List Nat}{m n:Nat}{L l:List Cv}{x:Cv}{W:World}(k:NR w gh gi bc s A c xs (p2 m) n L x W)(hL:L.length=n){i:Nat}(hi:i<n)(hx:x=cat l i)
  (hall:∀j,j<i→InC W gi (p2 m) (cat l j) (cat L j)) (hgh:gh≠gi) (hgw:w.heap.size≤gi) (hm:m+1≤1330) (hin:inL x.cl (m+1)=true)
  {s7 s8:Bool} {A7 A8:Option Addr} {c7 c8:Nat} {r7 r8:List Nat} (u7:Us W A7 c7 r7) (k7:zaC s7 r7) (v7:ival s7 r7=ival x.sx x.xs+p2 m) (u8:Us W A8 c8 r8) (k8:zaC s8 r8) (v8:ival s8 r8=ival x.sy x.ys+p2 m) :
  ∃W' L',W'=(((((W.setCell ⟨gi,i*5,none⟩ (.bool s7)).setCell ⟨gi,i*5+1,none⟩ (.slice A7 r7.length c7)).setCell ⟨gi,i*5+2,none⟩ (.bool s8)).setCell ⟨gi,i*5+3,none⟩ (.slice A8 r8.length c8)).setCell ⟨gi,i*5+4,none⟩ (.int .u8 x.st))∧L'.length=n ∧
   HX W' gh s A c xs (p2 m)∧OwnC W' w.heap.size (.slice (some ⟨gi,0,none⟩) n n) L'∧(∀j,j<i+1→InC W' gi (p2 m) (cat l j) (cat L' j))∧Below w.heap.size w W'∧W.heap.size≤W'.heap.size:=by
 obtain⟨u,hu⟩:∃u:Cv,u=⟨s7,A7,c7,r7,s8,A8,c8,r8,x.st⟩:=⟨_,rfl⟩;have hg:=zoo W gi (i*5) (.bool s7) (.slice A7 r7.length c7) (.bool s8) (.slice A8 r8.length c8) (.int .u8 x.st);have hown:=k.own.put hL hi u;rw[hu] at hown;obtain⟨W',hW'⟩:∃W',W'=(((((W.setCell ⟨gi,i*5,none⟩ (.bool s7)).setCell ⟨gi,i*5+1,none⟩ (.slice A7 r7.length c7)).setCell ⟨gi,i*5+2,none⟩ (.bool s8)).setCell ⟨gi,i*5+3,none⟩ (.slice A8 r8.length c8)).setCell ⟨gi,i*5+4,none⟩ (.int .u8 x.st)):=⟨_,rfl⟩;rw[←hW'] at hg hown;have hk:∀q,q<W.heap.size→q≠gi→W'.heap[q]?=W.heap[q]?:=fun q h1 h2=>hg.block q h1 (fun e=>h2 (by cases e;rfl));have hno:=k.own.no_limb hL;have ho:Off gi u:=by rw[hu];exact⟨zbS u7 hno,zbS u8 hno⟩
 unfold inL inH at hin;simp only[Bool.and_eq_true,decide_eq_true_eq,Nat.add_sub_cancel] at hin;obtain⟨⟨h1,h2⟩,⟨h3,h4⟩⟩:=hin;have h1':ival x.sx x.xs<p2 m:=h1;have h2' : -p2 m≤ival x.sx x.xs:=h2;have h3':ival x.sy x.ys<p2 m:=h3;have h4' : -p2 m≤ival x.sy x.ys:=h4;have hp:=zap m;have l7:=zvs k7 v7 (by omega) (show _<p2 (m+1) by omega) hm;have l8:=zvs k8 v8 (by omega) (show _<p2 (m+1) by omega) hm;have hxo:∀a,0<xs.length→A=some a→a.block≠gi:=fun a h0 ea=>zbS k.h.us hno h0 a ea;refine⟨W',L.set i u,hW',by rw[List.length_set];exact hL,⟨(hk gh k.h.lt hgh).trans k.h.box,zbt k.h.us hk hg.size (fun h0 a ea=>hxo a h0 ea),k.h.cn,k.h.v,k.h.off⟩,by rw[hu];exact hown,fun j hj=>?_,k.b.grown hg k.b.size (fun q e=>by cases e;exact hgw),hg.size⟩;by_cases hji:i=j
 ·subst hji;rw[zkJ (by omega),←hx];refine⟨?_,?_,?_,ho,?_,?_,?_⟩
  ·rw[hu] at ho ⊢;exact⟨zbt u7 hk hg.size ho.1,zbt u8 hk hg.size ho.2,k.cu.2.2⟩
  ·rw[hu];exact⟨k7,k8,by show r7.length≤60000;omega,by show r8.length≤60000;omega⟩
  ·rw[hu];exact⟨zvt k7 (by rw[v7];omega),zvt k8 (by rw[v8];omega)⟩
  ·rw[hu];exact v7
  ·rw[hu];exact v8
  ·rw[hu]
 ·rw[zoB hji];exact(hall j (by omega)).kept hk hg.size
theorem OwnC.row {w:World}{base g n cap:Nat}{L:List Cv}(h:OwnC w base (.slice (some ⟨g,0,none⟩) n cap) L):L.length=n∧(∀i,i<n→CvAt w g (i*5) (cat L i))∧(∀o,w.frozen? ⟨g,o,none⟩=false)∧g<w.heap.size:=by
 obtain⟨A',c',e1,_,_,_,e5⟩:=h.shape;simp only[Value.slice.injEq] at e1;obtain⟨rfl,rfl,rfl⟩:=e1;obtain⟨g',e,_,h3,h1,h2⟩:=e5 _ rfl;cases e;exact⟨rfl,h1,h2,h3⟩
theorem zxV {W:World}{gi:Nat}{h:Int}{v u:Cv}(k:InC W gi h v u):u.cn=shC h v.cl:=by
 have hx:=k.xx;have hy:=k.yy;have hs:=k.stt;have hn:=k.nn;rw[hn.1] at hx;rw[hn.2] at hy;unfold ival at hx hy;simp only[Bool.false_eq_true,if_false] at hx hy;unfold Cv.cn shC Cv.cl;refine Cl.ext' ?_ ?_ ?_
 ·show((val u.xs:Nat):Int)=ival v.sx v.xs+h;exact hx
 ·show((val u.ys:Nat):Int)=ival v.sy v.ys+h;exact hy
 ·show((u.st:Nat):Int)=v.st;rw[hs]
theorem OwnN.lowC {w:World}{base base':Nat}{v:Value}{l:List Nd}(h:OwnN w base v l)(hb:base'≤base):OwnN w base' v l:=by
 refine⟨h.1,h.2.1,?_⟩;rcases h.2.2 with h|⟨g,cap,cur,e,hb',rest⟩
 ·exact .inl h
 ·exact .inr ⟨g,cap,cur,e,by omega,rest⟩
theorem zoC (w9:World)(gi k m:Nat)(l':List Cv)(hl:l'.length=k)(h0:0<k)(hk:k≤600)(hm:m+1≤1329)(hC:Cs w9 (some ⟨gi,0,none⟩) k l')(hhi:HiB (m+1) 0 0 l')(hz:Zs l')(hst:∀u∈l',1≤u.st∧u.st≤255)(hln:∀u∈l',u.xs.length≤60000∧u.ys.length≤60000) :
  Calls Tryz.prog 144 #[.pointer (some ⟨w9.heap.size+1,0,none⟩),.slice (some ⟨gi,0,none⟩) k k,.int .i64 ((m:Int)+1)] ((w9.alloc (.map #[] 0)).alloc (.cells #[.slice none 0 0,.map (some w9.heap.size)] 186)) fun e w' =>
   ∃v',e=.returned (.int .i64 (enc (zaF (m+1) l') []).2)∧w'.cell? ⟨w9.heap.size+1,0,none⟩=some v'∧OwnN w' w9.heap.size v' (enc (zaF (m+1) l') []).1∧Below w9.heap.size w9 w':=by
 obtain⟨W,hW⟩:∃W:World,W=(w9.alloc (.map #[] 0)).alloc (.cells #[.slice none 0 0,.map (some w9.heap.size)] 186):=⟨_,rfl⟩;have hb:Below w9.heap.size w9 W:=by rw[hW];exact((Below.refl _ w9).alloc (Nat.le_refl _) _).alloc (by simp) _
 have hs:W.heap.size=w9.heap.size+2:=by rw[hW];simp
 have hbd:Bd W (w9.heap.size+2) (w9.heap.size+1) w9.heap.size (.slice none 0 0) []:=by
  refine⟨?_,zeR _ _,?_⟩
  ·rw[hW];have:=heap_alloc_new (w9.alloc (.map #[] 0)) (.cells #[.slice none 0 0,.map (some w9.heap.size)] 186)
   rwa [World.size_alloc] at this
  ·rw[hW];exact(KM.made w9).stay (Below.heap_alloc _ _ _ (by simp))
 have h:=ztR (w9.heap.size+2) (w9.heap.size+1) w9.heap.size w9 (by omega) ⟨by omega,by omega⟩ ⟨by omega,Nat.le_refl _⟩ (m+1) hm (some ⟨gi,0,none⟩) k k l' 0 0 (.slice none 0 0) [] W hl h0 (by omega) hC hb hbd zdZ hhi hz hst hln (by
  have:=Nat.mul_le_mul hm hk;simp only[List.length_nil];omega) (by omega)
 rw[show(((m+1:Nat)):Int)=(m:Int)+1 by omega] at h;rw[←hW];refine h.mono ?_;rintro e w' ⟨v',rfl,h1,h2,h3⟩;refine⟨v',rfl,h1.c0,h1.o.lowC (by omega),hb.trans (h3.to hb.size (fun q hq=>?_))⟩;rcases hq with rfl|rfl|hq
 ·omega
 ·exact Nat.le_refl _
 ·cases hq
def zxW (lv:Nat)(l:List Cv)(w:World)(e:Ending)(w':World):Prop :=
 ∃v' l',e=.returned v'∧OwnN w' w.heap.size v' (enc (zaF lv l') []).1∧(l'.map Cv.cn).Perm (l.map fun u=>shC (p2 (lv-1)) u.cl)∧HiB lv 0 0 l'∧Below w.heap.size w w'
theorem zri (A0:Option Addr)(c0 n lv:Nat)(l:List Cv)(w:World)(h:Cs w A0 c0 l)(hn:l.length=n)(hn0:0<n)(hn9:n≤600)(hR:∀v∈l,CvR v)(hS:∀v∈l,1≤v.st)(hI:∀v∈l,inL v.cl lv=true)(hl1:1≤lv)(hl2:lv≤1329) :
  Calls Tryz.prog 101 #[.slice A0 n c0,.int .i64 (lv:Int)] w (zxW lv l w):=by
 obtain⟨m,rfl⟩:∃m,lv=m+1:=⟨lv-1,by omega⟩;have e0:(((m+1:Nat):Int))=(m:Int)+1:=by omega
 rw[e0];have hcap:=h.cap;rw[hn] at hcap;obtain⟨i0,hi,hz0,hz1,hz2⟩:=info_parts Tryz.infoC;have HI0:=Hh (And.intro hi (And.intro hz0 (And.intro hz1 hz2)));have HC:=Hh h;have HN:=Hh hn;have HR:=Hh hR;have HS:=Hh hS;have HI:=Hh hI;have t0:((n:Int)==0)=false:=by rw[beq_eq_false_iff_ne];omega
 clear h hi hz0 hz1 hz2 hR hS hI hn e0;go_enter Tryz.func101,Tryz.ntmps101;go_wp2_with (first
  | (go_at_call 140;go_loud (refine(ziX _ _).mono ?_;rintro e w5 ⟨A5,c5,s5,r5,rfl,u5,k5,v5,b5⟩;rw[show shlI 1 (m:Int)=p2 m by unfold shlI p2;rw[if_pos (by omega),Int.toNat_natCast,Int.one_mul]] at v5;have U5:=Hh u5;have K5:=Hh k5;have V5:=Hh v5;have B5:=Hh b5;have hg5:=heap_alloc_new w5 (.cells #[.bool s5,.slice A5 r5.length c5] 69);have bl5:=(Below.refl w5.heap.size w5).alloc (Nat.le_refl _) (.cells #[.bool s5,.slice A5 r5.length c5] 69);have H5:=Hh (show HX (w5.alloc (.cells #[.bool s5,.slice A5 r5.length c5] 69)) w5.heap.size s5 A5 c5 r5 (p2 m) from⟨hg5,u5.below bl5,k5,v5,fun hx a e=>by have:=zqu u5 hx a e;omega⟩);have BL5:=Hh (b5.trans (bl5.mono b5.size));have hsz5:=BL5.out.size;clear u5 k5 v5 b5 hg5 bl5))
  | (at_make;go_loud (refine wpList_make_full _ rfl _ _ 35 rfl w.heap.size 123 i0 _ 5 Tryz.underlying35 HI0.out.1 HI0.out.2.1 HI0.out.2.2.1 .i64 .i64 _ _ n rfl rfl (by omega) (by omega) (by rw[HI0.out.2.2.2];omega) (by unfold maxLen;omega) hsz5 ?_;intro w6 own grow;have OW:=Hh own;have GR:=Hh grow;clear own grow)))
 obtain⟨gh,hgh⟩:∃gh,gh=w5.heap.size:=⟨_,rfl⟩;have hB6:Below w.heap.size w w6:=BL5.out.grown GR.out BL5.out.size (fun k hk=>by cases hk);have hL6:Below (w5.alloc (.cells #[.bool s5,.slice A5 r5.length c5] 69)).heap.size (w5.alloc (.cells #[.bool s5,.slice A5 r5.length c5] 69)) w6:=⟨GR.out.os,GR.out.tape,GR.out.output,GR.out.size,fun q hq=>GR.out.block q hq (by simp)⟩;have hH6:HX w6 gh s5 A5 c5 r5 (p2 m):=by rw[hgh];exact H5.out.next hL6
 have hO6:OwnC w6 w.heap.size (.slice (some ⟨gh+1,0,none⟩) n n) (List.replicate n cv0):=by
  have:=OwnC.made OW.out;rw[World.size_alloc] at this;rw[hgh];exact this
 have hg6:gh+1<w6.heap.size:=(hO6.lt (gh+1) rfl).2;have HGW:=Hh (show w.heap.size≤gh by rw[hgh];exact B5.out.size);rw[←hgh];have HB6:=Hh hB6;have HH6:=Hh hH6;have HO6:=Hh hO6;have HG6:=Hh hg6;have HLP:=Hh (zvn K5.out V5.out (by omega));clear hgh hB6 hL6 hH6 hO6 hg6;go_loopw [21] (fun z wr=>∃(k:Nat) (L:List Cv),k≤n∧z=.int .i64 k∧L.length=n∧HX wr gh s5 A5 c5 r5 (p2 m)∧OwnC wr w.heap.size (.slice (some ⟨gh+1,0,none⟩) n n) L∧(∀j,j<k→InC wr (gh+1) (p2 m) (cat l j) (cat L j))∧Below w.heap.size w wr∧gh+1<wr.heap.size) (fun z _=>n-(intOf z).toNat)
 case atStart=>exact⟨0,_,by omega,rfl,by simp,HH6.out,HO6.out,fun j hj=>by omega,HB6.out,HG6.out⟩
 case round =>
  obtain⟨k,L,hk,rfl,hLL,hh,how,hall,hbb,hgg⟩:=hrel;have HLL:=Hh hLL;have HHX:=Hh hh;have HOW:=Hh how;have HAL:=Hh hall;have HBB:=Hh hbb;by_cases hlt:k<n
  ·have i1:(k:Int)<(n:Int):=by omega
   have i2:(0:Int)≤(k:Int):=by omega
   have t1:decide ((k:Int)<(n:Int))=true:=decide_eq_true i1;obtain⟨b,off,rfl,hbl,hcl⟩:=(HC.out.below hbb).at_ (by rw[HN.out];omega)
   obtain⟨c1_,c2_,c3_,c4_,c5_⟩:=hcl k (by rw[HN.out];exact hlt);have hxl:=zaZ (l:=l) (i:=k) (by rw[HN.out];exact hlt);have hxu:=(HC.out.below hbb).1 _ hxl;have hxr:=HR.out _ hxl;have hxi:=HI.out _ hxl;obtain⟨x,hx⟩:∃x,x=cat l k:=⟨_,rfl⟩;rw[←hx] at c1_ c2_ c3_ c4_ c5_ hxu hxr hxi;have hv1:=hxu.1.cap;have hv2:=hxu.2.1.cap;have HX_:=Hh hx;have HXR:=Hh hxr;have HXI:=Hh hxi;obtain⟨bc,hbc⟩:∃bc,bc=wr.heap.size:=⟨_,rfl⟩;have hst0:NR w gh (gh+1) bc s5 A5 c5 r5 (p2 m) n L x (wr.alloc (.cells #[.bool x.sx,.slice x.ax x.xs.length x.cx,.bool x.sy,.slice x.ay x.ys.length x.cy,.int .u8 x.st] 123)):=by
    have hb1:Below wr.heap.size wr (wr.alloc (.cells #[.bool x.sx,.slice x.ax x.xs.length x.cx,.bool x.sy,.slice x.ay x.ys.length x.cy,.int .u8 x.st] 123)):=(Below.refl _ wr).alloc (Nat.le_refl _) _;exact⟨hbb.trans (hb1.mono hbb.size),hh.next hb1,how.alloc _,by rw[hbc];simp,by rw[hbc];exact CvAt.new wr x _,hxu.below hb1⟩
   have hgr0:wr.heap.size≤(wr.alloc (.cells #[.bool x.sx,.slice x.ax x.xs.length x.cx,.bool x.sy,.slice x.ay x.ys.length x.cy,.int .u8 x.st] 123)).heap.size:=by simp
   have HST0:=Hh (hst0.next (zac (Below.refl _ _) 1));have HBC:=Hh hbc;have G0:=Hh (zac ((Below.refl wr.heap.size wr).alloc (Nat.le_refl _) (.cells #[.bool x.sx,.slice x.ax x.xs.length x.cx,.bool x.sy,.slice x.ay x.ys.length x.cy,.int .u8 x.st] 123)) 1);obtain⟨e1,e2,e3,e4,e5⟩:=hst0.cv;have p1:=hst0.h.c0;have p2_:=hst0.h.c1;have hpc:=hst0.h.us.cap;clear hx hxu hxr hxi hcl hh how hall hst0 hxl hbb;go_wp2_with fail;rw[←hbc];have nn1:gh+1≠bc:=by omega
   have nn2:bc≠gh+1:=by omega
   have nn3:gh+1≠gh:=by omega
   have nn4:gh≠gh+1:=by omega
   clear hbc;go_region_held3 (fun w'=>(w'.cell? ⟨bc,0,none⟩=some (.bool x.sx)∧w'.cell? ⟨bc,1,none⟩=some (.slice x.ax x.xs.length x.cx)∧w'.cell? ⟨bc,2,none⟩=some (.bool x.sy)∧w'.cell? ⟨bc,3,none⟩=some (.slice x.ay x.ys.length x.cy)∧w'.cell? ⟨bc,4,none⟩=some (.int .u8 x.st))∧w'.cell? ⟨gh,0,none⟩=some (.bool s5)∧w'.cell? ⟨gh,1,none⟩=some (.slice A5 r5.length c5))
    (first|go_keep|exact⟨⟨e1,e2,e3,e4,e5⟩,p1,p2_⟩)
    (first
     | (go_at_call_of 141 (Value.agg #[Value.bool x.sx,Value.slice x.ax x.xs.length x.cx]);go_loud (refine(zeI x.sx s5 x.ax A5 x.cx c5 x.xs r5 _ (NR.cu (by first|exact SY.out|exact HST0.out)).1 (NR.h (by first|exact SY.out|exact HST0.out)).us HXR.out.2.2.1 (by have:=HLP.out;omega)).mono ?_;rintro e w7 ⟨A7,c7,s7,r7,rfl,u7,k7,v7,b7⟩;rw[V5.out] at v7;have UX:=Hh u7;have KX:=Hh k7;have VX:=Hh v7;have SX:=Hh (NR.next (by first|exact SY.out|exact HST0.out) b7);have GX:=Hh (Below.trans (show Below wr.heap.size wr _ from by first|exact GY.out|exact G0.out) (b7.mono (Below.size (show Below wr.heap.size wr _ from by first|exact GY.out|exact G0.out))));(try (have UYn:=Hh (UY.out.below b7)));clear u7 k7 v7 b7;obtain⟨⟨y1,y2,y3,y4,y5⟩,yf⟩:=SX.out.row HLL.out hlt;have yf0:=yf (k*5);have yf1:=yf (k*5+1);have yf2:=yf (k*5+2);have yf3:=yf (k*5+3);have yf4:=yf (k*5+4);obtain⟨e1,e2,e3,e4,e5⟩:=SX.out.cv;have p1:=SX.out.h.c0;have p2_:=SX.out.h.c1))
     | (go_at_call_of 141 (Value.agg #[Value.bool x.sy,Value.slice x.ay x.ys.length x.cy]);go_loud (refine(zeI x.sy s5 x.ay A5 x.cy c5 x.ys r5 _ (NR.cu (by first|exact SX.out|exact HST0.out)).2.1 (NR.h (by first|exact SX.out|exact HST0.out)).us HXR.out.2.2.2 (by have:=HLP.out;omega)).mono ?_;rintro e w8 ⟨A8,c8,s8,r8,rfl,u8,k8,v8,b8⟩;rw[V5.out] at v8;have UY:=Hh u8;have KY:=Hh k8;have VY:=Hh v8;have SY:=Hh (NR.next (by first|exact SX.out|exact HST0.out) b8);have GY:=Hh (Below.trans (show Below wr.heap.size wr _ from by first|exact GX.out|exact G0.out) (b8.mono (Below.size (show Below wr.heap.size wr _ from by first|exact GX.out|exact G0.out))));(try (have UXn:=Hh (UX.out.below b8)));clear u8 k8 v8 b8;obtain⟨⟨y1,y2,y3,y4,y5⟩,yf⟩:=SY.out.row HLL.out hlt;have yf0:=yf (k*5);have yf1:=yf (k*5+1);have yf2:=yf (k*5+2);have yf3:=yf (k*5+3);have yf4:=yf (k*5+4);obtain⟨e1,e2,e3,e4,e5⟩:=SY.out.cv;have p1:=SY.out.h.c0;have p2_:=SY.out.h.c1)))
   all_goals
    first
     | (obtain⟨W',L',hW',hL',hh',how',hall',hbb',hsz'⟩:=SY.out.put HLL.out hlt HX_.out (fun j hj=>(HAL.out j hj).kept (fun q hq _=>GY.out.block q hq) GY.out.size) nn4 (by have:=HGW.out;omega) (by omega) HXI.out UXn.out KX.out VX.out UY.out KY.out VY.out;have HG:=Hh (Nat.le_trans GY.out.size hsz'))
     | (obtain⟨W',L',hW',hL',hh',how',hall',hbb',hsz'⟩:=SX.out.put HLL.out hlt HX_.out (fun j hj=>(HAL.out j hj).kept (fun q hq _=>GX.out.block q hq) GX.out.size) nn4 (by have:=HGW.out;omega) (by omega) HXI.out UX.out KX.out VX.out UYn.out KY.out VY.out;have HG:=Hh (Nat.le_trans GX.out.size hsz'))
    rw[←hW'];have HL':=Hh hL';have HH':=Hh hh';have HO':=Hh how';have HA':=Hh hall';have HB':=Hh hbb';clear hW' hL' hh' how' hall' hbb' hsz';go_wp2_with fail;go_roundw
    case rel=>exact⟨k+1,L',by omega,by go_num,HL'.out,HH'.out,HO'.out,HA'.out,HB'.out,by have:=HG.out;omega⟩
    case measure=>simp[intOf];omega
  ·obtain rfl:k=n:=by omega
   have t1:decide ((k:Int)<(k:Int))=false:=decide_eq_false (by omega);obtain⟨hl_,hcell,hfree,hgl⟩:=how.row;have hmem:∀u∈L,∃j,j<k∧u=cat L j:=fun u hu=>by
    obtain⟨j,hj,rfl⟩:=List.getElem_of_mem hu;exact⟨j,by omega,(zcr hj).symm⟩
   have hlm:∀j,j<k→cat l j∈l:=fun j hj=>zaZ (by rw[HN.out];exact hj);have hall':∀u∈L,CvU wr u∧CvR u∧CvN u∧Off (gh+1) u:=fun u hu=>by
    obtain⟨j,hj,rfl⟩:=hmem u hu;have:=hall j hj;exact⟨this.us,this.rt,this.nn,this.off⟩
   have hst:∀u∈L,1≤u.st∧u.st≤255:=fun u hu=>by
    obtain⟨j,hj,rfl⟩:=hmem u hu;have h1:=hall j hj;have h2:=HS.out _ (hlm j hj);have h3:=h1.us.2.2;have h4:=h1.stt;omega
   have hmap:L.map Cv.cn=l.map fun u=>shC (p2 m) u.cl:=by
    refine List.ext_getElem (by rw[List.length_map,List.length_map,hl_,HN.out]) fun j h1 h2=>?_;rw[List.length_map] at h1;rw[List.getElem_map,List.getElem_map,←zcr h1,←zcr (by rw[HN.out];omega)];exact zxV (hall j (by omega))
   have hhi:HiB (m+1) 0 0 L:=fun u hu=>by
    obtain⟨j,hj,rfl⟩:=hmem u hu;have h1:=zxV (hall j hj);have h2:=HI.out _ (hlm j hj);unfold inL inH at h2;simp only[Bool.and_eq_true,decide_eq_true_eq,Nat.add_sub_cancel] at h2;have hp:=zap m;have e1:((val (cat L j).xs:Nat):Int)=(cat l j).cl.x+p2 m:=congrArg Cl.x h1;have e2:((val (cat L j).ys:Nat):Int)=(cat l j).cl.y+p2 m:=congrArg Cl.y h1;have e3:p2 (m+1)=((2^(m+1):Nat):Int):=by unfold p2;simp
    exact⟨Nat.div_eq_of_lt (by omega),Nat.div_eq_of_lt (by omega)⟩
   have eg:∀args w,(callFunc 143 args).run Tryz.prog w=.ok (.enter 143 args) w:=enters_of Tryz.func143 (by kernel_rfl) rfl;have hso:=zqv 143 cfQ CvN eg (fun v u W h k' r r' _ _=>zjj v u W h k' r r') (fun {v u t} hv hu ht=>by rw[zhs hv hv,zhs hv hu,zhs hu ht,zhs hv ht];exact⟨by omega,by omega,by omega⟩) (gh+1) k k L wr hl_ hn0 (by omega) hgl hcell hfree hall';have HSO:=Hh hso;have HMAP:=Hh hmap;have HHI:=Hh hhi;have HST:=Hh hst;have HALL:=Hh hall';have HGL:=Hh hgl;have hmm := @run_makeMap Tryz.prog;clear hso hmap hhi hst hall' hcell hfree hmem hlm hh how hall hbb hl_;go_wp2_with (first
    | (go_at_call 142;go_loud (refine HSO.out.mono ?_;rintro e w9 ⟨rfl,l',hpm,hpw,hcl,hg9⟩;have HPM:=Hh hpm;have HG9:=Hh hg9;have hk9:∀q,q<wr.heap.size→q≠gh+1→w9.heap[q]?=wr.heap[q]?:=fun q h1 h2=>hg9.block q h1 (fun e=>h2 (by cases e;rfl));have hl':l'.length=k:=(by rw[hpm.length_eq];exact HLL.out);have hsub:∀u∈l',u∈L:=fun u hu=>hpm.mem_iff.1 hu;have HCA:=Hh (zoC w9 (gh+1) k m l' hl' hn0 hn9 hl2 ⟨fun u hu=>zdk (HALL.out u (hsub u hu)).1 hk9 hg9.size (HALL.out u (hsub u hu)).2.2.2,by omega,(by unfold maxLen;omega),fun _=>⟨gh+1,0,rfl,Nat.lt_of_lt_of_le HGL.out hg9.size,fun i hi=>by rw[Nat.zero_add];exact hcl i (by omega)⟩⟩ (fun u hu=>HHI.out u (hsub u hu)) (List.Pairwise.imp_of_mem (fun {a b} ha hb hab=>by rw[zhs (HALL.out b (hsub b hb)).2.2.1 (HALL.out a (hsub a ha)).2.2.1] at hab;omega) hpw) (fun u hu=>HST.out u (hsub u hu)) (fun u hu=>⟨(HALL.out u (hsub u hu)).2.1.2.2.1,(HALL.out u (hsub u hu)).2.1.2.2.2⟩));have HSUB:=Hh hsub;clear hpm hpw hcl hg9 hk9 hl' hsub))
    | (go_at_call 144;go_loud (refine HCA.out.mono ?_;rintro e w10 ⟨v10,rfl,hc10,ho10,hb10⟩;have HO10:=Hh ho10;have HB10:=Hh hb10;clear ho10 hb10)))
   go_ret;refine⟨v10,l',rfl,HO10.out.lowC (Nat.le_trans HBB.out.size HG9.out.size),?_,fun u hu=>HHI.out u (HSUB.out u hu),(HBB.out.grown HG9.out HBB.out.size (fun q e=>by cases e;have:=HGW.out;omega)).trans (HB10.out.mono (Nat.le_trans HBB.out.size HG9.out.size))⟩;have:=HPM.out.map Cv.cn;rw[HMAP.out] at this;exact this
theorem zoD (A0:Option Addr)(c0 lv:Nat)(w:World) :
  Calls Tryz.prog 101 #[.slice A0 0 c0,.int .i64 (lv:Int)] w fun e w'=>e=.returned (.slice none 0 0)∧Below w.heap.size w w':=by
 go_enter Tryz.func101,Tryz.ntmps101;go_wp2_with fail;go_ret;exact⟨rfl,Below.refl _ _⟩
theorem zrj (p:Option Addr)(cap:Nat)(fv:Value)(w:World):Calls Tryz.prog 133 #[.slice p 0 cap,fv] w fun e w'=>e=.returned (.tuple #[])∧w'=w:=by
 have h:=AnyF.slices_SortFunc_none (P:=Tryz.prog) { Tryz.sortI with } p cap fv w;exact h
theorem zjy (A:Option Addr)(c:Nat)(w:World) :
  Calls Tryz.prog 99 #[.slice A 0 c] w (zwi [] w):=by
 obtain⟨W,hW⟩:∃W:World,W=w.alloc (.cells #[.slice A 0 c] 35):=⟨_,rfl⟩;have hb:Below w.heap.size w W:=by rw[hW];exact(Below.refl _ w).alloc (Nat.le_refl _) _
 obtain⟨b1,b2⟩:=zaA w (.slice A 0 c) 35;obtain⟨i0,hi,hz0,hz1,hz2⟩:=info_parts Tryz.infoI;have HI:=Hh (And.intro hi (And.intro hz0 (And.intro hz1 hz2)));have HW:=Hh hW;have HB:=Hh hb;clear hi hz0 hz1 hz2 hW hb;go_enter Tryz.func99,Tryz.ntmps99;go_wp2_with (first
  | (at_make;go_loud (rw[←HW.out];refine wpList_make_full _ rfl _ _ 95 rfl w.heap.size 3 i0 _ 1 Tryz.underlying95 HI.out.1 HI.out.2.1 HI.out.2.2.1 .i64 .i64 _ _ 0 rfl rfl (by omega) (by omega) (by rw[HI.out.2.2.2];omega) (by unfold maxLen;omega) HB.out.size ?_;intro w0 own grow;have HGR:=Hh grow;clear own grow)))
 go_loopw [14] (fun z1 wr=>z1=.int .i64 0∧wr=w0) (fun _ _=>0)
 case atStart=>exact⟨rfl,rfl⟩
 case round =>
  obtain⟨rfl,rfl⟩:=hrel;go_wp2_with (go_at_call 133;go_loud (refine(zrj _ _ _ _).mono ?_;rintro e w2 ⟨rfl,rfl⟩));go_loopw [27,5] (fun z1 z2 wr'=>z1=.int .i64 0∧z2=.slice none 0 0∧wr'=w2) (fun _ _ _=>0)
  case atStart=>exact⟨rfl,rfl,rfl⟩
  case round =>
   obtain⟨rfl,rfl,rfl⟩:=hrel;go_wp2_with fail;go_ret;exact⟨_,[],rfl,rfl,(fun x hx=>by cases hx),OwnC.nil _ _,Nat.le_refl _,HB.out.grown HGR.out HB.out.size (fun k hk=>by cases hk)⟩
end Go.Proofs.YtbabbmdpgpcgjaaGreatDoor

namespace Go.Proofs.YtbabbmdpgpcgjaaGreatDoor
open Go.RowKit Nds Num
def okC (v:Cv):Bool:=zbg v.sx v.xs&&zbg v.sy v.ys
def OfC (l:List Cv)(out:List Nd)(er:Int):Prop :=
 (l.all okC=false→er=1∧out=[])∧(l.all okC=true→(1329<zaJ (zaR (l.map Cv.cl))→er=4∧out=[])∧(zaJ (zaR (l.map Cv.cl))≤1329→er=0 ∧
  ∃l':List Cv,out=(enc (zaF (zaJ (zaR (l.map Cv.cl))) l') []).1∧(l'.map Cv.cn).Perm ((zaR (l.map Cv.cl)).map (shC (p2 (zaJ (zaR (l.map Cv.cl))-1))))∧HiB (zaJ (zaR (l.map Cv.cl))) 0 0 l'))
def zxX (l:List Cv)(w:World)(e:Ending)(w':World):Prop :=
 ∃v' out er,e=.returned (.tuple #[.agg #[v'],.int .i64 er])∧OwnN w' w.heap.size v' out∧Below w.heap.size w w'∧OfC l out er
theorem zxY {c:Cl}:∀{lv:Nat},lv≤1330→upL c lv≤1329→inL c (upL c lv)=true:=fun {lv}=>by
 suffices h:∀d lv,lv+d=1330→upL c lv≤1329→inL c (upL c lv)=true from fun hl h1=>h (1330-lv) lv (by omega) h1
 intro d
 induction d with
 | zero=>intro lv he h1;rw[zjp (by omega)] at h1;omega
 | succ d ih =>
  intro lv he h1;cases hq:inL c lv with
  | true=>rw[zeV hq];exact hq
  | false =>
   rw[zeW (by omega) hq] at h1 ⊢;exact ih (lv+1) (by omega) h1
theorem zxZ (c:Cl):∀(lv:Nat),lv≤1330→lv≤upL c lv∧upL c lv≤1330:=fun lv hl=>by
 suffices h:∀d lv,lv+d=1330→lv≤upL c lv∧upL c lv≤1330 from h (1330-lv) lv (by omega)
 intro d
 induction d with
 | zero=>intro lv he;rw[zjp (by omega)];omega
 | succ d ih =>
  intro lv he;cases hq:inL c lv with
  | true=>rw[zeV hq];omega
  | false =>
   rw[zeW (by omega) hq];have:=ih (lv+1) (by omega);omega
theorem zya {c:Cl}{a b:Nat}(h:inL c a=true)(hab:a≤b):inL c b=true:=by
 unfold inL inH at h ⊢;simp only[Bool.and_eq_true,decide_eq_true_eq] at h ⊢;have:=zaw (show a-1≤b-1 by omega);omega
theorem zgo:∀(l:List Cl) (lv:Nat),lv≤1330→lv≤l.foldl (fun lv c=>upL c lv) lv∧l.foldl (fun lv c=>upL c lv) lv≤1330∧(l.foldl (fun lv c=>upL c lv) lv≤1329→∀c∈l,inL c (l.foldl (fun lv c=>upL c lv) lv)=true)
 | [],lv,h=>⟨Nat.le_refl _,h,fun _ c hc=>by cases hc⟩
 | c :: l,lv,h=>by
  obtain⟨g1,g2⟩:=zxZ c lv h;obtain⟨h1,h2,h3⟩:=zgo l (upL c lv) g2;refine⟨Nat.le_trans g1 h1,h2,fun h9 d hd=>?_⟩;rcases List.mem_cons.1 hd with rfl|hd
  ·exact zya (zxY h (Nat.le_trans h1 h9)) h1
  ·exact h3 h9 d hd
theorem ztS {l out:List Cv}(h:out.map Cv.cl=zaR (l.map Cv.cl)){x:Cv}(hx:x∈out):1≤x.st:=by
 have hm:x.cl∈zaR (l.map Cv.cl):=by rw[←h];exact List.mem_map_of_mem hx
 have:=((zbx _).2.2 _ hm).1;have h2:x.cl.s=x.st:=rfl;omega
theorem zyS {l out:List Cv}(h:out.map Cv.cl=zaR (l.map Cv.cl)){lv:Nat}(hl:lv=zaJ (zaR (l.map Cv.cl)))(h9:lv≤1329){x:Cv}(hx:x∈out):inL x.cl lv=true:=by
 have hm:x.cl∈zaR (l.map Cv.cl):=by rw[←h];exact List.mem_map_of_mem hx
 have:=(zgo (zaR (l.map Cv.cl)) 1 (by omega)).2.2;unfold zaJ at hl;rw[←hl] at this;exact this h9 _ hm
theorem zvu {l:List Cl}{lv:Nat}(hl:lv=zaJ l):1≤lv:=by
 have:=(zgo l 1 (by omega)).1;unfold zaJ at hl;omega
theorem zkK (A:Option Addr)(c n:Nat)(l:List Cv)(w:World)(h:Cs w A c l)(hn:l.length=n)(hR:∀v∈l,CvR v)(hn9:n≤900000) :
  Calls Tryz.prog 99 #[.slice A n c] w (zwi l w):=by
 rcases Nat.eq_zero_or_pos n with h0|h0
 ·subst h0;rw[List.eq_nil_of_length_eq_zero hn];exact zjy A c w
 ·exact zkx A c n l w h hn hR h0 hn9
theorem zrk (A0:Option Addr)(c0 n lv:Nat)(l:List Cv)(w:World)(h:Cs w A0 c0 l)(hn:l.length=n)(hn9:n≤600)(hR:∀v∈l,CvR v)(hS:∀v∈l,1≤v.st)(hI:∀v∈l,inL v.cl lv=true)(hl1:1≤lv)(hl2:lv≤1329) :
  Calls Tryz.prog 101 #[.slice A0 n c0,.int .i64 (lv:Int)] w (zxW lv l w):=by
 rcases Nat.eq_zero_or_pos n with h0|h0
 ·subst h0;rw[List.eq_nil_of_length_eq_zero hn];refine(zoD A0 c0 lv w).mono ?_;rintro e w' ⟨rfl,hb⟩;refine⟨_,[],rfl,?_,List.Perm.refl _,(fun u hu=>by cases hu),hb⟩;rw[zdJ];exact zeR _ _
 ·exact zri A0 c0 n lv l w h hn h0 hn9 hR hS hI hl1 hl2
theorem zcD {s:Bool}{xs:List Nat}(h:zbg s xs=true):zaC s xs:=by
 unfold zbg at h;rw[Bool.and_eq_true] at h;refine⟨?_,fun hs e=>?_⟩
 ·have h1:=h.1;simp[zib] at h1;unfold zaS;rw[List.getLast?_eq_getElem?];intro e;rcases h1 with rfl|h1
  ·simp at e
  ·rw[e] at h1;exact h1 rfl
 ·subst hs e;simp at h
theorem zvv {l:List Cv}{w0 wr w5:World}{x:Cv}(hbb:Below w0.heap.size w0 wr)(hb5:Below wr.heap.size wr w5)(hx:x∈l)(hok:okC x=false) :
  zxX l w0 (.returned (.tuple #[.agg #[.slice none 0 0],.int .i64 1])) (w5.setCell ⟨w0.heap.size,0,none⟩ (.slice none 0 0)):=by
 refine⟨_,[],1,rfl,zeR _ _,(hbb.trans (hb5.mono hbb.size)).setCell (Nat.le_refl _) _,fun _=>⟨rfl,rfl⟩,fun h=>?_⟩;have:=List.all_eq_true.1 h x hx;rw[hok] at this;cases this
theorem zws (A:Option Addr)(c n:Nat)(l:List Cv)(w:World)(h:Cs w A c l)(hn:l.length=n)(hn9:n≤600)(hln:∀v∈l,v.xs.length≤60000∧v.ys.length≤60000) :
  Calls Tryz.prog 68 #[.slice A n c] w (zxX l w):=by
 have hcap:=h.cap;rw[hn] at hcap;obtain⟨W,hW⟩:∃W:World,W=w.alloc (.cells #[.slice none 0 0] 27):=⟨_,rfl⟩;have hb:Below w.heap.size w W:=by rw[hW];exact(Below.refl _ w).alloc (Nat.le_refl _) _
 have hq:W.heap[w.heap.size]?=some (.cells #[.slice none 0 0] 27):=by rw[hW];exact heap_alloc_new w _
 have HWL:=Hh (show w.heap.size<W.heap.size by rw[hW];simp);have HC:=Hh h;have HN:=Hh hn;have HL:=Hh hln;have HW:=Hh hW;have HB:=Hh hb;have HQ:=Hh hq;clear h hn hln hW hb hq;go_enter Tryz.func68,Tryz.ntmps68;go_wp2_with fail;go_loopw [10] (fun z wr=>∃(k:Nat),k≤n∧z=.int .i64 k∧(∀j,j<k→okC (cat l j)=true)∧Below w.heap.size w wr∧wr.heap[w.heap.size]?=some (.cells #[.slice none 0 0] 27)) (fun z _=>n-(intOf z).toNat)
 case atStart=>exact⟨0,by omega,rfl,fun j hj=>by omega,by rw[←HW.out];exact HB.out,by rw[←HW.out];exact HQ.out⟩
 case round =>
  obtain⟨k,hk,rfl,hall,hbb,hqq⟩:=hrel;have HAL:=Hh hall;have HBB:=Hh hbb;have HQQ:=Hh hqq;have g0:=zaa hqq;have g1:=zam hqq;by_cases hlt:k<n
  ·have i1:(k:Int)<(n:Int):=by omega
   have i2:(0:Int)≤(k:Int):=by omega
   have t1:decide ((k:Int)<(n:Int))=true:=decide_eq_true i1;obtain⟨b,off,rfl,hbl,hcl⟩:=(HC.out.below hbb).at_ (by rw[HN.out];omega)
   obtain⟨c1_,c2_,c3_,c4_,c5_⟩:=hcl k (by rw[HN.out];exact hlt);have hxl:=zaZ (l:=l) (i:=k) (by rw[HN.out];exact hlt);have hxu:=(HC.out.below hbb).1 _ hxl;have hln:=HL.out _ hxl;obtain⟨x,hx⟩:∃x,x=cat l k:=⟨_,rfl⟩;rw[←hx] at c1_ c2_ c3_ c4_ c5_ hxu hln hxl;have hv1:=hxu.1.cap;have hv2:=hxu.2.1.cap;have HXX:=Hh hx;have HXL:=Hh hxl;have HLN:=Hh hln;have hbA:Below wr.heap.size wr (wr.alloc (.cells #[.bool x.sx,.slice x.ax x.xs.length x.cx,.bool x.sy,.slice x.ay x.ys.length x.cy,.int .u8 x.st] 123)):=(Below.refl _ wr).alloc (Nat.le_refl _) _;have HBA:=Hh hbA;have HCV:=Hh (CvAt.new wr x 123);have HXU:=Hh (hxu.below hbA);have HLA:=Hh (show wr.heap.size<(wr.alloc (.cells #[.bool x.sx,.slice x.ax x.xs.length x.cx,.bool x.sy,.slice x.ay x.ys.length x.cy,.int .u8 x.st] 123)).heap.size by simp);have hgl:=zag g0;dsimp only at hgl;obtain⟨rX,hrX⟩:∃r,r=zbg x.sx x.xs:=⟨_,rfl⟩;obtain⟨rY,hrY⟩:∃r,r=zbg x.sy x.ys:=⟨_,rfl⟩;have HRX:=Hh hrX;have HRY:=Hh hrY;have HOK:=Hh (show okC x=(rX&&rY) by unfold okC;rw[←hrX,←hrY]);clear hx hxl hxu hcl hrX hrY hbA hbb hqq hln;cases rX with
   | false =>
    go_wp2_with (go_at_call 98;go_loud (refine(zay x.sx x.ax x.cx x.xs _ HXU.out.1 HLN.out.1).mono ?_;rintro e w5 ⟨rfl,b5⟩;rw[←HRX.out];have HB5:=Hh (HBA.out.trans (b5.mono HBA.out.size));have q0:=zaa ((HB5.out.block w.heap.size hgl).trans HQQ.out);have q1:=zam ((HB5.out.block w.heap.size hgl).trans HQQ.out);clear b5));have e1:=World.cell?_setCell_same _ _ (.slice none 0 0) q0;exact bodyPost_ret (v:=.tuple #[.agg #[.slice none 0 0],.int .i64 1]) (by simp[results,Tryz.results68,go_sem,e1]) rfl (zvv HBB.out HB5.out HXL.out (HOK.out.trans rfl))
   | true =>
    have sX:=Hh True.intro;cases rY with
    | false =>
     go_wp2_with (first
      | (have _t:=sX;go_at_call 98;clear _t;go_loud (clear sX;have sY:=Hh True.intro;refine(zay x.sx x.ax x.cx x.xs _ HXU.out.1 HLN.out.1).mono ?_;rintro e w5 ⟨rfl,b5⟩;rw[←HRX.out];have HB5:=Hh (HBA.out.trans (b5.mono HBA.out.size));have HXU5:=Hh (HXU.out.below b5);obtain⟨k0_,k1_,k2_,k3_,k4_⟩:=HCV.out.below (b5.block wr.heap.size HLA.out);have q0:=zaa ((HB5.out.block w.heap.size hgl).trans HQQ.out);have q1:=zam ((HB5.out.block w.heap.size hgl).trans HQQ.out);clear b5))
      | (have _t:=sY;go_at_call 98;clear _t;go_loud (clear sY;refine(zay x.sy x.ay x.cy x.ys _ HXU5.out.2.1 HLN.out.2).mono ?_;rintro e w6 ⟨rfl,b6⟩;rw[←HRY.out];have HB6:=Hh (HB5.out.trans (b6.mono HB5.out.size));have q0:=zaa ((HB6.out.block w.heap.size hgl).trans HQQ.out);have q1:=zam ((HB6.out.block w.heap.size hgl).trans HQQ.out);clear b6)))
     have e1:=World.cell?_setCell_same _ _ (.slice none 0 0) q0;exact bodyPost_ret (v:=.tuple #[.agg #[.slice none 0 0],.int .i64 1]) (by simp[results,Tryz.results68,go_sem,e1]) rfl (zvv HBB.out HB6.out HXL.out (HOK.out.trans rfl))
    | true =>
     go_wp2_with (first
      | (have _t:=sX;go_at_call 98;clear _t;go_loud (clear sX;have sY:=Hh True.intro;refine(zay x.sx x.ax x.cx x.xs _ HXU.out.1 HLN.out.1).mono ?_;rintro e w5 ⟨rfl,b5⟩;rw[←HRX.out];have HB5:=Hh (HBA.out.trans (b5.mono HBA.out.size));have HXU5:=Hh (HXU.out.below b5);obtain⟨k0_,k1_,k2_,k3_,k4_⟩:=HCV.out.below (b5.block wr.heap.size HLA.out);clear b5))
      | (have _t:=sY;go_at_call 98;clear _t;go_loud (clear sY;refine(zay x.sy x.ay x.cy x.ys _ HXU5.out.2.1 HLN.out.2).mono ?_;rintro e w6 ⟨rfl,b6⟩;rw[←HRY.out];have HB6:=Hh (HB5.out.trans (b6.mono HB5.out.size));clear b6)))
     go_roundw
     case rel=>exact⟨k+1,by omega,by go_num,fun j hj=>by
      rcases Nat.lt_or_ge j k with h|h
      ·exact HAL.out j h
      ·have:j=k:=by omega
       subst this;rw[←HXX.out,HOK.out];rfl,HBB.out.trans (HB6.out.mono HBB.out.size),(HB6.out.block w.heap.size hgl).trans HQQ.out⟩
     case measure=>simp[intOf];omega
  ·obtain rfl:k=n:=by omega
   have t1:decide ((k:Int)<(k:Int))=false:=decide_eq_false (by omega);have hok:l.all okC=true:=List.all_eq_true.2 fun v hv=>by
    obtain⟨j,hj,rfl⟩:=List.getElem_of_mem hv;have:=hall j (by have:=HN.out;omega)
    rwa [zcr hj] at this
   have hR:∀v∈l,CvR v:=fun v hv=>by
    have h1:=List.all_eq_true.1 hok v hv;unfold okC at h1;obtain⟨h2,h3⟩:=Bool.and_eq_true_iff.1 h1;exact⟨zcD h2,zcD h3,HL.out v hv⟩
   have HR:=Hh hR;have HOKL:=Hh hok;clear hR hok hall hbb hqq;have hgl:=zag g0;dsimp only at hgl;obtain⟨lv,hlv⟩:∃lv,lv=zaJ (zaR (l.map Cv.cl)):=⟨_,rfl⟩;have HLV:=Hh hlv;clear hlv;by_cases hbig:1329<lv
   ·have t2:decide ((1329:Int)<(lv:Int))=true:=decide_eq_true (by omega);go_wp2_with (first
     | (go_at_call 99;go_loud (refine(zkK A c k l _ (HC.out.below HBB.out) HN.out HR.out (by omega)).mono ?_;rintro e w5 ⟨v,out,rfl,o1,o2,o3,o4,b5⟩;have hU5:∀x∈out,CvU w5 x:=(fun x hx=>(((HC.out.below HBB.out).below b5).1 x (o2 x hx)));obtain⟨A1,c1,rfl,hcs,_,_⟩:=o3.cs hU5;have hcap1:=hcs.cap;have HS:=Hh hcs;have HO1:=Hh o1;have HO2:=Hh o2;have HO4:=Hh o4;have HB5:=Hh b5;have q0:=zaa ((b5.block w.heap.size hgl).trans HQQ.out);have q1:=zam ((b5.block w.heap.size hgl).trans HQQ.out);clear o1 o2 o3 o4 b5 hcs hU5))
     | (go_at_call 100;go_loud (refine(zkr A1 c1 out.length out _ HS.out rfl (fun x hx=>HR.out x (HO2.out x hx)) (by have:=HO4.out;have:=HN.out;omega)).mono ?_;rintro e w6 ⟨rfl,b6⟩;rw[HO1.out,←HLV.out];have HB6:=Hh b6;have q0:=zaa ((b6.block w.heap.size (Nat.lt_of_lt_of_le hgl HB5.out.size)).trans ((HB5.out.block w.heap.size hgl).trans HQQ.out));have q1:=zam ((b6.block w.heap.size (Nat.lt_of_lt_of_le hgl HB5.out.size)).trans ((HB5.out.block w.heap.size hgl).trans HQQ.out));clear b6)))
    have e1:=World.cell?_setCell_same _ _ (.slice none 0 0) q0;refine bodyPost_ret (v:=.tuple #[.agg #[.slice none 0 0],.int .i64 4]) (by simp[results,Tryz.results68,go_sem,e1]) rfl ?_;have hW6:Below w.heap.size w w6:=(HBB.out.trans (HB5.out.mono HBB.out.size)).trans (HB6.out.mono (Nat.le_trans HBB.out.size HB5.out.size));refine⟨_,[],4,rfl,zeR _ _,hW6.setCell (Nat.le_refl _) _,fun h=>?_,fun _=>⟨fun _=>⟨rfl,rfl⟩,fun h=>?_⟩⟩
    ·rw[HOKL.out] at h;cases h
    ·have:=HLV.out;omega
   ·have t2:decide ((1329:Int)<(lv:Int))=false:=decide_eq_false (by omega);go_wp2_with (first
     | (go_at_call 99;go_loud (refine(zkK A c k l _ (HC.out.below HBB.out) HN.out HR.out (by omega)).mono ?_;rintro e w5 ⟨v,out,rfl,o1,o2,o3,o4,b5⟩;have hU5:∀x∈out,CvU w5 x:=(fun x hx=>(((HC.out.below HBB.out).below b5).1 x (o2 x hx)));obtain⟨A1,c1,rfl,hcs,_,_⟩:=o3.cs hU5;have hcap1:=hcs.cap;have HS:=Hh hcs;have HO1:=Hh o1;have HO2:=Hh o2;have HO4:=Hh o4;have HB5:=Hh b5;have q0:=zaa ((b5.block w.heap.size hgl).trans HQQ.out);have q1:=zam ((b5.block w.heap.size hgl).trans HQQ.out);clear o1 o2 o3 o4 b5 hcs hU5))
     | (go_at_call 100;go_loud (refine(zkr A1 c1 out.length out _ HS.out rfl (fun x hx=>HR.out x (HO2.out x hx)) (by have:=HO4.out;have:=HN.out;omega)).mono ?_;rintro e w6 ⟨rfl,b6⟩;rw[HO1.out,←HLV.out];have HB6:=Hh b6;have q0:=zaa ((b6.block w.heap.size (Nat.lt_of_lt_of_le hgl HB5.out.size)).trans ((HB5.out.block w.heap.size hgl).trans HQQ.out));have q1:=zam ((b6.block w.heap.size (Nat.lt_of_lt_of_le hgl HB5.out.size)).trans ((HB5.out.block w.heap.size hgl).trans HQQ.out));clear b6))
     | (go_at_call 101;go_loud (have h1:=HS.out.below HB6.out;have h2:out.length≤600:=(by have:=HO4.out;have:=HN.out;omega);have h3:∀v∈out,CvR v:=(fun x hx=>HR.out x (HO2.out x hx));have h4:∀v∈out,1≤v.st:=(fun x hx=>ztS HO1.out hx);have h9:lv≤1329:=(by omega);have h5:∀v∈out,inL v.cl lv=true:=(fun x hx=>zyS HO1.out HLV.out h9 hx);have h6:=zvu HLV.out;have HC7:=Hh (zrk A1 c1 out.length lv out w6 h1 rfl h2 h3 h4 h5 h6 h9);clear h1 h2 h3 h4 h5 h6 h9;refine HC7.out.mono ?_;rintro e w7 ⟨v7,l7,rfl,p1,p2,p3,b7⟩;obtain⟨A7,c7,hv7,hN7,-,-⟩:=p1.shape;obtain⟨n7,hn7⟩:∃n,n=(enc (zaF lv l7) []).1.length:=⟨_,rfl⟩;rw[←hn7] at hv7;subst hv7;have hc7:=hN7.cap;rw[←hn7] at hc7;clear hN7 hn7;have HP1:=Hh p1;have HP2:=Hh p2;have HP3:=Hh p3;have HB7:=Hh b7;have q0:=zaa ((b7.block w.heap.size (Nat.lt_of_lt_of_le hgl (Nat.le_trans HB5.out.size HB6.out.size))).trans ((HB6.out.block w.heap.size (Nat.lt_of_lt_of_le hgl HB5.out.size)).trans ((HB5.out.block w.heap.size hgl).trans HQQ.out)));have q1:=zam ((b7.block w.heap.size (Nat.lt_of_lt_of_le hgl (Nat.le_trans HB5.out.size HB6.out.size))).trans ((HB6.out.block w.heap.size (Nat.lt_of_lt_of_le hgl HB5.out.size)).trans ((HB5.out.block w.heap.size hgl).trans HQQ.out)));clear p1 p2 p3 b7)))
    have hset:=heap_setCell_same w7 w.heap.size 0 _ _ (.slice A7 n7 c7) ((HB7.out.block w.heap.size (Nat.lt_of_lt_of_le hgl (Nat.le_trans HB5.out.size HB6.out.size))).trans ((HB6.out.block w.heap.size (Nat.lt_of_lt_of_le hgl HB5.out.size)).trans ((HB5.out.block w.heap.size hgl).trans HQQ.out)));have e1:(w7.setCell ⟨w.heap.size,0,none⟩ (.slice A7 n7 c7)).cell? ⟨w.heap.size,0,none⟩=some (.slice A7 n7 c7):=World.cell?_setCell_same _ _ (.slice A7 n7 c7) q0;refine bodyPost_ret (v:=.tuple #[.agg #[.slice A7 n7 c7],.int .i64 0]) (by simp[results,Tryz.results68,go_sem,e1]) rfl ?_;have hs56:=Nat.le_trans HB5.out.size HB6.out.size;have hW7:Below w.heap.size w w7:=((HBB.out.trans (HB5.out.mono HBB.out.size)).trans (HB6.out.mono (Nat.le_trans HBB.out.size HB5.out.size))).trans (HB7.out.mono (Nat.le_trans HBB.out.size hs56));refine⟨_,_,0,rfl,(HP1.out.gbr (zcR w7 ⟨w.heap.size,0,none⟩ (.slice A7 n7 c7)) (zbK (fun q hq e=>?_))).lowC (Nat.le_trans HBB.out.size hs56),hW7.setCell (Nat.le_refl _) _,fun h=>?_,fun _=>⟨fun h=>?_,fun _=>⟨rfl,l7,?_,?_,?_⟩⟩⟩
    ·have h1:=(HP1.out.lt q hq).1;have h2:=Option.some.inj e;dsimp only at h2;omega
    ·rw[HOKL.out] at h;cases h
    ·rw[←HLV.out] at h;omega
    ·rw[←HLV.out]
    ·rw[←HLV.out,←HO1.out,List.map_map];exact HP2.out
    ·rw[←HLV.out];exact HP3.out
end Go.Proofs.YtbabbmdpgpcgjaaGreatDoor
