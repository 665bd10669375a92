import Derived.Test.YtikehjindobpkaaGreatGClNp
import Derived.Test.YtikehjindobpkaaGreatGClLa
import Derived.Test.YtikehjindobpkaaGreatGNcLn

set_option linter.unusedVariables false
set_option linter.unusedSimpArgs false
set_option maxRecDepth 100000
set_option maxHeartbeats 6400000
namespace Go.Proofs.YtikehjindobpkaaGreat
open Go.RowKit Nds Num
def RetNd (base bb bm:Nat)(v:Value)(r:List Nd × Int)(w:World)(e:Ending)(w':World):Prop :=
 ∃v',e=.returned (.int .i64 r.2)∧Bd w' base bb bm v' r.1∧(∀k,v'.ownBlock=some k→v.ownBlock=some k∨w.heap.size≤k)∧Ky (BdP bb bm v) w w'
theorem Cs.take {w:World}{A:Option Addr}{c:Nat}{l:List Cv}(h:Cs w A c l)(k:Nat):Cs w A c (l.take k):=by
 refine⟨fun v hv=>h.1 v (List.mem_of_mem_take hv),by rw[List.length_take];have:=h.2.1;omega,h.2.2.1,fun hn=>?_⟩
 rw[List.length_take] at hn
 obtain⟨b,off,e,hb,hc⟩:=h.2.2.2 (by omega)
 refine⟨b,off,e,hb,fun i hi=>?_⟩
 rw[List.length_take] at hi
 have e1:cat (l.take k) i=cat l i:=by
  unfold cat;rw[List.getElem?_take,if_pos (by omega)]
 rw[e1]
 exact hc i (by omega)
theorem Cs.drop {w:World}{b off c:Nat}{l:List Cv}(h:Cs w (some ⟨b,off,none⟩) c l)(k:Nat)(hk:k≤l.length)(A':Option Addr)(hA:k<l.length→A'=some ⟨b,off+k*5,none⟩):Cs w A' (c-k) (l.drop k):=by
 have h1:=h.2.1
 refine⟨fun v hv=>h.1 v (List.mem_of_mem_drop hv),by rw[List.length_drop];omega,by have:=h.2.2.1;omega,fun hn=>?_⟩
 rw[List.length_drop] at hn
 obtain⟨b2,off2,e,hb,hc⟩:=h.2.2.2 (by omega)
 cases e
 refine⟨b,off+k*5,hA (by omega),hb,fun i hi=>?_⟩
 rw[List.length_drop] at hi
 have e1:cat (l.drop k) i=cat l (k+i):=by
  unfold cat;rw[List.getElem?_drop]
 rw[e1,show off+k*5+i*5=off+(k+i)*5 by omega]
 exact hc (k+i) (by omega)
def lenAt (W:World)(B:Nat):Nat:=match W.cell? ⟨B,0,none⟩ with|some (.slice _ n _)=>n|_=>0
theorem lenAt_of {W:World}{B:Nat}{A:Option Addr}{n c:Nat}(h:W.cell? ⟨B,0,none⟩=some (.slice A n c)):lenAt W B=n:=by
 unfold lenAt
 rw[h]
theorem node_zero (base bb bm:Nat)(v:Value)(out:List Nd)(A:Option Addr)(c n:Nat)(l:List Cv)(w:World)(hC:Cs w A c l)(hn:l.length=n)(hn0:0<n)(h:Bd w base bb bm v out) :
  Calls Tryz.prog 100 #[.pointer (some ⟨bb,0,none⟩),.slice A n c,.int .i64 0] w (RetNd base bb bm v (enc (treeZ 0 l) out) w):=by
 have hcap:=hC.cap
 rw[hn] at hcap
 obtain⟨b,off,rfl,hbl,hc⟩:=hC.at_ (by omega)
 obtain⟨c1,c2,c3,c4,c5⟩:=hc 0 (by omega)
 simp only[Nat.zero_mul,Nat.add_zero] at c1 c2 c3 c4 c5
 have hu:=hC.1 _ (cat_mem (i:=0) (by omega))
 have he:enc (treeZ 0 l) out=(out,((cat l 0).st:Int)):=by
  cases l with
  | nil=>simp at hn;omega
  | cons u l=>rfl
 obtain⟨s,hs⟩:∃s,s=(cat l 0).st:=⟨_,rfl⟩
 have hs9:s≤255:=by rw[hs];exact hu.2.2
 rw[he]
 rw[←hs] at c5 ⊢
 have HB:=Lib.hid h
 have i1:(0:Int)<(n:Int):=by omega
 obtain⟨W,hW⟩:∃W:World,W=(w.alloc (.cells #[.slice (some ⟨b,off,none⟩) n c] 22)).alloc (.cells #[.int .i64 0] 3):=⟨_,rfl⟩
 have HL:=Lib.hid (show Below w.heap.size w W by rw[hW];exact((Below.refl _ w).alloc (Nat.le_refl _) _).alloc (by simp) _)
 have HW:=Lib.hid hW
 clear hC hc hu he hs h hW c1 c2 c3 c4
 go_enter Tryz.func100,Tryz.ntmps100
 go_wp2_with fail
 go_ret
 rw[←HW.out]
 exact⟨v,ret_int rfl,HB.out.next HL.out,fun k hk=>.inl hk,(Ky.refl _ w).below HL.out⟩
theorem NdBox.kidAt {w:World}{g:Nat}{x:Nd}(h:NdBox w g x){k:Nat}(hk:k<4):w.cell? ⟨g,1+k,none⟩=some (.int .i64 (x.kid k)):=by
 obtain⟨h0,h1,h2,h3,h4⟩:=h.at_
 match k,hk with
 | 0,_=>exact h1
 | 1,_=>exact h2
 | 2,_=>exact h3
 | 3,_=>exact h4
structure NJ (w0 w:World)(base bb bm:Nat)(v:Value)(out:List Nd)(m:Nat)(l:List Cv)(j:Nat)(v1:Value)(A:Option Addr)(c r:Nat)(W:World):Prop where
 hr:(remQ l m j).length=r
 cs:Cs w0 A c (remQ l m j)
 bl:W.heap[w.heap.size]?=some (.cells #[.slice A r c] 22)
 bv:W.heap[w.heap.size+1]?=some (.cells #[.int .i64 ((m:Int)+1)] 3)
 bx:NdBox W (w.heap.size+2) (mix ⟨(m:Int)+1,0,0,0,0⟩ (topN (fQ m l) out ((m:Int)+1)) j)
 bd:Bd W base bb bm v1 (outK (fQ m l) out j)
 vb:∀k,v1.ownBlock=some k→v.ownBlock=some k∨w.heap.size+3≤k
 ky:Ky (BdP bb bm v) w W
 sz:w.heap.size+3≤W.heap.size
theorem NJ.next {w0 w:World}{base bb bm:Nat}{v:Value}{out:List Nd}{m:Nat}{l:List Cv}{j:Nat}{v1:Value}{A:Option Addr}{c r:Nat}{W W1:World}(h:NJ w0 w base bb bm v out m l j v1 A c r W)(k:Below W.heap.size W W1):NJ w0 w base bb bm v out m l j v1 A c r W1 :=
 have hs:=h.sz
 ⟨h.hr,h.cs,(k.block _ (by omega)).trans h.bl,(k.block _ (by omega)).trans h.bv,h.bx.stay (k.block _ (by omega)),h.bd.next k,h.vb,h.ky.below k,Nat.le_trans h.sz k.size⟩
theorem NJ.below {w0 w:World}{base bb bm:Nat}{v:Value}{out:List Nd}{m:Nat}{l:List Cv}{j:Nat}{v1:Value}{A:Option Addr}{c r:Nat}{W:World}(h:NJ w0 w base bb bm v out m l j v1 A c r W)(hb:Below w0.heap.size w0 w)(h1:w0.heap.size≤bb∧w0.heap.size≤bm∧w0.heap.size≤base)(ho:∀k,v.ownBlock=some k→base≤k):Below w0.heap.size w0 W :=
 hb.trans (h.ky.to hb.size (fun k hk=>by
  rcases hk with rfl|rfl|hk
  ·exact h1.1
  ·exact h1.2.1
  ·exact Nat.le_trans h1.2.2 (ho k hk)))
def cntQ (m:Nat)(l:List Cv)(k:Nat):Nat:=l.countP fun v=>decide (quaC v m<k)
theorem cntQ_succ (m:Nat)(l:List Cv)(k:Nat):cntQ m l (k+1)=cntQ m l k+(l.filter (inQ m k)).length:=by
 unfold cntQ
 rw[←List.countP_eq_length_filter]
 induction l with
 | nil=>rfl
 | cons v l ih =>
  rw[List.countP_cons,List.countP_cons,List.countP_cons,ih];unfold inQ;rcases Nat.lt_trichotomy (quaC v m) k with h|h|h
  ·rw[if_pos (by simp;omega),if_pos (by simpa using h),if_neg (by simp;omega)]
   omega
  ·rw[if_pos (by simp;omega),if_neg (by simp;omega),if_pos (by simpa using h)]
   omega
  ·rw[if_neg (by simp;omega),if_neg (by simp;omega),if_neg (by simp;omega)]
   omega
theorem cntQ_le (m:Nat)(l:List Cv)(k:Nat):cntQ m l k≤l.length:=List.countP_le_length
theorem outK_len (m:Nat)(l:List Cv)(out:List Nd):∀k,(outK (fQ m l) out k).length≤out.length+m*cntQ m l k
 | 0=>Nat.le_add_right _ _
 | k+1=>by
  have h1:=outK_len m l out k
  have h2:=enc_len m (l.filter (inQ m k)) (outK (fQ m l) out k)
  rw[cntQ_succ,Nat.mul_add];show(enc (treeZ m (l.filter (inQ m k))) (outK (fQ m l) out k)).1.length≤_
  omega
theorem node_rec (base bb bm:Nat)(w0:World)(hd:bb≠bm)(hb:bb<base∧bm<base)(hlo:w0.heap.size≤bb∧w0.heap.size≤bm):∀(m:Nat),m≤1329→∀(A:Option Addr) (c n:Nat) (l:List Cv) (hx hy:Nat) (v:Value) (out:List Nd) (w:World),
  l.length=n→0<n→n≤900000→Cs w0 A c l→Below w0.heap.size w0 w→Bd w base bb bm v out→GoodL out→HiB m hx hy l→Zs l→(∀u∈l,1≤u.st∧u.st≤255)→(∀u∈l,u.xs.length≤60000∧u.ys.length≤60000)→out.length+m*n≤900000→base≤w.heap.size →
  Calls Tryz.prog 100 #[.pointer (some ⟨bb,0,none⟩),.slice A n c,.int .i64 (m:Int)] w (RetNd base bb bm v (enc (treeZ m l) out) w):=by
 intro m
 induction m with
 | zero =>
  intro hm A c n l hx hy v out w hn hn0 hn9 hC hw hB hg hHi hZ hst hln hlen hbs
  exact node_zero base bb bm v out A c n l w (hC.below hw) hn hn0 hB
 | succ m ih =>
  intro hm A c n l hx hy v out w hn hn0 hn9 hC hw hB hg hHi hZ hst hln hlen hbs
  have hne:l≠[]:=fun e=>by subst e;simp at hn;omega
  have hcap:=hC.cap
  rw[hn] at hcap;have hQ:=hZ.quarters hHi
  have hvo:∀k,v.ownBlock=some k→base≤k∧k<w.heap.size:=fun k hk=>hB.o.lt k hk
  obtain⟨W,hW⟩:∃W:World,W=(((w.alloc (.cells #[.slice A n c] 22)).alloc (.cells #[.int .i64 ((m:Int)+1)] 3)).alloc (.cells #[.int .i64 ((m:Int)+1),.int .i64 0,.int .i64 0,.int .i64 0,.int .i64 0] 74)):=⟨_,rfl⟩
  have hL:Below w.heap.size w W:=by rw[hW];exact(((Below.refl _ w).alloc (Nat.le_refl _) _).alloc (by simp) _).alloc (by simp;omega) _
  have hJ0:NJ w0 w base bb bm v out m l 0 v A c n W:=by
   refine⟨by rw[rem_zero];exact hn,by rw[rem_zero];exact hC,?_,?_,?_,hB.next hL,fun k hk=>.inl hk,(Ky.refl _ w).below hL,by rw[hW];simp only[World.size_alloc];omega⟩
   ·rw[hW];exact(Below.heap_alloc _ _ _ (by simp only[World.size_alloc];omega)).trans ((Below.heap_alloc _ _ _ (by simp only[World.size_alloc];omega)).trans (heap_alloc_new w _))
   ·rw[hW];refine(Below.heap_alloc _ _ _ (by simp only[World.size_alloc];omega)).trans ?_
    have:=heap_alloc_new (w.alloc (.cells #[.slice A n c] 22)) (.cells #[.int .i64 ((m:Int)+1)] 3)
    rwa [World.size_alloc] at this
   ·rw[hW];have:=NdBox.new ((w.alloc (.cells #[.slice A n c] 22)).alloc (.cells #[.int .i64 ((m:Int)+1)] 3)) ⟨(m:Int)+1,0,0,0,0⟩
    rwa [World.size_alloc,World.size_alloc] at this
  have HJ0:=Lib.hid hJ0;have HW:=Lib.hid hW;have HIH:=Lib.hid ih;have HQQ:=Lib.hid hQ;have HST:=Lib.hid hst;have HLN:=Lib.hid hln;have HHI:=Lib.hid hHi;have HZZ:=Lib.hid hZ;have HGG:=Lib.hid hg;have HBB:=Lib.hid hB;have HW0:=Lib.hid hw;have HVO:=Lib.hid hvo;have HNE:=Lib.hid hne;have HN:=Lib.hid hn;have HLEN:=Lib.hid hlen;have i0:(((m+1:Nat):Int))=(m:Int)+1:=by omega
  have i1:(((m:Int)+1)==0)=false:=by rw[beq_eq_false_iff_ne];omega
  rw[i0];clear ih hQ hst hln hHi hZ hg hB hw hvo hne hn hlen hW hJ0 hL hC i0
  go_enter Tryz.func100,Tryz.ntmps100
  go_wp2_with fail
  go_loopw [9] (fun z wr=>∃(j:Nat) (u v1:Value) (A1:Option Addr) (c1 r1:Nat),z=u∧j≤4∧NJ w0 w base bb bm v out m l j v1 A1 c1 r1 wr) (fun _ W=>lenAt W w.heap.size)
  case atStart=>exact⟨0,_,v,A,c,n,rfl,by omega,by rw[←HW.out];exact HJ0.out⟩
  case round =>
   obtain⟨j,u,v1,A1,c1,r1,rfl,hj4,hJ⟩:=hrel
   have HJ:=Lib.hid hJ;have cL:=one_cell hJ.bl
   have fL:=one_free hJ.bl
   have cV:=one_cell hJ.bv
   have hrc:=hJ.cs.cap
   rw[hJ.hr] at hrc;obtain⟨x1,x2,x3,x4,x5⟩:=hJ.bx.at_
   rw[show w.heap.size+2=w.heap.size+1+1 by omega] at x1 x2 x3 x4 x5;by_cases hr0:r1=0
   ·subst hr0;have t1:decide (0<(0:Nat))=false:=rfl
    have hre:remQ l m j=[]:=List.eq_nil_of_length_eq_zero hJ.hr
    have hemp:∀k,j≤k→k<4→l.filter (inQ m k)=[]:=fun k hk _=>List.filter_eq_nil_iff.2 fun u hu e=>by
     have h1:quaC u m=k:=by unfold inQ at e;simpa using e
     have h2:u∈remQ l m j:=List.mem_filter.2 ⟨hu,by simp;omega⟩
     rw[hre] at h2;cases h2
    have hmix:=fQ_mix (out:=out) (v:=(m:Int)+1) hj4 (Nat.le_refl 4) hemp
    have hout:=fQ_out (out:=out) hj4 hemp
    rw[mix_four (x:=⟨(m:Int)+1,0,0,0,0⟩) (y:=topN (fQ m l) out ((m:Int)+1)) rfl] at hmix;rw[←hmix] at x1 x2 x3 x4 x5;have HBD:=Lib.hid (show Bd wr base bb bm v1 (outK (fQ m l) out 4) by rw[hout];exact hJ.bd)
    have hk4:=enc_K (l:=l) (m:=m) (by omega) HST.out HGG.out 4 (Nat.le_refl 4)
    have hl4:(outK (fQ m l) out 4).length≤900000:=by
     have h1:(add (outK (fQ m l) out 4) (topN (fQ m l) out ((m:Int)+1))).1.length≤out.length+(m+1)*l.length:=by
      have:=enc_len (m+1) l out
      rw[enc_Z HNE.out] at this;exact this
     have h2:(outK (fQ m l) out 4).length≤(add (outK (fQ m l) out 4) (topN (fQ m l) out ((m:Int)+1))).1.length:=by
      unfold add
      split
      ·simp
      ·exact Nat.le_refl _
     have h3:=HLEN.out
     have h4:=HN.out
     rw[h4] at h1;omega
    have hwf:=topQ_wf (out:=out) hm HNE.out HST.out HGG.out (by omega)
    obtain⟨y,hy⟩:∃y,y=topN (fQ m l) out ((m:Int)+1):=⟨_,rfl⟩
    rw[←hy] at x1 x2 x3 x4 x5 hwf;have HY:=Lib.hid hy;have HWF:=Lib.hid hwf;have HK4:=Lib.hid hk4.good;have HL4:=Lib.hid hl4;clear hJ hre hemp hmix hout hk4 hl4 hwf hy;go_wp2_with (go_at_call 129;go_loud (refine(number_any base bb bm v1 (outK (fQ m l) out 4) y _ HBD.out HK4.out HWF.out hd hb (by have:=HJ.out.sz;omega) HL4.out).mono ?_;rintro e w5 ⟨v5,rfl,bd5,vb5,ky5⟩;have HB5:=Lib.hid bd5;have HV5:=Lib.hid vb5;have HK5:=Lib.hid ky5;clear bd5 vb5 ky5))
    go_ret
    refine⟨v5,?_,?_,fun k hk=>?_,?_⟩
    ·rw[enc_Z HNE.out,←HY.out]
     rfl
    ·rw[enc_Z HNE.out,←HY.out];exact HB5.out
    ·rcases HV5.out k hk with h1|h1
     ·rcases HJ.out.vb k h1 with h2|h2
      ·exact .inl h2
      ·exact .inr (by omega)
     ·have:=HJ.out.sz
      exact .inr (by omega)
    ·refine HJ.out.ky.trans HK5.out (fun i hi hp=>?_)
     rcases hp with h1|h1|h1
     ·exact .inl h1
     ·exact .inr (.inl h1)
     ·rcases HJ.out.vb i h1 with h2|h2
      ·exact .inr (.inr h2)
      ·omega
   ·have t1:decide (0<r1)=true:=decide_eq_true (by omega)
    have i2:(0:Int)<(r1:Int):=by omega
    have i3:0<r1:=by omega
    have hrne:remQ l m j≠[]:=fun e=>by have:=hJ.hr;rw[e] at this;simp at this;omega
    obtain⟨i,hi⟩:∃i,i=quaC (cat (remQ l m j) 0) m:=⟨_,rfl⟩
    have hnx:=rem_next HQQ.out hrne hi
    have hbw:=hJ.below HW0.out ⟨hlo.1,hlo.2,by omega⟩ (fun k hk=>(HVO.out k hk).1)
    obtain⟨b,off,hA1,hbl,hcl⟩:=(hJ.cs.below hbw).at_ (by rw[hJ.hr];omega)
    subst hA1;obtain⟨c1_,c2_,c3_,c4_,c5_⟩:=hcl 0 (by rw[hJ.hr];omega)
    simp only[Nat.zero_mul,Nat.add_zero] at c1_ c2_ c3_ c4_ c5_
    have hm0:cat (remQ l m j) 0∈l:=rem_sub (cat_mem (by rw[hJ.hr];omega))
    have hu:=(hJ.cs.below hbw).1 _ (cat_mem (i:=0) (by rw[hJ.hr];omega))
    have hu2:=HLN.out _ hm0
    obtain⟨x,hxx⟩:∃x,x=cat (remQ l m j) 0:=⟨_,rfl⟩
    rw[←hxx] at c1_ c2_ c3_ c4_ c5_ hu hu2 hi;have HXX:=Lib.hid hxx;have HI:=Lib.hid hi;have HU:=Lib.hid hu;have HNX:=Lib.hid hnx;have HBW:=Lib.hid hbw;have hx1:=hu.1.cap
    have hx2:=hu.2.1.cap
    have HCV:=Lib.hid (show CvAt wr b off x from⟨c1_,c2_,c3_,c4_,c5_⟩)
    have HLb:=Lib.hid hbl;have HRN:=Lib.hid hrne;have HSZ:=Lib.hid hJ.sz;have st:Gro wr wr.drew:=(Gro.refl wr).drewN 1
    clear hJ hnx hbw hcl hm0 hu hxx hi hrne x1 x2 x3 x4 x5;have n1:=World.new_ne wr _ cL
    have n2:=World.new_ne wr _ cV
    have n3:=World.new_ne wr _ c1_
    have n4:=World.new_ne wr _ c2_
    have n5:=World.new_ne wr _ c3_
    have n6:=World.new_ne wr _ c4_
    have n7:=World.new_ne wr _ c5_
    go_wp2_with fail
    go_cut [8] from 22 to 26 (fun s8 wx=>∃gi,s8=.pointer (some ⟨gi,0,none⟩)∧wx.heap[gi]?=some (.cells #[.int .i64 (i:Int)] 3)∧Below wr.heap.size wr wx∧wr.heap.size≤gi)
    case first =>
     go_region_held3 (fun w'=>w'.cell? ⟨w.heap.size,0,none⟩=some (.slice (some ⟨b,off,none⟩) r1 c1)∧w'.cell? ⟨w.heap.size+1,0,none⟩=some (.int .i64 ((m:Int)+1))∧(w'.cell? ⟨b,off,none⟩=some (.bool x.sx)∧w'.cell? ⟨b,off+1,none⟩=some (.slice x.ax x.xs.length x.cx)∧w'.cell? ⟨b,off+2,none⟩=some (.bool x.sy)∧w'.cell? ⟨b,off+3,none⟩=some (.slice x.ay x.ys.length x.cy)∧w'.cell? ⟨b,off+4,none⟩=some (.int .u8 x.st)))
      (first|go_keep|exact⟨k0,k1,⟨e1,e2,e3,e4,e5⟩⟩)
      (first|(go_at_call 126;go_loud (refine(quarter_gro x m _ (HU.out.below (by first|exact st.b|exact(st.alloc _).b)) hu2.1 hu2.2 (by omega)).mono ?_;rintro e w1 ⟨rfl,g1⟩;rw[←HI.out];have st1:Gro wr w1:=(by first|exact st.trans g1|exact(st.alloc _).trans g1);have k0:=(st1.b.cell (p:=⟨w.heap.size,0,none⟩) (by have:=HSZ.out;show w.heap.size<_;omega)).trans cL;have k1:=(st1.b.cell (p:=⟨w.heap.size+1,0,none⟩) (by have:=HSZ.out;show w.heap.size+1<_;omega)).trans cV;obtain⟨e1,e2,e3,e4,e5⟩:=HCV.out.below (st1.b.block b HLb.out);(try (have kab:=g1.b.block wr.heap.size (by simp);have ka:w1.cell? ⟨wr.heap.size,0,none⟩=some (.int .i64 0):=one_cell (kab.trans (heap_alloc_new wr.drew _));have kf:w1.frozen? ⟨wr.heap.size,0,none⟩=false:=one_free (kab.trans (heap_alloc_new wr.drew _)))))))
     all_goals
      go_wp2_with fail
      go_meet
      first
       | exact⟨_,rfl,heap_setCell_same _ _ 0 _ _ _ ((g1.b.block _ (by simp)).trans (heap_alloc_new wr.drew _)),st1.b.setCell (p:=⟨wr.heap.size,0,none⟩) (Nat.le_refl _) _,Nat.le_refl _⟩
       | exact⟨_,rfl,heap_alloc_new w1 _,st1.b.alloc st1.b.size _,st1.b.size⟩
    case rest =>
     obtain⟨gi,rfl,hgi,hbc,hgil⟩:=hcut
     have hJc:=HJ.out.next hbc
     have HJC:=Lib.hid hJc;have HGI:=Lib.hid hgi;have HBC:=Lib.hid hbc;have HGL:=Lib.hid hgil;obtain⟨n1',n2',n3',n4',n5',n6'⟩:=HNX.out
     have cL2:=one_cell hJc.bl
     have cV2:=one_cell hJc.bv
     have cI2:=one_cell hgi
     have hbwc:=hJc.below HW0.out ⟨hlo.1,hlo.2,by omega⟩ (fun k hk=>(HVO.out k hk).1)
     have hsorted:(remQ l m j).Pairwise fun a b=>quaC a m≤quaC b m:=HQQ.out.filter _
     have hse:=search_any w.heap.size (w.heap.size+1) gi (some ⟨b,off,none⟩) c1 r1 m i (remQ l m j) wc cL2 cV2 cI2 (hJc.cs.below hbwc) hJc.hr (fun u hu=>HLN.out u (rem_sub hu)) (by omega) (by have:=HJ.out.hr;have h2:=List.length_filter_le (fun v=>decide (j≤quaC v m)) l;unfold remQ at this;have:=HN.out;omega)
      (fun p q hpq hq=>by
       rcases Nat.lt_or_ge p q with h1|h1
       ·rw[cat_get (by rw[hJc.hr];omega),cat_get (by rw[hJc.hr];omega)]
        exact List.pairwise_iff_getElem.1 hsorted p q _ _ h1
       ·rw[show p=q by omega];exact Nat.le_refl _)
     have HSE:=Lib.hid hse;obtain⟨q,hq⟩:∃q,q=endQ (remQ l m j) m i:=⟨_,rfl⟩
     have HQE:=Lib.hid hq;have hqr:q≤r1:=by rw[hq,←hJc.hr];exact List.countP_le_length
     have hq0:0<q:=by rw[hq];exact n6'
     have HFL:=Lib.hid (show(l.filter (inQ m i)).length=q by
      have h1:=congrArg List.length n4'
      rw[List.length_take,hJc.hr,←hq] at h1;omega)
     have HTK:=Lib.hid (show(remQ l m j).take q=l.filter (inQ m i) by rw[hq];exact n4')
     have HDR:=Lib.hid (show(remQ l m j).drop q=remQ l m (i+1) by rw[hq];exact n5')
     have HJI:=Lib.hid (And.intro n1' (And.intro n2' n3'))
     have hOI:=fQ_out (out:=out) n1' n3'
     have hMI:=fQ_mix (out:=out) (v:=(m:Int)+1) n1' (by omega) n3'
     have HOI:=Lib.hid hOI;have HMI:=Lib.hid hMI;clear hJc hgi hbc hgil hbwc hsorted hse hq n4' n5' n6' n3' hOI hMI;go_wp2_with (go_at_call 127;go_loud (refine HSE.out.mono ?_;rintro e w6 ⟨rfl,g6⟩;rw[←HQE.out];have G6:=Lib.hid g6;clear g6))
     have hJ6:=HJC.out.next G6.out.b
     have hI6:=(G6.out.b.block gi (Array.getElem?_eq_some_iff.1 HGI.out).1).trans HGI.out
     have HJ6:=Lib.hid hJ6;have HI6:=Lib.hid hI6;have cL6:=one_cell hJ6.bl
     have fL6:=one_free hJ6.bl
     have cV6:=one_cell hJ6.bv
     have cI6:=one_cell hI6
     have m1:=World.new_ne w6 _ cL6
     have m2:=World.new_ne w6 _ cV6
     have m3:=World.new_ne w6 _ cI6
     have jw1:IntKind.i64.wrap ((m:Int)+1-1)=(m:Int):=by rw[show(m:Int)+1-1=(m:Int) by omega];simp[IntKind.wrap,IntKind.bits,IntKind.signed];omega
     have jw2:IntKind.i64.wrap (m:Int)=(m:Int):=by simp[IntKind.wrap,IntKind.bits,IntKind.signed];omega
     have q1:(0:Int)≤(q:Int):=by omega
     have q2:(q:Int)≤(c1:Int):=by omega
     have q3:(q:Int)≤(r1:Int):=by omega
     have q4:(0:Int)≤(i:Int):=by omega
     have q5:(i:Int)<4:=by omega
     have hGX:gi≠w.heap.size∧gi≠w.heap.size+1∧gi≠w.heap.size+2:=by have h1:=HGL.out;have h2:=HSZ.out;omega
     have HGX:=Lib.hid hGX;have hlenI:(outK (fQ m l) out i).length+m*q≤900000:=by
      have h1:=outK_len m l out i
      have h2:=cntQ_succ m l i
      have h3:=cntQ_le m l (i+1)
      rw[HFL.out] at h2;have h4:=HN.out
      have h5:=HLEN.out
      have h6:m*cntQ m l i+m*q≤m*n:=by rw[←Nat.mul_add];exact Nat.mul_le_mul_left _ (by omega)
      rw[Nat.add_mul,Nat.one_mul] at h5;omega
     have HLI:=Lib.hid hlenI;have hv1:∀k,v1.ownBlock=some k→base≤k∧k≠w.heap.size∧k≠w.heap.size+1∧k≠w.heap.size+2∧k≠gi:=fun k hk=>by
      have h1:=(HJ.out.bd.o.lt k hk)
      have h2:=HGL.out
      rcases HJ.out.vb k hk with h3|h3
      ·have h4:=(HVO.out k h3).2
       have h5:=HSZ.out
       omega
      ·omega
     have HV1:=Lib.hid hv1;have hnp:∀k,(k=w.heap.size∨k=w.heap.size+1∨k=w.heap.size+2∨k=gi)→¬ BdP bb bm v1 k:=fun k hk hp=>by
      have h1:=HGL.out
      have h5:=HSZ.out
      rcases hp with h2|h2|h2
      ·omega
      ·omega
      ·have:=hv1 k h2;omega
     have HNP:=Lib.hid hnp;have st6:Below w6.heap.size w6 w6.drew:=below_drewN (Below.refl _ w6) 1
     have hbd6:Bd w6.drew base bb bm v1 (outK (fQ m l) out i):=by rw[HOI.out];exact hJ6.bd.next st6
     have hw6:=(hJ6.next st6).below HW0.out ⟨hlo.1,hlo.2,by omega⟩ (fun k hk=>(HVO.out k hk).1)
     have hcall:=HIH.out (by omega) (some ⟨b,off,none⟩) c1 q (l.filter (inQ m i)) _ _ v1 (outK (fQ m l) out i) w6.drew HFL.out hq0 (by have:=HFL.out;have h2:=List.length_filter_le (inQ m i) l;have:=HN.out;omega) (by rw[←HTK.out];exact HJ.out.cs.take q) hw6 hbd6 (enc_K (l:=l) (m:=m) (by omega) HST.out HGG.out i (by omega)).good (hi_quarter HHI.out HJI.out.2.1) (HZZ.out.filter _) (fun u hu=>HST.out u (List.mem_filter.1 hu).1) (fun u hu=>HLN.out u (List.mem_filter.1 hu).1) hlenI (by have h1:=(hJ6.next st6).sz;omega)
     have HCALL:=Lib.hid hcall;clear hJ6 hI6 hGX hlenI hv1 hnp hbd6 hw6 hcall
     go_region_held3 (fun w'=>w'.cell? ⟨w.heap.size,0,none⟩=some (.slice (some ⟨b,off,none⟩) r1 c1)∧w'.cell? ⟨w.heap.size+1,0,none⟩=some (.int .i64 ((m:Int)+1))∧w'.cell? ⟨gi,0,none⟩=some (.int .i64 (i:Int)))
      (first|go_keep|exact⟨k0,k1,k2⟩)
      (first|(go_at_call 100;go_loud (refine HCALL.out.mono ?_;rintro e w7 ⟨v7,rfl,bd7,vb7,ky7⟩;have k0:=one_cell ((ky7.block w.heap.size (by have:=(HJ6.out.next st6).sz;omega) (HNP.out _ (.inl rfl))).trans (HJ6.out.next st6).bl);have k1:=one_cell ((ky7.block (w.heap.size+1) (by have:=(HJ6.out.next st6).sz;omega) (HNP.out _ (.inr (.inl rfl)))).trans (HJ6.out.next st6).bv);have k2:=one_cell ((ky7.block gi (Array.getElem?_eq_some_iff.1 HI6.out).1 (HNP.out _ (.inr (.inr (.inr rfl))))).trans HI6.out);have kx:=(HJ6.out.next st6).bx.stay (ky7.block (w.heap.size+2) (by have:=(HJ6.out.next st6).sz;omega) (HNP.out _ (.inr (.inr (.inl rfl)))));have k3:=kx.kidAt HJI.out.2.1;have k4:=kx.free (1+i);rw[show w.heap.size+2=w.heap.size+1+1 by omega] at k3 k4;have z1:w.heap.size+1+1≠w.heap.size:=(by omega);have z2:w.heap.size+1+1≠w.heap.size+1:=(by omega);have z3:w.heap.size+1+1≠gi:=(by have:=HGX.out;omega);have z4:=z1.symm;have z5:=z2.symm;have z6:=z3.symm)))
     all_goals
      have bl7:=(ky7.block w.heap.size (by have:=(HJ6.out.next st6).sz;omega) (HNP.out _ (.inl rfl))).trans (HJ6.out.next st6).bl
      have bv7:=(ky7.block (w.heap.size+1) (by have:=(HJ6.out.next st6).sz;omega) (HNP.out _ (.inr (.inl rfl)))).trans (HJ6.out.next st6).bv
      have sz7:=Nat.le_trans (HJ6.out.next st6).sz ky7.size
      rw[←HMI.out] at kx;have kx8:=kx.setKid (o:=1+i) (u:=(enc (treeZ m (l.filter (inQ m i))) (outK (fQ m l) out i)).2) HJI.out.2.1 rfl (by rw[topN_kid _ _ _ HJI.out.2.1];rfl)
      have gs8:=gb_setCell w7 ⟨w.heap.size+2,1+i,none⟩ (.int .i64 (enc (treeZ m (l.filter (inQ m i))) (outK (fQ m l) out i)).2)
      have bl8:=(gs8.block w.heap.size (by omega) (fun e=>by have:=Option.some.inj e;dsimp only at this;omega)).trans bl7
      have bv8:=(gs8.block (w.heap.size+1) (by omega) (fun e=>by have:=Option.some.inj e;dsimp only at this;omega)).trans bv7
      have bd8:Bd (w7.setCell ⟨w.heap.size+2,1+i,none⟩ (.int .i64 (enc (treeZ m (l.filter (inQ m i))) (outK (fQ m l) out i)).2)) base bb bm v7 (outK (fQ m l) out (i+1)) :=
       ⟨(gs8.block bb bd7.lt (fun e=>by have:=Option.some.inj e;dsimp only at this;omega)).trans bd7.bx,bd7.o.gbr gs8 (own_dec (fun k hk e=>by
        have h1:=Option.some.inj e
        dsimp only at h1
        rcases vb7 k hk with h2|h2
        ·have:=HV1.out k h2;omega
        ·have h3:=(HJ6.out.next st6).sz;omega)),bd7.k.stay (gs8.block bm bd7.k.lt (fun e=>by have:=Option.some.inj e;dsimp only at this;omega))⟩
      have ky8:Ky (BdP bb bm v) w (w7.setCell ⟨w.heap.size+2,1+i,none⟩ (.int .i64 (enc (treeZ m (l.filter (inQ m i))) (outK (fQ m l) out i)).2)) :=
       (((HJ6.out.next st6).ky.trans ky7 (fun k hk hp=>by
        rcases hp with h1|h1|h1
        ·exact .inl h1
        ·exact .inr (.inl h1)
        ·rcases HJ.out.vb k h1 with h2|h2
         ·exact .inr (.inr h2)
         ·omega)).gb gs8 (fun k hk e=>by have:=Option.some.inj e;dsimp only at this;omega))
      have sz8:w.heap.size+3≤(w7.setCell ⟨w.heap.size+2,1+i,none⟩ (.int .i64 (enc (treeZ m (l.filter (inQ m i))) (outK (fQ m l) out i)).2)).heap.size:=Nat.le_trans sz7 gs8.size
      have HVB7:=Lib.hid vb7;rw[show w.heap.size+2=w.heap.size+1+1 by omega] at bl8 bv8 bd8 ky8 sz8;rw[show(⟨w.heap.size+2,1+i,none⟩:Addr)=⟨w.heap.size+1+1,1+i,none⟩ by rw[show w.heap.size+2=w.heap.size+1+1 by omega]] at kx8
      generalize w7.setCell ⟨w.heap.size+1+1,1+i,none⟩ (.int .i64 (enc (treeZ m (l.filter (inQ m i))) (outK (fQ m l) out i)).2)=W8 at *
      have HBL8:=Lib.hid bl8;have HBV8:=Lib.hid bv8;have HBD8:=Lib.hid bd8;have HKY8:=Lib.hid ky8;have HSZ8:=Lib.hid sz8;have HKX8:=Lib.hid kx8;have r0:=one_cell bl8
      have r0f:=one_free bl8
      have hsz6:=(HJ6.out.next st6).sz
      clear kx k0 k1 k2 k3 k4 bl7 bv7 sz7 gs8 bl8 bv8 bd8 ky8 sz8 kx8 vb7 ky7 bd7 cL6 fL6 cV6 cI6 cL2 cV2 cI2 cL fL cV;go_wp2_with fail
      obtain⟨A9,hA9⟩:∃A9:Option Addr,A9=if c1=q then some ⟨b,off,none⟩ else some ⟨b,off+q*5,none⟩:=⟨_,rfl⟩
      rw[←hA9];have gs9:=gb_setCell W8 ⟨w.heap.size,0,none⟩ (.slice A9 (r1-q) (c1-q))
      have hbl9:=heap_setCell_same W8 w.heap.size 0 _ _ (.slice A9 (r1-q) (c1-q)) HBL8.out
      have ne9:∀k,k≠w.heap.size→(some k:Option Nat)≠some (⟨w.heap.size,0,none⟩:Addr).block:=fun k hk e=>hk (Option.some.inj e)
      have hrl:=HJ.out.hr
      have hs8:=HSZ8.out
      refine⟨⟨i+1,_,v7,A9,c1-q,r1-q,rfl,by have:=HJI.out.2.1;omega,?_⟩,?_⟩
      ·refine⟨by rw[←HDR.out,List.length_drop,hrl],?_,hbl9,(gs9.block _ (by omega) (ne9 _ (by omega))).trans HBV8.out,HKX8.out.stay (gs9.block _ (by omega) (ne9 _ (by omega))),?_,fun k hk=>?_,HKY8.out.gb gs9 (fun k hk e=>by have:=Option.some.inj e;dsimp only at this;omega),Nat.le_trans HSZ8.out gs9.size⟩
       ·rw[←HDR.out];refine HJ.out.cs.drop q (by rw[hrl];exact hqr) A9 (fun hlt=>?_)
        rw[hrl] at hlt;rw[hA9,if_neg (by omega)]
       ·refine⟨(gs9.block bb HBD8.out.lt (ne9 _ (by omega))).trans HBD8.out.bx,HBD8.out.o.gbr gs9 (own_dec (fun k hk e=>?_)),HBD8.out.k.stay (gs9.block bm HBD8.out.k.lt (ne9 _ (by omega)))⟩
        have h1:=Option.some.inj e
        dsimp only at h1
        rcases HVB7.out k hk with h2|h2
        ·have:=HV1.out k h2;omega
        ·omega
       ·rcases HVB7.out k hk with h2|h2
        ·exact HJ.out.vb k h2
        ·exact .inr (by omega)
      ·rw[lenAt_of (one_cell hbl9),lenAt_of (one_cell HJ.out.bl)];omega
end Go.Proofs.YtikehjindobpkaaGreat

namespace Go.Proofs.YtikehjindobpkaaGreat
open Go.RowKit Nds Num Go.Shelf
def CvN (v:Cv):Prop:=v.sx=false∧v.sy=false
theorem cfQ_neg {v u:Cv}(hv:CvN v)(hu:CvN u):cfQ v u<0↔zq (val v.xs) (val v.ys)<zq (val u.xs) (val u.ys):=by
 rw[←ahead_iff]
 unfold cfQ aheadZ
 rw[hv.1,hv.2,hu.1,hu.2]
 split
 ·rw[ordI_neg];unfold ival;simp only[Bool.false_eq_true,if_false];omega
 ·rw[ordI_neg];unfold ival;simp only[Bool.false_eq_true,if_false];omega
def shC (h:Int)(c:Cl):Cl:=⟨c.x+h,c.y+h,c.s⟩
structure InC (W:World)(gi:Nat)(h:Int)(v u:Cv):Prop where
 us:CvU W u
 rt:CvR u
 nn:CvN u
 off:Off gi u
 xx:ival u.sx u.xs=ival v.sx v.xs+h
 yy:ival u.sy u.ys=ival v.sy v.ys+h
 stt:u.st=v.st
theorem len_in {s:Bool}{xs:List Nat}{n:Nat}{z:Int}(hc:CanonI s xs)(hv:ival s xs=z)(h0:0≤z)(h1:z<p2 n)(hn:n≤1330):xs.length≤50:=by
 refine len_ival hc hv 50 ?_
 obtain⟨M,hM⟩:∃M,M=50:=⟨_,rfl⟩
 have h2:(p2 n).natAbs<4294967296^M:=by
  unfold p2;rw[show((2:Int)^n).natAbs=2^n by rw[Int.natAbs_pow];rfl,show(4294967296:Nat)=2^32 by decide,←Nat.pow_mul]
  exact Nat.pow_lt_pow_right (by decide) (by omega)
 rw[←hM]
 omega
theorem pos_in {s:Bool}{xs:List Nat}(hc:CanonI s xs)(h0:0≤ival s xs):s=false:=by
 cases s with
 | false=>rfl
 | true =>
  have h1:=hc.2 rfl
  have h2:val xs≠0:=fun e=>h1 (canon_zero hc.1 e)
  unfold ival at h0;simp only[if_true] at h0
  omega
structure NR (w:World)(gh gi bc:Nat)(s:Bool)(A:Option Addr)(c:Nat)(xs:List Nat)(hh:Int)(n:Nat)(L:List Cv)(x:Cv)(W:World):Prop where
 b:Below w.heap.size w W
 h:HX W gh s A c xs hh
 own:OwnC W w.heap.size (.slice (some ⟨gi,0,none⟩) n n) L
 lt:bc<W.heap.size
 cv:CvAt W bc 0 x
 cu:CvU W x
theorem NR.next {w:World}{gh gi bc:Nat}{s:Bool}{A:Option Addr}{c:Nat}{xs:List Nat}{hh:Int}{n:Nat}{L:List Cv}{x:Cv}{W W1:World}(k:NR w gh gi bc s A c xs hh n L x W)(q:Below W.heap.size W W1):NR w gh gi bc s A c xs hh n L x W1 :=
 ⟨k.b.trans (q.mono k.b.size),k.h.next q,k.own.kept (gbN q) (own_dec (fun k hk e=>by cases e)),Nat.lt_of_lt_of_le k.lt q.size,k.cv.below (q.block _ k.lt),k.cu.below q⟩
theorem NR.row {w:World}{gh gi bc:Nat}{s:Bool}{A:Option Addr}{c:Nat}{xs:List Nat}{hh:Int}{n:Nat}{L:List Cv}{x:Cv}{W:World}(k:NR w gh gi bc s A c xs hh n L x W)(hL:L.length=n){i:Nat}(hi:i<n):CvAt W gi (i*5) (cat L i)∧∀o,W.frozen? ⟨gi,o,none⟩=false:=by
 obtain⟨A',c',e1,_,_,_,e5⟩:=k.own.shape
 cases e1
 obtain⟨g,e,_,_,h1,h2⟩:=e5 _ rfl
 cases e
 exact⟨h1 i (by omega),h2⟩
theorem cat_set_same {L:List Cv}{i:Nat}(h:i<L.length)(u:Cv):cat (L.set i u) i=u:=by
 unfold cat
 rw[List.getElem?_set,if_pos rfl,if_pos h]
 rfl
theorem cat_set_ne {L:List Cv}{i j:Nat}(h:i≠j)(u:Cv):cat (L.set i u) j=cat L j:=by
 unfold cat
 rw[List.getElem?_set,if_neg h]
theorem InC.kept {W W1:World}{gi:Nat}{h:Int}{v u:Cv}(k:InC W gi h v u)(hk:∀q,q<W.heap.size→q≠gi→W1.heap[q]?=W.heap[q]?)(hs:W.heap.size≤W1.heap.size):InC W1 gi h v u :=
 ⟨cvU_kept k.us hk hs k.off,k.rt,k.nn,k.off,k.xx,k.yy,k.stt⟩
theorem NR.put {w:World}{gh gi bc:Nat}{s:Bool}{A:Option Addr}{c:Nat}{xs:List Nat}{m n:Nat}{L l:List Cv}{x:Cv}{W:World}(k:NR w gh gi bc s A c xs (p2 m) n L x W)(hL:L.length=n){i:Nat}(hi:i<n)(hx:x=cat l i)
  (hall:∀j,j<i→InC W gi (p2 m) (cat l j) (cat L j)) (hgh:gh≠gi) (hgw:w.heap.size≤gi) (hm:m+1≤1330) (hin:inL x.cl (m+1)=true)
  {s7 s8:Bool} {A7 A8:Option Addr} {c7 c8:Nat} {r7 r8:List Nat} (u7:Us W A7 c7 r7) (k7:CanonI s7 r7) (v7:ival s7 r7=ival x.sx x.xs+p2 m) (u8:Us W A8 c8 r8) (k8:CanonI s8 r8) (v8:ival s8 r8=ival x.sy x.ys+p2 m) :
  ∃W' L',W'=(((((W.setCell ⟨gi,i*5,none⟩ (.bool s7)).setCell ⟨gi,i*5+1,none⟩ (.slice A7 r7.length c7)).setCell ⟨gi,i*5+2,none⟩ (.bool s8)).setCell ⟨gi,i*5+3,none⟩ (.slice A8 r8.length c8)).setCell ⟨gi,i*5+4,none⟩ (.int .u8 x.st))∧L'.length=n ∧
   HX W' gh s A c xs (p2 m)∧OwnC W' w.heap.size (.slice (some ⟨gi,0,none⟩) n n) L'∧(∀j,j<i+1→InC W' gi (p2 m) (cat l j) (cat L' j))∧Below w.heap.size w W'∧W.heap.size≤W'.heap.size:=by
 obtain⟨u,hu⟩:∃u:Cv,u=⟨s7,A7,c7,r7,s8,A8,c8,r8,x.st⟩:=⟨_,rfl⟩
 have hg:=setC_grown W gi (i*5) (.bool s7) (.slice A7 r7.length c7) (.bool s8) (.slice A8 r8.length c8) (.int .u8 x.st)
 have hown:=k.own.put hL hi u
 rw[hu] at hown
 obtain⟨W',hW'⟩:∃W',W'=(((((W.setCell ⟨gi,i*5,none⟩ (.bool s7)).setCell ⟨gi,i*5+1,none⟩ (.slice A7 r7.length c7)).setCell ⟨gi,i*5+2,none⟩ (.bool s8)).setCell ⟨gi,i*5+3,none⟩ (.slice A8 r8.length c8)).setCell ⟨gi,i*5+4,none⟩ (.int .u8 x.st)):=⟨_,rfl⟩
 rw[←hW'] at hg hown
 have hk:∀q,q<W.heap.size→q≠gi→W'.heap[q]?=W.heap[q]?:=fun q h1 h2=>hg.block q h1 (fun e=>h2 (by cases e;rfl))
 have hno:=k.own.no_limb hL
 have ho:Off gi u:=by rw[hu];exact⟨us_off u7 hno,us_off u8 hno⟩
 unfold inL inH at hin
 simp only[Bool.and_eq_true,decide_eq_true_eq,Nat.add_sub_cancel] at hin
 obtain⟨⟨h1,h2⟩,⟨h3,h4⟩⟩:=hin
 have h1':ival x.sx x.xs<p2 m:=h1
 have h2' : -p2 m≤ival x.sx x.xs:=h2
 have h3':ival x.sy x.ys<p2 m:=h3
 have h4' : -p2 m≤ival x.sy x.ys:=h4
 have hp:=p2_succ m
 have l7:=len_in k7 v7 (by omega) (show _<p2 (m+1) by omega) hm
 have l8:=len_in k8 v8 (by omega) (show _<p2 (m+1) by omega) hm
 have hxo:∀a,0<xs.length→A=some a→a.block≠gi:=fun a h0 ea=>us_off k.h.us hno h0 a ea
 refine⟨W',L.set i u,hW',by rw[List.length_set];exact hL,⟨(hk gh k.h.lt hgh).trans k.h.box,us_kept k.h.us hk hg.size (fun h0 a ea=>hxo a h0 ea),k.h.cn,k.h.v,k.h.off⟩,by rw[hu];exact hown,fun j hj=>?_,k.b.grown hg k.b.size (fun q e=>by cases e;exact hgw),hg.size⟩
 by_cases hji:i=j
 ·subst hji;rw[cat_set_same (by omega),←hx];refine⟨?_,?_,?_,ho,?_,?_,?_⟩
  ·rw[hu] at ho ⊢;exact⟨us_kept u7 hk hg.size ho.1,us_kept u8 hk hg.size ho.2,k.cu.2.2⟩
  ·rw[hu];exact⟨k7,k8,by show r7.length≤60000;omega,by show r8.length≤60000;omega⟩
  ·rw[hu];exact⟨pos_in k7 (by rw[v7];omega),pos_in k8 (by rw[v8];omega)⟩
  ·rw[hu];exact v7
  ·rw[hu];exact v8
  ·rw[hu]
 ·rw[cat_set_ne hji];exact(hall j (by omega)).kept hk hg.size
theorem OwnC.row {w:World}{base g n cap:Nat}{L:List Cv}(h:OwnC w base (.slice (some ⟨g,0,none⟩) n cap) L):L.length=n∧(∀i,i<n→CvAt w g (i*5) (cat L i))∧(∀o,w.frozen? ⟨g,o,none⟩=false)∧g<w.heap.size:=by
 obtain⟨A',c',e1,_,_,_,e5⟩:=h.shape
 simp only[Value.slice.injEq] at e1
 obtain⟨rfl,rfl,rfl⟩:=e1
 obtain⟨g',e,_,h3,h1,h2⟩:=e5 _ rfl
 cases e
 exact⟨rfl,h1,h2,h3⟩
theorem cn_of {W:World}{gi:Nat}{h:Int}{v u:Cv}(k:InC W gi h v u):u.cn=shC h v.cl:=by
 have hx:=k.xx
 have hy:=k.yy
 have hs:=k.stt
 have hn:=k.nn
 rw[hn.1] at hx
 rw[hn.2] at hy
 unfold ival at hx hy
 simp only[Bool.false_eq_true,if_false] at hx hy
 unfold Cv.cn shC Cv.cl
 refine Cl.ext' ?_ ?_ ?_
 ·show((val u.xs:Nat):Int)=ival v.sx v.xs+h
  exact hx
 ·show((val u.ys:Nat):Int)=ival v.sy v.ys+h
  exact hy
 ·show((u.st:Nat):Int)=v.st
  rw[hs]
theorem OwnN.lowC {w:World}{base base':Nat}{v:Value}{l:List Nd}(h:OwnN w base v l)(hb:base'≤base):OwnN w base' v l:=by
 refine⟨h.1,h.2.1,?_⟩
 rcases h.2.2 with h|⟨g,cap,cur,e,hb',rest⟩
 ·exact .inl h
 ·exact .inr ⟨g,cap,cur,e,by omega,rest⟩
theorem nodes_call (w9:World)(gi k m:Nat)(l':List Cv)(hl:l'.length=k)(h0:0<k)(hk:k≤600)(hm:m+1≤1329)(hC:Cs w9 (some ⟨gi,0,none⟩) k l')(hhi:HiB (m+1) 0 0 l')(hz:Zs l')(hst:∀u∈l',1≤u.st∧u.st≤255)(hln:∀u∈l',u.xs.length≤60000∧u.ys.length≤60000) :
  Calls Tryz.prog 100 #[.pointer (some ⟨w9.heap.size+1,0,none⟩),.slice (some ⟨gi,0,none⟩) k k,.int .i64 ((m:Int)+1)] ((w9.alloc (.map #[] 0)).alloc (.cells #[.slice none 0 0,.map (some w9.heap.size)] 131)) fun e w' =>
   ∃v',e=.returned (.int .i64 (enc (treeZ (m+1) l') []).2)∧w'.cell? ⟨w9.heap.size+1,0,none⟩=some v'∧OwnN w' w9.heap.size v' (enc (treeZ (m+1) l') []).1∧Below w9.heap.size w9 w':=by
 obtain⟨W,hW⟩:∃W:World,W=(w9.alloc (.map #[] 0)).alloc (.cells #[.slice none 0 0,.map (some w9.heap.size)] 131):=⟨_,rfl⟩
 have hb:Below w9.heap.size w9 W:=by rw[hW];exact((Below.refl _ w9).alloc (Nat.le_refl _) _).alloc (by simp) _
 have hs:W.heap.size=w9.heap.size+2:=by rw[hW];simp
 have hbd:Bd W (w9.heap.size+2) (w9.heap.size+1) w9.heap.size (.slice none 0 0) []:=by
  refine⟨?_,ownN_none _ _,?_⟩
  ·rw[hW];have:=heap_alloc_new (w9.alloc (.map #[] 0)) (.cells #[.slice none 0 0,.map (some w9.heap.size)] 131)
   rwa [World.size_alloc] at this
  ·rw[hW];exact(KM.made w9).stay (Below.heap_alloc _ _ _ (by simp))
 have h:=node_rec (w9.heap.size+2) (w9.heap.size+1) w9.heap.size w9 (by omega) ⟨by omega,by omega⟩ ⟨by omega,Nat.le_refl _⟩ (m+1) hm (some ⟨gi,0,none⟩) k k l' 0 0 (.slice none 0 0) [] W hl h0 (by omega) hC hb hbd good_nil hhi hz hst hln (by
  have:=Nat.mul_le_mul hm hk
  simp only[List.length_nil]
  omega) (by omega)
 rw[show(((m+1:Nat)):Int)=(m:Int)+1 by omega] at h
 rw[←hW]
 refine h.mono ?_
 rintro e w' ⟨v',rfl,h1,h2,h3⟩
 refine⟨v',rfl,h1.c0,h1.o.lowC (by omega),hb.trans (h3.to hb.size (fun q hq=>?_))⟩
 rcases hq with rfl|rfl|hq
 ·omega
 ·exact Nat.le_refl _
 ·cases hq
def RetNs (lv:Nat)(l:List Cv)(w:World)(e:Ending)(w':World):Prop :=
 ∃v' l',e=.returned v'∧OwnN w' w.heap.size v' (enc (treeZ lv l') []).1∧(l'.map Cv.cn).Perm (l.map fun u=>shC (p2 (lv-1)) u.cl)∧HiB lv 0 0 l'∧Below w.heap.size w w'
theorem nodes_any (A0:Option Addr)(c0 n lv:Nat)(l:List Cv)(w:World)(h:Cs w A0 c0 l)(hn:l.length=n)(hn0:0<n)(hn9:n≤600)(hR:∀v∈l,CvR v)(hS:∀v∈l,1≤v.st)(hI:∀v∈l,inL v.cl lv=true)(hl1:1≤lv)(hl2:lv≤1329) :
  Calls Tryz.prog 68 #[.slice A0 n c0,.int .i64 (lv:Int)] w (RetNs lv l w):=by
 obtain⟨m,rfl⟩:∃m,lv=m+1:=⟨lv-1,by omega⟩
 have e0:(((m+1:Nat):Int))=(m:Int)+1:=by omega
 rw[e0]
 have hcap:=h.cap
 rw[hn] at hcap
 obtain⟨i0,hi,hz0,hz1,hz2⟩:=info_parts Tryz.infoC
 have HI0:=Lib.hid (And.intro hi (And.intro hz0 (And.intro hz1 hz2)))
 have HC:=Lib.hid h
 have HN:=Lib.hid hn
 have HR:=Lib.hid hR
 have HS:=Lib.hid hS
 have HI:=Lib.hid hI
 have t0:((n:Int)==0)=false:=by rw[beq_eq_false_iff_ne];omega
 clear h hi hz0 hz1 hz2 hR hS hI hn e0
 go_enter Tryz.func68,Tryz.ntmps68
 go_wp2_with (first
  | (go_at_call 97;go_loud (refine(bpow_any _ _).mono ?_;rintro e w5 ⟨A5,c5,s5,r5,rfl,u5,k5,v5,b5⟩;rw[show shlI 1 (m:Int)=p2 m by unfold shlI p2;rw[if_pos (by omega),Int.toNat_natCast,Int.one_mul]] at v5;have U5:=Lib.hid u5;have K5:=Lib.hid k5;have V5:=Lib.hid v5;have B5:=Lib.hid b5;have hg5:=heap_alloc_new w5 (.cells #[.bool s5,.slice A5 r5.length c5] 31);have bl5:=(Below.refl w5.heap.size w5).alloc (Nat.le_refl _) (.cells #[.bool s5,.slice A5 r5.length c5] 31);have H5:=Lib.hid (show HX (w5.alloc (.cells #[.bool s5,.slice A5 r5.length c5] 31)) w5.heap.size s5 A5 c5 r5 (p2 m) from⟨hg5,u5.below bl5,k5,v5,fun hx a e=>by have:=us_lt u5 hx a e;omega⟩);have BL5:=Lib.hid (b5.trans (bl5.mono b5.size));have hsz5:=BL5.out.size;clear u5 k5 v5 b5 hg5 bl5))
  | (at_make;go_loud (refine wpList_make_full _ rfl _ _ 22 rfl w.heap.size 83 i0 _ 5 Tryz.underlying22 HI0.out.1 HI0.out.2.1 HI0.out.2.2.1 .i64 .i64 _ _ n rfl rfl (by omega) (by omega) (by rw[HI0.out.2.2.2];omega) (by unfold maxLen;omega) hsz5 ?_;intro w6 own grow;have OW:=Lib.hid own;have GR:=Lib.hid grow;clear own grow)))
 obtain⟨gh,hgh⟩:∃gh,gh=w5.heap.size:=⟨_,rfl⟩
 have hB6:Below w.heap.size w w6:=BL5.out.grown GR.out BL5.out.size (fun k hk=>by cases hk)
 have hL6:Below (w5.alloc (.cells #[.bool s5,.slice A5 r5.length c5] 31)).heap.size (w5.alloc (.cells #[.bool s5,.slice A5 r5.length c5] 31)) w6:=⟨GR.out.os,GR.out.tape,GR.out.output,GR.out.size,fun q hq=>GR.out.block q hq (by simp)⟩
 have hH6:HX w6 gh s5 A5 c5 r5 (p2 m):=by rw[hgh];exact H5.out.next hL6
 have hO6:OwnC w6 w.heap.size (.slice (some ⟨gh+1,0,none⟩) n n) (List.replicate n cv0):=by
  have:=OwnC.made OW.out
  rw[World.size_alloc] at this;rw[hgh];exact this
 have hg6:gh+1<w6.heap.size:=(hO6.lt (gh+1) rfl).2
 have HGW:=Lib.hid (show w.heap.size≤gh by rw[hgh];exact B5.out.size)
 rw[←hgh]
 have HB6:=Lib.hid hB6
 have HH6:=Lib.hid hH6
 have HO6:=Lib.hid hO6
 have HG6:=Lib.hid hg6
 have HLP:=Lib.hid (len_p2 K5.out V5.out (by omega))
 clear hgh hB6 hL6 hH6 hO6 hg6
 go_loopw [21] (fun z wr=>∃(k:Nat) (L:List Cv),k≤n∧z=.int .i64 k∧L.length=n∧HX wr gh s5 A5 c5 r5 (p2 m)∧OwnC wr w.heap.size (.slice (some ⟨gh+1,0,none⟩) n n) L∧(∀j,j<k→InC wr (gh+1) (p2 m) (cat l j) (cat L j))∧Below w.heap.size w wr∧gh+1<wr.heap.size) (fun z _=>n-(intOf z).toNat)
 case atStart=>exact⟨0,_,by omega,rfl,by simp,HH6.out,HO6.out,fun j hj=>by omega,HB6.out,HG6.out⟩
 case round =>
  obtain⟨k,L,hk,rfl,hLL,hh,how,hall,hbb,hgg⟩:=hrel
  have HLL:=Lib.hid hLL;have HHX:=Lib.hid hh;have HOW:=Lib.hid how;have HAL:=Lib.hid hall;have HBB:=Lib.hid hbb;by_cases hlt:k<n
  ·have i1:(k:Int)<(n:Int):=by omega
   have i2:(0:Int)≤(k:Int):=by omega
   have t1:decide ((k:Int)<(n:Int))=true:=decide_eq_true i1
   obtain⟨b,off,rfl,hbl,hcl⟩:=(HC.out.below hbb).at_ (by rw[HN.out];omega)
   obtain⟨c1_,c2_,c3_,c4_,c5_⟩:=hcl k (by rw[HN.out];exact hlt)
   have hxl:=cat_mem (l:=l) (i:=k) (by rw[HN.out];exact hlt)
   have hxu:=(HC.out.below hbb).1 _ hxl
   have hxr:=HR.out _ hxl
   have hxi:=HI.out _ hxl
   obtain⟨x,hx⟩:∃x,x=cat l k:=⟨_,rfl⟩
   rw[←hx] at c1_ c2_ c3_ c4_ c5_ hxu hxr hxi;have hv1:=hxu.1.cap
   have hv2:=hxu.2.1.cap
   have HX_:=Lib.hid hx;have HXR:=Lib.hid hxr;have HXI:=Lib.hid hxi;obtain⟨bc,hbc⟩:∃bc,bc=wr.heap.size:=⟨_,rfl⟩
   have hst0:NR w gh (gh+1) bc s5 A5 c5 r5 (p2 m) n L x (wr.alloc (.cells #[.bool x.sx,.slice x.ax x.xs.length x.cx,.bool x.sy,.slice x.ay x.ys.length x.cy,.int .u8 x.st] 83)):=by
    have hb1:Below wr.heap.size wr (wr.alloc (.cells #[.bool x.sx,.slice x.ax x.xs.length x.cx,.bool x.sy,.slice x.ay x.ys.length x.cy,.int .u8 x.st] 83)):=(Below.refl _ wr).alloc (Nat.le_refl _) _
    exact⟨hbb.trans (hb1.mono hbb.size),hh.next hb1,how.alloc _,by rw[hbc];simp,by rw[hbc];exact CvAt.new wr x _,hxu.below hb1⟩
   have hgr0:wr.heap.size≤(wr.alloc (.cells #[.bool x.sx,.slice x.ax x.xs.length x.cx,.bool x.sy,.slice x.ay x.ys.length x.cy,.int .u8 x.st] 83)).heap.size:=by simp
   have HST0:=Lib.hid (hst0.next (below_drewN (Below.refl _ _) 1))
   have HBC:=Lib.hid hbc;have G0:=Lib.hid (below_drewN ((Below.refl wr.heap.size wr).alloc (Nat.le_refl _) (.cells #[.bool x.sx,.slice x.ax x.xs.length x.cx,.bool x.sy,.slice x.ay x.ys.length x.cy,.int .u8 x.st] 83)) 1)
   obtain⟨e1,e2,e3,e4,e5⟩:=hst0.cv
   have p1:=hst0.h.c0
   have p2_:=hst0.h.c1
   have hpc:=hst0.h.us.cap
   clear hx hxu hxr hxi hcl hh how hall hst0 hxl hbb;go_wp2_with fail
   rw[←hbc];have nn1:gh+1≠bc:=by omega
   have nn2:bc≠gh+1:=by omega
   have nn3:gh+1≠gh:=by omega
   have nn4:gh≠gh+1:=by omega
   clear hbc
   go_region_held3 (fun w'=>(w'.cell? ⟨bc,0,none⟩=some (.bool x.sx)∧w'.cell? ⟨bc,1,none⟩=some (.slice x.ax x.xs.length x.cx)∧w'.cell? ⟨bc,2,none⟩=some (.bool x.sy)∧w'.cell? ⟨bc,3,none⟩=some (.slice x.ay x.ys.length x.cy)∧w'.cell? ⟨bc,4,none⟩=some (.int .u8 x.st))∧w'.cell? ⟨gh,0,none⟩=some (.bool s5)∧w'.cell? ⟨gh,1,none⟩=some (.slice A5 r5.length c5))
    (first|go_keep|exact⟨⟨e1,e2,e3,e4,e5⟩,p1,p2_⟩)
    (first
     | (go_at_call_of 88 (Value.agg #[Value.bool x.sx,Value.slice x.ax x.xs.length x.cx]);go_loud (refine(badd_any x.sx s5 x.ax A5 x.cx c5 x.xs r5 _ (NR.cu (by first|exact SY.out|exact HST0.out)).1 (NR.h (by first|exact SY.out|exact HST0.out)).us HXR.out.2.2.1 (by have:=HLP.out;omega)).mono ?_;rintro e w7 ⟨A7,c7,s7,r7,rfl,u7,k7,v7,b7⟩;rw[V5.out] at v7;have UX:=Lib.hid u7;have KX:=Lib.hid k7;have VX:=Lib.hid v7;have SX:=Lib.hid (NR.next (by first|exact SY.out|exact HST0.out) b7);have GX:=Lib.hid (Below.trans (show Below wr.heap.size wr _ from by first|exact GY.out|exact G0.out) (b7.mono (Below.size (show Below wr.heap.size wr _ from by first|exact GY.out|exact G0.out))));(try (have UYn:=Lib.hid (UY.out.below b7)));clear u7 k7 v7 b7;obtain⟨⟨y1,y2,y3,y4,y5⟩,yf⟩:=SX.out.row HLL.out hlt;have yf0:=yf (k*5);have yf1:=yf (k*5+1);have yf2:=yf (k*5+2);have yf3:=yf (k*5+3);have yf4:=yf (k*5+4);obtain⟨e1,e2,e3,e4,e5⟩:=SX.out.cv;have p1:=SX.out.h.c0;have p2_:=SX.out.h.c1))
     | (go_at_call_of 88 (Value.agg #[Value.bool x.sy,Value.slice x.ay x.ys.length x.cy]);go_loud (refine(badd_any x.sy s5 x.ay A5 x.cy c5 x.ys r5 _ (NR.cu (by first|exact SX.out|exact HST0.out)).2.1 (NR.h (by first|exact SX.out|exact HST0.out)).us HXR.out.2.2.2 (by have:=HLP.out;omega)).mono ?_;rintro e w8 ⟨A8,c8,s8,r8,rfl,u8,k8,v8,b8⟩;rw[V5.out] at v8;have UY:=Lib.hid u8;have KY:=Lib.hid k8;have VY:=Lib.hid v8;have SY:=Lib.hid (NR.next (by first|exact SX.out|exact HST0.out) b8);have GY:=Lib.hid (Below.trans (show Below wr.heap.size wr _ from by first|exact GX.out|exact G0.out) (b8.mono (Below.size (show Below wr.heap.size wr _ from by first|exact GX.out|exact G0.out))));(try (have UXn:=Lib.hid (UX.out.below b8)));clear u8 k8 v8 b8;obtain⟨⟨y1,y2,y3,y4,y5⟩,yf⟩:=SY.out.row HLL.out hlt;have yf0:=yf (k*5);have yf1:=yf (k*5+1);have yf2:=yf (k*5+2);have yf3:=yf (k*5+3);have yf4:=yf (k*5+4);obtain⟨e1,e2,e3,e4,e5⟩:=SY.out.cv;have p1:=SY.out.h.c0;have p2_:=SY.out.h.c1)))
   all_goals
    first
     | (obtain⟨W',L',hW',hL',hh',how',hall',hbb',hsz'⟩:=SY.out.put HLL.out hlt HX_.out (fun j hj=>(HAL.out j hj).kept (fun q hq _=>GY.out.block q hq) GY.out.size) nn4 (by have:=HGW.out;omega) (by omega) HXI.out UXn.out KX.out VX.out UY.out KY.out VY.out;have HG:=Lib.hid (Nat.le_trans GY.out.size hsz'))
     | (obtain⟨W',L',hW',hL',hh',how',hall',hbb',hsz'⟩:=SX.out.put HLL.out hlt HX_.out (fun j hj=>(HAL.out j hj).kept (fun q hq _=>GX.out.block q hq) GX.out.size) nn4 (by have:=HGW.out;omega) (by omega) HXI.out UX.out KX.out VX.out UYn.out KY.out VY.out;have HG:=Lib.hid (Nat.le_trans GX.out.size hsz'))
    rw[←hW'];have HL':=Lib.hid hL';have HH':=Lib.hid hh';have HO':=Lib.hid how';have HA':=Lib.hid hall';have HB':=Lib.hid hbb';clear hW' hL' hh' how' hall' hbb' hsz';go_wp2_with fail
    go_roundw
    case rel=>exact⟨k+1,L',by omega,by go_num,HL'.out,HH'.out,HO'.out,HA'.out,HB'.out,by have:=HG.out;omega⟩
    case measure=>simp[intOf];omega
  ·obtain rfl:k=n:=by omega
   have t1:decide ((k:Int)<(k:Int))=false:=decide_eq_false (by omega)
   obtain⟨hl_,hcell,hfree,hgl⟩:=how.row
   have hmem:∀u∈L,∃j,j<k∧u=cat L j:=fun u hu=>by
    obtain⟨j,hj,rfl⟩:=List.getElem_of_mem hu
    exact⟨j,by omega,(cat_get hj).symm⟩
   have hlm:∀j,j<k→cat l j∈l:=fun j hj=>cat_mem (by rw[HN.out];exact hj)
   have hall':∀u∈L,CvU wr u∧CvR u∧CvN u∧Off (gh+1) u:=fun u hu=>by
    obtain⟨j,hj,rfl⟩:=hmem u hu
    have:=hall j hj
    exact⟨this.us,this.rt,this.nn,this.off⟩
   have hst:∀u∈L,1≤u.st∧u.st≤255:=fun u hu=>by
    obtain⟨j,hj,rfl⟩:=hmem u hu
    have h1:=hall j hj
    have h2:=HS.out _ (hlm j hj)
    have h3:=h1.us.2.2
    have h4:=h1.stt
    omega
   have hmap:L.map Cv.cn=l.map fun u=>shC (p2 m) u.cl:=by
    refine List.ext_getElem (by rw[List.length_map,List.length_map,hl_,HN.out]) fun j h1 h2=>?_
    rw[List.length_map] at h1;rw[List.getElem_map,List.getElem_map,←cat_get h1,←cat_get (by rw[HN.out];omega)]
    exact cn_of (hall j (by omega))
   have hhi:HiB (m+1) 0 0 L:=fun u hu=>by
    obtain⟨j,hj,rfl⟩:=hmem u hu
    have h1:=cn_of (hall j hj)
    have h2:=HI.out _ (hlm j hj)
    unfold inL inH at h2;simp only[Bool.and_eq_true,decide_eq_true_eq,Nat.add_sub_cancel] at h2
    have hp:=p2_succ m
    have e1:((val (cat L j).xs:Nat):Int)=(cat l j).cl.x+p2 m:=congrArg Cl.x h1
    have e2:((val (cat L j).ys:Nat):Int)=(cat l j).cl.y+p2 m:=congrArg Cl.y h1
    have e3:p2 (m+1)=((2^(m+1):Nat):Int):=by unfold p2;simp
    exact⟨Nat.div_eq_of_lt (by omega),Nat.div_eq_of_lt (by omega)⟩
   have eg:∀args w,(callFunc 99 args).run Tryz.prog w=.ok (.enter 99 args) w:=enters_of Tryz.func99 (by kernel_rfl) rfl
   have hso:=sortC_any 99 cfQ CvN eg (fun v u W h k' r r' _ _=>byQuarter_gro v u W h k' r r') (fun {v u t} hv hu ht=>by rw[cfQ_neg hv hv,cfQ_neg hv hu,cfQ_neg hu ht,cfQ_neg hv ht];exact⟨by omega,by omega,by omega⟩) (gh+1) k k L wr hl_ hn0 (by omega) hgl hcell hfree hall'
   have HSO:=Lib.hid hso;have HMAP:=Lib.hid hmap;have HHI:=Lib.hid hhi;have HST:=Lib.hid hst;have HALL:=Lib.hid hall';have HGL:=Lib.hid hgl;have hmm := @run_makeMap Tryz.prog
   clear hso hmap hhi hst hall' hcell hfree hmem hlm hh how hall hbb hl_;go_wp2_with (first
    | (go_at_call 98;go_loud (refine HSO.out.mono ?_;rintro e w9 ⟨rfl,l',hpm,hpw,hcl,hg9⟩;have HPM:=Lib.hid hpm;have HG9:=Lib.hid hg9;have hk9:∀q,q<wr.heap.size→q≠gh+1→w9.heap[q]?=wr.heap[q]?:=fun q h1 h2=>hg9.block q h1 (fun e=>h2 (by cases e;rfl));have hl':l'.length=k:=(by rw[hpm.length_eq];exact HLL.out);have hsub:∀u∈l',u∈L:=fun u hu=>hpm.mem_iff.1 hu;have HCA:=Lib.hid (nodes_call w9 (gh+1) k m l' hl' hn0 hn9 hl2 ⟨fun u hu=>cvU_kept (HALL.out u (hsub u hu)).1 hk9 hg9.size (HALL.out u (hsub u hu)).2.2.2,by omega,(by unfold maxLen;omega),fun _=>⟨gh+1,0,rfl,Nat.lt_of_lt_of_le HGL.out hg9.size,fun i hi=>by rw[Nat.zero_add];exact hcl i (by omega)⟩⟩ (fun u hu=>HHI.out u (hsub u hu)) (List.Pairwise.imp_of_mem (fun {a b} ha hb hab=>by rw[cfQ_neg (HALL.out b (hsub b hb)).2.2.1 (HALL.out a (hsub a ha)).2.2.1] at hab;omega) hpw) (fun u hu=>HST.out u (hsub u hu)) (fun u hu=>⟨(HALL.out u (hsub u hu)).2.1.2.2.1,(HALL.out u (hsub u hu)).2.1.2.2.2⟩));have HSUB:=Lib.hid hsub;clear hpm hpw hcl hg9 hk9 hl' hsub))
    | (go_at_call 100;go_loud (refine HCA.out.mono ?_;rintro e w10 ⟨v10,rfl,hc10,ho10,hb10⟩;have HO10:=Lib.hid ho10;have HB10:=Lib.hid hb10;clear ho10 hb10)))
   go_ret
   refine⟨v10,l',rfl,HO10.out.lowC (Nat.le_trans HBB.out.size HG9.out.size),?_,fun u hu=>HHI.out u (HSUB.out u hu),(HBB.out.grown HG9.out HBB.out.size (fun q e=>by cases e;have:=HGW.out;omega)).trans (HB10.out.mono (Nat.le_trans HBB.out.size HG9.out.size))⟩
   have:=HPM.out.map Cv.cn
   rw[HMAP.out] at this;exact this
theorem nodes_zero (A0:Option Addr)(c0 lv:Nat)(w:World) :
  Calls Tryz.prog 68 #[.slice A0 0 c0,.int .i64 (lv:Int)] w fun e w'=>e=.returned (.slice none 0 0)∧Below w.heap.size w w':=by
 go_enter Tryz.func68,Tryz.ntmps68
 go_wp2_with fail
 go_ret
 exact⟨rfl,Below.refl _ _⟩
theorem sort_none (p:Option Addr)(cap:Nat)(fv:Value)(w:World):Calls Tryz.prog 91 #[.slice p 0 cap,fv] w fun e w'=>e=.returned (.tuple #[])∧w'=w:=by
 have h:=AnyF.slices_SortFunc_none (P:=Tryz.prog) { Tryz.sortI with } p cap fv w
 exact h
theorem standing_zero (A:Option Addr)(c:Nat)(w:World) :
  Calls Tryz.prog 66 #[.slice A 0 c] w (RetSt [] w):=by
 obtain⟨W,hW⟩:∃W:World,W=w.alloc (.cells #[.slice A 0 c] 22):=⟨_,rfl⟩
 have hb:Below w.heap.size w W:=by rw[hW];exact(Below.refl _ w).alloc (Nat.le_refl _) _
 obtain⟨b1,b2⟩:=cell_new_l w (.slice A 0 c) 22
 obtain⟨i0,hi,hz0,hz1,hz2⟩:=info_parts Tryz.infoI
 have HI:=Lib.hid (And.intro hi (And.intro hz0 (And.intro hz1 hz2)))
 have HW:=Lib.hid hW
 have HB:=Lib.hid hb
 clear hi hz0 hz1 hz2 hW hb
 go_enter Tryz.func66,Tryz.ntmps66
 go_wp2_with (first
  | (at_make;go_loud (rw[←HW.out];refine wpList_make_full _ rfl _ _ 118 rfl w.heap.size 3 i0 _ 1 Tryz.underlying118 HI.out.1 HI.out.2.1 HI.out.2.2.1 .i64 .i64 _ _ 0 rfl rfl (by omega) (by omega) (by rw[HI.out.2.2.2];omega) (by unfold maxLen;omega) HB.out.size ?_;intro w0 own grow;have HGR:=Lib.hid grow;clear own grow)))
 go_loopw [14] (fun z1 wr=>z1=.int .i64 0∧wr=w0) (fun _ _=>0)
 case atStart=>exact⟨rfl,rfl⟩
 case round =>
  obtain⟨rfl,rfl⟩:=hrel
  go_wp2_with (go_at_call 91;go_loud (refine(sort_none _ _ _ _).mono ?_;rintro e w2 ⟨rfl,rfl⟩))
  go_loopw [27,5] (fun z1 z2 wr'=>z1=.int .i64 0∧z2=.slice none 0 0∧wr'=w2) (fun _ _ _=>0)
  case atStart=>exact⟨rfl,rfl,rfl⟩
  case round =>
   obtain⟨rfl,rfl,rfl⟩:=hrel
   go_wp2_with fail
   go_ret
   exact⟨_,[],rfl,rfl,(fun x hx=>by cases hx),OwnC.nil _ _,Nat.le_refl _,HB.out.grown HGR.out HB.out.size (fun k hk=>by cases hk)⟩
end Go.Proofs.YtikehjindobpkaaGreat

namespace Go.Proofs.YtikehjindobpkaaGreat
open Go.RowKit Nds Num
def okC (v:Cv):Bool:=rightI v.sx v.xs&&rightI v.sy v.ys
def OfC (l:List Cv)(out:List Nd)(er:Int):Prop :=
 (l.all okC=false→er=1∧out=[])∧(l.all okC=true→(1329<leastF (lastF (l.map Cv.cl))→er=4∧out=[])∧(leastF (lastF (l.map Cv.cl))≤1329→er=0 ∧
  ∃l':List Cv,out=(enc (treeZ (leastF (lastF (l.map Cv.cl))) l') []).1∧(l'.map Cv.cn).Perm ((lastF (l.map Cv.cl)).map (shC (p2 (leastF (lastF (l.map Cv.cl))-1))))∧HiB (leastF (lastF (l.map Cv.cl))) 0 0 l'))
def RetOf (l:List Cv)(w:World)(e:Ending)(w':World):Prop :=
 ∃v' out er,e=.returned (.tuple #[.agg #[v'],.int .i64 er])∧OwnN w' w.heap.size v' out∧Below w.heap.size w w'∧OfC l out er
theorem upL_in {c:Cl}:∀{lv:Nat},lv≤1330→upL c lv≤1329→inL c (upL c lv)=true:=fun {lv}=>by
 suffices h:∀d lv,lv+d=1330→upL c lv≤1329→inL c (upL c lv)=true from fun hl h1=>h (1330-lv) lv (by omega) h1
 intro d
 induction d with
 | zero=>intro lv he h1;rw[upL_top (by omega)] at h1;omega
 | succ d ih =>
  intro lv he h1
  cases hq:inL c lv with
  | true=>rw[upL_stop hq];exact hq
  | false =>
   rw[upL_next (by omega) hq] at h1 ⊢;exact ih (lv+1) (by omega) h1
theorem upL_ge (c:Cl):∀(lv:Nat),lv≤1330→lv≤upL c lv∧upL c lv≤1330:=fun lv hl=>by
 suffices h:∀d lv,lv+d=1330→lv≤upL c lv∧upL c lv≤1330 from h (1330-lv) lv (by omega)
 intro d
 induction d with
 | zero=>intro lv he;rw[upL_top (by omega)];omega
 | succ d ih =>
  intro lv he
  cases hq:inL c lv with
  | true=>rw[upL_stop hq];omega
  | false =>
   rw[upL_next (by omega) hq];have:=ih (lv+1) (by omega)
   omega
theorem inL_up {c:Cl}{a b:Nat}(h:inL c a=true)(hab:a≤b):inL c b=true:=by
 unfold inL inH at h ⊢
 simp only[Bool.and_eq_true,decide_eq_true_eq] at h ⊢
 have:=p2_mono (show a-1≤b-1 by omega)
 omega
theorem least_in:∀(l:List Cl) (lv:Nat),lv≤1330→lv≤l.foldl (fun lv c=>upL c lv) lv∧l.foldl (fun lv c=>upL c lv) lv≤1330∧(l.foldl (fun lv c=>upL c lv) lv≤1329→∀c∈l,inL c (l.foldl (fun lv c=>upL c lv) lv)=true)
 | [],lv,h=>⟨Nat.le_refl _,h,fun _ c hc=>by cases hc⟩
 | c :: l,lv,h=>by
  obtain⟨g1,g2⟩:=upL_ge c lv h
  obtain⟨h1,h2,h3⟩:=least_in l (upL c lv) g2
  refine⟨Nat.le_trans g1 h1,h2,fun h9 d hd=>?_⟩
  rcases List.mem_cons.1 hd with rfl|hd
  ·exact inL_up (upL_in h (Nat.le_trans h1 h9)) h1
  ·exact h3 h9 d hd
theorem of_state {l out:List Cv}(h:out.map Cv.cl=lastF (l.map Cv.cl)){x:Cv}(hx:x∈out):1≤x.st:=by
 have hm:x.cl∈lastF (l.map Cv.cl):=by rw[←h];exact List.mem_map_of_mem hx
 have:=((lastF_spec _).2.2 _ hm).1
 have h2:x.cl.s=x.st:=rfl
 omega
theorem of_in {l out:List Cv}(h:out.map Cv.cl=lastF (l.map Cv.cl)){lv:Nat}(hl:lv=leastF (lastF (l.map Cv.cl)))(h9:lv≤1329){x:Cv}(hx:x∈out):inL x.cl lv=true:=by
 have hm:x.cl∈lastF (l.map Cv.cl):=by rw[←h];exact List.mem_map_of_mem hx
 have:=(least_in (lastF (l.map Cv.cl)) 1 (by omega)).2.2
 unfold leastF at hl
 rw[←hl] at this
 exact this h9 _ hm
theorem of_one {l:List Cl}{lv:Nat}(hl:lv=leastF l):1≤lv:=by
 have:=(least_in l 1 (by omega)).1
 unfold leastF at hl
 omega
theorem stand_all (A:Option Addr)(c n:Nat)(l:List Cv)(w:World)(h:Cs w A c l)(hn:l.length=n)(hR:∀v∈l,CvR v)(hn9:n≤900000) :
  Calls Tryz.prog 66 #[.slice A n c] w (RetSt l w):=by
 rcases Nat.eq_zero_or_pos n with h0|h0
 ·subst h0;rw[List.eq_nil_of_length_eq_zero hn];exact standing_zero A c w
 ·exact standing_any A c n l w h hn hR h0 hn9
theorem nodes_all (A0:Option Addr)(c0 n lv:Nat)(l:List Cv)(w:World)(h:Cs w A0 c0 l)(hn:l.length=n)(hn9:n≤600)(hR:∀v∈l,CvR v)(hS:∀v∈l,1≤v.st)(hI:∀v∈l,inL v.cl lv=true)(hl1:1≤lv)(hl2:lv≤1329) :
  Calls Tryz.prog 68 #[.slice A0 n c0,.int .i64 (lv:Int)] w (RetNs lv l w):=by
 rcases Nat.eq_zero_or_pos n with h0|h0
 ·subst h0;rw[List.eq_nil_of_length_eq_zero hn];refine(nodes_zero A0 c0 lv w).mono ?_
  rintro e w' ⟨rfl,hb⟩
  refine⟨_,[],rfl,?_,List.Perm.refl _,(fun u hu=>by cases hu),hb⟩
  rw[treeZ_nil];exact ownN_none _ _
 ·exact nodes_any A0 c0 n lv l w h hn h0 hn9 hR hS hI hl1 hl2
theorem right_canonC {s:Bool}{xs:List Nat}(h:rightI s xs=true):CanonI s xs:=by
 unfold rightI at h
 rw[Bool.and_eq_true] at h
 refine⟨?_,fun hs e=>?_⟩
 ·have h1:=h.1
  simp[rightB] at h1
  unfold Canon;rw[List.getLast?_eq_getElem?]
  intro e
  rcases h1 with rfl|h1
  ·simp at e
  ·rw[e] at h1;exact h1 rfl
 ·subst hs e;simp at h
theorem no_arg {l:List Cv}{w0 wr w5:World}{x:Cv}(hbb:Below w0.heap.size w0 wr)(hb5:Below wr.heap.size wr w5)(hx:x∈l)(hok:okC x=false) :
  RetOf l w0 (.returned (.tuple #[.agg #[.slice none 0 0],.int .i64 1])) (w5.setCell ⟨w0.heap.size,0,none⟩ (.slice none 0 0)):=by
 refine⟨_,[],1,rfl,ownN_none _ _,(hbb.trans (hb5.mono hbb.size)).setCell (Nat.le_refl _) _,fun _=>⟨rfl,rfl⟩,fun h=>?_⟩
 have:=List.all_eq_true.1 h x hx
 rw[hok] at this
 cases this
theorem cof_any (A:Option Addr)(c n:Nat)(l:List Cv)(w:World)(h:Cs w A c l)(hn:l.length=n)(hn9:n≤600)(hln:∀v∈l,v.xs.length≤60000∧v.ys.length≤60000) :
  Calls Tryz.prog 34 #[.slice A n c] w (RetOf l w):=by
 have hcap:=h.cap
 rw[hn] at hcap
 obtain⟨W,hW⟩:∃W:World,W=w.alloc (.cells #[.slice none 0 0] 26):=⟨_,rfl⟩
 have hb:Below w.heap.size w W:=by rw[hW];exact(Below.refl _ w).alloc (Nat.le_refl _) _
 have hq:W.heap[w.heap.size]?=some (.cells #[.slice none 0 0] 26):=by rw[hW];exact heap_alloc_new w _
 have HWL:=Lib.hid (show w.heap.size<W.heap.size by rw[hW];simp)
 have HC:=Lib.hid h
 have HN:=Lib.hid hn
 have HL:=Lib.hid hln
 have HW:=Lib.hid hW
 have HB:=Lib.hid hb
 have HQ:=Lib.hid hq
 clear h hn hln hW hb hq
 go_enter Tryz.func34,Tryz.ntmps34
 go_wp2_with fail
 go_loopw [10] (fun z wr=>∃(k:Nat),k≤n∧z=.int .i64 k∧(∀j,j<k→okC (cat l j)=true)∧Below w.heap.size w wr∧wr.heap[w.heap.size]?=some (.cells #[.slice none 0 0] 26)) (fun z _=>n-(intOf z).toNat)
 case atStart=>exact⟨0,by omega,rfl,fun j hj=>by omega,by rw[←HW.out];exact HB.out,by rw[←HW.out];exact HQ.out⟩
 case round =>
  obtain⟨k,hk,rfl,hall,hbb,hqq⟩:=hrel
  have HAL:=Lib.hid hall;have HBB:=Lib.hid hbb;have HQQ:=Lib.hid hqq;have g0:=one_cell hqq
  have g1:=one_free hqq
  by_cases hlt:k<n
  ·have i1:(k:Int)<(n:Int):=by omega
   have i2:(0:Int)≤(k:Int):=by omega
   have t1:decide ((k:Int)<(n:Int))=true:=decide_eq_true i1
   obtain⟨b,off,rfl,hbl,hcl⟩:=(HC.out.below hbb).at_ (by rw[HN.out];omega)
   obtain⟨c1_,c2_,c3_,c4_,c5_⟩:=hcl k (by rw[HN.out];exact hlt)
   have hxl:=cat_mem (l:=l) (i:=k) (by rw[HN.out];exact hlt)
   have hxu:=(HC.out.below hbb).1 _ hxl
   have hln:=HL.out _ hxl
   obtain⟨x,hx⟩:∃x,x=cat l k:=⟨_,rfl⟩
   rw[←hx] at c1_ c2_ c3_ c4_ c5_ hxu hln hxl;have hv1:=hxu.1.cap
   have hv2:=hxu.2.1.cap
   have HXX:=Lib.hid hx;have HXL:=Lib.hid hxl;have HLN:=Lib.hid hln;have hbA:Below wr.heap.size wr (wr.alloc (.cells #[.bool x.sx,.slice x.ax x.xs.length x.cx,.bool x.sy,.slice x.ay x.ys.length x.cy,.int .u8 x.st] 83)):=(Below.refl _ wr).alloc (Nat.le_refl _) _
   have HBA:=Lib.hid hbA;have HCV:=Lib.hid (CvAt.new wr x 83)
   have HXU:=Lib.hid (hxu.below hbA)
   have HLA:=Lib.hid (show wr.heap.size<(wr.alloc (.cells #[.bool x.sx,.slice x.ax x.xs.length x.cx,.bool x.sy,.slice x.ay x.ys.length x.cy,.int .u8 x.st] 83)).heap.size by simp)
   have hgl:=lt_of_cell g0
   dsimp only at hgl
   obtain⟨rX,hrX⟩:∃r,r=rightI x.sx x.xs:=⟨_,rfl⟩
   obtain⟨rY,hrY⟩:∃r,r=rightI x.sy x.ys:=⟨_,rfl⟩
   have HRX:=Lib.hid hrX;have HRY:=Lib.hid hrY;have HOK:=Lib.hid (show okC x=(rX&&rY) by unfold okC;rw[←hrX,←hrY])
   clear hx hxl hxu hcl hrX hrY hbA hbb hqq hln;cases rX with
   | false =>
    go_wp2_with (go_at_call 38;go_loud (refine(bright_any x.sx x.ax x.cx x.xs _ HXU.out.1 HLN.out.1).mono ?_;rintro e w5 ⟨rfl,b5⟩;rw[←HRX.out];have HB5:=Lib.hid (HBA.out.trans (b5.mono HBA.out.size));have q0:=one_cell ((HB5.out.block w.heap.size hgl).trans HQQ.out);have q1:=one_free ((HB5.out.block w.heap.size hgl).trans HQQ.out);clear b5))
    have e1:=World.cell?_setCell_same _ _ (.slice none 0 0) q0
    exact bodyPost_ret (v:=.tuple #[.agg #[.slice none 0 0],.int .i64 1]) (by simp[results,Tryz.results34,go_sem,e1]) rfl (no_arg HBB.out HB5.out HXL.out (HOK.out.trans rfl))
   | true =>
    have sX:=Lib.hid True.intro;cases rY with
    | false =>
     go_wp2_with (first
      | (have _t:=sX;go_at_call 38;clear _t;go_loud (clear sX;have sY:=Lib.hid True.intro;refine(bright_any x.sx x.ax x.cx x.xs _ HXU.out.1 HLN.out.1).mono ?_;rintro e w5 ⟨rfl,b5⟩;rw[←HRX.out];have HB5:=Lib.hid (HBA.out.trans (b5.mono HBA.out.size));have HXU5:=Lib.hid (HXU.out.below b5);obtain⟨k0_,k1_,k2_,k3_,k4_⟩:=HCV.out.below (b5.block wr.heap.size HLA.out);have q0:=one_cell ((HB5.out.block w.heap.size hgl).trans HQQ.out);have q1:=one_free ((HB5.out.block w.heap.size hgl).trans HQQ.out);clear b5))
      | (have _t:=sY;go_at_call 38;clear _t;go_loud (clear sY;refine(bright_any x.sy x.ay x.cy x.ys _ HXU5.out.2.1 HLN.out.2).mono ?_;rintro e w6 ⟨rfl,b6⟩;rw[←HRY.out];have HB6:=Lib.hid (HB5.out.trans (b6.mono HB5.out.size));have q0:=one_cell ((HB6.out.block w.heap.size hgl).trans HQQ.out);have q1:=one_free ((HB6.out.block w.heap.size hgl).trans HQQ.out);clear b6)))
     have e1:=World.cell?_setCell_same _ _ (.slice none 0 0) q0
     exact bodyPost_ret (v:=.tuple #[.agg #[.slice none 0 0],.int .i64 1]) (by simp[results,Tryz.results34,go_sem,e1]) rfl (no_arg HBB.out HB6.out HXL.out (HOK.out.trans rfl))
    | true =>
     go_wp2_with (first
      | (have _t:=sX;go_at_call 38;clear _t;go_loud (clear sX;have sY:=Lib.hid True.intro;refine(bright_any x.sx x.ax x.cx x.xs _ HXU.out.1 HLN.out.1).mono ?_;rintro e w5 ⟨rfl,b5⟩;rw[←HRX.out];have HB5:=Lib.hid (HBA.out.trans (b5.mono HBA.out.size));have HXU5:=Lib.hid (HXU.out.below b5);obtain⟨k0_,k1_,k2_,k3_,k4_⟩:=HCV.out.below (b5.block wr.heap.size HLA.out);clear b5))
      | (have _t:=sY;go_at_call 38;clear _t;go_loud (clear sY;refine(bright_any x.sy x.ay x.cy x.ys _ HXU5.out.2.1 HLN.out.2).mono ?_;rintro e w6 ⟨rfl,b6⟩;rw[←HRY.out];have HB6:=Lib.hid (HB5.out.trans (b6.mono HB5.out.size));clear b6)))
     go_roundw
     case rel=>exact⟨k+1,by omega,by go_num,fun j hj=>by
      rcases Nat.lt_or_ge j k with h|h
      ·exact HAL.out j h
      ·have:j=k:=by omega
       subst this;rw[←HXX.out,HOK.out];rfl,HBB.out.trans (HB6.out.mono HBB.out.size),(HB6.out.block w.heap.size hgl).trans HQQ.out⟩
     case measure=>simp[intOf];omega
  ·obtain rfl:k=n:=by omega
   have t1:decide ((k:Int)<(k:Int))=false:=decide_eq_false (by omega)
   have hok:l.all okC=true:=List.all_eq_true.2 fun v hv=>by
    obtain⟨j,hj,rfl⟩:=List.getElem_of_mem hv
    have:=hall j (by have:=HN.out;omega)
    rwa [cat_get hj] at this
   have hR:∀v∈l,CvR v:=fun v hv=>by
    have h1:=List.all_eq_true.1 hok v hv
    unfold okC at h1;obtain⟨h2,h3⟩:=Bool.and_eq_true_iff.1 h1
    exact⟨right_canonC h2,right_canonC h3,HL.out v hv⟩
   have HR:=Lib.hid hR;have HOKL:=Lib.hid hok;clear hR hok hall hbb hqq;have hgl:=lt_of_cell g0
   dsimp only at hgl
   obtain⟨lv,hlv⟩:∃lv,lv=leastF (lastF (l.map Cv.cl)):=⟨_,rfl⟩
   have HLV:=Lib.hid hlv;clear hlv;by_cases hbig:1329<lv
   ·have t2:decide ((1329:Int)<(lv:Int))=true:=decide_eq_true (by omega)
    go_wp2_with (first
     | (go_at_call 66;go_loud (refine(stand_all A c k l _ (HC.out.below HBB.out) HN.out HR.out (by omega)).mono ?_;rintro e w5 ⟨v,out,rfl,o1,o2,o3,o4,b5⟩;have hU5:∀x∈out,CvU w5 x:=(fun x hx=>(((HC.out.below HBB.out).below b5).1 x (o2 x hx)));obtain⟨A1,c1,rfl,hcs,_,_⟩:=o3.cs hU5;have hcap1:=hcs.cap;have HS:=Lib.hid hcs;have HO1:=Lib.hid o1;have HO2:=Lib.hid o2;have HO4:=Lib.hid o4;have HB5:=Lib.hid b5;have q0:=one_cell ((b5.block w.heap.size hgl).trans HQQ.out);have q1:=one_free ((b5.block w.heap.size hgl).trans HQQ.out);clear o1 o2 o3 o4 b5 hcs hU5))
     | (go_at_call 67;go_loud (refine(least_any A1 c1 out.length out _ HS.out rfl (fun x hx=>HR.out x (HO2.out x hx)) (by have:=HO4.out;have:=HN.out;omega)).mono ?_;rintro e w6 ⟨rfl,b6⟩;rw[HO1.out,←HLV.out];have HB6:=Lib.hid b6;have q0:=one_cell ((b6.block w.heap.size (Nat.lt_of_lt_of_le hgl HB5.out.size)).trans ((HB5.out.block w.heap.size hgl).trans HQQ.out));have q1:=one_free ((b6.block w.heap.size (Nat.lt_of_lt_of_le hgl HB5.out.size)).trans ((HB5.out.block w.heap.size hgl).trans HQQ.out));clear b6)))
    have e1:=World.cell?_setCell_same _ _ (.slice none 0 0) q0
    refine bodyPost_ret (v:=.tuple #[.agg #[.slice none 0 0],.int .i64 4]) (by simp[results,Tryz.results34,go_sem,e1]) rfl ?_
    have hW6:Below w.heap.size w w6:=(HBB.out.trans (HB5.out.mono HBB.out.size)).trans (HB6.out.mono (Nat.le_trans HBB.out.size HB5.out.size))
    refine⟨_,[],4,rfl,ownN_none _ _,hW6.setCell (Nat.le_refl _) _,fun h=>?_,fun _=>⟨fun _=>⟨rfl,rfl⟩,fun h=>?_⟩⟩
    ·rw[HOKL.out] at h;cases h
    ·have:=HLV.out;omega
   ·have t2:decide ((1329:Int)<(lv:Int))=false:=decide_eq_false (by omega)
    go_wp2_with (first
     | (go_at_call 66;go_loud (refine(stand_all A c k l _ (HC.out.below HBB.out) HN.out HR.out (by omega)).mono ?_;rintro e w5 ⟨v,out,rfl,o1,o2,o3,o4,b5⟩;have hU5:∀x∈out,CvU w5 x:=(fun x hx=>(((HC.out.below HBB.out).below b5).1 x (o2 x hx)));obtain⟨A1,c1,rfl,hcs,_,_⟩:=o3.cs hU5;have hcap1:=hcs.cap;have HS:=Lib.hid hcs;have HO1:=Lib.hid o1;have HO2:=Lib.hid o2;have HO4:=Lib.hid o4;have HB5:=Lib.hid b5;have q0:=one_cell ((b5.block w.heap.size hgl).trans HQQ.out);have q1:=one_free ((b5.block w.heap.size hgl).trans HQQ.out);clear o1 o2 o3 o4 b5 hcs hU5))
     | (go_at_call 67;go_loud (refine(least_any A1 c1 out.length out _ HS.out rfl (fun x hx=>HR.out x (HO2.out x hx)) (by have:=HO4.out;have:=HN.out;omega)).mono ?_;rintro e w6 ⟨rfl,b6⟩;rw[HO1.out,←HLV.out];have HB6:=Lib.hid b6;have q0:=one_cell ((b6.block w.heap.size (Nat.lt_of_lt_of_le hgl HB5.out.size)).trans ((HB5.out.block w.heap.size hgl).trans HQQ.out));have q1:=one_free ((b6.block w.heap.size (Nat.lt_of_lt_of_le hgl HB5.out.size)).trans ((HB5.out.block w.heap.size hgl).trans HQQ.out));clear b6))
     | (go_at_call 68;go_loud (have h1:=HS.out.below HB6.out;have h2:out.length≤600:=(by have:=HO4.out;have:=HN.out;omega);have h3:∀v∈out,CvR v:=(fun x hx=>HR.out x (HO2.out x hx));have h4:∀v∈out,1≤v.st:=(fun x hx=>of_state HO1.out hx);have h9:lv≤1329:=(by omega);have h5:∀v∈out,inL v.cl lv=true:=(fun x hx=>of_in HO1.out HLV.out h9 hx);have h6:=of_one HLV.out;have HC7:=Lib.hid (nodes_all A1 c1 out.length lv out w6 h1 rfl h2 h3 h4 h5 h6 h9);clear h1 h2 h3 h4 h5 h6 h9;refine HC7.out.mono ?_;rintro e w7 ⟨v7,l7,rfl,p1,p2,p3,b7⟩;obtain⟨A7,c7,hv7,hN7,-,-⟩:=p1.shape;obtain⟨n7,hn7⟩:∃n,n=(enc (treeZ lv l7) []).1.length:=⟨_,rfl⟩;rw[←hn7] at hv7;subst hv7;have hc7:=hN7.cap;rw[←hn7] at hc7;clear hN7 hn7;have HP1:=Lib.hid p1;have HP2:=Lib.hid p2;have HP3:=Lib.hid p3;have HB7:=Lib.hid b7;have q0:=one_cell ((b7.block w.heap.size (Nat.lt_of_lt_of_le hgl (Nat.le_trans HB5.out.size HB6.out.size))).trans ((HB6.out.block w.heap.size (Nat.lt_of_lt_of_le hgl HB5.out.size)).trans ((HB5.out.block w.heap.size hgl).trans HQQ.out)));have q1:=one_free ((b7.block w.heap.size (Nat.lt_of_lt_of_le hgl (Nat.le_trans HB5.out.size HB6.out.size))).trans ((HB6.out.block w.heap.size (Nat.lt_of_lt_of_le hgl HB5.out.size)).trans ((HB5.out.block w.heap.size hgl).trans HQQ.out)));clear p1 p2 p3 b7)))
    have hset:=heap_setCell_same w7 w.heap.size 0 _ _ (.slice A7 n7 c7) ((HB7.out.block w.heap.size (Nat.lt_of_lt_of_le hgl (Nat.le_trans HB5.out.size HB6.out.size))).trans ((HB6.out.block w.heap.size (Nat.lt_of_lt_of_le hgl HB5.out.size)).trans ((HB5.out.block w.heap.size hgl).trans HQQ.out)))
    have e1:(w7.setCell ⟨w.heap.size,0,none⟩ (.slice A7 n7 c7)).cell? ⟨w.heap.size,0,none⟩=some (.slice A7 n7 c7):=World.cell?_setCell_same _ _ (.slice A7 n7 c7) q0
    refine bodyPost_ret (v:=.tuple #[.agg #[.slice A7 n7 c7],.int .i64 0]) (by simp[results,Tryz.results34,go_sem,e1]) rfl ?_
    have hs56:=Nat.le_trans HB5.out.size HB6.out.size
    have hW7:Below w.heap.size w w7:=((HBB.out.trans (HB5.out.mono HBB.out.size)).trans (HB6.out.mono (Nat.le_trans HBB.out.size HB5.out.size))).trans (HB7.out.mono (Nat.le_trans HBB.out.size hs56))
    refine⟨_,_,0,rfl,(HP1.out.gbr (gb_setCell w7 ⟨w.heap.size,0,none⟩ (.slice A7 n7 c7)) (own_dec (fun q hq e=>?_))).lowC (Nat.le_trans HBB.out.size hs56),hW7.setCell (Nat.le_refl _) _,fun h=>?_,fun _=>⟨fun h=>?_,fun _=>⟨rfl,l7,?_,?_,?_⟩⟩⟩
    ·have h1:=(HP1.out.lt q hq).1
     have h2:=Option.some.inj e
     dsimp only at h2
     omega
    ·rw[HOKL.out] at h;cases h
    ·rw[←HLV.out] at h;omega
    ·rw[←HLV.out]
    ·rw[←HLV.out,←HO1.out,List.map_map];exact HP2.out
    ·rw[←HLV.out];exact HP3.out
end Go.Proofs.YtikehjindobpkaaGreat

namespace Go.Proofs.YtikehjindobpkaaGreat
open Nds
def outP (m:Nat)(out:List Nd)(X Y:Int)(L:List Cl):Nat→List Nd
 | 0=>out
 | k+1=>(placeF m (outP m out X Y L k) (X+offI (p2 m) k) (Y+offJ (p2 m) k) (L.filter (sqB (X+offI (p2 m) k) (Y+offJ (p2 m) k) (p2 m)))).1
def kidP (m:Nat)(out:List Nd)(X Y:Int)(L:List Cl)(k:Nat):Int :=
 (placeF m (outP m out X Y L k) (X+offI (p2 m) k) (Y+offJ (p2 m) k) (L.filter (sqB (X+offI (p2 m) k) (Y+offJ (p2 m) k) (p2 m)))).2
def topP (m:Nat)(out:List Nd)(X Y:Int)(L:List Cl):Nd:=⟨(m:Int)+1,kidP m out X Y L 0,kidP m out X Y L 1,kidP m out X Y L 2,kidP m out X Y L 3⟩
theorem topP_kid (m:Nat)(out:List Nd)(X Y:Int)(L:List Cl){k:Nat}(hk:k<4):(topP m out X Y L).kid k=kidP m out X Y L k:=by
 match k,hk with
 | 0,_=>rfl
 | 1,_=>rfl
 | 2,_=>rfl
 | 3,_=>rfl
theorem placeF_nil (m:Nat)(out:List Nd)(X Y:Int):placeF m out X Y []=(out,0):=by
 cases m <;> rfl
theorem placeF_succ {m:Nat}{out:List Nd}{X Y:Int}{L:List Cl}(hne:L≠[]):placeF (m+1) out X Y L=(outP m out X Y L 4++[topP m out X Y L],(((outP m out X Y L 4).length+1:Nat):Int)):=by
 have h0:L.isEmpty=false:=by
  cases L with
  | nil=>exact absurd rfl hne
  | cons c L=>rfl
 conv=>lhs;unfold placeF
 rw[h0]
 rfl
theorem quart_len (h X Y:Int)(hh:0<h)(L:List Cl):(L.filter (sqB (X+offI h 0) (Y+offJ h 0) h)).length+(L.filter (sqB (X+offI h 1) (Y+offJ h 1) h)).length+(L.filter (sqB (X+offI h 2) (Y+offJ h 2) h)).length+(L.filter (sqB (X+offI h 3) (Y+offJ h 3) h)).length≤L.length:=by
 induction L with
 | nil=>exact Nat.le_refl 0
 | cons c L ih =>
  have s0:=sq_iff (X:=X+offI h 0) (Y:=Y+offJ h 0) (h:=h) (c:=c)
  have s1:=sq_iff (X:=X+offI h 1) (Y:=Y+offJ h 1) (h:=h) (c:=c)
  have s2:=sq_iff (X:=X+offI h 2) (Y:=Y+offJ h 2) (h:=h) (c:=c)
  have s3:=sq_iff (X:=X+offI h 3) (Y:=Y+offJ h 3) (h:=h) (c:=c)
  rw[List.filter_cons,List.filter_cons,List.filter_cons,List.filter_cons,List.length_cons];simp only[offI,offJ,Int.add_zero] at s0 s1 s2 s3 ih ⊢
  generalize sqB X Y h c=b0 at s0 ⊢
  generalize sqB (X+h) Y h c=b1 at s1 ⊢
  generalize sqB X (Y+h) h c=b2 at s2 ⊢
  generalize sqB (X+h) (Y+h) h c=b3 at s3 ⊢
  cases b0 <;> cases b1 <;> cases b2 <;> cases b3 <;> simp at s0 s1 s2 s3 ⊢ <;> omega
theorem place_len:∀(m:Nat) (out:List Nd)(X Y:Int)(L:List Cl),(placeF m out X Y L).1.length≤out.length+m*L.length
 | 0,out,X,Y,L=>Nat.le_add_right _ _
 | m+1,out,X,Y,L=>by
  by_cases hne:L=[]
  ·subst hne;rw[placeF_nil];exact Nat.le_add_right _ _
  ·have hp:0<L.length:=List.length_pos_iff.2 hne
   have h0:(outP m out X Y L 1).length≤_:=place_len m out (X+offI (p2 m) 0) (Y+offJ (p2 m) 0) (L.filter (sqB (X+offI (p2 m) 0) (Y+offJ (p2 m) 0) (p2 m)))
   have h1:(outP m out X Y L 2).length≤_:=place_len m (outP m out X Y L 1) (X+offI (p2 m) 1) (Y+offJ (p2 m) 1) (L.filter (sqB (X+offI (p2 m) 1) (Y+offJ (p2 m) 1) (p2 m)))
   have h2:(outP m out X Y L 3).length≤_:=place_len m (outP m out X Y L 2) (X+offI (p2 m) 2) (Y+offJ (p2 m) 2) (L.filter (sqB (X+offI (p2 m) 2) (Y+offJ (p2 m) 2) (p2 m)))
   have h3:(outP m out X Y L 4).length≤_:=place_len m (outP m out X Y L 3) (X+offI (p2 m) 3) (Y+offJ (p2 m) 3) (L.filter (sqB (X+offI (p2 m) 3) (Y+offJ (p2 m) 3) (p2 m)))
   have hq:=quart_len (p2 m) X Y (p2_pos m) L
   have hm:=Nat.mul_le_mul_left m hq
   rw[Nat.mul_add,Nat.mul_add,Nat.mul_add] at hm;rw[placeF_succ hne,Nat.add_mul,Nat.one_mul];show(outP m out X Y L 4++[topP m out X Y L]).length≤_
   rw[List.length_append,List.length_singleton];omega
theorem outP_len (m:Nat)(out:List Nd)(X Y:Int)(L:List Cl)(k:Nat)(hk:k<4):(outP m out X Y L k).length+m*(L.filter (sqB (X+offI (p2 m) k) (Y+offJ (p2 m) k) (p2 m))).length≤out.length+m*L.length:=by
 have h0:(outP m out X Y L 1).length≤_:=place_len m out (X+offI (p2 m) 0) (Y+offJ (p2 m) 0) (L.filter (sqB (X+offI (p2 m) 0) (Y+offJ (p2 m) 0) (p2 m)))
 have h1:(outP m out X Y L 2).length≤_:=place_len m (outP m out X Y L 1) (X+offI (p2 m) 1) (Y+offJ (p2 m) 1) (L.filter (sqB (X+offI (p2 m) 1) (Y+offJ (p2 m) 1) (p2 m)))
 have h2:(outP m out X Y L 3).length≤_:=place_len m (outP m out X Y L 2) (X+offI (p2 m) 2) (Y+offJ (p2 m) 2) (L.filter (sqB (X+offI (p2 m) 2) (Y+offJ (p2 m) 2) (p2 m)))
 have hq:=quart_len (p2 m) X Y (p2_pos m) L
 have hm:=Nat.mul_le_mul_left m hq
 rw[Nat.mul_add,Nat.mul_add,Nat.mul_add] at hm
 have e0:(outP m out X Y L 0).length=out.length:=rfl
 match k,hk with
 | 0,_=>omega
 | 1,_=>omega
 | 2,_=>omega
 | 3,_=>omega
theorem outP_four (m:Nat)(out:List Nd)(X Y:Int)(L:List Cl):(outP m out X Y L 4).length≤out.length+m*L.length:=by
 have h:=outP_len m out X Y L 3 (by omega)
 have h3:(outP m out X Y L 4).length≤_:=place_len m (outP m out X Y L 3) (X+offI (p2 m) 3) (Y+offJ (p2 m) 3) (L.filter (sqB (X+offI (p2 m) 3) (Y+offJ (p2 m) 3) (p2 m)))
 omega
theorem place_num (m:Nat)(out:List Nd)(X Y:Int){L:List Cl}(h:∀c∈L,0≤c.s∧c.s≤255):0≤(placeF m out X Y L).2∧(placeF m out X Y L).2≤255+((placeF m out X Y L).1.length:Int):=by
 cases m with
 | zero =>
  cases L with
  | nil=>exact⟨Int.le_refl 0,by show(0:Int)≤255+((out.length:Nat):Int);omega⟩
  | cons c L =>
   have:=h c (by simp)
   exact⟨this.1,by show c.s≤255+((out.length:Nat):Int);omega⟩
 | succ m =>
  by_cases hne:L=[]
  ·subst hne;rw[placeF_nil];exact⟨Int.le_refl 0,by show(0:Int)≤255+((out.length:Nat):Int);omega⟩
  ·rw[placeF_succ hne];dsimp only
   rw[List.length_append,List.length_singleton];omega
theorem topP_wf {m:Nat}{out:List Nd}{X Y:Int}{L:List Cl}(hm:m≤1328)(h:∀c∈L,0≤c.s∧c.s≤255)(hl:out.length+m*L.length≤900000):(topP m out X Y L).wf:=by
 have key:∀k,k<4→in64 (kidP m out X Y L k):=fun k hk=>by
  have h1:=place_num m (outP m out X Y L k) (X+offI (p2 m) k) (Y+offJ (p2 m) k) (L:=L.filter (sqB (X+offI (p2 m) k) (Y+offJ (p2 m) k) (p2 m))) (fun c hc=>h c (List.mem_filter.1 hc).1)
  have h2:=place_len m (outP m out X Y L k) (X+offI (p2 m) k) (Y+offJ (p2 m) k) (L.filter (sqB (X+offI (p2 m) k) (Y+offJ (p2 m) k) (p2 m)))
  have h3:=outP_len m out X Y L k hk
  unfold kidP;exact⟨by omega,by omega⟩
 exact⟨⟨by show _≤(m:Int)+1;omega,by show(m:Int)+1≤_;omega⟩,key 0 (by omega),key 1 (by omega),key 2 (by omega),key 3 (by omega)⟩
end Go.Proofs.YtikehjindobpkaaGreat

namespace Go.Proofs.YtikehjindobpkaaGreat
open Go.RowKit Num
theorem rbshl_F (s:Bool)(A:Option Addr)(c:Nat)(xs:List Nat)(n:Int)(w:World)(h:Us w A c xs)(hl:xs.length≤60000) :
  Calls Tryz.prog 74 #[.agg #[.bool s,.slice A xs.length c],.int .i64 n] w (RetIF (shlI (ival s xs) n) w):=by
 have hcap:=h.cap
 obtain⟨hX,hR,hB⟩:=box2 w (.bool s) (.slice A xs.length c) (.bool false) (.slice none 0 0) 31
 have HX:=Lib.hid hX.drew
 have HR:=Lib.hid hR.drew
 have HB:=Lib.hid (Below.drew' hB)
 have hd:=h.1
 have H1:=Lib.hid (h.below HB.out)
 clear h hX hR hB
 go_enter Tryz.func74,Tryz.ntmps74
 go_wp2_with fail
 go_region_held3 (fun w'=>w'.cell? ⟨w.heap.size,0,none⟩=some (.bool s)∧w'.cell? ⟨w.heap.size,1,none⟩=some (.slice A xs.length c))
  (first|go_keep|fail)
  (first
   | (go_at_call 105;refine(rshl_z _ _ xs n _ H1.out (by omega)).mono ?_;rintro e w1 ⟨A1,c1,r1,rfl,q1,k1,v1,b1⟩;obtain⟨x1,x2,_,_,_⟩:=HX.out.below b1)
   | (go_at_call 46;refine(rsign_fr s _ _ r1 _ q1 (by have:=len_shl hd hl k1 v1;omega)).mono ?_;rintro e w2 ⟨A2,c2,s2,r2,rfl,q2,k2,v2,b2,f2⟩;have HF2:=Lib.hid f2;clear f2;obtain⟨x1,x2,_,_,_⟩:=(HX.out.below b1).below b2;obtain⟨y1,y2,y3,y4,_⟩:=(HR.out.below b1).below b2))
 go_wp2
 obtain⟨e1,e2,_,_,_⟩:=(((HR.out.below b1).below b2).set (.bool s2) (.slice A2 r2.length c2))
 refine bodyPost_ret (v:=.agg #[.bool s2,.slice A2 r2.length c2]) (by simp[results,Tryz.results74,go_sem,e1,e2]) rfl ?_
 exact RetIF.box (by omega) ((HR.out.below b1).below b2) q2 k2 (v2.trans (ival_shl s v1)) ((HB.out.trans (b1.mono HB.out.size)).trans (b2.mono (HB.out.trans (b1.mono HB.out.size)).size)) (fun a ea=>Nat.le_trans HB.out.size (Nat.le_trans b1.size (HF2.out a ea)))
theorem rbpow_F (n:Int)(w:World) :
  Calls Tryz.prog 44 #[.int .i64 n] w (RetIF (shlI 1 n) w):=by
 obtain⟨hR,hB⟩:=box1 w (.bool false) (.slice none 0 0) 31
 have HR:=Lib.hid hR
 have HB:=Lib.hid hB
 clear hR hB
 go_enter Tryz.func44,Tryz.ntmps44
 go_wp2_with (first
  | (go_at_call 22;refine(rbof_any 1 _ (by decide) (by decide)).mono ?_;rintro e w1 ⟨A1,c1,s1,r1,rfl,q1,k1,v1,b1⟩;have l1:r1.length≤1:=len_ival k1 v1 1 (by decide);have HV:=Lib.hid v1;clear v1)
  | (go_at_call 74;refine(rbshl_F s1 _ _ r1 n _ q1 (by omega)).mono ?_;rintro e w2 ⟨A2,c2,s2,r2,rfl,q2,k2,v2,b2,f2⟩;have HF2:=Lib.hid f2;clear f2;obtain⟨y1,y2,y3,y4,_⟩:=(HR.out.below b1).below b2;have HV2:=Lib.hid v2;clear v2))
 obtain⟨e1,e2,_,_,_⟩:=(((HR.out.below b1).below b2).set (.bool s2) (.slice A2 r2.length c2))
 refine bodyPost_ret (v:=.agg #[.bool s2,.slice A2 r2.length c2]) (by simp[results,Tryz.results44,go_sem,e1,e2]) rfl ?_
 exact RetIF.box (by omega) ((HR.out.below b1).below b2) q2 k2 (by rw[HV2.out,HV.out]) ((HB.out.trans (b1.mono HB.out.size)).trans (b2.mono (HB.out.trans (b1.mono HB.out.size)).size)) (fun a ea=>Nat.le_trans HB.out.size (Nat.le_trans b1.size (HF2.out a ea)))
end Go.Proofs.YtikehjindobpkaaGreat

namespace Go.Proofs.YtikehjindobpkaaGreat
open Go.RowKit Nds Num
theorem Ky.usP {P:Nat→Prop}{w w':World}(h:Ky P w w'){A:Option Addr}{c:Nat}{xs:List Nat}(u:Us w A c xs)(hp:0<xs.length→∀a,A=some a→¬ P a.block):Us w' A c xs :=
 ⟨u.1,u.2.1,u.2.2.1,fun hn=>by
  obtain⟨b,off,e,hlt,hc⟩:=u.2.2.2 hn
  exact⟨b,off,e,Nat.lt_of_lt_of_le hlt h.size,fun j v hv=>h.cell (hc j v hv) (show ¬ P b from hp (by simpa using hn) ⟨b,off,none⟩ e)⟩⟩
theorem Ky.hxP {P:Nat→Prop}{w w':World}(h:Ky P w w'){g:Nat}{s:Bool}{A:Option Addr}{c:Nat}{xs:List Nat}{n:Int}(x:HX w g s A c xs n)(hg:¬ P g)(hp:0<xs.length→∀a,A=some a→¬ P a.block):HX w' g s A c xs n :=
 ⟨(h.block g x.lt hg).trans x.box,h.usP x.us hp,x.cn,x.v,x.off⟩
theorem Ky.csP {P:Nat→Prop}{w w':World}(h:Ky P w w'){A:Option Addr}{c:Nat}{l:List Cv}(k:Cs w A c l)(hl:∀u∈l,(0<u.xs.length→∀a,u.ax=some a→¬ P a.block)∧(0<u.ys.length→∀a,u.ay=some a→¬ P a.block))(hb:0<l.length→∀a,A=some a→¬ P a.block):Cs w' A c l :=
 ⟨fun u hu=>⟨h.usP (k.1 u hu).1 (hl u hu).1,h.usP (k.1 u hu).2.1 (hl u hu).2,(k.1 u hu).2.2⟩,k.2.1,k.2.2.1,fun hn=>by
  obtain⟨b,off,e,hlt,hc⟩:=k.2.2.2 hn
  exact⟨b,off,e,Nat.lt_of_lt_of_le hlt h.size,fun i hi=>(hc i hi).below (h.block b hlt (hb hn _ e))⟩⟩
def RetPl (M:Nat)(out:List Nd)(X Y:Int)(L:List Cl)(base:Nat)(v:Value)(w:World)(e:Ending)(w':World):Prop :=
 ∃v',e=.returned (.tuple #[v',.int .i64 (placeF M out X Y L).2])∧OwnN w' base v' (placeF M out X Y L).1∧(∀k,v'.ownBlock=some k→v.ownBlock=some k∨w.heap.size≤k)∧Ky (fun k=>v.ownBlock=some k) w w'
theorem rplace_nil (base M:Nat)(out:List Nd)(v:Value)(lv:Int)(Ax Ay B:Option Addr)(cx cy d:Nat)(sx sy:Bool)(xs ys:List Nat)(X Y:Int)(w:World)(h:OwnN w base v out) :
  Calls Tryz.prog 52 #[v,.int .i64 lv,.agg #[.bool sx,.slice Ax xs.length cx],.agg #[.bool sy,.slice Ay ys.length cy],.slice B 0 d] w (RetPl M out X Y [] base v w):=by
 have hb:Ky (fun k=>v.ownBlock=some k) w ((w.alloc (.cells #[.bool sx,.slice Ax xs.length cx] 31)).alloc (.cells #[.bool sy,.slice Ay ys.length cy] 31)):=((Ky.refl _ _).alloc _).alloc _
 have HB:=Lib.hid hb
 have HO:=Lib.hid ((h.alloc (.cells #[.bool sx,.slice Ax xs.length cx] 31)).alloc (.cells #[.bool sy,.slice Ay ys.length cy] 31))
 obtain⟨R,hR⟩:∃R,R=RetPl M out X Y [] base v w:=⟨_,rfl⟩
 rw[←hR]
 have HR:=Lib.hid hR
 clear hb h hR
 go_enter Tryz.func52,Tryz.ntmps52
 go_wp2_with fail
 first|go_ret2|skip
 rw[HR.out]
 unfold RetPl
 rw[placeF_nil]
 exact⟨v,rfl,HO.out,fun k hk=>.inl hk,HB.out⟩
structure FarP (B0:Nat)(v0:Value)(Ax:Option Addr)(xs:List Nat)(Ay:Option Addr)(ys:List Nat)(B:Option Addr)(l:List Cv):Prop where
 fv:∀q,v0.ownBlock=some q→q<B0
 fx:0<xs.length→∀a,Ax=some a→a.block<B0∧v0.ownBlock≠some a.block
 fy:0<ys.length→∀a,Ay=some a→a.block<B0∧v0.ownBlock≠some a.block
 fl:∀u∈l,(0<u.xs.length→∀a,u.ax=some a→a.block<B0∧v0.ownBlock≠some a.block)∧(0<u.ys.length→∀a,u.ay=some a→a.block<B0∧v0.ownBlock≠some a.block)
 fb:0<l.length→∀a,B=some a→a.block<B0∧v0.ownBlock≠some a.block
structure PlJ (w:World)(base:Nat)(v0:Value)(B:Option Addr)(d:Nat)(l:List Cv)(sx:Bool)(Ax:Option Addr)(cx:Nat)(xs:List Nat)(X:Int)(sy:Bool)(Ay:Option Addr)(cy:Nat)(ys:List Nat)(Y:Int)(gh:Nat)(sh:Bool)(Ah:Option Addr)(ch:Nat)(hs:List Nat)(m gn:Nat)(y:Nd)(k:Nat)(v:Value)(o:List Nd)(W:World):Prop where
 b:Ky (fun q=>v0.ownBlock=some q) w W
 cs:Cs W B d l
 bx:HX W w.heap.size sx Ax cx xs X
 by_:HX W (w.heap.size+1) sy Ay cy ys Y
 bh:HX W gh sh Ah ch hs (p2 m)
 lt:w.heap.size+1<gh
 ln:gh<gn
 hl:0<hs.length→∀a,Ah=some a→w.heap.size≤a.block∧a.block<gn
 nb:NdBox W gn (mix ⟨(m:Int)+1,0,0,0,0⟩ y k)
 o:OwnN W base v o
 ob:∀q,v.ownBlock=some q→v0.ownBlock=some q∨gn<q
section
variable {w:World} {base:Nat} {v0:Value} {B:Option Addr} {d:Nat} {l:List Cv} {sx:Bool} {Ax:Option Addr} {cx:Nat} {xs:List Nat} {X:Int} {sy:Bool} {Ay:Option Addr} {cy:Nat} {ys:List Nat} {Y:Int} {gh:Nat} {sh:Bool} {Ah:Option Addr} {ch:Nat} {hs:List Nat} {m gn:Nat} {y:Nd} {k:Nat} {v:Value} {o:List Nd} {W W1:World}
theorem PlJ.nextP (h:PlJ w base v0 B d l sx Ax cx xs X sy Ay cy ys Y gh sh Ah ch hs m gn y k v o W)(q:Below W.heap.size W W1):PlJ w base v0 B d l sx Ax cx xs X sy Ay cy ys Y gh sh Ah ch hs m gn y k v o W1 :=
 ⟨h.b.below q,h.cs.below q,h.bx.next q,h.by_.next q,h.bh.next q,h.lt,h.ln,h.hl,h.nb.stay (q.block gn h.nb.lt),h.o.stays q,h.ob⟩
theorem PlJ.keepP {P:Nat→Prop}(h:PlJ w base v0 B d l sx Ax cx xs X sy Ay cy ys Y gh sh Ah ch hs m gn y k v o W)(F:FarP w.heap.size v0 Ax xs Ay ys B l)(hk:Ky P W W1)(hP:∀t,t<gn→(t<w.heap.size→v0.ownBlock≠some t)→¬ P t) :
  Cs W1 B d l∧HX W1 w.heap.size sx Ax cx xs X∧HX W1 (w.heap.size+1) sy Ay cy ys Y∧HX W1 gh sh Ah ch hs (p2 m):=by
 have h1:=h.lt
 have h2:=h.ln
 have old:∀t,t<w.heap.size∧v0.ownBlock≠some t→¬ P t:=fun t ht=>hP t (by omega) (fun _=>ht.2)
 exact⟨hk.csP h.cs (fun u hu=>⟨fun h0 a ea=>old _ ((F.fl u hu).1 h0 a ea),fun h0 a ea=>old _ ((F.fl u hu).2 h0 a ea)⟩) (fun h0 a ea=>old _ (F.fb h0 a ea)),
  hk.hxP h.bx (hP _ (by omega) (fun e=>absurd e (by omega))) (fun h0 a ea=>old _ (F.fx h0 a ea)),
  hk.hxP h.by_ (hP _ (by omega) (fun e=>absurd e (by omega))) (fun h0 a ea=>old _ (F.fy h0 a ea)),
  hk.hxP h.bh (hP _ h2 (fun e=>absurd e (by omega))) (fun h0 a ea=>hP _ (h.hl h0 a ea).2 (fun e=>absurd e (by have:=(h.hl h0 a ea).1;omega)))⟩
theorem PlJ.offP (h:PlJ w base v0 B d l sx Ax cx xs X sy Ay cy ys Y gh sh Ah ch hs m gn y k v o W){t:Nat}(ht:t≤gn)(hv:t<w.heap.size→v0.ownBlock≠some t)(hf:∀q,v0.ownBlock=some q→q<w.heap.size):v.ownBlock≠some t:=fun e=>by
 rcases h.ob t e with e2|e2
 ·exact hv (hf t e2) e2
 ·omega
theorem PlJ.callP {v2:Value}{o2:List Nd}(h:PlJ w base v0 B d l sx Ax cx xs X sy Ay cy ys Y gh sh Ah ch hs m gn y k v o W)(F:FarP w.heap.size v0 Ax xs Ay ys B l)(hk:Ky (fun q=>v.ownBlock=some q) W W1)(ho:OwnN W1 base v2 o2)(h2:∀q,v2.ownBlock=some q→v.ownBlock=some q∨W.heap.size≤q) :
  PlJ w base v0 B d l sx Ax cx xs X sy Ay cy ys Y gh sh Ah ch hs m gn y k v2 o2 W1:=by
 have h0:=h.lt
 have h1:=h.ln
 have hgn:=h.nb.lt
 obtain⟨k1,k2,k3,k4⟩:=h.keepP F hk fun t ht hv=>h.offP (by omega) hv F.fv
 refine⟨h.b.trans hk (fun i hi e=>?_),k1,k2,k3,k4,h0,h1,h.hl,h.nb.stay (hk.block gn hgn (h.offP (Nat.le_refl _) (fun e=>absurd e (by omega)) F.fv)),ho,fun q hq=>?_⟩
 ·rcases h.ob i e with e2|e2
  ·exact e2
  ·omega
 ·rcases h2 q hq with e|e
  ·exact h.ob q e
  ·exact .inr (by omega)
theorem PlJ.putP (h:PlJ w base v0 B d l sx Ax cx xs X sy Ay cy ys Y gh sh Ah ch hs m gn y k v o W)(F:FarP w.heap.size v0 Ax xs Ay ys B l)(hk4:k<4){r:Nat}(hr:r=1+k){u:Int}(hu:u=y.kid k) :
  PlJ w base v0 B d l sx Ax cx xs X sy Ay cy ys Y gh sh Ah ch hs m gn y (k+1) v o (W.setCell ⟨gn,r,none⟩ (.int .i64 u)):=by
 have h0:=h.lt
 have h1:=h.ln
 have hk:Ky (fun q=>q=gn) W (W.setCell ⟨gn,r,none⟩ (.int .i64 u)):=Ky.set (P:=fun q=>q=gn) (Ky.refl _ _) ⟨gn,r,none⟩ (fun _=>rfl) _
 obtain⟨k1,k2,k3,k4⟩:=h.keepP F hk fun t ht _ e=>by omega
 exact⟨h.b.set _ (fun e=>absurd (show gn<w.heap.size from e) (by omega)) _,k1,k2,k3,k4,h0,h1,h.hl,h.nb.setKid hk4 hr hu,h.o.gbr (gb_setCell _ _ _) (.inr (show v.ownBlock≠some gn from h.offP (Nat.le_refl _) (fun e=>absurd e (by omega)) F.fv)),h.ob⟩
end
def sqC (X Y h:Int)(u:Cv):Bool:=sqB X Y h u.cl
theorem sqC_map (X Y h:Int)(l:List Cv):(l.filter (sqC X Y h)).map Cv.cl=(l.map Cv.cl).filter (sqB X Y h):=by
 rw[List.filter_map]
 rfl
theorem take_filter {l:List Cv}{p:Cv→Bool}{i:Nat}(hi:i<l.length):(l.take (i+1)).filter p=(l.take i).filter p++(if p (cat l i)=true then [cat l i] else []):=by
 rw[List.take_succ_eq_append_getElem hi,List.filter_append]
 have e:cat l i=l[i]:=by
  unfold cat;rw[List.getElem?_eq_getElem hi]
  rfl
 rw[e]
 congr 1
 by_cases hp:p l[i]=true
 ·rw[if_pos hp,List.filter_cons_of_pos hp,List.filter_nil]
 ·rw[if_neg hp,List.filter_cons_of_neg hp,List.filter_nil]
theorem cellB {w w':World}(hb:Below w.heap.size w w'){p:Addr}{u:Value}(h:w.cell? p=some u):w'.cell? p=some u:=(hb.cell (p:=p) (World.block_lt_of_cell? w p h)).trans h
end Go.Proofs.YtikehjindobpkaaGreat
