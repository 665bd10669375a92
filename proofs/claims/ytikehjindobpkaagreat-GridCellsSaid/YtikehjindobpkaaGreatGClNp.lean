import Derived.Test.YtikehjindobpkaaGreatGNcOr
import Derived.Test.YtikehjindobpkaaGreatGClRa

set_option linter.unusedVariables false
set_option linter.unusedSimpArgs false
set_option maxRecDepth 100000
set_option maxHeartbeats 6400000
namespace Go.Proofs.YtikehjindobpkaaGreat
open Go.RowKit Nds
structure Bd (W:World)(base bb bm:Nat)(v:Value)(out:List Nd):Prop where
 bx:W.heap[bb]?=some (.cells #[v,.map (some bm)] 131)
 o:OwnN W base v out
 k:KM W bm out
theorem Bd.c0 {W:World}{base bb bm:Nat}{v:Value}{out:List Nd}(h:Bd W base bb bm v out):W.cell? ⟨bb,0,none⟩=some v:=by
 rw[cell_of_row W bb _ _ _ _ h.bx];rfl
theorem Bd.c1 {W:World}{base bb bm:Nat}{v:Value}{out:List Nd}(h:Bd W base bb bm v out):W.cell? ⟨bb,1,none⟩=some (.map (some bm)):=by
 rw[cell_of_row W bb _ _ _ _ h.bx];rfl
theorem Bd.lt {W:World}{base bb bm:Nat}{v:Value}{out:List Nd}(h:Bd W base bb bm v out):bb<W.heap.size:=(Array.getElem?_eq_some_iff.1 h.bx).1
theorem Bd.next {W W1:World}{base bb bm:Nat}{v:Value}{out:List Nd}(h:Bd W base bb bm v out)(k:Below W.heap.size W W1):Bd W1 base bb bm v out :=
 ⟨(k.block bb h.lt).trans h.bx,h.o.gbr ⟨k.os,k.tape,k.output,k.size,fun i hi _=>k.block i hi⟩ (row:=none) (by cases v.ownBlock <;> simp),h.k.stay (k.block bm h.k.lt)⟩
def BdP (bb bm:Nat)(v:Value):Nat→Prop:=fun k=>k=bb∨k=bm∨v.ownBlock=some k
theorem oper_store_km {w:World}{o:Oper}{a:Act}{K:Act→World→Prop}{Q:Exit→Act→World→Prop}(m x v:Operand)
  (hop:o.op=Op.mapUpdate 129 m x v) (b:Nat) (out:List Nd) (y:Nd) (u:Int)
  (hm:a.eval m=.map (some b)) (hx:a.eval x=ndv y) (hv:a.eval v=.int .i64 u) (hu:u=(out.length:Int)+1) (hown:KM w b out) (hS:∀y∈out,y.wf) (hy:y.wf) (hf:fnd out y=0)
  (h:∀w',KM w' b (out++[y])→w.grownBy w' (some b)→K (a.put o.dst undef) w'):Oper.wp Tryz.prog o a w K Q:=by
 subst hu
 obtain⟨w',hrun,r1,r2⟩:=hown.putK hS y hy hf
 unfold Oper.wp
 simp[execOp,hop,hm,hx,hv,hrun,Result.andThen]
 exact h w' r1 r2
structure Bd_ (W:World)(base bb bm:Nat)(v:Value)(out:List Nd)(x:Nd):Prop where
 bx:W.heap[bb]?=some (.cells #[v,.map (some bm)] 131)
 o:OwnN W base v (out++[x])
 k:KM W bm out
theorem Bd_.c0 {W:World}{base bb bm:Nat}{v:Value}{out:List Nd}{x:Nd}(h:Bd_ W base bb bm v out x):W.cell? ⟨bb,0,none⟩=some v:=by
 rw[cell_of_row W bb _ _ _ _ h.bx];rfl
theorem Bd_.c1 {W:World}{base bb bm:Nat}{v:Value}{out:List Nd}{x:Nd}(h:Bd_ W base bb bm v out x):W.cell? ⟨bb,1,none⟩=some (.map (some bm)):=by
 rw[cell_of_row W bb _ _ _ _ h.bx];rfl
theorem Bd_.lt {W:World}{base bb bm:Nat}{v:Value}{out:List Nd}{x:Nd}(h:Bd_ W base bb bm v out x):bb<W.heap.size:=(Array.getElem?_eq_some_iff.1 h.bx).1
def RetNu (base bb bm:Nat)(v:Value)(r:List Nd × Nat)(w:World)(e:Ending)(w':World):Prop :=
 ∃v',e=.returned (.int .i64 (r.2:Int))∧Bd w' base bb bm v' r.1∧(∀k,v'.ownBlock=some k→v.ownBlock=some k∨w.heap.size≤k)∧Ky (BdP bb bm v) w w'
theorem number_any (base bb bm:Nat)(v:Value)(out:List Nd)(x:Nd)(w:World)(h:Bd w base bb bm v out)(hg:GoodL out)(hx:x.wf)(hd:bb≠bm)(hb:bb<base∧bm<base)(hbs:base≤w.heap.size)(hlen:out.length≤900000) :
  Calls Tryz.prog 129 #[.pointer (some ⟨bb,0,none⟩),ndv x] w (RetNu base bb bm v (add out x) w):=by
 obtain⟨W,hW⟩:∃W:World,W=w.alloc (.cells #[.int .i64 x.lv,.int .i64 x.a,.int .i64 x.b,.int .i64 x.c,.int .i64 x.d] 74):=⟨_,rfl⟩
 have hB:Below w.heap.size w W:=by rw[hW];exact(Below.refl _ w).alloc (Nat.le_refl _) _
 have hbd:Bd W base bb bm v out:=h.next hB
 have hxb:NdBox W w.heap.size x:=by rw[hW];exact NdBox.new w x
 obtain⟨c1,c2,c3,c4,c5⟩:=hxb.at_
 have d0:=hbd.c0
 have d1:=hbd.c1
 have hlk:=fun nq=>(hbd.next (below_drewN (Below.refl _ W) nq)).k.lookK hg h.o.1 x hx
 obtain⟨f,hf⟩:∃f,f=fnd out x:=⟨_,rfl⟩
 rw[←hf] at hlk
 have HF:=Lib.hid hf
 have HW:=Lib.hid hW
 have HB:=Lib.hid hB
 have HBD:=Lib.hid hbd
 have HXB:=Lib.hid hxb
 have HH:=Lib.hid h
 rw[hW] at c1 c2 c3 c4 c5 d0 d1 hlk
 clear h hW hB hbd hxb hf
 by_cases hz:f=0
 ·subst hz
  go_enter Tryz.func129,Tryz.ntmps129
  go_wp2_with fail
  go_quiet (fail)
  go_wp2_with fail
  have HF:=Lib.hid (show(0:Nat)=fnd out x from HF.out)
  obtain⟨gx,hgx⟩:∃gx,gx=w.heap.size:=⟨_,rfl⟩
  have HGX:=Lib.hid hgx;rw[←hgx];have HXB':=Lib.hid (show NdBox W gx x by rw[hgx];exact HXB.out)
  clear hgx c1 c2 c3 c4 c5 d0 d1 hlk;refine wp_region_noPanic ?_
  refine wp_region_held (S:=fun w'=>w'.cell? ⟨gx,0,none⟩=some (.int .i64 x.lv)∧w'.cell? ⟨gx,1,none⟩=some (.int .i64 x.a)∧w'.cell? ⟨gx,2,none⟩=some (.int .i64 x.b)∧w'.cell? ⟨gx,3,none⟩=some (.int .i64 x.c)∧w'.cell? ⟨gx,4,none⟩=some (.int .i64 x.d)) (by kernel_rfl) ?_
  obtain⟨W0,hW0⟩:∃W0:World,W0=((w.alloc (.cells #[.int .i64 x.lv,.int .i64 x.a,.int .i64 x.b,.int .i64 x.c,.int .i64 x.d] 74)).drewN nq).drew:=⟨_,rfl⟩
  have hb0:Below W.heap.size W W0:=by rw[hW0,←HW.out];exact below_drewN (below_drewN (Below.refl _ W) nq) 1
  have B0:=Lib.hid (HBD.out.next hb0)
  have X0:=Lib.hid (HXB'.out.stay (hb0.block gx HXB'.out.lt))
  have L0:=Lib.hid (HB.out.trans (hb0.mono HB.out.size))
  have hS0:=X0.out.at_
  change wpAnyH _ _ _ _ _ _ _ _ ((w.alloc (.cells #[.int .i64 x.lv,.int .i64 x.a,.int .i64 x.b,.int .i64 x.c,.int .i64 x.d] 74)).drewN nq).drew
  rw[←hW0];clear hW0 hb0;refine wpAnyH_take (i:=0) (v:=?_) rfl (by kernel_rfl) (by kernel_rfl) (by kernel_rfl) (fun _ _ _ h=>h) (Or.inl ⟨by rfl,?_⟩) hS0 ?_
  rotate_left
  ·rintro w' ⟨s1,s2,s3,s4,s5⟩
   go_simp
   first|done|with_reducible rfl|rfl
  simp only[Act.put,LA]
  refine wpAnyH_take (i:=1) (v:=?_) rfl (by kernel_rfl) (by kernel_rfl) (by kernel_rfl) (fun _ _ _ h=>h) (Or.inl ⟨by rfl,?_⟩) hS0 ?_
  rotate_left
  ·rintro w' ⟨s1,s2,s3,s4,s5⟩
   go_simp
   first|done|with_reducible rfl|rfl
  simp only[Act.put,LA]
  refine wpAnyH_take (i:=2) (v:=?_) rfl (by kernel_rfl) (by kernel_rfl) (by kernel_rfl) (fun _ _ _ h=>h) (Or.inl ⟨by rfl,?_⟩) hS0 ?_
  rotate_left
  ·rintro w' ⟨s1,s2,s3,s4,s5⟩
   go_simp
   first|done|with_reducible rfl|rfl
  simp only[Act.put,LA]
  refine wpAnyH_take (i:=3) (v:=?_) rfl (by kernel_rfl) (by kernel_rfl) (by kernel_rfl) (fun _ _ _ h=>h) (Or.inl ⟨by rfl,?_⟩) hS0 ?_
  rotate_left
  ·rintro w' ⟨s1,s2,s3,s4,s5⟩
   go_simp
   first|done|with_reducible rfl|rfl
  simp only[Act.put,LA]
  refine wpAnyH_take (i:=5) (v:=?_) rfl (by kernel_rfl) (by kernel_rfl) (by kernel_rfl) (fun _ _ _ h=>h) (Or.inl ⟨by rfl,?_⟩) hS0 ?_
  rotate_left
  ·rintro w' ⟨s1,s2,s3,s4,s5⟩
   go_simp
   first|done|with_reducible rfl|rfl
  simp only[Act.put,LA]
  refine wpAnyH_ready (rs:=[4,6]) (by kernel_rfl) (by simp) (AllReadyH.cons rfl (fun K hK=>?_) (AllReadyH.cons rfl (fun K hK=>?_) AllReadyH.nil))
  ·have q0:=B0.out.c0
   go_simp
   refine hK.out _ _ X0.out.at_ (fun _=>?_)
   clear hK K q0;refine wpAnyH_ready (rs:=[6]) (by kernel_rfl) (by simp) (AllReadyH.cons rfl (fun K hK=>?_) AllReadyH.nil)
   go_simp
   obtain⟨g1,hg1⟩:∃g,g=W0.heap.size:=⟨_,rfl⟩
   obtain⟨W1,hW1⟩:∃Z:World,Z=W0.alloc (.cells #[.int .i64 x.lv,.int .i64 x.a,.int .i64 x.b,.int .i64 x.c,.int .i64 x.d] 74):=⟨_,rfl⟩
   have hbl:=(Below.refl W0.heap.size W0).alloc (Nat.le_refl _) (.cells #[.int .i64 x.lv,.int .i64 x.a,.int .i64 x.b,.int .i64 x.c,.int .i64 x.d] 74)
   rw[←hW1] at hbl;have B1:=Lib.hid (B0.out.next hbl)
   have X1:=Lib.hid (X0.out.stay (hbl.block gx X0.out.lt))
   have L1:=Lib.hid (L0.out.trans (hbl.mono L0.out.size))
   have NS:=Lib.hid (show Ns W1 (some ⟨g1,0,none⟩) 1 [x] by rw[hW1];exact ns_lit1 W0 g1 x hx hg1.symm)
   have hgl:W0.heap.size<W1.heap.size:=by rw[hW1];simp
   rw[←hg1,←hW1];clear hg1 hW1 hbl;refine hK.out _ _ X1.out.at_ (fun _=>?_)
   clear hK K;refine wpAnyH_ready (rs:=[7]) (by kernel_rfl) (by simp) (AllReadyH.cons rfl (fun K hK=>?_) AllReadyH.nil)
   rw[if_pos (by rfl)];refine oper_append_nodes (.tmp 19) (.tmp 21) rfl base v out [x] (some ⟨g1,0,none⟩) 1 1 rfl rfl B1.out.o NS.out rfl (fun e=>by cases e) (by omega) (Nat.le_trans hbs L1.out.size) ?_
   intro v2 W6 ho hgw hat
   simp only[Act.put,LA]
   have hvb:∀k,v.ownBlock=some k→base≤k:=fun k hk=>(HH.out.o.lt k hk).1
   have nb:∀k,k<base→(some k:Option Nat)≠v.ownBlock:=fun k hk e=>by have:=hvb k e.symm;omega
   have hbx6:=(hgw.block bb B1.out.lt (nb bb hb.1)).trans B1.out.bx
   have X6:=Lib.hid (X1.out.stay (hgw.block gx X1.out.lt (fun e=>absurd (HH.out.o.lt gx e.symm).2 (by rw[HGX.out];omega))))
   have K6:=Lib.hid (B1.out.k.stay (hgw.block bm B1.out.k.lt (nb bm hb.2)))
   have Y6:=Lib.hid ((Ky.refl (BdP bb bm v) w).below L1.out |>.gb hgw (fun i hi e=>.inr (.inr e)))
   have O6:=Lib.hid ho;have HB6:=Lib.hid hbx6;have HT6:=Lib.hid (show ∀k,v2.ownBlock=some k→v.ownBlock=some k∨w.heap.size≤k from fun k hk=>by
    rcases hat with e|e
    ·exact .inl (e.symm.trans hk)
    ·rw[e] at hk;have:=L1.out.size;have h9:=Option.some.inj hk;exact .inr (by omega))
   obtain⟨A2,c2,hv2,hN2,-,-⟩:=ho.shape
   rw[show(out++[x]).length=out.length+1 by simp] at hv2
   subst hv2;refine hK.out _ _ X6.out.at_ (fun _=>?_)
   clear hK K ho hgw hat hN2 hbx6;refine wpAnyH_take (i:=8) (v:=?_) rfl (by kernel_rfl) (by kernel_rfl) (by kernel_rfl) (fun _ _ _ h=>h) (Or.inl ⟨by rfl,?_⟩) X6.out.at_ ?_
   rotate_left
   ·rintro w' ⟨s1,s2,s3,s4,s5⟩
    go_simp
    first|done|with_reducible rfl|rfl
   simp only[Act.put,LA]
   refine wpAnyH_take (i:=9) (v:=?_) rfl (by kernel_rfl) (by kernel_rfl) (by kernel_rfl) (fun _ _ _ h=>h) (Or.inl ⟨by rfl,?_⟩) X6.out.at_ ?_
   rotate_left
   ·rintro w' ⟨s1,s2,s3,s4,s5⟩
    go_simp
    first|done|with_reducible rfl|rfl
   simp only[Act.put,LA]
   refine wpAnyH_ready (rs:=[10]) (by kernel_rfl) (by simp) (AllReadyH.cons rfl (fun K hK=>?_) AllReadyH.nil)
   have e0:W6.cell? ⟨bb,0,none⟩=some v:=by rw[cell_of_row W6 bb _ _ _ _ HB6.out];rfl
   have e1:W6.frozen? ⟨bb,0,none⟩=false:=frozen_of_row W6 bb 0 _ _ HB6.out
   go_simp
   have hset:=heap_setCell_same W6 bb 0 _ _ (.slice A2 (out.length+1) c2) HB6.out
   obtain⟨W7,hW7⟩:∃Z:World,Z=W6.setCell ⟨bb,0,none⟩ (.slice A2 (out.length+1) c2):=⟨_,rfl⟩
   have hgs:=gb_setCell W6 ⟨bb,0,none⟩ (.slice A2 (out.length+1) c2)
   rw[←hW7] at hset hgs ⊢;have B7:=Lib.hid (show Bd_ W7 base bb bm (.slice A2 (out.length+1) c2) out x from⟨hset,O6.out.gbr hgs (own_dec (fun k hk e=>by have h1:=(O6.out.lt k hk).1;have h2:=hb.1;have h3:=Option.some.inj e;dsimp only at h3;omega)),K6.out.stay (hgs.block bm K6.out.lt (fun e=>hd (Option.some.inj e).symm))⟩)
   have X7:=Lib.hid (X6.out.stay (hgs.block gx X6.out.lt (fun e=>by have h3:=Option.some.inj e;dsimp only at h3;have:=HGX.out;have:=hb.1;omega)))
   have Y7:=Lib.hid (Y6.out.gb hgs (fun i hi e=>.inl (Option.some.inj e).symm))
   refine hK.out _ _ X7.out.at_ (fun _=>?_)
   clear hK K e0 e1 hset hgs hW7;refine wpAnyH_done (by kernel_rfl) ?_ _
   refine NoPanic.normal ?_
   go_wp2_with fail
   refine wp_region_noPanic ?_
   refine wp_region_held (S:=fun w'=>(w'.cell? ⟨bb,0,none⟩=some (.slice A2 (out.length+1) c2)∧w'.cell? ⟨bb,1,none⟩=some (.map (some bm)))∧(w'.cell? ⟨gx,0,none⟩=some (.int .i64 x.lv)∧w'.cell? ⟨gx,1,none⟩=some (.int .i64 x.a)∧w'.cell? ⟨gx,2,none⟩=some (.int .i64 x.b)∧w'.cell? ⟨gx,3,none⟩=some (.int .i64 x.c)∧w'.cell? ⟨gx,4,none⟩=some (.int .i64 x.d))) (by kernel_rfl) ?_
   obtain⟨W8,hW8⟩:∃Z:World,Z=W7.drew:=⟨_,rfl⟩
   have B8:=Lib.hid (show Bd_ W8 base bb bm (.slice A2 (out.length+1) c2) out x by rw[hW8];exact⟨B7.out.bx,⟨B7.out.o.1,B7.out.o.2⟩,B7.out.k⟩)
   have X8:=Lib.hid (show NdBox W8 gx x by rw[hW8];exact X7.out)
   have Y8:=Lib.hid (show Ky (BdP bb bm v) w W8 by rw[hW8];exact⟨Y7.out.os,Y7.out.tape,Y7.out.output,Y7.out.size,Y7.out.block⟩)
   have hS8:=And.intro (And.intro B8.out.c0 B8.out.c1) X8.out.at_
   change wpAnyH _ _ _ _ _ _ _ _ W7.drew
   rw[←hW8];clear hW8;refine wpAnyH_take (i:=0) (v:=?_) rfl (by kernel_rfl) (by kernel_rfl) (by kernel_rfl) (fun _ _ _ h=>h) (Or.inl ⟨by rfl,?_⟩) hS8 ?_
   rotate_left
   ·rintro w' ⟨⟨r1,r2⟩,s1,s2,s3,s4,s5⟩
    go_simp
    first|done|with_reducible rfl|rfl
   simp only[Act.put,LA]
   refine wpAnyH_take (i:=1) (v:=?_) rfl (by kernel_rfl) (by kernel_rfl) (by kernel_rfl) (fun _ _ _ h=>h) (Or.inl ⟨by rfl,?_⟩) hS8 ?_
   rotate_left
   ·rintro w' ⟨⟨r1,r2⟩,s1,s2,s3,s4,s5⟩
    go_simp
    first|done|with_reducible rfl|rfl
   simp only[Act.put,LA]
   refine wpAnyH_take (i:=2) (v:=?_) rfl (by kernel_rfl) (by kernel_rfl) (by kernel_rfl) (fun _ _ _ h=>h) (Or.inl ⟨by rfl,?_⟩) hS8 ?_
   rotate_left
   ·rintro w' ⟨⟨r1,r2⟩,s1,s2,s3,s4,s5⟩
    go_simp
    first|done|with_reducible rfl|rfl
   simp only[Act.put,LA]
   refine wpAnyH_take (i:=3) (v:=?_) rfl (by kernel_rfl) (by kernel_rfl) (by kernel_rfl) (fun _ _ _ h=>h) (Or.inl ⟨by rfl,?_⟩) hS8 ?_
   rotate_left
   ·rintro w' ⟨⟨r1,r2⟩,s1,s2,s3,s4,s5⟩
    go_simp
    first|done|with_reducible rfl|rfl
   simp only[Act.put,LA]
   refine wpAnyH_take (i:=4) (v:=?_) rfl (by kernel_rfl) (by kernel_rfl) (by kernel_rfl) (fun _ _ _ h=>h) (Or.inl ⟨by rfl,?_⟩) hS8 ?_
   rotate_left
   ·rintro w' ⟨⟨r1,r2⟩,s1,s2,s3,s4,s5⟩
    go_simp
    first|done|with_reducible rfl|rfl
   simp only[Act.put,LA]
   refine wpAnyH_take (i:=5) (v:=?_) rfl (by kernel_rfl) (by kernel_rfl) (by kernel_rfl) (fun _ _ _ h=>h) (Or.inl ⟨by rfl,?_⟩) hS8 ?_
   rotate_left
   ·rintro w' ⟨⟨r1,r2⟩,s1,s2,s3,s4,s5⟩
    go_simp
    first|done|with_reducible rfl|rfl
   simp only[Act.put,LA]
   refine wpAnyH_take (i:=6) (v:=?_) rfl (by kernel_rfl) (by kernel_rfl) (by kernel_rfl) (fun _ _ _ h=>h) (Or.inl ⟨by rfl,?_⟩) hS8 ?_
   rotate_left
   ·rintro w' ⟨⟨r1,r2⟩,s1,s2,s3,s4,s5⟩
    go_simp
    first|done|with_reducible rfl|rfl
   simp only[Act.put,LA]
   refine wpAnyH_take (i:=7) (v:=?_) rfl (by kernel_rfl) (by kernel_rfl) (by kernel_rfl) (fun _ _ _ h=>h) (Or.inl ⟨by rfl,?_⟩) hS8 ?_
   rotate_left
   ·rintro w' ⟨⟨r1,r2⟩,s1,s2,s3,s4,s5⟩
    go_simp
    first|done|with_reducible rfl|rfl
   simp only[Act.put,LA]
   refine wpAnyH_take (i:=8) (v:=?_) rfl (by kernel_rfl) (by kernel_rfl) (by kernel_rfl) (fun _ _ _ h=>h) (Or.inl ⟨by rfl,?_⟩) hS8 ?_
   rotate_left
   ·rintro w' ⟨⟨r1,r2⟩,s1,s2,s3,s4,s5⟩
    go_simp
    first|done|with_reducible rfl|rfl
   simp only[Act.put,LA]
   refine wpAnyH_take (i:=9) (v:=?_) rfl (by kernel_rfl) (by kernel_rfl) (by kernel_rfl) (fun _ _ _ h=>h) (Or.inl ⟨by rfl,?_⟩) hS8 ?_
   rotate_left
   ·rintro w' ⟨⟨r1,r2⟩,s1,s2,s3,s4,s5⟩
    go_simp
    first|done|with_reducible rfl|rfl
   simp only[Act.put,LA]
   refine wpAnyH_ready (rs:=[10]) (by kernel_rfl) (by simp) (AllReadyH.cons rfl (fun K hK=>?_) AllReadyH.nil)
   rw[if_pos (by rfl)];refine oper_store_km (.tmp 28) (.tmp 29) (.tmp 34) rfl bm out x _ rfl rfl rfl (by omega) B8.out.k HH.out.o.1 hx HF.out.symm ?_
   intro W9 m9 g9
   simp only[Act.put,LA]
   have hb9:=(g9.block bb B8.out.lt (fun e=>hd (Option.some.inj e))).trans B8.out.bx
   have k9:W9.cell? ⟨bb,0,none⟩=some (.slice A2 (out.length+1) c2):=by rw[cell_of_row W9 bb _ _ _ _ hb9];rfl
   have k9b:W9.cell? ⟨bb,1,none⟩=some (.map (some bm)):=by rw[cell_of_row W9 bb _ _ _ _ hb9];rfl
   have X9:=Lib.hid (X8.out.stay (g9.block gx X8.out.lt (fun e=>by have h3:=Option.some.inj e;have:=HGX.out;have:=hb.2;omega)))
   have M9:=Lib.hid m9;have G9:=Lib.hid g9;have HB9:=Lib.hid hb9;refine hK.out _ _ ⟨⟨k9,k9b⟩,X9.out.at_⟩ (fun _=>?_)
   clear hK K m9 g9 hb9 k9b;refine wpAnyH_done (by kernel_rfl) ?_ _
   refine NoPanic.normal ?_
   go_wp2_with fail
   go_ret
   unfold RetNu add;rw[if_pos HF.out.symm];refine⟨_,?_,⟨HB9.out,B8.out.o.gbr G9.out (own_dec (fun k hk e=>by have h1:=(B8.out.o.lt k hk).1;have h2:=hb.2;have h3:=Option.some.inj e;omega)),M9.out⟩,HT6.out,Y8.out.gb G9.out (fun i hi e=>.inr (.inl (Option.some.inj e).symm))⟩
   show Ending.returned (.int .i64 _)=.returned (.int .i64 _)
   congr 2
   try omega
  ·go_simp
   obtain⟨g1,hg1⟩:∃g,g=W0.heap.size:=⟨_,rfl⟩
   obtain⟨W1,hW1⟩:∃Z:World,Z=W0.alloc (.cells #[.int .i64 x.lv,.int .i64 x.a,.int .i64 x.b,.int .i64 x.c,.int .i64 x.d] 74):=⟨_,rfl⟩
   have hbl:=(Below.refl W0.heap.size W0).alloc (Nat.le_refl _) (.cells #[.int .i64 x.lv,.int .i64 x.a,.int .i64 x.b,.int .i64 x.c,.int .i64 x.d] 74)
   rw[←hW1] at hbl;have B1:=Lib.hid (B0.out.next hbl)
   have X1:=Lib.hid (X0.out.stay (hbl.block gx X0.out.lt))
   have L1:=Lib.hid (L0.out.trans (hbl.mono L0.out.size))
   have NS:=Lib.hid (show Ns W1 (some ⟨g1,0,none⟩) 1 [x] by rw[hW1];exact ns_lit1 W0 g1 x hx hg1.symm)
   have hgl:W0.heap.size<W1.heap.size:=by rw[hW1];simp
   rw[←hg1,←hW1];clear hg1 hW1 hbl;refine hK.out _ _ X1.out.at_ (fun _=>?_)
   clear hK K;refine wpAnyH_ready (rs:=[4]) (by kernel_rfl) (by simp) (AllReadyH.cons rfl (fun K hK=>?_) AllReadyH.nil)
   have q0:=B1.out.c0
   go_simp
   refine hK.out _ _ X1.out.at_ (fun _=>?_)
   clear hK K q0;refine wpAnyH_ready (rs:=[7]) (by kernel_rfl) (by simp) (AllReadyH.cons rfl (fun K hK=>?_) AllReadyH.nil)
   rw[if_pos (by rfl)];refine oper_append_nodes (.tmp 19) (.tmp 21) rfl base v out [x] (some ⟨g1,0,none⟩) 1 1 rfl rfl B1.out.o NS.out rfl (fun e=>by cases e) (by omega) (Nat.le_trans hbs L1.out.size) ?_
   intro v2 W6 ho hgw hat
   simp only[Act.put,LA]
   have hvb:∀k,v.ownBlock=some k→base≤k:=fun k hk=>(HH.out.o.lt k hk).1
   have nb:∀k,k<base→(some k:Option Nat)≠v.ownBlock:=fun k hk e=>by have:=hvb k e.symm;omega
   have hbx6:=(hgw.block bb B1.out.lt (nb bb hb.1)).trans B1.out.bx
   have X6:=Lib.hid (X1.out.stay (hgw.block gx X1.out.lt (fun e=>absurd (HH.out.o.lt gx e.symm).2 (by rw[HGX.out];omega))))
   have K6:=Lib.hid (B1.out.k.stay (hgw.block bm B1.out.k.lt (nb bm hb.2)))
   have Y6:=Lib.hid ((Ky.refl (BdP bb bm v) w).below L1.out |>.gb hgw (fun i hi e=>.inr (.inr e)))
   have O6:=Lib.hid ho;have HB6:=Lib.hid hbx6;have HT6:=Lib.hid (show ∀k,v2.ownBlock=some k→v.ownBlock=some k∨w.heap.size≤k from fun k hk=>by
    rcases hat with e|e
    ·exact .inl (e.symm.trans hk)
    ·rw[e] at hk;have:=L1.out.size;have h9:=Option.some.inj hk;exact .inr (by omega))
   obtain⟨A2,c2,hv2,hN2,-,-⟩:=ho.shape
   rw[show(out++[x]).length=out.length+1 by simp] at hv2
   subst hv2;refine hK.out _ _ X6.out.at_ (fun _=>?_)
   clear hK K ho hgw hat hN2 hbx6;refine wpAnyH_take (i:=8) (v:=?_) rfl (by kernel_rfl) (by kernel_rfl) (by kernel_rfl) (fun _ _ _ h=>h) (Or.inl ⟨by rfl,?_⟩) X6.out.at_ ?_
   rotate_left
   ·rintro w' ⟨s1,s2,s3,s4,s5⟩
    go_simp
    first|done|with_reducible rfl|rfl
   simp only[Act.put,LA]
   refine wpAnyH_take (i:=9) (v:=?_) rfl (by kernel_rfl) (by kernel_rfl) (by kernel_rfl) (fun _ _ _ h=>h) (Or.inl ⟨by rfl,?_⟩) X6.out.at_ ?_
   rotate_left
   ·rintro w' ⟨s1,s2,s3,s4,s5⟩
    go_simp
    first|done|with_reducible rfl|rfl
   simp only[Act.put,LA]
   refine wpAnyH_ready (rs:=[10]) (by kernel_rfl) (by simp) (AllReadyH.cons rfl (fun K hK=>?_) AllReadyH.nil)
   have e0:W6.cell? ⟨bb,0,none⟩=some v:=by rw[cell_of_row W6 bb _ _ _ _ HB6.out];rfl
   have e1:W6.frozen? ⟨bb,0,none⟩=false:=frozen_of_row W6 bb 0 _ _ HB6.out
   go_simp
   have hset:=heap_setCell_same W6 bb 0 _ _ (.slice A2 (out.length+1) c2) HB6.out
   obtain⟨W7,hW7⟩:∃Z:World,Z=W6.setCell ⟨bb,0,none⟩ (.slice A2 (out.length+1) c2):=⟨_,rfl⟩
   have hgs:=gb_setCell W6 ⟨bb,0,none⟩ (.slice A2 (out.length+1) c2)
   rw[←hW7] at hset hgs ⊢;have B7:=Lib.hid (show Bd_ W7 base bb bm (.slice A2 (out.length+1) c2) out x from⟨hset,O6.out.gbr hgs (own_dec (fun k hk e=>by have h1:=(O6.out.lt k hk).1;have h2:=hb.1;have h3:=Option.some.inj e;dsimp only at h3;omega)),K6.out.stay (hgs.block bm K6.out.lt (fun e=>hd (Option.some.inj e).symm))⟩)
   have X7:=Lib.hid (X6.out.stay (hgs.block gx X6.out.lt (fun e=>by have h3:=Option.some.inj e;dsimp only at h3;have:=HGX.out;have:=hb.1;omega)))
   have Y7:=Lib.hid (Y6.out.gb hgs (fun i hi e=>.inl (Option.some.inj e).symm))
   refine hK.out _ _ X7.out.at_ (fun _=>?_)
   clear hK K e0 e1 hset hgs hW7;refine wpAnyH_done (by kernel_rfl) ?_ _
   refine NoPanic.normal ?_
   go_wp2_with fail
   refine wp_region_noPanic ?_
   refine wp_region_held (S:=fun w'=>(w'.cell? ⟨bb,0,none⟩=some (.slice A2 (out.length+1) c2)∧w'.cell? ⟨bb,1,none⟩=some (.map (some bm)))∧(w'.cell? ⟨gx,0,none⟩=some (.int .i64 x.lv)∧w'.cell? ⟨gx,1,none⟩=some (.int .i64 x.a)∧w'.cell? ⟨gx,2,none⟩=some (.int .i64 x.b)∧w'.cell? ⟨gx,3,none⟩=some (.int .i64 x.c)∧w'.cell? ⟨gx,4,none⟩=some (.int .i64 x.d))) (by kernel_rfl) ?_
   obtain⟨W8,hW8⟩:∃Z:World,Z=W7.drew:=⟨_,rfl⟩
   have B8:=Lib.hid (show Bd_ W8 base bb bm (.slice A2 (out.length+1) c2) out x by rw[hW8];exact⟨B7.out.bx,⟨B7.out.o.1,B7.out.o.2⟩,B7.out.k⟩)
   have X8:=Lib.hid (show NdBox W8 gx x by rw[hW8];exact X7.out)
   have Y8:=Lib.hid (show Ky (BdP bb bm v) w W8 by rw[hW8];exact⟨Y7.out.os,Y7.out.tape,Y7.out.output,Y7.out.size,Y7.out.block⟩)
   have hS8:=And.intro (And.intro B8.out.c0 B8.out.c1) X8.out.at_
   change wpAnyH _ _ _ _ _ _ _ _ W7.drew
   rw[←hW8];clear hW8;refine wpAnyH_take (i:=0) (v:=?_) rfl (by kernel_rfl) (by kernel_rfl) (by kernel_rfl) (fun _ _ _ h=>h) (Or.inl ⟨by rfl,?_⟩) hS8 ?_
   rotate_left
   ·rintro w' ⟨⟨r1,r2⟩,s1,s2,s3,s4,s5⟩
    go_simp
    first|done|with_reducible rfl|rfl
   simp only[Act.put,LA]
   refine wpAnyH_take (i:=1) (v:=?_) rfl (by kernel_rfl) (by kernel_rfl) (by kernel_rfl) (fun _ _ _ h=>h) (Or.inl ⟨by rfl,?_⟩) hS8 ?_
   rotate_left
   ·rintro w' ⟨⟨r1,r2⟩,s1,s2,s3,s4,s5⟩
    go_simp
    first|done|with_reducible rfl|rfl
   simp only[Act.put,LA]
   refine wpAnyH_take (i:=2) (v:=?_) rfl (by kernel_rfl) (by kernel_rfl) (by kernel_rfl) (fun _ _ _ h=>h) (Or.inl ⟨by rfl,?_⟩) hS8 ?_
   rotate_left
   ·rintro w' ⟨⟨r1,r2⟩,s1,s2,s3,s4,s5⟩
    go_simp
    first|done|with_reducible rfl|rfl
   simp only[Act.put,LA]
   refine wpAnyH_take (i:=3) (v:=?_) rfl (by kernel_rfl) (by kernel_rfl) (by kernel_rfl) (fun _ _ _ h=>h) (Or.inl ⟨by rfl,?_⟩) hS8 ?_
   rotate_left
   ·rintro w' ⟨⟨r1,r2⟩,s1,s2,s3,s4,s5⟩
    go_simp
    first|done|with_reducible rfl|rfl
   simp only[Act.put,LA]
   refine wpAnyH_take (i:=4) (v:=?_) rfl (by kernel_rfl) (by kernel_rfl) (by kernel_rfl) (fun _ _ _ h=>h) (Or.inl ⟨by rfl,?_⟩) hS8 ?_
   rotate_left
   ·rintro w' ⟨⟨r1,r2⟩,s1,s2,s3,s4,s5⟩
    go_simp
    first|done|with_reducible rfl|rfl
   simp only[Act.put,LA]
   refine wpAnyH_take (i:=5) (v:=?_) rfl (by kernel_rfl) (by kernel_rfl) (by kernel_rfl) (fun _ _ _ h=>h) (Or.inl ⟨by rfl,?_⟩) hS8 ?_
   rotate_left
   ·rintro w' ⟨⟨r1,r2⟩,s1,s2,s3,s4,s5⟩
    go_simp
    first|done|with_reducible rfl|rfl
   simp only[Act.put,LA]
   refine wpAnyH_take (i:=6) (v:=?_) rfl (by kernel_rfl) (by kernel_rfl) (by kernel_rfl) (fun _ _ _ h=>h) (Or.inl ⟨by rfl,?_⟩) hS8 ?_
   rotate_left
   ·rintro w' ⟨⟨r1,r2⟩,s1,s2,s3,s4,s5⟩
    go_simp
    first|done|with_reducible rfl|rfl
   simp only[Act.put,LA]
   refine wpAnyH_take (i:=7) (v:=?_) rfl (by kernel_rfl) (by kernel_rfl) (by kernel_rfl) (fun _ _ _ h=>h) (Or.inl ⟨by rfl,?_⟩) hS8 ?_
   rotate_left
   ·rintro w' ⟨⟨r1,r2⟩,s1,s2,s3,s4,s5⟩
    go_simp
    first|done|with_reducible rfl|rfl
   simp only[Act.put,LA]
   refine wpAnyH_take (i:=8) (v:=?_) rfl (by kernel_rfl) (by kernel_rfl) (by kernel_rfl) (fun _ _ _ h=>h) (Or.inl ⟨by rfl,?_⟩) hS8 ?_
   rotate_left
   ·rintro w' ⟨⟨r1,r2⟩,s1,s2,s3,s4,s5⟩
    go_simp
    first|done|with_reducible rfl|rfl
   simp only[Act.put,LA]
   refine wpAnyH_take (i:=9) (v:=?_) rfl (by kernel_rfl) (by kernel_rfl) (by kernel_rfl) (fun _ _ _ h=>h) (Or.inl ⟨by rfl,?_⟩) hS8 ?_
   rotate_left
   ·rintro w' ⟨⟨r1,r2⟩,s1,s2,s3,s4,s5⟩
    go_simp
    first|done|with_reducible rfl|rfl
   simp only[Act.put,LA]
   refine wpAnyH_ready (rs:=[10]) (by kernel_rfl) (by simp) (AllReadyH.cons rfl (fun K hK=>?_) AllReadyH.nil)
   rw[if_pos (by rfl)];refine oper_store_km (.tmp 28) (.tmp 29) (.tmp 34) rfl bm out x _ rfl rfl rfl (by omega) B8.out.k HH.out.o.1 hx HF.out.symm ?_
   intro W9 m9 g9
   simp only[Act.put,LA]
   have hb9:=(g9.block bb B8.out.lt (fun e=>hd (Option.some.inj e))).trans B8.out.bx
   have k9:W9.cell? ⟨bb,0,none⟩=some (.slice A2 (out.length+1) c2):=by rw[cell_of_row W9 bb _ _ _ _ hb9];rfl
   have k9b:W9.cell? ⟨bb,1,none⟩=some (.map (some bm)):=by rw[cell_of_row W9 bb _ _ _ _ hb9];rfl
   have X9:=Lib.hid (X8.out.stay (g9.block gx X8.out.lt (fun e=>by have h3:=Option.some.inj e;have:=HGX.out;have:=hb.2;omega)))
   have M9:=Lib.hid m9;have G9:=Lib.hid g9;have HB9:=Lib.hid hb9;refine hK.out _ _ ⟨⟨k9,k9b⟩,X9.out.at_⟩ (fun _=>?_)
   clear hK K m9 g9 hb9 k9b;refine wpAnyH_done (by kernel_rfl) ?_ _
   refine NoPanic.normal ?_
   go_wp2_with fail
   go_ret
   unfold RetNu add;rw[if_pos HF.out.symm];refine⟨_,?_,⟨HB9.out,B8.out.o.gbr G9.out (own_dec (fun k hk e=>by have h1:=(B8.out.o.lt k hk).1;have h2:=hb.2;have h3:=Option.some.inj e;omega)),M9.out⟩,HT6.out,Y8.out.gb G9.out (fun i hi e=>.inr (.inl (Option.some.inj e).symm))⟩
   show Ending.returned (.int .i64 _)=.returned (.int .i64 _)
   congr 2
   try omega
 ·have t1:((f:Int)!=0)=true:=by rw[bne_iff_ne];omega
  have HZ:=Lib.hid hz;clear hz
  go_enter Tryz.func129,Tryz.ntmps129
  go_wp2_with fail
  go_quiet (fail)
  go_wp2_with fail
  go_ret
  have hlb:Below W.heap.size W (W.drewN nq):=below_drewN (Below.refl _ W) nq
  unfold RetNu add;rw[if_neg (fun e=>HZ.out (HF.out.trans e))];rw[←HW.out];refine⟨v,?_,HBD.out.next hlb,fun k hk=>.inl hk,(Ky.refl _ w).below (HB.out.trans (hlb.mono HB.out.size))⟩
  rw[←HF.out]
  rfl
end Go.Proofs.YtikehjindobpkaaGreat

namespace Go.Proofs.YtikehjindobpkaaGreat
open Nds Num
def Cv.cn (v:Cv):Cl:=⟨(val v.xs:Nat),(val v.ys:Nat),v.st⟩
def inQ (m i:Nat)(v:Cv):Bool:=quaC v m==i
def treeZ:Nat→List Cv→Tr
 | 0,[]=>.e
 | 0,v :: _=>.s v.st
 | m+1,l=>mk ((m:Int)+1) (treeZ m (l.filter (inQ m 0))) (treeZ m (l.filter (inQ m 1))) (treeZ m (l.filter (inQ m 2))) (treeZ m (l.filter (inQ m 3)))
theorem treeZ_nil:∀m,treeZ m []=.e
 | 0=>rfl
 | m+1=>by
  show mk _ (treeZ m []) (treeZ m []) (treeZ m []) (treeZ m [])=.e
  rw[treeZ_nil m]
  rfl
theorem inQ_some (m:Nat)(v:Cv):inQ m 0 v=true∨inQ m 1 v=true∨inQ m 2 v=true∨inQ m 3 v=true:=by
 have h:=qtr_lt m (val v.xs) (val v.ys)
 unfold inQ quaC
 simp only[beq_iff_eq]
 omega
theorem filter_ne {l:List Cv}{p:Cv→Bool}{v:Cv}(h:v∈l)(hp:p v=true):l.filter p≠[]:=fun e=>by
 have:=List.mem_filter.2 ⟨h,hp⟩
 rw[e] at this
 cases this
theorem treeZ_ne:∀(m:Nat) {l:List Cv},l≠[]→treeZ m l≠.e
 | 0,[],h=>absurd rfl h
 | 0,v :: l,_=>fun e=>by cases e
 | m+1,l,h=>by
  obtain⟨v,hv⟩:=List.exists_mem_of_ne_nil l h
  show mk _ _ _ _ _≠.e
  rw[←isE_no,mk_isE];unfold allE;have key:∀i,inQ m i v=true→(treeZ m (l.filter (inQ m i))).isE=false:=fun i hi=>isE_no.2 (treeZ_ne m (filter_ne hv hi))
  rcases inQ_some m v with h|h|h|h <;> rw[key _ h] <;> simp
theorem treeZ_wf:∀(m:Nat) (l:List Cv),m≤1329→(∀v∈l,1≤v.st∧v.st≤255)→wfT (m:Int)(treeZ m l)
 | 0,[],_,_=>trivial
 | 0,v :: l,_,h=>by
  have:=h v (by simp)
  exact⟨rfl,by omega,by omega⟩
 | m+1,l,hm,h=>by
  have sub:∀i,wfT (m:Int) (treeZ m (l.filter (inQ m i))):=fun i=>treeZ_wf m _ (by omega) (fun v hv=>h v (List.mem_filter.1 hv).1)
  have e:(((m+1:Nat)):Int)=(m:Int)+1:=by omega
  rw[e];refine wf_mk ⟨by omega,by omega⟩ ?_ ?_ ?_ ?_ <;> (rw[show(m:Int)+1-1=(m:Int) by omega];exact sub _)
theorem lk_inQ (m i:Nat)(x y:Nat):∀(l:List Cv),lk ((l.filter (inQ m i)).map Cv.cn) x y=if qtr m x y=i then lk (l.map Cv.cn) x y else 0
 | []=>by
  show(0:Int)=if _ then 0 else 0
  split <;> rfl
 | v :: l=>by
  rw[List.filter_cons];have hp:v.cn.x=(x:Int)∧v.cn.y=(y:Int)→quaC v m=qtr m x y:=fun h=>by
   have h1:val v.xs=x:=by have:=h.1;simp only[Cv.cn] at this;omega
   have h2:val v.ys=y:=by have:=h.2;simp only[Cv.cn] at this;omega
   unfold quaC;rw[h1,h2]
  by_cases hc:inQ m i v=true
  ·rw[if_pos hc,List.map_cons,List.map_cons];unfold lk;rw[lk_inQ m i x y l];by_cases hxy:v.cn.x=(x:Int)∧v.cn.y=(y:Int)
   ·have h1:quaC v m=i:=by unfold inQ at hc;simpa using hc
    rw[if_pos hxy,if_pos hxy,if_pos (by rw[←hp hxy];exact h1)]
   ·rw[if_neg hxy,if_neg hxy]
  ·rw[if_neg hc,lk_inQ m i x y l,List.map_cons];by_cases hq:qtr m x y=i
   ·rw[if_pos hq,if_pos hq]
    conv=>rhs;unfold lk
    rw[if_neg (fun hxy=>hc (by unfold inQ;rw[hp hxy,hq];simp))]
   ·rw[if_neg hq,if_neg hq]
theorem lk_neg {l:List Cv}{x y:Int}(h:x<0∨y<0):lk (l.map Cv.cn) x y=0:=lk_none fun c hc hcp=>by
 obtain⟨v,_,rfl⟩:=List.mem_map.1 hc
 have h1:=hcp.1
 have h2:=hcp.2
 simp only[Cv.cn] at h1 h2
 omega
theorem lk_quarters (m:Nat)(l:List Cv)(x y:Int):lk ((l.filter (inQ m 0)).map Cv.cn) x y+lk ((l.filter (inQ m 1)).map Cv.cn) x y+lk ((l.filter (inQ m 2)).map Cv.cn) x y+lk ((l.filter (inQ m 3)).map Cv.cn) x y=lk (l.map Cv.cn) x y:=by
 by_cases hn:x<0∨y<0
 ·rw[lk_neg hn,lk_neg hn,lk_neg hn,lk_neg hn,lk_neg hn]
  rfl
 ·obtain⟨a,rfl⟩:=Int.eq_ofNat_of_zero_le (show 0≤x by omega)
  obtain⟨b,rfl⟩:=Int.eq_ofNat_of_zero_le (show 0≤y by omega)
  rw[lk_inQ,lk_inQ,lk_inQ,lk_inQ];have h:=qtr_lt m a b
  generalize qtr m a b=q at h
  obtain rfl|rfl|rfl|rfl:q=0∨q=1∨q=2∨q=3:=by omega
  all_goals simp
def HiB (m hx hy:Nat)(l:List Cv):Prop:=∀v∈l,val v.xs / 2^m=hx∧val v.ys / 2^m=hy
theorem hi_quarter {m hx hy i:Nat}{l:List Cv}(h:HiB (m+1) hx hy l)(hi:i<4):HiB m (2*hx+i%2) (2*hy+i / 2) (l.filter (inQ m i)):=fun v hv=>by
 obtain⟨h1,h2⟩:=List.mem_filter.1 hv
 obtain⟨h3,h4⟩:=h v h1
 unfold inQ quaC qtr at h2
 simp only[beq_iff_eq] at h2
 rw[Nat.pow_succ,←Nat.div_div_eq_div_mul] at h3 h4
 omega
theorem treeZ_cells:∀(m:Nat) (l:List Cv)(hx hy:Nat),m≤1329→(∀v∈l,1≤v.st∧v.st≤255)→HiB m hx hy l→(l.map Cv.cn).Pairwise (fun a b=>¬ (a.x=b.x∧a.y=b.y)) →
  ∀x y,cellC (treeZ m l) x y=lk (l.map Cv.cn) (x+hx*p2 m) (y+hy*p2 m)
 | 0,[],hx,hy,_,_,_,_,x,y=>rfl
 | 0,v :: l,hx,hy,_,_,hb,hp,x,y=>by
  have hnil:l=[]:=by
   cases l with
   | nil=>rfl
   | cons u l =>
    have h1:=List.rel_of_pairwise_cons hp (a':=u.cn) (by simp)
    obtain⟨a1,a2⟩:=hb v (by simp)
    obtain⟨b1,b2⟩:=hb u (by simp)
    simp only[Nat.pow_zero,Nat.div_one] at a1 a2 b1 b2
    exact absurd ⟨by simp only[Cv.cn];omega,by simp only[Cv.cn];omega⟩ h1
  subst hnil;obtain⟨a1,a2⟩:=hb v (by simp)
  simp only[Nat.pow_zero,Nat.div_one] at a1 a2
  show(if x=0∧y=0 then (v.st:Int) else 0)=if v.cn.x=_∧v.cn.y=_ then (v.st:Int) else 0
  rw[p2_zero];have k1:v.cn.x=(hx:Int):=by simp only[Cv.cn];omega
  have k2:v.cn.y=(hy:Int):=by simp only[Cv.cn];omega
  by_cases h0:x=0∧y=0
  ·rw[if_pos h0,if_pos ⟨by omega,by omega⟩]
  ·rw[if_neg h0,if_neg (by omega)]
 | m+1,l,hx,hy,hm,hs,hb,hp,x,y=>by
  have sub:∀i,wfT (m:Int) (treeZ m (l.filter (inQ m i))):=fun i=>treeZ_wf m _ (by omega) (fun v hv=>hs v (List.mem_filter.1 hv).1)
  have ih:∀i,i<4→∀x y,cellC (treeZ m (l.filter (inQ m i))) x y=lk ((l.filter (inQ m i)).map Cv.cn) (x+(2*hx+i%2:Nat)*p2 m) (y+(2*hy+i / 2:Nat)*p2 m):=fun i hi =>
   treeZ_cells m (l.filter (inQ m i)) _ _ (by omega) (fun v hv=>hs v (List.mem_filter.1 hv).1) (hi_quarter hb hi) (hp.sublist (List.Sublist.map _ List.filter_sublist))
  show cellC (mk ((m:Int)+1) _ _ _ _) x y=_
  have i0:=ih 0 (by decide)
  have i1:=ih 1 (by decide)
  have i2:=ih 2 (by decide)
  have i3:=ih 3 (by decide)
  simp only[Nat.reduceMod,Nat.reduceDiv] at i0 i1 i2 i3
  rw[cell_mk (sub 0) (sub 1) (sub 2) (sub 3),i0,i1,i2,i3,←lk_quarters m l];rw[p2_succ];have e1:∀(h:Nat) (z:Int),z+((2*h+0:Nat):Int)*p2 m=z+(h:Int)*(p2 m+p2 m):=fun h z=>by
   rw[show((2*h+0:Nat):Int)=2*(h:Int) by omega,Int.mul_add,Int.mul_assoc,Int.two_mul]
  have e2:∀(h:Nat) (z:Int),z-p2 m+((2*h+1:Nat):Int)*p2 m=z+(h:Int)*(p2 m+p2 m):=fun h z=>by
   rw[show((2*h+1:Nat):Int)=2*(h:Int)+1 by omega,Int.add_mul,Int.mul_add,Int.mul_assoc,Int.two_mul,Int.one_mul];omega
  simp only[e1,e2]
end Go.Proofs.YtikehjindobpkaaGreat

namespace Go.Proofs.YtikehjindobpkaaGreat
open Go.RowKit Nds Num Go.Sort
theorem seek_gro (bl bv bi:Nat)(A:Option Addr)(c n m i k:Nat)(l:List Cv)(w:World)(hl:w.cell? ⟨bl,0,none⟩=some (.slice A n c))(hv:w.cell? ⟨bv,0,none⟩=some (.int .i64 ((m:Int)+1)))(hi:w.cell? ⟨bi,0,none⟩=some (.int .i64 (i:Int)))
  (h:Cs w A c l) (hn:l.length=n) (hR:∀v∈l,v.xs.length≤60000∧v.ys.length≤60000) (hm:m≤100000) (hk:k<n) :
  Calls Tryz.prog 128 #[.int .i64 (k:Int),.pointer (some ⟨bl,0,none⟩),.pointer (some ⟨bv,0,none⟩),.pointer (some ⟨bi,0,none⟩)] w fun e w'=>e=.returned (.bool (decide (i<quaC (cat l k) m)))∧Gro w w':=by
 have hcap:=h.cap
 rw[hn] at hcap
 obtain⟨b,off,rfl,hb,hc⟩:=h.at_ (by omega)
 obtain⟨c1,c2,c3,c4,c5⟩:=hc k (by omega)
 have hu:=h.1 _ (cat_mem (i:=k) (by omega))
 obtain⟨r1,r2⟩:=hR _ (cat_mem (i:=k) (by omega))
 generalize cat l k=v at *
 have hv1:=hu.1.cap
 have hv2:=hu.2.1.cap
 obtain⟨q,hq⟩:∃q,q=quaC v m:=⟨_,rfl⟩
 rw[←hq]
 have HQ:=Lib.hid hq
 have HU:=Lib.hid hu
 have HLL:=Lib.hid hl
 have HVV:=Lib.hid hv
 have HII:=Lib.hid hi
 have HLT:=Lib.hid (And.intro (lt_of_cell hl) (And.intro (lt_of_cell hv) (lt_of_cell hi)))
 have HCV:=Lib.hid (show CvAt w b (off+k*5) v from⟨c1,c2,c3,c4,c5⟩)
 have HLb:=Lib.hid hb
 have i1:(0:Int)≤(k:Int):=by omega
 have i2:(k:Int)<(n:Int):=by omega
 have st:Gro w w.drew:=(Gro.refl w).drewN 1
 clear h hc hq hu hR
 go_enter Tryz.func128,Tryz.ntmps128
 go_wp2_with fail
 go_region_held3 (fun w'=>w'.cell? ⟨bl,0,none⟩=some (.slice (some ⟨b,off,none⟩) n c)∧w'.cell? ⟨bv,0,none⟩=some (.int .i64 ((m:Int)+1))∧w'.cell? ⟨bi,0,none⟩=some (.int .i64 (i:Int))∧(w'.cell? ⟨b,off+k*5,none⟩=some (.bool v.sx)∧w'.cell? ⟨b,off+k*5+1,none⟩=some (.slice v.ax v.xs.length v.cx)∧w'.cell? ⟨b,off+k*5+2,none⟩=some (.bool v.sy)∧w'.cell? ⟨b,off+k*5+3,none⟩=some (.slice v.ay v.ys.length v.cy)∧w'.cell? ⟨b,off+k*5+4,none⟩=some (.int .u8 v.st)))
  (first|go_keep|exact⟨k0,k1,k2,⟨e1,e2,e3,e4,e5⟩⟩)
  (first|(go_at_call 126;refine(quarter_gro v m _ (HU.out.below st.b) r1 r2 hm).mono ?_;rintro e w1 ⟨rfl,g1⟩;rw[←HQ.out];have k0:=((st.trans g1).b.cell (p:=⟨bl,0,none⟩) HLT.out.1).trans HLL.out;have k1:=((st.trans g1).b.cell (p:=⟨bv,0,none⟩) HLT.out.2.1).trans HVV.out;have k2:=((st.trans g1).b.cell (p:=⟨bi,0,none⟩) HLT.out.2.2).trans HII.out;obtain⟨e1,e2,e3,e4,e5⟩:=HCV.out.below ((st.trans g1).b.block b HLb.out)))
 all_goals
  go_wp2_with fail
  go_ret
  refine⟨?_,st.trans g1⟩
  show Ending.returned (.bool _)=.returned (.bool _)
  congr 2
theorem below_grow (w:World)(m:Nat)(os:Array Obj):Below w.heap.size w (grow (w.drewN m) os) :=
 ⟨rfl,rfl,rfl,by rw[size_grow];exact Nat.le_add_right _ _,fun k hk=>by
  show(w.heap++os)[k]?=_
  rw[Array.getElem?_append,if_pos hk]⟩
theorem cat_range (l:List Cv):(List.range l.length).map (cat l)=l:=by
 refine List.ext_getElem (by simp) fun i h1 h2=>?_
 rw[List.getElem_map,List.getElem_range,cat_get h2]
def endQ (l:List Cv)(m i:Nat):Nat:=l.countP (fun v=>decide (quaC v m≤i))
theorem search_any (bl bv bi:Nat)(A:Option Addr)(c n m i:Nat)(l:List Cv)(w:World)(hl:w.cell? ⟨bl,0,none⟩=some (.slice A n c))(hv:w.cell? ⟨bv,0,none⟩=some (.int .i64 ((m:Int)+1)))(hi:w.cell? ⟨bi,0,none⟩=some (.int .i64 (i:Int)))
  (h:Cs w A c l) (hn:l.length=n) (hR:∀v∈l,v.xs.length≤60000∧v.ys.length≤60000) (hm:m≤100000) (hn9:n≤1000000) (hmono:∀a b,a≤b→b<n→quaC (cat l a) m≤quaC (cat l b) m) :
  Calls Tryz.prog 127 #[.int .i64 (n:Int),.func (.func 128) #[] #[.pointer (some ⟨bl,0,none⟩),.pointer (some ⟨bv,0,none⟩),.pointer (some ⟨bi,0,none⟩)]] w fun e w'=>e=.returned (.int .i64 (endQ l m i:Nat))∧Gro w w':=by
 have eg:∀args w,(callFunc 128 args).run Tryz.prog w=.ok (.enter 128 args) w:=enters_of Tryz.func128 (by kernel_rfl) rfl
 have hcon:=Any.sort_Search Tryz.search 128 #[.pointer (some ⟨bl,0,none⟩),.pointer (some ⟨bv,0,none⟩),.pointer (some ⟨bi,0,none⟩)] n (fun k=>decide (i<quaC (cat l k) m)) w eg (by omega)
  (fun q os k hk=>by
   have hb:=below_grow w q os
   have:=seek_gro bl bv bi A c n m i k l (grow (w.drewN q) os) ((hb.cell (p:=⟨bl,0,none⟩) (lt_of_cell hl)).trans hl) ((hb.cell (p:=⟨bv,0,none⟩) (lt_of_cell hv)).trans hv) ((hb.cell (p:=⟨bi,0,none⟩) (lt_of_cell hi)).trans hi) (h.below hb) hn hR hm hk
   exact this.mono fun e w' ⟨he,hG⟩=>⟨he,gro_grow hG⟩)
  (fun a b hab hb hp=>decide_eq_true (Nat.lt_of_lt_of_le (of_decide_eq_true hp) (hmono a b hab hb)))
 change Calls Tryz.prog 127 _ _ _ at hcon
 refine hcon.mono ?_
 rintro e w' ⟨rfl,q,os,rfl⟩
 refine⟨?_,below_grow w q os,Nat.le_add_right _ _⟩
 congr 3
 unfold endQ
 rw[←hn]
 conv=>rhs;rw[←cat_range l,List.countP_map]
 congr 1
 funext k
 simp only[Function.comp]
 by_cases hk:i<quaC (cat l k) m
 ·rw[decide_eq_true hk,decide_eq_false (by omega)];rfl
 ·rw[decide_eq_false hk,decide_eq_true (by omega)];rfl
end Go.Proofs.YtikehjindobpkaaGreat

namespace Go.Proofs.YtikehjindobpkaaGreat
open Nds Num
def Zs (l:List Cv):Prop:=l.Pairwise fun a b=>zq (val a.xs) (val a.ys)≤zq (val b.xs) (val b.ys)
theorem Zs.quarters {m hx hy:Nat}{l:List Cv}(h:Zs l)(hb:HiB (m+1) hx hy l):l.Pairwise fun a b=>quaC a m≤quaC b m:=by
 refine List.Pairwise.imp_of_mem (fun {a b} ha hb' hab=>?_) h
 obtain⟨a1,a2⟩:=hb a ha
 obtain⟨b1,b2⟩:=hb b hb'
 exact qtr_mono (a1.trans b1.symm) (a2.trans b2.symm) hab
theorem sorted_take (f:Cv→Nat)(i:Nat):∀{l:List Cv},l.Pairwise (fun a b=>f a≤f b) →
  l.take (l.countP fun v=>decide (f v≤i))=l.filter (fun v=>decide (f v≤i))∧l.drop (l.countP fun v=>decide (f v≤i))=l.filter (fun v=>decide (i<f v))
 | [],_=>⟨rfl,rfl⟩
 | v :: l,h=>by
  obtain⟨h1,h2⟩:=List.pairwise_cons.1 h
  obtain⟨i1,i2⟩:=sorted_take f i h2
  by_cases hv:f v≤i
  ·rw[List.countP_cons_of_pos (by simpa using hv),List.filter_cons,List.filter_cons,if_pos (by simpa using hv),if_neg (by simp;omega),List.take_succ_cons,List.drop_succ_cons,i1,i2]
   exact⟨rfl,rfl⟩
  ·have h0:l.countP (fun v=>decide (f v≤i))=0:=by
    rw[List.countP_eq_zero]
    intro u hu
    have:=h1 u hu
    simp
    omega
   have h3:l.filter (fun v=>decide (i<f v))=l:=List.filter_eq_self.2 fun u hu=>by
    have:=h1 u hu
    simp
    omega
   have h4:l.filter (fun v=>decide (f v≤i))=[]:=List.filter_eq_nil_iff.2 fun u hu=>by
    have:=h1 u hu
    simp
    omega
   rw[List.countP_cons_of_neg (by simpa using hv),h0,List.filter_cons,List.filter_cons,if_neg (by simpa using hv),if_pos (by simp;omega),h3,h4]
   exact⟨rfl,rfl⟩
def remQ (l:List Cv)(m j:Nat):List Cv:=l.filter fun v=>decide (j≤quaC v m)
theorem rem_zero (l:List Cv)(m:Nat):remQ l m 0=l:=List.filter_eq_self.2 fun v _=>by simp
theorem rem_sub {l:List Cv}{m j:Nat}{v:Cv}(h:v∈remQ l m j):v∈l:=(List.mem_filter.1 h).1
theorem rem_next {l:List Cv}{m j:Nat}(hs:l.Pairwise fun a b=>quaC a m≤quaC b m){i:Nat}(hne:remQ l m j≠[])(hi:i=quaC (cat (remQ l m j) 0) m) :
  j≤i∧i<4∧(∀k,j≤k→k<i→l.filter (inQ m k)=[])∧(remQ l m j).take (endQ (remQ l m j) m i)=l.filter (inQ m i)∧(remQ l m j).drop (endQ (remQ l m j) m i)=remQ l m (i+1)∧0<endQ (remQ l m j) m i:=by
 have hsr:(remQ l m j).Pairwise fun a b=>quaC a m≤quaC b m:=hs.filter _
 obtain⟨v,r,hr⟩:=List.exists_cons_of_ne_nil hne
 have hv0:cat (remQ l m j) 0=v:=by rw[hr];rfl
 rw[hv0] at hi
 have hvm:v∈remQ l m j:=by rw[hr];simp
 have hji:j≤i:=by
  have:=(List.mem_filter.1 hvm).2
  simp only[decide_eq_true_eq] at this
  omega
 have hmin:∀u∈remQ l m j,i≤quaC u m:=fun u hu=>by
  rw[hr] at hu hsr;rcases List.mem_cons.1 hu with rfl|hu
  ·omega
  ·have:=List.rel_of_pairwise_cons hsr hu
   omega
 obtain⟨t1,t2⟩:=sorted_take (fun v=>quaC v m) i hsr
 refine⟨hji,by rw[hi];exact qtr_lt _ _ _,fun k h1 h2=>?_,?_,?_,?_⟩
 ·refine List.filter_eq_nil_iff.2 fun u hu=>?_
  unfold inQ
  intro e
  have e2:quaC u m=k:=by simpa using e
  have:=hmin u (List.mem_filter.2 ⟨hu,by simp;omega⟩)
  omega
 ·unfold endQ;rw[t1];unfold remQ;rw[List.filter_filter];refine List.filter_congr fun u hu=>?_
  unfold inQ;by_cases h1:j≤quaC u m
  ·have h2:=hmin u (List.mem_filter.2 ⟨hu,by simpa using h1⟩)
   rw[decide_eq_true h1,Bool.and_true];by_cases h3:quaC u m=i
   ·rw[h3];simp
   ·rw[decide_eq_false (by omega)]
    symm
    simpa using h3
  ·rw[decide_eq_false h1,Bool.and_false]
   symm
   simp
   omega
 ·unfold endQ;rw[t2];unfold remQ;rw[List.filter_filter];refine List.filter_congr fun u hu=>?_
  by_cases h1:i<quaC u m
  ·rw[decide_eq_true h1,decide_eq_true (show j≤quaC u m by omega),decide_eq_true (show i+1≤quaC u m by omega)];rfl
  ·rw[decide_eq_false h1,decide_eq_false (show ¬ i+1≤quaC u m by omega)];rfl
 ·unfold endQ;exact List.countP_pos_iff.2 ⟨v,hvm,by simp;omega⟩
def fQ (m:Nat)(l:List Cv)(k:Nat):Tr:=treeZ m (l.filter (inQ m k))
theorem fQ_wf {m:Nat}{l:List Cv}(hm:m≤1329)(hs:∀v∈l,1≤v.st∧v.st≤255)(k:Nat):wfT (m:Int) (fQ m l k):=treeZ_wf m _ hm (fun v hv=>hs v (List.mem_filter.1 hv).1)
theorem fQ_out {m:Nat}{l:List Cv}{out:List Nd}{j:Nat}:∀{i:Nat},j≤i→(∀k,j≤k→k<i→l.filter (inQ m k)=[])→outK (fQ m l) out i=outK (fQ m l) out j
 | 0,hji,_=>by rw[show j=0 by omega]
 | i+1,hji,h=>by
  rcases Nat.lt_or_ge i j with h1|h1
  ·rw[show j=i+1 by omega]
  ·show(enc (fQ m l i) (outK (fQ m l) out i)).1=_
   rw[show fQ m l i=.e by unfold fQ;rw[h i h1 (by omega),treeZ_nil]]
   exact fQ_out h1 (fun k h2 h3=>h k h2 (by omega))
theorem fQ_num {m:Nat}{l:List Cv}{out:List Nd}{k:Nat}(h:l.filter (inQ m k)=[]):numK (fQ m l) out k=0:=by
 unfold numK
 rw[show fQ m l k=.e by unfold fQ;rw[h,treeZ_nil]]
 rfl
theorem fQ_mix {m:Nat}{l:List Cv}{out:List Nd}{v:Int}{j i:Nat}(hji:j≤i)(hi:i≤4)(h:∀k,j≤k→k<i→l.filter (inQ m k)=[]):mix ⟨v,0,0,0,0⟩ (topN (fQ m l) out v) i=mix ⟨v,0,0,0,0⟩ (topN (fQ m l) out v) j:=by
 have key:∀k,k<4→(if k<i then numK (fQ m l) out k else 0)=(if k<j then numK (fQ m l) out k else 0):=fun k hk=>by
  by_cases h1:k<j
  ·rw[if_pos h1,if_pos (by omega)]
  ·by_cases h2:k<i
   ·rw[if_neg h1,if_pos h2,fQ_num (h k (by omega) h2)]
   ·rw[if_neg h1,if_neg h2]
 unfold mix topN
 dsimp only
 rw[key 0 (by decide),key 1 (by decide),key 2 (by decide),key 3 (by decide)]
theorem treeZ_succ {m:Nat}{l:List Cv}(hne:l≠[]):treeZ (m+1) l=.n ((m:Int)+1) (fQ m l 0) (fQ m l 1) (fQ m l 2) (fQ m l 3):=mk_eta (treeZ_ne (m+1) hne)
theorem fQ_q (m:Nat)(l:List Cv):∀i,i<4→(Tr.n ((m:Int)+1) (fQ m l 0) (fQ m l 1) (fQ m l 2) (fQ m l 3)).q i=fQ m l i:=fun i hi=>by
 match i,hi with
 | 0,_=>rfl
 | 1,_=>rfl
 | 2,_=>rfl
 | 3,_=>rfl
theorem enc_Z {m:Nat}{l:List Cv}(hne:l≠[])(out:List Nd):enc (treeZ (m+1) l) out=((add (outK (fQ m l) out 4) (topN (fQ m l) out ((m:Int)+1))).1,((add (outK (fQ m l) out 4) (topN (fQ m l) out ((m:Int)+1))).2:Int)):=by
 rw[treeZ_succ hne,enc_n,outK_congr 4 (fun i hi=>fQ_q m l i hi),topN_congr (fun i hi=>fQ_q m l i hi)]
theorem enc_K {m:Nat}{l:List Cv}{out:List Nd}(hm:m≤1329)(hs:∀v∈l,1≤v.st∧v.st≤255)(hg:GoodL out):∀k,k≤4→EncK (m:Int) (fQ m l) out k :=
 encK_of hg fun i _ o ho=>enc_spec _ _ o (fQ_wf hm hs i) ho
theorem topQ_wf {m:Nat}{l:List Cv}{out:List Nd}(hm:m+1≤1329)(hne:l≠[])(hs:∀v∈l,1≤v.st∧v.st≤255)(hg:GoodL out)(hlen:(outK (fQ m l) out 4).length≤1000000):(topN (fQ m l) out ((m:Int)+1)).wf:=by
 have hw:=treeZ_wf (m+1) l hm hs
 rw[treeZ_succ hne,show(((m+1:Nat)):Int)=(m:Int)+1 by omega] at hw
 have hk:EncK ((m:Int)+1-1) (Tr.n ((m:Int)+1) (fQ m l 0) (fQ m l 1) (fQ m l 2) (fQ m l 3)).q out 4:=by
  rw[show(m:Int)+1-1=(m:Int) by omega];refine encK_of hg (fun i hi o ho=>?_) 4 (Nat.le_refl _)
  rw[fQ_q m l i hi];exact enc_spec _ _ o (fQ_wf (by omega) hs i) ho
 have h:=(top_of hw hk).1
 rw[outK_congr 4 (fun i hi=>fQ_q m l i hi),topN_congr (fun i hi=>fQ_q m l i hi)] at h
 exact fit_wf h hlen
theorem add_len (out:List Nd)(x:Nd):(add out x).1.length≤out.length+1:=by
 unfold add
 split
 ·simp
 ·exact Nat.le_succ _
theorem quarters_len (m:Nat)(l:List Cv):(l.filter (inQ m 0)).length+(l.filter (inQ m 1)).length+(l.filter (inQ m 2)).length+(l.filter (inQ m 3)).length=l.length:=by
 induction l with
 | nil=>rfl
 | cons v l ih =>
  have h:=qtr_lt m (val v.xs) (val v.ys)
  have e:quaC v m=qtr m (val v.xs) (val v.ys):=rfl
  rw[List.filter_cons,List.filter_cons,List.filter_cons,List.filter_cons];unfold inQ;rw[←e] at h
  generalize quaC v m=q at h
  unfold inQ at ih;obtain rfl|rfl|rfl|rfl:q=0∨q=1∨q=2∨q=3:=by omega
  all_goals
   simp
   omega
theorem enc_len:∀(m:Nat) (l:List Cv)(out:List Nd),(enc (treeZ m l) out).1.length≤out.length+m*l.length
 | 0,[],out=>Nat.le_add_right _ _
 | 0,v :: l,out=>Nat.le_add_right _ _
 | m+1,l,out=>by
  by_cases hne:l=[]
  ·subst hne;rw[treeZ_nil];exact Nat.le_add_right _ _
  ·have h0:=enc_len m (l.filter (inQ m 0)) out
   have h1:=enc_len m (l.filter (inQ m 1)) (outK (fQ m l) out 1)
   have h2:=enc_len m (l.filter (inQ m 2)) (outK (fQ m l) out 2)
   have h3:=enc_len m (l.filter (inQ m 3)) (outK (fQ m l) out 3)
   have ha:=add_len (outK (fQ m l) out 4) (topN (fQ m l) out ((m:Int)+1))
   rw[enc_Z hne];have hq:=quarters_len m l
   have hp:0<l.length:=List.length_pos_iff.2 hne
   have hmul:m*(l.filter (inQ m 0)).length+m*(l.filter (inQ m 1)).length+m*(l.filter (inQ m 2)).length+m*(l.filter (inQ m 3)).length=m*l.length:=by
    rw[←Nat.mul_add,←Nat.mul_add,←Nat.mul_add,hq]
   have e1:(outK (fQ m l) out 1).length=(enc (treeZ m (l.filter (inQ m 0))) out).1.length:=rfl
   have e2:(outK (fQ m l) out 2).length=(enc (treeZ m (l.filter (inQ m 1))) (outK (fQ m l) out 1)).1.length:=rfl
   have e3:(outK (fQ m l) out 3).length=(enc (treeZ m (l.filter (inQ m 2))) (outK (fQ m l) out 2)).1.length:=rfl
   have e4:(outK (fQ m l) out 4).length=(enc (treeZ m (l.filter (inQ m 3))) (outK (fQ m l) out 3)).1.length:=rfl
   rw[Nat.add_mul,Nat.one_mul];show(add (outK (fQ m l) out 4) (topN (fQ m l) out ((m:Int)+1))).1.length≤_
   omega
end Go.Proofs.YtikehjindobpkaaGreat
