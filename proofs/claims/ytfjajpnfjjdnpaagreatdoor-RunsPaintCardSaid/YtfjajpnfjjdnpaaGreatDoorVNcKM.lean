import Derived.Test.YtfjajpnfjjdnpaaGreatDoorVNcRV

set_option linter.unusedVariables false
set_option linter.unusedSimpArgs false
set_option maxRecDepth 100000
set_option maxHeartbeats 6400000
namespace Go.Proofs.YtfjajpnfjjdnpaaGreatDoor
open Go.RowKit Nds
theorem zab {w:World}{g:Nat}{u:Value}{t:TypeId}(h:w.heap[g]?=some (.cells #[u] t)):w.cell? ⟨g,0,none⟩=some u:=by
 rw[cell_of_row w g _ _ _ _ h];rfl
theorem zbz {w:World}{g:Nat}{u:Value}{t:TypeId}(h:w.heap[g]?=some (.cells #[u] t)):w.frozen? ⟨g,0,none⟩=false:=frozen_of_row w g 0 _ _ h
theorem zrC (A:Option Addr)(c n:Nat)(l:List Nd)(k:Int)(w:World)(h:Ns w A c l)(hn:l.length=n)(hno:zac l=false∨k<0∨(n:Int)<k) :
  Calls Tryz.prog 46 #[.slice A n c,.int .i64 k] w (RetO l k w):=by
 have hcap:=h.cap;rw[hn] at hcap;have hR:=ztK (ztL (by rw[hn];exact hno));obtain⟨R,hRR⟩:∃R,R=RetO l k w:=⟨_,rfl⟩;rw[←hRR];have HR:=Hh hRR;have HQ:=Hh hR;have hb:=(Below.refl w.heap.size w).alloc (Nat.le_refl _) (.cells #[.slice none 0 0] 28);have HB:=Hh hb;have HN:=Hh (h.below hb);have HL:=Hh hn;have hgc:(w.alloc (.cells #[.slice none 0 0] 28)).heap[w.heap.size]?=some (.cells #[.slice none 0 0] 28):=heap_alloc_new w _;have HGC:=Hh hgc;have hlt:w.heap.size<(w.alloc (.cells #[.slice none 0 0] 28)).heap.size:=by simp
 have HLT:=Hh hlt;have hcases:zac l=false∨(zac l=true∧k<0)∨(zac l=true∧0≤k∧(n:Int)<k):=by
  cases hq:zac l
  ·exact .inl rfl
  ·rcases hno with h|h
   ·rw[hq] at h;cases h
   ·rcases h with h|h
    ·exact .inr (.inl ⟨rfl,h⟩)
    ·by_cases h0:k<0
     ·exact .inr (.inl ⟨rfl,h0⟩)
     ·exact .inr (.inr ⟨rfl,by omega,h⟩)
 clear h hn hno hb hgc hlt hR hRR;rcases hcases with hq|⟨hq,h0⟩|⟨hq,h0,h1⟩
 all_goals
  have HLL:=Hh hq;clear hq;go_enter Tryz.func46,Tryz.ntmps46;go_wp2_with (go_at_call 42;go_loud (refine(zkP _ _ n l _ HN.out HL.out).mono ?_;rintro e w1 ⟨rfl,b1⟩;have HB1:=Hh b1;have hcg:=(b1.block w.heap.size HLT.out).trans HGC.out;have cg:=zab hcg;have fg:=zbz hcg;clear b1 hcg;rw[HLL.out]));have e1:=World.cell?_setCell_same _ _ (.slice none 0 0) cg;refine bodyPost_ret (v:=.tuple #[.agg #[.slice none 0 0],.int .i64 1]) (by simp[results,Tryz.results46,go_sem,e1]) rfl ?_;rw[HR.out];refine⟨none,0,?_,?_,fun _=>rfl,(HB.out.trans (HB1.out.mono HB.out.size)).setCell (Nat.le_refl _) _⟩
  ·rw[HQ.out.1,HQ.out.2];rfl
  ·rw[HQ.out.1];exact zkQ _
theorem zcU {P:Program}{w:World}{o:Oper}{a:Act}{K:Act→World→Prop}{Q:Exit→Act→World→Prop}
  (l c:Operand) (t:TypeId) (hop:o.op=Op.makeSlice t l c)
  (base:Nat) (e:TypeId) (i:TypeInfo) (z:Value) (size:Nat) (h1:P.underlying t=some (.slice e)) (h2:P.info? e=some i) (h3:i.zero=some z) (h4:i.size=size)
  (kl kc:IntKind) (L C:Int) (n:Nat) (hl:a.eval l=.int kl L) (hc:a.eval c=.int kc C) (hL:L=(n:Int)) (hC:C=(n:Int)) (b2:i.bytes*n≤281474976710656) (b3:n≤maxLen) (b4:base≤w.heap.size)
  (hK:∀w',w'.ownsRow base e size (.slice (some ⟨w.heap.size,0,none⟩) n n) n (madeCells z.cells (n*size)).toList→w.grownBy w' none→K (a.put o.dst (.slice (some ⟨w.heap.size,0,none⟩) n n)) w') :
  Oper.wp P o a w K Q:=by
 obtain⟨w',hrun,r1,r2⟩:=run_make_full (P:=P) w base t e i z size h1 h2 h3 h4 kl kc n b2 b3 b4;subst hL;subst hC;unfold Oper.wp;simp[execOp,hop,hl,hc,hrun,Result.andThen];exact hK w' r1 r2
theorem zrD (l:List Nd)(n:Nat):Dn l [] (List.replicate n 0):=by
 intro i hi h0;exfalso;rw[List.getD_eq_getElem?_getD,List.getElem?_replicate] at h0;split at h0 <;> simp at h0
theorem zsz (A:Option Addr)(c n k:Nat)(l:List Nd)(w:World)(h:Ns w A c l)(hn:l.length=n)(hn9:n≤900000)(hl:zac l=true)(hk:k≤n)(hA:A=none→c=0) :
  Calls Tryz.prog 46 #[.slice A n c,.int .i64 (k:Int)] w (RetO l (k:Int) w):=by
 have hcap:=h.cap;rw[hn] at hcap;have HQ:=Hh (zsy hl (n:=k) (by omega));obtain⟨i0,hi,hz0,hz1,hz2⟩:=info_parts Tryz.infoI;have HI:=Hh (And.intro hi (And.intro hz0 (And.intro hz1 hz2)));obtain⟨R,hRR⟩:∃R,R=RetO l (k:Int) w:=⟨_,rfl⟩;rw[←hRR];have HR:=Hh hRR;have hb:=(Below.refl w.heap.size w).alloc (Nat.le_refl _) (.cells #[.slice none 0 0] 28);have HB:=Hh hb;have HN:=Hh (h.below hb);have HL:=Hh hn;have HLL:=Hh hl;have HA:=Hh hA;have hgc:(w.alloc (.cells #[.slice none 0 0] 28)).heap[w.heap.size]?=some (.cells #[.slice none 0 0] 28):=heap_alloc_new w _;have HGC:=Hh hgc;have hlt:w.heap.size<(w.alloc (.cells #[.slice none 0 0] 28)).heap.size:=by simp
 have HLT:=Hh hlt;have t0:decide ((k:Int)<0)=false:=decide_eq_false (by omega);have t1:decide ((n:Int)<(k:Int))=false:=decide_eq_false (by omega);clear h hn hb hgc hlt hRR hi hz0 hz1 hz2 hA hl;go_enter Tryz.func46,Tryz.ntmps46;go_wp2_with (first
  | (go_at_call 42;go_loud (refine(zkP _ _ n l _ HN.out HL.out).mono ?_;rintro e w1 ⟨rfl,b1⟩;have HB1:=Hh b1;have HN1:=Hh (HN.out.below b1);clear b1;rw[HLL.out]))
  | (go_at_call 92;go_loud (refine(zjC _ _ n l k _ HN1.out HL.out HLL.out hn9 HA.out hk).mono ?_;rintro e w3 ⟨v2,cur,j,rfl,s1,s2,s3,s4,s5,s6⟩;obtain⟨A2,c2,hv2,hn2,_,hA2⟩:=s1.shape;have HV2:=Hh hv2;have HN2':=Hh hn2;have HO2:=Hh s1;have HCL:=Hh s2;have HJ:=Hh s3;have HJD:=Hh s4;have HCN':=Hh s5;have HB3:=Hh s6;clear hv2 hn2 hA2 s1 s2 s3 s4 s5 s6)))
 have hv2:=HV2.out;obtain⟨cn,hcn⟩:∃cn,cn=cur.length:=⟨_,rfl⟩;rw[←hcn] at hv2;subst hv2;have HCN:=Hh hcn;have hcn9:cn≤901329:=by have:=HCN'.out;have:=HL.out;omega
 have hc2:=HN2'.out.cap;rw[←hcn] at hc2;have HBW3:=Hh (HB.out.trans ((HB1.out.trans (HB3.out.mono HB1.out.size)).mono HB.out.size));have HGQ3:=Hh ((HB3.out.block w.heap.size (Nat.lt_of_lt_of_le HLT.out HB1.out.size)).trans ((HB1.out.block w.heap.size HLT.out).trans HGC.out));clear hcn;refine wp_region_noPanic ?_;refine wp_region_held (S:=fun _=>True) (by kernel_rfl) ?_;obtain⟨W0,hW0⟩:∃W0:World,W0=w3.drew:=⟨_,rfl⟩;have HN2:=Hh (show Ns W0 A2 c2 cur by rw[hW0];exact HN2'.out.drew);have HBW:=Hh (show Below w.heap.size w W0 by rw[hW0];exact Below.drew HBW3.out);have HGQ:=Hh (show W0.heap[w.heap.size]?=some (.cells #[.slice none 0 0] 28) by rw[hW0];exact HGQ3.out);have HLQ:=Hh (show w.heap.size<W0.heap.size from(Array.getElem?_eq_some_iff.1 HGQ.out).1);have HA2:=Hh (show ∀a,A2=some a→a.block<W0.heap.size from fun a ea=>by rw[hW0];exact(HO2.out.lt a.block (by rw[ea];rfl)).2);have HLV:=Hh (show 0<j→(at_ cur (j-1)).lv≤((1329:Nat):Int) from fun h0=>(zaq (zaf HCL.out (by have:=HJ.out;omega))).2);have B0:=Hh (Below.refl W0.heap.size W0);have e0:IntKind.i64.wrap ((cn:Int)+1)=(cn:Int)+1:=IntWalk.i64_in _ (by omega);change wpAnyH _ _ _ _ _ _ _ _ w3.drew;rw[←hW0];clear hW0;refine Tk1 (v:=?_) 0 trivial ?_ ?_;rotate_left
 ·rintro w' _;go_simp;first|done|with_reducible rfl|rfl
 simp only[Act.put,LA];refine Tk1 (v:=?_) 1 trivial ?_ ?_;rotate_left
 ·rintro w' _;go_simp;first|done|with_reducible rfl|rfl
 simp only[Act.put,LA];refine Tk1 (v:=?_) 3 trivial ?_ ?_;rotate_left
 ·rintro w' _;go_simp;first|done|with_reducible rfl|rfl
 simp only[Act.put,LA];refine Tk1 (v:=?_) 4 trivial ?_ ?_;rotate_left
 ·rintro w' _;go_simp;first|done|with_reducible rfl|rfl
 simp only[Act.put,LA];refine Tk1 (v:=?_) 5 trivial ?_ ?_;rotate_left
 ·rintro w' _;go_simp;first|done|with_reducible rfl|rfl
 simp only[Act.put,LA];refine Tk1 (v:=?_) 6 trivial ?_ ?_;rotate_left
 ·rintro w' _;go_simp;first|done|with_reducible rfl|rfl
 simp only[Act.put,LA];refine Rd2 2 7 (fun K hK=>?_) fun K hK=>?_
 ·go_simp;refine(zcB A2 c2 cn cur _ (HN2.out.below B0.out) HCN.out.symm HCL.out (by omega)).mono ?_;rintro e W4 ⟨E,rfl,x1,x2,x3,x4⟩;dsimp only;have B4:=Hh (B0.out.trans (x4.mono B0.out.size));have HE1:=Hh x1;have HE3:=Hh x3;have HE4:=Hh x4;have HE2:=Hh x2;refine hK.out _ _ trivial (fun _=>?_);clear hK K x1 x2 x3 x4;refine Rd1 7 fun K hK=>?_;rw[if_pos (by rfl)];refine zcU (.tmp 38) (.tmp 38) 99 rfl W0.heap.size 3 i0 _ 1 Tryz.underlying99 HI.out.1 HI.out.2.1 HI.out.2.2.1 .i64 .i64 _ _ (cn+1) rfl rfl (by omega) (by omega) (by rw[HI.out.2.2.2];omega) (by unfold maxLen;omega) B4.out.size ?_;intro W5 own grow;simp only[Act.put,LA];have B5:=Hh (B4.out.grown grow B4.out.size (fun k hk=>by cases hk));have OD:=Hh (OwnD.made own);have GR:=Hh grow;refine hK.out _ _ trivial (fun _=>?_);clear hK K own grow;have HEG:=Hh (show E≠W4.heap.size by have:=HE2.out;omega);have HGB:=Hh (show W0.heap.size≤W4.heap.size from B4.out.size);have HEC:=Hh (show ∀i,i≤cn→W5.cell? ⟨E,i,none⟩=some (.bool (empB cur i)) from fun i hi=>(World.cell?_of_block (w:=W4) (GR.out.block E HE2.out (by simp))).trans (HE3.out i hi));have HNV:=Hh (HN2.out.below B5.out);have hsz:=B5.out.size;refine Rd1 8 fun K hK=>?_;go_simp;refine(zgN A2 c2 cn E W0.heap.size _ cur HCL.out HCN.out.symm (by omega) HA2.out HEG.out HGB.out 1329 j [] (List.replicate (cn+1) 0) (.slice none 0 0) _ (by rw[HCN.out];exact HJ.out) HLV.out (zjv _) (zrD _ _) HNV.out HEC.out (zfT _ _) OD.out (by simp[Value.ownBlock]) (by simp[Value.ownBlock]) hsz).mono ?_;rintro e W7 ⟨v7,ds7,rfl,z1,z2,z3,z4,z5,z6⟩;dsimp only;obtain⟨A7,c7,hv7,hn7,hA7,hA7b⟩:=z1.shape;have hA7bb:=Hh hA7b;clear hA7b;obtain⟨qn,hqn⟩:∃qn,qn=(enc (den cur j) []).1.length:=⟨_,rfl⟩;rw[←hqn] at hv7;subst hv7;have HQN:=Hh hqn;have B7:=Hh (B5.out.trans (z6.to hsz (fun k hk=>by
   rcases hk with h|h
   ·subst h;exact HGB.out
   ·simp[Value.ownBlock] at h)))
  have HN7:=Hh hn7;have HA7:=Hh hA7;refine hK.out _ _ trivial (fun _=>?_);clear hK K z1 z2 z3 z4 z5 z6 hn7 hA7 hqn;refine Tk1 (v:=?_) 9 trivial ?_ ?_;rotate_left
  ·rintro w' _;go_simp;first|done|with_reducible rfl|rfl
  simp only[Act.put,LA];refine Tk1 (v:=?_) 10 trivial ?_ ?_;rotate_left
  ·rintro w' _;go_simp;first|done|with_reducible rfl|rfl
  simp only[Act.put,LA];refine Tk1 (v:=?_) 11 trivial ?_ ?_;rotate_left
  ·rintro w' _;go_simp;first|done|with_reducible rfl|rfl
  simp only[Act.put,LA];refine Tk1 (v:=?_) 12 trivial ?_ ?_;rotate_left
  ·rintro w' _;go_simp;first|done|with_reducible rfl|rfl
  simp only[Act.put,LA];refine Tk1 (v:=?_) 13 trivial ?_ ?_;rotate_left
  ·rintro w' _;go_simp;first|done|with_reducible rfl|rfl
  simp only[Act.put,LA];refine Tk1 (v:=?_) 14 trivial ?_ ?_;rotate_left
  ·rintro w' _;go_simp;first|done|with_reducible rfl|rfl
  simp only[Act.put,LA];refine Tk1 (v:=?_) 15 trivial ?_ ?_;rotate_left
  ·rintro w' _;go_simp;first|done|with_reducible rfl|rfl
  simp only[Act.put,LA];refine wpAnyH_done (by kernel_rfl) ?_ _;refine NoPanic.normal ?_;have hc7:=(B7.out.block _ HLQ.out).trans HGQ.out;have cg:=zab hc7;have fg:=zbz hc7;clear hc7;go_wp2_with fail;have e1:=World.cell?_setCell_same _ _ (.slice A7 qn c7) cg;refine bodyPost_ret (v:=.tuple #[.agg #[.slice A7 qn c7],.int .i64 0]) (by simp[results,Tryz.results46,go_sem,e1]) rfl ?_;rw[HR.out];have hq7:(enc (den cur j) []).1=ofQ l (k:Int):=by rw[HJD.out,HQ.out.1];rfl
  have hqn:=HQN.out;rw[hq7] at hqn HN7;have hA7b:=hA7bb.out;refine⟨A7,c7,?_,?_,HA7.out,(HBW.out.trans (B7.out.mono HBW.out.size)).setCell (Nat.le_refl _) _⟩
  ·rw[HQ.out.2,hqn]
  ·exact HN7.out.gbr (zbu _ _ _) (fun a ea e=>by have h1:=hA7b a ea;have h2:=HLQ.out;have h3:a.block=w.heap.size:=Option.some.inj e;omega)
 ·rw[if_pos (by rfl)];refine zcU (.tmp 38) (.tmp 38) 99 rfl W0.heap.size 3 i0 _ 1 Tryz.underlying99 HI.out.1 HI.out.2.1 HI.out.2.2.1 .i64 .i64 _ _ (cn+1) rfl rfl (by omega) (by omega) (by rw[HI.out.2.2.2];omega) (by unfold maxLen;omega) B0.out.size ?_;intro W4 own grow;simp only[Act.put,LA];have B4:=Hh (B0.out.grown grow B0.out.size (fun k hk=>by cases hk));have OD:=Hh (OwnD.made own);have GR:=Hh grow;refine hK.out _ _ trivial (fun _=>?_);clear hK K own grow;refine Rd1 2 fun K hK=>?_;go_simp;refine(zcB A2 c2 cn cur _ (HN2.out.below B4.out) HCN.out.symm HCL.out (by omega)).mono ?_;rintro e W5 ⟨E,rfl,x1,x2,x3,x4⟩;dsimp only;have B5:=Hh (B4.out.trans (x4.mono B4.out.size));have HE1:=Hh x1;have HE3:=Hh x3;have HE4:=Hh x4;have HE2:=Hh x2;refine hK.out _ _ trivial (fun _=>?_);clear hK K x1 x2 x3 x4;have HEG:=Hh (show E≠W0.heap.size by have:=HE1.out;have:=OD.out.lt.2;omega);have HGB:=Hh (Nat.le_refl W0.heap.size);have HEC:=Hh HE3.out;have OD:=Hh (show OwnD W5 W0.heap.size W0.heap.size (cn+1) (List.replicate (cn+1) 0) from OD.out.gbr (row:=none) ⟨HE4.out.os,HE4.out.tape,HE4.out.output,HE4.out.size,fun i hi _=>HE4.out.block i hi⟩ (by simp));have HNV:=Hh (HN2.out.below B5.out);have hsz:=B5.out.size;refine Rd1 8 fun K hK=>?_;go_simp;refine(zgN A2 c2 cn E W0.heap.size _ cur HCL.out HCN.out.symm (by omega) HA2.out HEG.out HGB.out 1329 j [] (List.replicate (cn+1) 0) (.slice none 0 0) _ (by rw[HCN.out];exact HJ.out) HLV.out (zjv _) (zrD _ _) HNV.out HEC.out (zfT _ _) OD.out (by simp[Value.ownBlock]) (by simp[Value.ownBlock]) hsz).mono ?_;rintro e W7 ⟨v7,ds7,rfl,z1,z2,z3,z4,z5,z6⟩;dsimp only;obtain⟨A7,c7,hv7,hn7,hA7,hA7b⟩:=z1.shape;have hA7bb:=Hh hA7b;clear hA7b;obtain⟨qn,hqn⟩:∃qn,qn=(enc (den cur j) []).1.length:=⟨_,rfl⟩;rw[←hqn] at hv7;subst hv7;have HQN:=Hh hqn;have B7:=Hh (B5.out.trans (z6.to hsz (fun k hk=>by
   rcases hk with h|h
   ·subst h;exact HGB.out
   ·simp[Value.ownBlock] at h)))
  have HN7:=Hh hn7;have HA7:=Hh hA7;refine hK.out _ _ trivial (fun _=>?_);clear hK K z1 z2 z3 z4 z5 z6 hn7 hA7 hqn;refine Tk1 (v:=?_) 9 trivial ?_ ?_;rotate_left
  ·rintro w' _;go_simp;first|done|with_reducible rfl|rfl
  simp only[Act.put,LA];refine Tk1 (v:=?_) 10 trivial ?_ ?_;rotate_left
  ·rintro w' _;go_simp;first|done|with_reducible rfl|rfl
  simp only[Act.put,LA];refine Tk1 (v:=?_) 11 trivial ?_ ?_;rotate_left
  ·rintro w' _;go_simp;first|done|with_reducible rfl|rfl
  simp only[Act.put,LA];refine Tk1 (v:=?_) 12 trivial ?_ ?_;rotate_left
  ·rintro w' _;go_simp;first|done|with_reducible rfl|rfl
  simp only[Act.put,LA];refine Tk1 (v:=?_) 13 trivial ?_ ?_;rotate_left
  ·rintro w' _;go_simp;first|done|with_reducible rfl|rfl
  simp only[Act.put,LA];refine Tk1 (v:=?_) 14 trivial ?_ ?_;rotate_left
  ·rintro w' _;go_simp;first|done|with_reducible rfl|rfl
  simp only[Act.put,LA];refine Tk1 (v:=?_) 15 trivial ?_ ?_;rotate_left
  ·rintro w' _;go_simp;first|done|with_reducible rfl|rfl
  simp only[Act.put,LA];refine wpAnyH_done (by kernel_rfl) ?_ _;refine NoPanic.normal ?_;have hc7:=(B7.out.block _ HLQ.out).trans HGQ.out;have cg:=zab hc7;have fg:=zbz hc7;clear hc7;go_wp2_with fail;have e1:=World.cell?_setCell_same _ _ (.slice A7 qn c7) cg;refine bodyPost_ret (v:=.tuple #[.agg #[.slice A7 qn c7],.int .i64 0]) (by simp[results,Tryz.results46,go_sem,e1]) rfl ?_;rw[HR.out];have hq7:(enc (den cur j) []).1=ofQ l (k:Int):=by rw[HJD.out,HQ.out.1];rfl
  have hqn:=HQN.out;rw[hq7] at hqn HN7;have hA7b:=hA7bb.out;refine⟨A7,c7,?_,?_,HA7.out,(HBW.out.trans (B7.out.mono HBW.out.size)).setCell (Nat.le_refl _) _⟩
  ·rw[HQ.out.2,hqn]
  ·exact HN7.out.gbr (zbu _ _ _) (fun a ea e=>by have h1:=hA7b a ea;have h2:=HLQ.out;have h3:a.block=w.heap.size:=Option.some.inj e;omega)
theorem zsA (A:Option Addr)(c n:Nat)(l:List Nd)(k:Int)(w:World)(h:Ns w A c l)(hn:l.length=n)(hn9:n≤900000)(hA:A=none→c=0) :
  Calls Tryz.prog 46 #[.slice A n c,.int .i64 k] w (RetO l k w):=by
 cases hl:zac l with
 | false=>exact zrC A c n l k w h hn (.inl hl)
 | true =>
  by_cases hk:0≤k∧k≤(n:Int)
  ·obtain⟨j,rfl⟩:∃j:Nat,k=j:=⟨k.toNat,by omega⟩;exact zsz A c n j l w h hn hn9 hl (by omega) hA
  ·exact zrC A c n l k w h hn (.inr (by omega))
end Go.Proofs.YtfjajpnfjjdnpaaGreatDoor
