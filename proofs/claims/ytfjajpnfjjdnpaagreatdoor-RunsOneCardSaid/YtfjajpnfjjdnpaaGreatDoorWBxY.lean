import Derived.Test.YtfjajpnfjjdnpaaGreatDoorWBxG

set_option linter.unusedVariables false
set_option linter.unusedSimpArgs false
set_option maxRecDepth 100000
set_option maxHeartbeats 6400000
namespace Go.Proofs.YtfjajpnfjjdnpaaGreatDoor
open Go.RowKit Num Nds
theorem zfj {W:World}{g:Nat}{a b:Value}{t:TypeId}(h:W.heap[g]?=some (.cells #[a,b] t)):∀k,k<2→W.cell? ⟨g,k,none⟩=some (if k=0 then a else b):=by
 intro k hk;rw[cell_of_row W g _ _ _ (0,0) h]
 match k,hk with
 | 0,_=>rfl
 | 1,_=>rfl
theorem Bw.B.over {u:Bw}{W W1:World}{g gr:Nat}{X:Int}(h:u.B W g X)(hne:g≠gr)(ho:∀o v,W.cell? ⟨gr,o,none⟩=some v→∀k,v≠.int .u32 k)(hk:W.grownBy W1 (some gr)):u.B W1 g X :=
 ⟨(hk.block g h.lt (fun e=>by have:=Option.some.inj e;omega)).trans h.box,zcF h.r.us (fun q h1 h2=>hk.block q h1 (fun e=>h2 (by cases e;rfl))) hk.size (zdS h.r.us ho),h.r.cn,h.r.v⟩
theorem zfY {W:World}{p:Addr}{v a b:Value}{g k j:Nat}(hne:p.block≠g)(h:W.cell? p=some v):((W.setCell ⟨g,k,none⟩ a).setCell ⟨g,j,none⟩ b).cell? p=some v :=
 (World.cell?_of_block ((Below.heap_setCell _ _ _ _ hne).trans (Below.heap_setCell _ _ _ _ hne))).trans h
def zvG (l:List Nd)(ax e n:Nat)(w:World)(en:Ending)(w':World):Prop:=∃gr L F,en=.returned (.slice (some ⟨gr,0,none⟩) (n+1) (n+1))∧EgW w n l ax e gr L F n false 0 w'
theorem znJ (ax e n c:Nat)(A:Option Addr)(l:List Nd)(w:World)(h:Ns w A c l)(hn:l.length=n)(hn9:n≤900000)(hg:zaq l)(he:e≤1) :
  Calls Tryz.prog 112 #[.slice A n c,.agg #[.int .i64 (kk ax e 0:Nat),.int .i64 (kk ax e 1:Nat)],.agg #[.int .i64 (kk ax e 2:Nat),.int .i64 (kk ax e 3:Nat)]] w (zvG l ax e n w):=by
 have hcap:=h.cap;rw[hn] at hcap;obtain⟨i0,hi,hz0,hz1,hz2⟩:=info_parts Tryz.infoG;have HI:=Hh (And.intro hi (And.intro hz0 (And.intro hz1 hz2)));have ha:=heap_alloc_new w (.cells #[.int .i64 (kk ax e 0:Nat),.int .i64 (kk ax e 1:Nat)] 158);have hb:=heap_alloc_new (w.alloc (.cells #[.int .i64 (kk ax e 0:Nat),.int .i64 (kk ax e 1:Nat)] 158)) (.cells #[.int .i64 (kk ax e 2:Nat),.int .i64 (kk ax e 3:Nat)] 158);rw[World.size_alloc] at hb;have b1:=(Below.refl w.heap.size w).alloc (Nat.le_refl _) (.cells #[.int .i64 (kk ax e 0:Nat),.int .i64 (kk ax e 1:Nat)] 158);have b2:=b1.alloc (by simp) (.cells #[.int .i64 (kk ax e 2:Nat),.int .i64 (kk ax e 3:Nat)] 158);have ha2:=(((Below.refl (w.heap.size+1) (w.alloc (.cells #[.int .i64 (kk ax e 0:Nat),.int .i64 (kk ax e 1:Nat)] 158))).alloc (by simp) (.cells #[.int .i64 (kk ax e 2:Nat),.int .i64 (kk ax e 3:Nat)] 158)).block w.heap.size (by omega)).trans ha;have HA:=Hh ha2;have HB:=Hh hb;have HBB:=Hh b2;have HN:=Hh h;have HL:=Hh hn;have HG:=Hh hg;clear h hn hg hi hz0 hz1 hz2 ha hb ha2 b1 b2;go_enter Tryz.func112,Tryz.ntmps112;go_wp2_with (first
  | (at_make;go_loud (refine wpList_make_full _ rfl _ _ 156 rfl (w.heap.size+2) 48 i0 _ 2 Tryz.underlying156 HI.out.1 HI.out.2.1 HI.out.2.2.1 .i64 .i64 _ _ (n+1) rfl rfl (by omega) (by omega) (by rw[HI.out.2.2.2];omega) (by unfold maxLen;omega) (by simp) ?_;intro w0 hown0 hgrow0;have S0:=Hh (show EgW w n l ax e _ (List.replicate (n+1) gv0) (fun _=>0) 0 false 0 w0 from⟨HBB.out.grown hgrow0 (by simp;omega) (fun k hk=>by cases hk),(hgrow0.block _ (by simp;omega) (fun k=>by cases k)).trans HA.out,(hgrow0.block _ (by simp) (fun k=>by cases k)).trans HB.out,OwnG.made hown0,fun j hj=>by omega,fun k=>by cases k⟩);clear hown0 hgrow0)))
 rw[World.size_alloc,World.size_alloc] at S0;obtain⟨gr,hgr⟩:∃g,g=w.heap.size+1+1:=⟨_,rfl⟩;have HGR:=Hh hgr;rw[←hgr] at S0 ⊢;clear hgr;go_loopw [8] (fun z wr=>∃(i:Nat) (L:List Gv) (F:Nat→Int),i≤n∧z=.int .i64 i∧EgW w n l ax e gr L F i false 0 wr) (fun z _=>n-(intOf z).toNat)
 case atStart=>exact⟨0,_,_,Nat.zero_le _,rfl,S0.out⟩
 case round =>
  obtain⟨i,L,F,hin,rfl,R⟩:=hrel;have RR:=Hh R;clear R;by_cases hlt:i<n
  ·have i1:(i:Int)<(n:Int):=by omega
   have i2:(0:Int)≤(i:Int):=by omega
   have t1:decide ((i:Int)<(n:Int))=true:=decide_eq_true i1;obtain⟨b,off,rfl,hbl,hcl⟩:=HN.out.at_ (by rw[HL.out];omega)
   have HC:=Hh (show NdAt w b (off+i*5) (at_ l i) from hcl i (by rw[HL.out];omega));have HBL:=Hh hbl;have HLT:=Hh hlt;obtain⟨c1,-⟩:=HC.out.below (RR.out.b.block b hbl);obtain⟨m,hm⟩:∃m:Nat,(at_ l i).lv=(m:Int)+1:=⟨(at_ l i).lv.toNat-1,by have:=zap (zai.1 HG.out.1 i (by rw[HL.out];exact hlt));omega⟩;have hm9:m≤1328:=by have:=zap (zai.1 HG.out.1 i (by rw[HL.out];exact hlt));omega
   rw[hm] at c1;have HM:=Hh hm;have j1:IntKind.i64.wrap ((m:Int)+1-1)=(m:Int):=by rw[show(m:Int)+1-1=(m:Int) by omega];exact IntWalk.i64_in _ (by omega)
   have j2:IntKind.i64.wrap (m:Int)=(m:Int):=IntWalk.i64_in _ (by omega);have HP:=Hh (show shlI 1 (m:Int)=p2 m from zdT _ (by omega));clear hcl hlt hbl hm;go_wp2_with (go_at_call 109;go_loud (refine(zbL _ _).mono ?_;rintro e w5 h5;rw[HP.out] at h5;obtain⟨hh,rfl,rh,b5⟩:=zam h5;have RH:=Hh rh.box;have hs5:=b5.size;have hb9:=b5.alloc b5.size hh.obj;have R5:=Hh (RR.out.next hb9);have B5:=Hh hb9;clear h5 rh b5 hb9));obtain⟨g9,hg9⟩:∃g,g=w5.heap.size:=⟨_,rfl⟩;have hgg:g9≠gr:=by
    have h8:=RR.out.row.row.2.1;omega
   rw[←hg9] at RH ⊢;clear hs5 hg9 c1;go_loopw [11,10] (fun z z10 wi=>∃(j:Nat) (fd:Bool) (L:List Gv) (M:Int),j≤4∧z=.int .i64 j∧z10=.bool fd∧EgW w n l ax e gr L F i fd M wi∧EdJ ax e (at_ l i) (dF l ax e i m F) j fd M∧hh.B wi g9 (p2 m)∧0≤M∧M≤p2 (m+1)) (fun z _ _=>4-(intOf z).toNat)
   case atStart=>exact⟨0,false,L,0,by omega,rfl,rfl,R5.out,EdJ.start _ _ _ _ _,RH.out,by omega,by have:=zar (m+1);omega⟩
   case round =>
    obtain⟨j,fd,L,M,hj,rfl,rfl,R,hJ,hB,hM⟩:=hrel;have HMM:=Hh hM;have RI:=Hh R;have HJ:=Hh hJ;have HH:=Hh hB;clear R hJ hB hM;by_cases hlt:j<4
    ·have j0:(0:Int)≤(j:Int):=by omega
     have j00:(j:Int)<4:=by omega
     have t2:decide ((j:Int)<4)=true:=decide_eq_true j00;obtain⟨jm,hjm⟩:∃k,k=j%2:=⟨_,rfl⟩;have e1:(j:Int)%2=(jm:Int):=by omega
     have e2:Int.tmod (j:Int) 2=(jm:Int):=by rw[Int.tmod_eq_emod_of_nonneg j0];exact e1
     have e3:(0:Int)≤(jm:Int):=by omega
     have e4:(jm:Int)<2:=by omega
     have d1:=zfj RI.out.nb jm (by omega);have d2:=zfj RI.out.fb jm (by omega);have e5:(if jm=0 then Value.int .i64 (kk ax e 0:Nat) else Value.int .i64 (kk ax e 1:Nat))=Value.int .i64 (kk ax e jm:Nat):=by
      split
      ·rename_i h9;rw[h9]
      ·rename_i h9;rw[show jm=1 by omega]
     have e6:(if jm=0 then Value.int .i64 (kk ax e 2:Nat) else Value.int .i64 (kk ax e 3:Nat))=Value.int .i64 (kk ax e (jm+2):Nat):=by
      split
      ·rename_i h9;rw[h9]
      ·rename_i h9;rw[show jm=1 by omega]
     rw[e5] at d1;rw[e6] at d2;have HJM:=Hh hjm;have c0:=HH.out.c0;have c1:=HH.out.c1;clear e5 e6 hjm;obtain⟨tj,htj⟩:∃t,t=decide ((j:Int)>1):=⟨_,rfl⟩;have HTJ:=Hh htj;have t3:=htj.symm;clear htj;go_upto_if 43 with(fail)
     have bz:=(Below.refl wr.heap.size wr).alloc (Nat.le_refl _) bw0.obj;have hz:=heap_alloc_new wr bw0.obj;dsimp only[bw0,Bw.obj,List.length_nil] at bz hz;obtain⟨W1,hW1⟩:∃W1:World,W1=wr.alloc (.cells #[.bool false,.slice none 0 0] 48):=⟨_,rfl⟩;rw[←hW1] at bz hz ⊢;obtain⟨g13,hg13⟩:∃g,g=wr.heap.size:=⟨_,rfl⟩;rw[←hg13] at hz ⊢;have hne:¬ g9=g13:=by have:=HH.out.lt;omega
     have H1:=Hh (HH.out.next bz);have R1:=Hh (RI.out.next bz);have BZ:=Hh bz;have HZ:=Hh (show W1.heap[g13]?=some bw0.obj from hz);have HG13:=Hh hg13;clear bz hz hW1 hg13 d1 d2 c0 c1;go_cut [12] from 44 to 48 (fun s12 wx=>s12=.int .i64 (kk ax e j:Nat)∧∃mo:Bw,mo.B wx g13 (if j<2 then 0 else p2 m)∧Below wr.heap.size wr wx)
     case first =>
      by_cases hj2:j<2
      ·have hkj:kk ax e jm=kk ax e j:=by rw[HJM.out,show j%2=j by omega]
       have htf:tj=false:=by rw[HTJ.out];exact decide_eq_false (by omega)
       subst htf;have HKJ:=Hh hkj;have HJ2:=Hh hj2;clear hkj hj2;go_wp2_with fail;go_meet;exact⟨by rw[HKJ.out],bw0,by rw[if_pos HJ2.out];exact⟨HZ.out,Us.nil _,⟨zbh,by simp[bw0]⟩,rfl⟩,BZ.out⟩
      ·have hkj:kk ax e (jm+2)=kk ax e j:=by rw[HJM.out,show j%2+2=j by omega]
       have htf:tj=true:=by rw[HTJ.out];exact decide_eq_true (by omega)
       subst htf;have d2:=zfj R1.out.fb jm (by omega);have e6:(if jm=0 then Value.int .i64 (kk ax e 2:Nat) else Value.int .i64 (kk ax e 3:Nat))=Value.int .i64 (kk ax e j:Nat):=by
        rw[←hkj];split
        ·rename_i h9;rw[h9]
        ·rename_i h9;rw[show jm=1 by omega]
       rw[e6] at d2;have c0:=H1.out.c0;have c1:=H1.out.c1;obtain⟨z0,z1,f0,f1⟩:=zdF HZ.out;have HJ2:=Hh hj2;clear hkj hj2 e6;go_wp2_with fail;go_region;go_wp2_with fail;go_meet;have hst:=H1.out.r.set (o:=bw0) HZ.out;have hg13:=HG13.out;exact⟨rfl,hh,by rw[if_neg HJ2.out];exact hst.next (zaa (Below.refl _ _) 1),zaa ((BZ.out.setCell (p:=⟨g13,0,none⟩) (by show _≤g13;omega) _).setCell (p:=⟨g13,1,none⟩) (by show _≤g13;omega) _) 1⟩
     case rest =>
      obtain⟨rfl,mo,hmo,hbx⟩:=hcut;have R2:=Hh (RI.out.next hbx);have H2:=Hh (HH.out.next hbx);have HMO:=Hh hmo;have hk4:=zvD (ax:=ax) he hlt;have HK4:=Hh hk4;have hpen:=Hh (zvF (ax:=ax) (m:=m) he hlt);have hnd:=HC.out.below (R2.out.b.block b HBL.out);have hkid:=hnd.kid hk4;obtain⟨v1,-⟩:=hnd;rw[HM.out] at v1;obtain⟨kx,hkx⟩:∃k,k=kk ax e j:=⟨_,rfl⟩;rw[←hkx] at hk4 hkid;rw[←hkx];have HKX:=Hh hkx;have hy9:0≤(at_ l i).kid kx:=by
       have hfk:=zaj (zai.1 HG.out.1 i (by rw[HL.out];exact HLT.out)) hk4;by_cases h1:(at_ l i).lv=1
       ·rw[h1,zei] at hfk;exact(of_decide_eq_true hfk).1
       ·rcases zaA h1 hfk with h9|⟨p,h9,-⟩ <;> omega
      obtain⟨pp,hy⟩:∃pp:Nat,(pp:Int)=(at_ l i).kid kx:=⟨_,Int.toNat_of_nonneg hy9⟩;rw[←hy] at hkid;have HY:=Hh hy;have k0:(0:Int)≤(kx:Int):=by omega
      have k1:(kx:Int)<4:=by omega
      have q0:=HMO.out.c0;have q1:=HMO.out.c1;clear hkx hy hmo hbx hk4 t3 HTJ hy9;by_cases hy0:pp=0
      ·subst hy0;have HS:=Hh (HJ.out.skip (by rw[←HKX.out,←HY.out];rfl));go_wp2_with fail;go_roundw
       case rel=>exact⟨j+1,fd,L,M,by omega,by go_num,rfl,R2.out,HS.out,H2.out,HMM.out⟩
       case measure=>simp[intOf];omega
      ·have t4:((pp:Int)==0)=false:=beq_eq_false_iff_ne.2 (by omega);have HY0:=Hh hy0;clear hy0;obtain⟨tm,htm⟩:∃t,t=decide ((m:Int)+1>1):=⟨_,rfl⟩;have HTM:=Hh htm;have t5:=htm.symm;clear htm;have bm:=(Below.refl wc.heap.size wc).alloc (Nat.le_refl _) mo.obj;have v2:=((bm.cell (p:=⟨b,off+i*5,none⟩) (zao v1)).trans v1);dsimp only[Bw.obj] at v2;go_upto_if 64 with(fail)
       obtain⟨W2,hW2⟩:∃W:World,W=wc.alloc mo.obj:=⟨_,rfl⟩;obtain⟨g15,hg15⟩:∃g,g=wc.heap.size:=⟨_,rfl⟩;rw[←hW2] at bm;have HD:=Hh (show mo.B W2 g15 (if j<2 then 0 else p2 m) by rw[hW2,hg15];exact HMO.out.r.box);dsimp only[Bw.obj] at hW2;rw[←hg15,←hW2];have BM:=Hh bm;have R3:=Hh (R2.out.next bm);have H3:=Hh (H2.out.next bm);have M3:=Hh (HMO.out.next bm);have HG15:=Hh hg15;have hne3:¬ g13=g15:=by have:=HMO.out.lt;omega
       have hne4:¬ gr=g15:=by have:=R2.out.row.row.2.1;omega
       have hne5:¬ g9=g15:=by have:=H2.out.lt;omega
       clear hW2 hg15 v1 v2 bm q0 q1 hkid;go_cut [] from 65 to 70 (fun wx=>∃dd:Bw,dd.B wx g15 (dF l ax e i m F kx)∧Below wc.heap.size wc wx∧0≤dF l ax e i m F kx∧dF l ax e i m F kx≤p2 (m+1))
       case first =>
        by_cases hm0:m=0
        ·have htf:tm=false:=by rw[HTM.out];exact decide_eq_false (by omega)
         subst htf;have HM0:=Hh hm0;clear hm0;go_wp2_with fail;go_meet;exact⟨mo,by
          have h9:=HD.out;rw[←hpen.out,←HKX.out] at h9;unfold dF;rw[if_pos HM0.out,Int.zero_add];exact h9,BM.out,by
          have h9:=hpen.out;have h8:=zar m;have h7:=zau m;rw[←HKX.out] at h9;unfold dF;rw[if_pos HM0.out,Int.zero_add,h9];split <;> omega⟩
        ·have htf:tm=true:=by rw[HTM.out];exact decide_eq_true (by omega)
         subst htf;obtain⟨p,hpp,hp,hpl⟩:∃p:Nat,pp=p+1∧p<i∧(at_ l p).lv=(m:Int):=by
          have hfk:=zaj (zai.1 HG.out.1 i (by rw[HL.out];exact HLT.out)) (show kx<4 by omega);rw[←HY.out] at hfk;rcases zaA (by have:=HM.out;omega) hfk with h9|⟨p,h1,h2,h3⟩
          ·exact absurd (by omega) HY0.out
          ·have h4:p<i:=by rw[List.length_take] at h2;omega
           refine⟨p,by omega,h4,?_⟩;rw[zcD h4] at h3;have:=HM.out;omega
         have hfin:=R3.out.fine p hp;rw[←hpp] at hfin;obtain⟨g2,hg2⟩:∃g,gat L pp=g:=⟨_,rfl⟩;rw[hg2] at hfin;obtain⟨hG2,hE2⟩:=hfin;have hlow:=hE2.low HG.out (by rw[HL.out];have:=HLT.out;omega) hpl;have hmm:=zaM (show m≤1330 by omega);have hm1:=zar m;have hm2:=zar 1330;have hl2:=zbn hG2.cn hG2.v (by omega) (by omega);have hl1:=zaY M3.out.r (by split <;> omega) (by split <;> omega);obtain⟨r0,r1⟩:=R3.out.row.row.2.2.1 pp (by have:=HLT.out;omega);rw[hg2] at r0 r1;have HG2:=Hh (show GIn W2.drew g2 (F p) from hG2.next (zaa (Below.refl _ W2) 1));have M3d:=Hh (show mo.B W2.drew g13 (if j<2 then 0 else p2 m) from M3.out.next (zaa (Below.refl _ W2) 1));have q0:=M3.out.c0;have q1:=M3.out.c1;have f2:(0:Int)≤(pp:Int):=by omega
         have f3:(pp:Int)<(n:Int)+1:=by have:=HLT.out;omega
         have HDF:=Hh (show dF l ax e i m F kx=(if j<2 then 0 else p2 m)+F p by
          have h9:=hpen.out;rw[←HKX.out] at h9;unfold dF;rw[if_neg hm0,h9,←HY.out,show((pp:Int)).toNat-1=p by omega,Int.add_comm])
         have HLO:=Hh hlow;clear hG2 hE2 hlow hm0 hpp hg2 hmm hm1 hm2;go_wp2_with fail;go_region_held3 (fun w'=>w'.cell? ⟨g13,0,none⟩=some (.bool mo.s)∧w'.cell? ⟨g13,1,none⟩=some (.slice mo.a mo.xs.length mo.c)∧w'.cell? ⟨gr,pp*2,none⟩=some (.bool g2.s)∧w'.cell? ⟨gr,pp*2+1,none⟩=some (.slice g2.a g2.xs.length g2.c))
          (first|go_keep|exact⟨q0,q1,r0,r1⟩|exact⟨zfY hne3 q0,zfY hne3 q1,zfY hne4 r0,zfY hne4 r1⟩)
          (first
           | (go_at_call 71;refine(zbj mo.s g2.s mo.a g2.a mo.c g2.c mo.xs g2.xs _ M3d.out.r.us HG2.out.us (by omega) (by omega)).mono ?_;rintro en w6 h6;obtain⟨dd,rfl,rd,b6⟩:=zam h6;rw[M3d.out.r.v,HG2.out.v] at rd;have RD:=Hh rd;have b7:=(zaa (Below.refl _ W2) 1).trans b6;have B6:=Hh b7;have hdb:=Hh ((b7.block _ (zag HD.out.box)).trans HD.out.box);obtain⟨z0,z1⟩:=zpG hdb.out;have z2:=frozen_of_row w6 g15 0 _ _ hdb.out;have z3:=frozen_of_row w6 g15 1 _ _ hdb.out;have q0:=(b7.cell (p:=⟨g13,0,none⟩) M3.out.lt).trans q0;have q1:=(b7.cell (p:=⟨g13,1,none⟩) M3.out.lt).trans q1;have r0:=(b7.cell (p:=⟨gr,pp*2,none⟩) (zao r0)).trans r0;have r1:=(b7.cell (p:=⟨gr,pp*2+1,none⟩) (zao r1)).trans r1;clear h6 rd b6 b7))
         all_goals
          go_wp2_with fail;go_meet;have hst:=RD.out.set (o:=mo) hdb.out;have hg15:=HG15.out;exact⟨dd,by rw[HDF.out];exact hst,(BM.out.trans (B6.out.mono BM.out.size)).setCell (p:=⟨g15,0,none⟩) (by show _≤g15;omega) _ |>.setCell (p:=⟨g15,1,none⟩) (by show _≤g15;omega) _,by rw[HDF.out];have:=HLO.out;have:=zau m;split <;> omega⟩
       case rest =>
        obtain⟨dd,hdd,hbx,hdl⟩:=hcut;have R4:=Hh (R2.out.next hbx);have H4:=Hh (H2.out.next hbx);have DD:=Hh hdd;have hnz:(at_ l i).kid (kk ax e j)≠0:=by rw[←HKX.out,←HY.out];have:=HY0.out;omega
        have HNZ:=Hh hnz;obtain⟨D,hD⟩:∃D,D=dF l ax e i m F kx:=⟨_,rfl⟩;rw[←hD] at DD hdl;have HDL:=Hh hdl;have HDE:=Hh hD;obtain⟨ip,hip⟩:∃q,q=i+1:=⟨_,rfl⟩;have f4:IntKind.i64.wrap ((i:Int)+1)=(ip:Int):=by rw[show(i:Int)+1=(ip:Int) by omega];exact IntWalk.i64_in _ (by have:=HLT.out;omega)
        have f5:(0:Int)≤(ip:Int):=by omega
        have f6:(ip:Int)<(n:Int)+1:=by have:=HLT.out;omega
        have f7:IntKind.i64.wrap (ip:Int)=(ip:Int):=IntWalk.i64_in _ (by have:=HLT.out;omega);have HIP:=Hh hip;have d0:=DD.out.c0;have d1:=DD.out.c1;obtain⟨r0,r1⟩:=R4.out.row.row.2.2.1 ip (by have:=HLT.out;omega);have rf:=R4.out.row.row.2.2.2.1;have rf0:=rf (ip*2);have rf1:=rf (ip*2+1);have hdc:=DD.out.r.us.cap;clear hdd hbx hnz hD hip hdl t5 HTM rf;cases fd with
        | false =>
         go_wp2_with fail;go_quiet (fail);have hbq:=zaa (Below.refl wc.heap.size wc) nq;obtain⟨W3,hW3⟩:∃W,W=wc.drewN nq:=⟨_,rfl⟩;rw[←hW3] at hbq ⊢;have R5:=Hh (R4.out.next hbq);have H5:=Hh (H4.out.next hbq);have D5:=Hh (DD.out.next hbq);clear d0 d1 r0 r1 rf0 rf1 hW3 hbq;have d0:=D5.out.c0;have d1:=D5.out.c1;obtain⟨r0,r1⟩:=R5.out.row.row.2.2.1 ip (by have:=HLT.out;omega);have rf0:=R5.out.row.row.2.2.2.1 (ip*2);have rf1:=R5.out.row.row.2.2.2.1 (ip*2+1);go_wp2_with fail;go_region;go_wp2_with fail;go_roundw
         case rel =>
          have hp:=R5.out.put HLT.out D5.out.r.us D5.out.r.cn D5.out.r.v;have hh2:=H5.out.over hgg R5.out.row.row.2.2.2.2 (ziU W3 gr ((i+1)*2) ((i+1)*2+1) (.bool dd.s) (.slice dd.a dd.xs.length dd.c));rw[←HIP.out] at hp hh2;refine⟨j+1,true,L.set ip ⟨dd.s,dd.a,dd.c,dd.xs⟩,D,by omega,by go_num,rfl,hp.next (zaa (Below.refl _ _) 1),?_,hh2.next (zaa (Below.refl _ _) 1),HDL.out⟩;have hj:=HJ.out.first HNZ.out
          rw[←HKX.out,←HDE.out] at hj;exact hj
         case measure=>simp[intOf];omega
        | true =>
         obtain⟨gi,hgi⟩:∃g,gat L ip=g:=⟨_,rfl⟩;have hG:=R4.out.now rfl;rw[←HIP.out,hgi] at hG;rw[hgi] at r0 r1;have hGd:=hG.next (zaa (Below.refl _ wc) 1);have hDd:=DD.out.next (zaa (Below.refl _ wc) 1);have mm1:=zaM (show m+1≤1330 by omega);have mm2:=zar 1330;have l1:dd.xs.length≤60000:=Nat.le_trans (zaY DD.out.r (by have:=HDL.out;omega) (by have:=HDL.out;omega)) (by omega);have l2:gi.xs.length≤60000:=Nat.le_trans (zbn hG.cn hG.v (by have:=HMM.out;omega) (by have:=HMM.out;omega)) (by omega);have HGI:=Hh hGd;have HDI:=Hh hDd;obtain⟨r,hr⟩:∃r,r=ordI D M:=⟨_,rfl⟩;have er:decide (ordI D M<0)=decide (D<M):=zgD;rw[←hr] at er;have HR:=Hh hr;have HER:=Hh er;have R4d:=Hh (R4.out.next (zaa (Below.refl _ wc) 1));have H4d:=Hh (H4.out.next (zaa (Below.refl _ wc) 1));clear hr er hG hGd hDd hgi mm1 mm2;by_cases hlt2:D<M
         ·have t6:decide (r<0)=true:=by rw[HER.out];exact decide_eq_true hlt2
          have HLT2:=Hh hlt2;clear hlt2;go_wp2_with fail;go_region_held3 (fun w'=>w'.cell? ⟨g15,0,none⟩=some (.bool dd.s)∧w'.cell? ⟨g15,1,none⟩=some (.slice dd.a dd.xs.length dd.c)∧w'.cell? ⟨gr,ip*2,none⟩=some (.bool gi.s)∧w'.cell? ⟨gr,ip*2+1,none⟩=some (.slice gi.a gi.xs.length gi.c))
           (first|go_keep|exact⟨d0,d1,r0,r1⟩)
           (first
            | (go_at_call 106;refine(zaf dd.s gi.s dd.a gi.a dd.c gi.c dd.xs gi.xs _ HDI.out.r.us HGI.out.us l1 l2).mono ?_;rintro en W3 ⟨rfl,b7⟩;rw[HDI.out.r.v,HGI.out.v,←HR.out];have R5:=Hh (R4d.out.next b7);have H5:=Hh (H4d.out.next b7);have D5:=Hh (HDI.out.next b7);have d0:=D5.out.c0;have d1:=D5.out.c1;have r0:=(b7.cell (p:=⟨gr,ip*2,none⟩) (zao r0)).trans r0;have r1:=(b7.cell (p:=⟨gr,ip*2+1,none⟩) (zao r1)).trans r1;have rf0:=R5.out.row.row.2.2.2.1 (ip*2);have rf1:=R5.out.row.row.2.2.2.1 (ip*2+1);clear b7))
          all_goals
           go_wp2_with fail;go_region;go_wp2_with fail;go_roundw
           case rel =>
            have hp:=R5.out.put HLT.out D5.out.r.us D5.out.r.cn D5.out.r.v;have hh2:=H5.out.over hgg R5.out.row.row.2.2.2.2 (ziU W3 gr ((i+1)*2) ((i+1)*2+1) (.bool dd.s) (.slice dd.a dd.xs.length dd.c));rw[←HIP.out] at hp hh2;refine⟨j+1,true,L.set ip ⟨dd.s,dd.a,dd.c,dd.xs⟩,D,by omega,by go_num,rfl,hp.next (zaa (Below.refl _ _) 1),?_,hh2.next (zaa (Below.refl _ _) 1),HDL.out⟩;have hj:=HJ.out.less HNZ.out (by rw[←HKX.out,←HDE.out];exact HLT2.out);rw[←HKX.out,←HDE.out] at hj;exact hj
           case measure=>simp[intOf];omega
         ·have t6:decide (r<0)=false:=by rw[HER.out];exact decide_eq_false hlt2
          have HLT2:=Hh (show ¬ D<M from hlt2);clear hlt2;go_wp2_with fail;go_region_held3 (fun w'=>w'.cell? ⟨g15,0,none⟩=some (.bool dd.s)∧w'.cell? ⟨g15,1,none⟩=some (.slice dd.a dd.xs.length dd.c)∧w'.cell? ⟨gr,ip*2,none⟩=some (.bool gi.s)∧w'.cell? ⟨gr,ip*2+1,none⟩=some (.slice gi.a gi.xs.length gi.c))
           (first|go_keep|exact⟨d0,d1,r0,r1⟩)
           (first
            | (go_at_call 106;refine(zaf dd.s gi.s dd.a gi.a dd.c gi.c dd.xs gi.xs _ HDI.out.r.us HGI.out.us l1 l2).mono ?_;rintro en W3 ⟨rfl,b7⟩;rw[HDI.out.r.v,HGI.out.v,←HR.out];have R5:=Hh (R4d.out.next b7);have H5:=Hh (H4d.out.next b7);have d0:=(b7.cell (p:=⟨g15,0,none⟩) (zao d0)).trans d0;have d1:=(b7.cell (p:=⟨g15,1,none⟩) (zao d1)).trans d1;have r0:=(b7.cell (p:=⟨gr,ip*2,none⟩) (zao r0)).trans r0;have r1:=(b7.cell (p:=⟨gr,ip*2+1,none⟩) (zao r1)).trans r1;clear b7))
          all_goals
           go_wp2_with fail;go_roundw
           case rel=>exact⟨j+1,true,L,M,by omega,by go_num,rfl,R5.out,HJ.out.more (by rw[←HKX.out,←HDE.out];have:=HLT2.out;omega),H5.out,HMM.out⟩
           case measure=>simp[intOf];omega
    ·have hj4:j=4:=by omega
     subst hj4;go_wp2_with fail;go_roundw
     case rel =>
      obtain⟨hf,hE⟩:=HJ.out.done HG.out he (by rw[HL.out];exact HLT.out) HM.out (fun j hj=>(RI.out.fine j hj).2);subst hf;exact⟨i+1,L,_,by have:=HLT.out;omega,by go_num,RI.out.step hE⟩
     case measure=>simp[intOf];have:=HLT.out;omega
  ·have hi:i=n:=by omega
   subst hi;go_wp2_with fail;go_ret;exact⟨gr,L,F,rfl,RR.out⟩
theorem znK {l:List Nd}{ax e n:Nat}{w w':World}{en:Ending}(h:zvG l ax e n w en w')(h0:0<n) :
  ∃(gr:Nat) (u:Bw) (D:Int),en=.returned (.slice (some ⟨gr,0,none⟩) (n+1) (n+1))∧w'.cell? ⟨gr,n*2,none⟩=some (.bool u.s)∧w'.cell? ⟨gr,n*2+1,none⟩=some (.slice u.a u.xs.length u.c)∧u.R w' D∧EdS ax e (at_ l (n-1)).lv.toNat (fun u=>u=den l n) D∧Below w.heap.size w w':=by
 obtain⟨gr,L,F,rfl,h1⟩:=h;obtain⟨c0,c1⟩:=h1.row.row.2.2.1 n (by omega);obtain⟨hg,he⟩:=h1.fine (n-1) (by omega);rw[Nat.sub_add_cancel (by omega)] at hg;unfold IsE at he;rw[Nat.sub_add_cancel (by omega)] at he;exact⟨gr,⟨(gat L n).s,(gat L n).a,(gat L n).c,(gat L n).xs⟩,F (n-1),rfl,c0,c1,⟨hg.us,hg.cn,hg.v⟩,he,h1.b⟩
theorem zeF {ax e:Nat}(k0 k1 k2 k3:Int)(n c:Nat)(A:Option Addr)(l:List Nd)(w:World)(h:Ns w A c l)(hn:l.length=n)(h0:0<n)(hn9:n≤900000)(hg:zaq l)(he:e≤1)(hk:k0=(kk ax e 0:Nat)∧k1=(kk ax e 1:Nat)∧k2=(kk ax e 2:Nat)∧k3=(kk ax e 3:Nat)) :
  Calls Tryz.prog 112 #[.slice A n c,.agg #[.int .i64 k0,.int .i64 k1],.agg #[.int .i64 k2,.int .i64 k3]] w fun en w' =>
   ∃(gr:Nat) (u:Bw) (D:Int),en=.returned (.slice (some ⟨gr,0,none⟩) (n+1) (n+1))∧w'.cell? ⟨gr,n*2,none⟩=some (.bool u.s)∧w'.cell? ⟨gr,n*2+1,none⟩=some (.slice u.a u.xs.length u.c)∧u.R w' D∧EdS ax e (at_ l (n-1)).lv.toNat (fun u=>u=den l n) D∧Below w.heap.size w w':=by
 obtain⟨rfl,rfl,rfl,rfl⟩:=hk;exact(znJ ax e n c A l w h hn hn9 hg he).mono fun en w' hr=>znK hr h0
structure OgJ (w W:World)(A:Option Addr)(c n:Nat)(l:List Nd)(K:List (Nat × Bw × Int)):Prop where
 ag:Ag w W [(A,c,l)] [(w.heap.size,.slice A n c)] K
 r:W.heap[w.heap.size+1]?=some xb0.obj
theorem OgJ.step {w W W':World}{A:Option Addr}{c n:Nat}{l:List Nd}{K:List (Nat × Bw × Int)}(h:OgJ w W A c n l K)(k:Below W.heap.size W W'):OgJ w W' A c n l K:=⟨h.ag.step k,(k.block _ (zag h.r)).trans h.r⟩
theorem OgJ.add {w W:World}{A:Option Addr}{c n:Nat}{l:List Nd}{K:List (Nat × Bw × Int)}(h:OgJ w W A c n l K){u:Bw}{X:Int}(k:u.R W X):OgJ w (W.alloc (.cells #[.bool u.s,.slice u.a u.xs.length u.c] 48)) A c n l ((W.heap.size,u,X) :: K) :=
 ⟨h.ag.addK k,(Below.heap_alloc W _ _ (zag h.r)).trans h.r⟩
theorem OgJ.q {w W:World}{A:Option Addr}{c n:Nat}{l:List Nd}{K:List (Nat × Bw × Int)}(h:OgJ w W A c n l K):W.cell? ⟨w.heap.size,0,none⟩=some (.slice A n c):=h.ag.getB (by simp)
theorem OgJ.ns {w W:World}{A:Option Addr}{c n:Nat}{l:List Nd}{K:List (Nat × Bw × Int)}(h:OgJ w W A c n l K):Ns W A c l:=h.ag.getN (by simp)
theorem zqb (n c:Nat)(A:Option Addr)(l:List Nd)(w:World)(h:Ns w A c l)(hn:l.length=n)(h0:0<n)(hn9:n≤900000)(hg:zaq l) :
  Calls Tryz.prog 68 #[.agg #[.slice A n c]] w (znH l n w):=by
 have hcap:=h.cap;rw[hn] at hcap;have hlv:=zap (zad hg.1 (i:=n-1) (by omega));have hlz:zcs l=(at_ l (n-1)).lv:=by
  unfold zcs;rw[if_neg (fun e=>by rw[e] at hn;simp at hn;omega),hn]
 obtain⟨top,htop⟩:∃top:Nat,(at_ l (n-1)).lv=(top:Int):=⟨(at_ l (n-1)).lv.toNat,by omega⟩;rw[htop] at hlv hlz;have j0:OgJ w ((w.alloc (.cells #[.slice A n c] 28)).alloc xb0.obj) A c n l []:=by
  refine⟨(((Ag.start w).addN h).addB (.slice A n c)).alloc xb0.obj,?_⟩;have hr:=heap_alloc_new (w.alloc (.cells #[.slice A n c] 28)) xb0.obj
  rwa [World.size_alloc] at hr
 have J0:=Hh j0;have g0:=j0.q;have HNL:=Hh hn;have HG:=Hh hg;have HT:=Hh htop;have HLZ:=Hh hlz;have t1:((n:Int)==0)=false:=beq_eq_false_iff_ne.2 (by omega);have i1:(0:Int)≤(n:Int):=by omega
 have i2:(n:Int)<(n:Int)+1:=by omega
 have i3:IntKind.i64.wrap ((top:Int)-1)=((top-1:Nat):Int):=by rw[show(top:Int)-1=((top-1:Nat):Int) by omega];exact IntWalk.i64_in _ (by omega)
 have HP0:=Hh (show shlI 1 (top:Int)=p2 top from zdT _ (by omega));have HP1:=Hh (show shlI 1 ((top-1:Nat):Int)=p2 (top-1) from zdT _ (by omega));have q0:True:=trivial;clear h hn hg htop hlz j0;dsimp only[xb0,bw0,Xb.obj,List.length_nil] at J0 g0;go_enter Tryz.func68,Tryz.ntmps68;go_upto_region 10 with(first
  | (have _t:=q0;go_at_call 112;clear _t;go_loud (refine(zeF (ax:=0) (e:=0) 0 2 1 3 n c A l _ J0.out.ns HNL.out h0 hn9 HG.out (by omega) (by decide)).mono ?_;rintro en w1 ⟨gr,uw,Dw,rfl,r0,r1,ru,re,b1⟩;have Ew:=Hh re;have hz1:=zag (J0.out.step b1).r;have J1:=Hh ((J0.out.step b1).add ru);have g0:=J1.out.q;have hcu:=ru.us.cap;clear ru re b1;have q1:=q0;clear q0))
  | (have _t:=q1;go_at_call 112;clear _t;go_loud (refine(zeF (ax:=0) (e:=1) 1 3 0 2 n c A l _ J1.out.ns HNL.out h0 hn9 HG.out (by omega) (by decide)).mono ?_;rintro en w2 ⟨gr,ue,De,rfl,r0,r1,ru,re,b1⟩;have Ee:=Hh re;have hz2:=zag (J1.out.step b1).r;have J2:=Hh ((J1.out.step b1).add ru);have g0:=J2.out.q;have hcu:=ru.us.cap;clear ru re b1;have q2:=q1;clear q1))
  | (have _t:=q2;go_at_call 112;clear _t;go_loud (refine(zeF (ax:=1) (e:=0) 0 1 2 3 n c A l _ J2.out.ns HNL.out h0 hn9 HG.out (by omega) (by decide)).mono ?_;rintro en w3 ⟨gr,un,Dn,rfl,r0,r1,ru,re,b1⟩;have En:=Hh re;have hz3:=zag (J2.out.step b1).r;have J3:=Hh ((J2.out.step b1).add ru);have g0:=J3.out.q;have hcu:=ru.us.cap;clear ru re b1;have q3:=q2;clear q2))
  | (have _t:=q3;go_at_call 112;clear _t;go_loud (refine(zeF (ax:=1) (e:=1) 2 3 0 1 n c A l _ J3.out.ns HNL.out h0 hn9 HG.out (by omega) (by decide)).mono ?_;rintro en w4 ⟨gr,us,Ds,rfl,r0,r1,ru,re,b1⟩;have Es:=Hh re;have hz4:=zag (J3.out.step b1).r;have J4:=Hh ((J3.out.step b1).add ru);have g0:=J4.out.q;have hcu:=ru.us.cap;clear ru re b1;have q4:=q3;clear q3))
  | (have _t:=q4;go_at_call 21;clear _t;go_loud (refine(znD A c n l _ J4.out.ns HNL.out).mono ?_;rintro en w5 ⟨rfl,b5⟩;rw[HLZ.out];have J5:=Hh (J4.out.step b5);clear b5;have q5:=q4;clear q4))
  | (have _t:=q5;go_at_call 109;clear _t;go_loud (refine(zbL _ _).mono ?_;rintro en w6 h6;rw[HP0.out] at h6;obtain⟨uz,rfl,ru,b6⟩:=zam h6;have J6:=Hh (J5.out.step b6);have RS:=Hh ru;clear h6 ru b6;have q6:=q5;clear q5))
  | (have _t:=q6;go_at_call 109;clear _t;go_loud (refine(zbL _ _).mono ?_;rintro en w7 h7;rw[HP1.out] at h7;obtain⟨uh,rfl,ru,b7⟩:=zam h7;have J7:=Hh (J6.out.step b7);have RS:=Hh (RS.out.next b7);have RH:=Hh ru;clear h7 ru b7;have q7:=q6;clear q6))
  | (have _t:=q7;go_at_call 108;clear _t;go_loud (refine(zbB uh.s uh.a uh.c uh.xs _ RH.out.us (Nat.le_trans (zaY RH.out (by have:=zar (top-1);have:=zar 1330;omega) (zaM (by omega))) (by omega))).mono ?_;rintro en w8 h8;obtain⟨uc,rfl,ru,b8⟩:=zam h8;rw[RH.out.v] at ru;have RS:=Hh (RS.out.next b8);have RC:=Hh (ru.next ((Below.refl _ w8).alloc (Nat.le_refl _) uz.obj));have hz8:=zag (J7.out.step b8).r;have J8:=Hh (((J7.out.step b8).add RS.out).add RC.out);clear h8 ru b8;have q8:=q7;clear q7)))
 rw[World.size_alloc] at J8;obtain⟨g5,hg5⟩:∃g,g=w1.heap.size:=⟨_,rfl⟩;obtain⟨g6,hg6⟩:∃g,g=w2.heap.size:=⟨_,rfl⟩;obtain⟨g7,hg7⟩:∃g,g=w3.heap.size:=⟨_,rfl⟩;obtain⟨g8,hg8⟩:∃g,g=w4.heap.size:=⟨_,rfl⟩;obtain⟨gc,hgc⟩:∃g,g=w8.heap.size+1:=⟨_,rfl⟩;rw[←hgc] at J8 ⊢;obtain⟨gz,hgz⟩:∃g,g=w8.heap.size:=⟨_,rfl⟩;rw[←hg5,←hg6,←hg7,←hg8,←hgz] at J8 ⊢;obtain⟨KL,hKL⟩:∃K:List (Nat × Bw × Int),K=[(gc,uc,-p2 (top-1)),(gz,uz,p2 top),(g8,us,Ds),(g7,un,Dn),(g6,ue,De),(g5,uw,Dw)]:=⟨_,rfl⟩;rw[←hKL] at J8;have mc:(gc,uc,-p2 (top-1))∈KL:=by rw[hKL];exact List.mem_cons_self
 have mz:(gz,uz,p2 top)∈KL:=by rw[hKL];exact List.mem_cons_of_mem _ List.mem_cons_self
 have m8:(g8,us,Ds)∈KL:=by rw[hKL];exact List.mem_cons_of_mem _ (List.mem_cons_of_mem _ List.mem_cons_self)
 have m7:(g7,un,Dn)∈KL:=by rw[hKL];exact List.mem_cons_of_mem _ (List.mem_cons_of_mem _ (List.mem_cons_of_mem _ List.mem_cons_self))
 have m6:(g6,ue,De)∈KL:=by rw[hKL];exact List.mem_cons_of_mem _ (List.mem_cons_of_mem _ (List.mem_cons_of_mem _ (List.mem_cons_of_mem _ List.mem_cons_self)))
 have m5:(g5,uw,Dw)∈KL:=by rw[hKL];exact List.mem_cons_of_mem _ (List.mem_cons_of_mem _ (List.mem_cons_of_mem _ (List.mem_cons_of_mem _ (List.mem_cons_of_mem _ List.mem_cons_self))))
 clear hKL;obtain⟨W8,hW8⟩:∃W:World,W=((w8.alloc (.cells #[.bool uz.s,.slice uz.a uz.xs.length uz.c] 48)).alloc (.cells #[.bool uc.s,.slice uc.a uc.xs.length uc.c] 48)).drew:=⟨_,rfl⟩;have JA:=Hh (J8.out.step (zaa (Below.refl _ _) 1));change Hid (OgJ w ((w8.alloc (.cells #[.bool uz.s,.slice uz.a uz.xs.length uz.c] 48)).alloc (.cells #[.bool uc.s,.slice uc.a uc.xs.length uc.c] 48)).drew A c n l _) at JA;rw[←hW8] at JA;have hw9:=Hh (show ∀(ax e:Nat) (D:Int),EdS ax e (at_ l (n-1)).lv.toNat (fun u=>u=den l n) D→0≤D∧D<p2 top from fun ax e D h=>by
  have hw:=zbv HG.out.1 (n-1) (by have:=HNL.out;omega);rw[Nat.sub_add_cancel (by omega),HT.out] at hw;rw[HT.out,Int.toNat_natCast] at h;exact h.in_ (fun t ht=>by have ht':t=den l n:=ht;rw[ht'];exact hw))
 have m0:=zaM (show top≤1329 by omega);have m1:=zaM (show top-1≤1329 by omega);have m2:p2 1330=p2 1329+p2 1329:=zau 1329;have m3:=zar (top-1);have m4:=zar top;have hDw:=hw9.out _ _ _ Ew.out;have hDe:=hw9.out _ _ _ Ee.out;have hDn:=hw9.out _ _ _ En.out;have hDs:=hw9.out _ _ _ Es.out;have LB:=Hh (show ∀(u:Bw) (W:World) (X:Int),u.R W X→-p2 1330≤X→X≤p2 1330→u.xs.length≤50000 from fun u W X r h1 h2=>Nat.le_trans (zaY r h1 h2) (by omega));have lc:=LB.out _ _ _ (JA.out.ag.getK mc).r (by omega) (by omega);have lz:=LB.out _ _ _ (JA.out.ag.getK mz).r (by omega) (by omega);have lW:=LB.out _ _ _ (JA.out.ag.getK m5).r (by omega) (by omega);have lE:=LB.out _ _ _ (JA.out.ag.getK m6).r (by omega) (by omega);have lN:=LB.out _ _ _ (JA.out.ag.getK m7).r (by omega) (by omega);have lS:=LB.out _ _ _ (JA.out.ag.getK m8).r (by omega) (by omega);have HM:=Hh (And.intro m0 (And.intro m1 (And.intro m2 (And.intro m3 (And.intro m4 (And.intro hDw (And.intro hDe (And.intro hDn hDs))))))));have HGS:=Hh (show w.heap.size+1<gc∧w.heap.size+1<gz∧w.heap.size+1<g5∧w.heap.size+1<g6∧w.heap.size+1<g7∧w.heap.size+1<g8 by
  rw[←hg5] at hz1;rw[←hg6] at hz2;rw[←hg7] at hz3;rw[←hg8] at hz4;rw[←hgz] at hz8 hgc;exact⟨by rw[hgc];exact Nat.lt_succ_of_lt hz8,hz8,hz1,hz2,hz3,hz4⟩)
 clear m0 m1 m2 m3 m4 hDw hDe hDn hDs hg5 hg6 hg7 hg8 hgc hgz hz1 hz2 hz3 hz4 hz8 J0 J1 J2 J3 J4 J5 J6 J7 J8 RS RH RC;refine wp_region_noPanic ?_;refine wp_region_held (S:=fun w'=>w'.cell? ⟨gc,0,none⟩=some (.bool uc.s)∧w'.cell? ⟨gc,1,none⟩=some (.slice uc.a uc.xs.length uc.c)∧w'.cell? ⟨g5,0,none⟩=some (.bool uw.s)∧w'.cell? ⟨g5,1,none⟩=some (.slice uw.a uw.xs.length uw.c)∧w'.cell? ⟨g7,0,none⟩=some (.bool un.s)∧w'.cell? ⟨g7,1,none⟩=some (.slice un.a un.xs.length un.c)∧w'.cell? ⟨gz,0,none⟩=some (.bool uz.s)∧w'.cell? ⟨gz,1,none⟩=some (.slice uz.a uz.xs.length uz.c)∧w'.cell? ⟨g6,0,none⟩=some (.bool ue.s)∧w'.cell? ⟨g6,1,none⟩=some (.slice ue.a ue.xs.length ue.c)∧w'.cell? ⟨g8,0,none⟩=some (.bool us.s)∧w'.cell? ⟨g8,1,none⟩=some (.slice us.a us.xs.length us.c)) (by kernel_rfl) ?_;change wpAnyH _ _ _ _ _ _ _ _ ((w8.alloc (.cells #[.bool uz.s,.slice uz.a uz.xs.length uz.c] 48)).alloc (.cells #[.bool uc.s,.slice uc.a uc.xs.length uc.c] 48)).drew;rw[←hW8];clear hW8;clear hcap HLZ HP0 HP1;have hS0:=(And.intro (JA.out.ag.getK mc).c0 (And.intro (JA.out.ag.getK mc).c1 (And.intro (JA.out.ag.getK m5).c0 (And.intro (JA.out.ag.getK m5).c1 (And.intro (JA.out.ag.getK m7).c0 (And.intro (JA.out.ag.getK m7).c1 (And.intro (JA.out.ag.getK mz).c0 (And.intro (JA.out.ag.getK mz).c1 (And.intro (JA.out.ag.getK m6).c0 (And.intro (JA.out.ag.getK m6).c1 (And.intro (JA.out.ag.getK m8).c0 (JA.out.ag.getK m8).c1)))))))))));refine Tk1 (v:=?_) 0 hS0 ?_ ?_;rotate_left
 ·rintro w' ⟨_,_,_,_,_,_,_,_,_,_,_,_⟩;go_simp;first|done|with_reducible rfl|rfl
 simp only[Act.put,LA];refine Tk1 (v:=?_) 1 hS0 ?_ ?_;rotate_left
 ·rintro w' ⟨_,_,_,_,_,_,_,_,_,_,_,_⟩;go_simp;first|done|with_reducible rfl|rfl
 simp only[Act.put,LA];refine Tk1 (v:=?_) 3 hS0 ?_ ?_;rotate_left
 ·rintro w' ⟨_,_,_,_,_,_,_,_,_,_,_,_⟩;go_simp;first|done|with_reducible rfl|rfl
 simp only[Act.put,LA];refine Tk1 (v:=?_) 4 hS0 ?_ ?_;rotate_left
 ·rintro w' ⟨_,_,_,_,_,_,_,_,_,_,_,_⟩;go_simp;first|done|with_reducible rfl|rfl
 simp only[Act.put,LA];refine Tk1 (v:=?_) 6 hS0 ?_ ?_;rotate_left
 ·rintro w' ⟨_,_,_,_,_,_,_,_,_,_,_,_⟩;go_simp;first|done|with_reducible rfl|rfl
 simp only[Act.put,LA];refine Tk1 (v:=?_) 7 hS0 ?_ ?_;rotate_left
 ·rintro w' ⟨_,_,_,_,_,_,_,_,_,_,_,_⟩;go_simp;first|done|with_reducible rfl|rfl
 simp only[Act.put,LA];refine Tk1 (v:=?_) 8 hS0 ?_ ?_;rotate_left
 ·rintro w' ⟨_,_,_,_,_,_,_,_,_,_,_,_⟩;go_simp;first|done|with_reducible rfl|rfl
 simp only[Act.put,LA];refine Tk1 (v:=?_) 11 hS0 ?_ ?_;rotate_left
 ·rintro w' ⟨_,_,_,_,_,_,_,_,_,_,_,_⟩;go_simp;first|done|with_reducible rfl|rfl
 simp only[Act.put,LA];refine Tk1 (v:=?_) 12 hS0 ?_ ?_;rotate_left
 ·rintro w' ⟨_,_,_,_,_,_,_,_,_,_,_,_⟩;go_simp;first|done|with_reducible rfl|rfl
 simp only[Act.put,LA];refine Tk1 (v:=?_) 13 hS0 ?_ ?_;rotate_left
 ·rintro w' ⟨_,_,_,_,_,_,_,_,_,_,_,_⟩;go_simp;first|done|with_reducible rfl|rfl
 simp only[Act.put,LA];refine Rd1 2 fun K hK=>?_;go_simp;refine(zbj uc.s uw.s uc.a uw.a uc.c uw.c uc.xs uw.xs _ (JA.out.ag.getK mc).r.us (JA.out.ag.getK m5).r.us (by omega) (by omega)).mono ?_;rintro en w_ux h_;obtain⟨ux,rfl,r_,b_⟩:=zam h_;rw[(JA.out.ag.getK mc).r.v,(JA.out.ag.getK m5).r.v] at r_;dsimp only;have JB:=Hh (JA.out.step b_);have Rux:=Hh r_;have hSJB:=(And.intro (JB.out.ag.getK mc).c0 (And.intro (JB.out.ag.getK mc).c1 (And.intro (JB.out.ag.getK m5).c0 (And.intro (JB.out.ag.getK m5).c1 (And.intro (JB.out.ag.getK m7).c0 (And.intro (JB.out.ag.getK m7).c1 (And.intro (JB.out.ag.getK mz).c0 (And.intro (JB.out.ag.getK mz).c1 (And.intro (JB.out.ag.getK m6).c0 (And.intro (JB.out.ag.getK m6).c1 (And.intro (JB.out.ag.getK m8).c0 (JB.out.ag.getK m8).c1)))))))))));refine hK.out _ _ hSJB (fun _=>?_);clear hK K h_ r_ b_;refine Rd1 5 fun K hK=>?_;go_simp;refine(zbj uc.s un.s uc.a un.a uc.c un.c uc.xs un.xs _ (JB.out.ag.getK mc).r.us (JB.out.ag.getK m7).r.us (by omega) (by omega)).mono ?_;rintro en w_uy h_;obtain⟨uy,rfl,r_,b_⟩:=zam h_;rw[(JB.out.ag.getK mc).r.v,(JB.out.ag.getK m7).r.v] at r_;dsimp only;have JC:=Hh (JB.out.step b_);have Rux:=Hh (Rux.out.next b_);have Ruy:=Hh r_;have hSJC:=(And.intro (JC.out.ag.getK mc).c0 (And.intro (JC.out.ag.getK mc).c1 (And.intro (JC.out.ag.getK m5).c0 (And.intro (JC.out.ag.getK m5).c1 (And.intro (JC.out.ag.getK m7).c0 (And.intro (JC.out.ag.getK m7).c1 (And.intro (JC.out.ag.getK mz).c0 (And.intro (JC.out.ag.getK mz).c1 (And.intro (JC.out.ag.getK m6).c0 (And.intro (JC.out.ag.getK m6).c1 (And.intro (JC.out.ag.getK m8).c0 (JC.out.ag.getK m8).c1)))))))))));refine hK.out _ _ hSJC (fun _=>?_);clear hK K h_ r_ b_;refine Rd1 9 fun K hK=>?_;go_simp;refine(zbj uw.s ue.s uw.a ue.a uw.c ue.c uw.xs ue.xs _ (JC.out.ag.getK m5).r.us (JC.out.ag.getK m6).r.us (by omega) (by omega)).mono ?_;rintro en w_ua h_;obtain⟨ua,rfl,r_,b_⟩:=zam h_;rw[(JC.out.ag.getK m5).r.v,(JC.out.ag.getK m6).r.v] at r_;dsimp only;have JD:=Hh (JC.out.step b_);have Rux:=Hh (Rux.out.next b_);have Ruy:=Hh (Ruy.out.next b_);have Rua:=Hh r_;have hSJD:=(And.intro (JD.out.ag.getK mc).c0 (And.intro (JD.out.ag.getK mc).c1 (And.intro (JD.out.ag.getK m5).c0 (And.intro (JD.out.ag.getK m5).c1 (And.intro (JD.out.ag.getK m7).c0 (And.intro (JD.out.ag.getK m7).c1 (And.intro (JD.out.ag.getK mz).c0 (And.intro (JD.out.ag.getK mz).c1 (And.intro (JD.out.ag.getK m6).c0 (And.intro (JD.out.ag.getK m6).c1 (And.intro (JD.out.ag.getK m8).c0 (JD.out.ag.getK m8).c1)))))))))));refine hK.out _ _ hSJD (fun _=>?_);clear hK K h_ r_ b_;refine Rd1 10 fun K hK=>?_;go_simp;refine(zgs uz.s ua.s uz.a ua.a uz.c ua.c uz.xs ua.xs _ (JD.out.ag.getK mz).r.us Rua.out.us (by omega) (Nat.le_trans (LB.out _ _ _ Rua.out (by have:=HM.out;omega) (by have:=HM.out;omega)) (by omega))).mono ?_;rintro en w_uv h_;obtain⟨uv,rfl,r_,b_⟩:=zam h_;rw[(JD.out.ag.getK mz).r.v,Rua.out.v] at r_;dsimp only;have JE:=Hh (JD.out.step b_);have Rux:=Hh (Rux.out.next b_);have Ruy:=Hh (Ruy.out.next b_);have Ruv:=Hh r_;have hSJE:=(And.intro (JE.out.ag.getK mc).c0 (And.intro (JE.out.ag.getK mc).c1 (And.intro (JE.out.ag.getK m5).c0 (And.intro (JE.out.ag.getK m5).c1 (And.intro (JE.out.ag.getK m7).c0 (And.intro (JE.out.ag.getK m7).c1 (And.intro (JE.out.ag.getK mz).c0 (And.intro (JE.out.ag.getK mz).c1 (And.intro (JE.out.ag.getK m6).c0 (And.intro (JE.out.ag.getK m6).c1 (And.intro (JE.out.ag.getK m8).c0 (JE.out.ag.getK m8).c1)))))))))));refine hK.out _ _ hSJE (fun _=>?_);clear hK K h_ r_ b_;refine Rd1 14 fun K hK=>?_;go_simp;refine(zbj un.s us.s un.a us.a un.c us.c un.xs us.xs _ (JE.out.ag.getK m7).r.us (JE.out.ag.getK m8).r.us (by omega) (by omega)).mono ?_;rintro en w_ub h_;obtain⟨ub,rfl,r_,b_⟩:=zam h_;rw[(JE.out.ag.getK m7).r.v,(JE.out.ag.getK m8).r.v] at r_;dsimp only;have JF:=Hh (JE.out.step b_);have Rux:=Hh (Rux.out.next b_);have Ruy:=Hh (Ruy.out.next b_);have Ruv:=Hh (Ruv.out.next b_);have Rub:=Hh r_;have hSJF:=(And.intro (JF.out.ag.getK mc).c0 (And.intro (JF.out.ag.getK mc).c1 (And.intro (JF.out.ag.getK m5).c0 (And.intro (JF.out.ag.getK m5).c1 (And.intro (JF.out.ag.getK m7).c0 (And.intro (JF.out.ag.getK m7).c1 (And.intro (JF.out.ag.getK mz).c0 (And.intro (JF.out.ag.getK mz).c1 (And.intro (JF.out.ag.getK m6).c0 (And.intro (JF.out.ag.getK m6).c1 (And.intro (JF.out.ag.getK m8).c0 (JF.out.ag.getK m8).c1)))))))))));refine hK.out _ _ hSJF (fun _=>?_);clear hK K h_ r_ b_;refine Rd1 15 fun K hK=>?_;go_simp;refine(zgs uz.s ub.s uz.a ub.a uz.c ub.c uz.xs ub.xs _ (JF.out.ag.getK mz).r.us Rub.out.us (by omega) (Nat.le_trans (LB.out _ _ _ Rub.out (by have:=HM.out;omega) (by have:=HM.out;omega)) (by omega))).mono ?_;rintro en w_ut h_;obtain⟨ut,rfl,r_,b_⟩:=zam h_;rw[(JF.out.ag.getK mz).r.v,Rub.out.v] at r_;dsimp only;have JG:=Hh (JF.out.step b_);have Rux:=Hh (Rux.out.next b_);have Ruy:=Hh (Ruy.out.next b_);have Ruv:=Hh (Ruv.out.next b_);have Rut:=Hh r_;have hSJG:=(And.intro (JG.out.ag.getK mc).c0 (And.intro (JG.out.ag.getK mc).c1 (And.intro (JG.out.ag.getK m5).c0 (And.intro (JG.out.ag.getK m5).c1 (And.intro (JG.out.ag.getK m7).c0 (And.intro (JG.out.ag.getK m7).c1 (And.intro (JG.out.ag.getK mz).c0 (And.intro (JG.out.ag.getK mz).c1 (And.intro (JG.out.ag.getK m6).c0 (And.intro (JG.out.ag.getK m6).c1 (And.intro (JG.out.ag.getK m8).c0 (JG.out.ag.getK m8).c1)))))))))));refine hK.out _ _ hSJG (fun _=>?_);clear hK K h_ r_ b_;refine Tk1 (v:=?_) 16 hSJG ?_ ?_;rotate_left
 ·rintro w' ⟨_,_,_,_,_,_,_,_,_,_,_,_⟩;go_simp;first|done|with_reducible rfl|rfl
 simp only[Act.put,LA];have R9:=Hh JG.out.r;obtain⟨z0,z1,z2,z3,z4,z5,z6,z7⟩:=Xb.cells R9.out;obtain⟨y0,y1,y2,y3,y4,y5,y6,y7⟩:=Xb.cellsF R9.out;refine Rd1 17 fun K hK=>?_;go_simp;have fr:∀g,w.heap.size+1<g→∀(k:Nat) (v:Value),w_ut.cell? ⟨g,k,none⟩=some v→(putX w_ut (w.heap.size+1) ⟨ux,uy,uv,ut⟩).cell? ⟨g,k,none⟩=some v:=fun g hg k v hv=>(World.cell?_of_block (w:=w_ut) (a:=⟨g,k,none⟩) (zfX (Nat.ne_of_gt hg) ⟨ux,uy,uv,ut⟩)).trans hv;obtain⟨k_gc,k_gz,k_g5,k_g6,k_g7,k_g8⟩:=HGS.out;have hS9:=(And.intro (fr gc k_gc _ _ (JG.out.ag.getK mc).c0) (And.intro (fr gc k_gc _ _ (JG.out.ag.getK mc).c1) (And.intro (fr g5 k_g5 _ _ (JG.out.ag.getK m5).c0) (And.intro (fr g5 k_g5 _ _ (JG.out.ag.getK m5).c1) (And.intro (fr g7 k_g7 _ _ (JG.out.ag.getK m7).c0) (And.intro (fr g7 k_g7 _ _ (JG.out.ag.getK m7).c1) (And.intro (fr gz k_gz _ _ (JG.out.ag.getK mz).c0) (And.intro (fr gz k_gz _ _ (JG.out.ag.getK mz).c1) (And.intro (fr g6 k_g6 _ _ (JG.out.ag.getK m6).c0) (And.intro (fr g6 k_g6 _ _ (JG.out.ag.getK m6).c1) (And.intro (fr g8 k_g8 _ _ (JG.out.ag.getK m8).c0) (fr g8 k_g8 _ _ (JG.out.ag.getK m8).c1))))))))))));have hS8:=hS9;dsimp only[putX] at hS8;refine hK.out _ _ hS8 (fun _=>?_);clear hS8;clear hK K z0 z1 z2 z3 z4 z5 z6 z7 y0 y1 y2 y3 y4 y5 y6 y7;change wpAnyH _ _ _ _ _ _ _ _ (putX w_ut (w.heap.size+1) ⟨ux,uy,uv,ut⟩);have RF:=Hh (zpY R9.out ⟨ux,uy,uv,ut⟩);have HX:=Hh (show Xb.R ⟨ux,uy,uv,ut⟩ (putX w_ut (w.heap.size+1) ⟨ux,uy,uv,ut⟩) (-p2 (top-1)+Dw) (-p2 (top-1)+Dn) (p2 top-(Dw+De)) (p2 top-(Dn+Ds)) from⟨Rux.out.putX R9.out _,Ruy.out.putX R9.out _,Ruv.out.putX R9.out _,Rut.out.putX R9.out _⟩);have BF:=Hh (zhV JG.out.ag.b (g:=w.heap.size+1) (Nat.le_succ _) ⟨ux,uy,uv,ut⟩);clear fr;generalize putX w_ut (w.heap.size+1) ⟨ux,uy,uv,ut⟩=W9 at *;refine Tk1 (v:=?_) 18 hS9 ?_ ?_;rotate_left
 ·rintro w' ⟨_,_,_,_,_,_,_,_,_,_,_,_⟩;go_simp;first|done|with_reducible rfl|rfl
 simp only[Act.put,LA];refine wpAnyH_done (by kernel_rfl) ?_ _;refine NoPanic.normal ?_;go_wp2_with fail;obtain⟨z0,z1,z2,z3,z4,z5,z6,z7⟩:=Xb.cells RF.out;refine bodyPost_ret (v:=.tuple #[(⟨ux,uy,uv,ut⟩:Xb).val,.bool true]) (by simp[results,Tryz.results68,go_sem,z0,z1,z2,z3,z4,z5,z6,z7]) rfl ?_;have hm:=HM.out;refine⟨⟨ux,uy,uv,ut⟩,_,_,_,_,true,rfl,HX.out,⟨LB.out _ _ _ HX.out.x (by omega) (by omega),LB.out _ _ _ HX.out.y (by omega) (by omega),LB.out _ _ _ HX.out.w (by omega) (by omega),LB.out _ _ _ HX.out.h (by omega) (by omega)⟩,BF.out,.inr ⟨h0,rfl,?_⟩⟩;have ew:=Ew.out;have ee:=Ee.out;have e9:=En.out;have es:=Es.out;rw[HT.out,Int.toNat_natCast] at ew ee e9 es ⊢;refine⟨?_,?_,?_,?_⟩
 ·rwa [show -p2 (top-1)+Dw+p2 (top-1)=Dw by omega]
 ·rwa [show -p2 (top-1)+Dn+p2 (top-1)=Dn by omega]
 ·rwa [show p2 top-(p2 top-(Dw+De))-(-p2 (top-1)+Dw+p2 (top-1))=De by omega]
 ·rwa [show p2 top-(p2 top-(Dn+Ds))-(-p2 (top-1)+Dn+p2 (top-1))=Ds by omega]
theorem zqc (A:Option Addr)(c:Nat)(w:World):Calls Tryz.prog 68 #[.agg #[.slice A 0 c]] w (znH [] 0 w):=by
 have b1:=(Below.refl w.heap.size w).alloc (Nat.le_refl _) (.cells #[.slice A 0 c] 28);have b2:=b1.alloc (by simp) xb0.obj;have hr:=heap_alloc_new (w.alloc (.cells #[.slice A 0 c] 28)) xb0.obj;rw[World.size_alloc] at hr;obtain⟨e0,e1,e2,e3,e4,e5,e6,e7⟩:=Xb.cells hr;have HB:=Hh b2;dsimp only[xb0,bw0,Xb.obj,List.length_nil] at e0 e1 e2 e3 e4 e5 e6 e7 HB;clear b1 b2 hr;go_enter Tryz.func68,Tryz.ntmps68;go_wp2_with fail;refine bodyPost_ret (v:=.tuple #[xb0.val,.bool false]) (by simp[results,Tryz.results68,go_sem,e0,e1,e2,e3,e4,e5,e6,e7,xb0,bw0]) rfl ?_;exact⟨xb0,0,0,0,0,false,rfl,⟨zhu _,zhu _,zhu _,zhu _⟩,⟨by simp[xb0,bw0],by simp[xb0,bw0],by simp[xb0,bw0],by simp[xb0,bw0]⟩,HB.out,.inl ⟨rfl,rfl,rfl,rfl,rfl,rfl⟩⟩
theorem zss (n c:Nat)(A:Option Addr)(l:List Nd)(w:World)(h:Ns w A c l)(hn:l.length=n)(hn9:n≤900000)(hg:zaq l) :
  Calls Tryz.prog 68 #[.agg #[.slice A n c]] w (znH l n w):=by
 by_cases h0:0<n
 ·exact zqb n c A l w h hn h0 hn9 hg
 ·have e0:n=0:=by omega
  subst e0;have e1:l=[]:=List.length_eq_zero_iff.1 hn;subst e1;exact zqc A c w
theorem zhW (n c:Nat)(A:Option Addr)(l:List Nd)(most:Int)(w:World)(h:Ns w A c l)(hn:l.length=n)(hn9:n≤900000)(hg:zaq l)(hm : -9223372036854775808≤most∧most≤9223372036854775807) :
  Calls Tryz.prog 65 #[.agg #[.slice A n c],.int .i64 most] w (zvC l n most w):=by
 have hcap:=h.cap;rw[hn] at hcap;have hB:=(Below.refl w.heap.size w).alloc (Nat.le_refl _) (.cells #[.slice A n c] 28);have HB:=Hh hB;have HN:=Hh (h.below hB);have HNL:=Hh hn;have HG:=Hh hg;have q0:True:=trivial;clear h hn hg hB;go_enter Tryz.func65,Tryz.ntmps65;go_upto_region 2 with(first
  | (have _t:=q0;go_at_call 68;clear _t;go_loud (refine(zss n c A l _ HN.out HNL.out hn9 HG.out).mono ?_;rintro e w1 ⟨u,X,Y,V,H,ok,rfl,ru,su,b1,bv⟩;have hb3:=(Below.refl w1.heap.size w1).alloc (Nat.le_refl _) u.obj;have KX:=Hh (heap_alloc_new w1 u.obj);have RU:=Hh (ru.next hb3);have SU:=Hh su;have BV:=Hh (show BxV l n ok X Y V H from bv);have B1:=Hh (HB.out.trans ((b1.trans (hb3.mono b1.size)).mono HB.out.size));clear ru su b1 bv hb3;have q1:=q0;clear q0)))
 obtain⟨c0,c1,c2,c3,c4,c5,c6,c7⟩:=Xb.cells KX.out;have lw:=SU.out.w;have lh:=SU.out.h;obtain⟨W,hW⟩:∃W:World,W=(w1.alloc u.obj).drewN 1:=⟨_,rfl⟩;have hd:=zaa (Below.refl (w1.alloc u.obj).heap.size (w1.alloc u.obj)) 1;rw[←hW] at hd;have RU:=Hh (RU.out.next hd);have KX:=Hh ((hd.block _ (zag KX.out)).trans KX.out);have B1:=Hh (B1.out.trans (hd.mono B1.out.size));have HW:=Hh hW;obtain⟨r1,hr1⟩:∃r,r=ordI V most:=⟨_,rfl⟩;obtain⟨r2,hr2⟩:∃r,r=ordI H most:=⟨_,rfl⟩;have e1:=ziX V most;have e2:=ziX H most;rw[←hr1] at e1;rw[←hr2] at e2;have HR1:=Hh hr1;have HR2:=Hh hr2;have HE1:=Hh e1;have HE2:=Hh e2;have LO:∀(o:Bw) (W1:World),o.R W1 most→o.xs.length≤50000:=fun o W1 ro=>Nat.le_trans (zaY ro (by have:=zaM (show 64≤1330 by omega);have:p2 64=18446744073709551616:=rfl;omega) (by have:=zaM (show 64≤1330 by omega);have:p2 64=18446744073709551616:=rfl;omega)) (by omega);have HLO:=Hh LO;clear hr1 hr2 e1 e2 c0 c1 c2 c3 LO hd hW;obtain⟨g5,hg5⟩:∃g,g=w1.heap.size:=⟨_,rfl⟩;rw[←hg5] at KX c4 c5 c6 c7 ⊢;have RU0:=RU;have KX0:=KX;have B0:=B1;clear RU B1 hg5 c4 c5 c6 c7;obtain⟨-,-,-,-,c4,c5,c6,c7⟩:=Xb.cells KX0.out;by_cases hV:V≤most
 ·have t1:decide (r1≤0)=true:=by rw[HE1.out];exact decide_eq_true hV
  have HV:=Hh hV;clear hV;refine wp_region_noPanic ?_;refine wp_region_held (S:=fun w'=>w'.cell? ⟨g5,4,none⟩=some (.bool u.w.s)∧w'.cell? ⟨g5,5,none⟩=some (.slice u.w.a u.w.xs.length u.w.c)∧w'.cell? ⟨g5,6,none⟩=some (.bool u.h.s)∧w'.cell? ⟨g5,7,none⟩=some (.slice u.h.a u.h.xs.length u.h.c)) (by kernel_rfl) ?_;change wpAnyH _ _ _ _ _ _ _ _ ((w1.alloc u.obj).drewN 1);rw[←HW.out];have hS0:=(And.intro c4 (And.intro c5 (And.intro c6 c7)));clear c4 c5 c6 c7;refine Tk1 (v:=?_) 0 hS0 ?_ ?_;rotate_left
  ·rintro w' ⟨_,_,_,_⟩;go_simp;first|done|with_reducible rfl|rfl
  simp only[Act.put,LA];refine Tk1 (v:=?_) 1 hS0 ?_ ?_;rotate_left
  ·rintro w' ⟨_,_,_,_⟩;go_simp;first|done|with_reducible rfl|rfl
  simp only[Act.put,LA];refine Tk1 (v:=?_) 2 hS0 ?_ ?_;rotate_left
  ·rintro w' ⟨_,_,_,_⟩;go_simp;first|done|with_reducible rfl|rfl
  simp only[Act.put,LA];refine Rd1 3 fun K hK=>?_;go_simp;refine(zba most _ hm.1 hm.2).mono ?_;rintro en W1 h_;obtain⟨o1,rfl,r_,b_⟩:=zam h_;dsimp only;have RO1:=Hh r_;have RU1:=Hh (RU0.out.next b_);have KX1:=Hh ((b_.block _ (zag KX0.out)).trans KX0.out);have B1:=Hh (B0.out.trans (b_.mono B0.out.size));have lo1:=HLO.out _ _ r_;obtain⟨-,-,-,-,c4,c5,c6,c7⟩:=Xb.cells KX1.out;have hS1:=(And.intro c4 (And.intro c5 (And.intro c6 c7)));refine hK.out _ _ hS1 (fun _=>?_);clear hK K h_ r_ b_ c4 c5 c6 c7;refine Rd1 4 fun K hK=>?_;go_simp;refine(zaf u.w.s o1.s u.w.a o1.a u.w.c o1.c u.w.xs o1.xs _ RU1.out.w.us RO1.out.us (by omega) (by omega)).mono ?_;rintro en W2 ⟨rfl,b_⟩;rw[RU1.out.w.v,RO1.out.v,←HR1.out];dsimp only;have RU2:=Hh (RU1.out.next b_);have KX2:=Hh ((b_.block _ (zag KX1.out)).trans KX1.out);have B2:=Hh (B1.out.trans (b_.mono B1.out.size));obtain⟨-,-,-,-,c4,c5,c6,c7⟩:=Xb.cells KX2.out;have hS2:=(And.intro c4 (And.intro c5 (And.intro c6 c7)));refine hK.out _ _ hS2 (fun _=>?_);clear hK K b_ c4 c5 c6 c7;refine Tk1 (v:=?_) 5 hS2 ?_ ?_;rotate_left
  ·rintro w' ⟨_,_,_,_⟩;go_simp;first|done|with_reducible rfl|rfl
  simp only[Act.put,LA];refine Tk1 (v:=?_) 6 hS2 ?_ ?_;rotate_left
  ·rintro w' ⟨_,_,_,_⟩;go_simp;first|done|with_reducible rfl|rfl
  simp only[Act.put,LA];refine Tk1 (v:=?_) 7 hS2 ?_ ?_;rotate_left
  ·rintro w' ⟨_,_,_,_⟩;go_simp;first|done|with_reducible rfl|rfl
  simp only[Act.put,LA];refine Tk1 (v:=?_) 8 hS2 ?_ ?_;rotate_left
  ·rintro w' ⟨_,_,_,_⟩;go_simp;first|done|with_reducible rfl|rfl
  simp only[Act.put,LA];refine Tk1 (v:=?_) 9 hS2 ?_ ?_;rotate_left
  ·rintro w' ⟨_,_,_,_⟩;go_simp;first|done|with_reducible rfl|rfl
  simp only[Act.put,LA];refine Rd1 10 fun K hK=>?_;go_simp;refine(zba most _ hm.1 hm.2).mono ?_;rintro en W3 h_;obtain⟨o3,rfl,r_,b_⟩:=zam h_;dsimp only;have RO3:=Hh r_;have RU3:=Hh (RU2.out.next b_);have KX3:=Hh ((b_.block _ (zag KX2.out)).trans KX2.out);have B3:=Hh (B2.out.trans (b_.mono B2.out.size));have lo3:=HLO.out _ _ r_;obtain⟨-,-,-,-,c4,c5,c6,c7⟩:=Xb.cells KX3.out;have hS3:=(And.intro c4 (And.intro c5 (And.intro c6 c7)));refine hK.out _ _ hS3 (fun _=>?_);clear hK K h_ r_ b_ c4 c5 c6 c7;refine Rd1 11 fun K hK=>?_;go_simp;refine(zaf u.h.s o3.s u.h.a o3.a u.h.c o3.c u.h.xs o3.xs _ RU3.out.h.us RO3.out.us (by omega) (by omega)).mono ?_;rintro en W4 ⟨rfl,b_⟩;rw[RU3.out.h.v,RO3.out.v,←HR2.out];dsimp only;have RU4:=Hh (RU3.out.next b_);have KX4:=Hh ((b_.block _ (zag KX3.out)).trans KX3.out);have B4:=Hh (B3.out.trans (b_.mono B3.out.size));obtain⟨-,-,-,-,c4,c5,c6,c7⟩:=Xb.cells KX4.out;have hS4:=(And.intro c4 (And.intro c5 (And.intro c6 c7)));refine hK.out _ _ hS4 (fun _=>?_);clear hK K b_ c4 c5 c6 c7;refine Tk1 (v:=?_) 12 hS4 ?_ ?_;rotate_left
  ·rintro w' ⟨_,_,_,_⟩;go_simp;first|done|with_reducible rfl|rfl
  simp only[Act.put,LA];refine Tk1 (v:=?_) 13 hS4 ?_ ?_;rotate_left
  ·rintro w' ⟨_,_,_,_⟩;go_simp;first|done|with_reducible rfl|rfl
  simp only[Act.put,LA];refine Tk1 (v:=?_) 14 hS4 ?_ ?_;rotate_left
  ·rintro w' ⟨_,_,_,_⟩;go_simp;first|done|with_reducible rfl|rfl
  simp only[Act.put,LA];refine wpAnyH_done (by kernel_rfl) ?_ _;refine NoPanic.normal ?_;go_wp2_with fail;go_ret;exact⟨X,Y,V,H,ok,by rw[decide_eq_true (show V≤most by have:=HV.out;omega),Bool.true_and];first|rfl|(rw[←HE2.out];rfl),BV.out,B4.out⟩
 ·have t1:decide (r1≤0)=false:=by rw[HE1.out];exact decide_eq_false hV
  have HV:=Hh hV;clear hV;refine wp_region_noPanic ?_;refine wp_region_held (S:=fun w'=>w'.cell? ⟨g5,4,none⟩=some (.bool u.w.s)∧w'.cell? ⟨g5,5,none⟩=some (.slice u.w.a u.w.xs.length u.w.c)∧w'.cell? ⟨g5,6,none⟩=some (.bool u.h.s)∧w'.cell? ⟨g5,7,none⟩=some (.slice u.h.a u.h.xs.length u.h.c)) (by kernel_rfl) ?_;change wpAnyH _ _ _ _ _ _ _ _ ((w1.alloc u.obj).drewN 1);rw[←HW.out];have hS0:=(And.intro c4 (And.intro c5 (And.intro c6 c7)));clear c4 c5 c6 c7;refine Tk1 (v:=?_) 0 hS0 ?_ ?_;rotate_left
  ·rintro w' ⟨_,_,_,_⟩;go_simp;first|done|with_reducible rfl|rfl
  simp only[Act.put,LA];refine Tk1 (v:=?_) 1 hS0 ?_ ?_;rotate_left
  ·rintro w' ⟨_,_,_,_⟩;go_simp;first|done|with_reducible rfl|rfl
  simp only[Act.put,LA];refine Tk1 (v:=?_) 2 hS0 ?_ ?_;rotate_left
  ·rintro w' ⟨_,_,_,_⟩;go_simp;first|done|with_reducible rfl|rfl
  simp only[Act.put,LA];refine Rd1 3 fun K hK=>?_;go_simp;refine(zba most _ hm.1 hm.2).mono ?_;rintro en W1 h_;obtain⟨o1,rfl,r_,b_⟩:=zam h_;dsimp only;have RO1:=Hh r_;have RU1:=Hh (RU0.out.next b_);have KX1:=Hh ((b_.block _ (zag KX0.out)).trans KX0.out);have B1:=Hh (B0.out.trans (b_.mono B0.out.size));have lo1:=HLO.out _ _ r_;obtain⟨-,-,-,-,c4,c5,c6,c7⟩:=Xb.cells KX1.out;have hS1:=(And.intro c4 (And.intro c5 (And.intro c6 c7)));refine hK.out _ _ hS1 (fun _=>?_);clear hK K h_ r_ b_ c4 c5 c6 c7;refine Rd1 4 fun K hK=>?_;go_simp;refine(zaf u.w.s o1.s u.w.a o1.a u.w.c o1.c u.w.xs o1.xs _ RU1.out.w.us RO1.out.us (by omega) (by omega)).mono ?_;rintro en W2 ⟨rfl,b_⟩;rw[RU1.out.w.v,RO1.out.v,←HR1.out];dsimp only;have RU2:=Hh (RU1.out.next b_);have KX2:=Hh ((b_.block _ (zag KX1.out)).trans KX1.out);have B2:=Hh (B1.out.trans (b_.mono B1.out.size));obtain⟨-,-,-,-,c4,c5,c6,c7⟩:=Xb.cells KX2.out;have hS2:=(And.intro c4 (And.intro c5 (And.intro c6 c7)));refine hK.out _ _ hS2 (fun _=>?_);clear hK K b_ c4 c5 c6 c7;refine Tk1 (v:=?_) 5 hS2 ?_ ?_;rotate_left
  ·rintro w' ⟨_,_,_,_⟩;go_simp;first|done|with_reducible rfl|rfl
  simp only[Act.put,LA];refine Tk1 (v:=?_) 6 hS2 ?_ ?_;rotate_left
  ·rintro w' ⟨_,_,_,_⟩;go_simp;first|done|with_reducible rfl|rfl
  simp only[Act.put,LA];refine Tk0 7 hS2 ?_;simp only[Act.put,LA];refine Tk0 8 hS2 ?_;simp only[Act.put,LA];refine Tk0 9 hS2 ?_;simp only[Act.put,LA];refine Tk0 10 hS2 ?_;simp only[Act.put,LA];refine Tk0 11 hS2 ?_;simp only[Act.put,LA];refine Tk0 12 hS2 ?_;simp only[Act.put,LA];refine Tk1 (v:=?_) 13 hS2 ?_ ?_;rotate_left
  ·rintro w' ⟨_,_,_,_⟩;go_simp;first|done|with_reducible rfl|rfl
  simp only[Act.put,LA];refine Tk1 (v:=?_) 14 hS2 ?_ ?_;rotate_left
  ·rintro w' ⟨_,_,_,_⟩;go_simp;first|done|with_reducible rfl|rfl
  simp only[Act.put,LA];refine wpAnyH_done (by kernel_rfl) ?_ _;refine NoPanic.normal ?_;go_wp2_with fail;go_ret;exact⟨X,Y,V,H,ok,by rw[decide_eq_false (show ¬ V≤most by have:=HV.out;omega),Bool.false_and];rfl,BV.out,B2.out⟩
end Go.Proofs.YtfjajpnfjjdnpaaGreatDoor
