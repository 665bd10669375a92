import Derived.Test.YtfjajpnfjjdnpaaGreatDoorWClPj

set_option linter.unusedVariables false
set_option linter.unusedSimpArgs false
set_option maxRecDepth 100000
set_option maxHeartbeats 6400000
namespace Go.Proofs.YtfjajpnfjjdnpaaGreatDoor
open Go.RowKit Nds Num
theorem zaN {w w1:World}(hb:Below w.heap.size w w1){a1 a2 a3 a4 a5 a6 a7 a8 a9 a10:Addr}{v1 v2 v3 v4 v5 v6 v7 v8 v9 v10:Value}
  (h:(w.cell? a1=some v1∧w.cell? a2=some v2∧w.cell? a3=some v3∧w.cell? a4=some v4)∧(w.cell? a5=some v5∧w.cell? a6=some v6)∧(w.cell? a7=some v7∧w.cell? a8=some v8)∧w.cell? a9=some v9∧w.cell? a10=some v10) :
  (w1.cell? a1=some v1∧w1.cell? a2=some v2∧w1.cell? a3=some v3∧w1.cell? a4=some v4)∧(w1.cell? a5=some v5∧w1.cell? a6=some v6)∧(w1.cell? a7=some v7∧w1.cell? a8=some v8)∧w1.cell? a9=some v9∧w1.cell? a10=some v10:=by
 obtain⟨⟨h1,h2,h3,h4⟩,⟨h5,h6⟩,⟨h7,h8⟩,h9,h10⟩:=h;exact⟨⟨zhs hb h1,zhs hb h2,zhs hb h3,zhs hb h4⟩,⟨zhs hb h5,zhs hb h6⟩,⟨zhs hb h7,zhs hb h8⟩,zhs hb h9,zhs hb h10⟩
theorem ziS {w:World}{a1 a2 a3 a4 a5 a6 a7 a8 a9 a10:Addr}{v1 v2 v3 v4 v5 v6 v7 v8 v9 v10:Value}
  (h:(w.cell? a1=some v1∧w.cell? a2=some v2∧w.cell? a3=some v3∧w.cell? a4=some v4)∧(w.cell? a5=some v5∧w.cell? a6=some v6)∧(w.cell? a7=some v7∧w.cell? a8=some v8)∧w.cell? a9=some v9∧w.cell? a10=some v10) :
  (w.drew.cell? a1=some v1∧w.drew.cell? a2=some v2∧w.drew.cell? a3=some v3∧w.drew.cell? a4=some v4)∧(w.drew.cell? a5=some v5∧w.drew.cell? a6=some v6)∧(w.drew.cell? a7=some v7∧w.drew.cell? a8=some v8)∧w.drew.cell? a9=some v9∧w.drew.cell? a10=some v10 :=
 zaN (zaa (Below.refl _ w) 1) h
theorem zpy {lv:Int}{y:Nd}{k:Nat}(hk:k<4)(h:y.kid k=0):mix ⟨lv,0,0,0,0⟩ y k=mix ⟨lv,0,0,0,0⟩ y (k+1):=by
 match k,hk with
 | 0,_ =>
  have h:y.a=0:=h;unfold mix;simp[h]
 | 1,_ =>
  have h:y.b=0:=h;unfold mix;simp[h]
 | 2,_ =>
  have h:y.c=0:=h;unfold mix;simp[h]
 | 3,_ =>
  have h:y.d=0:=h;unfold mix;simp[h]
theorem zmq (out:List Nd)(X Y:Int)(L:List Cl)(k:Nat):kidP 0 out X Y L k=match L.filter (sqB (X+offI (p2 0) k) (Y+offJ (p2 0) k) (p2 0)) with|[]=>0|c :: _=>c.s:=rfl
theorem zvy (X Y h:Int)(u:Cv):sqC X Y h u=(((decide (X≤u.cl.x)&&decide (u.cl.x<X+h))&&decide (Y≤u.cl.y))&&decide (u.cl.y<Y+h)):=by
 unfold sqC sqB;by_cases h1:X≤u.cl.x <;> by_cases h2:u.cl.x<X+h <;> by_cases h3:Y≤u.cl.y <;> by_cases h4:u.cl.y<Y+h <;> simp[h1,h2,h3,h4]
theorem znA (base:Nat):∀(m:Nat) (out:List Nd) (v0:Value) (sx:Bool) (Ax:Option Addr) (cx:Nat) (xs:List Nat) (sy:Bool) (Ay:Option Addr) (cy:Nat) (ys:List Nat) (X Y:Int) (B:Option Addr) (d n:Nat) (l:List Cv) (w:World),m≤1328→OwnN w base v0 out→base≤w.heap.size →
  Us w Ax cx xs→Us w Ay cy ys→zaE sx xs→zaE sy ys→ival sx xs=X→ival sy ys=Y→-p2 1329≤X→X+p2 (m+1)≤p2 1329→-p2 1329≤Y→Y+p2 (m+1)≤p2 1329→Cs w B d l→l.length=n→(∀u∈l,CvR u)→FarP w.heap.size v0 Ax xs Ay ys B l→out.length+(m+1)*n≤900000 →
  Calls Tryz.prog 145 #[v0,.int .i64 ((m:Int)+1),.agg #[.bool sx,.slice Ax xs.length cx],.agg #[.bool sy,.slice Ay ys.length cy],.slice B n d] w (zkZ (m+1) out X Y (l.map Cv.cl) base v0 w):=by
 intro m
 induction m using Nat.strongRecOn with
 | _ m ih =>
  intro out v0 sx Ax cx xs sy Ay cy ys X Y B d n l w hm how hbase hux huy hkx hky hvx hvy hX1 hX2 hY1 hY2 hcs hn hcr hfar hlen;rcases Nat.eq_zero_or_pos n with hn0|hn0
  ·subst hn0;rw[List.eq_nil_of_length_eq_zero hn];exact znz base (m+1) out v0 _ Ax Ay B cx cy d sx sy xs ys X Y w how
  have hcapx:=hux.cap;have hcapy:=huy.cap;have hcap:=hcs.cap;rw[hn] at hcap;have hn9:n≤900000:=by
   have h1:1*n≤(m+1)*n:=Nat.mul_le_mul_right n (by omega);omega
  obtain⟨b,off,rfl,hb0,hcl0⟩:=hcs.at_ (by omega)
  obtain⟨W,hW⟩:∃W:World,W=(w.alloc (.cells #[.bool sx,.slice Ax xs.length cx] 48)).alloc (.cells #[.bool sy,.slice Ay ys.length cy] 48):=⟨_,rfl⟩;have hb:Below w.heap.size w W:=by rw[hW];exact((Below.refl _ w).alloc (Nat.le_refl _) _).alloc (by simp) _
  have hsz:W.heap.size=w.heap.size+1+1:=by rw[hW];simp
  have hbx:HX W w.heap.size sx Ax cx xs X:=⟨by rw[hW];exact(Below.heap_alloc _ _ _ (by simp)).trans (heap_alloc_new w _),hux.below hb,hkx,hvx,fun h0 a ea=>by have:=zbQ hux h0 a ea;omega⟩;have hby:HX W (w.heap.size+1) sy Ay cy ys Y:=⟨by
   have h:=heap_alloc_new (w.alloc (.cells #[.bool sx,.slice Ax xs.length cx] 48)) (.cells #[.bool sy,.slice Ay ys.length cy] 48);rw[show(w.alloc (.cells #[.bool sx,.slice Ax xs.length cx] 48)).heap.size=w.heap.size+1 by simp] at h;rw[hW];exact h,huy.below hb,hky,hvy,fun h0 a ea=>by have:=zbQ huy h0 a ea;omega⟩
  have HB:=Hh hb;have HBX:=Hh hbx;have HBY:=Hh hby;have HSZ:=Hh hsz;have HW:=Hh hW;have HUX:=Hh hux;have HUY:=Hh huy;have HN:=Hh hn;have HCS:=Hh (hcs.below hb);have HCR:=Hh hcr;have HF:=Hh hfar;have HO:=Hh (how.stays hb);have HBA:=Hh hbase;have HLE:=Hh hlen;have IH:=Hh ih;have HST:=Hh (show ∀u∈l,u.st≤255 from fun u hu=>(hcs.1 u hu).2.2);have hp1:=zar (m+1);have hp2:=zar 1329;have hp3:p2 1330=p2 1329+p2 1329:=zau 1329;have HXB:=Hh (And.intro (show -p2 1330≤X by omega) (show X≤p2 1330 by omega));have HYB:=Hh (And.intro (show -p2 1330≤Y by omega) (show Y≤p2 1330 by omega));have HPB:=Hh (And.intro hX1 (And.intro hX2 (And.intro hY1 hY2)));obtain⟨L,hL⟩:∃L,L=l.map Cv.cl:=⟨_,rfl⟩;rw[←hL];have HLM:=Hh hL;obtain⟨y,hy⟩:∃y,y=topP m out X Y L:=⟨_,rfl⟩;have HY:=Hh hy;obtain⟨R,hR⟩:∃R,R=zkZ (m+1) out X Y L base v0 w:=⟨_,rfl⟩;rw[←hR];have HR:=Hh hR;have t0:((n:Int)==0)=false:=beq_eq_false_iff_ne.2 (by omega);clear hp1 hp2 hp3 hX1 hX2 hY1 hY2 hb hsz hbx hby hW hux huy hkx hky hvx hvy hn hcs hcr hfar how hbase hlen ih hL hy hR hcl0;go_enter Tryz.func145,Tryz.ntmps145;go_wp2_with (go_at_call 109;go_loud (rw[←HW.out];refine(zun _ _).mono ?_;rintro e w5 ⟨A5,c5,s5,r5,rfl,u5,k5,v5,b5,f5⟩;rw[zdT m (by omega)] at v5;have U5:=Hh u5;have K5:=Hh k5;have V5:=Hh v5;have B5:=Hh b5;have F5:=Hh f5;clear u5 k5 v5 b5 f5));obtain⟨gh,hgh⟩:∃g,g=w5.heap.size:=⟨_,rfl⟩;have S0:=Hh (show PlJ w base v0 (some ⟨b,off,none⟩) d l sx Ax cx xs X sy Ay cy ys Y gh s5 A5 c5 r5 m (gh+1) y 0 v0 out ((w5.alloc (.cells #[.bool s5,.slice A5 r5.length c5] 48)).alloc (.cells #[.int .i64 ((m:Int)+1),.int .i64 0,.int .i64 0,.int .i64 0,.int .i64 0] 70)) by
   have bl5:=(Below.refl w5.heap.size w5).alloc (Nat.le_refl _) (.cells #[.bool s5,.slice A5 r5.length c5] 48);have bl6:=(bl5.mono (Nat.le_refl _)).alloc (show w5.heap.size≤_ from by simp) (.cells #[.int .i64 ((m:Int)+1),.int .i64 0,.int .i64 0,.int .i64 0,.int .i64 0] 70);have hs5:=B5.out.size;have hsz5:=HSZ.out;have hg5:=heap_alloc_new w5 (.cells #[.bool s5,.slice A5 r5.length c5] 48);have hn6:=zbk.new (w5.alloc (.cells #[.bool s5,.slice A5 r5.length c5] 48)) ⟨(m:Int)+1,0,0,0,0⟩;rw[show(w5.alloc (.cells #[.bool s5,.slice A5 r5.length c5] 48)).heap.size=gh+1 by rw[hgh];simp] at hn6;have hal:=B5.out.trans (bl6.mono B5.out.size);refine⟨((Ky.refl _ _).below HB.out).below hal,HCS.out.below hal,HBX.out.next hal,HBY.out.next hal,⟨?_,U5.out.below bl6,K5.out,V5.out,fun h0 a ea=>by have:=zbQ U5.out h0 a ea;omega⟩,by omega,Nat.lt_succ_self _,fun h0 a ea=>⟨by have:=F5.out a ea;omega,by have:=zbQ U5.out h0 a ea;omega⟩,hn6,HO.out.stays hal,fun q hq=>.inl hq⟩;rw[hgh];exact(Below.heap_alloc _ _ _ (by simp)).trans hg5)
  rw[←hgh];clear hgh;go_loopw [14,0] (fun z z0 wr=>∃(k:Nat) (v:Value),k≤4∧z=.int .i64 k∧v=z0∧PlJ w base v0 (some ⟨b,off,none⟩) d l sx Ax cx xs X sy Ay cy ys Y gh s5 A5 c5 r5 m (gh+1) y k v (outP m out X Y L k) wr) (fun z _ _=>4-(intOf z).toNat)
  case atStart=>exact⟨0,_,by omega,rfl,rfl,S0.out⟩
  case round =>
   obtain⟨k,v,hk,rfl,rfl,R_⟩:=hrel;have RR:=Hh R_;by_cases hlt:k<4
   ·have j0:(0:Int)≤(k:Int):=by omega
    have j00:(k:Int)<4:=by omega
    have t1:decide ((k:Int)<4)=true:=decide_eq_true j00;have q1:=R_.bx.c0;have q2:=R_.bx.c1;have q3:=R_.by_.c0;have q4:=R_.by_.c1;clear R_;have n1:=World.new_ne wr _ q1;have n2:=World.new_ne wr _ q2;have n3:=World.new_ne wr _ q3;have n4:=World.new_ne wr _ q4;go_wp2_with fail;go_cut [15,16] from 32 to 33 (fun s15 s16 wx=>∃ga gb,s15=.pointer (some ⟨ga,0,none⟩)∧s16=.pointer (some ⟨gb,0,none⟩)∧RlB (PXY Ax xs Ay ys) w.heap.size wr ga gb sx Ax cx xs X sy Ay cy ys Y wx)
    case first =>
     go_region_held3 (fun w'=>w'.cell? ⟨w.heap.size,0,none⟩=some (.bool sx)∧w'.cell? ⟨w.heap.size,1,none⟩=some (.slice Ax xs.length cx)∧w'.cell? ⟨w.heap.size+1,0,none⟩=some (.bool sy)∧w'.cell? ⟨w.heap.size+1,1,none⟩=some (.slice Ay ys.length cy))
      (first|go_keep|fail)
      (first|fail)
     all_goals
      go_wp2_with fail;go_meet;have hmk:=zny wr RR.out.bx RR.out.by_ (P:=PXY Ax xs Ay ys) (B:=w.heap.size) (fun h0 a ea=>⟨.inl ⟨h0,a,ea,rfl⟩,zbQ HUX.out h0 a ea⟩) (fun h0 a ea=>⟨.inr ⟨h0,a,ea,rfl⟩,zbQ HUY.out h0 a ea⟩)
      first
       | exact⟨_,_,rfl,rfl,hmk.1⟩
       | exact⟨_,_,rfl,rfl,hmk.2⟩
    case rest =>
     obtain⟨ga,gb,rfl,rfl,hB⟩:=hcut;have HB0:=Hh hB;obtain⟨bX,hbX⟩:∃b,b=((k:Int)%2==1):=⟨_,rfl⟩;obtain⟨bY,hbY⟩:∃b,b=decide ((k:Int)>1):=⟨_,rfl⟩;have tX:=hbX.symm;have tY:=hbY.symm;have HBX_:=Hh hbX;have HBY_:=Hh hbY;have RJ:=Hh (RR.out.nextP (hB.b));clear hbX hbY hB q1 q2 q3 q4 n1 n2 n3 n4;go_upto_if 36 with(fail)
     go_cut [] from 37 to 39 (fun wx=>∃sa Aa ca us,RlB (PXY Ax xs Ay ys) w.heap.size wr ga gb sa Aa ca us (X+offI (p2 m) k) sy Ay cy ys Y wx∧zaE sa us)
     case first =>
      cases bX with
      | false =>
       go_wp2_with fail;go_meet;exact⟨sx,Ax,cx,xs,by rw[zsf HBX_.out hlt,Int.add_zero];exact HB0.out,RJ.out.bx.cn⟩
      | true =>
       have q1:=RJ.out.bx.c0;have q2:=RJ.out.bx.c1;have q3:=RJ.out.bh.c0;have q4:=RJ.out.bh.c1;have hcp:=RJ.out.bh.us.cap;have hl1:=zbn RJ.out.bx.cn RJ.out.bx.v HXB.out.1 HXB.out.2;have hl2:=zch RJ.out.bh.cn RJ.out.bh.v (by omega);go_wp2_with (go_at_call 71;go_loud (refine(zpn sx s5 _ _ _ _ xs r5 _ RJ.out.bx.us RJ.out.bh.us (by omega) (by omega)).mono ?_;rintro e w6 ⟨A6,c6,s6,r6,rfl,u6,k6,v6,b6,f6⟩;rw[RJ.out.bx.v,RJ.out.bh.v] at v6;have HB6:=Hh (HB0.out.next b6);have U6:=Hh u6;have K6:=Hh k6;have V6:=Hh v6;have F6:=Hh (show FrU wr.heap.size A6 from fun a ea=>Nat.le_trans HB0.out.b.size (f6 a ea));have y1:=HB6.out.a.c0;have y2:=HB6.out.a.c1;have y3:=HB6.out.a.free 0;have y4:=HB6.out.a.free 1;clear u6 k6 v6 b6 f6));go_meet;exact⟨s6,A6,c6,r6,HB6.out.setA U6.out K6.out (by rw[V6.out,zsg HBX_.out hlt]) F6.out,K6.out⟩
     case rest =>
      obtain⟨sa,Aa,ca,us,hB,hka⟩:=hcut;have HB1:=Hh hB;have HKA:=Hh hka;have RJ1:=Hh (RR.out.nextP hB.b);clear hB hka tX;go_upto_if 41 with(fail)
      go_cut [] from 42 to 44 (fun wx=>∃sb Ab cb vs,RlB (PXY Ax xs Ay ys) w.heap.size wr ga gb sa Aa ca us (X+offI (p2 m) k) sb Ab cb vs (Y+offJ (p2 m) k) wx∧zaE sb vs)
      case first =>
       cases bY with
       | false =>
        go_wp2_with fail;go_meet;exact⟨sy,Ay,cy,ys,by rw[zpu HBY_.out hlt,Int.add_zero];exact HB1.out,RJ1.out.by_.cn⟩
       | true =>
        have q1:=RJ1.out.by_.c0;have q2:=RJ1.out.by_.c1;have q3:=RJ1.out.bh.c0;have q4:=RJ1.out.bh.c1;have hcp:=RJ1.out.bh.us.cap;have hl1:=zbn RJ1.out.by_.cn RJ1.out.by_.v HYB.out.1 HYB.out.2;have hl2:=zch RJ1.out.bh.cn RJ1.out.bh.v (by omega);go_wp2_with (go_at_call 71;go_loud (refine(zpn sy s5 _ _ _ _ ys r5 _ RJ1.out.by_.us RJ1.out.bh.us (by omega) (by omega)).mono ?_;rintro e w6 ⟨A6,c6,s6,r6,rfl,u6,k6,v6,b6,f6⟩;rw[RJ1.out.by_.v,RJ1.out.bh.v] at v6;have HB6:=Hh (HB1.out.next b6);have U6:=Hh u6;have K6:=Hh k6;have V6:=Hh v6;have F6:=Hh (show FrU wr.heap.size A6 from fun a ea=>Nat.le_trans HB1.out.b.size (f6 a ea));have y1:=HB6.out.d.c0;have y2:=HB6.out.d.c1;have y3:=HB6.out.d.free 0;have y4:=HB6.out.d.free 1;clear u6 k6 v6 b6 f6));go_meet;exact⟨s6,A6,c6,r6,HB6.out.setB U6.out K6.out (by rw[V6.out,zpv HBY_.out hlt]) F6.out,K6.out⟩
      case rest =>
       obtain⟨sb,Ab,cb,vs,hB,hkb⟩:=hcut;have HB2:=Hh hB;have HKB:=Hh hkb;have RJ2:=Hh (RR.out.nextP hB.b);clear hB hkb tY;obtain⟨wo,hwo⟩:∃wo,wo=wr:=⟨_,rfl⟩;subst hwo;obtain⟨wl,hwl⟩:∃wl,wl=wc:=⟨_,rfl⟩;subst hwl;obtain⟨X',hX'⟩:∃z,z=X+offI (p2 m) k:=⟨_,rfl⟩;obtain⟨Y',hY'⟩:∃z,z=Y+offJ (p2 m) k:=⟨_,rfl⟩;have HB3:=Hh (show RlB (PXY Ax xs Ay ys) w.heap.size wo ga gb sa Aa ca us X' sb Ab cb vs Y' wl by rw[hX',hY'];exact HB2.out);have HX':=Hh hX';have HY':=Hh hY';clear HB2 hX' hY';go_wp2_with fail;go_loopw [18,17] (fun z z17 wi=>∃(i:Nat) (vi:Value),i≤n∧z=.int .i64 i∧vi=z17∧Below wl.heap.size wl wi∧OwnC wi wl.heap.size vi ((l.take i).filter (sqC X' Y' (p2 m)))) (fun z _ _=>n-(intOf z).toNat)
       case atStart=>exact⟨0,_,by omega,rfl,rfl,Below.refl _ _,OwnC.nil _ _⟩
       case round =>
        obtain⟨i,vi,hi,rfl,rfl,hbi,hoi⟩:=hrel;have HBI:=Hh hbi;have HOI:=Hh hoi;by_cases hin:i<n
        ·have ti:decide ((i:Int)<(n:Int))=true:=decide_eq_true (by omega);have j1:(0:Int)≤(i:Int):=by omega
         have j2:(i:Int)<(n:Int):=by omega
         obtain⟨x,hx⟩:∃x,x=cat l i:=⟨_,rfl⟩;have hcc:=RJ2.out.cs.below hbi;obtain⟨b',off',e',hbl,hcl⟩:=hcc.at_ (by rw[HN.out];omega)
         cases e';have hxat:=hcl i (by rw[HN.out];exact hin);rw[←hx] at hxat;have hxm:x∈l:=by rw[hx];exact zda (by rw[HN.out];exact hin)
         have HXM:=Hh hxm;have HXA:=Hh hxat;have HX_:=Hh hx;have HU:=Hh (hcc.1 x hxm);have hxr:=HCR.out x hxm;have HUL:=Hh (And.intro hxr.2.2.1 hxr.2.2.2);have hpa:=HB3.out.a.next hbi;have hpd:=HB3.out.d.next hbi;have hph:=RJ2.out.bh.next hbi;have HA:=Hh hpa.us;have HAV:=Hh hpa.v;have HD:=Hh hpd.us;have HDV:=Hh hpd.v;have HH5:=Hh hph.us;have HV5:=Hh hph.v;have hle:=zuk HPB.out hlt;have hqt:=zff HPB.out hlt;have HLA:=Hh (show us.length≤60000 from Nat.le_trans (zbn hpa.cn (hpa.v.trans HX'.out) hle.1 hle.2.1) (by decide));have HLB:=Hh (show vs.length≤60000 from Nat.le_trans (zbn hpd.cn (hpd.v.trans HY'.out) hle.2.2.1 hle.2.2.2) (by decide));have HL5:=Hh (show r5.length≤60000 from Nat.le_trans (zch hph.cn hph.v (by omega)) (by decide));have hq9:p2 1330=p2 1329+p2 1329:=zau 1329;have hq8:=zar 1329;have hq7:=zar m;have HXN:=Hh (show -p2 1330≤X'+p2 m∧X'+p2 m≤p2 1330 by rw[HX'.out];omega);have HYN:=Hh (show -p2 1330≤Y'+p2 m∧Y'+p2 m≤p2 1330 by rw[HY'.out];omega);have hcapx1:=HU.out.1.cap;have hcapy1:=HU.out.2.1.cap;have hcapa:=HA.out.cap;have hcapb:=HD.out.cap;have hcaph:=HH5.out.cap;obtain⟨f1,f2,f3,f4,f5⟩:=hxat;have HS0:=Hh (show(wr.cell? ⟨b,off+i*5,none⟩=some (.bool x.sx)∧wr.cell? ⟨b,off+i*5+1,none⟩=some (.slice x.ax x.xs.length x.cx)∧wr.cell? ⟨b,off+i*5+2,none⟩=some (.bool x.sy)∧wr.cell? ⟨b,off+i*5+3,none⟩=some (.slice x.ay x.ys.length x.cy))∧(wr.cell? ⟨ga,0,none⟩=some (.bool sa)∧wr.cell? ⟨ga,1,none⟩=some (.slice Aa us.length ca))∧(wr.cell? ⟨gb,0,none⟩=some (.bool sb)∧wr.cell? ⟨gb,1,none⟩=some (.slice Ab vs.length cb))∧wr.cell? ⟨gh,0,none⟩=some (.bool s5)∧wr.cell? ⟨gh,1,none⟩=some (.slice A5 r5.length c5) from⟨⟨f1,f2,f3,f4⟩,⟨hpa.c0,hpa.c1⟩,⟨hpd.c0,hpd.c1⟩,hph.c0,hph.c1⟩);clear f1 f2 f3 f4 f5 hpa hpd hph hcc hcl hbi hoi hx hxm hxr hle hqt hq9 hq8 hq7;go_wp2_with fail;go_cut [92] from 51 to 91 (fun s92 wx=>s92=.bool (sqC X' Y' (p2 m) x)∧Below wr.heap.size wr wx)
         case first =>
          obtain⟨sq,hsq⟩:∃sq,sq=sqC X' Y' (p2 m) x:=⟨_,rfl⟩;have HQX:=Hh hsq;rw[zvy] at hsq;obtain⟨ra,hra⟩:∃r,r=ordI (ival x.sx x.xs) X':=⟨_,rfl⟩;obtain⟨rb,hrb⟩:∃r,r=ordI (ival x.sx x.xs) (X'+p2 m):=⟨_,rfl⟩;obtain⟨rc,hrc⟩:∃r,r=ordI (ival x.sy x.ys) Y':=⟨_,rfl⟩;obtain⟨rd,hrd⟩:∃r,r=ordI (ival x.sy x.ys) (Y'+p2 m):=⟨_,rfl⟩;have ea:decide (X'≤x.cl.x)=decide (ra≥0):=by rw[hra,ziI];rfl
          have eb:decide (x.cl.x<X'+p2 m)=decide (rb<0):=by rw[hrb,zgD];rfl
          have ec:decide (Y'≤x.cl.y)=decide (rc≥0):=by rw[hrc,ziI];rfl
          have ed:decide (x.cl.y<Y'+p2 m)=decide (rd<0):=by rw[hrd,zgD];rfl
          rw[ea,eb,ec,ed] at hsq;have HRA:=Hh hra;have HRB:=Hh hrb;have HRC:=Hh hrc;have HRD:=Hh hrd;clear hra hrb hrc hrd ea eb ec ed;by_cases ta:ra≥0
          ·have xa:decide (ra≥0)=true:=decide_eq_true ta;by_cases tb:rb<0
           ·have xb:decide (rb<0)=true:=decide_eq_true tb;by_cases tc:rc≥0
            ·have xc:decide (rc≥0)=true:=decide_eq_true tc;obtain⟨bd,hbd⟩:∃bd,bd=decide (rd<0):=⟨_,rfl⟩;have xd:=hbd.symm;rw[xa,xb,xc,←hbd] at hsq;have HSQ:=Hh (show sq=bd by rw[hsq];rfl);clear ta tb tc hsq hbd;refine wp_region_noPanic ?_;refine wp_region_held (S:=fun w'=>(w'.cell? ⟨b,off+i*5,none⟩=some (.bool x.sx)∧w'.cell? ⟨b,off+i*5+1,none⟩=some (.slice x.ax x.xs.length x.cx)∧w'.cell? ⟨b,off+i*5+2,none⟩=some (.bool x.sy)∧w'.cell? ⟨b,off+i*5+3,none⟩=some (.slice x.ay x.ys.length x.cy))∧(w'.cell? ⟨ga,0,none⟩=some (.bool sa)∧w'.cell? ⟨ga,1,none⟩=some (.slice Aa us.length ca))∧(w'.cell? ⟨gb,0,none⟩=some (.bool sb)∧w'.cell? ⟨gb,1,none⟩=some (.slice Ab vs.length cb))∧w'.cell? ⟨gh,0,none⟩=some (.bool s5)∧w'.cell? ⟨gh,1,none⟩=some (.slice A5 r5.length c5)) (by kernel_rfl) ?_;have hS0:=ziS HS0.out;change wpAnyH _ _ _ _ _ _ _ _ wr.drew;have BW:=Hh (show Below wr.heap.size wr wr.drew from zaa (Below.refl _ wr) 1);refine Tk1 (v:=?_) 0 hS0 ?_ ?_;rotate_left
             ·rintro w' ⟨⟨s1,s2,s3,s4⟩,⟨s5,s6⟩,⟨s7,s8⟩,s9,s10⟩;go_simp;first|done|with_reducible rfl|rfl
             simp only[Act.put,LA];refine Tk1 (v:=?_) 1 hS0 ?_ ?_;rotate_left
             ·rintro w' ⟨⟨s1,s2,s3,s4⟩,⟨s5,s6⟩,⟨s7,s8⟩,s9,s10⟩;go_simp;first|done|with_reducible rfl|rfl
             simp only[Act.put,LA];refine Tk1 (v:=?_) 2 hS0 ?_ ?_;rotate_left
             ·rintro w' ⟨⟨s1,s2,s3,s4⟩,⟨s5,s6⟩,⟨s7,s8⟩,s9,s10⟩;go_simp;first|done|with_reducible rfl|rfl
             simp only[Act.put,LA];refine Tk1 (v:=?_) 3 hS0 ?_ ?_;rotate_left
             ·rintro w' ⟨⟨s1,s2,s3,s4⟩,⟨s5,s6⟩,⟨s7,s8⟩,s9,s10⟩;go_simp;first|done|with_reducible rfl|rfl
             simp only[Act.put,LA];refine Tk1 (v:=?_) 4 hS0 ?_ ?_;rotate_left
             ·rintro w' ⟨⟨s1,s2,s3,s4⟩,⟨s5,s6⟩,⟨s7,s8⟩,s9,s10⟩;go_simp;first|done|with_reducible rfl|rfl
             simp only[Act.put,LA];refine Tk1 (v:=?_) 5 hS0 ?_ ?_;rotate_left
             ·rintro w' ⟨⟨s1,s2,s3,s4⟩,⟨s5,s6⟩,⟨s7,s8⟩,s9,s10⟩;go_simp;first|done|with_reducible rfl|rfl
             simp only[Act.put,LA];refine Rd1 6 fun K hK=>?_;go_simp;refine(zaf x.sx sa x.ax Aa x.cx ca x.xs us _ (HU.out.1.below BW.out) (HA.out.below BW.out) HUL.out.1 HLA.out).mono ?_;rintro e W1 ⟨rfl,b1⟩;dsimp only;rw[HAV.out,←HRA.out];have hS1:=zaN b1 hS0;have BW:=Hh (BW.out.trans (b1.mono BW.out.size));clear b1;refine hK.out _ _ hS1 (fun _=>?_);clear hK K;refine Tk1 (v:=?_) 7 hS1 ?_ ?_;rotate_left
             ·rintro w' ⟨⟨s1,s2,s3,s4⟩,⟨s5,s6⟩,⟨s7,s8⟩,s9,s10⟩;go_simp;first|done|with_reducible rfl|rfl
             simp only[Act.put,LA];refine Tk1 (v:=?_) 8 hS1 ?_ ?_;rotate_left
             ·rintro w' ⟨⟨s1,s2,s3,s4⟩,⟨s5,s6⟩,⟨s7,s8⟩,s9,s10⟩;go_simp;first|done|with_reducible rfl|rfl
             simp only[Act.put,LA];refine Tk1 (v:=?_) 9 hS1 ?_ ?_;rotate_left
             ·rintro w' ⟨⟨s1,s2,s3,s4⟩,⟨s5,s6⟩,⟨s7,s8⟩,s9,s10⟩;go_simp;first|done|with_reducible rfl|rfl
             simp only[Act.put,LA];refine Tk1 (v:=?_) 10 hS1 ?_ ?_;rotate_left
             ·rintro w' ⟨⟨s1,s2,s3,s4⟩,⟨s5,s6⟩,⟨s7,s8⟩,s9,s10⟩;go_simp;first|done|with_reducible rfl|rfl
             simp only[Act.put,LA];refine Tk1 (v:=?_) 11 hS1 ?_ ?_;rotate_left
             ·rintro w' ⟨⟨s1,s2,s3,s4⟩,⟨s5,s6⟩,⟨s7,s8⟩,s9,s10⟩;go_simp;first|done|with_reducible rfl|rfl
             simp only[Act.put,LA];refine Tk1 (v:=?_) 12 hS1 ?_ ?_;rotate_left
             ·rintro w' ⟨⟨s1,s2,s3,s4⟩,⟨s5,s6⟩,⟨s7,s8⟩,s9,s10⟩;go_simp;first|done|with_reducible rfl|rfl
             simp only[Act.put,LA];refine Tk1 (v:=?_) 13 hS1 ?_ ?_;rotate_left
             ·rintro w' ⟨⟨s1,s2,s3,s4⟩,⟨s5,s6⟩,⟨s7,s8⟩,s9,s10⟩;go_simp;first|done|with_reducible rfl|rfl
             simp only[Act.put,LA];refine Tk1 (v:=?_) 14 hS1 ?_ ?_;rotate_left
             ·rintro w' ⟨⟨s1,s2,s3,s4⟩,⟨s5,s6⟩,⟨s7,s8⟩,s9,s10⟩;go_simp;first|done|with_reducible rfl|rfl
             simp only[Act.put,LA];refine Tk1 (v:=?_) 15 hS1 ?_ ?_;rotate_left
             ·rintro w' ⟨⟨s1,s2,s3,s4⟩,⟨s5,s6⟩,⟨s7,s8⟩,s9,s10⟩;go_simp;first|done|with_reducible rfl|rfl
             simp only[Act.put,LA];refine Rd1 16 fun K hK=>?_;go_simp;refine(zbj sa s5 Aa A5 ca c5 us r5 _ (HA.out.below BW.out) (HH5.out.below BW.out) HLA.out HL5.out).mono ?_;rintro e W2 ⟨Ax,cx,sx,rx,rfl,ux,kx,vx,b2⟩;dsimp only;rw[HAV.out,HV5.out] at vx;have hcapx:=ux.cap;have hlnx:=zbn kx vx HXN.out.1 HXN.out.2;have hS2:=zaN b2 hS1;have BW:=Hh (BW.out.trans (b2.mono BW.out.size));clear b2;refine hK.out _ _ hS2 (fun _=>?_);clear hK K;refine Rd1 17 fun K hK=>?_;go_simp;refine(zaf x.sx sx x.ax Ax x.cx cx x.xs rx _ (HU.out.1.below BW.out) (ux) HUL.out.1 (by omega)).mono ?_;rintro e W3 ⟨rfl,b3⟩;dsimp only;rw[vx,←HRB.out];have hS3:=zaN b3 hS2;have BW:=Hh (BW.out.trans (b3.mono BW.out.size));clear b3;refine hK.out _ _ hS3 (fun _=>?_);clear hK K;refine Tk1 (v:=?_) 18 hS3 ?_ ?_;rotate_left
             ·rintro w' ⟨⟨s1,s2,s3,s4⟩,⟨s5,s6⟩,⟨s7,s8⟩,s9,s10⟩;go_simp;first|done|with_reducible rfl|rfl
             simp only[Act.put,LA];refine Tk1 (v:=?_) 19 hS3 ?_ ?_;rotate_left
             ·rintro w' ⟨⟨s1,s2,s3,s4⟩,⟨s5,s6⟩,⟨s7,s8⟩,s9,s10⟩;go_simp;first|done|with_reducible rfl|rfl
             simp only[Act.put,LA];refine Tk1 (v:=?_) 20 hS3 ?_ ?_;rotate_left
             ·rintro w' ⟨⟨s1,s2,s3,s4⟩,⟨s5,s6⟩,⟨s7,s8⟩,s9,s10⟩;go_simp;first|done|with_reducible rfl|rfl
             simp only[Act.put,LA];refine Tk1 (v:=?_) 21 hS3 ?_ ?_;rotate_left
             ·rintro w' ⟨⟨s1,s2,s3,s4⟩,⟨s5,s6⟩,⟨s7,s8⟩,s9,s10⟩;go_simp;first|done|with_reducible rfl|rfl
             simp only[Act.put,LA];refine Tk1 (v:=?_) 22 hS3 ?_ ?_;rotate_left
             ·rintro w' ⟨⟨s1,s2,s3,s4⟩,⟨s5,s6⟩,⟨s7,s8⟩,s9,s10⟩;go_simp;first|done|with_reducible rfl|rfl
             simp only[Act.put,LA];refine Tk1 (v:=?_) 23 hS3 ?_ ?_;rotate_left
             ·rintro w' ⟨⟨s1,s2,s3,s4⟩,⟨s5,s6⟩,⟨s7,s8⟩,s9,s10⟩;go_simp;first|done|with_reducible rfl|rfl
             simp only[Act.put,LA];refine Tk1 (v:=?_) 24 hS3 ?_ ?_;rotate_left
             ·rintro w' ⟨⟨s1,s2,s3,s4⟩,⟨s5,s6⟩,⟨s7,s8⟩,s9,s10⟩;go_simp;first|done|with_reducible rfl|rfl
             simp only[Act.put,LA];refine Tk1 (v:=?_) 25 hS3 ?_ ?_;rotate_left
             ·rintro w' ⟨⟨s1,s2,s3,s4⟩,⟨s5,s6⟩,⟨s7,s8⟩,s9,s10⟩;go_simp;first|done|with_reducible rfl|rfl
             simp only[Act.put,LA];refine Tk1 (v:=?_) 26 hS3 ?_ ?_;rotate_left
             ·rintro w' ⟨⟨s1,s2,s3,s4⟩,⟨s5,s6⟩,⟨s7,s8⟩,s9,s10⟩;go_simp;first|done|with_reducible rfl|rfl
             simp only[Act.put,LA];refine Rd1 27 fun K hK=>?_;go_simp;refine(zaf x.sy sb x.ay Ab x.cy cb x.ys vs _ (HU.out.2.1.below BW.out) (HD.out.below BW.out) HUL.out.2 HLB.out).mono ?_;rintro e W4 ⟨rfl,b4⟩;dsimp only;rw[HDV.out,←HRC.out];have hS4:=zaN b4 hS3;have BW:=Hh (BW.out.trans (b4.mono BW.out.size));clear b4;refine hK.out _ _ hS4 (fun _=>?_);clear hK K;refine Tk1 (v:=?_) 28 hS4 ?_ ?_;rotate_left
             ·rintro w' ⟨⟨s1,s2,s3,s4⟩,⟨s5,s6⟩,⟨s7,s8⟩,s9,s10⟩;go_simp;first|done|with_reducible rfl|rfl
             simp only[Act.put,LA];refine Tk1 (v:=?_) 29 hS4 ?_ ?_;rotate_left
             ·rintro w' ⟨⟨s1,s2,s3,s4⟩,⟨s5,s6⟩,⟨s7,s8⟩,s9,s10⟩;go_simp;first|done|with_reducible rfl|rfl
             simp only[Act.put,LA];refine Tk1 (v:=?_) 30 hS4 ?_ ?_;rotate_left
             ·rintro w' ⟨⟨s1,s2,s3,s4⟩,⟨s5,s6⟩,⟨s7,s8⟩,s9,s10⟩;go_simp;first|done|with_reducible rfl|rfl
             simp only[Act.put,LA];refine Tk1 (v:=?_) 31 hS4 ?_ ?_;rotate_left
             ·rintro w' ⟨⟨s1,s2,s3,s4⟩,⟨s5,s6⟩,⟨s7,s8⟩,s9,s10⟩;go_simp;first|done|with_reducible rfl|rfl
             simp only[Act.put,LA];refine Tk1 (v:=?_) 32 hS4 ?_ ?_;rotate_left
             ·rintro w' ⟨⟨s1,s2,s3,s4⟩,⟨s5,s6⟩,⟨s7,s8⟩,s9,s10⟩;go_simp;first|done|with_reducible rfl|rfl
             simp only[Act.put,LA];refine Tk1 (v:=?_) 33 hS4 ?_ ?_;rotate_left
             ·rintro w' ⟨⟨s1,s2,s3,s4⟩,⟨s5,s6⟩,⟨s7,s8⟩,s9,s10⟩;go_simp;first|done|with_reducible rfl|rfl
             simp only[Act.put,LA];refine Tk1 (v:=?_) 34 hS4 ?_ ?_;rotate_left
             ·rintro w' ⟨⟨s1,s2,s3,s4⟩,⟨s5,s6⟩,⟨s7,s8⟩,s9,s10⟩;go_simp;first|done|with_reducible rfl|rfl
             simp only[Act.put,LA];refine Tk1 (v:=?_) 35 hS4 ?_ ?_;rotate_left
             ·rintro w' ⟨⟨s1,s2,s3,s4⟩,⟨s5,s6⟩,⟨s7,s8⟩,s9,s10⟩;go_simp;first|done|with_reducible rfl|rfl
             simp only[Act.put,LA];refine Tk1 (v:=?_) 36 hS4 ?_ ?_;rotate_left
             ·rintro w' ⟨⟨s1,s2,s3,s4⟩,⟨s5,s6⟩,⟨s7,s8⟩,s9,s10⟩;go_simp;first|done|with_reducible rfl|rfl
             simp only[Act.put,LA];refine Tk1 (v:=?_) 37 hS4 ?_ ?_;rotate_left
             ·rintro w' ⟨⟨s1,s2,s3,s4⟩,⟨s5,s6⟩,⟨s7,s8⟩,s9,s10⟩;go_simp;first|done|with_reducible rfl|rfl
             simp only[Act.put,LA];refine Rd1 38 fun K hK=>?_;go_simp;refine(zbj sb s5 Ab A5 cb c5 vs r5 _ (HD.out.below BW.out) (HH5.out.below BW.out) HLB.out HL5.out).mono ?_;rintro e W5 ⟨Ay,cy,sy,ry,rfl,uy,ky,vy,b5⟩;dsimp only;rw[HDV.out,HV5.out] at vy;have hcapy:=uy.cap;have hlny:=zbn ky vy HYN.out.1 HYN.out.2;have hS5:=zaN b5 hS4;have BW:=Hh (BW.out.trans (b5.mono BW.out.size));clear b5;refine hK.out _ _ hS5 (fun _=>?_);clear hK K;refine Rd1 39 fun K hK=>?_;go_simp;refine(zaf x.sy sy x.ay Ay x.cy cy x.ys ry _ (HU.out.2.1.below BW.out) (uy) HUL.out.2 (by omega)).mono ?_;rintro e W6 ⟨rfl,b6⟩;dsimp only;rw[vy,←HRD.out];have hS6:=zaN b6 hS5;have BW:=Hh (BW.out.trans (b6.mono BW.out.size));clear b6;refine hK.out _ _ hS6 (fun _=>?_);clear hK K;refine Tk1 (v:=?_) 40 hS6 ?_ ?_;rotate_left
             ·rintro w' ⟨⟨s1,s2,s3,s4⟩,⟨s5,s6⟩,⟨s7,s8⟩,s9,s10⟩;go_simp;first|done|with_reducible rfl|rfl
             simp only[Act.put,LA];refine Tk1 (v:=?_) 41 hS6 ?_ ?_;rotate_left
             ·rintro w' ⟨⟨s1,s2,s3,s4⟩,⟨s5,s6⟩,⟨s7,s8⟩,s9,s10⟩;go_simp;first|done|with_reducible rfl|rfl
             simp only[Act.put,LA];refine wpAnyH_done (by kernel_rfl) ?_ _;refine NoPanic.normal ?_;go_wp2_with fail;go_meet;exact⟨by rw[←HQX.out,HSQ.out],BW.out⟩
            ·have xc:decide (rc≥0)=false:=decide_eq_false tc;rw[xa,xb,xc] at hsq;have HSQ:=Hh (show sq=false by rw[hsq];rfl);clear ta tb tc hsq;refine wp_region_noPanic ?_;refine wp_region_held (S:=fun w'=>(w'.cell? ⟨b,off+i*5,none⟩=some (.bool x.sx)∧w'.cell? ⟨b,off+i*5+1,none⟩=some (.slice x.ax x.xs.length x.cx)∧w'.cell? ⟨b,off+i*5+2,none⟩=some (.bool x.sy)∧w'.cell? ⟨b,off+i*5+3,none⟩=some (.slice x.ay x.ys.length x.cy))∧(w'.cell? ⟨ga,0,none⟩=some (.bool sa)∧w'.cell? ⟨ga,1,none⟩=some (.slice Aa us.length ca))∧(w'.cell? ⟨gb,0,none⟩=some (.bool sb)∧w'.cell? ⟨gb,1,none⟩=some (.slice Ab vs.length cb))∧w'.cell? ⟨gh,0,none⟩=some (.bool s5)∧w'.cell? ⟨gh,1,none⟩=some (.slice A5 r5.length c5)) (by kernel_rfl) ?_;have hS0:=ziS HS0.out;change wpAnyH _ _ _ _ _ _ _ _ wr.drew;have BW:=Hh (show Below wr.heap.size wr wr.drew from zaa (Below.refl _ wr) 1);refine Tk1 (v:=?_) 0 hS0 ?_ ?_;rotate_left
             ·rintro w' ⟨⟨s1,s2,s3,s4⟩,⟨s5,s6⟩,⟨s7,s8⟩,s9,s10⟩;go_simp;first|done|with_reducible rfl|rfl
             simp only[Act.put,LA];refine Tk1 (v:=?_) 1 hS0 ?_ ?_;rotate_left
             ·rintro w' ⟨⟨s1,s2,s3,s4⟩,⟨s5,s6⟩,⟨s7,s8⟩,s9,s10⟩;go_simp;first|done|with_reducible rfl|rfl
             simp only[Act.put,LA];refine Tk1 (v:=?_) 2 hS0 ?_ ?_;rotate_left
             ·rintro w' ⟨⟨s1,s2,s3,s4⟩,⟨s5,s6⟩,⟨s7,s8⟩,s9,s10⟩;go_simp;first|done|with_reducible rfl|rfl
             simp only[Act.put,LA];refine Tk1 (v:=?_) 3 hS0 ?_ ?_;rotate_left
             ·rintro w' ⟨⟨s1,s2,s3,s4⟩,⟨s5,s6⟩,⟨s7,s8⟩,s9,s10⟩;go_simp;first|done|with_reducible rfl|rfl
             simp only[Act.put,LA];refine Tk1 (v:=?_) 4 hS0 ?_ ?_;rotate_left
             ·rintro w' ⟨⟨s1,s2,s3,s4⟩,⟨s5,s6⟩,⟨s7,s8⟩,s9,s10⟩;go_simp;first|done|with_reducible rfl|rfl
             simp only[Act.put,LA];refine Tk1 (v:=?_) 5 hS0 ?_ ?_;rotate_left
             ·rintro w' ⟨⟨s1,s2,s3,s4⟩,⟨s5,s6⟩,⟨s7,s8⟩,s9,s10⟩;go_simp;first|done|with_reducible rfl|rfl
             simp only[Act.put,LA];refine Rd1 6 fun K hK=>?_;go_simp;refine(zaf x.sx sa x.ax Aa x.cx ca x.xs us _ (HU.out.1.below BW.out) (HA.out.below BW.out) HUL.out.1 HLA.out).mono ?_;rintro e W1 ⟨rfl,b1⟩;dsimp only;rw[HAV.out,←HRA.out];have hS1:=zaN b1 hS0;have BW:=Hh (BW.out.trans (b1.mono BW.out.size));clear b1;refine hK.out _ _ hS1 (fun _=>?_);clear hK K;refine Tk1 (v:=?_) 7 hS1 ?_ ?_;rotate_left
             ·rintro w' ⟨⟨s1,s2,s3,s4⟩,⟨s5,s6⟩,⟨s7,s8⟩,s9,s10⟩;go_simp;first|done|with_reducible rfl|rfl
             simp only[Act.put,LA];refine Tk1 (v:=?_) 8 hS1 ?_ ?_;rotate_left
             ·rintro w' ⟨⟨s1,s2,s3,s4⟩,⟨s5,s6⟩,⟨s7,s8⟩,s9,s10⟩;go_simp;first|done|with_reducible rfl|rfl
             simp only[Act.put,LA];refine Tk1 (v:=?_) 9 hS1 ?_ ?_;rotate_left
             ·rintro w' ⟨⟨s1,s2,s3,s4⟩,⟨s5,s6⟩,⟨s7,s8⟩,s9,s10⟩;go_simp;first|done|with_reducible rfl|rfl
             simp only[Act.put,LA];refine Tk1 (v:=?_) 10 hS1 ?_ ?_;rotate_left
             ·rintro w' ⟨⟨s1,s2,s3,s4⟩,⟨s5,s6⟩,⟨s7,s8⟩,s9,s10⟩;go_simp;first|done|with_reducible rfl|rfl
             simp only[Act.put,LA];refine Tk1 (v:=?_) 11 hS1 ?_ ?_;rotate_left
             ·rintro w' ⟨⟨s1,s2,s3,s4⟩,⟨s5,s6⟩,⟨s7,s8⟩,s9,s10⟩;go_simp;first|done|with_reducible rfl|rfl
             simp only[Act.put,LA];refine Tk1 (v:=?_) 12 hS1 ?_ ?_;rotate_left
             ·rintro w' ⟨⟨s1,s2,s3,s4⟩,⟨s5,s6⟩,⟨s7,s8⟩,s9,s10⟩;go_simp;first|done|with_reducible rfl|rfl
             simp only[Act.put,LA];refine Tk1 (v:=?_) 13 hS1 ?_ ?_;rotate_left
             ·rintro w' ⟨⟨s1,s2,s3,s4⟩,⟨s5,s6⟩,⟨s7,s8⟩,s9,s10⟩;go_simp;first|done|with_reducible rfl|rfl
             simp only[Act.put,LA];refine Tk1 (v:=?_) 14 hS1 ?_ ?_;rotate_left
             ·rintro w' ⟨⟨s1,s2,s3,s4⟩,⟨s5,s6⟩,⟨s7,s8⟩,s9,s10⟩;go_simp;first|done|with_reducible rfl|rfl
             simp only[Act.put,LA];refine Tk1 (v:=?_) 15 hS1 ?_ ?_;rotate_left
             ·rintro w' ⟨⟨s1,s2,s3,s4⟩,⟨s5,s6⟩,⟨s7,s8⟩,s9,s10⟩;go_simp;first|done|with_reducible rfl|rfl
             simp only[Act.put,LA];refine Rd1 16 fun K hK=>?_;go_simp;refine(zbj sa s5 Aa A5 ca c5 us r5 _ (HA.out.below BW.out) (HH5.out.below BW.out) HLA.out HL5.out).mono ?_;rintro e W2 ⟨Ax,cx,sx,rx,rfl,ux,kx,vx,b2⟩;dsimp only;rw[HAV.out,HV5.out] at vx;have hcapx:=ux.cap;have hlnx:=zbn kx vx HXN.out.1 HXN.out.2;have hS2:=zaN b2 hS1;have BW:=Hh (BW.out.trans (b2.mono BW.out.size));clear b2;refine hK.out _ _ hS2 (fun _=>?_);clear hK K;refine Rd1 17 fun K hK=>?_;go_simp;refine(zaf x.sx sx x.ax Ax x.cx cx x.xs rx _ (HU.out.1.below BW.out) (ux) HUL.out.1 (by omega)).mono ?_;rintro e W3 ⟨rfl,b3⟩;dsimp only;rw[vx,←HRB.out];have hS3:=zaN b3 hS2;have BW:=Hh (BW.out.trans (b3.mono BW.out.size));clear b3;refine hK.out _ _ hS3 (fun _=>?_);clear hK K;refine Tk1 (v:=?_) 18 hS3 ?_ ?_;rotate_left
             ·rintro w' ⟨⟨s1,s2,s3,s4⟩,⟨s5,s6⟩,⟨s7,s8⟩,s9,s10⟩;go_simp;first|done|with_reducible rfl|rfl
             simp only[Act.put,LA];refine Tk1 (v:=?_) 19 hS3 ?_ ?_;rotate_left
             ·rintro w' ⟨⟨s1,s2,s3,s4⟩,⟨s5,s6⟩,⟨s7,s8⟩,s9,s10⟩;go_simp;first|done|with_reducible rfl|rfl
             simp only[Act.put,LA];refine Tk1 (v:=?_) 20 hS3 ?_ ?_;rotate_left
             ·rintro w' ⟨⟨s1,s2,s3,s4⟩,⟨s5,s6⟩,⟨s7,s8⟩,s9,s10⟩;go_simp;first|done|with_reducible rfl|rfl
             simp only[Act.put,LA];refine Tk1 (v:=?_) 21 hS3 ?_ ?_;rotate_left
             ·rintro w' ⟨⟨s1,s2,s3,s4⟩,⟨s5,s6⟩,⟨s7,s8⟩,s9,s10⟩;go_simp;first|done|with_reducible rfl|rfl
             simp only[Act.put,LA];refine Tk1 (v:=?_) 22 hS3 ?_ ?_;rotate_left
             ·rintro w' ⟨⟨s1,s2,s3,s4⟩,⟨s5,s6⟩,⟨s7,s8⟩,s9,s10⟩;go_simp;first|done|with_reducible rfl|rfl
             simp only[Act.put,LA];refine Tk1 (v:=?_) 23 hS3 ?_ ?_;rotate_left
             ·rintro w' ⟨⟨s1,s2,s3,s4⟩,⟨s5,s6⟩,⟨s7,s8⟩,s9,s10⟩;go_simp;first|done|with_reducible rfl|rfl
             simp only[Act.put,LA];refine Tk1 (v:=?_) 24 hS3 ?_ ?_;rotate_left
             ·rintro w' ⟨⟨s1,s2,s3,s4⟩,⟨s5,s6⟩,⟨s7,s8⟩,s9,s10⟩;go_simp;first|done|with_reducible rfl|rfl
             simp only[Act.put,LA];refine Tk1 (v:=?_) 25 hS3 ?_ ?_;rotate_left
             ·rintro w' ⟨⟨s1,s2,s3,s4⟩,⟨s5,s6⟩,⟨s7,s8⟩,s9,s10⟩;go_simp;first|done|with_reducible rfl|rfl
             simp only[Act.put,LA];refine Tk1 (v:=?_) 26 hS3 ?_ ?_;rotate_left
             ·rintro w' ⟨⟨s1,s2,s3,s4⟩,⟨s5,s6⟩,⟨s7,s8⟩,s9,s10⟩;go_simp;first|done|with_reducible rfl|rfl
             simp only[Act.put,LA];refine Rd1 27 fun K hK=>?_;go_simp;refine(zaf x.sy sb x.ay Ab x.cy cb x.ys vs _ (HU.out.2.1.below BW.out) (HD.out.below BW.out) HUL.out.2 HLB.out).mono ?_;rintro e W4 ⟨rfl,b4⟩;dsimp only;rw[HDV.out,←HRC.out];have hS4:=zaN b4 hS3;have BW:=Hh (BW.out.trans (b4.mono BW.out.size));clear b4;refine hK.out _ _ hS4 (fun _=>?_);clear hK K;refine Tk1 (v:=?_) 28 hS4 ?_ ?_;rotate_left
             ·rintro w' ⟨⟨s1,s2,s3,s4⟩,⟨s5,s6⟩,⟨s7,s8⟩,s9,s10⟩;go_simp;first|done|with_reducible rfl|rfl
             simp only[Act.put,LA];refine Tk1 (v:=?_) 29 hS4 ?_ ?_;rotate_left
             ·rintro w' ⟨⟨s1,s2,s3,s4⟩,⟨s5,s6⟩,⟨s7,s8⟩,s9,s10⟩;go_simp;first|done|with_reducible rfl|rfl
             simp only[Act.put,LA];refine Tk1 (v:=?_) 30 hS4 ?_ ?_;rotate_left
             ·rintro w' ⟨⟨s1,s2,s3,s4⟩,⟨s5,s6⟩,⟨s7,s8⟩,s9,s10⟩;go_simp;first|done|with_reducible rfl|rfl
             simp only[Act.put,LA];refine Tk0 31 hS4 ?_;simp only[Act.put,LA];refine Tk0 32 hS4 ?_;simp only[Act.put,LA];refine Tk0 33 hS4 ?_;simp only[Act.put,LA];refine Tk0 34 hS4 ?_;simp only[Act.put,LA];refine Tk0 35 hS4 ?_;simp only[Act.put,LA];refine Tk0 36 hS4 ?_;simp only[Act.put,LA];refine Tk0 37 hS4 ?_;simp only[Act.put,LA];refine Tk0 38 hS4 ?_;simp only[Act.put,LA];refine Tk0 39 hS4 ?_;simp only[Act.put,LA];refine Tk0 40 hS4 ?_;simp only[Act.put,LA];refine Tk1 (v:=?_) 41 hS4 ?_ ?_;rotate_left
             ·rintro w' ⟨⟨s1,s2,s3,s4⟩,⟨s5,s6⟩,⟨s7,s8⟩,s9,s10⟩;go_simp;first|done|with_reducible rfl|rfl
             simp only[Act.put,LA];refine wpAnyH_done (by kernel_rfl) ?_ _;refine NoPanic.normal ?_;go_wp2_with fail;go_meet;exact⟨by rw[←HQX.out,HSQ.out],BW.out⟩
           ·have xb:decide (rb<0)=false:=decide_eq_false tb;rw[xa,xb] at hsq;have HSQ:=Hh (show sq=false by rw[hsq];rfl);clear ta tb hsq;refine wp_region_noPanic ?_;refine wp_region_held (S:=fun w'=>(w'.cell? ⟨b,off+i*5,none⟩=some (.bool x.sx)∧w'.cell? ⟨b,off+i*5+1,none⟩=some (.slice x.ax x.xs.length x.cx)∧w'.cell? ⟨b,off+i*5+2,none⟩=some (.bool x.sy)∧w'.cell? ⟨b,off+i*5+3,none⟩=some (.slice x.ay x.ys.length x.cy))∧(w'.cell? ⟨ga,0,none⟩=some (.bool sa)∧w'.cell? ⟨ga,1,none⟩=some (.slice Aa us.length ca))∧(w'.cell? ⟨gb,0,none⟩=some (.bool sb)∧w'.cell? ⟨gb,1,none⟩=some (.slice Ab vs.length cb))∧w'.cell? ⟨gh,0,none⟩=some (.bool s5)∧w'.cell? ⟨gh,1,none⟩=some (.slice A5 r5.length c5)) (by kernel_rfl) ?_;have hS0:=ziS HS0.out;change wpAnyH _ _ _ _ _ _ _ _ wr.drew;have BW:=Hh (show Below wr.heap.size wr wr.drew from zaa (Below.refl _ wr) 1);refine Tk1 (v:=?_) 0 hS0 ?_ ?_;rotate_left
            ·rintro w' ⟨⟨s1,s2,s3,s4⟩,⟨s5,s6⟩,⟨s7,s8⟩,s9,s10⟩;go_simp;first|done|with_reducible rfl|rfl
            simp only[Act.put,LA];refine Tk1 (v:=?_) 1 hS0 ?_ ?_;rotate_left
            ·rintro w' ⟨⟨s1,s2,s3,s4⟩,⟨s5,s6⟩,⟨s7,s8⟩,s9,s10⟩;go_simp;first|done|with_reducible rfl|rfl
            simp only[Act.put,LA];refine Tk1 (v:=?_) 2 hS0 ?_ ?_;rotate_left
            ·rintro w' ⟨⟨s1,s2,s3,s4⟩,⟨s5,s6⟩,⟨s7,s8⟩,s9,s10⟩;go_simp;first|done|with_reducible rfl|rfl
            simp only[Act.put,LA];refine Tk1 (v:=?_) 3 hS0 ?_ ?_;rotate_left
            ·rintro w' ⟨⟨s1,s2,s3,s4⟩,⟨s5,s6⟩,⟨s7,s8⟩,s9,s10⟩;go_simp;first|done|with_reducible rfl|rfl
            simp only[Act.put,LA];refine Tk1 (v:=?_) 4 hS0 ?_ ?_;rotate_left
            ·rintro w' ⟨⟨s1,s2,s3,s4⟩,⟨s5,s6⟩,⟨s7,s8⟩,s9,s10⟩;go_simp;first|done|with_reducible rfl|rfl
            simp only[Act.put,LA];refine Tk1 (v:=?_) 5 hS0 ?_ ?_;rotate_left
            ·rintro w' ⟨⟨s1,s2,s3,s4⟩,⟨s5,s6⟩,⟨s7,s8⟩,s9,s10⟩;go_simp;first|done|with_reducible rfl|rfl
            simp only[Act.put,LA];refine Rd1 6 fun K hK=>?_;go_simp;refine(zaf x.sx sa x.ax Aa x.cx ca x.xs us _ (HU.out.1.below BW.out) (HA.out.below BW.out) HUL.out.1 HLA.out).mono ?_;rintro e W1 ⟨rfl,b1⟩;dsimp only;rw[HAV.out,←HRA.out];have hS1:=zaN b1 hS0;have BW:=Hh (BW.out.trans (b1.mono BW.out.size));clear b1;refine hK.out _ _ hS1 (fun _=>?_);clear hK K;refine Tk1 (v:=?_) 7 hS1 ?_ ?_;rotate_left
            ·rintro w' ⟨⟨s1,s2,s3,s4⟩,⟨s5,s6⟩,⟨s7,s8⟩,s9,s10⟩;go_simp;first|done|with_reducible rfl|rfl
            simp only[Act.put,LA];refine Tk1 (v:=?_) 8 hS1 ?_ ?_;rotate_left
            ·rintro w' ⟨⟨s1,s2,s3,s4⟩,⟨s5,s6⟩,⟨s7,s8⟩,s9,s10⟩;go_simp;first|done|with_reducible rfl|rfl
            simp only[Act.put,LA];refine Tk1 (v:=?_) 9 hS1 ?_ ?_;rotate_left
            ·rintro w' ⟨⟨s1,s2,s3,s4⟩,⟨s5,s6⟩,⟨s7,s8⟩,s9,s10⟩;go_simp;first|done|with_reducible rfl|rfl
            simp only[Act.put,LA];refine Tk1 (v:=?_) 10 hS1 ?_ ?_;rotate_left
            ·rintro w' ⟨⟨s1,s2,s3,s4⟩,⟨s5,s6⟩,⟨s7,s8⟩,s9,s10⟩;go_simp;first|done|with_reducible rfl|rfl
            simp only[Act.put,LA];refine Tk1 (v:=?_) 11 hS1 ?_ ?_;rotate_left
            ·rintro w' ⟨⟨s1,s2,s3,s4⟩,⟨s5,s6⟩,⟨s7,s8⟩,s9,s10⟩;go_simp;first|done|with_reducible rfl|rfl
            simp only[Act.put,LA];refine Tk1 (v:=?_) 12 hS1 ?_ ?_;rotate_left
            ·rintro w' ⟨⟨s1,s2,s3,s4⟩,⟨s5,s6⟩,⟨s7,s8⟩,s9,s10⟩;go_simp;first|done|with_reducible rfl|rfl
            simp only[Act.put,LA];refine Tk1 (v:=?_) 13 hS1 ?_ ?_;rotate_left
            ·rintro w' ⟨⟨s1,s2,s3,s4⟩,⟨s5,s6⟩,⟨s7,s8⟩,s9,s10⟩;go_simp;first|done|with_reducible rfl|rfl
            simp only[Act.put,LA];refine Tk1 (v:=?_) 14 hS1 ?_ ?_;rotate_left
            ·rintro w' ⟨⟨s1,s2,s3,s4⟩,⟨s5,s6⟩,⟨s7,s8⟩,s9,s10⟩;go_simp;first|done|with_reducible rfl|rfl
            simp only[Act.put,LA];refine Tk1 (v:=?_) 15 hS1 ?_ ?_;rotate_left
            ·rintro w' ⟨⟨s1,s2,s3,s4⟩,⟨s5,s6⟩,⟨s7,s8⟩,s9,s10⟩;go_simp;first|done|with_reducible rfl|rfl
            simp only[Act.put,LA];refine Rd1 16 fun K hK=>?_;go_simp;refine(zbj sa s5 Aa A5 ca c5 us r5 _ (HA.out.below BW.out) (HH5.out.below BW.out) HLA.out HL5.out).mono ?_;rintro e W2 ⟨Ax,cx,sx,rx,rfl,ux,kx,vx,b2⟩;dsimp only;rw[HAV.out,HV5.out] at vx;have hcapx:=ux.cap;have hlnx:=zbn kx vx HXN.out.1 HXN.out.2;have hS2:=zaN b2 hS1;have BW:=Hh (BW.out.trans (b2.mono BW.out.size));clear b2;refine hK.out _ _ hS2 (fun _=>?_);clear hK K;refine Rd1 17 fun K hK=>?_;go_simp;refine(zaf x.sx sx x.ax Ax x.cx cx x.xs rx _ (HU.out.1.below BW.out) (ux) HUL.out.1 (by omega)).mono ?_;rintro e W3 ⟨rfl,b3⟩;dsimp only;rw[vx,←HRB.out];have hS3:=zaN b3 hS2;have BW:=Hh (BW.out.trans (b3.mono BW.out.size));clear b3;refine hK.out _ _ hS3 (fun _=>?_);clear hK K;refine Tk1 (v:=?_) 18 hS3 ?_ ?_;rotate_left
            ·rintro w' ⟨⟨s1,s2,s3,s4⟩,⟨s5,s6⟩,⟨s7,s8⟩,s9,s10⟩;go_simp;first|done|with_reducible rfl|rfl
            simp only[Act.put,LA];refine Tk1 (v:=?_) 19 hS3 ?_ ?_;rotate_left
            ·rintro w' ⟨⟨s1,s2,s3,s4⟩,⟨s5,s6⟩,⟨s7,s8⟩,s9,s10⟩;go_simp;first|done|with_reducible rfl|rfl
            simp only[Act.put,LA];refine Tk1 (v:=?_) 20 hS3 ?_ ?_;rotate_left
            ·rintro w' ⟨⟨s1,s2,s3,s4⟩,⟨s5,s6⟩,⟨s7,s8⟩,s9,s10⟩;go_simp;first|done|with_reducible rfl|rfl
            simp only[Act.put,LA];refine Tk0 21 hS3 ?_;simp only[Act.put,LA];refine Tk0 22 hS3 ?_;simp only[Act.put,LA];refine Tk0 23 hS3 ?_;simp only[Act.put,LA];refine Tk0 24 hS3 ?_;simp only[Act.put,LA];refine Tk0 25 hS3 ?_;simp only[Act.put,LA];refine Tk0 26 hS3 ?_;simp only[Act.put,LA];refine Tk0 27 hS3 ?_;simp only[Act.put,LA];refine Tk0 28 hS3 ?_;simp only[Act.put,LA];refine Tk1 (v:=?_) 29 hS3 ?_ ?_;rotate_left
            ·rintro w' ⟨⟨s1,s2,s3,s4⟩,⟨s5,s6⟩,⟨s7,s8⟩,s9,s10⟩;go_simp;first|done|with_reducible rfl|rfl
            simp only[Act.put,LA];refine Tk1 (v:=?_) 30 hS3 ?_ ?_;rotate_left
            ·rintro w' ⟨⟨s1,s2,s3,s4⟩,⟨s5,s6⟩,⟨s7,s8⟩,s9,s10⟩;go_simp;first|done|with_reducible rfl|rfl
            simp only[Act.put,LA];refine Tk0 31 hS3 ?_;simp only[Act.put,LA];refine Tk0 32 hS3 ?_;simp only[Act.put,LA];refine Tk0 33 hS3 ?_;simp only[Act.put,LA];refine Tk0 34 hS3 ?_;simp only[Act.put,LA];refine Tk0 35 hS3 ?_;simp only[Act.put,LA];refine Tk0 36 hS3 ?_;simp only[Act.put,LA];refine Tk0 37 hS3 ?_;simp only[Act.put,LA];refine Tk0 38 hS3 ?_;simp only[Act.put,LA];refine Tk0 39 hS3 ?_;simp only[Act.put,LA];refine Tk0 40 hS3 ?_;simp only[Act.put,LA];refine Tk1 (v:=?_) 41 hS3 ?_ ?_;rotate_left
            ·rintro w' ⟨⟨s1,s2,s3,s4⟩,⟨s5,s6⟩,⟨s7,s8⟩,s9,s10⟩;go_simp;first|done|with_reducible rfl|rfl
            simp only[Act.put,LA];refine wpAnyH_done (by kernel_rfl) ?_ _;refine NoPanic.normal ?_;go_wp2_with fail;go_meet;exact⟨by rw[←HQX.out,HSQ.out],BW.out⟩
          ·have xa:decide (ra≥0)=false:=decide_eq_false ta;rw[xa] at hsq;have HSQ:=Hh (show sq=false by rw[hsq];rfl);clear ta hsq;refine wp_region_noPanic ?_;refine wp_region_held (S:=fun w'=>(w'.cell? ⟨b,off+i*5,none⟩=some (.bool x.sx)∧w'.cell? ⟨b,off+i*5+1,none⟩=some (.slice x.ax x.xs.length x.cx)∧w'.cell? ⟨b,off+i*5+2,none⟩=some (.bool x.sy)∧w'.cell? ⟨b,off+i*5+3,none⟩=some (.slice x.ay x.ys.length x.cy))∧(w'.cell? ⟨ga,0,none⟩=some (.bool sa)∧w'.cell? ⟨ga,1,none⟩=some (.slice Aa us.length ca))∧(w'.cell? ⟨gb,0,none⟩=some (.bool sb)∧w'.cell? ⟨gb,1,none⟩=some (.slice Ab vs.length cb))∧w'.cell? ⟨gh,0,none⟩=some (.bool s5)∧w'.cell? ⟨gh,1,none⟩=some (.slice A5 r5.length c5)) (by kernel_rfl) ?_;have hS0:=ziS HS0.out;change wpAnyH _ _ _ _ _ _ _ _ wr.drew;have BW:=Hh (show Below wr.heap.size wr wr.drew from zaa (Below.refl _ wr) 1);refine Tk1 (v:=?_) 0 hS0 ?_ ?_;rotate_left
           ·rintro w' ⟨⟨s1,s2,s3,s4⟩,⟨s5,s6⟩,⟨s7,s8⟩,s9,s10⟩;go_simp;first|done|with_reducible rfl|rfl
           simp only[Act.put,LA];refine Tk1 (v:=?_) 1 hS0 ?_ ?_;rotate_left
           ·rintro w' ⟨⟨s1,s2,s3,s4⟩,⟨s5,s6⟩,⟨s7,s8⟩,s9,s10⟩;go_simp;first|done|with_reducible rfl|rfl
           simp only[Act.put,LA];refine Tk1 (v:=?_) 2 hS0 ?_ ?_;rotate_left
           ·rintro w' ⟨⟨s1,s2,s3,s4⟩,⟨s5,s6⟩,⟨s7,s8⟩,s9,s10⟩;go_simp;first|done|with_reducible rfl|rfl
           simp only[Act.put,LA];refine Tk1 (v:=?_) 3 hS0 ?_ ?_;rotate_left
           ·rintro w' ⟨⟨s1,s2,s3,s4⟩,⟨s5,s6⟩,⟨s7,s8⟩,s9,s10⟩;go_simp;first|done|with_reducible rfl|rfl
           simp only[Act.put,LA];refine Tk1 (v:=?_) 4 hS0 ?_ ?_;rotate_left
           ·rintro w' ⟨⟨s1,s2,s3,s4⟩,⟨s5,s6⟩,⟨s7,s8⟩,s9,s10⟩;go_simp;first|done|with_reducible rfl|rfl
           simp only[Act.put,LA];refine Tk1 (v:=?_) 5 hS0 ?_ ?_;rotate_left
           ·rintro w' ⟨⟨s1,s2,s3,s4⟩,⟨s5,s6⟩,⟨s7,s8⟩,s9,s10⟩;go_simp;first|done|with_reducible rfl|rfl
           simp only[Act.put,LA];refine Rd1 6 fun K hK=>?_;go_simp;refine(zaf x.sx sa x.ax Aa x.cx ca x.xs us _ (HU.out.1.below BW.out) (HA.out.below BW.out) HUL.out.1 HLA.out).mono ?_;rintro e W1 ⟨rfl,b1⟩;dsimp only;rw[HAV.out,←HRA.out];have hS1:=zaN b1 hS0;have BW:=Hh (BW.out.trans (b1.mono BW.out.size));clear b1;refine hK.out _ _ hS1 (fun _=>?_);clear hK K;refine Tk1 (v:=?_) 7 hS1 ?_ ?_;rotate_left
           ·rintro w' ⟨⟨s1,s2,s3,s4⟩,⟨s5,s6⟩,⟨s7,s8⟩,s9,s10⟩;go_simp;first|done|with_reducible rfl|rfl
           simp only[Act.put,LA];refine Tk1 (v:=?_) 8 hS1 ?_ ?_;rotate_left
           ·rintro w' ⟨⟨s1,s2,s3,s4⟩,⟨s5,s6⟩,⟨s7,s8⟩,s9,s10⟩;go_simp;first|done|with_reducible rfl|rfl
           simp only[Act.put,LA];refine Tk0 9 hS1 ?_;simp only[Act.put,LA];refine Tk0 10 hS1 ?_;simp only[Act.put,LA];refine Tk0 11 hS1 ?_;simp only[Act.put,LA];refine Tk0 12 hS1 ?_;simp only[Act.put,LA];refine Tk0 13 hS1 ?_;simp only[Act.put,LA];refine Tk0 14 hS1 ?_;simp only[Act.put,LA];refine Tk0 15 hS1 ?_;simp only[Act.put,LA];refine Tk0 16 hS1 ?_;simp only[Act.put,LA];refine Tk0 17 hS1 ?_;simp only[Act.put,LA];refine Tk0 18 hS1 ?_;simp only[Act.put,LA];refine Tk1 (v:=?_) 19 hS1 ?_ ?_;rotate_left
           ·rintro w' ⟨⟨s1,s2,s3,s4⟩,⟨s5,s6⟩,⟨s7,s8⟩,s9,s10⟩;go_simp;first|done|with_reducible rfl|rfl
           simp only[Act.put,LA];refine Tk1 (v:=?_) 20 hS1 ?_ ?_;rotate_left
           ·rintro w' ⟨⟨s1,s2,s3,s4⟩,⟨s5,s6⟩,⟨s7,s8⟩,s9,s10⟩;go_simp;first|done|with_reducible rfl|rfl
           simp only[Act.put,LA];refine Tk0 21 hS1 ?_;simp only[Act.put,LA];refine Tk0 22 hS1 ?_;simp only[Act.put,LA];refine Tk0 23 hS1 ?_;simp only[Act.put,LA];refine Tk0 24 hS1 ?_;simp only[Act.put,LA];refine Tk0 25 hS1 ?_;simp only[Act.put,LA];refine Tk0 26 hS1 ?_;simp only[Act.put,LA];refine Tk0 27 hS1 ?_;simp only[Act.put,LA];refine Tk0 28 hS1 ?_;simp only[Act.put,LA];refine Tk1 (v:=?_) 29 hS1 ?_ ?_;rotate_left
           ·rintro w' ⟨⟨s1,s2,s3,s4⟩,⟨s5,s6⟩,⟨s7,s8⟩,s9,s10⟩;go_simp;first|done|with_reducible rfl|rfl
           simp only[Act.put,LA];refine Tk1 (v:=?_) 30 hS1 ?_ ?_;rotate_left
           ·rintro w' ⟨⟨s1,s2,s3,s4⟩,⟨s5,s6⟩,⟨s7,s8⟩,s9,s10⟩;go_simp;first|done|with_reducible rfl|rfl
           simp only[Act.put,LA];refine Tk0 31 hS1 ?_;simp only[Act.put,LA];refine Tk0 32 hS1 ?_;simp only[Act.put,LA];refine Tk0 33 hS1 ?_;simp only[Act.put,LA];refine Tk0 34 hS1 ?_;simp only[Act.put,LA];refine Tk0 35 hS1 ?_;simp only[Act.put,LA];refine Tk0 36 hS1 ?_;simp only[Act.put,LA];refine Tk0 37 hS1 ?_;simp only[Act.put,LA];refine Tk0 38 hS1 ?_;simp only[Act.put,LA];refine Tk0 39 hS1 ?_;simp only[Act.put,LA];refine Tk0 40 hS1 ?_;simp only[Act.put,LA];refine Tk1 (v:=?_) 41 hS1 ?_ ?_;rotate_left
           ·rintro w' ⟨⟨s1,s2,s3,s4⟩,⟨s5,s6⟩,⟨s7,s8⟩,s9,s10⟩;go_simp;first|done|with_reducible rfl|rfl
           simp only[Act.put,LA];refine wpAnyH_done (by kernel_rfl) ?_ _;refine NoPanic.normal ?_;go_wp2_with fail;go_meet;exact⟨by rw[←HQX.out,HSQ.out],BW.out⟩
         case rest =>
          obtain⟨rfl,hbc⟩:=hcut;have HBC:=Hh hbc;obtain⟨f1,f2,f3,f4,f5⟩:=HXA.out.below (hbc.block b (World.block_lt_of_cell? wr _ HXA.out.1));clear hbc;cases hsq:sqC X' Y' (p2 m) x with
          | true =>
           have HSQ:=Hh hsq;clear hsq;go_wp2_with (at_builtin;go_loud (refine zcw _ rfl _ _ rfl wl.heap.size _ ((l.take i).filter (sqC X' Y' (p2 m))) x _ 1 rfl rfl ((HOI.out.kept (gbN HBC.out) (zpf (fun q _ e=>by cases e))).alloc _) (zcv _ x) (by have h1:=List.length_filter_le (sqC X' Y' (p2 m)) (l.take i);have h2:=List.length_take_le i l;omega) (by simp;have h1:=HBI.out.size;have h2:=HBC.out.size;omega) ?_;intro v7 w7 ho7 hg7 hk7;have HO7:=Hh ho7;have HG7:=Hh hg7;clear ho7 hg7 hk7));go_roundw
           case rel =>
            refine⟨i+1,_,by omega,by go_num,rfl,((HBI.out.trans (HBC.out.mono HBI.out.size)).alloc (Nat.le_trans HBI.out.size HBC.out.size) _).grown HG7.out (by simp;have h1:=HBI.out.size;have h2:=HBC.out.size;omega) (fun q hq=>(HOI.out.lt q hq).1),?_⟩;rw[zgM (by rw[HN.out];exact hin),←HX_.out,if_pos HSQ.out];exact HO7.out
           case measure=>simp[intOf];omega
          | false =>
           have HSQ:=Hh hsq;clear hsq;go_wp2_with fail;go_roundw
           case rel =>
            refine⟨i+1,_,by omega,by go_num,rfl,HBI.out.trans (HBC.out.mono HBI.out.size),?_⟩;rw[zgM (by rw[HN.out];exact hin),←HX_.out,if_neg (by rw[HSQ.out];simp),List.append_nil];exact HOI.out.kept (gbN HBC.out) (zpf (fun q _ e=>by cases e))
           case measure=>simp[intOf];omega
        ·obtain rfl:i=n:=by omega
         have ti:decide ((i:Int)<(i:Int))=false:=decide_eq_false (by omega);have htk:l.take i=l:=List.take_of_length_le (by rw[HN.out];exact Nat.le_refl _);rw[htk] at hoi;obtain⟨M,hM⟩:∃M,M=l.filter (sqC X' Y' (p2 m)):=⟨_,rfl⟩;rw[←hM] at hoi;have hMl:∀u∈M,u∈l:=fun u hu=>by rw[hM] at hu;exact(List.mem_filter.1 hu).1
         have hMc:M.map Cv.cl=L.filter (sqB (X+offI (p2 m) k) (Y+offJ (p2 m) k) (p2 m)):=by rw[hM,zuo,HLM.out,HX'.out,HY'.out]
         have RJ3:=Hh (RJ2.out.nextP hbi);obtain⟨Bi,di,hvi,csi,hBi0,hBi⟩:=hoi.cs (fun u hu=>RJ3.out.cs.1 u (hMl u hu));obtain⟨p,hp⟩:∃p,M.length=p:=⟨_,rfl⟩;rw[hp] at hvi;subst hvi;have hcapi:=csi.cap;rw[hp] at hcapi;have HML:=Hh hMl;have HMC:=Hh hMc;have HCI:=Hh csi;have HBiO:=Hh hBi;have HPL:=Hh hp;have f1:=RJ3.out.nb.free (1+k);have f2:=RJ3.out.nb.at_.kid hlt
         rw[show 0+1+k=1+k by omega] at f2;clear hoi hbi hM hMl hMc csi hBi0 hBi hp htk HOI;rcases Nat.eq_zero_or_pos m with hm0|hm0
         ·have t5:((m:Int)+1==1)=true:=by rw[beq_iff_eq];omega
          have t6:decide ((m:Int)+1>1)=false:=decide_eq_false (by omega);have t7:decide (1<(m:Int)+1)=false:=decide_eq_false (by omega);have HM0:=Hh hm0;clear hm0;by_cases hp0:0<p
          ·have t8:decide ((p:Int)>0)=true:=decide_eq_true (by omega);have t9:decide (0<(p:Int))=true:=decide_eq_true (by omega);have t10:decide (0<p)=true:=decide_eq_true hp0;have j3:(0:Int)<(p:Int):=by omega
           obtain⟨bi,oi,rfl,hbl2,hcl2⟩:=HCI.out.at_ (by rw[HPL.out];exact hp0)
           obtain⟨z,hz⟩:∃z,z=cat M 0:=⟨_,rfl⟩;have hz5:=(hcl2 0 (by rw[HPL.out];exact hp0)).2.2.2.2;rw[←hz,Nat.zero_mul,Nat.add_zero] at hz5;have hz9:z.st≤255:=HST.out z (HML.out z (by rw[hz];exact zda (by rw[HPL.out];exact hp0)));have y1:(0:Int)≤(z.st:Int):=by omega
           have y2:(z.st:Int)≤255:=by omega
           have e3:IntKind.i64.wrap (z.st:Int)=(z.st:Int):=IntWalk.i64_in _ (by omega);have HZ:=Hh (show(z.st:Int)=y.kid k by
            rw[HY.out,ziQ _ _ _ _ _ hlt];have h1:=HMC.out;rw[HM0.out] at h1 ⊢;rw[zmq,←h1];have h2:0<M.length:=by rw[HPL.out];exact hp0
            rw[hz];cases M with
            | nil=>simp at h2
            | cons c M=>rfl)
           clear hcl2 hz hz9;go_wp2_with fail;go_roundw
           case rel =>
            refine⟨k+1,_,by omega,by go_num,rfl,?_⟩;have h1:=RJ3.out.putP HF.out hlt (r:=1+k) rfl HZ.out;rw[show outP m out X Y L (k+1)=outP m out X Y L k by rw[HM0.out];rfl];exact h1
           case measure=>simp[intOf];omega
          ·have t8:decide ((p:Int)>0)=false:=decide_eq_false (by omega);have t9:decide (0<(p:Int))=false:=decide_eq_false (by omega);have t10:decide (0<p)=false:=decide_eq_false hp0;have HP0:=Hh hp0;clear hp0 f1 f2;go_wp2_with fail;go_roundw
           case rel =>
            refine⟨k+1,_,by omega,by go_num,rfl,?_⟩;have h1:=RJ3.out;have h0:y.kid k=0:=by
             rw[HY.out,ziQ _ _ _ _ _ hlt];have h1:=HMC.out;rw[HM0.out] at h1 ⊢;rw[zmq,←h1,List.eq_nil_of_length_eq_zero (show M.length=0 by rw[HPL.out];have:=HP0.out;omega)];rfl
            rw[show outP m out X Y L (k+1)=outP m out X Y L k by rw[HM0.out];rfl];exact { h1 with nb:=by rw[←zpy hlt h0];exact h1.nb }
           case measure=>simp[intOf];omega
         ·have t5:((m:Int)+1==1)=false:=beq_eq_false_iff_ne.2 (by omega);have t6:decide ((m:Int)+1>1)=true:=decide_eq_true (by omega);have t7:decide (1<(m:Int)+1)=true:=decide_eq_true (by omega);obtain⟨m',hm'⟩:∃m',m'+1=m:=⟨m-1,by omega⟩;have hpa:=HB3.out.a.next HBI.out;have hpd:=HB3.out.d.next HBI.out;have q1:=hpa.c0;have q2:=hpa.c1;have q3:=hpd.c0;have q4:=hpd.c1;have hca:=hpa.us.cap;have hcb:=hpd.us.cap;have HCALL:=Hh (show Calls Tryz.prog 145 #[v,.int .i64 (m:Int),.agg #[.bool sa,.slice Aa us.length ca],.agg #[.bool sb,.slice Ab vs.length cb],.slice Bi p di] wr (zkZ (m'+1) (outP m out X Y L k) X' Y' (M.map Cv.cl) base v wr) by
           rw[show(m:Int)=(m':Int)+1 by omega];have hb4:=zff HPB.out hlt;rw[←HX'.out,←HY'.out] at hb4;have hvw:∀q,v.ownBlock=some q→q<wo.heap.size:=fun q hq=>(RR.out.o.lt q hq).2;have hws:wo.heap.size≤wl.heap.size:=HB3.out.b.size;have hwl:wl.heap.size≤wr.heap.size:=HBI.out.size;have hgn:gh+1<wo.heap.size:=RR.out.nb.lt;have hwg:w.heap.size≤gh:=by have:=RR.out.lt;omega
           have old:∀t,t<w.heap.size→v0.ownBlock≠some t→v.ownBlock≠some t:=fun t ht hv=>RR.out.offP (by omega) (fun _=>hv) HF.out.fv;have hnew:∀t,wo.heap.size≤t→v.ownBlock≠some t:=fun t ht e=>by have:=hvw t e;omega
           have key:∀t,wo.heap.size≤t∨(PXY Ax xs Ay ys t∧t<w.heap.size)→v.ownBlock≠some t:=fun t ht=>by
            rcases ht with h1|⟨h1,h2⟩
            ·exact hnew t h1
            ·rcases h1 with⟨h0,a,ea,rfl⟩|⟨h0,a,ea,rfl⟩
             ·exact old _ h2 (HF.out.fx h0 a ea).2
             ·exact old _ h2 (HF.out.fy h0 a ea).2
           refine IH.out m' (by omega) (outP m out X Y L k) v sa Aa ca us sb Ab cb vs X' Y' Bi di p M wr (by omega) RJ3.out.o (Nat.le_trans HBA.out RJ3.out.b.size) hpa.us hpd.us hpa.cn hpd.cn hpa.v hpd.v hb4.1 (by rw[hm'];exact hb4.2.1) hb4.2.2.1 (by rw[hm'];exact hb4.2.2.2) HCI.out HPL.out (fun u hu=>HCR.out u (HML.out u hu)) ⟨fun q hq=>(RJ3.out.o.lt q hq).2,fun h0 a ea=>⟨zbQ hpa.us h0 a ea,key _ (HB3.out.la h0 a ea)⟩,fun h0 a ea=>⟨zbQ hpd.us h0 a ea,key _ (HB3.out.lb h0 a ea)⟩,fun u hu=>⟨fun h0 a ea=>⟨zbQ (HCI.out.1 u hu).1 h0 a ea,?_⟩,fun h0 a ea=>⟨zbQ (HCI.out.1 u hu).2.1 h0 a ea,?_⟩⟩,fun h0 a ea=>⟨?_,hnew _ (Nat.le_trans hws (HBiO.out a ea))⟩⟩ ?_
           ·have h1:=(HF.out.fl u (HML.out u hu)).1 h0 a ea;exact old _ h1.1 h1.2
           ·have h1:=(HF.out.fl u (HML.out u hu)).2 h0 a ea;exact old _ h1.1 h1.2
           ·obtain⟨b9,o9,e9,h9,-⟩:=HCI.out.at_ h0
            rw[ea] at e9;cases e9;exact h9
           ·have h1:=ziR m out X Y L k hlt;have h2:=congrArg List.length HMC.out;rw[List.length_map,HPL.out] at h2;rw[←h2] at h1;have h3:L.length=i:=by rw[HLM.out,List.length_map,HN.out]
            rw[h3] at h1;have h4:=HLE.out;rw[Nat.add_mul,Nat.one_mul] at h4;rw[hm'];omega)
          have HM':=Hh hm';clear hpa hpd hm' f1 f2;go_wp2_with (go_at_call 145;go_loud (refine HCALL.out.mono ?_;rintro e w8 ⟨v2,rfl,r1,r2,r3⟩;have RJ4:=Hh (RJ3.out.callP HF.out r3 r1 r2);have f1:=RJ4.out.nb.free (1+k);have f2:=RJ4.out.nb.at_.kid hlt;rw[show 0+1+k=1+k by omega] at f2;clear r1 r2 r3));go_roundw
          case rel =>
           refine⟨k+1,_,by omega,by go_num,rfl,?_⟩;have h1:=RJ4.out.putP HF.out hlt (r:=1+k) rfl (show(zay (m'+1) (outP m out X Y L k) X' Y' (M.map Cv.cl)).2=y.kid k by
            rw[HY.out,ziQ _ _ _ _ _ hlt,HMC.out,HX'.out,HY'.out,HM'.out];rfl)
           rw[show outP m out X Y L (k+1)=(zay (m'+1) (outP m out X Y L k) X' Y' (M.map Cv.cl)).1 by rw[HMC.out,HM'.out,HX'.out,HY'.out];rfl];exact h1
          case measure=>simp[intOf];omega
   ·obtain rfl:k=4:=by omega
    have t1:decide ((4:Int)<4)=false:=rfl;clear R_ hlt;have hnb:=RR.out.nb;rw[ziM (show(⟨(m:Int)+1,0,0,0,0⟩:Nd).lv=y.lv by rw[HY.out];rfl)] at hnb;obtain⟨d1,d2,d3,d4,d5⟩:=hnb.at_
    obtain⟨o4,ho4⟩:∃o4,o4=outP m out X Y L 4:=⟨_,rfl⟩;have HO4:=Hh ho4;have HON:=Hh (show OwnN wr base v o4 by rw[ho4];exact RR.out.o);have hLl:L.length=n:=by rw[HLM.out,List.length_map,HN.out]
    have hle4:o4.length≤900000:=by
     have h1:=zpw m out X Y L;have h4:=HLE.out;rw[Nat.add_mul,Nat.one_mul] at h4;rw[hLl] at h1;rw[ho4];omega
    have HWF:=Hh (show y.wf by
     rw[HY.out];refine zul (by omega) (fun c hc=>?_) ?_
     ·rw[HLM.out] at hc;obtain⟨u,hu,rfl⟩:=List.mem_map.1 hc;have h1:=HST.out u hu;show 0≤(u.st:Int)∧(u.st:Int)≤255;omega
     ·rw[hLl];have h4:=HLE.out;rw[Nat.add_mul,Nat.one_mul] at h4;omega)
    have HBS:=Hh (Nat.le_trans HBA.out RR.out.b.size);clear hnb ho4 hLl;go_wp2_with (at_builtin;go_loud (refine zax _ rfl _ _ rfl base _ o4 [y] _ 1 1 rfl rfl (HON.out.alloc _) (ziL _ _ y HWF.out rfl) rfl (fun e=>by cases e) (by omega) (by simp;have:=HBS.out;omega) ?_;intro v6 w6 ho6 hg6 hk6;obtain⟨A6,c6,hv6,-,-,-⟩:=ho6.shape;have HO6:=Hh ho6;have HG6:=Hh hg6;have HK6:=Hh hk6;subst hv6;clear ho6 hg6 hk6))
    first|go_ret2|skip
    rw[HR.out];unfold zkZ;have hne:L≠[]:=fun e=>by
     have h1:=congrArg List.length HLM.out;rw[e,List.length_map,HN.out] at h1;simp at h1;omega
    rw[zea hne,←HO4.out,←HY.out];refine⟨_,?_,HO6.out,fun q hq=>?_,(RR.out.b.alloc _).gb HG6.out (fun q hq e=>?_)⟩
    ·simp
    ·have hws:=RR.out.b.size;rcases HK6.out with e|e
     ·rcases RR.out.ob q (e.symm.trans hq) with e2|e2
      ·exact .inl e2
      ·exact .inr (by have:=RR.out.lt;omega)
     ·rw[e] at hq;simp at hq;exact .inr (by omega)
    ·rcases RR.out.ob q e with e2|e2
     ·exact e2
     ·have:=RR.out.lt;omega
end Go.Proofs.YtfjajpnfjjdnpaaGreatDoor
