import Derived.Test.YtcippfaljoagaaaGreatDoorHFtPr

set_option linter.unusedVariables false
set_option linter.unusedSimpArgs false
set_option maxRecDepth 100000
set_option maxHeartbeats 6400000
namespace Go.Proofs.YtcippfaljoagaaaGreatDoor
open Go.RowKit Lib Num Nds Txt
theorem zhf (n:Nat):zho (n:Int)=Digs.digs n:=by
 unfold zho Digs.text;rw[decide_eq_false (by omega),Int.natAbs_natCast];rfl
theorem zqo {n:Nat}(h:n<100000) : -p2 1330≤(n:Int)∧(n:Int)≤p2 1330:=by
 have h1:=zaI (show 20≤1330 by omega);have h2:p2 20=1048576:=rfl;omega
theorem zda (n:Nat)(s:ByteArray)(w:World)(hn:n<100)(hs:s.size≤1000) :
  Calls Tryz.prog 73 #[.int .i64 (n:Int),.string s] w fun e w'=>e=.returned (.string ⟨(tokR n s.data.toList).toArray⟩)∧Below w.heap.size w w':=by
 by_cases h1:n=1
 ·subst h1;have HT:=Hh (show(⟨(tokR 1 s.data.toList).toArray⟩:ByteArray)=s from zjY rfl);rw[HT.out];go_enter Tryz.func73,Tryz.ntmps73;go_wp2_with fail;go_ret;exact⟨rfl,Below.refl _ _⟩
 ·have t1:((n:Int)==1)=false:=beq_eq_false_iff_ne.2 (by omega);obtain⟨a,ha⟩:∃a:ByteArray,a=⟨(Digs.digs n).toArray⟩:=⟨_,rfl⟩;have HA:=Hh ha;have hz:a.size≤2:=by rw[ha,zax];exact zdm hn
  have HT:=Hh (show(⟨(tokR n s.data.toList).toArray⟩:ByteArray)=a++s by
   rw[ha,zsP];unfold tokR;rw[if_neg h1])
  rw[HT.out];have m1:(9223372036854775807<a.size+s.size)=False:=eq_false (by omega);have HNR:=Hh (zqo (show n<100000 by omega));clear ha h1;go_enter Tryz.func73,Tryz.ntmps73;go_wp2_with (first
   | (go_at_call 41;go_loud (refine(zaQ (n:Int) _ (by omega) (by omega)).mono ?_;rintro e w1 h_;obtain⟨x,rfl,r_,b_⟩:=zag h_;have lx:=zau r_ HNR.out.1 HNR.out.2;have RX:=Hh r_;have B1:=Hh b_;have hcx:=r_.us.cap;clear h_ r_ b_))
   | (go_at_call 52;go_loud (refine(zdE x.s x.a x.c x.xs _ RX.out.us (by omega)).mono ?_;rintro e w2 ⟨rfl,b_⟩;rw[show Digs.text x.s (val x.xs)=Digs.digs n from(zcu RX.out).trans (zhf n),←HA.out];have B2:=Hh (B1.out.trans (b_.mono B1.out.size));clear b_)))
  go_ret;exact⟨rfl,B2.out⟩
theorem zqp {l:List UInt8}{i:Nat}{x:UInt8}(hx:l[i]?=some x):(zal (l.take (i+1))).length=if x=0 then (zal (l.take i)).length else i+1:=by
 have hl:=(List.getElem?_eq_some_iff.1 hx).1;rw[List.take_add_one,hx];show(zal (l.take i++[x])).length=_;rw[zfB];by_cases h:x=0
 ·rw[if_pos h,if_pos h]
 ·rw[if_neg h,if_neg h,List.length_append,List.length_take];show min i l.length+1=_;omega
theorem zhg (s:ByteArray)(w:World)(hs:s.size≤1000000) :
  Calls Tryz.prog 72 #[.string s] w fun e w'=>e=.returned (.int .i64 ((zal s.data.toList).length:Int))∧w'=w:=by
 obtain⟨R,hR⟩:∃R,R=(zal s.data.toList).length:=⟨_,rfl⟩;rw[←hR];have HR:=Hh hR;clear hR;go_enter Tryz.func72,Tryz.ntmps72;go_wp2_with fail;go_loopw [4,3] (fun z1 z2 wr=>∃(i m:Nat),z1=.int .i64 i∧z2=.int .i64 m∧i≤s.size∧m=(zal (s.data.toList.take i)).length∧wr=w) (fun z1 _ _=>s.size-(intOf z1).toNat)
 case atStart=>exact⟨0,0,rfl,rfl,Nat.zero_le _,by rw[List.take_zero];rfl,rfl⟩
 case round =>
  obtain⟨i,m,rfl,rfl,hi,hm,rfl⟩:=hrel;have HM:=Hh hm;have iw:IntKind.i64.wrap ((i:Int)+1)=(i:Int)+1:=IntWalk.i64_in _ (by omega);clear hm;by_cases hlt:i<s.size
  ·have hgt:=zbH hlt;have HTK:=Hh (zqp hgt);have HLT:=Hh hlt;have i0:(0:Int)≤(i:Int):=by omega
   have i1:(i:Int)<(s.size:Int):=by omega
   have j3:decide ((i:Int)<(s.size:Int))=true:=decide_eq_true i1;clear hgt;by_cases hx:(s[i]'hlt).toNat=0
   ·have u1:((((s[i]'hlt).toNat:Nat):Int)!=0)=false:=by rw[hx];rfl
    have HX:=Hh (UInt8.toNat_inj.1 (show(s[i]'hlt).toNat=(0:UInt8).toNat from hx));clear hx;go_wp2_with fail;go_roundw
    case rel=>exact⟨i+1,m,by go_num,rfl,HLT.out,by rw[HTK.out,if_pos HX.out];exact HM.out,trivial⟩
    case measure=>have:=HLT.out;simp[intOf];omega
   ·have u1:((((s[i]'hlt).toNat:Nat):Int)!=0)=true:=by rw[bne_iff_ne];omega
    have HX:=Hh (show ¬ s[i]'hlt=0 from fun e=>hx (by rw[e];rfl));clear hx;go_wp2_with fail;go_roundw
    case rel=>exact⟨i+1,i+1,by go_num,by go_num,HLT.out,by rw[HTK.out,if_neg HX.out],trivial⟩
    case measure=>have:=HLT.out;simp[intOf];omega
  ·have e:i=s.size:=by omega
   have t9:decide ((i:Int)<(s.size:Int))=false:=decide_eq_false (by omega);have t10:decide (i<s.size)=false:=decide_eq_false hlt;have t11:(i<s.size)=False:=eq_false hlt;have HE:=Hh (show R=m by rw[HR.out,HM.out,List.take_of_length_le (by rw[zaN];omega)]);clear hlt e;go_wp2_with fail;go_ret;exact⟨by rw[HE.out];rfl,rfl⟩
theorem zut {r:List UInt8}{x:UInt8}(hx:x∈r)(h:¬ x.toNat≤1):allR r=false:=by
 unfold allR;rw[List.all_eq_false];exact⟨x,hx,by rw[decide_eq_false h];decide⟩
theorem zuu {L:List (List UInt8)}{r:List UInt8}(hr:r∈L)(h:allR r=false):twoR L=false:=by
 unfold twoR;rw[List.all_eq_false];exact⟨r,hr,by show ¬ allR r=true;rw[h];decide⟩
theorem zsk (u:Gr)(w:World)(h:u.U w)(hr:∀r∈u.L,r.length≤1000)(hl9:u.L.length≤1000) :
  Calls Tryz.prog 71 #[u.val] w fun e w'=>e=.returned (.bool (twoR u.L))∧Below w.heap.size w w':=by
 have HB:=Hh (GrB.start h);have hcap:=h.t.cap;obtain⟨c0,c1,c2,c3,c4⟩:=Gr.cells HB.out.k;dsimp only[Gr.obj] at c0 c1 c2 c3 c4;obtain⟨R,hR⟩:∃R,R=twoR u.L:=⟨_,rfl⟩;rw[←hR];have HRR:=Hh hR;have HRW:=Hh hr;clear h hR hr;go_enter Tryz.func71,Tryz.ntmps71;go_wp2_with fail;go_loopw [3,4] (fun z1 z2 wr=>∃(k:Nat) (y:Value),z1=.int .i64 k∧y=z2∧k≤u.L.length∧twoR (u.L.take k)=true∧GrB w u wr) (fun z1 _ _=>u.L.length-(intOf z1).toNat)
 case atStart=>exact⟨0,_,rfl,rfl,Nat.zero_le _,by rw[List.take_zero];rfl,HB.out⟩
 case round =>
  obtain⟨k,y,rfl,rfl,hk,hall,hb⟩:=hrel;clear HB c0 c1 c2 c3 c4;have HB:=Hh hb;obtain⟨c0,c1,c2,c3,c4⟩:=Gr.cells HB.out.k;have HAL:=Hh hall;have kw:IntKind.i64.wrap ((k:Int)+1)=(k:Int)+1:=IntWalk.i64_in _ (by omega);clear hall hb;by_cases hlt:k<u.L.length
  ·obtain⟨b2,o2,hA2,-,hcc⟩:=HB.out.u.t.at_ (by omega)
   rw[hA2] at c4;have s0:=hcc k hlt;unfold strV at s0;obtain⟨s,hs⟩:∃s:ByteArray,s=⟨(tat u.L k).toArray⟩:=⟨_,rfl⟩;rw[←hs] at s0;have hmem:tat u.L k∈u.L:=by
    unfold tat;rw[List.getElem?_eq_getElem hlt];exact List.getElem_mem _
   have HMEM:=Hh hmem;have HSD:=Hh (show s.data.toList=tat u.L k by rw[hs]);have hsz:s.size≤1000:=by rw[hs,zax];exact HRW.out _ hmem
   have HTW:=Hh (zkc hlt);have j0:(0:Int)≤(k:Int):=by omega
   have j1:(k:Int)<(u.L.length:Int):=by omega
   have j3:decide ((k:Int)<(u.L.length:Int))=true:=decide_eq_true j1;have HLT:=Hh hlt;clear hcc hs hlt hmem hA2;go_wp2_with fail;go_loopw [4] (fun z1 w2=>∃(i:Nat),z1=.int .i64 i∧i≤s.size∧allR (s.data.toList.take i)=true∧w2=wr) (fun z1 _=>s.size-(intOf z1).toNat)
   case atStart=>exact⟨0,rfl,Nat.zero_le _,by rw[List.take_zero];rfl,rfl⟩
   case round =>
    obtain⟨i,rfl,hi,ha,rfl⟩:=hrel;have HA:=Hh ha;have iw:IntKind.i64.wrap ((i:Int)+1)=(i:Int)+1:=IntWalk.i64_in _ (by omega);clear ha;by_cases hli:i<s.size
    ·have hgt:=zbH hli;have HAT:=Hh (zkd hgt);have HGM:=Hh (List.mem_of_getElem? hgt);have i0:(0:Int)≤(i:Int):=by omega
     have i1:(i:Int)<(s.size:Int):=by omega
     have i3:decide ((i:Int)<(s.size:Int))=true:=decide_eq_true i1;have HLI:=Hh hli;clear hgt;by_cases hx:(s[i]'hli).toNat≤1
     ·have u1:decide ((((s[i]'hli).toNat:Nat):Int)>1)=false:=decide_eq_false (by omega);have u2:decide (1<(s[i]'hli).toNat)=false:=decide_eq_false (by omega);have HX:=Hh hx;clear hx;go_wp2_with fail;go_roundw
      case rel=>exact⟨i+1,by go_num,HLI.out,by rw[HAT.out,HA.out,decide_eq_true HX.out];rfl,trivial⟩
      case measure=>have:=HLI.out;simp[intOf];omega
     ·have u1:decide ((((s[i]'hli).toNat:Nat):Int)>1)=true:=decide_eq_true (by omega);have u2:decide (1<(s[i]'hli).toNat)=true:=decide_eq_true (by omega);have HRF:=Hh (show R=false by rw[HRR.out];exact zuu HMEM.out (zut (by rw[←HSD.out];exact HGM.out) hx));clear hx;go_wp2_with fail;go_ret;exact⟨by rw[HRF.out];rfl,HB.out.b⟩
    ·have e:i=s.size:=by omega
     have i9:decide ((i:Int)<(s.size:Int))=false:=decide_eq_false (by omega);have i10:decide (i<s.size)=false:=decide_eq_false hli;have i11:(i<s.size)=False:=eq_false hli;have HE:=Hh (show s.data.toList.take i=tat u.L k by rw[List.take_of_length_le (by rw[zaN];omega)];exact HSD.out);clear hli e;go_wp2_with fail;go_roundw
     case rel=>exact⟨k+1,_,by go_num,rfl,HLT.out,by(have h9:=HA.out;rw[HE.out] at h9;rw[HTW.out,HAL.out,h9];rfl),HB.out⟩
     case measure=>have:=HLT.out;simp[intOf];omega
  ·have e:k=u.L.length:=by omega
   have t9:decide ((k:Int)<(u.L.length:Int))=false:=decide_eq_false (by omega);have t10:decide (k<u.L.length)=false:=decide_eq_false hlt;have t11:(k<u.L.length)=False:=eq_false hlt;have HE:=Hh (show R=true by rw[HRR.out];have:=HAL.out;rw[e,List.take_length] at this;exact this);clear hlt e;go_wp2_with fail;go_ret;exact⟨by rw[HE.out];rfl,HB.out.b⟩
theorem zsT {r:List UInt8}{x k:Nat}(hx:x<r.length)(hk:x≤k∧k≤r.length)(ha:∀j,x≤j→j<k→r[j]?=r[x]?)(he:k=r.length∨r[k]?≠r[x]?):x<k∧runN (r.drop x)=k-x:=by
 have hxk:x<k:=by
  rcases Nat.lt_or_ge x k with h|h
  ·exact h
  ·have e:k=x:=by omega
   subst e;rcases he with h|h
   ·omega
   ·exact absurd rfl h
 have hh:(r.drop x).head?=r[x]?:=by rw[List.head?_eq_getElem?,List.getElem?_drop,Nat.add_zero]
 refine⟨hxk,zlj (by omega) (by rw[List.length_drop];omega) (fun j hj=>?_) ?_⟩
 ·rw[List.getElem?_drop,hh];exact ha _ (by omega) (by omega)
 ·rcases he with h|h
  ·exact .inl (by rw[List.length_drop];omega)
  ·refine .inr ?_;rw[List.getElem?_drop,hh,show x+(k-x)=k by omega];exact h
theorem zcM {s:ByteArray}{n j:Nat}(hn:n=(zal s.data.toList).length)(hj:j<n):(zal s.data.toList)[j]?=s.data.toList[j]?:=by
 rw[zhR s.data.toList,List.getElem?_take,if_pos (by omega)]
theorem zlm (u:Gr)(w:World)(h:u.U w)(hr:∀r∈u.L,r.length≤99)(hl:u.L.length≤99) :
  Calls Tryz.prog 35 #[u.val] w (zvz u.L w):=by
 have hcap:=h.t.cap;obtain⟨iT,hi,hz0,hz1,hz2⟩:=zdD Tryz.infoTs;have HI:=Hh (And.intro hi (And.intro hz0 (And.intro hz1 hz2)));have hal:=(Below.refl w.heap.size w).alloc (Nat.le_refl _) u.obj;obtain⟨W0,hW0⟩:∃W:World,W=w.alloc u.obj:=⟨_,rfl⟩;obtain⟨g0,hg0⟩:∃g,g=w.heap.size:=⟨_,rfl⟩;have hk:W0.heap[g0]?=some u.obj:=by rw[hW0,hg0];exact heap_alloc_new w _
 have HW:=Hh (show Below w.heap.size w W0 by rw[hW0];exact hal);have HU:=Hh (show u.U W0 by rw[hW0];exact h.next hal);have HK:=Hh hk;obtain⟨c0,c1,c2,c3,c4⟩:=Gr.cells hk;have HR:=Hh hr;have HL:=Hh hl;obtain⟨B,hB⟩:∃B,B=twoR u.L:=⟨_,rfl⟩;have HBB:=Hh hB;clear h hi hz0 hz1 hz2 hal hk hr hB;go_enter Tryz.func35,Tryz.ntmps35;go_upto_region 3 with fail
 rw[←hW0,←hg0];clear hW0 hg0;go_wp2_with (go_at_call 71;go_loud (refine(zsk u _ HU.out (fun r hr=>by have:=HR.out r hr;omega) (by omega)).mono ?_;rintro e w1 ⟨rfl,b_⟩;rw[←HBB.out];have HW1:=Hh (HW.out.trans (b_.mono HW.out.size));have HU1:=Hh (HU.out.next b_);have HK1:=Hh ((b_.block _ (zad HK.out)).trans HK.out);clear b_ c0 c1 c2 c3 c4));obtain⟨base,hbase⟩:∃b,b=w1.heap.size:=⟨_,rfl⟩;have HBS:=Hh hbase;clear hbase;go_loopw [6,3,4,7,8,9,10] (fun z1 z2 z3 z4 z5 z6 z7 wr=>∃(k N:Nat) (v y4 y5 y6 y7:Value) (lz:Int),z1=.int .i64 k∧v=z2∧z3=.int .i64 lz∧y4=z4∧y5=z5∧y6=z6∧y7=z7∧k≤u.L.length∧lz=zur (tokK B u.L k).2∧OwS wr base v N (tokK B u.L k).1∧Below base w1 wr) (fun z1 _ _ _ _ _ _ _=>u.L.length-(intOf z1).toNat)
 case atStart=>exact⟨0,0,_,_,_,_,_,-1,rfl,rfl,rfl,rfl,rfl,rfl,rfl,Nat.zero_le _,rfl,OwS.nil _ _,Below.refl _ _⟩
 case round =>
  obtain⟨k,N,v,y4,y5,y6,y7,lz,rfl,rfl,rfl,rfl,rfl,rfl,rfl,hk,hlz,hown,hb⟩:=hrel;have HLZ:=Hh hlz;have HOW:=Hh hown;have HB:=Hh hb;have hsz:=hb.size;rw[←HBS.out] at hsz;have hkr:wr.heap[g0]?=some u.obj:=(hb.block _ (by rw[HBS.out];exact zad HK1.out)).trans HK1.out;have HKR:=Hh hkr;obtain⟨c0,c1,c2,c3,c4⟩:=Gr.cells hkr;have hN9:N≤10000:=by
   have h1:=zfa (b:=B) (m:=99) HR.out k hk;rw[hown.1] at h1;have h2:k*(99+1)≤99*100:=Nat.mul_le_mul (by omega) (by omega);omega
  clear hlz hown hb hkr;by_cases hlt:k<u.L.length
  ·obtain⟨b3,o3,hA3,-,hcc⟩:=(HU1.out.t.below (show Below w1.heap.size w1 wr by rw[←HBS.out];exact HB.out)).at_ (by omega)
   rw[hA3] at c4;have s0:=hcc k hlt;unfold strV at s0;obtain⟨s,hs⟩:∃s:ByteArray,s=⟨(tat u.L k).toArray⟩:=⟨_,rfl⟩;rw[←hs] at s0;have hsz9:s.size≤99:=by
    rw[hs,zax];refine HR.out _ ?_;unfold tat;rw[List.getElem?_eq_getElem hlt];exact List.getElem_mem _
   have HSD:=Hh (show s.data.toList=tat u.L k by rw[hs]);obtain⟨n,hn⟩:∃n,n=(zal s.data.toList).length:=⟨_,rfl⟩;have HN:=Hh hn;have hns:n≤s.size:=by
    rw[hn,←zaN];exact zeW _
   have kw:IntKind.i64.wrap ((k:Int)+1)=(k:Int)+1:=IntWalk.i64_in _ (by omega);have j0:(0:Int)≤(k:Int):=by omega
   have j1:(k:Int)<(u.L.length:Int):=by omega
   have j3:decide ((k:Int)<(u.L.length:Int))=true:=decide_eq_true j1;have HLT:=Hh hlt;clear hcc hs hlt hA3;rcases Nat.eq_zero_or_pos n with hn0|hn0
   ·have HSK:=Hh (zdG (b:=B) (L:=u.L) (k:=k) (List.eq_nil_of_length_eq_zero (by rw[←HSD.out,←hn];exact hn0)));have t1:((n:Int)==0)=true:=by rw[hn0];rfl
    clear hn hn0;go_wp2_with (go_at_call 72;go_loud (refine(zhg s _ (by omega)).mono ?_;rintro e w2 ⟨rfl,rfl⟩;rw[←HN.out]));go_roundw
    case rel=>exact⟨k+1,N,_,_,_,_,_,lz,by go_num,rfl,rfl,rfl,rfl,rfl,rfl,HLT.out,by rw[HSK.out];exact HLZ.out,by rw[HSK.out];exact HOW.out,HB.out⟩
    case measure=>have:=HLT.out;simp[intOf];omega
   ·have t1:((n:Int)==0)=false:=beq_eq_false_iff_ne.2 (by omega);have hemp:zal (tat u.L k)≠[]:=fun e=>by
     rw[←HSD.out] at e;rw[e] at hn;simp at hn;omega
    cases hj:(tokK B u.L k).2 with
    | none =>
     obtain⟨T0,hT0⟩:∃T,T=(tokK B u.L k).1:=⟨_,rfl⟩;have HTF:=Hh (show(tokK B u.L (k+1))=(T0++zbG B (zal s.data.toList),some k) by rw[hT0,HSD.out];exact zdW hemp hj);obtain rfl:lz = -1:=by have:=HLZ.out;rw[hj] at this;exact this
     have HOW2:=Hh (show OwS wr base v N T0 by rw[hT0];exact HOW.out);have HB2:=HB;have hM9:N≤10001:=by omega
     clear hemp hj hn hT0;go_upto_region 13 with(go_at_call 72;go_loud (refine(zhg s _ (by omega)).mono ?_;rintro e w2 ⟨rfl,rfl⟩;rw[←HN.out]))
     obtain⟨W2,hW2⟩:∃W:World,W=w2:=⟨_,rfl⟩;rw[←hW2] at HOW2 HB2 ⊢;clear hW2;go_wp2_with fail;go_loopw [9,3,10] (fun z1 z2 z3 wr=>∃(x m:Nat) (v y:Value) (D:List (List UInt8)),z1=.int .i64 x∧v=z2∧y=z3∧x≤n∧OwS wr base v m (T0++D)∧D++zbG B ((zal s.data.toList).drop x)=zbG B (zal s.data.toList)∧Below base w1 wr) (fun z1 _ _ _=>n-(intOf z1).toNat)
     case atStart=>exact⟨0,N,_,_,[],rfl,rfl,rfl,Nat.zero_le _,by rw[List.append_nil];exact HOW2.out,rfl,HB2.out⟩
     case round =>
      obtain⟨x,m,v,y,D,rfl,rfl,rfl,hx,hown,hD,hb⟩:=hrel;have HOX:=Hh hown;have HDD:=Hh hD;have HBX:=Hh hb;have hsx:=hb.size;rw[←HBS.out] at hsx;have hm9:m≤11000:=by
       have h1:=congrArg List.length hD;have h2:=zdF B _ (zal s.data.toList) (Nat.le_refl _);have h3:=hown.1;have h4:=HOW2.out.1;rw[List.length_append] at h1 h3;rw[←HN.out] at h2;omega
      clear hown hD hb;by_cases hxn:x<n
      ·have x0:(0:Int)≤(x:Int):=by omega
       have x1:(x:Int)<(s.size:Int):=by omega
       have x2:decide ((x:Int)<(n:Int))=true:=decide_eq_true (by omega);have hxs:x<s.size:=by omega
       have HXN:=Hh hxn;have HGX:=Hh (zbH hxs);clear hxn;go_wp2_with fail;go_loopw [10] (fun z1 w2=>∃(p:Nat),z1=.int .i64 p∧x≤p∧p≤n∧(∀j,x≤j→j<p→(zal s.data.toList)[j]?=(zal s.data.toList)[x]?)∧Below wr.heap.size wr w2) (fun z1 _=>n-(intOf z1).toNat)
       case atStart=>exact⟨x,rfl,Nat.le_refl _,Nat.le_of_lt HXN.out,fun j h1 h2=>by omega,Below.refl _ _⟩
       case round =>
        obtain⟨p,rfl,hxp,hpn,ha,hb2⟩:=hrel;have HA:=Hh ha;have HB3:=Hh hb2;have pw:IntKind.i64.wrap ((p:Int)+1)=(p:Int)+1:=IntWalk.i64_in _ (by omega);clear ha hb2;by_cases hgo:p<n∧s.data.toList[p]?=s.data.toList[x]?
        ·obtain⟨hp,he⟩:=hgo;have p0:(0:Int)≤(p:Int):=by omega
         have p1:(p:Int)<(s.size:Int):=by omega
         have p2:decide ((p:Int)<(n:Int))=true:=decide_eq_true (by omega);have p3:decide (p<n)=true:=decide_eq_true hp;have hps:p<s.size:=by omega
         have u1:((((s[p]'hps).toNat:Nat):Int)==(((s[x]'hxs).toNat:Nat):Int))=true:=by
          have h1:=zbH hps;rw[he,HGX.out] at h1;rw[←Option.some.inj h1];exact beq_self_eq_true _
         have HP:=Hh hp;have HEQ:=Hh he;clear hp he;go_wp2_with fail;go_quiet (fail);go_wp2_with fail;go_roundw
         case rel=>exact⟨p+1,by go_num,by omega,HP.out,fun j h1 h2=>(by rcases Nat.lt_or_ge j p with h3|h3;exact HA.out j h1 h3;(have h4:j=p:=by omega);rw[h4,zcM HN.out HP.out,zcM HN.out HXN.out];exact HEQ.out),zaa HB3.out _⟩
         case measure=>have:=HP.out;simp[intOf];omega
        ·have hrun:=Hh (zsT (r:=zal s.data.toList) (x:=x) (k:=p) (by rw[←HN.out];exact HXN.out) ⟨hxp,by rw[←HN.out];exact hpn⟩ HA.out (by
          by_cases hp:p<n
          ·refine .inr fun e=>hgo ⟨hp,?_⟩;rw[zcM HN.out hp,zcM HN.out HXN.out] at e;exact e
          ·exact .inl (by rw[←HN.out];omega)))
         obtain⟨q,hq⟩:∃q,q=p-x:=⟨_,rfl⟩;have HQ:=Hh hq;have hq0:0<q:=by have:=hrun.out.1;omega
         have hq9:q<100:=by omega
         have qw:IntKind.i64.wrap ((p:Int)-(x:Int))=(q:Int):=by rw[IntWalk.i64_in _ (by omega)];omega
         obtain⟨x9,hx9⟩:∃z,z=(s[x]'hxs).toNat:=⟨_,rfl⟩;have hx255:x9≤255:=by rw[hx9];have:=(s[x]'hxs).toNat_lt;omega
         obtain⟨g,hg⟩:∃g:ByteArray,g=⟨(sgnR B x9).toArray⟩:=⟨_,rfl⟩;have hgz:g.size≤2:=by rw[hg,zax];exact zgj _ _
         obtain⟨t,ht⟩:∃t,t=tokR q g.data.toList:=⟨_,rfl⟩;have HTK:=Hh (show zbG B ((zal s.data.toList).drop x)=t :: zbG B ((zal s.data.toList).drop p) by
          have hne:(zal s.data.toList).drop x≠[]:=fun e=>by
           have h1:=congrArg List.length e;rw[List.length_drop,←HN.out] at h1;have:=HXN.out;simp at h1;omega
          have hhd:((zal s.data.toList).drop x).headD 0=s[x]'hxs:=by
           have h1:((zal s.data.toList).drop x).head?=some (s[x]'hxs):=by
            rw[List.head?_eq_getElem?,List.getElem?_drop,Nat.add_zero,zcM HN.out HXN.out];exact HGX.out
           cases hq2:(zal s.data.toList).drop x with
           | nil=>exact absurd hq2 hne
           | cons y l =>
            rw[hq2] at h1;exact Option.some.inj h1
          rw[zcZ B hne,hrun.out.2,hhd,←hx9,List.drop_drop,←hq,show x+q=p by have:=hrun.out.1;omega,ht,hg])
         have HG:=Hh hg;have HX9:=Hh hx9;have HTT9:=Hh ht;have HX0:=Hh (HOX.out.next HB3.out);have HBY:=Hh (HBX.out.trans (HB3.out.mono hsx));have hsy:=HBY.out.size;rw[←HBS.out] at hsy;have HPN:=Hh hpn;have hcond:decide ((p:Int)<(n:Int))=false∨(decide ((p:Int)<(n:Int))=true∧∃hps:p<s.size,((((s[p]'hps).toNat:Nat):Int)==(((s[x]'hxs).toNat:Nat):Int))=false):=by
          by_cases hp:p<n
          ·refine .inr ⟨decide_eq_true (by omega),by omega,beq_eq_false_iff_ne.2 fun e=>hgo ⟨hp,?_⟩⟩;have hps:p<s.size:=by omega
           have h1:s[p]'hps=s[x]'hxs:=UInt8.toNat_inj.1 (by omega);have h2:=zbH hps;have h3:=zbH hxs;rw[h2,h3,h1]
          ·exact .inl (decide_eq_false (by omega))
         have p0:(0:Int)≤(p:Int):=by omega
         have xn:x<p:=hrun.out.1;clear hgo hq hg ht hx9;rcases hcond with d1|⟨d1,hps,d2⟩
         ·have d3:decide (p<n)=false:=decide_eq_false (by have:=of_decide_eq_false d1;omega);have d4:(p<n)=False:=eq_false (by have:=of_decide_eq_false d1;omega);go_wp2_with fail;go_quiet (fail);obtain⟨W3,hW3⟩:∃W:World,W=wr.drewN nq:=⟨_,rfl⟩;have HX1:=Hh (show OwS W3 base v m (T0++D) by rw[hW3];exact HX0.out.next (zaa (Below.refl _ _) _));have HB4:=Hh (show Below base w1 W3 by rw[hW3];exact zaa HBY.out _);have hs4:base≤W3.heap.size:=by rw[hW3];exact hsy
          rw[←hW3];clear hW3;go_wp2_with (first
           | (go_at_call 32;go_loud (rw[←HX9.out];refine(zdl B x9 _ hx255).mono ?_;rintro e w5 ⟨rfl,b5_⟩;rw[←HG.out];have HX2:=Hh (HX1.out.next b5_);have HB5:=Hh (HB4.out.trans (b5_.mono hs4));have hs5:=Nat.le_trans hs4 b5_.size;clear b5_))
           | (go_at_call 73;go_loud (refine(zda q g _ hq9 (by omega)).mono ?_;rintro e w6 ⟨rfl,b6_⟩;rw[←HTT9.out];have HX3:=Hh (HX2.out.next b6_);have HB6:=Hh (HB5.out.trans (b6_.mono hs5));have hs6:=Nat.le_trans hs5 b6_.size;clear b6_))
           | (at_builtin;go_loud (refine wpList_append_own_at _ rfl _ _ 49 rfl base 9 iT (.string ⟨#[]⟩) 1 16 Tryz.underlying49 HI.out.1 HI.out.2.1 HI.out.2.2.1 HI.out.2.2.2 rfl (by decide) _ _ _ rfl (HX3.out.next ((Below.refl _ _).alloc (Nat.le_refl _) (.cells #[.string ⟨t.toArray⟩] 9))).2 ⟨_,0,none⟩ 1 1 [.string ⟨t.toArray⟩] rfl rfl (cell_one_new _ _ _) (by simp[Value.oneCell']) (by simp only[maxLen];omega) (by omega) (by simp;omega) ?_;intro v2 w4 ho4 hg4 hn4 hk4;have OW4:=Hh (OwS.more (t:=t) HOX.out.1 ho4);have B4:=Hh ((HB6.out.alloc hs6 (.cells #[.string ⟨t.toArray⟩] 9)).grown hg4 (by rw[World.size_alloc];omega) (fun q hq=>(HX3.out.2.lt q hq).1));clear ho4 hg4 hn4 hk4)))
          go_roundw
          case rel=>exact⟨p,m+1,_,_,D++[t],rfl,rfl,rfl,HPN.out,by rw[←List.append_assoc];exact OW4.out,by rw[←HDD.out,HTK.out,List.append_assoc];rfl,B4.out⟩
          case measure=>have:=HPN.out;simp[intOf];omega
         ·have p1:(p:Int)<(s.size:Int):=by omega
          have d3:decide (p<n)=true:=decide_eq_true (by have:=of_decide_eq_true d1;omega);go_wp2_with fail;go_quiet (fail);obtain⟨W3,hW3⟩:∃W:World,W=wr.drewN nq:=⟨_,rfl⟩;have HX1:=Hh (show OwS W3 base v m (T0++D) by rw[hW3];exact HX0.out.next (zaa (Below.refl _ _) _));have HB4:=Hh (show Below base w1 W3 by rw[hW3];exact zaa HBY.out _);have hs4:base≤W3.heap.size:=by rw[hW3];exact hsy
          rw[←hW3];clear hW3;go_wp2_with (first
           | (go_at_call 32;go_loud (rw[←HX9.out];refine(zdl B x9 _ hx255).mono ?_;rintro e w5 ⟨rfl,b5_⟩;rw[←HG.out];have HX2:=Hh (HX1.out.next b5_);have HB5:=Hh (HB4.out.trans (b5_.mono hs4));have hs5:=Nat.le_trans hs4 b5_.size;clear b5_))
           | (go_at_call 73;go_loud (refine(zda q g _ hq9 (by omega)).mono ?_;rintro e w6 ⟨rfl,b6_⟩;rw[←HTT9.out];have HX3:=Hh (HX2.out.next b6_);have HB6:=Hh (HB5.out.trans (b6_.mono hs5));have hs6:=Nat.le_trans hs5 b6_.size;clear b6_))
           | (at_builtin;go_loud (refine wpList_append_own_at _ rfl _ _ 49 rfl base 9 iT (.string ⟨#[]⟩) 1 16 Tryz.underlying49 HI.out.1 HI.out.2.1 HI.out.2.2.1 HI.out.2.2.2 rfl (by decide) _ _ _ rfl (HX3.out.next ((Below.refl _ _).alloc (Nat.le_refl _) (.cells #[.string ⟨t.toArray⟩] 9))).2 ⟨_,0,none⟩ 1 1 [.string ⟨t.toArray⟩] rfl rfl (cell_one_new _ _ _) (by simp[Value.oneCell']) (by simp only[maxLen];omega) (by omega) (by simp;omega) ?_;intro v2 w4 ho4 hg4 hn4 hk4;have OW4:=Hh (OwS.more (t:=t) HOX.out.1 ho4);have B4:=Hh ((HB6.out.alloc hs6 (.cells #[.string ⟨t.toArray⟩] 9)).grown hg4 (by rw[World.size_alloc];omega) (fun q hq=>(HX3.out.2.lt q hq).1));clear ho4 hg4 hn4 hk4)))
          go_roundw
          case rel=>exact⟨p,m+1,_,_,D++[t],rfl,rfl,rfl,HPN.out,by rw[←List.append_assoc];exact OW4.out,by rw[←HDD.out,HTK.out,List.append_assoc];rfl,B4.out⟩
          case measure=>have:=HPN.out;simp[intOf];omega
      ·have e:x=n:=by omega
       have x2:decide ((x:Int)<(n:Int))=false:=decide_eq_false (by omega);have x3:decide (x<n)=false:=decide_eq_false hxn;have x4:(x<n)=False:=eq_false hxn;have HDE:=Hh (show D=zbG B (zal s.data.toList) by
        have:=HDD.out;rw[e,HN.out,List.drop_length,zgZ,List.append_nil] at this;exact this)
       clear hxn e;go_wp2_with fail;go_roundw
       case rel=>exact⟨k+1,_,_,_,_,_,_,k,by go_num,rfl,rfl,rfl,rfl,rfl,rfl,HLT.out,by rw[HTF.out];rfl,by(have h8:=HOX.out;rw[HDE.out] at h8;rw[HTF.out];exact h8),HBX.out⟩
       case measure=>have:=HLT.out;simp[intOf];omega
    | some j =>
     have hjk:=ziU hj;obtain⟨d,hd⟩:∃d,d=k-j:=⟨_,rfl⟩;obtain⟨T0,hT0⟩:∃T,T=(tokK B u.L k).1++[tokR d [36]]:=⟨_,rfl⟩;have HTF:=Hh (show(tokK B u.L (k+1))=(T0++zbG B (zal s.data.toList),some k) by rw[hT0,HSD.out,hd];exact zeZ hemp hj);obtain rfl:lz=(j:Int):=by have:=HLZ.out;rw[hj] at this;exact this
     have y1:decide ((j:Int)≥0)=true:=decide_eq_true (by omega);have y2:(0:Int)≤(j:Int):=by omega
     have y3:IntKind.i64.wrap ((k:Int)-(j:Int))=(d:Int):=by rw[IntWalk.i64_in _ (by omega)];omega
     have hd9:d<100:=by omega
     obtain⟨tt,htt⟩:∃tt:ByteArray,tt=⟨(tokR d [36]).toArray⟩:=⟨_,rfl⟩;have HTT:=Hh htt;have HT0:=Hh hT0;clear hemp hj htt hd hn hT0;go_upto_region 13 with(first
      | (go_at_call 72;go_loud (refine(zhg s _ (by omega)).mono ?_;rintro e w2 ⟨rfl,rfl⟩;rw[←HN.out]))
      | (go_at_call 73;go_loud (refine(zda d ⟨#[36]⟩ _ hd9 (by decide)).mono ?_;rintro e w3 ⟨rfl,b3_⟩;rw[show(⟨(tokR d (⟨#[36]⟩:ByteArray).data.toList).toArray⟩:ByteArray)=tt from HTT.out.symm];have OW3:=Hh (HOW.out.next b3_);have B3:=Hh (HB.out.trans (b3_.mono hsz));have hs3:=B3.out.size;rw[←HBS.out] at hs3;clear b3_))
      | (at_builtin;go_loud (refine wpList_append_own_at _ rfl _ _ 49 rfl base 9 iT (.string ⟨#[]⟩) 1 16 Tryz.underlying49 HI.out.1 HI.out.2.1 HI.out.2.2.1 HI.out.2.2.2 rfl (by decide) _ _ _ rfl (OW3.out.next ((Below.refl _ _).alloc (Nat.le_refl _) (.cells #[.string tt] 9))).2 ⟨_,0,none⟩ 1 1 [.string tt] rfl rfl (cell_one_new _ _ _) (by simp[Value.oneCell']) (by simp only[maxLen];omega) (by omega) (by simp;omega) ?_;intro v2 w4 ho4 hg4 hn4 hk4;have HOW2:=Hh (show OwS w4 base v2 (N+1) T0 by(rw[HT0.out];exact OwS.more HOW.out.1 (by rw[HTT.out] at ho4;exact ho4)));have HB2:=Hh ((B3.out.alloc hs3 (.cells #[.string tt] 9)).grown hg4 (by rw[World.size_alloc];omega) (fun q hq=>(OW3.out.2.lt q hq).1));clear ho4 hg4 hn4 hk4)))
     obtain⟨W2,hW2⟩:∃W:World,W=w4:=⟨_,rfl⟩;rw[←hW2] at HOW2 HB2 ⊢;clear hW2;go_wp2_with fail;go_loopw [9,3,10] (fun z1 z2 z3 wr=>∃(x m:Nat) (v y:Value) (D:List (List UInt8)),z1=.int .i64 x∧v=z2∧y=z3∧x≤n∧OwS wr base v m (T0++D)∧D++zbG B ((zal s.data.toList).drop x)=zbG B (zal s.data.toList)∧Below base w1 wr) (fun z1 _ _ _=>n-(intOf z1).toNat)
     case atStart=>exact⟨0,N+1,_,_,[],rfl,rfl,rfl,Nat.zero_le _,by rw[List.append_nil];exact HOW2.out,rfl,HB2.out⟩
     case round =>
      obtain⟨x,m,v,y,D,rfl,rfl,rfl,hx,hown,hD,hb⟩:=hrel;have HOX:=Hh hown;have HDD:=Hh hD;have HBX:=Hh hb;have hsx:=hb.size;rw[←HBS.out] at hsx;have hm9:m≤11000:=by
       have h1:=congrArg List.length hD;have h2:=zdF B _ (zal s.data.toList) (Nat.le_refl _);have h3:=hown.1;have h4:=HOW2.out.1;rw[List.length_append] at h1 h3;rw[←HN.out] at h2;omega
      clear hown hD hb;by_cases hxn:x<n
      ·have x0:(0:Int)≤(x:Int):=by omega
       have x1:(x:Int)<(s.size:Int):=by omega
       have x2:decide ((x:Int)<(n:Int))=true:=decide_eq_true (by omega);have hxs:x<s.size:=by omega
       have HXN:=Hh hxn;have HGX:=Hh (zbH hxs);clear hxn;go_wp2_with fail;go_loopw [10] (fun z1 w2=>∃(p:Nat),z1=.int .i64 p∧x≤p∧p≤n∧(∀j,x≤j→j<p→(zal s.data.toList)[j]?=(zal s.data.toList)[x]?)∧Below wr.heap.size wr w2) (fun z1 _=>n-(intOf z1).toNat)
       case atStart=>exact⟨x,rfl,Nat.le_refl _,Nat.le_of_lt HXN.out,fun j h1 h2=>by omega,Below.refl _ _⟩
       case round =>
        obtain⟨p,rfl,hxp,hpn,ha,hb2⟩:=hrel;have HA:=Hh ha;have HB3:=Hh hb2;have pw:IntKind.i64.wrap ((p:Int)+1)=(p:Int)+1:=IntWalk.i64_in _ (by omega);clear ha hb2;by_cases hgo:p<n∧s.data.toList[p]?=s.data.toList[x]?
        ·obtain⟨hp,he⟩:=hgo;have p0:(0:Int)≤(p:Int):=by omega
         have p1:(p:Int)<(s.size:Int):=by omega
         have p2:decide ((p:Int)<(n:Int))=true:=decide_eq_true (by omega);have p3:decide (p<n)=true:=decide_eq_true hp;have hps:p<s.size:=by omega
         have u1:((((s[p]'hps).toNat:Nat):Int)==(((s[x]'hxs).toNat:Nat):Int))=true:=by
          have h1:=zbH hps;rw[he,HGX.out] at h1;rw[←Option.some.inj h1];exact beq_self_eq_true _
         have HP:=Hh hp;have HEQ:=Hh he;clear hp he;go_wp2_with fail;go_quiet (fail);go_wp2_with fail;go_roundw
         case rel=>exact⟨p+1,by go_num,by omega,HP.out,fun j h1 h2=>(by rcases Nat.lt_or_ge j p with h3|h3;exact HA.out j h1 h3;(have h4:j=p:=by omega);rw[h4,zcM HN.out HP.out,zcM HN.out HXN.out];exact HEQ.out),zaa HB3.out _⟩
         case measure=>have:=HP.out;simp[intOf];omega
        ·have hrun:=Hh (zsT (r:=zal s.data.toList) (x:=x) (k:=p) (by rw[←HN.out];exact HXN.out) ⟨hxp,by rw[←HN.out];exact hpn⟩ HA.out (by
          by_cases hp:p<n
          ·refine .inr fun e=>hgo ⟨hp,?_⟩;rw[zcM HN.out hp,zcM HN.out HXN.out] at e;exact e
          ·exact .inl (by rw[←HN.out];omega)))
         obtain⟨q,hq⟩:∃q,q=p-x:=⟨_,rfl⟩;have HQ:=Hh hq;have hq0:0<q:=by have:=hrun.out.1;omega
         have hq9:q<100:=by omega
         have qw:IntKind.i64.wrap ((p:Int)-(x:Int))=(q:Int):=by rw[IntWalk.i64_in _ (by omega)];omega
         obtain⟨x9,hx9⟩:∃z,z=(s[x]'hxs).toNat:=⟨_,rfl⟩;have hx255:x9≤255:=by rw[hx9];have:=(s[x]'hxs).toNat_lt;omega
         obtain⟨g,hg⟩:∃g:ByteArray,g=⟨(sgnR B x9).toArray⟩:=⟨_,rfl⟩;have hgz:g.size≤2:=by rw[hg,zax];exact zgj _ _
         obtain⟨t,ht⟩:∃t,t=tokR q g.data.toList:=⟨_,rfl⟩;have HTK:=Hh (show zbG B ((zal s.data.toList).drop x)=t :: zbG B ((zal s.data.toList).drop p) by
          have hne:(zal s.data.toList).drop x≠[]:=fun e=>by
           have h1:=congrArg List.length e;rw[List.length_drop,←HN.out] at h1;have:=HXN.out;simp at h1;omega
          have hhd:((zal s.data.toList).drop x).headD 0=s[x]'hxs:=by
           have h1:((zal s.data.toList).drop x).head?=some (s[x]'hxs):=by
            rw[List.head?_eq_getElem?,List.getElem?_drop,Nat.add_zero,zcM HN.out HXN.out];exact HGX.out
           cases hq2:(zal s.data.toList).drop x with
           | nil=>exact absurd hq2 hne
           | cons y l =>
            rw[hq2] at h1;exact Option.some.inj h1
          rw[zcZ B hne,hrun.out.2,hhd,←hx9,List.drop_drop,←hq,show x+q=p by have:=hrun.out.1;omega,ht,hg])
         have HG:=Hh hg;have HX9:=Hh hx9;have HTT9:=Hh ht;have HX0:=Hh (HOX.out.next HB3.out);have HBY:=Hh (HBX.out.trans (HB3.out.mono hsx));have hsy:=HBY.out.size;rw[←HBS.out] at hsy;have HPN:=Hh hpn;have hcond:decide ((p:Int)<(n:Int))=false∨(decide ((p:Int)<(n:Int))=true∧∃hps:p<s.size,((((s[p]'hps).toNat:Nat):Int)==(((s[x]'hxs).toNat:Nat):Int))=false):=by
          by_cases hp:p<n
          ·refine .inr ⟨decide_eq_true (by omega),by omega,beq_eq_false_iff_ne.2 fun e=>hgo ⟨hp,?_⟩⟩;have hps:p<s.size:=by omega
           have h1:s[p]'hps=s[x]'hxs:=UInt8.toNat_inj.1 (by omega);have h2:=zbH hps;have h3:=zbH hxs;rw[h2,h3,h1]
          ·exact .inl (decide_eq_false (by omega))
         have p0:(0:Int)≤(p:Int):=by omega
         have xn:x<p:=hrun.out.1;clear hgo hq hg ht hx9;rcases hcond with d1|⟨d1,hps,d2⟩
         ·have d3:decide (p<n)=false:=decide_eq_false (by have:=of_decide_eq_false d1;omega);have d4:(p<n)=False:=eq_false (by have:=of_decide_eq_false d1;omega);go_wp2_with fail;go_quiet (fail);obtain⟨W3,hW3⟩:∃W:World,W=wr.drewN nq:=⟨_,rfl⟩;have HX1:=Hh (show OwS W3 base v m (T0++D) by rw[hW3];exact HX0.out.next (zaa (Below.refl _ _) _));have HB4:=Hh (show Below base w1 W3 by rw[hW3];exact zaa HBY.out _);have hs4:base≤W3.heap.size:=by rw[hW3];exact hsy
          rw[←hW3];clear hW3;go_wp2_with (first
           | (go_at_call 32;go_loud (rw[←HX9.out];refine(zdl B x9 _ hx255).mono ?_;rintro e w5 ⟨rfl,b5_⟩;rw[←HG.out];have HX2:=Hh (HX1.out.next b5_);have HB5:=Hh (HB4.out.trans (b5_.mono hs4));have hs5:=Nat.le_trans hs4 b5_.size;clear b5_))
           | (go_at_call 73;go_loud (refine(zda q g _ hq9 (by omega)).mono ?_;rintro e w6 ⟨rfl,b6_⟩;rw[←HTT9.out];have HX3:=Hh (HX2.out.next b6_);have HB6:=Hh (HB5.out.trans (b6_.mono hs5));have hs6:=Nat.le_trans hs5 b6_.size;clear b6_))
           | (at_builtin;go_loud (refine wpList_append_own_at _ rfl _ _ 49 rfl base 9 iT (.string ⟨#[]⟩) 1 16 Tryz.underlying49 HI.out.1 HI.out.2.1 HI.out.2.2.1 HI.out.2.2.2 rfl (by decide) _ _ _ rfl (HX3.out.next ((Below.refl _ _).alloc (Nat.le_refl _) (.cells #[.string ⟨t.toArray⟩] 9))).2 ⟨_,0,none⟩ 1 1 [.string ⟨t.toArray⟩] rfl rfl (cell_one_new _ _ _) (by simp[Value.oneCell']) (by simp only[maxLen];omega) (by omega) (by simp;omega) ?_;intro v2 w4 ho4 hg4 hn4 hk4;have OW4:=Hh (OwS.more (t:=t) HOX.out.1 ho4);have B4:=Hh ((HB6.out.alloc hs6 (.cells #[.string ⟨t.toArray⟩] 9)).grown hg4 (by rw[World.size_alloc];omega) (fun q hq=>(HX3.out.2.lt q hq).1));clear ho4 hg4 hn4 hk4)))
          go_roundw
          case rel=>exact⟨p,m+1,_,_,D++[t],rfl,rfl,rfl,HPN.out,by rw[←List.append_assoc];exact OW4.out,by rw[←HDD.out,HTK.out,List.append_assoc];rfl,B4.out⟩
          case measure=>have:=HPN.out;simp[intOf];omega
         ·have p1:(p:Int)<(s.size:Int):=by omega
          have d3:decide (p<n)=true:=decide_eq_true (by have:=of_decide_eq_true d1;omega);go_wp2_with fail;go_quiet (fail);obtain⟨W3,hW3⟩:∃W:World,W=wr.drewN nq:=⟨_,rfl⟩;have HX1:=Hh (show OwS W3 base v m (T0++D) by rw[hW3];exact HX0.out.next (zaa (Below.refl _ _) _));have HB4:=Hh (show Below base w1 W3 by rw[hW3];exact zaa HBY.out _);have hs4:base≤W3.heap.size:=by rw[hW3];exact hsy
          rw[←hW3];clear hW3;go_wp2_with (first
           | (go_at_call 32;go_loud (rw[←HX9.out];refine(zdl B x9 _ hx255).mono ?_;rintro e w5 ⟨rfl,b5_⟩;rw[←HG.out];have HX2:=Hh (HX1.out.next b5_);have HB5:=Hh (HB4.out.trans (b5_.mono hs4));have hs5:=Nat.le_trans hs4 b5_.size;clear b5_))
           | (go_at_call 73;go_loud (refine(zda q g _ hq9 (by omega)).mono ?_;rintro e w6 ⟨rfl,b6_⟩;rw[←HTT9.out];have HX3:=Hh (HX2.out.next b6_);have HB6:=Hh (HB5.out.trans (b6_.mono hs5));have hs6:=Nat.le_trans hs5 b6_.size;clear b6_))
           | (at_builtin;go_loud (refine wpList_append_own_at _ rfl _ _ 49 rfl base 9 iT (.string ⟨#[]⟩) 1 16 Tryz.underlying49 HI.out.1 HI.out.2.1 HI.out.2.2.1 HI.out.2.2.2 rfl (by decide) _ _ _ rfl (HX3.out.next ((Below.refl _ _).alloc (Nat.le_refl _) (.cells #[.string ⟨t.toArray⟩] 9))).2 ⟨_,0,none⟩ 1 1 [.string ⟨t.toArray⟩] rfl rfl (cell_one_new _ _ _) (by simp[Value.oneCell']) (by simp only[maxLen];omega) (by omega) (by simp;omega) ?_;intro v2 w4 ho4 hg4 hn4 hk4;have OW4:=Hh (OwS.more (t:=t) HOX.out.1 ho4);have B4:=Hh ((HB6.out.alloc hs6 (.cells #[.string ⟨t.toArray⟩] 9)).grown hg4 (by rw[World.size_alloc];omega) (fun q hq=>(HX3.out.2.lt q hq).1));clear ho4 hg4 hn4 hk4)))
          go_roundw
          case rel=>exact⟨p,m+1,_,_,D++[t],rfl,rfl,rfl,HPN.out,by rw[←List.append_assoc];exact OW4.out,by rw[←HDD.out,HTK.out,List.append_assoc];rfl,B4.out⟩
          case measure=>have:=HPN.out;simp[intOf];omega
      ·have e:x=n:=by omega
       have x2:decide ((x:Int)<(n:Int))=false:=decide_eq_false (by omega);have x3:decide (x<n)=false:=decide_eq_false hxn;have x4:(x<n)=False:=eq_false hxn;have HDE:=Hh (show D=zbG B (zal s.data.toList) by
        have:=HDD.out;rw[e,HN.out,List.drop_length,zgZ,List.append_nil] at this;exact this)
       clear hxn e;go_wp2_with fail;go_roundw
       case rel=>exact⟨k+1,_,_,_,_,_,_,k,by go_num,rfl,rfl,rfl,rfl,rfl,rfl,HLT.out,by rw[HTF.out];rfl,by(have h8:=HOX.out;rw[HDE.out] at h8;rw[HTF.out];exact h8),HBX.out⟩
       case measure=>have:=HLT.out;simp[intOf];omega
  ·have e:k=u.L.length:=by omega
   have t9:decide ((k:Int)<(u.L.length:Int))=false:=decide_eq_false (by omega);have t10:decide (k<u.L.length)=false:=decide_eq_false hlt;have t11:(k<u.L.length)=False:=eq_false hlt;have HE:=Hh (show(tokK B u.L k).1++[[33]]=zbE u.L by(unfold zbE;rw[e,HBB.out]));clear hlt e;go_wp2_with (at_builtin;go_loud (refine wpList_append_own_at _ rfl _ _ 49 rfl base 9 iT (.string ⟨#[]⟩) 1 16 Tryz.underlying49 HI.out.1 HI.out.2.1 HI.out.2.2.1 HI.out.2.2.2 rfl (by decide) _ _ _ rfl (HOW.out.next ((Below.refl _ _).alloc (Nat.le_refl _) (.cells #[.string ⟨#[33]⟩] 9))).2 ⟨_,0,none⟩ 1 1 [.string ⟨#[33]⟩] rfl rfl (cell_one_new _ _ _) (by simp[Value.oneCell']) (by simp only[maxLen];omega) (by omega) (by simp;omega) ?_;intro v2 w4 ho4 hg4 hn4 hk4;have OW4:=Hh (OwS.more (t:=[33]) HOW.out.1 ho4);have B4:=Hh ((HB.out.alloc hsz (.cells #[.string ⟨#[33]⟩] 9)).grown hg4 (by rw[World.size_alloc];omega) (fun q hq=>(HOW.out.2.lt q hq).1));clear ho4 hg4 hn4 hk4));go_ret;have h5:=OW4.out;rw[HE.out] at h5;obtain⟨A5,c5,e5,t5⟩:=h5.ts (fun r hr=>by have:=zbK HR.out HL.out r hr;unfold maxLen;omega);exact⟨A5,c5,N+1,by rw[←e5];rfl,h5.1,t5,HW1.out.trans (B4.out.mono (by rw[HBS.out];exact HW1.out.size))⟩
end Go.Proofs.YtcippfaljoagaaaGreatDoor

namespace Go.Proofs.YtcippfaljoagaaaGreatDoor
open Go.RowKit Num Nds Txt
theorem zqq (A:Option Addr)(c n:Nat)(L:List (List UInt8))(w:World)(h:Ts w A c L)(hn:L.length=n)(h4:∀t∈L,t.length≤4)(hl:n≤100000) :
  Calls Tryz.prog 80 #[.slice A n c] w fun e w'=>e=.returned (.string ⟨(ziW L).toArray⟩)∧Below w.heap.size w w':=by
 have hcap:=h.cap;rw[hn] at hcap;have HA:=Hh h;have HN:=Hh hn;have H4:=Hh h4;clear h hn h4;go_enter Tryz.func80,Tryz.ntmps80;go_wp2_with fail;go_loopw [5,3,4] (fun z1 z2 z3 wr=>∃(k:Nat) (s l:ByteArray),z1=.int .i64 k∧z2=.string s∧z3=.string l∧s.data.toList++l.data.toList=(zbT L k).1∧l.size=(zbT L k).2∧k≤n∧Below w.heap.size w wr) (fun z1 _ _ _=>n-(intOf z1).toNat)
 case atStart=>exact⟨0,_,_,rfl,rfl,rfl,rfl,rfl,Nat.zero_le _,Below.refl _ _⟩
 case round =>
  obtain⟨k,s,l,rfl,rfl,rfl,hsl,hll,hk,hb⟩:=hrel;have HA:=Hh (HA.out.below hb);have HB:=Hh hb;have HSL:=Hh hsl;have HLL:=Hh hll;have hlen:=(zfb H4.out k (by rw[HN.out];exact hk)).1;have hz:s.size+l.size≤600000:=by
   have e:=congrArg List.length hsl;rw[List.length_append,zaN,zaN] at e;omega
  clear hb hsl hll hlen;by_cases hlt:k<n
  ·have kw:IntKind.i64.wrap ((k:Int)+1)=(k:Int)+1:=IntWalk.i64_in _ (by omega);obtain⟨b,off,rfl,hb,hc⟩:=HA.out.at_ (by rw[HN.out];omega)
   have c1:=hc k (by rw[HN.out];exact hlt);unfold strV at c1;obtain⟨t,ht⟩:∃t:ByteArray,t=⟨(tat L k).toArray⟩:=⟨_,rfl⟩;rw[←ht] at c1;have htd:t.data.toList=tat L k:=by rw[ht]
   have htz:t.size=(tat L k).length:=by rw[←zaN,htd]
   have ht4:t.size≤4:=by
    rw[htz];unfold tat;rw[List.getElem?_eq_getElem (by rw[HN.out];exact hlt)];exact H4.out _ (List.getElem_mem _)
   have HTD:=Hh htd;have HTZ:=Hh htz;have HK:=Hh hlt;have j0:(0:Int)≤(k:Int):=by omega
   have j1:(k:Int)<(n:Int):=by omega
   have t1:decide ((k:Int)<(n:Int))=true:=decide_eq_true j1;have kz:IntKind.i64.wrap ((l.size:Int)+(t.size:Int))=(l.size:Int)+(t.size:Int):=IntWalk.i64_in _ (by omega);have m1:(9223372036854775807<s.size+l.size)=False:=eq_false (by omega);have m2:(9223372036854775807<s.size+l.size+1)=False:=eq_false (by omega);have m3:(9223372036854775807<l.size+t.size)=False:=eq_false (by omega);have m4:(9223372036854775807<0+t.size)=False:=eq_false (by omega);have m5:(9223372036854775807<t.size)=False:=eq_false (by omega);by_cases hnew:70<l.size+t.size
   ·have t2:decide ((l.size:Int)+(t.size:Int)>70)=true:=decide_eq_true (by omega);have HE:=Hh (zha (show 70<(zbT L k).2+(tat L k).length by rw[←HLL.out,←HTZ.out];exact hnew));clear hlt hc hb ht htd htz ht4 hz hnew;go_wp2_with fail;go_roundw
    case rel =>
     refine⟨k+1,_,_,by go_num,rfl,rfl,?_,?_,by have:=HK.out;omega,HB.out⟩
     ·rw[HE.out,←HSL.out,←HTD.out];simp[zki]
     ·rw[HE.out];show _=(tat L k).length;rw[←HTZ.out,←zaN,zki,List.length_append,zaN,zaN];exact Nat.zero_add _
    case measure=>have:=HK.out;simp[intOf];omega
   ·have t2:decide ((l.size:Int)+(t.size:Int)>70)=false:=decide_eq_false (by omega);have HE:=Hh (ziV (show ¬ 70<(zbT L k).2+(tat L k).length by rw[←HLL.out,←HTZ.out];exact hnew));clear hlt hc hb ht htd htz ht4 hz hnew;go_wp2_with fail;go_roundw
    case rel =>
     refine⟨k+1,_,_,by go_num,rfl,rfl,?_,?_,by have:=HK.out;omega,HB.out⟩
     ·rw[HE.out,←HSL.out,←HTD.out];simp[zki]
     ·rw[HE.out];show _=(zbT L k).2+(tat L k).length;rw[←HTZ.out,←HLL.out];simp
    case measure=>have:=HK.out;simp[intOf];omega
  ·have t9:decide ((k:Int)<(n:Int))=false:=decide_eq_false (by omega);have m1:(9223372036854775807<s.size+l.size)=False:=eq_false (by omega);have m2:(9223372036854775807<s.size+l.size+1)=False:=eq_false (by omega);have t10:decide (k<n)=false:=decide_eq_false (by omega);have t11:(k<n)=False:=eq_false (by omega);have e:k=n:=by omega
   have HE:=Hh e;clear e hlt hz;go_wp2_with fail;go_ret;refine⟨?_,HB.out⟩;have key:(⟨(ziW L).toArray⟩:ByteArray)=s++l++⟨#[10]⟩:=by
    refine zjY ?_;rw[zki,zki,HSL.out,HE.out,←HN.out];rfl
   rw[key];rfl
end Go.Proofs.YtcippfaljoagaaaGreatDoor
