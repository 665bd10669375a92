import Derived.Test.YtcippfaljoagaaaGreatDoorHFtB
import Derived.Lib.IndexBytes

set_option linter.unusedVariables false
set_option linter.unusedSimpArgs false
set_option maxRecDepth 100000
set_option maxHeartbeats 6400000
namespace Go.Proofs.YtcippfaljoagaaaGreatDoor
open Go.RowKit Lib
theorem zhQ {w:World}{base:Nat}{e:TypeId}{size:Nat}{v:Value}{n:Nat}{xs:List Value}(h:w.ownsRowF base e size v n xs):∃A c,v=.slice A n c:=by
 rcases h.2 with⟨hv,h0⟩|⟨g,cap,cur,fz,hv,-⟩
 ·exact⟨none,0,by rw[hv,h0]⟩
 ·exact⟨_,_,hv⟩
end Go.Proofs.YtcippfaljoagaaaGreatDoor

namespace Go.Proofs.YtcippfaljoagaaaGreatDoor
def zal:List UInt8→List UInt8
 | []=>[]
 | x :: r=>if x=0∧zal r=[] then [] else x :: zal r
theorem zfB (l:List UInt8)(x:UInt8):zal (l++[x])=if x=0 then zal l else l++[x]:=by
 induction l with
 | nil =>
  show(if x=0∧([]:List UInt8)=[] then [] else [x])=_;by_cases h:x=0
  ·rw[if_pos ⟨h,rfl⟩,if_pos h];rfl
  ·rw[if_neg (fun e=>h e.1),if_neg h];rfl
 | cons y r ih =>
  show(if y=0∧zal (r++[x])=[] then [] else y :: zal (r++[x]))=_;rw[ih];by_cases h:x=0
  ·rw[if_pos h,if_pos h];rfl
  ·rw[if_neg h,if_neg h,if_neg (fun e=>by have:=e.2;simp at this)];rfl
theorem zhR (l:List UInt8):zal l=l.take (zal l).length:=by
 induction l with
 | nil=>rfl
 | cons y r ih =>
  show(if y=0∧zal r=[] then [] else y :: zal r)=_;show _=(y :: r).take (if y=0∧zal r=[] then [] else y :: zal r).length;split
  ·rfl
  ·rw[List.length_cons,List.take_succ_cons,←ih]
theorem zeW (l:List UInt8):(zal l).length≤l.length:=by
 have h:=congrArg List.length (zhR l);rw[List.length_take] at h;omega
end Go.Proofs.YtcippfaljoagaaaGreatDoor

namespace Go.Proofs.YtcippfaljoagaaaGreatDoor
open Go.RowKit Lib
def zsM:Value→Nat
 | .string t=>t.size
 | _=>0
theorem ziS (t:ByteArray)(m:Nat):(t.extract 0 m).data.toList=t.data.toList.take m:=by
 simp[ByteArray.data_extract]
theorem zjY {s t:ByteArray}(h:s.data.toList=t.data.toList):s=t:=by
 obtain⟨⟨a⟩⟩:=s;obtain⟨⟨b⟩⟩:=t;simp at h;rw[h]
theorem zuk {t:ByteArray}{m:Nat}(h:t.size=m+1)(hlt:m<t.size):t.data.toList=t.data.toList.take m++[t[m]'hlt]:=by
 have hl:t.data.toList.length=m+1:=(zaN t).trans h;have h1:=zbH (s:=t) (k:=m) hlt;have h2:=List.take_add_one (l:=t.data.toList) (i:=m);rw[h1,List.take_of_length_le (by omega)] at h2;exact h2
theorem zpY (s:ByteArray)(w:World)(hs:s.size≤maxLen) :
  Calls Tryz.prog 136 #[.string s,.int .u8 0] w fun e w'=>e=.returned (.string ⟨(zal s.data.toList).toArray⟩)∧w'=w:=by
 obtain⟨R,hR⟩:∃R,R=zal s.data.toList:=⟨_,rfl⟩;rw[←hR];have HR:=Hh hR;have HS:=Hh hs;clear hR hs;go_enter Tryz.func136,Tryz.ntmps136;go_wp2_with fail;go_loopw [0] (fun z1 wr=>∃t:ByteArray,z1=.string t∧zal t.data.toList=R∧t.size≤maxLen∧wr=w) (fun z1 _=>zsM z1)
 case atStart=>exact⟨s,rfl,HR.out.symm,HS.out,rfl⟩
 case round =>
  obtain⟨t,rfl,ht,htl,rfl⟩:=hrel;have HT:=Hh ht;have HTL:=Hh htl;clear ht htl;rcases Nat.eq_zero_or_pos t.size with h0|h0
  ·have t1:decide ((t.size:Int)>0)=false:=decide_eq_false (by omega);have t2:decide (0<t.size)=false:=decide_eq_false (by omega);have t3:(0<t.size)=False:=eq_false (by omega);have HE:=Hh (show t.data.toList=[] from List.eq_nil_of_length_eq_zero (by rw[zaN];exact h0));clear h0;go_wp2_with fail;go_ret;have e:R=[]:=by rw[←HT.out,HE.out];rfl
   refine⟨?_,rfl⟩;rw[e];have e2:t=⟨#[]⟩:=zjY (by rw[HE.out]);rw[e2];rfl
  ·obtain⟨m,hm⟩:∃m,t.size=m+1:=⟨t.size-1,by omega⟩;have hlt:m<t.size:=by omega
   have t1:decide ((t.size:Int)>0)=true:=decide_eq_true (by omega);have t2:decide (0<t.size)=true:=decide_eq_true (by omega);have t3:(0<t.size)=True:=eq_true (by omega);have i1:IntKind.i64.wrap ((t.size:Int)-1)=(m:Int):=by
    rw[show(t.size:Int)-1=(m:Int) by omega];exact IntWalk.i64_in _ (by have:=HTL.out;unfold maxLen at this;omega)
   have i2:(0:Int)≤(m:Int):=by omega
   have i3:(m:Int)<(t.size:Int):=by omega
   have i4:(0:Int)≤(m:Int)∧(m:Int)≤(t.size:Int):=by omega
   have HSN:=Hh (zuk hm hlt);have HM:=Hh hm;have HGT:=Hh (zbH hlt);by_cases hx:(t[m]'hlt).toNat=0
   ·have u1:((((t[m]'hlt).toNat:Nat):Int)==0)=true:=by rw[hx];rfl
    have HX:=Hh (show t[m]'hlt=0 from UInt8.toNat_inj.1 hx);clear hm h0 hx;go_wp2_with fail;go_roundw
    case rel=>exact⟨t.extract 0 m,rfl,by(have h9:=HT.out;rw[HSN.out,zfB,if_pos HX.out] at h9;rw[ziS];exact h9),by have:=HTL.out;have h2:=HM.out;have h3:(t.extract 0 m).size=m:=(by rw[←zaN,ziS,List.length_take,zaN];omega);omega,trivial⟩
    case measure =>
     have h2:=HM.out;have h3:(t.extract 0 m).size=m:=by rw[←zaN,ziS,List.length_take,zaN];omega
     show(t.extract 0 m).size<t.size;omega
   ·have u1:((((t[m]'hlt).toNat:Nat):Int)==0)=false:=beq_eq_false_iff_ne.2 (by omega);have HX:=Hh (show ¬ t[m]'hlt=0 from fun e=>hx (by rw[e];rfl));clear hm h0 hx;go_wp2_with fail;go_ret;have e:R=t.data.toList:=by rw[←HT.out,HSN.out,zfB,if_neg HX.out]
    refine⟨?_,rfl⟩;rw[e];rfl
theorem zpZ (s:ByteArray)(w:World)(hs:s.size≤maxLen) :
  Calls Tryz.prog 107 #[.string s,.string ⟨#[0]⟩] w fun e w'=>e=.returned (.string ⟨(zal s.data.toList).toArray⟩)∧w'=w:=by
 by_cases h0:s.data.toList=[]
 ·have e1:s.toList.isEmpty=true:=by
   rw[ByteArray.toList_eq,h0];rfl
  go_enter Tryz.func107,Tryz.ntmps107;go_wp2_with fail;go_ret;refine⟨?_,rfl⟩;rw[h0];have e2:s=⟨#[]⟩:=zjY (by rw[h0]);rw[e2];rfl
 ·have e1:s.toList.isEmpty=false:=by
   rw[ByteArray.toList_eq];cases hl:s.data.toList with
   | nil=>exact absurd hl h0
   | cons x r=>rfl
  go_enter Tryz.func107,Tryz.ntmps107;go_wp2_with (go_at_call 136;go_loud (refine(zpY s _ hs).mono ?_;rintro e w1 ⟨rfl,rfl⟩));go_ret;exact⟨rfl,rfl⟩
end Go.Proofs.YtcippfaljoagaaaGreatDoor

namespace Go.Proofs.YtcippfaljoagaaaGreatDoor
open Go.RowKit Num
theorem zlg (xs:List Nat)(k:Nat):val (xs.drop k)≤val xs:=by
 rcases Nat.lt_or_ge xs.length k with h|h
 ·rw[List.drop_eq_nil_of_le (by omega)];exact Nat.zero_le _
 ·rw[zcN xs k h];exact Nat.le_trans (Nat.le_mul_of_pos_left _ (Nat.pow_pos (by decide))) (Nat.le_add_left _ _)
theorem zlh {xs:List Nat}{u:Nat}(hu:u=val xs)(h:(u:Int)≤9223372036854775807):inI (ival false xs)=true∧outI (ival false xs)=u:=by
 have e:ival false xs=(u:Int):=by rw[hu];rfl
 obtain⟨h1,h2⟩:=ziN (x:=ival false xs) (by rw[e];omega);exact⟨h1,h2.trans e⟩
theorem zli {xs:List Nat}{u:Nat}(hu:u=val xs)(h:(u:Int)≤9223372036854775808):inI (ival true xs)=true∧outI (ival true xs) = -u:=by
 have e:ival true xs = -(u:Int):=by rw[hu];rfl
 obtain⟨h1,h2⟩:=ziN (x:=ival true xs) (by rw[e];omega);exact⟨h1,h2.trans e⟩
theorem zjZ (u:Nat)(h:(u:Int)≤9223372036854775808):wrap64 (IntKind.u64.wrap (-(u:Int))) = -u:=by
 simp[wrap64,IntKind.wrap,IntKind.bits,IntKind.signed];omega
theorem zsN (s:Bool){xs:List Nat}(h:9223372036854775808<val xs):inI (ival s xs)=false∧outI (ival s xs)=0:=by
 have e:=zew s xs;exact zjQ (by omega)
theorem znF {xs:List Nat}(h:9223372036854775807<val xs):inI (ival false xs)=false∧outI (ival false xs)=0:=by
 have e:ival false xs=(val xs:Int):=rfl;exact zjQ (by rw[e];omega)
theorem zeX {a b:Int}{x y:Bool}(h:a=b)(k:x=y):Ending.returned (.tuple #[.int .i64 a,.bool x])=.returned (.tuple #[.int .i64 b,.bool y]):=by rw[h,k]
theorem zka (s:Bool)(A:Option Addr)(c:Nat)(xs:List Nat)(w:World)(h:Us w A c xs) :
  Calls Tryz.prog 63 #[.agg #[.bool s,.slice A xs.length c]] w fun e w'=>e=.returned (.tuple #[.int .i64 (outI (ival s xs)),.bool (inI (ival s xs))])∧Below w.heap.size w w':=by
 have hcap:=h.cap;obtain⟨n,hn⟩:∃n,n=xs.length:=⟨_,rfl⟩;rw[←hn] at hcap ⊢;obtain⟨hX,hB⟩:=box1 w (.bool s) (.slice A n c) 48;obtain⟨i1,hi1⟩:∃i,i=inI (ival s xs):=⟨_,rfl⟩;obtain⟨o1,ho1⟩:∃i,i=outI (ival s xs):=⟨_,rfl⟩;rw[←hi1,←ho1];have HB:=Hh hB;have H1:=Hh (h.below hB);have HI:=Hh hi1;have HO:=Hh ho1;have hd:=h.1;have HN:=Hh hn;clear h hX hB hi1 ho1 hn;go_enter Tryz.func63,Tryz.ntmps63;go_wp2_with fail;go_loop [4,5] (fun u i=>∃k v:Nat,k≤n∧i=.int .i64 ((k:Int)-1)∧u=.int .u64 v∧v<18446744073709551616∧Hid (v=val (xs.drop k))) (fun _ i=>(intOf i+1).toNat)
 case atStart=>exact⟨n,0,Nat.le_refl _,rfl,rfl,by decide,Hh (by rw[List.drop_eq_nil_of_le (by rw[HN.out];exact Nat.le_refl _)];rfl)⟩
 case round =>
  obtain⟨k,v,hk,rfl,rfl,hv,HV⟩:=hrel;rcases Nat.eq_zero_or_pos k with rfl|hk0
  ·have e0:v=val xs:=HV.out;cases s
   ·by_cases hle:(v:Int)≤9223372036854775807
    ·have HE:=Hh (zlh e0 hle);clear e0;go_wp2_with fail;go_ret2;exact⟨zeX (by rw[HO.out,HE.out.2]) (by rw[HI.out,HE.out.1]),HB.out⟩
    ·have HE:=Hh (znF (xs:=xs) (by omega));clear e0;go_wp2_with fail;go_ret2;exact⟨zeX (by rw[HO.out,HE.out.2]) (by rw[HI.out,HE.out.1]),HB.out⟩
   ·by_cases hle:(v:Int)≤9223372036854775808
    ·have HE:=Hh (zli e0 hle);clear e0;go_wp2_with fail;go_ret2;exact⟨zeX (by rw[HO.out,HE.out.2,zjZ v hle]) (by rw[HI.out,HE.out.1]),HB.out⟩
    ·have HE:=Hh (zsN true (xs:=xs) (by omega));clear e0;go_wp2_with fail;go_ret2;exact⟨zeX (by rw[HO.out,HE.out.2]) (by rw[HI.out,HE.out.1]),HB.out⟩
  ·obtain⟨j,rfl⟩:∃j,k=j+1:=⟨k-1,by omega⟩;obtain⟨b,off,rfl,hb,hc⟩:=H1.out.at_ (by rw[←HN.out];omega)
   have c0:=hc j (by rw[←HN.out];omega);obtain⟨x,hx⟩:∃x,x=xs[j]?.getD 0:=⟨_,rfl⟩;rw[←hx] at c0;have hxl:x<4294967296:=by rw[hx];exact hd.getD j
   have HS:=Hh (show val (xs.drop j)=x+4294967296*v by rw[hx,HV.out];exact zcx (by rw[←HN.out];omega));clear hc hx;have i1:((j+1:Nat):Int)-1=(j:Int):=by omega
   rw[i1];clear i1;by_cases hvb:4294967295<v
   ·have HE:=Hh (zsN s (xs:=xs) (by have h1:=zlg xs j;have h2:=HS.out;omega));go_wp2_with fail;go_ret2;exact⟨zeX (by rw[HO.out,HE.out.2]) (by rw[HI.out,HE.out.1]),HB.out⟩
   ·have hsum:x+4294967296*v<18446744073709551616:=by omega
    go_wp2_with fail;go_round
    case rel=>exact⟨j,x+4294967296*v,by omega,rfl,by go_num,hsum,Hh HS.out.symm⟩
    case measure=>simp[intOf]
end Go.Proofs.YtcippfaljoagaaaGreatDoor

namespace Go.Proofs.YtcippfaljoagaaaGreatDoor
open Go.RowKit Num Nds
theorem BxV.hi {q:List Nd}(hg:zas q){ok:Bool}{X Y V H:Int}(b:BxV q q.length ok X Y V H):(-p2 1330≤X∧X≤p2 1330)∧(-p2 1330≤Y∧Y≤p2 1330):=by
 have m1:=zam 1330;rcases b with⟨-,-,h1,h2,h3,h4⟩|⟨h0,-,h1⟩
 ·omega
 ·have hlv:=zap (zaf hg.1 (i:=q.length-1) (by omega));obtain⟨m,hm⟩:∃m:Nat,(at_ q (q.length-1)).lv=(m:Int)+1:=⟨(at_ q (q.length-1)).lv.toNat-1,by omega⟩;have hw:=zbz hg.1 (q.length-1) (by omega);rw[Nat.sub_add_cancel (by omega),hm] at hw;have e1:(at_ q (q.length-1)).lv.toNat=m+1:=by omega
  rw[e1] at h1;have hw2:∀t,(fun u=>u=den q q.length) t→wfT ((m+1:Nat):Int) t:=fun t ht=>by have ht':t=den q q.length:=ht;rw[ht'];exact hw
  have a1:=h1.west.in_ hw2;have a3:=h1.north.in_ hw2;have m2:=zaI (show m+1≤1330 by omega);rw[Nat.add_sub_cancel] at a1 a3;have m3:=zan m;have m4:=zam m;omega
theorem BxV.lowG {q:List Nd}(hg:zas q){ok:Bool}{X Y V H:Int}(b:BxV q q.length ok X Y V H):X+V≤p2 1330∧Y+H≤p2 1330:=by
 have m1:=zam 1330;rcases b with⟨-,-,h1,h2,h3,h4⟩|⟨h0,-,h1⟩
 ·omega
 ·have hlv:=zap (zaf hg.1 (i:=q.length-1) (by omega));obtain⟨m,hm⟩:∃m:Nat,(at_ q (q.length-1)).lv=(m:Int)+1:=⟨(at_ q (q.length-1)).lv.toNat-1,by omega⟩;have hw:=zbz hg.1 (q.length-1) (by omega);rw[Nat.sub_add_cancel (by omega),hm] at hw;have e1:(at_ q (q.length-1)).lv.toNat=m+1:=by omega
  rw[e1] at h1;have hw2:∀t,(fun u=>u=den q q.length) t→wfT ((m+1:Nat):Int) t:=fun t ht=>by have ht':t=den q q.length:=ht;rw[ht'];exact hw
  have a2:=h1.east.in_ hw2;have a4:=h1.south.in_ hw2;have m2:=zaI (show m+1≤1330 by omega);rw[Nat.add_sub_cancel] at a2 a4;have m3:=zan m;have m4:=zam m;omega
theorem GoI.hi {q:List Nd}{n:Nat}{most er X Y:Int}{R:List (List UInt8)}(hg:zas q)(hn:q.length=n)(g:GoI q n most er X Y R):(-p2 1330≤X∧X≤p2 1330)∧(-p2 1330≤Y∧Y≤p2 1330):=by
 subst hn;have m1:=zam 1330;rcases g with⟨-,-,h1,h2,-⟩|⟨-,ok,X',Y',V,H,b,h1⟩
 ·omega
 ·have:=b.hi hg;rcases h1 with⟨-,-,h1,h2,-⟩|⟨-,-,h1,h2,-⟩ <;> omega
def ziT (M:Int→Int→Int)(k wide x:Nat):List Value:=(List.range wide).map fun(i:Nat)=>if i<x then .int .u8 (M k i) else .int .u8 0
theorem znG (M:Int→Int→Int)(k wide:Nat):ziT M k wide 0=List.replicate wide (.int .u8 0):=by
 unfold ziT;refine List.ext_getElem? fun j=>?_;by_cases hj:j<wide
 ·rw[List.getElem?_map,List.getElem?_range hj,List.getElem?_replicate,if_pos hj];rfl
 ·rw[List.getElem?_eq_none (by simpa using hj),List.getElem?_eq_none (by simpa using hj)]
theorem zqa (M:Int→Int→Int)(k wide:Nat):ziT M k wide wide=zdC M k wide:=by
 unfold ziT zdC;refine List.map_congr_left fun i hi=>?_;rw[if_pos (List.mem_range.1 hi)]
theorem zqb (M:Int→Int→Int)(k:Nat){wide x:Nat}(hx:x<wide):(ziT M k wide x).set x (.int .u8 (M k x))=ziT M k wide (x+1):=by
 unfold ziT;refine List.ext_getElem? fun j=>?_;by_cases hj:j<wide
 ·rw[List.getElem?_set];by_cases e:x=j
  ·subst e;rw[if_pos rfl,if_pos (by simpa using hj),List.getElem?_map,List.getElem?_range hj];show _=some (if x<x+1 then _ else _);rw[if_pos (by omega)]
  ·rw[if_neg e,List.getElem?_map,List.getElem?_range hj,List.getElem?_map,List.getElem?_range hj];show some (if j<x then _ else _)=some (if j<x+1 then _ else _);by_cases h1:j<x
   ·rw[if_pos h1,if_pos (by omega)]
   ·rw[if_neg h1,if_neg (by omega)]
 ·rw[List.getElem?_eq_none (by simpa using hj),List.getElem?_eq_none (by simpa using hj)]
theorem znH (M:Int→Int→Int)(wide k:Nat):zcL M wide (k+1)=zcL M wide k++[strM M k wide]:=by
 unfold zcL;rw[List.range_succ,List.map_append];rfl
theorem zqc {base g wide k:Nat}{M:Int→Int→Int}{W:World}(h:W.ownsRow base 5 1 (.slice (some ⟨g,0,none⟩) wide wide) wide (zdC M k wide))(hM:∀r c,0≤M r c∧M r c≤255) :
  (convert 75 9 (.slice (some ⟨g,0,none⟩) wide wide)).run Tryz.prog W=.ok (.string ⟨(strM M k wide).toArray⟩) W:=by
 have:=run_convert_bytes_back (P:=Tryz.prog) W 75 9 5 ⟨g,0,none⟩ wide (strM M k wide) Tryz.underlying75 Tryz.underlying5 Tryz.underlying9 (fun j hj=>?_)
 ·rw[zbQ] at this;exact this
 ·rw[zbQ] at hj;have e:=(h.cellAt j (by omega)).trans (zgf (M:=M) (k:=k) hj);have e2:=zpH M (k:=k) hj;rw[List.getElem?_eq_getElem (by rw[zbQ];exact hj)] at e2;injection e2 with e2
  have e3:(⟨g,0,none⟩:Addr).add j=⟨g,j,none⟩:=by unfold Addr.add;split <;> simp_all
  rw[e3,e,e2,zjR (hM k j)]
structure Rb (w:World)(A:Option Addr)(n c:Nat)(q:List Nd)(g6:Nat)(u:Xb)(X Y V H:Int)(W:World):Prop where
 o:Oo w A n c q W
 ub:W.heap[g6]?=some u.obj
 r:u.R W X Y V H
theorem Rb.next {w W W':World}{A:Option Addr}{n c:Nat}{q:List Nd}{g6:Nat}{u:Xb}{X Y V H:Int}(h:Rb w A n c q g6 u X Y V H W)(k:Below W.heap.size W W'):Rb w A n c q g6 u X Y V H W' :=
 ⟨h.o.next k,(k.block _ (zad h.ub)).trans h.ub,h.r.next k⟩
theorem Rb.cells {w W:World}{A:Option Addr}{n c:Nat}{q:List Nd}{g6:Nat}{u:Xb}{X Y V H:Int}(h:Rb w A n c q g6 u X Y V H W) :
  W.cell? ⟨w.heap.size,0,none⟩=some (.slice A n c)∧W.cell? ⟨g6,0,none⟩=some (.bool u.x.s)∧W.cell? ⟨g6,1,none⟩=some (.slice u.x.a u.x.xs.length u.x.c)∧W.cell? ⟨g6,2,none⟩=some (.bool u.y.s)∧W.cell? ⟨g6,3,none⟩=some (.slice u.y.a u.y.xs.length u.y.c):=by
 obtain⟨c0,c1,c2,c3,-⟩:=Xb.cells h.ub;exact⟨zab h.o.qk,c0,c1,c2,c3⟩
structure Rf (W8:World)(M:Int→Int→Int)(u:Xb)(wide k:Nat)(a:Option Addr)(c:Nat)(W:World):Prop where
 bb:Below W8.heap.size W8 W
 gk:W.heap[W8.heap.size]?=some (.cells #[.bool u.x.s,.slice u.x.a u.x.xs.length u.x.c,.bool u.y.s,.slice u.y.a u.y.xs.length u.y.c,.slice a k c] 51)
 own:W.ownsRow (W8.heap.size+1) 9 1 (.slice a k c) k ((zcL M wide k).map strV)
section
variable {W8 W W':World} {M:Int→Int→Int} {u:Xb} {wide k:Nat} {a:Option Addr} {c:Nat}
theorem Rf.next (h:Rf W8 M u wide k a c W)(b:Below W.heap.size W W'):Rf W8 M u wide k a c W' :=
 ⟨h.bb.trans (b.mono h.bb.size),(b.block _ (zad h.gk)).trans h.gk,h.own.kept (gbX b) (by cases hv:(Value.slice a k c).ownBlock <;> simp)⟩
theorem Rf.set (h:Rf W8 M u wide k a c W){p:Addr}(hp:W8.heap.size<p.block)(ho:∀j,(Value.slice a k c).ownBlock=some j→j≠p.block)(v:Value):Rf W8 M u wide k a c (W.setCell p v) :=
 ⟨h.bb.trans ((Below.refl _ _).setCell (Nat.le_of_lt hp) v),(heap_setCell_other W p _ v (by omega)).trans h.gk,ownsRow_setCell_other h.own (a:=p) (fun e=>ho _ e rfl) v⟩
theorem Rf.grid (h:Rf W8 M u wide k a c W):W.heap[W8.heap.size]?=some (Gr.mk u.x u.y a c (zcL M wide k)).obj:=by
 rw[h.gk];show _=some (Obj.cells #[_,_,_,_,.slice a (zcL M wide k).length c] _ _);rw[zcX]
theorem Rf.cells (h:Rf W8 M u wide k a c W):W.cell? ⟨W8.heap.size,0,none⟩=some (.bool u.x.s)∧W.cell? ⟨W8.heap.size,1,none⟩=some (.slice u.x.a u.x.xs.length u.x.c)∧W.cell? ⟨W8.heap.size,2,none⟩=some (.bool u.y.s)∧W.cell? ⟨W8.heap.size,3,none⟩=some (.slice u.y.a u.y.xs.length u.y.c)∧W.cell? ⟨W8.heap.size,4,none⟩=some (.slice a k c):=by
 obtain⟨c0,c1,c2,c3,c4⟩:=Gr.cells h.grid;rw[zcX] at c4;exact⟨c0,c1,c2,c3,c4⟩
theorem Rf.more (h:Rf W8 M u wide k a c W){a':Option Addr}{c':Nat}(o:W'.ownsRow (W8.heap.size+1) 9 1 (.slice a' (k+1) c') (k+1) ((zcL M wide (k+1)).map strV))(g:W.grownBy W' (Value.slice a k c).ownBlock) :
  Rf W8 M u wide (k+1) a' c' (W'.setCell ⟨W8.heap.size,4,none⟩ (.slice a' (k+1) c')):=by
 have hne:(Value.slice a k c).ownBlock≠some W8.heap.size:=fun e=>by have:=(h.own.lt _ e).1;omega
 have hg:W'.heap[W8.heap.size]?=_:=(g.block _ (zad h.gk) (fun e=>hne e.symm)).trans h.gk;have hb:Below W8.heap.size W8 W':=h.bb.grown g (Nat.le_of_lt (zad h.gk)) (fun j hj=>by have:=(h.own.lt _ hj).1;omega);refine⟨hb.setCell (p:=⟨W8.heap.size,4,none⟩) (Nat.le_refl _) _,(heap_setCell_same W' _ 4 _ _ _ hg).trans rfl,ownsRow_setCell_other o (a:=⟨W8.heap.size,4,none⟩) (fun e=>?_) _⟩;have h9:=(o.lt W8.heap.size e).1;omega
end
theorem znI {w:World}{base:Nat}{e:TypeId}{size:Nat}{v:Value}{n:Nat}{xs:List Value}(h:w.ownsRow base e size v n xs):∃A c,v=.slice A n c:=by
 rcases h.2 with⟨h',hn⟩|⟨g,cap,cur,h',hb,hg,hnc,hcm,hcs,htake⟩
 ·exact⟨none,0,by rw[h',hn]⟩
 ·exact⟨some ⟨g,0,none⟩,cap,h'⟩
theorem zrX {w:World}{base:Nat}{e:TypeId}{size n c:Nat}{A:Option Addr}{xs:List Value}(h:w.ownsRow base e size (.slice A n c) n xs)(e:A=none):c=0:=by
 rcases h.2 with⟨h',hn⟩|⟨g,cap,cur,h',hb,hg,hnc,hcm,hcs,htake⟩
 ·simp at h';exact h'.2.2
 ·subst e;simp at h'
theorem Rf.at9 {W8 W W':World}{M:Int→Int→Int}{u:Xb}{wide k:Nat}{a:Option Addr}{c:Nat}{o:Obj}(h:Rf W8 M u wide k a c W)(g:(W.alloc o).grownBy W' (Value.slice a k c).ownBlock) :
  W'.cell? ⟨W8.heap.size,4,none⟩=some (.slice a k c)∧W'.frozen? ⟨W8.heap.size,4,none⟩=false:=by
 have hne:(Value.slice a k c).ownBlock≠some W8.heap.size:=fun e=>by have:=(h.own.lt _ e).1;omega
 have h1:=h.next ((Below.refl _ W).alloc (Nat.le_refl _) o);have h2:=(g.block _ (zad h1.gk) (fun e=>hne e.symm)).trans h1.gk;exact⟨(cell_of_row W' _ 4 _ _ (0,0) h2).trans rfl,frozen_of_row W' _ 4 _ _ h2⟩
theorem zgi {n:Nat}(h:n≤1000) : -p2 1330≤(n:Int)∧(n:Int)≤p2 1330:=by
 have h1:=zaI (show 10≤1330 by omega);have h2:p2 10=1024:=rfl;omega
theorem zrY (A:Option Addr)(c n:Nat)(q:List Nd)(most:Int)(w:World)(h:Ns w A c q)(hn:q.length=n)(hn9:n≤900000)(hg:zas q)(hm : -9223372036854775808≤most∧most≤9223372036854775807)(h1:most<0) :
  Calls Tryz.prog 25 #[.agg #[.slice A n c],.int .i64 most] w (zjV q n most w):=by
 have hcap:=h.cap;rw[hn] at hcap;have HO:=Hh (Oo.start (n:=n) h);have HL:=Hh hn;have HG:=Hh hg;have t1:decide (most<0)=true:=decide_eq_true h1;have hr:=HO.out.rk;obtain⟨e0,e1,e2,e3,e4⟩:=Gr.cells hr;dsimp only[gr0,bw0,List.length_nil] at e0 e1 e2 e3 e4;have HH:=Hh (show most<0∨1000<most by omega);clear h hn hg hr;go_enter Tryz.func25,Tryz.ntmps25;go_wp2_with fail;refine bodyPost_ret (v:=.tuple #[gr0.val,.int .i64 1]) (by simp[results,Tryz.results25,go_sem,e0,e1,e2,e3,e4,gr0,bw0]) rfl ?_;exact⟨gr0,0,0,1,rfl,zjT _,⟨Nat.zero_le _,Nat.zero_le _⟩,fun _=>rfl,HO.out.b,.inl ⟨HH.out,rfl,rfl,rfl,rfl⟩⟩
theorem zrZ (A:Option Addr)(c n:Nat)(q:List Nd)(most:Int)(w:World)(h:Ns w A c q)(hn:q.length=n)(hn9:n≤900000)(hg:zas q)(hm : -9223372036854775808≤most∧most≤9223372036854775807)(h1:0≤most)(h2:1000<most) :
  Calls Tryz.prog 25 #[.agg #[.slice A n c],.int .i64 most] w (zjV q n most w):=by
 have hcap:=h.cap;rw[hn] at hcap;have HO:=Hh (Oo.start (n:=n) h);have HL:=Hh hn;have HG:=Hh hg;have t1:decide (most<0)=false:=decide_eq_false (by omega);have t2:decide (most>1000)=true:=decide_eq_true h2;have hr:=HO.out.rk;obtain⟨e0,e1,e2,e3,e4⟩:=Gr.cells hr;dsimp only[gr0,bw0,List.length_nil] at e0 e1 e2 e3 e4;have HH:=Hh (show most<0∨1000<most by omega);clear h hn hg hr;go_enter Tryz.func25,Tryz.ntmps25;go_wp2_with fail;refine bodyPost_ret (v:=.tuple #[gr0.val,.int .i64 1]) (by simp[results,Tryz.results25,go_sem,e0,e1,e2,e3,e4,gr0,bw0]) rfl ?_;exact⟨gr0,0,0,1,rfl,zjT _,⟨Nat.zero_le _,Nat.zero_le _⟩,fun _=>rfl,HO.out.b,.inl ⟨HH.out,rfl,rfl,rfl,rfl⟩⟩
structure Rj (w:World)(A:Option Addr)(n c:Nat)(q:List Nd)(g6:Nat)(u:Xb)(X Y V H:Int)(W8:World)(M:Int→Int→Int)(wide k:Nat)(a:Option Addr)(cc gr i:Nat)(W:World):Prop where
 rb:Rb w A n c q g6 u X Y V H W8
 f:Rf W8 M u wide k a cc W
 by_:W.ownsRow (W8.heap.size+1) 5 1 (.slice (some ⟨gr,0,none⟩) wide wide) wide (ziT M k wide i)
 ne:∀j,(Value.slice a k cc).ownBlock=some j→j≠gr
section
variable {w:World} {A:Option Addr} {n c:Nat} {q:List Nd} {g6:Nat} {u:Xb} {X Y V H:Int} {W8:World} {M:Int→Int→Int} {wide k:Nat} {a:Option Addr} {cc gr i:Nat} {W W':World}
theorem Rj.nxt (h:Rj w A n c q g6 u X Y V H W8 M wide k a cc gr i W)(b:Below W.heap.size W W'):Rj w A n c q g6 u X Y V H W8 M wide k a cc gr i W' :=
 ⟨h.rb,h.f.next b,h.by_.kept (gbX b) (.inr (by simp[Value.ownBlock])),h.ne⟩
theorem Rj.rbW (h:Rj w A n c q g6 u X Y V H W8 M wide k a cc gr i W):Rb w A n c q g6 u X Y V H W:=h.rb.next h.f.bb
theorem Rj.s (h:Rj w A n c q g6 u X Y V H W8 M wide k a cc gr i W):W.cell? ⟨w.heap.size,0,none⟩=some (.slice A n c)∧W.cell? ⟨g6,0,none⟩=some (.bool u.x.s)∧W.cell? ⟨g6,1,none⟩=some (.slice u.x.a u.x.xs.length u.x.c)∧W.cell? ⟨g6,2,none⟩=some (.bool u.y.s)∧W.cell? ⟨g6,3,none⟩=some (.slice u.y.a u.y.xs.length u.y.c):=h.rbW.cells
theorem Rj.x (h:Rj w A n c q g6 u X Y V H W8 M wide k a cc gr i W):u.x.R W X:=h.rbW.r.x
theorem Rj.y (h:Rj w A n c q g6 u X Y V H W8 M wide k a cc gr i W):u.y.R W Y:=h.rbW.r.y
theorem Rj.ns (h:Rj w A n c q g6 u X Y V H W8 M wide k a cc gr i W):Ns W A c q:=h.rbW.o.ns
theorem Rj.cell (h:Rj w A n c q g6 u X Y V H W8 M wide k a cc gr i W)(hi:i<wide):W.cell? ⟨gr,i,none⟩=some (.int .u8 0):=by
 rw[h.by_.cellAt i (by omega)];unfold ziT;rw[List.getElem?_map,List.getElem?_range hi];show some (if i<i then _ else _)=_;rw[if_neg (by omega)]
theorem Rj.free (h:Rj w A n c q g6 u X Y V H W8 M wide k a cc gr i W):W.frozen? ⟨gr,i,none⟩=false:=h.by_.frozenAt i
theorem Rj.put (h:Rj w A n c q g6 u X Y V H W8 M wide k a cc gr i W)(hi:i<wide):Rj w A n c q g6 u X Y V H W8 M wide k a cc gr (i+1) (W.setCell ⟨gr,i,none⟩ (.int .u8 (M k i))):=by
 obtain⟨h1,h2⟩:=h.by_.stored i (.int .u8 (M k i));rw[zqb M k hi] at h1;exact⟨h.rb,h.f.set (p:=⟨gr,i,none⟩) (by have:=(h.by_.lt gr rfl).1;show W8.heap.size<gr;omega) h.ne _,h1,h.ne⟩
end
theorem zsa (A:Option Addr)(c n:Nat)(q:List Nd)(most:Int)(w:World)(h:Ns w A c q)(hn:q.length=n)(hn9:n≤900000)(hg:zas q)(hm : -9223372036854775808≤most∧most≤9223372036854775807)(h1:0≤most)(h2:most≤1000) :
  Calls Tryz.prog 25 #[.agg #[.slice A n c],.int .i64 most] w (zjV q n most w):=by
 have hcap:=h.cap;rw[hn] at hcap;obtain⟨iS,hiS⟩:=zdD Tryz.infoS;obtain⟨iY,hiY⟩:=zdD Tryz.infoY;have HiS:=Hh hiS;have HiY:=Hh hiY;have HO:=Hh (Oo.start (n:=n) h);have HL:=Hh hn;have HG:=Hh hg;have t1:decide (most<0)=false:=decide_eq_false (by omega);have t2:decide (most>1000)=false:=decide_eq_false (by omega);have y0:=zab HO.out.qk;clear h hn hg hiS hiY;go_enter Tryz.func25,Tryz.ntmps25;go_upto_if 26 with(go_at_call 36;go_loud (refine(zaK n c A q most _ HO.out.ns HL.out hn9 HG.out hm).mono ?_;rintro e w2 ⟨X,Y,V,H,ok,rfl,bv,b_⟩;have BV:=Hh bv;obtain⟨R,hR⟩:∃R,R=(decide (V≤most)&&decide (H≤most)):=⟨_,rfl⟩;rw[←hR];have HR:=Hh hR;have HO:=Hh (HO.out.next b_);clear b_ bv hR;obtain⟨z0,z1,z2,z3,z4⟩:=Gr.cells HO.out.rk;obtain⟨f0,f1,f2,f3,f4⟩:=Gr.free HO.out.rk;have y0:=zab HO.out.qk;dsimp only[gr0,bw0,List.length_nil] at z0 z1 z2 z3 z4))
 cases R with
 | false =>
  have hlim:most<V∨most<H:=by
   have:=HR.out;by_cases a:V≤most
   ·by_cases b:H≤most
    ·rw[decide_eq_true a,decide_eq_true b] at this;cases this
    ·omega
   ·omega
  have HLM:=Hh hlim;clear hlim;go_wp2_with fail;have QV:=zfA HO.out.rk gr0;obtain⟨e0,e1,e2,e3,e4⟩:=Gr.cells QV;dsimp only[gr0,bw0,putG,List.length_nil] at e0 e1 e2 e3 e4;refine bodyPost_ret (v:=.tuple #[gr0.val,.int .i64 4]) (by simp[results,Tryz.results25,go_sem,e0,e1,e2,e3,e4,gr0,bw0]) rfl ?_;exact⟨gr0,0,0,4,rfl,(zjT _),⟨Nat.zero_le _,Nat.zero_le _⟩,fun _=>rfl,zcg HO.out.b (by omega) gr0,.inr ⟨⟨h1,h2⟩,ok,X,Y,V,H,BV.out,.inl ⟨HLM.out,rfl,rfl,rfl,rfl⟩⟩⟩
 | true =>
  have hlim:V≤most∧H≤most:=by
   have:=HR.out.symm;rw[Bool.and_eq_true,decide_eq_true_iff,decide_eq_true_iff] at this;exact this
  have HLM:=Hh hlim;clear hlim;go_upto_if 34 with(go_at_call 62;go_loud (refine(zmj n c A q _ HO.out.ns HL.out hn9 HG.out).mono ?_;rintro e w3 ⟨u,X2,Y2,V2,H2,ok2,rfl,ru,su,b_,bv⟩;have hal:=(Below.refl w3.heap.size w3).alloc (Nat.le_refl _) u.obj;have BV2:=Hh (show BxV q n ok2 X2 Y2 V2 H2 from bv);have RU:=Hh (ru.next hal);have SU:=Hh su;have HG6:=Hh (show w.heap.size+1<w3.heap.size from zad (HO.out.next b_).rk);have HO:=Hh ((HO.out.next b_).next hal);have UB:=Hh (heap_alloc_new w3 u.obj);clear b_ bv ru su hal z0 z1 z2 z3 z4 f0 f1 f2 f3 f4 y0;obtain⟨z0,z1,z2,z3,z4⟩:=Gr.cells HO.out.rk;obtain⟨f0,f1,f2,f3,f4⟩:=Gr.free HO.out.rk;have y0:=zab HO.out.qk;dsimp only[gr0,bw0,List.length_nil] at z0 z1 z2 z3 z4))
  obtain⟨hk1,hk2,hk3,hk4,hk5⟩:=BV.out.one BV2.out;have HE:=Hh (And.intro hk1 (And.intro hk2 (And.intro hk3 (And.intro hk4 hk5))));clear hk1 hk2 hk3 hk4 hk5;cases ok2 with
  | false =>
   have hz:X2=0∧Y2=0∧V2=0∧H2=0:=by
    rcases BV2.out with⟨-,-,h⟩|⟨-,h,-⟩
    ·exact h
    ·cases h
   have HZ:=Hh hz;clear hz;go_wp2_with fail;have QV:=zfA HO.out.rk gr0;obtain⟨e0,e1,e2,e3,e4⟩:=Gr.cells QV;dsimp only[gr0,bw0,putG,List.length_nil] at e0 e1 e2 e3 e4;refine bodyPost_ret (v:=.tuple #[gr0.val,.int .i64 0]) (by simp[results,Tryz.results25,go_sem,e0,e1,e2,e3,e4,gr0,bw0]) rfl ?_;refine⟨gr0,0,0,0,rfl,(zjT _),⟨Nat.zero_le _,Nat.zero_le _⟩,fun _=>rfl,zcg HO.out.b (by omega) gr0,.inr ⟨⟨h1,h2⟩,false,X2,Y2,V2,H2,BV2.out,.inr ⟨by have:=HLM.out;have:=HE.out;omega,rfl,HZ.out.1.symm,HZ.out.2.1.symm,?_⟩⟩⟩;rw[HZ.out.2.2.1,HZ.out.2.2.2];rfl
  | true =>
   have hwd:=(show BxV q q.length true X2 Y2 V2 H2 by rw[HL.out];exact BV2.out).wide HG.out;have hfr:=(show BxV q q.length true X2 Y2 V2 H2 by rw[HL.out];exact BV2.out).lowG HG.out;have hhi:=(show BxV q q.length true X2 Y2 V2 H2 by rw[HL.out];exact BV2.out).hi HG.out;obtain⟨wide,hwide⟩:∃k:Nat,V2=(k:Int):=⟨V2.toNat,by omega⟩;obtain⟨high,hhigh⟩:∃k:Nat,H2=(k:Int):=⟨H2.toNat,by omega⟩;have hmo:(0≤most∧most≤1000)∧V2≤most∧H2≤most:=by have:=HLM.out;have:=HE.out;omega
   have HMO:=Hh hmo;subst hwide;subst hhigh;have HFR:=Hh (And.intro hfr hhi);have hw9:wide≤1000:=by omega
   have hh9:high≤1000:=by omega
   obtain⟨g6,hg6⟩:∃g,g=w3.heap.size:=⟨_,rfl⟩;have RB:=Hh (show Rb w A n c q g6 u X2 Y2 wide high (w3.alloc u.obj) from⟨HO.out,by rw[hg6];exact UB.out,RU.out⟩);obtain⟨W1,hW1⟩:∃W1:World,W1=w3.alloc u.obj:=⟨_,rfl⟩;obtain⟨M,hM⟩:∃M,M=picM (den q n) X2 Y2:=⟨_,rfl⟩;have HMM:=Hh hM;have HPB:=Hh (show ∀r c,0≤M r c∧M r c≤255 from fun r c=>by rw[hM];have:=zmr HG.out.1 X2 Y2 r c;rwa [HL.out] at this);have i1:inI (wide:Int)=true:=by(unfold inI;simp;omega)
   have i2:inI (high:Int)=true:=by(unfold inI;simp;omega)
   have o1:outI (wide:Int)=(wide:Int):=by(unfold outI;rw[i1];rfl)
   have o2:outI (high:Int)=(high:Int):=by(unfold outI;rw[i2];rfl)
   have q0:True:=trivial;have HG6:=Hh (show w.heap.size+1<g6 by rw[hg6];exact HG6.out);obtain⟨z0,z1,z2,z3,z4,z5,z6,z7⟩:=Xb.cells RB.out.ub;clear f0 f1 f2 f3 f4;rw[←hW1] at RB z0 z1 z2 z3 z4 z5 z6 z7 ⊢;rw[←hg6];clear hwd hfr hhi hmo hM HO UB RU hW1 hg6 y0;go_upto_region 10 with(first
    | (have _t:=q0;go_at_call 63;clear _t;go_loud (refine(zka u.w.s u.w.a u.w.c u.w.xs _ RB.out.r.w.us).mono ?_;rintro e w4 ⟨rfl,b_⟩;rw[RB.out.r.w.v,o1,i1];have RB:=Hh (RB.out.next b_);clear b_ z0 z1 z2 z3 z4 z5 z6 z7;obtain⟨z0,z1,z2,z3,z4,z5,z6,z7⟩:=Xb.cells RB.out.ub;have q1:=q0;clear q0))
    | (have _t:=q1;go_at_call 63;clear _t;go_loud (refine(zka u.h.s u.h.a u.h.c u.h.xs _ RB.out.r.h.us).mono ?_;rintro e w5 ⟨rfl,b_⟩;rw[RB.out.r.h.v,o2,i2];have RB:=Hh (RB.out.next b_);clear b_ z0 z1 z2 z3 z4 z5 z6 z7;obtain⟨z0,z1,z2,z3,z4,z5,z6,z7⟩:=Xb.cells RB.out.ub;have q2:=q1;clear q1)))
   have RFO:=Hh (show Rf w5 M u wide 0 none 0 (w5.alloc (.cells #[.bool u.x.s,.slice u.x.a u.x.xs.length u.x.c,.bool u.y.s,.slice u.y.a u.y.xs.length u.y.c,.slice none 0 0] 51)) from⟨(Below.refl _ _).alloc (Nat.le_refl _) _,heap_alloc_new w5 _,World.ownsRow_nil _ _ _ 1⟩);go_wp2_with fail;go_loopw [13] (fun z1 wr=>∃(k:Nat) (a:Option Addr) (cc:Nat),z1=.int .i64 k∧k≤high∧Rf w5 M u wide k a cc wr) (fun z1 _=>high-(intOf z1).toNat)
   case atStart=>exact⟨0,none,0,rfl,Nat.zero_le _,RFO.out⟩
   case round =>
    obtain⟨k,a,cc,rfl,hk,hf⟩:=hrel;have RF:=Hh hf;have kw:IntKind.i64.wrap ((k:Int)+1)=(k:Int)+1:=IntWalk.i64_in _ (by omega);clear z0 z1 z2 z3 z4 z5 z6 z7 RFO;by_cases hlt:k<high
    ·have HLT:=Hh hlt;have j3:decide ((k:Int)<(high:Int))=true:=decide_eq_true (by omega);have HLO:=Hh (show w5.heap.size+1≤wr.heap.size from zad hf.gk);clear hf hlt;go_wp2_with (at_make;refine wpList_make_full _ rfl _ _ 75 rfl (w5.heap.size+1) 5 iY _ 1 Tryz.underlying75 HiY.out.1 HiY.out.2.1 HiY.out.2.2.1 .i64 .i64 _ _ wide rfl rfl (by omega) (by omega) (by rw[HiY.out.2.2.2];omega) (by unfold maxLen;omega) HLO.out ?_;intro wa owa grwa;rw[zeS rfl] at owa;have hba:=zjS grwa;have PJ:=Hh (show Rj w A n c q g6 u X2 Y2 wide high w5 M wide k a cc wr.heap.size 0 wa from⟨RB.out,RF.out.next hba,by rw[znG];exact owa,fun j hj=>by have:=(RF.out.own.lt _ hj).2;omega⟩);clear owa grwa hba);obtain⟨gr,hgr⟩:∃g,g=wr.heap.size:=⟨_,rfl⟩;have PJ:=PJ.out;rw[←hgr] at PJ ⊢;have PK:=Hh PJ;clear hgr PJ RF HLO;go_loopw [15] (fun z1 wr=>∃(i:Nat),z1=.int .i64 i∧i≤wide∧Rj w A n c q g6 u X2 Y2 wide high w5 M wide k a cc gr i wr) (fun z1 _=>wide-(intOf z1).toNat)
     case atStart=>exact⟨0,rfl,Nat.zero_le _,PK.out⟩
     case round =>
      obtain⟨i,rfl,hi,hj⟩:=hrel;have PI:=Hh hj;have iw:IntKind.i64.wrap ((i:Int)+1)=(i:Int)+1:=IntWalk.i64_in _ (by omega);clear PK hj;by_cases hlt:i<wide
      ·have HI:=Hh hlt;have j4:decide ((i:Int)<(wide:Int))=true:=decide_eq_true (by omega);have i0:(0:Int)≤(i:Int):=by omega
       have x1:(i:Int)<(wide:Int):=by omega
       have HNX:=Hh (show(-p2 1330≤X2+(i:Int)∧X2+(i:Int)≤p2 1330)∧(-p2 1330≤Y2+(k:Int)∧Y2+(k:Int)≤p2 1330) by
        have h1:=HFR.out;have h2:=HLT.out;omega)
       have HGQ:=Hh (show getQ q (X2+i) (Y2+k)=M k i by rw[HMM.out,←HL.out];rfl);clear hlt;obtain⟨W0,hW0⟩:∃W0:World,W0=wr.drew:=⟨_,rfl⟩;have P0:=Hh (PI.out.nxt (Below.drew' (Below.refl _ _)));rw[←hW0] at P0;clear PI hi;go_wp2_with fail;refine wp_region_noPanic ?_;refine wp_region_held (S:=fun w'=>w'.cell? ⟨w.heap.size,0,none⟩=some (.slice A n c)∧w'.cell? ⟨g6,0,none⟩=some (.bool u.x.s)∧w'.cell? ⟨g6,1,none⟩=some (.slice u.x.a u.x.xs.length u.x.c)∧w'.cell? ⟨g6,2,none⟩=some (.bool u.y.s)∧w'.cell? ⟨g6,3,none⟩=some (.slice u.y.a u.y.xs.length u.y.c)) (by kernel_rfl) ?_;change wpAnyH _ _ _ _ _ _ _ _ wr.drew;rw[←hW0];clear hW0;have hS0:=P0.out.s;refine Tk1 (v:=?_) 0 hS0 ?_ ?_;rotate_left
       ·rintro w' ⟨_,_,_,_,_⟩;go_simp;first|done|with_reducible rfl|rfl
       simp only[Act.put,LA];refine Tk1 (v:=?_) 1 hS0 ?_ ?_;rotate_left
       ·rintro w' ⟨_,_,_,_,_⟩;go_simp;first|done|with_reducible rfl|rfl
       simp only[Act.put,LA];refine Tk1 (v:=?_) 2 hS0 ?_ ?_;rotate_left
       ·rintro w' ⟨_,_,_,_,_⟩;go_simp;first|done|with_reducible rfl|rfl
       simp only[Act.put,LA];refine Tk1 (v:=?_) 3 hS0 ?_ ?_;rotate_left
       ·rintro w' ⟨_,_,_,_,_⟩;go_simp;first|done|with_reducible rfl|rfl
       simp only[Act.put,LA];refine Tk1 (v:=?_) 4 hS0 ?_ ?_;rotate_left
       ·rintro w' ⟨_,_,_,_,_⟩;go_simp;first|done|with_reducible rfl|rfl
       simp only[Act.put,LA];refine Tk1 (v:=?_) 5 hS0 ?_ ?_;rotate_left
       ·rintro w' ⟨_,_,_,_,_⟩;go_simp;first|done|with_reducible rfl|rfl
       simp only[Act.put,LA];refine Tk1 (v:=?_) 8 hS0 ?_ ?_;rotate_left
       ·rintro w' ⟨_,_,_,_,_⟩;go_simp;first|done|with_reducible rfl|rfl
       simp only[Act.put,LA];refine Tk1 (v:=?_) 9 hS0 ?_ ?_;rotate_left
       ·rintro w' ⟨_,_,_,_,_⟩;go_simp;first|done|with_reducible rfl|rfl
       simp only[Act.put,LA];refine Tk1 (v:=?_) 10 hS0 ?_ ?_;rotate_left
       ·rintro w' ⟨_,_,_,_,_⟩;go_simp;first|done|with_reducible rfl|rfl
       simp only[Act.put,LA];refine Rd1 6 fun K hK=>?_;go_simp;refine(zaQ (i:Int) _ (by omega) (by omega)).mono ?_;rintro e v1 h_;obtain⟨a1,rfl,ra,b_⟩:=zag h_;have RA:=Hh ra;clear ra h_;dsimp only;have P1:=Hh (P0.out.nxt b_);have hS1:=P1.out.s;refine hK.out _ _ hS1 (fun _=>?_);clear hK K b_;refine Rd1 7 fun K hK=>?_;go_simp;refine(zaz u.x.s a1.s u.x.a a1.a u.x.c a1.c u.x.xs a1.xs _ P1.out.x.us RA.out.us (by have:=SU.out.x;omega) (by have:=zau RA.out (zgi (by omega)).1 (zgi (by omega)).2;omega)).mono ?_;rintro e v2 h_;obtain⟨x9,rfl,rx,b_⟩:=zag h_;rw[P1.out.x.v,RA.out.v] at rx;have RX:=Hh rx;clear rx h_;dsimp only;have P2:=Hh (P1.out.nxt b_);have hS2:=P2.out.s;refine hK.out _ _ hS2 (fun _=>?_);clear hK K b_;refine Rd1 11 fun K hK=>?_;go_simp;refine(zaQ (k:Int) _ (by omega) (by omega)).mono ?_;rintro e v3 h_;obtain⟨a3,rfl,rb,b_⟩:=zag h_;have RB:=Hh rb;have RX:=Hh (RX.out.next b_);clear rb h_;dsimp only;have P3:=Hh (P2.out.nxt b_);have hS3:=P3.out.s;refine hK.out _ _ hS3 (fun _=>?_);clear hK K b_;refine Rd1 12 fun K hK=>?_;go_simp;refine(zaz u.y.s a3.s u.y.a a3.a u.y.c a3.c u.y.xs a3.xs _ P3.out.y.us RB.out.us (by have:=SU.out.y;omega) (by have:=zau RB.out (zgi (by omega)).1 (zgi (by omega)).2;omega)).mono ?_;rintro e v4 h_;obtain⟨y9,rfl,ry,b_⟩:=zag h_;rw[P3.out.y.v,RB.out.v] at ry;have RY:=Hh ry;have RX:=Hh (RX.out.next b_);clear ry h_;dsimp only;have P4:=Hh (P3.out.nxt b_);have hS4:=P4.out.s;refine hK.out _ _ hS4 (fun _=>?_);clear hK K b_;refine Rd1 13 fun K hK=>?_;go_simp;refine(ztO A c n q x9 y9 (X2+i) (Y2+k) _ P4.out.ns HL.out hn9 HG.out.1 RX.out RY.out (by have:=zau RX.out HNX.out.1.1 HNX.out.1.2;omega) (by have:=zau RY.out HNX.out.2.1 HNX.out.2.2;omega)).mono ?_;rintro e v5 ⟨rfl,b_⟩;rw[HGQ.out];dsimp only;have P5:=Hh (P4.out.nxt b_);have hS5:=P5.out.s;refine hK.out _ _ hS5 (fun _=>?_);clear hK K b_;refine Tk1 (v:=?_) 14 hS5 ?_ ?_;rotate_left
       ·rintro w' ⟨_,_,_,_,_⟩;go_simp;first|done|with_reducible rfl|rfl
       simp only[Act.put,LA];have s0:=P5.out.cell HI.out;have s1:=P5.out.free;refine Rd1 15 fun K hK=>?_;go_simp;have P6:=Hh (P5.out.put HI.out);have hS6:=P6.out.s;refine hK.out _ _ hS6 (fun _=>?_);clear hK K;refine wpAnyH_done (by kernel_rfl) ?_ _;refine NoPanic.normal ?_;go_wp2_with fail;go_roundw
       case rel=>exact⟨i+1,by go_num,HI.out,P6.out⟩
       case measure=>have:=HI.out;simp[intOf];omega
      ·have e:i=wide:=by omega
       subst e;have j4:decide ((i:Int)<(i:Int))=false:=decide_eq_false (by omega);have hby:=PI.out.by_;rw[zqa] at hby;have hcv:=zqc hby HPB.out;obtain⟨g0,g1,g2,g3,g4⟩:=PI.out.f.cells;have hfz:=frozen_of_row wr w5.heap.size 4 _ _ PI.out.f.gk;have HLO:=Hh (show w5.heap.size+1≤wr.heap.size from zad PI.out.f.gk);clear hby hlt hi;go_wp2_with (at_builtin;refine wpList_append_own_at _ rfl _ _ 49 rfl (w5.heap.size+1) 9 iS (.string ⟨#[]⟩) 1 16 Tryz.underlying49 HiS.out.1 HiS.out.2.1 HiS.out.2.2.1 HiS.out.2.2.2 rfl (by decide) _ _ _ rfl (PI.out.f.own.alloc _) ⟨_,0,none⟩ 1 1 [strV (strM M k i)] rfl rfl (cell_one_new _ _ _) (by simp[strV,Value.oneCell']) (by simp only[maxLen];omega) (by omega) (by rw[World.size_alloc];exact Nat.le_succ_of_le HLO.out) ?_;intro v2 w9 ho9 hg9 hn9' hk9;obtain⟨a9,c9,rfl⟩:=znI ho9;obtain⟨g4,hfz⟩:=PI.out.f.at9 hg9;have HR9:=Hh ((PI.out.f.next ((Below.refl _ _).alloc (Nat.le_refl _) _)).more (by rw[znH,List.map_append];exact ho9) hg9);clear ho9 hg9 hn9' hk9);go_roundw
       case rel=>exact⟨k+1,_,_,by go_num,by have:=HLT.out;omega,HR9.out⟩
       case measure=>have:=HLT.out;simp[intOf];omega
    ·have e:k=high:=by omega
     subst e;have HE9:=Hh hf;have j3:decide ((k:Int)<(k:Int))=false:=decide_eq_false (by omega);obtain⟨g0,g1,g2,g3,g4⟩:=hf.cells;have RBW:=Hh (RB.out.next hf.bb);obtain⟨z0,z1,z2,z3,z4⟩:=Gr.cells RBW.out.o.rk;obtain⟨f0,f1,f2,f3,f4⟩:=Gr.free RBW.out.o.rk;dsimp only[gr0,bw0,List.length_nil] at z0 z1 z2 z3 z4;clear hf hlt;go_wp2_with fail;obtain⟨v,hv⟩:∃v:Gr,v=⟨u.x,u.y,a,cc,zcL M wide k⟩:=⟨_,rfl⟩;have hrl:(zcL M wide k).length=k:=zcX _ _ _;have QV:=zfA RBW.out.o.rk v;obtain⟨e0,e1,e2,e3,e4⟩:=Gr.cells QV;have RV:=Gr.R.putG (v:=v) (u:=v) (W:=wr) (X:=X2) (Y:=Y2) (by rw[hv];exact⟨RBW.out.r.x,RBW.out.r.y,⟨fun r hr=>(by obtain⟨i,hi,rfl⟩:=List.mem_map.1 hr;rw[zbQ];unfold maxLen;omega),Rd.own HE9.out.own⟩⟩) RBW.out.o.rk;have hbv:=zcg RBW.out.o.b (show w.heap.size≤w.heap.size+1 by omega) v;rw[hv] at e0 e1 e2 e3 e4;dsimp only[putG] at e0 e1 e2 e3 e4;rw[hrl] at e0 e1 e2 e3 e4;refine bodyPost_ret (v:=.tuple #[v.val,.int .i64 0]) (by simp[results,Tryz.results25,go_sem,e0,e1,e2,e3,e4,hv,hrl]) rfl ?_;have hL:v.L=zcL M wide k:=by rw[hv]
     have hsh:=SU.out;refine⟨v,X2,Y2,0,rfl,?_,?_,?_,?_,.inr ⟨HMO.out.1,true,X2,Y2,wide,k,BV2.out,.inr ⟨HMO.out.2,rfl,rfl,rfl,?_⟩⟩⟩
     ·rw[hv] at RV ⊢;dsimp only[putG] at RV;rw[hrl] at RV;exact RV
     ·rw[hv];exact⟨hsh.x,hsh.y⟩
     ·rw[hv];exact zrX HE9.out.own
     ·rw[hv] at hbv;dsimp only[putG] at hbv;rw[hrl] at hbv;exact hbv
     ·rw[hL,HMM.out,Int.toNat_natCast,Int.toNat_natCast]
theorem zsb (A:Option Addr)(c n:Nat)(q:List Nd)(most:Int)(w:World)(h:Ns w A c q)(hn:q.length=n)(hn9:n≤900000)(hg:zas q)(hm : -9223372036854775808≤most∧most≤9223372036854775807) :
  Calls Tryz.prog 25 #[.agg #[.slice A n c],.int .i64 most] w (zjV q n most w):=by
 by_cases h1:most<0
 ·exact zrY A c n q most w h hn hn9 hg hm h1
 ·by_cases h2:1000<most
  ·exact zrZ A c n q most w h hn hn9 hg hm (by omega) h2
  ·exact zsa A c n q most w h hn hn9 hg hm (by omega) (by omega)
end Go.Proofs.YtcippfaljoagaaaGreatDoor
