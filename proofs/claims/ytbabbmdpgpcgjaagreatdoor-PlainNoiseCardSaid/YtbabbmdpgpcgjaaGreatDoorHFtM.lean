import Derived.Lib.Builder
import Derived.Lib.FrozenHead2
import Derived.Lib.UnsafeStr
import Derived.Lib.AppendStr
import Derived.Laws.Externs
import Derived.Shelf.RegionOpenPlain
import Derived.Laws.IdiomCopy
import Derived.Laws.BitsLemmas
import Derived.Lib.IndexBytes
import Derived.Test.YtbabbmdpgpcgjaaGreatDoorHFtB
import Derived.Laws.RangeString
import Derived.Deep.LoopGhost
import Derived.Laws.BytesString
import Derived.Laws.Concat
import Derived.Laws.BytesArg

set_option linter.unusedVariables false
set_option linter.unusedSimpArgs false
set_option maxRecDepth 100000
set_option maxHeartbeats 6400000
namespace Go.Proofs.YtbabbmdpgpcgjaaGreatDoor
open Go.RowKit Lib
theorem zrE {L:List (List UInt8)}{k:Nat}(hk:k<L.length):(L.take (k+1)).flatten=(L.take k).flatten++tat L k:=by
 unfold tat;rw[List.take_add_one,List.flatten_append,List.getElem?_eq_getElem hk];simp
end Go.Proofs.YtbabbmdpgpcgjaaGreatDoor

namespace Go.Proofs.YtbabbmdpgpcgjaaGreatDoor
def zem:List UInt8→List UInt8
 | []=>[]
 | x :: r=>if x=0∧zem r=[] then [] else x :: zem r
theorem ziF (l:List UInt8)(x:UInt8):zem (l++[x])=if x=0 then zem l else l++[x]:=by
 induction l with
 | nil =>
  show(if x=0∧([]:List UInt8)=[] then [] else [x])=_;by_cases h:x=0
  ·rw[if_pos ⟨h,rfl⟩,if_pos h];rfl
  ·rw[if_neg (fun e=>h e.1),if_neg h];rfl
 | cons y r ih =>
  show(if y=0∧zem (r++[x])=[] then [] else y :: zem (r++[x]))=_;rw[ih];by_cases h:x=0
  ·rw[if_pos h,if_pos h];rfl
  ·rw[if_neg h,if_neg h,if_neg (fun e=>by have:=e.2;simp at this)];rfl
theorem ziG (l:List UInt8):zem l=l.take (zem l).length:=by
 induction l with
 | nil=>rfl
 | cons y r ih =>
  show(if y=0∧zem r=[] then [] else y :: zem r)=_;show _=(y :: r).take (if y=0∧zem r=[] then [] else y :: zem r).length;split
  ·rfl
  ·rw[List.length_cons,List.take_succ_cons,←ih]
theorem zkY (l:List UInt8):(zem l).length≤l.length:=by
 have h:=congrArg List.length (ziG l);rw[List.length_take] at h;omega
def sg (one x:UInt8):UInt8:=if x=0 then 46 else one
def zdx (one:UInt8)(r:List UInt8):List UInt8:=(zem r).map (sg one)
theorem zkZ (one:UInt8)(r:List UInt8):(zdx one r).length≤r.length:=by
 unfold zdx;rw[List.length_map];exact zkY r
theorem zoM (one:UInt8)(r:List UInt8):zdx one r=(r.map (sg one)).take (zem r).length:=by
 unfold zdx;rw[←List.map_take,←ziG]
def zjH (f:List UInt8→List UInt8)(L:List (List UInt8)):List UInt8:=(L.map fun r=>f r++[10]).flatten
theorem zoN (f:List UInt8→List UInt8)(L:List (List UInt8)){k:Nat}(hk:k<L.length):zjH f (L.take (k+1))=zjH f (L.take k)++f (L[k]?.getD [])++[10]:=by
 unfold zjH;rw[List.take_add_one,List.getElem?_eq_getElem hk,List.map_append,List.flatten_append];show _++[f L[k]++[10]].flatten=_;rw[List.flatten_singleton,List.append_assoc];rfl
def zul:List UInt8:=[33,82,117,108,101,58,32]
def zyh (rule:List UInt8)(L:List (List UInt8)):List UInt8:=zul++rule++[10]++zjH (zdx 79) L
end Go.Proofs.YtbabbmdpgpcgjaaGreatDoor

namespace Go.Proofs.YtbabbmdpgpcgjaaGreatDoor
open Go.RowKit Lib
def zyi:Value→Nat
 | .string t=>t.size
 | _=>0
theorem zjI (t:ByteArray)(m:Nat):(t.extract 0 m).data.toList=t.data.toList.take m:=by
 simp[ByteArray.data_extract]
theorem zhU {s t:ByteArray}(h:s.data.toList=t.data.toList):s=t:=by
 obtain⟨⟨a⟩⟩:=s;obtain⟨⟨b⟩⟩:=t;simp at h;rw[h]
theorem zwQ {t:ByteArray}{m:Nat}(h:t.size=m+1)(hlt:m<t.size):t.data.toList=t.data.toList.take m++[t[m]'hlt]:=by
 have hl:t.data.toList.length=m+1:=(zaf t).trans h;have h1:=zbQ (s:=t) (k:=m) hlt;have h2:=List.take_add_one (l:=t.data.toList) (i:=m);rw[h1,List.take_of_length_le (by omega)] at h2;exact h2
theorem zhA {one:UInt8}{t:List UInt8}{k:Nat}{x:UInt8}(hx:t[k]?=some x):(t.take (k+1)).map (sg one)=(t.take k).map (sg one)++[sg one x]:=by
 rw[List.take_add_one,hx,List.map_append];rfl
theorem zoO {W:World}{base g n c m:Nat}{bs:List UInt8}(h:W.ownsRow base 5 1 (.slice (some ⟨g,0,none⟩) n c) n (byteCells bs))(hm:m≤n)(hl:bs.length=n) :
  (convert 101 9 (.slice (some ⟨g,0,none⟩) m c)).run Tryz.prog W=.ok (.string ⟨(bs.take m).toArray⟩) W:=by
 have hlen:(bs.take m).length=m:=by rw[List.length_take];omega
 have:=run_convert_bytes_back (P:=Tryz.prog) W 101 9 5 ⟨g,0,none⟩ c (bs.take m) Tryz.underlying101 Tryz.underlying5 Tryz.underlying9 (fun j hj=>?_)
 ·rw[hlen] at this;exact this
 ·have hj':=hj;rw[hlen] at hj';have e3:(⟨g,0,none⟩:Addr).add j=⟨g,j,none⟩:=by unfold Addr.add;split <;> simp_all
  rw[e3,h.cellAt j (by omega)];unfold byteCells;rw[List.getElem?_map,List.getElem?_eq_getElem (by omega),List.getElem_take];rfl
theorem zum (s:ByteArray)(one:UInt8)(w:World)(hs:s.size≤100000) :
  Calls Tryz.prog 33 #[.string s,.int .u8 (one.toNat:Int)] w fun e w'=>e=.returned (.string ⟨(zdx one s.data.toList).toArray⟩)∧Below w.heap.size w w':=by
 obtain⟨iY,hi,hz0,hz1,hz2⟩:=zbL Tryz.infoY;have HI:=Hh (And.intro hi (And.intro hz0 (And.intro hz1 hz2)));have ho8:=one.toNat_lt;clear hi hz0 hz1 hz2;by_cases h0:s.size=0
 ·have hd:s.data.toList=[]:=List.eq_nil_of_length_eq_zero (by rw[zaf];exact h0);have t9:decide ((0:Int)<(s.size:Int))=false:=decide_eq_false (by omega);have t10:decide (0<s.size)=false:=decide_eq_false (by omega);have t11:(0<s.size)=False:=eq_false (by omega);have hcv:∀W:World,(convert 101 9 (.slice none 0 0)).run Tryz.prog W=.ok (.string ⟨#[]⟩) W:=fun W=>by
   rw[run_convert_bytes_string W _ _ 5 none 0 0 Tryz.underlying101 Tryz.underlying5 Tryz.underlying9];rfl
  rw[hd];clear hd h0;go_enter Tryz.func33,Tryz.ntmps33;go_wp2_with fail;go_loopw [7,6,5] (fun z1 z2 z3 wr=>z1=.int .i64 0∧z2=.int .i64 0∧z3=.slice none 0 0∧wr=w) (fun _ _ _ _=>0)
  case atStart=>exact⟨rfl,rfl,rfl,rfl⟩
  case round =>
   obtain⟨rfl,rfl,rfl,rfl⟩:=hrel;go_wp2_with fail;go_ret;exact⟨rfl,Below.refl _ _⟩
 ·have hpos:0<s.size:=by omega
  have HP:=Hh hpos;clear h0 hpos;go_enter Tryz.func33,Tryz.ntmps33;go_wp2_with fail;go_loopw [7,6,5] (fun z1 z2 z3 wr=>∃(i m:Nat) (v:Value),z1=.int .i64 i∧z2=.int .i64 m∧m=(zem (s.data.toList.take i)).length∧v=z3∧i≤s.size∧wr.ownsRow w.heap.size 5 1 v i (byteCells ((s.data.toList.take i).map (sg one)))∧Below w.heap.size w wr) (fun z1 _ _ _=>s.size-(intOf z1).toNat)
  case atStart=>exact⟨0,0,_,rfl,rfl,rfl,rfl,Nat.zero_le _,World.ownsRow_nil _ _ _ 1,Below.refl _ _⟩
  case round =>
   obtain⟨i,m,v,rfl,rfl,hm,rfl,hi,ho,hb⟩:=hrel;have HM:=Hh hm;have HO:=Hh ho;have HB:=Hh hb;have hm9:m≤i:=by
    have h1:=zkY (s.data.toList.take i);rw[List.length_take] at h1;omega
   have iw:IntKind.i64.wrap ((i:Int)+1)=(i:Int)+1:=IntWalk.i64_in _ (by omega);have hsz:=hb.size;clear hm ho hb;by_cases hlt:i<s.size
   ·have hgt:=zbQ hlt;have HGT:=Hh hgt;have HLT:=Hh hlt;have i0:(0:Int)≤(i:Int):=by omega
    have i1:(i:Int)<(s.size:Int):=by omega
    have j3:decide ((i:Int)<(s.size:Int))=true:=decide_eq_true i1;have HTK:=Hh (show s.data.toList.take (i+1)=s.data.toList.take i++[s[i]'hlt] by rw[List.take_add_one,hgt];rfl);clear hgt;by_cases hx:(s[i]'hlt).toNat=0
    ·have u1:((((s[i]'hlt).toNat:Nat):Int)==0)=true:=by rw[hx];rfl
     have HX:=Hh (UInt8.toNat_inj.1 (show(s[i]'hlt).toNat=(0:UInt8).toNat from hx));clear hx;go_wp2_with (at_builtin;go_loud (refine wpList_append_own_at _ rfl _ _ 101 rfl w.heap.size 5 iY (.int .u8 0) 1 1 Tryz.underlying101 HI.out.1 HI.out.2.1 HI.out.2.2.1 HI.out.2.2.2 rfl (by decide) _ _ _ rfl (HO.out.alloc _) ⟨_,0,none⟩ 1 1 [.int .u8 46] rfl rfl (cell_one_new _ _ _) (by simp[Value.oneCell']) (by simp only[maxLen];omega) (by omega) (by simp;omega) ?_;intro v2 w3 ho3 hg3 hn3 hk3;have HO3:=Hh ho3;have HB3:=Hh ((HB.out.alloc hsz _).grown hg3 (by rw[World.size_alloc];omega) (fun k hk=>(HO.out.lt k hk).1));clear ho3 hg3 hn3 hk3));go_roundw
     case rel=>exact⟨i+1,m,_,by go_num,rfl,by rw[HTK.out,ziF,if_pos HX.out];exact HM.out,rfl,HLT.out,by rw[zhA HGT.out,byteCells_append];(have e:byteCells [sg one (s[i]'hlt)]=[.int .u8 46]:=by(unfold sg;rw[if_pos HX.out];rfl));rw[e];exact HO3.out,HB3.out⟩
     case measure=>have:=HLT.out;simp[intOf];omega
    ·have u1:((((s[i]'hlt).toNat:Nat):Int)==0)=false:=beq_eq_false_iff_ne.2 (by omega);have HX:=Hh (show ¬ s[i]'hlt=0 from fun e=>hx (by rw[e];rfl));clear hx;go_wp2_with (at_builtin;go_loud (refine wpList_append_own_at _ rfl _ _ 101 rfl w.heap.size 5 iY (.int .u8 0) 1 1 Tryz.underlying101 HI.out.1 HI.out.2.1 HI.out.2.2.1 HI.out.2.2.2 rfl (by decide) _ _ _ rfl (HO.out.alloc _) ⟨_,0,none⟩ 1 1 [.int .u8 (one.toNat:Int)] rfl rfl (cell_one_new _ _ _) (by simp[Value.oneCell']) (by simp only[maxLen];omega) (by omega) (by simp;omega) ?_;intro v2 w3 ho3 hg3 hn3 hk3;obtain⟨A2,c2,rfl⟩:=zcm ho3;have HO3:=Hh ho3;have HB3:=Hh ((HB.out.alloc hsz _).grown hg3 (by rw[World.size_alloc];omega) (fun k hk=>(HO.out.lt k hk).1));clear ho3 hg3 hn3 hk3));go_roundw
     case rel=>exact⟨i+1,i+1,_,by go_num,by go_num,by rw[HTK.out,ziF,if_neg HX.out,List.length_append,List.length_take,zaf];simp;omega,rfl,HLT.out,by rw[zhA HGT.out,byteCells_append];(have e:byteCells [sg one (s[i]'hlt)]=[.int .u8 (one.toNat:Int)]:=by(unfold sg;rw[if_neg HX.out];rfl));rw[e];exact HO3.out,HB3.out⟩
     case measure=>have:=HLT.out;simp[intOf];omega
   ·have e:i=s.size:=by omega
    have t9:decide ((i:Int)<(s.size:Int))=false:=decide_eq_false (by omega);have t10:decide (i<s.size)=false:=decide_eq_false hlt;have t11:(i<s.size)=False:=eq_false hlt;have hall:s.data.toList.take i=s.data.toList:=List.take_of_length_le (by rw[zaf];omega);have ho:=HO.out;rw[hall] at ho;rcases ho.2 with⟨-,hz⟩|⟨g,cap,cur,hv,-,-,hnc,hcm,-⟩
    ·exfalso;have:=HP.out;omega
    ·subst hv;have hcv:=zoO ho hm9 (by rw[List.length_map,zaf];omega);have HF:=Hh (show((s.data.toList.map (sg one)).take m)=zdx one s.data.toList by rw[zoM,HM.out,hall]);rw[HF.out] at hcv;have k1:(0:Int)≤(m:Int)∧(m:Int)≤(cap:Int):=by omega
     have k0:(0:Int)≤(m:Int):=by omega
     have k2:(m:Int)≤(cap:Int):=by omega
     clear ho hall e hlt;go_wp2_with fail;go_ret;exact⟨rfl,HB.out⟩
end Go.Proofs.YtbabbmdpgpcgjaaGreatDoor

namespace Go.Proofs.YtbabbmdpgpcgjaaGreatDoor
open Go.RowKit Num
theorem zml (xs:List Nat)(k:Nat):val (xs.drop k)≤val xs:=by
 rcases Nat.lt_or_ge xs.length k with h|h
 ·rw[List.drop_eq_nil_of_le (by omega)];exact Nat.zero_le _
 ·rw[zcN xs k h];exact Nat.le_trans (Nat.le_mul_of_pos_left _ (Nat.pow_pos (by decide))) (Nat.le_add_left _ _)
theorem zmm {xs:List Nat}{u:Nat}(hu:u=val xs)(h:(u:Int)≤9223372036854775807):inI (ival false xs)=true∧outI (ival false xs)=u:=by
 have e:ival false xs=(u:Int):=by rw[hu];rfl
 obtain⟨h1,h2⟩:=zjz (x:=ival false xs) (by rw[e];omega);exact⟨h1,h2.trans e⟩
theorem zmn {xs:List Nat}{u:Nat}(hu:u=val xs)(h:(u:Int)≤9223372036854775808):inI (ival true xs)=true∧outI (ival true xs) = -u:=by
 have e:ival true xs = -(u:Int):=by rw[hu];rfl
 obtain⟨h1,h2⟩:=zjz (x:=ival true xs) (by rw[e];omega);exact⟨h1,h2.trans e⟩
theorem zla (u:Nat)(h:(u:Int)≤9223372036854775808):wrap64 (IntKind.u64.wrap (-(u:Int))) = -u:=by
 simp[wrap64,IntKind.wrap,IntKind.bits,IntKind.signed];omega
theorem zvz (s:Bool){xs:List Nat}(h:9223372036854775808<val xs):inI (ival s xs)=false∧outI (ival s xs)=0:=by
 have e:=zeJ s xs;exact zkO (by omega)
theorem zoP {xs:List Nat}(h:9223372036854775807<val xs):inI (ival false xs)=false∧outI (ival false xs)=0:=by
 have e:ival false xs=(val xs:Int):=rfl;exact zkO (by rw[e];omega)
theorem zfh {a b:Int}{x y:Bool}(h:a=b)(k:x=y):Ending.returned (.tuple #[.int .i64 a,.bool x])=.returned (.tuple #[.int .i64 b,.bool y]):=by rw[h,k]
theorem zlb (s:Bool)(A:Option Addr)(c:Nat)(xs:List Nat)(w:World)(h:Us w A c xs) :
  Calls Tryz.prog 59 #[.agg #[.bool s,.slice A xs.length c]] w fun e w'=>e=.returned (.tuple #[.int .i64 (outI (ival s xs)),.bool (inI (ival s xs))])∧Below w.heap.size w w':=by
 have hcap:=h.cap;obtain⟨n,hn⟩:∃n,n=xs.length:=⟨_,rfl⟩;rw[←hn] at hcap ⊢;obtain⟨hX,hB⟩:=box1 w (.bool s) (.slice A n c) 69;obtain⟨i1,hi1⟩:∃i,i=inI (ival s xs):=⟨_,rfl⟩;obtain⟨o1,ho1⟩:∃i,i=outI (ival s xs):=⟨_,rfl⟩;rw[←hi1,←ho1];have HB:=Hh hB;have H1:=Hh (h.below hB);have HI:=Hh hi1;have HO:=Hh ho1;have hd:=h.1;have HN:=Hh hn;clear h hX hB hi1 ho1 hn;go_enter Tryz.func59,Tryz.ntmps59;go_wp2_with fail;go_loop [4,5] (fun u i=>∃k v:Nat,k≤n∧i=.int .i64 ((k:Int)-1)∧u=.int .u64 v∧v<18446744073709551616∧Hid (v=val (xs.drop k))) (fun _ i=>(intOf i+1).toNat)
 case atStart=>exact⟨n,0,Nat.le_refl _,rfl,rfl,by decide,Hh (by rw[List.drop_eq_nil_of_le (by rw[HN.out];exact Nat.le_refl _)];rfl)⟩
 case round =>
  obtain⟨k,v,hk,rfl,rfl,hv,HV⟩:=hrel;rcases Nat.eq_zero_or_pos k with rfl|hk0
  ·have e0:v=val xs:=HV.out;cases s
   ·by_cases hle:(v:Int)≤9223372036854775807
    ·have HE:=Hh (zmm e0 hle);clear e0;go_wp2_with fail;go_ret2;exact⟨zfh (by rw[HO.out,HE.out.2]) (by rw[HI.out,HE.out.1]),HB.out⟩
    ·have HE:=Hh (zoP (xs:=xs) (by omega));clear e0;go_wp2_with fail;go_ret2;exact⟨zfh (by rw[HO.out,HE.out.2]) (by rw[HI.out,HE.out.1]),HB.out⟩
   ·by_cases hle:(v:Int)≤9223372036854775808
    ·have HE:=Hh (zmn e0 hle);clear e0;go_wp2_with fail;go_ret2;exact⟨zfh (by rw[HO.out,HE.out.2,zla v hle]) (by rw[HI.out,HE.out.1]),HB.out⟩
    ·have HE:=Hh (zvz true (xs:=xs) (by omega));clear e0;go_wp2_with fail;go_ret2;exact⟨zfh (by rw[HO.out,HE.out.2]) (by rw[HI.out,HE.out.1]),HB.out⟩
  ·obtain⟨j,rfl⟩:∃j,k=j+1:=⟨k-1,by omega⟩;obtain⟨b,off,rfl,hb,hc⟩:=H1.out.at_ (by rw[←HN.out];omega)
   have c0:=hc j (by rw[←HN.out];omega);obtain⟨x,hx⟩:∃x,x=xs[j]?.getD 0:=⟨_,rfl⟩;rw[←hx] at c0;have hxl:x<4294967296:=by rw[hx];exact hd.getD j
   have HS:=Hh (show val (xs.drop j)=x+4294967296*v by rw[hx,HV.out];exact zdU (by rw[←HN.out];omega));clear hc hx;have i1:((j+1:Nat):Int)-1=(j:Int):=by omega
   rw[i1];clear i1;by_cases hvb:4294967295<v
   ·have HE:=Hh (zvz s (xs:=xs) (by have h1:=zml xs j;have h2:=HS.out;omega));go_wp2_with fail;go_ret2;exact⟨zfh (by rw[HO.out,HE.out.2]) (by rw[HI.out,HE.out.1]),HB.out⟩
   ·have hsum:x+4294967296*v<18446744073709551616:=by omega
    go_wp2_with fail;go_round
    case rel=>exact⟨j,x+4294967296*v,by omega,rfl,by go_num,hsum,Hh HS.out.symm⟩
    case measure=>simp[intOf]
end Go.Proofs.YtbabbmdpgpcgjaaGreatDoor

namespace Go.Proofs.YtbabbmdpgpcgjaaGreatDoor
open Go.RowKit Num Nds
def BoxP (q:List Nd)(X Y:Int)(wide high:Nat):Prop :=
 (q=[]∧X=0∧Y=0∧wide=0∧high=0)∨(0<wide∧0<high∧∃k,BoxT (den q q.length) k X Y wide high∧(den q q.length).lv.toNat=k)
theorem BxV.boxp {q:List Nd}(hg:zas q){ok:Bool}{X Y V H:Int}(b:BxV q q.length ok X Y V H):BoxP q X Y V.toNat H.toNat∧0≤V∧0≤H:=by
 rcases b with⟨h0,-,rfl,rfl,rfl,rfl⟩|⟨h0,rfl,h1⟩
 ·exact⟨.inl ⟨List.length_eq_zero_iff.1 h0,rfl,rfl,rfl,rfl⟩,Int.le_refl _,Int.le_refl _⟩
 ·have hlv:=zaH (zaq hg.1 (i:=q.length-1) (by omega));obtain⟨m,hm⟩:∃m:Nat,(at_ q (q.length-1)).lv=(m:Int)+1:=⟨(at_ q (q.length-1)).lv.toNat-1,by omega⟩;have hw:=zbY hg.1 (q.length-1) (by omega);rw[Nat.sub_add_cancel (by omega),hm] at hw;have hne:=(hg.2 (q.length-1) (by omega)).1;rw[Nat.sub_add_cancel (by omega)] at hne;have hn:(den q q.length).lv.toNat=(at_ q (q.length-1)).lv.toNat:=by rw[zrl hw hne,hm]
  obtain⟨⟨x1,y1,a1,-⟩,-⟩:=h1.touch hn;have hc:=h1.cell hn a1;refine⟨.inr ⟨by omega,by omega,_,?_,hn⟩,by omega,by omega⟩;rw[Int.toNat_of_nonneg (by omega),Int.toNat_of_nonneg (by omega)];exact h1
theorem zrF (M:Int→Int→Int){k wide high:Nat}(hk:k<high):tat (zbv M wide high) k=strM M k wide:=by
 unfold tat;rw[znG M hk];rfl
theorem zoQ (M:Int→Int→Int){wide high:Nat}(h:high=0→wide=0):zaP (zbv M wide high)=wide:=by
 unfold zaP;by_cases h0:high=0
 ·rw[h h0,h0];rfl
 ·rw[zrF M (by omega),zbP]
theorem BoxP.flat {q:List Nd}{X Y:Int}{wide high:Nat}(b:BoxP q X Y wide high):high=0→wide=0:=fun h=>by
 rcases b with⟨-,-,-,h1,-⟩|⟨-,h1,-⟩
 ·exact h1
 ·omega
theorem BxV.hi {q:List Nd}(hg:zas q){ok:Bool}{X Y V H:Int}(b:BxV q q.length ok X Y V H):(-p2 1330≤X∧X≤p2 1330)∧(-p2 1330≤Y∧Y≤p2 1330):=by
 have m1:=zaz 1330;rcases b with⟨-,-,h1,h2,h3,h4⟩|⟨h0,-,h1⟩
 ·omega
 ·have hlv:=zaH (zaq hg.1 (i:=q.length-1) (by omega));obtain⟨m,hm⟩:∃m:Nat,(at_ q (q.length-1)).lv=(m:Int)+1:=⟨(at_ q (q.length-1)).lv.toNat-1,by omega⟩;have hw:=zbY hg.1 (q.length-1) (by omega);rw[Nat.sub_add_cancel (by omega),hm] at hw;have e1:(at_ q (q.length-1)).lv.toNat=m+1:=by omega
  rw[e1] at h1;have hw2:∀t,(fun u=>u=den q q.length) t→wfT ((m+1:Nat):Int) t:=fun t ht=>by have ht':t=den q q.length:=ht;rw[ht'];exact hw
  have a1:=h1.west.in_ hw2;have a3:=h1.north.in_ hw2;have m2:=zaw (show m+1≤1330 by omega);rw[Nat.add_sub_cancel] at a1 a3;have m3:=zap m;have m4:=zaz m;omega
theorem BxV.lowG {q:List Nd}(hg:zas q){ok:Bool}{X Y V H:Int}(b:BxV q q.length ok X Y V H):X+V≤p2 1330∧Y+H≤p2 1330:=by
 have m1:=zaz 1330;rcases b with⟨-,-,h1,h2,h3,h4⟩|⟨h0,-,h1⟩
 ·omega
 ·have hlv:=zaH (zaq hg.1 (i:=q.length-1) (by omega));obtain⟨m,hm⟩:∃m:Nat,(at_ q (q.length-1)).lv=(m:Int)+1:=⟨(at_ q (q.length-1)).lv.toNat-1,by omega⟩;have hw:=zbY hg.1 (q.length-1) (by omega);rw[Nat.sub_add_cancel (by omega),hm] at hw;have e1:(at_ q (q.length-1)).lv.toNat=m+1:=by omega
  rw[e1] at h1;have hw2:∀t,(fun u=>u=den q q.length) t→wfT ((m+1:Nat):Int) t:=fun t ht=>by have ht':t=den q q.length:=ht;rw[ht'];exact hw
  have a2:=h1.east.in_ hw2;have a4:=h1.south.in_ hw2;have m2:=zaw (show m+1≤1330 by omega);rw[Nat.add_sub_cancel] at a2 a4;have m3:=zap m;have m4:=zaz m;omega
def zjJ (M:Int→Int→Int)(k wide x:Nat):List Value:=(List.range wide).map fun(i:Nat)=>if i<x then .int .u8 (M k i) else .int .u8 0
theorem zoR (M:Int→Int→Int)(k wide:Nat):zjJ M k wide 0=List.replicate wide (.int .u8 0):=by
 unfold zjJ;refine List.ext_getElem? fun j=>?_;by_cases hj:j<wide
 ·rw[List.getElem?_map,List.getElem?_range hj,List.getElem?_replicate,if_pos hj];rfl
 ·rw[List.getElem?_eq_none (by simpa using hj),List.getElem?_eq_none (by simpa using hj)]
theorem zrG (M:Int→Int→Int)(k wide:Nat):zjJ M k wide wide=zdL M k wide:=by
 unfold zjJ zdL;refine List.map_congr_left fun i hi=>?_;rw[if_pos (List.mem_range.1 hi)]
theorem zrH (M:Int→Int→Int)(k:Nat){wide x:Nat}(hx:x<wide):(zjJ M k wide x).set x (.int .u8 (M k x))=zjJ M k wide (x+1):=by
 unfold zjJ;refine List.ext_getElem? fun j=>?_;by_cases hj:j<wide
 ·rw[List.getElem?_set];by_cases e:x=j
  ·subst e;rw[if_pos rfl,if_pos (by simpa using hj),List.getElem?_map,List.getElem?_range hj];show _=some (if x<x+1 then _ else _);rw[if_pos (by omega)]
  ·rw[if_neg e,List.getElem?_map,List.getElem?_range hj,List.getElem?_map,List.getElem?_range hj];show some (if j<x then _ else _)=some (if j<x+1 then _ else _);by_cases h1:j<x
   ·rw[if_pos h1,if_pos (by omega)]
   ·rw[if_neg h1,if_neg (by omega)]
 ·rw[List.getElem?_eq_none (by simpa using hj),List.getElem?_eq_none (by simpa using hj)]
theorem zoS (M:Int→Int→Int)(wide k:Nat):zbv M wide (k+1)=zbv M wide k++[strM M k wide]:=by
 unfold zbv;rw[List.range_succ,List.map_append];rfl
theorem zrI {base g wide k:Nat}{M:Int→Int→Int}{W:World}(h:W.ownsRow base 5 1 (.slice (some ⟨g,0,none⟩) wide wide) wide (zdL M k wide))(hM:∀r c,0≤M r c∧M r c≤255) :
  (convert 101 9 (.slice (some ⟨g,0,none⟩) wide wide)).run Tryz.prog W=.ok (.string ⟨(strM M k wide).toArray⟩) W:=by
 have:=run_convert_bytes_back (P:=Tryz.prog) W 101 9 5 ⟨g,0,none⟩ wide (strM M k wide) Tryz.underlying101 Tryz.underlying5 Tryz.underlying9 (fun j hj=>?_)
 ·rw[zbP] at this;exact this
 ·rw[zbP] at hj;have e:=(h.cellAt j (by omega)).trans (zgr (M:=M) (k:=k) hj);have e2:=zmg M (k:=k) hj;rw[List.getElem?_eq_getElem (by rw[zbP];exact hj)] at e2;injection e2 with e2
  have e3:(⟨g,0,none⟩:Addr).add j=⟨g,j,none⟩:=by unfold Addr.add;split <;> simp_all
  rw[e3,e,e2,zhv (hM k j)]
structure Rb (w:World)(A:Option Addr)(n c:Nat)(q:List Nd)(g6:Nat)(u:Xb)(X Y V H:Int)(W:World):Prop where
 o:Oo w A n c q W
 ub:W.heap[g6]?=some u.obj
 r:u.R W X Y V H
theorem Rb.next {w W W':World}{A:Option Addr}{n c:Nat}{q:List Nd}{g6:Nat}{u:Xb}{X Y V H:Int}(h:Rb w A n c q g6 u X Y V H W)(k:Below W.heap.size W W'):Rb w A n c q g6 u X Y V H W' :=
 ⟨h.o.next k,(k.block _ (zab h.ub)).trans h.ub,h.r.next k⟩
theorem Rb.cells {w W:World}{A:Option Addr}{n c:Nat}{q:List Nd}{g6:Nat}{u:Xb}{X Y V H:Int}(h:Rb w A n c q g6 u X Y V H W) :
  W.cell? ⟨w.heap.size,0,none⟩=some (.slice A n c)∧W.cell? ⟨g6,0,none⟩=some (.bool u.x.s)∧W.cell? ⟨g6,1,none⟩=some (.slice u.x.a u.x.xs.length u.x.c)∧W.cell? ⟨g6,2,none⟩=some (.bool u.y.s)∧W.cell? ⟨g6,3,none⟩=some (.slice u.y.a u.y.xs.length u.y.c):=by
 obtain⟨c0,c1,c2,c3,-⟩:=Xb.cells h.ub;exact⟨zaa h.o.qk,c0,c1,c2,c3⟩
structure Rf (W8:World)(M:Int→Int→Int)(u:Xb)(wide k:Nat)(a:Option Addr)(c:Nat)(W:World):Prop where
 bb:Below W8.heap.size W8 W
 gk:W.heap[W8.heap.size]?=some (.cells #[.bool u.x.s,.slice u.x.a u.x.xs.length u.x.c,.bool u.y.s,.slice u.y.a u.y.xs.length u.y.c,.slice a k c] 71)
 own:W.ownsRow (W8.heap.size+1) 9 1 (.slice a k c) k ((zbv M wide k).map strV)
section
variable {W8 W W':World} {M:Int→Int→Int} {u:Xb} {wide k:Nat} {a:Option Addr} {c:Nat}
theorem Rf.next (h:Rf W8 M u wide k a c W)(b:Below W.heap.size W W'):Rf W8 M u wide k a c W' :=
 ⟨h.bb.trans (b.mono h.bb.size),(b.block _ (zab h.gk)).trans h.gk,h.own.kept (gbX b) (by cases hv:(Value.slice a k c).ownBlock <;> simp)⟩
theorem Rf.set (h:Rf W8 M u wide k a c W){p:Addr}(hp:W8.heap.size<p.block)(ho:∀j,(Value.slice a k c).ownBlock=some j→j≠p.block)(v:Value):Rf W8 M u wide k a c (W.setCell p v) :=
 ⟨h.bb.trans ((Below.refl _ _).setCell (Nat.le_of_lt hp) v),(heap_setCell_other W p _ v (by omega)).trans h.gk,ownsRow_setCell_other h.own (a:=p) (fun e=>ho _ e rfl) v⟩
theorem Rf.grid (h:Rf W8 M u wide k a c W):W.heap[W8.heap.size]?=some (Gr.mk u.x u.y a c (zbv M wide k)).obj:=by
 rw[h.gk];show _=some (Obj.cells #[_,_,_,_,.slice a (zbv M wide k).length c] _ _);rw[zcW]
theorem Rf.cells (h:Rf W8 M u wide k a c W):W.cell? ⟨W8.heap.size,0,none⟩=some (.bool u.x.s)∧W.cell? ⟨W8.heap.size,1,none⟩=some (.slice u.x.a u.x.xs.length u.x.c)∧W.cell? ⟨W8.heap.size,2,none⟩=some (.bool u.y.s)∧W.cell? ⟨W8.heap.size,3,none⟩=some (.slice u.y.a u.y.xs.length u.y.c)∧W.cell? ⟨W8.heap.size,4,none⟩=some (.slice a k c):=by
 obtain⟨c0,c1,c2,c3,c4⟩:=Gr.cells h.grid;rw[zcW] at c4;exact⟨c0,c1,c2,c3,c4⟩
theorem Rf.more (h:Rf W8 M u wide k a c W){a':Option Addr}{c':Nat}(o:W'.ownsRow (W8.heap.size+1) 9 1 (.slice a' (k+1) c') (k+1) ((zbv M wide (k+1)).map strV))(g:W.grownBy W' (Value.slice a k c).ownBlock) :
  Rf W8 M u wide (k+1) a' c' (W'.setCell ⟨W8.heap.size,4,none⟩ (.slice a' (k+1) c')):=by
 have hne:(Value.slice a k c).ownBlock≠some W8.heap.size:=fun e=>by have:=(h.own.lt _ e).1;omega
 have hg:W'.heap[W8.heap.size]?=_:=(g.block _ (zab h.gk) (fun e=>hne e.symm)).trans h.gk;have hb:Below W8.heap.size W8 W':=h.bb.grown g (Nat.le_of_lt (zab h.gk)) (fun j hj=>by have:=(h.own.lt _ hj).1;omega);refine⟨hb.setCell (p:=⟨W8.heap.size,4,none⟩) (Nat.le_refl _) _,(heap_setCell_same W' _ 4 _ _ _ hg).trans rfl,ownsRow_setCell_other o (a:=⟨W8.heap.size,4,none⟩) (fun e=>?_) _⟩;have h9:=(o.lt W8.heap.size e).1;omega
end
theorem zoT {w:World}{base:Nat}{e:TypeId}{size:Nat}{v:Value}{n:Nat}{xs:List Value}(h:w.ownsRow base e size v n xs):∃A c,v=.slice A n c:=by
 rcases h.2 with⟨h',hn⟩|⟨g,cap,cur,h',hb,hg,hnc,hcm,hcs,htake⟩
 ·exact⟨none,0,by rw[h',hn]⟩
 ·exact⟨some ⟨g,0,none⟩,cap,h'⟩
theorem zun {w:World}{base:Nat}{e:TypeId}{size n c:Nat}{A:Option Addr}{xs:List Value}(h:w.ownsRow base e size (.slice A n c) n xs)(e:A=none):c=0:=by
 rcases h.2 with⟨h',hn⟩|⟨g,cap,cur,h',hb,hg,hnc,hcm,hcs,htake⟩
 ·simp at h';exact h'.2.2
 ·subst e;simp at h'
theorem Rf.at9 {W8 W W':World}{M:Int→Int→Int}{u:Xb}{wide k:Nat}{a:Option Addr}{c:Nat}{o:Obj}(h:Rf W8 M u wide k a c W)(g:(W.alloc o).grownBy W' (Value.slice a k c).ownBlock) :
  W'.cell? ⟨W8.heap.size,4,none⟩=some (.slice a k c)∧W'.frozen? ⟨W8.heap.size,4,none⟩=false:=by
 have hne:(Value.slice a k c).ownBlock≠some W8.heap.size:=fun e=>by have:=(h.own.lt _ e).1;omega
 have h1:=h.next ((Below.refl _ W).alloc (Nat.le_refl _) o);have h2:=(g.block _ (zab h1.gk) (fun e=>hne e.symm)).trans h1.gk;exact⟨(cell_of_row W' _ 4 _ _ (0,0) h2).trans rfl,frozen_of_row W' _ 4 _ _ h2⟩
theorem zgu {n:Nat}(h:n≤1000) : -p2 1330≤(n:Int)∧(n:Int)≤p2 1330:=by
 have h1:=zaw (show 10≤1330 by omega);have h2:p2 10=1024:=rfl;omega
theorem zuo (A:Option Addr)(c n:Nat)(q:List Nd)(most:Int)(w:World)(h:Ns w A c q)(hn:q.length=n)(hn9:n≤900000)(hg:zas q)(hm : -9223372036854775808≤most∧most≤9223372036854775807)(h1:most<0) :
  Calls Tryz.prog 32 #[.agg #[.slice A n c],.int .i64 most] w (zkR q n most w):=by
 have hcap:=h.cap;rw[hn] at hcap;have HO:=Hh (Oo.start (n:=n) h);have HL:=Hh hn;have HG:=Hh hg;have t1:decide (most<0)=true:=decide_eq_true h1;have hr:=HO.out.rk;obtain⟨e0,e1,e2,e3,e4⟩:=Gr.cells hr;dsimp only[gr0,bw0,List.length_nil] at e0 e1 e2 e3 e4;have HH:=Hh (show most<0∨1000<most by omega);clear h hn hg hr;go_enter Tryz.func32,Tryz.ntmps32;go_wp2_with fail;refine bodyPost_ret (v:=.tuple #[gr0.val,.int .i64 1]) (by simp[results,Tryz.results32,go_sem,e0,e1,e2,e3,e4,gr0,bw0]) rfl ?_;exact⟨gr0,0,0,1,rfl,zkP _,⟨Nat.zero_le _,Nat.zero_le _⟩,fun _=>rfl,HO.out.b,.inl ⟨HH.out,rfl,rfl,rfl,rfl⟩⟩
theorem zup (A:Option Addr)(c n:Nat)(q:List Nd)(most:Int)(w:World)(h:Ns w A c q)(hn:q.length=n)(hn9:n≤900000)(hg:zas q)(hm : -9223372036854775808≤most∧most≤9223372036854775807)(h1:0≤most)(h2:1000<most) :
  Calls Tryz.prog 32 #[.agg #[.slice A n c],.int .i64 most] w (zkR q n most w):=by
 have hcap:=h.cap;rw[hn] at hcap;have HO:=Hh (Oo.start (n:=n) h);have HL:=Hh hn;have HG:=Hh hg;have t1:decide (most<0)=false:=decide_eq_false (by omega);have t2:decide (most>1000)=true:=decide_eq_true h2;have hr:=HO.out.rk;obtain⟨e0,e1,e2,e3,e4⟩:=Gr.cells hr;dsimp only[gr0,bw0,List.length_nil] at e0 e1 e2 e3 e4;have HH:=Hh (show most<0∨1000<most by omega);clear h hn hg hr;go_enter Tryz.func32,Tryz.ntmps32;go_wp2_with fail;refine bodyPost_ret (v:=.tuple #[gr0.val,.int .i64 1]) (by simp[results,Tryz.results32,go_sem,e0,e1,e2,e3,e4,gr0,bw0]) rfl ?_;exact⟨gr0,0,0,1,rfl,zkP _,⟨Nat.zero_le _,Nat.zero_le _⟩,fun _=>rfl,HO.out.b,.inl ⟨HH.out,rfl,rfl,rfl,rfl⟩⟩
structure Rj (w:World)(A:Option Addr)(n c:Nat)(q:List Nd)(g6:Nat)(u:Xb)(X Y V H:Int)(W8:World)(M:Int→Int→Int)(wide k:Nat)(a:Option Addr)(cc gr i:Nat)(W:World):Prop where
 rb:Rb w A n c q g6 u X Y V H W8
 f:Rf W8 M u wide k a cc W
 by_:W.ownsRow (W8.heap.size+1) 5 1 (.slice (some ⟨gr,0,none⟩) wide wide) wide (zjJ M k wide i)
 ne:∀j,(Value.slice a k cc).ownBlock=some j→j≠gr
section
variable {w:World} {A:Option Addr} {n c:Nat} {q:List Nd} {g6:Nat} {u:Xb} {X Y V H:Int} {W8:World} {M:Int→Int→Int} {wide k:Nat} {a:Option Addr} {cc gr i:Nat} {W W':World}
theorem Rj.nxt (h:Rj w A n c q g6 u X Y V H W8 M wide k a cc gr i W)(b:Below W.heap.size W W'):Rj w A n c q g6 u X Y V H W8 M wide k a cc gr i W' :=
 ⟨h.rb,h.f.next b,h.by_.kept (gbX b) (.inr (by simp[Value.ownBlock])),h.ne⟩
theorem Rj.rbW (h:Rj w A n c q g6 u X Y V H W8 M wide k a cc gr i W):Rb w A n c q g6 u X Y V H W:=h.rb.next h.f.bb
theorem Rj.s (h:Rj w A n c q g6 u X Y V H W8 M wide k a cc gr i W):W.cell? ⟨w.heap.size,0,none⟩=some (.slice A n c)∧W.cell? ⟨g6,0,none⟩=some (.bool u.x.s)∧W.cell? ⟨g6,1,none⟩=some (.slice u.x.a u.x.xs.length u.x.c)∧W.cell? ⟨g6,2,none⟩=some (.bool u.y.s)∧W.cell? ⟨g6,3,none⟩=some (.slice u.y.a u.y.xs.length u.y.c):=h.rbW.cells
theorem Rj.x (h:Rj w A n c q g6 u X Y V H W8 M wide k a cc gr i W):u.x.R W X:=h.rbW.r.x
theorem Rj.y (h:Rj w A n c q g6 u X Y V H W8 M wide k a cc gr i W):u.y.R W Y:=h.rbW.r.y
theorem Rj.ns (h:Rj w A n c q g6 u X Y V H W8 M wide k a cc gr i W):Ns W A c q:=h.rbW.o.ns
theorem Rj.cell (h:Rj w A n c q g6 u X Y V H W8 M wide k a cc gr i W)(hi:i<wide):W.cell? ⟨gr,i,none⟩=some (.int .u8 0):=by
 rw[h.by_.cellAt i (by omega)];unfold zjJ;rw[List.getElem?_map,List.getElem?_range hi];show some (if i<i then _ else _)=_;rw[if_neg (by omega)]
theorem Rj.free (h:Rj w A n c q g6 u X Y V H W8 M wide k a cc gr i W):W.frozen? ⟨gr,i,none⟩=false:=h.by_.frozenAt i
theorem Rj.put (h:Rj w A n c q g6 u X Y V H W8 M wide k a cc gr i W)(hi:i<wide):Rj w A n c q g6 u X Y V H W8 M wide k a cc gr (i+1) (W.setCell ⟨gr,i,none⟩ (.int .u8 (M k i))):=by
 obtain⟨h1,h2⟩:=h.by_.stored i (.int .u8 (M k i));rw[zrH M k hi] at h1;exact⟨h.rb,h.f.set (p:=⟨gr,i,none⟩) (by have:=(h.by_.lt gr rfl).1;show W8.heap.size<gr;omega) h.ne _,h1,h.ne⟩
end
theorem zuq (A:Option Addr)(c n:Nat)(q:List Nd)(most:Int)(w:World)(h:Ns w A c q)(hn:q.length=n)(hn9:n≤900000)(hg:zas q)(hm : -9223372036854775808≤most∧most≤9223372036854775807)(h1:0≤most)(h2:most≤1000) :
  Calls Tryz.prog 32 #[.agg #[.slice A n c],.int .i64 most] w (zkR q n most w):=by
 have hcap:=h.cap;rw[hn] at hcap;obtain⟨iS,hiS⟩:=zbL Tryz.infoS;obtain⟨iY,hiY⟩:=zbL Tryz.infoY;have HiS:=Hh hiS;have HiY:=Hh hiY;have HO:=Hh (Oo.start (n:=n) h);have HL:=Hh hn;have HG:=Hh hg;have t1:decide (most<0)=false:=decide_eq_false (by omega);have t2:decide (most>1000)=false:=decide_eq_false (by omega);have y0:=zaa HO.out.qk;clear h hn hg hiS hiY;go_enter Tryz.func32,Tryz.ntmps32;go_upto_if 26 with(go_at_call 29;go_loud (refine(zfB n c A q most _ HO.out.ns HL.out hn9 HG.out hm).mono ?_;rintro e w2 ⟨X,Y,V,H,ok,rfl,bv,b_⟩;have BV:=Hh bv;obtain⟨R,hR⟩:∃R,R=(decide (V≤most)&&decide (H≤most)):=⟨_,rfl⟩;rw[←hR];have HR:=Hh hR;have HO:=Hh (HO.out.next b_);clear b_ bv hR;obtain⟨z0,z1,z2,z3,z4⟩:=Gr.cells HO.out.rk;obtain⟨f0,f1,f2,f3,f4⟩:=Gr.free HO.out.rk;have y0:=zaa HO.out.qk;dsimp only[gr0,bw0,List.length_nil] at z0 z1 z2 z3 z4))
 cases R with
 | false =>
  have hlim:most<V∨most<H:=by
   have:=HR.out;by_cases a:V≤most
   ·by_cases b:H≤most
    ·rw[decide_eq_true a,decide_eq_true b] at this;cases this
    ·omega
   ·omega
  have HLM:=Hh hlim;clear hlim;go_wp2_with fail;have QV:=zfE HO.out.rk gr0;obtain⟨e0,e1,e2,e3,e4⟩:=Gr.cells QV;dsimp only[gr0,bw0,putG,List.length_nil] at e0 e1 e2 e3 e4;refine bodyPost_ret (v:=.tuple #[gr0.val,.int .i64 4]) (by simp[results,Tryz.results32,go_sem,e0,e1,e2,e3,e4,gr0,bw0]) rfl ?_;exact⟨gr0,0,0,4,rfl,(zkP _),⟨Nat.zero_le _,Nat.zero_le _⟩,fun _=>rfl,zcj HO.out.b (by omega) gr0,.inr ⟨⟨h1,h2⟩,ok,X,Y,V,H,BV.out,.inl ⟨HLM.out,rfl,rfl,rfl,rfl⟩⟩⟩
 | true =>
  have hlim:V≤most∧H≤most:=by
   have:=HR.out.symm;rw[Bool.and_eq_true,decide_eq_true_iff,decide_eq_true_iff] at this;exact this
  have HLM:=Hh hlim;clear hlim;go_upto_if 34 with(go_at_call 54;go_loud (refine(znt n c A q _ HO.out.ns HL.out hn9 HG.out).mono ?_;rintro e w3 ⟨u,X2,Y2,V2,H2,ok2,rfl,ru,su,b_,bv⟩;have hal:=(Below.refl w3.heap.size w3).alloc (Nat.le_refl _) u.obj;have BV2:=Hh (show BxV q n ok2 X2 Y2 V2 H2 from bv);have RU:=Hh (ru.next hal);have SU:=Hh su;have HG6:=Hh (show w.heap.size+1<w3.heap.size from zab (HO.out.next b_).rk);have HO:=Hh ((HO.out.next b_).next hal);have UB:=Hh (heap_alloc_new w3 u.obj);clear b_ bv ru su hal z0 z1 z2 z3 z4 f0 f1 f2 f3 f4 y0;obtain⟨z0,z1,z2,z3,z4⟩:=Gr.cells HO.out.rk;obtain⟨f0,f1,f2,f3,f4⟩:=Gr.free HO.out.rk;have y0:=zaa HO.out.qk;dsimp only[gr0,bw0,List.length_nil] at z0 z1 z2 z3 z4))
  obtain⟨hk1,hk2,hk3,hk4,hk5⟩:=BV.out.one BV2.out;have HE:=Hh (And.intro hk1 (And.intro hk2 (And.intro hk3 (And.intro hk4 hk5))));clear hk1 hk2 hk3 hk4 hk5;cases ok2 with
  | false =>
   have hz:X2=0∧Y2=0∧V2=0∧H2=0:=by
    rcases BV2.out with⟨-,-,h⟩|⟨-,h,-⟩
    ·exact h
    ·cases h
   have HZ:=Hh hz;clear hz;go_wp2_with fail;have QV:=zfE HO.out.rk gr0;obtain⟨e0,e1,e2,e3,e4⟩:=Gr.cells QV;dsimp only[gr0,bw0,putG,List.length_nil] at e0 e1 e2 e3 e4;refine bodyPost_ret (v:=.tuple #[gr0.val,.int .i64 0]) (by simp[results,Tryz.results32,go_sem,e0,e1,e2,e3,e4,gr0,bw0]) rfl ?_;refine⟨gr0,0,0,0,rfl,(zkP _),⟨Nat.zero_le _,Nat.zero_le _⟩,fun _=>rfl,zcj HO.out.b (by omega) gr0,.inr ⟨⟨h1,h2⟩,false,X2,Y2,V2,H2,BV2.out,.inr ⟨by have:=HLM.out;have:=HE.out;omega,rfl,HZ.out.1.symm,HZ.out.2.1.symm,?_⟩⟩⟩;rw[HZ.out.2.2.1,HZ.out.2.2.2];rfl
  | true =>
   have hwd:=(show BxV q q.length true X2 Y2 V2 H2 by rw[HL.out];exact BV2.out).wide HG.out;have hfr:=(show BxV q q.length true X2 Y2 V2 H2 by rw[HL.out];exact BV2.out).lowG HG.out;have hhi:=(show BxV q q.length true X2 Y2 V2 H2 by rw[HL.out];exact BV2.out).hi HG.out;obtain⟨wide,hwide⟩:∃k:Nat,V2=(k:Int):=⟨V2.toNat,by omega⟩;obtain⟨high,hhigh⟩:∃k:Nat,H2=(k:Int):=⟨H2.toNat,by omega⟩;have hmo:(0≤most∧most≤1000)∧V2≤most∧H2≤most:=by have:=HLM.out;have:=HE.out;omega
   have HMO:=Hh hmo;subst hwide;subst hhigh;have HFR:=Hh (And.intro hfr hhi);have hw9:wide≤1000:=by omega
   have hh9:high≤1000:=by omega
   obtain⟨g6,hg6⟩:∃g,g=w3.heap.size:=⟨_,rfl⟩;have RB:=Hh (show Rb w A n c q g6 u X2 Y2 wide high (w3.alloc u.obj) from⟨HO.out,by rw[hg6];exact UB.out,RU.out⟩);obtain⟨W1,hW1⟩:∃W1:World,W1=w3.alloc u.obj:=⟨_,rfl⟩;obtain⟨M,hM⟩:∃M,M=picM (den q n) X2 Y2:=⟨_,rfl⟩;have HMM:=Hh hM;have HPB:=Hh (show ∀r c,0≤M r c∧M r c≤255 from fun r c=>by rw[hM];have:=zjD HG.out.1 X2 Y2 r c;rwa [HL.out] at this);have i1:inI (wide:Int)=true:=by(unfold inI;simp;omega)
   have i2:inI (high:Int)=true:=by(unfold inI;simp;omega)
   have o1:outI (wide:Int)=(wide:Int):=by(unfold outI;rw[i1];rfl)
   have o2:outI (high:Int)=(high:Int):=by(unfold outI;rw[i2];rfl)
   have q0:True:=trivial;have HG6:=Hh (show w.heap.size+1<g6 by rw[hg6];exact HG6.out);obtain⟨z0,z1,z2,z3,z4,z5,z6,z7⟩:=Xb.cells RB.out.ub;clear f0 f1 f2 f3 f4;rw[←hW1] at RB z0 z1 z2 z3 z4 z5 z6 z7 ⊢;rw[←hg6];clear hwd hfr hhi hmo hM HO UB RU hW1 hg6 y0;go_upto_region 10 with(first
    | (have _t:=q0;go_at_call 59;clear _t;go_loud (refine(zlb u.w.s u.w.a u.w.c u.w.xs _ RB.out.r.w.us).mono ?_;rintro e w4 ⟨rfl,b_⟩;rw[RB.out.r.w.v,o1,i1];have RB:=Hh (RB.out.next b_);clear b_ z0 z1 z2 z3 z4 z5 z6 z7;obtain⟨z0,z1,z2,z3,z4,z5,z6,z7⟩:=Xb.cells RB.out.ub;have q1:=q0;clear q0))
    | (have _t:=q1;go_at_call 59;clear _t;go_loud (refine(zlb u.h.s u.h.a u.h.c u.h.xs _ RB.out.r.h.us).mono ?_;rintro e w5 ⟨rfl,b_⟩;rw[RB.out.r.h.v,o2,i2];have RB:=Hh (RB.out.next b_);clear b_ z0 z1 z2 z3 z4 z5 z6 z7;obtain⟨z0,z1,z2,z3,z4,z5,z6,z7⟩:=Xb.cells RB.out.ub;have q2:=q1;clear q1)))
   have RFO:=Hh (show Rf w5 M u wide 0 none 0 (w5.alloc (.cells #[.bool u.x.s,.slice u.x.a u.x.xs.length u.x.c,.bool u.y.s,.slice u.y.a u.y.xs.length u.y.c,.slice none 0 0] 71)) from⟨(Below.refl _ _).alloc (Nat.le_refl _) _,heap_alloc_new w5 _,World.ownsRow_nil _ _ _ 1⟩);go_wp2_with fail;go_loopw [13] (fun z1 wr=>∃(k:Nat) (a:Option Addr) (cc:Nat),z1=.int .i64 k∧k≤high∧Rf w5 M u wide k a cc wr) (fun z1 _=>high-(intOf z1).toNat)
   case atStart=>exact⟨0,none,0,rfl,Nat.zero_le _,RFO.out⟩
   case round =>
    obtain⟨k,a,cc,rfl,hk,hf⟩:=hrel;have RF:=Hh hf;have kw:IntKind.i64.wrap ((k:Int)+1)=(k:Int)+1:=IntWalk.i64_in _ (by omega);clear z0 z1 z2 z3 z4 z5 z6 z7 RFO;by_cases hlt:k<high
    ·have HLT:=Hh hlt;have j3:decide ((k:Int)<(high:Int))=true:=decide_eq_true (by omega);have HLO:=Hh (show w5.heap.size+1≤wr.heap.size from zab hf.gk);clear hf hlt;go_wp2_with (at_make;refine wpList_make_full _ rfl _ _ 101 rfl (w5.heap.size+1) 5 iY _ 1 Tryz.underlying101 HiY.out.1 HiY.out.2.1 HiY.out.2.2.1 .i64 .i64 _ _ wide rfl rfl (by omega) (by omega) (by rw[HiY.out.2.2.2];omega) (by unfold maxLen;omega) HLO.out ?_;intro wa owa grwa;rw[zdn rfl] at owa;have hba:=zer grwa;have PJ:=Hh (show Rj w A n c q g6 u X2 Y2 wide high w5 M wide k a cc wr.heap.size 0 wa from⟨RB.out,RF.out.next hba,by rw[zoR];exact owa,fun j hj=>by have:=(RF.out.own.lt _ hj).2;omega⟩);clear owa grwa hba);obtain⟨gr,hgr⟩:∃g,g=wr.heap.size:=⟨_,rfl⟩;have PJ:=PJ.out;rw[←hgr] at PJ ⊢;have PK:=Hh PJ;clear hgr PJ RF HLO;go_loopw [15] (fun z1 wr=>∃(i:Nat),z1=.int .i64 i∧i≤wide∧Rj w A n c q g6 u X2 Y2 wide high w5 M wide k a cc gr i wr) (fun z1 _=>wide-(intOf z1).toNat)
     case atStart=>exact⟨0,rfl,Nat.zero_le _,PK.out⟩
     case round =>
      obtain⟨i,rfl,hi,hj⟩:=hrel;have PI:=Hh hj;have iw:IntKind.i64.wrap ((i:Int)+1)=(i:Int)+1:=IntWalk.i64_in _ (by omega);clear PK hj;by_cases hlt:i<wide
      ·have HI:=Hh hlt;have j4:decide ((i:Int)<(wide:Int))=true:=decide_eq_true (by omega);have i0:(0:Int)≤(i:Int):=by omega
       have x1:(i:Int)<(wide:Int):=by omega
       have HNX:=Hh (show(-p2 1330≤X2+(i:Int)∧X2+(i:Int)≤p2 1330)∧(-p2 1330≤Y2+(k:Int)∧Y2+(k:Int)≤p2 1330) by
        have h1:=HFR.out;have h2:=HLT.out;omega)
       have HGQ:=Hh (show getQ q (X2+i) (Y2+k)=M k i by rw[HMM.out,←HL.out];rfl);clear hlt;obtain⟨W0,hW0⟩:∃W0:World,W0=wr.drew:=⟨_,rfl⟩;have P0:=Hh (PI.out.nxt (Below.drew' (Below.refl _ _)));rw[←hW0] at P0;clear PI hi;go_wp2_with fail;refine wp_region_noPanic ?_;refine wp_region_held (S:=fun w'=>w'.cell? ⟨w.heap.size,0,none⟩=some (.slice A n c)∧w'.cell? ⟨g6,0,none⟩=some (.bool u.x.s)∧w'.cell? ⟨g6,1,none⟩=some (.slice u.x.a u.x.xs.length u.x.c)∧w'.cell? ⟨g6,2,none⟩=some (.bool u.y.s)∧w'.cell? ⟨g6,3,none⟩=some (.slice u.y.a u.y.xs.length u.y.c)) (by kernel_rfl) ?_;change wpAnyH _ _ _ _ _ _ _ _ wr.drew;rw[←hW0];clear hW0;have hS0:=P0.out.s;refine Tk1 (v:=?_) 0 hS0 ?_ ?_;rotate_left
       ·rintro w' ⟨_,_,_,_,_⟩;go_simp;first|done|with_reducible rfl|rfl
       simp only[Act.put,LA];refine Tk1 (v:=?_) 1 hS0 ?_ ?_;rotate_left
       ·rintro w' ⟨_,_,_,_,_⟩;go_simp;first|done|with_reducible rfl|rfl
       simp only[Act.put,LA];refine Tk1 (v:=?_) 2 hS0 ?_ ?_;rotate_left
       ·rintro w' ⟨_,_,_,_,_⟩;go_simp;first|done|with_reducible rfl|rfl
       simp only[Act.put,LA];refine Tk1 (v:=?_) 3 hS0 ?_ ?_;rotate_left
       ·rintro w' ⟨_,_,_,_,_⟩;go_simp;first|done|with_reducible rfl|rfl
       simp only[Act.put,LA];refine Tk1 (v:=?_) 4 hS0 ?_ ?_;rotate_left
       ·rintro w' ⟨_,_,_,_,_⟩;go_simp;first|done|with_reducible rfl|rfl
       simp only[Act.put,LA];refine Tk1 (v:=?_) 5 hS0 ?_ ?_;rotate_left
       ·rintro w' ⟨_,_,_,_,_⟩;go_simp;first|done|with_reducible rfl|rfl
       simp only[Act.put,LA];refine Tk1 (v:=?_) 8 hS0 ?_ ?_;rotate_left
       ·rintro w' ⟨_,_,_,_,_⟩;go_simp;first|done|with_reducible rfl|rfl
       simp only[Act.put,LA];refine Tk1 (v:=?_) 9 hS0 ?_ ?_;rotate_left
       ·rintro w' ⟨_,_,_,_,_⟩;go_simp;first|done|with_reducible rfl|rfl
       simp only[Act.put,LA];refine Tk1 (v:=?_) 10 hS0 ?_ ?_;rotate_left
       ·rintro w' ⟨_,_,_,_,_⟩;go_simp;first|done|with_reducible rfl|rfl
       simp only[Act.put,LA];refine Rd1 6 fun K hK=>?_;go_simp;refine(zdV (i:Int) _ (by omega) (by omega)).mono ?_;rintro e v1 h_;obtain⟨a1,rfl,ra,b_⟩:=zaj h_;have RA:=Hh ra;clear ra h_;dsimp only;have P1:=Hh (P0.out.nxt b_);have hS1:=P1.out.s;refine hK.out _ _ hS1 (fun _=>?_);clear hK K b_;refine Rd1 7 fun K hK=>?_;go_simp;refine(zaG u.x.s a1.s u.x.a a1.a u.x.c a1.c u.x.xs a1.xs _ P1.out.x.us RA.out.us (by have:=SU.out.x;omega) (by have:=zaX RA.out (zgu (by omega)).1 (zgu (by omega)).2;omega)).mono ?_;rintro e v2 h_;obtain⟨x9,rfl,rx,b_⟩:=zaj h_;rw[P1.out.x.v,RA.out.v] at rx;have RX:=Hh rx;clear rx h_;dsimp only;have P2:=Hh (P1.out.nxt b_);have hS2:=P2.out.s;refine hK.out _ _ hS2 (fun _=>?_);clear hK K b_;refine Rd1 11 fun K hK=>?_;go_simp;refine(zdV (k:Int) _ (by omega) (by omega)).mono ?_;rintro e v3 h_;obtain⟨a3,rfl,rb,b_⟩:=zaj h_;have RB:=Hh rb;have RX:=Hh (RX.out.next b_);clear rb h_;dsimp only;have P3:=Hh (P2.out.nxt b_);have hS3:=P3.out.s;refine hK.out _ _ hS3 (fun _=>?_);clear hK K b_;refine Rd1 12 fun K hK=>?_;go_simp;refine(zaG u.y.s a3.s u.y.a a3.a u.y.c a3.c u.y.xs a3.xs _ P3.out.y.us RB.out.us (by have:=SU.out.y;omega) (by have:=zaX RB.out (zgu (by omega)).1 (zgu (by omega)).2;omega)).mono ?_;rintro e v4 h_;obtain⟨y9,rfl,ry,b_⟩:=zaj h_;rw[P3.out.y.v,RB.out.v] at ry;have RY:=Hh ry;have RX:=Hh (RX.out.next b_);clear ry h_;dsimp only;have P4:=Hh (P3.out.nxt b_);have hS4:=P4.out.s;refine hK.out _ _ hS4 (fun _=>?_);clear hK K b_;refine Rd1 13 fun K hK=>?_;go_simp;refine(zwj A c n q x9 y9 (X2+i) (Y2+k) _ P4.out.ns HL.out hn9 HG.out.1 RX.out RY.out (by have:=zaX RX.out HNX.out.1.1 HNX.out.1.2;omega) (by have:=zaX RY.out HNX.out.2.1 HNX.out.2.2;omega)).mono ?_;rintro e v5 ⟨rfl,b_⟩;rw[HGQ.out];dsimp only;have P5:=Hh (P4.out.nxt b_);have hS5:=P5.out.s;refine hK.out _ _ hS5 (fun _=>?_);clear hK K b_;refine Tk1 (v:=?_) 14 hS5 ?_ ?_;rotate_left
       ·rintro w' ⟨_,_,_,_,_⟩;go_simp;first|done|with_reducible rfl|rfl
       simp only[Act.put,LA];have s0:=P5.out.cell HI.out;have s1:=P5.out.free;refine Rd1 15 fun K hK=>?_;go_simp;have P6:=Hh (P5.out.put HI.out);have hS6:=P6.out.s;refine hK.out _ _ hS6 (fun _=>?_);clear hK K;refine wpAnyH_done (by kernel_rfl) ?_ _;refine NoPanic.normal ?_;go_wp2_with fail;go_roundw
       case rel=>exact⟨i+1,by go_num,HI.out,P6.out⟩
       case measure=>have:=HI.out;simp[intOf];omega
      ·have e:i=wide:=by omega
       subst e;have j4:decide ((i:Int)<(i:Int))=false:=decide_eq_false (by omega);have hby:=PI.out.by_;rw[zrG] at hby;have hcv:=zrI hby HPB.out;obtain⟨g0,g1,g2,g3,g4⟩:=PI.out.f.cells;have hfz:=frozen_of_row wr w5.heap.size 4 _ _ PI.out.f.gk;have HLO:=Hh (show w5.heap.size+1≤wr.heap.size from zab PI.out.f.gk);clear hby hlt hi;go_wp2_with (at_builtin;refine wpList_append_own_at _ rfl _ _ 56 rfl (w5.heap.size+1) 9 iS (.string ⟨#[]⟩) 1 16 Tryz.underlying56 HiS.out.1 HiS.out.2.1 HiS.out.2.2.1 HiS.out.2.2.2 rfl (by decide) _ _ _ rfl (PI.out.f.own.alloc _) ⟨_,0,none⟩ 1 1 [strV (strM M k i)] rfl rfl (cell_one_new _ _ _) (by simp[strV,Value.oneCell']) (by simp only[maxLen];omega) (by omega) (by rw[World.size_alloc];exact Nat.le_succ_of_le HLO.out) ?_;intro v2 w9 ho9 hg9 hn9' hk9;obtain⟨a9,c9,rfl⟩:=zoT ho9;obtain⟨g4,hfz⟩:=PI.out.f.at9 hg9;have HR9:=Hh ((PI.out.f.next ((Below.refl _ _).alloc (Nat.le_refl _) _)).more (by rw[zoS,List.map_append];exact ho9) hg9);clear ho9 hg9 hn9' hk9);go_roundw
       case rel=>exact⟨k+1,_,_,by go_num,by have:=HLT.out;omega,HR9.out⟩
       case measure=>have:=HLT.out;simp[intOf];omega
    ·have e:k=high:=by omega
     subst e;have HE9:=Hh hf;have j3:decide ((k:Int)<(k:Int))=false:=decide_eq_false (by omega);obtain⟨g0,g1,g2,g3,g4⟩:=hf.cells;have RBW:=Hh (RB.out.next hf.bb);obtain⟨z0,z1,z2,z3,z4⟩:=Gr.cells RBW.out.o.rk;obtain⟨f0,f1,f2,f3,f4⟩:=Gr.free RBW.out.o.rk;dsimp only[gr0,bw0,List.length_nil] at z0 z1 z2 z3 z4;clear hf hlt;go_wp2_with fail;obtain⟨v,hv⟩:∃v:Gr,v=⟨u.x,u.y,a,cc,zbv M wide k⟩:=⟨_,rfl⟩;have hrl:(zbv M wide k).length=k:=zcW _ _ _;have QV:=zfE RBW.out.o.rk v;obtain⟨e0,e1,e2,e3,e4⟩:=Gr.cells QV;have RV:=Gr.R.putG (v:=v) (u:=v) (W:=wr) (X:=X2) (Y:=Y2) (by rw[hv];exact⟨RBW.out.r.x,RBW.out.r.y,⟨fun r hr=>(by obtain⟨i,hi,rfl⟩:=List.mem_map.1 hr;rw[zbP];unfold maxLen;omega),Rd.own HE9.out.own⟩⟩) RBW.out.o.rk;have hbv:=zcj RBW.out.o.b (show w.heap.size≤w.heap.size+1 by omega) v;rw[hv] at e0 e1 e2 e3 e4;dsimp only[putG] at e0 e1 e2 e3 e4;rw[hrl] at e0 e1 e2 e3 e4;refine bodyPost_ret (v:=.tuple #[v.val,.int .i64 0]) (by simp[results,Tryz.results32,go_sem,e0,e1,e2,e3,e4,hv,hrl]) rfl ?_;have hL:v.L=zbv M wide k:=by rw[hv]
     have hsh:=SU.out;refine⟨v,X2,Y2,0,rfl,?_,?_,?_,?_,.inr ⟨HMO.out.1,true,X2,Y2,wide,k,BV2.out,.inr ⟨HMO.out.2,rfl,rfl,rfl,?_⟩⟩⟩
     ·rw[hv] at RV ⊢;dsimp only[putG] at RV;rw[hrl] at RV;exact RV
     ·rw[hv];exact⟨hsh.x,hsh.y⟩
     ·rw[hv];exact zun HE9.out.own
     ·rw[hv] at hbv;dsimp only[putG] at hbv;rw[hrl] at hbv;exact hbv
     ·rw[hL,HMM.out,Int.toNat_natCast,Int.toNat_natCast]
theorem zur (A:Option Addr)(c n:Nat)(q:List Nd)(most:Int)(w:World)(h:Ns w A c q)(hn:q.length=n)(hn9:n≤900000)(hg:zas q)(hm : -9223372036854775808≤most∧most≤9223372036854775807) :
  Calls Tryz.prog 32 #[.agg #[.slice A n c],.int .i64 most] w (zkR q n most w):=by
 by_cases h1:most<0
 ·exact zuo A c n q most w h hn hn9 hg hm h1
 ·by_cases h2:1000<most
  ·exact zup A c n q most w h hn hn9 hg hm (by omega) h2
  ·exact zuq A c n q most w h hn hn9 hg hm (by omega) (by omega)
end Go.Proofs.YtbabbmdpgpcgjaaGreatDoor

namespace Go.Proofs.YtbabbmdpgpcgjaaGreatDoor
open Nds
def zbh (M:Int):Tr→Prop
 | .e=>True
 | .s k=>k≤M
 | .n _ a b c d=>zbh M a∧zbh M b∧zbh M c∧zbh M d
theorem zbh.mono {M N:Int}(h:M≤N){t:Tr}:zbh M t→zbh N t:=by
 induction t with
 | e=>exact id
 | s k=>exact fun k=>Int.le_trans k h
 | n v a b c d iha ihb ihc ihd=>exact fun k=>⟨iha k.1,ihb k.2.1,ihc k.2.2.1,ihd k.2.2.2⟩
theorem zbh.cell {M:Int}(h0:0≤M){t:Tr}:zbh M t→∀x y,zae t x y≤M:=by
 induction t with
 | e=>exact fun _ x y=>h0
 | s k =>
  intro h x y;show(if x=0∧y=0 then k else 0)≤M;split
  ·exact h
  ·exact h0
 | n v a b c d iha ihb ihc ihd =>
  intro h x y;unfold zae;split <;> split
  ·exact iha h.1 _ _
  ·exact ihc h.2.2.1 _ _
  ·exact ihb h.2.1 _ _
  ·exact ihd h.2.2.2 _ _
theorem zbh.mk_ {M v:Int}{a b c d:Tr}(ha:zbh M a)(hb:zbh M b)(hc:zbh M c)(hd:zbh M d):zbh M (mk v a b c d):=by
 unfold mk;split
 ·trivial
 ·exact⟨ha,hb,hc,hd⟩
theorem zrJ (l:List Nd)(x:Nd):zbT l≤zbT (l++[x]):=by
 rw[zhh];split <;> omega
theorem zlc (l:List Nd):0≤zbT l:=by
 suffices h:∀k,k≤l.length→0≤zbT (l.take k) by
  have:=h l.length (Nat.le_refl _)
  rwa [List.take_length] at this
 intro k
 induction k with
 | zero=>exact fun _=>Int.le_refl _
 | succ k ih =>
  intro hk;rw[zhi (by omega)];have:=ih (by omega);split <;> omega
theorem znK {M:Int}{ts:List Tr}(h:∀t∈ts,zbh M t){v c:Int}(hc:v=1→c≤M):zbh M (kidT ts v c):=by
 have hg:∀n,zbh M (ts.getD n .e):=fun n=>by
  rw[List.getD_eq_getElem?_getD];cases hx:ts[n]? with
  | none=>trivial
  | some t=>exact h t (List.mem_of_getElem? hx)
 unfold kidT;split
 ·rename_i h1;unfold st;split
  ·trivial
  ·exact hc h1
 ·exact hg _
theorem zwR (l:List Nd):∀t∈dens l,zbh (zbT l) t:=by
 suffices h:∀k,k≤l.length→∀t∈dens (l.take k),zbh (zbT (l.take k)) t by
  have:=h l.length (Nat.le_refl _)
  rwa [List.take_length] at this
 intro k
 induction k with
 | zero =>
  intro _ t ht;have e:t=.e:=by simpa [dens] using ht
  rw[e];trivial
 | succ k ih =>
  intro hk t ht;have hx:l[k]?=some (l[k]'(by omega)):=List.getElem?_eq_getElem (by omega);have hx2:at_ l k=l[k]'(by omega):=by
   unfold at_;rw[hx]
   rfl
  have htk:l.take (k+1)=l.take k++[at_ l k]:=by
   rw[List.take_add_one,hx,hx2];rfl
  have hi:=ih (by omega);have hmo:=zrJ (l.take k) (at_ l k);have hi2:∀t∈dens (l.take k),zbh (zbT (l.take k++[at_ l k])) t:=fun t ht=>(hi t ht).mono hmo;rw[htk,zdA] at ht;rw[htk];rcases List.mem_append.1 ht with h1|h1
  ·exact hi2 t h1
  ·rw[List.mem_singleton.1 h1];have hm:(at_ l k).lv=1→maxN (at_ l k)≤zbT (l.take k++[at_ l k]):=fun e=>by
    rw[zhh,if_pos e];omega
   unfold maxN at hm;exact zbh.mk_ (znK hi2 fun e=>by have:=hm e;omega) (znK hi2 fun e=>by have:=hm e;omega) (znK hi2 fun e=>by have:=hm e;omega) (znK hi2 fun e=>by have:=hm e;omega)
theorem zrK (q:List Nd)(X Y:Int):getQ q X Y≤zbT q:=by
 unfold getQ zax;refine zbh.cell (zlc q) ?_ _ _;unfold den;rw[List.getD_eq_getElem?_getD];cases hx:(dens q)[q.length]? with
 | none=>trivial
 | some t=>exact zwR q t (List.mem_of_getElem? hx)
end Go.Proofs.YtbabbmdpgpcgjaaGreatDoor
