import Derived.Test.YtbabbmdpgpcgjaaGreatDoorHPlW
import Derived.Test.YtbabbmdpgpcgjaaGreatDoorLaidP
import Derived.Laws.NewBlocks
import Derived.WalkMore
import Derived.Lib.IndexAny

set_option linter.unusedVariables false
set_option linter.unusedSimpArgs false
set_option maxRecDepth 100000
set_option maxHeartbeats 6400000
namespace Go.Proofs.YtbabbmdpgpcgjaaGreatDoor
open Go.RowKit Txt
def remI (l:List UInt8):Int:=if zah zaL l<l.length then (zah zaL l:Nat) else -1
theorem zmu (c:UInt8):([13,10]:List UInt8).contains c = !zaL c:=by
 unfold zaL;rw[Bool.not_not];by_cases h1:c=13
 ·subst h1;rfl
 ·by_cases h2:c=10
  ·subst h2;rfl
  ·have h3:(c==10)=false:=beq_eq_false_iff_ne.2 h2;have h4:(c==13)=false:=beq_eq_false_iff_ne.2 h1;rw[h3,h4];simp[h1,h2]
theorem ziL (l:List UInt8){n:Nat}(h:n≤zah zaL l):Lib.NoAny l [13,10] n:=fun j b hj hb=>by
 obtain⟨c,hc,hp⟩:=zfj (p:=zaL) (l:=l) (j:=j) (by omega);rw[hb] at hc;rw[zmu,Option.some.inj hc,hp];rfl
theorem zlf {p:UInt8→Bool}{l:List UInt8}(h:zah p l<l.length):∃c,l[zah p l]?=some c∧p c=false:=by
 induction l with
 | nil=>exact absurd h (Nat.not_lt_zero _)
 | cons x l ih =>
  unfold zah at h ih ⊢;rw[List.takeWhile_cons] at h ⊢;cases hp:p x with
  | true =>
   rw[if_pos hp] at h;rw[if_pos rfl];rw[List.length_cons,List.length_cons] at h;obtain⟨c,hc,h2⟩:=ih (by omega);exact⟨c,by rw[List.length_cons,List.getElem?_cons_succ];exact hc,h2⟩
  | false =>
   rw[if_neg (by simp)];exact⟨x,rfl,hp⟩
theorem zfF (p:UInt8→Bool)(l:List UInt8):zah p l≤l.length:=(List.takeWhile_prefix p).length_le
theorem zwX (l:List UInt8):Lib.indexAny l [13,10]=remI l:=by
 unfold remI;by_cases h:zah zaL l<l.length
 ·rw[if_pos h];obtain⟨c,hc,hp⟩:=zlf h;exact Lib.indexAny_hit (ziL l (Nat.le_refl _)) hc (by rw[zmu,hp];rfl)
 ·rw[if_neg h];have:=zfF zaL l;exact Lib.indexAny_none (ziL l (by omega))
theorem zux {s:ByteArray}{i:Nat}(h:i<s.size)(ha:128≤(s[i]'h).toNat) :
  i+(Utf8.decode s i).2≤s.size∧(∀j,i≤j→j<i+(Utf8.decode s i).2→∃c,s.data.toList[j]?=some c∧zaL c=true)∧((Utf8.decode s i).1=65533∨Utf8.valid (Utf8.decode s i).1=true):=by
 have hg:∀k,i+k<s.size→s.data.toList[i+k]?=some (s.get! (i+k)):=fun k hk=>by
  rw[zbQ hk];simp[ByteArray.get!,getElem!_pos,hk];rfl
 have hr:∀k,i+k<s.size→128≤(s.get! (i+k)).toNat→∃c,s.data.toList[i+k]?=some c∧zaL c=true:=fun k hk h1=>by
  refine⟨_,hg k hk,?_⟩;unfold zaL;have h2:(s.get! (i+k)==10)=false:=beq_eq_false_iff_ne.2 fun e=>by rw[e] at h1;exact absurd h1 (by decide)
  have h3:(s.get! (i+k)==13)=false:=beq_eq_false_iff_ne.2 fun e=>by rw[e] at h1;exact absurd h1 (by decide)
  rw[h2,h3];rfl
 have h0:∃c,s.data.toList[i]?=some c∧zaL c=true:=hr 0 h (by rw[get_at s i h];exact ha);have hn:¬ (s.get! (i+0)).toNat<128:=by rw[get_at s i h];omega
 have one:i+1≤s.size∧(∀j,i≤j→j<i+1→∃c,s.data.toList[j]?=some c∧zaL c=true):=⟨h,fun j h1 h2=>by
  obtain rfl:j=i:=by omega
  exact h0⟩
 have ct:∀k,(decide (i+k<s.size)&&(s.get! (i+k)).toNat / 64==2)=true→i+k<s.size∧∃c,s.data.toList[i+k]?=some c∧zaL c=true:=fun k hk=>by
  rw[Bool.and_eq_true,decide_eq_true_iff] at hk;have h2:(s.get! (i+k)).toNat / 64=2:=by simpa using hk.2
  exact⟨hk.1,hr k hk.1 (by omega)⟩
 unfold Utf8.decode;dsimp only;rw[if_neg hn];split
 ·rename_i h1;rw[Bool.and_eq_true] at h1;have c1:=ct 1 h1.2;split
  ·refine⟨by show i+2≤s.size;omega,fun j h2 h3=>?_,.inr ?_⟩
   ·rcases(show j=i∨j=i+1 by have h3:j<i+2:=h3;omega) with rfl|rfl
    ·exact h0
    ·exact c1.2
   ·show Utf8.valid ((((s.get! (i+0)).toNat%32*64+(s.get! (i+1)).toNat%64:Nat)):Int)=true;unfold Utf8.valid;simp;omega
  ·exact⟨one.1,one.2,.inl rfl⟩
 ·split
  ·rename_i h1;rw[Bool.and_eq_true,Bool.and_eq_true] at h1;have c1:=ct 1 h1.1.2;have c2:=ct 2 h1.2;split
   ·rename_i hv;rw[Bool.and_eq_true] at hv;refine⟨by show i+3≤s.size;omega,fun j h2 h3=>?_,.inr hv.2⟩;rcases(show j=i∨j=i+1∨j=i+2 by have h3:j<i+3:=h3;omega) with rfl|rfl|rfl
    ·exact h0
    ·exact c1.2
    ·exact c2.2
   ·exact⟨one.1,one.2,.inl rfl⟩
  ·split
   ·rename_i h1;rw[Bool.and_eq_true,Bool.and_eq_true,Bool.and_eq_true] at h1;have c1:=ct 1 h1.1.1.2;have c2:=ct 2 h1.1.2;have c3:=ct 3 h1.2;split
    ·rename_i hv;rw[Bool.and_eq_true] at hv;refine⟨by show i+4≤s.size;omega,fun j h2 h3=>?_,.inr hv.2⟩;rcases(show j=i∨j=i+1∨j=i+2∨j=i+3 by have h3:j<i+4:=h3;omega) with rfl|rfl|rfl|rfl
     ·exact h0
     ·exact c1.2
     ·exact c2.2
     ·exact c3.2
    ·exact⟨one.1,one.2,.inl rfl⟩
   ·exact⟨one.1,one.2,.inl rfl⟩
theorem ziM (c:Int)(w:World)(h0:0≤c)(hv:Utf8.valid c=true) :
  Calls Tryz.prog 160 #[.int .i32 c] w fun e w'=>e=.returned (.bool true)∧w'=w:=by
 unfold Utf8.valid at hv;simp at hv;rcases hv with hv|hv
 ·have d1:decide (c<55296)=true:=decide_eq_true (by omega);clear hv;go_enter Tryz.func160,Tryz.ntmps160;go_wp2;go_ret;exact⟨rfl,rfl⟩
 ·have d1:decide (c<55296)=false:=decide_eq_false (by omega);have d2:decide (57343<c)=true:=decide_eq_true (by omega);have d3:decide (c≤1114111)=true:=decide_eq_true (by omega);clear hv;go_enter Tryz.func160,Tryz.ntmps160;go_wp2;go_ret;exact⟨rfl,rfl⟩
theorem zlg (c:Int)(w:World)(h0:0≤c)(h1:c<128) :
  Calls Tryz.prog 123 #[.string ⟨#[13,10]⟩,.int .i32 c] w fun e w'=>e=.returned (.int .i64 (Lib.indexByte [13,10] c.toNat.toUInt8))∧Below w.heap.size w w':=by
 go_enter Tryz.func123,Tryz.ntmps123;go_wp2_with (go_at_call 127;go_loud (refine(zrP _ _ _).mono ?_;rintro e w' ⟨rfl,rfl⟩));go_ret;exact⟨rfl,Below.refl _ _⟩
theorem zoX (c:Int)(w:World)(h0:128≤c)(hn:c≠65533)(hv:Utf8.valid c=true) :
  Calls Tryz.prog 123 #[.string ⟨#[13,10]⟩,.int .i32 c] w fun e w'=>e=.returned (.int .i64 (-1))∧Below w.heap.size w w':=by
 have hvl:=hv;unfold Utf8.valid at hvl;simp at hvl;have d0:decide (c<128)=false:=decide_eq_false (by omega);have d00:decide (0≤c)=true:=decide_eq_true (by omega);have d1:(c==65533)=false:=beq_eq_false_iff_ne.2 hn;obtain⟨r,hr⟩:∃r,r=Utf8.encode c:=⟨_,rfl⟩;have HV:=Hh hv;have h0':=Hh h0;have hsz:r.size=2∨r.size=3∨r.size=4:=by
  rw[hr];unfold Utf8.encode;rw[hv];simp only[if_true];rw[if_neg (by omega)];split
  ·exact .inl rfl
  ·split
   ·exact .inr (.inl rfl)
   ·exact .inr (.inr rfl)
 rcases hsz with hz|hz
 ·have hb:∃b0 b1:UInt8,r=⟨#[b0,b1]⟩∧128≤b1.toNat:=by
   rw[hr] at hz ⊢;unfold Utf8.encode at hz ⊢;rw[hv] at hz ⊢;simp only[if_true] at hz ⊢;rw[if_neg (by omega)] at hz ⊢;split at hz
   ·rename_i h9;rw[if_pos h9];refine⟨_,_,rfl,?_⟩;rw[UInt8.toNat_ofNat'];omega
   ·split at hz <;> exact absurd hz (by simp[ByteArray.size])
  obtain⟨b0,b1,hb,hb1⟩:=hb;have hl:1<r.size:=by omega
  have u0:128≤(r[1]'hl).toNat:=by
   subst hb;exact hb1
  have u1:((10:Int)!=((r[1]'hl).toNat:Int))=true:=by rw[bne_iff_ne];omega
  have z1:IntKind.i64.wrap ((r.size:Int)-1)=1:=by rw[hz];rfl
  have z2:wrap64 ((r.size:Int)-1)=1:=by rw[hz];unfold wrap64;rfl
  have z3:(1:Int)<(r.size:Int):=by omega
  subst hr;have u2:((((⟨#[13,10]⟩:ByteArray)[1]'(by decide)).toNat:Int)!=(((Utf8.encode c)[1]'hl).toNat:Int))=true:=u1;have k1:IntKind.i64.wrap 2=2:=rfl;have k2:(0:Int)≤2:=by decide
  have k3:(2:Int)≤2:=by decide
  have k4:(2:Int)≤((⟨#[13,10]⟩:ByteArray).size:Int):=by decide
  have HX:=Hh (show ∀W,Calls Tryz.prog 127 #[.string ByteArray.empty,.int .u8 (((Utf8.encode c)[1]'hl).toNat:Int)] W fun e w'=>e=.returned (.int .i64 (-1))∧w'=W from fun W=>zrP _ _ _);clear hv hvl h0 hn hz hb hb1 u0;go_enter Tryz.func123,Tryz.ntmps123;go_wp2_with (first
   | (go_at_call 160;go_loud (refine(ziM c _ (by have:=h0'.out;omega) HV.out).mono ?_;rintro e w' ⟨rfl,rfl⟩)))
  go_step3;go_wp2;go_loopw [9] (fun z wr=>z=.int .i64 1∧∃m,wr=w'.drewN m) (fun _ _=>0)
  case atStart=>exact⟨rfl,0,rfl⟩
  case round =>
   obtain⟨rfl,m,rfl⟩:=hrel;go_wp2;go_step3;go_wp2;go_quiet (fail);go_wp2;go_quiet (first|(go_at_call 127;exact(HX.out _).mono fun e w'' ⟨h1,h2⟩=>⟨h1,_,h2⟩));go_wp2;show bodyPost Tryz.prog Tryz.f123 (fun e w''=>e=.returned (.int .i64 (-1))∧Below w'.heap.size w' w'') Exit.ret _ _;go_ret;exact⟨rfl,rfl,rfl,rfl,Nat.le_refl _,fun _ _=>rfl⟩
 ·obtain⟨k,hk,hk2⟩:∃k:Int,2≤k∧(r.size:Int)-1=k:=⟨(r.size:Int)-1,by omega,rfl⟩;have z1:IntKind.i64.wrap ((r.size:Int)-1)=k:=by rw[hk2];exact IntWalk.i64_in _ (by omega)
  have z2:wrap64 ((r.size:Int)-1)=k:=by rw[hk2];unfold wrap64;omega
  have z3:decide (k<2)=false:=decide_eq_false (by omega);subst hr;clear hv hvl h0 hn hz hk hk2;go_enter Tryz.func123,Tryz.ntmps123;go_wp2_with (first
   | (go_at_call 160;go_loud (refine(ziM c _ (by have:=h0'.out;omega) HV.out).mono ?_;rintro e w' ⟨rfl,rfl⟩)))
  go_step3;go_wp2;go_loopw [9] (fun z wr=>z=.int .i64 k∧wr=w') (fun _ _=>0)
  case atStart=>exact⟨rfl,rfl⟩
  case round =>
   obtain⟨rfl,rfl⟩:=hrel;go_wp2;show bodyPost Tryz.prog Tryz.f123 (fun e w''=>e=.returned (.int .i64 (-1))∧Below wr.heap.size wr w'') Exit.ret _ _;go_ret;exact⟨rfl,Below.refl _ _⟩
theorem zrR (w:World) :
  Calls Tryz.prog 123 #[.string ⟨#[13,10]⟩,.int .i32 65533] w fun e w'=>e=.returned (.int .i64 (-1))∧Below w.heap.size w w':=by
 go_enter Tryz.func123,Tryz.ntmps123;go_wp2;go_loopw [181] (fun z wr=>∃(v:Value) (i:Nat),z=v∧i≤2∧wr=w.iter ⟨#[13,10]⟩ i) (fun _ wr=>2-wr.iterPos w.heap.size)
 case atStart=>exact⟨_,0,rfl,by omega,rfl⟩
 case round =>
  obtain⟨v,i,rfl,hi,rfl⟩:=hrel;rcases(show i=2∨i<2 by omega) with rfl|hlt
  ·have hnx:=run_next_end (P:=Tryz.prog) w (⟨#[13,10]⟩:ByteArray) 2;have hnx:=fun ty=>hnx ty (by decide);go_wp2;show bodyPost Tryz.prog Tryz.f123 (fun e w''=>e=.returned (.int .i64 (-1))∧Below w.heap.size w w'') Exit.ret _ _;go_ret;exact⟨rfl,(Below.refl _ _).alloc (Nat.le_refl _) _⟩
  ·have hx:∃x:UInt8,(⟨#[13,10]⟩:ByteArray)[i]'hlt=x∧x.toNat<128:=by
    rcases(show i=0∨i=1 by omega) with rfl|rfl
    ·exact⟨13,rfl,by decide⟩
    ·exact⟨10,rfl,by decide⟩
   obtain⟨x,hx,hx2⟩:=hx;have hnx:=fun ty=>run_next_ascii (P:=Tryz.prog) w (⟨#[13,10]⟩:ByteArray) i ty hlt (by rw[hx];exact hx2);rw[hx] at hnx;have u1:((x.toNat:Int)==65533)=false:=beq_eq_false_iff_ne.2 (by omega);have HI:=Hh hlt;clear hx hlt hi;go_wp2;go_roundw
   case rel=>exact⟨_,i+1,rfl,by have:=HI.out;omega,rfl⟩
   case measure =>
    have:=HI.out;rw[World.iterPos_iter,World.iterPos_iter];omega
theorem zdO {w:World}{i:Nat}{o:Obj}(h:w.heap[i]?=some o):i<w.heap.size:=(Array.getElem?_eq_some_iff.1 h).1
theorem zoY (n:Nat)(w:World)(B:Bool)(hB:decide (8<n)=B) :
  Calls Tryz.prog 124 #[.int .i64 n] w fun e w'=>e=.returned (.bool B)∧w'=w:=by
 have h1:decide ((8:Int)<(n:Int))=B:=by rw[←hB];exact decide_eq_decide.2 ⟨fun h=>by omega,fun h=>by omega⟩
 clear hB;go_enter Tryz.func124,Tryz.ntmps124;go_wp2;go_ret;exact⟨rfl,rfl⟩
def zrS (B:Nat)(W:World):Nat:=match W.heap[B]? with|some (.stringIter _ i)=>i|_=>0
theorem zcF {B:Nat}{W:World}{s:ByteArray}{i:Nat}(h:W.heap[B]?=some (.stringIter s i)):zrS B W=i:=by
 unfold zrS;rw[h]
theorem zhB {p:UInt8→Bool}{l:List UInt8}{n:Nat}(h:∀j,j<n→∃c,l[j]?=some c∧p c=true):n≤zah p l:=by
 rcases Nat.lt_or_ge (zah p l) n with h1|h1
 ·obtain⟨c,hc,hp⟩:=h _ h1;have h2:zah p l<l.length:=by
   rcases Nat.lt_or_ge (zah p l) l.length with h2|h2
   ·exact h2
   ·rw[List.getElem?_eq_none h2] at hc;cases hc
  obtain⟨d,hd,hq⟩:=zlf h2;rw[hc] at hd;rw[←Option.some.inj hd,hp] at hq;cases hq
 ·exact h1
theorem zwY {p:UInt8→Bool}{l:List UInt8}{n:Nat}{c:UInt8}(h:∀j,j<n→∃c,l[j]?=some c∧p c=true)(hc:l[n]?=some c)(hp:p c=false):zah p l=n:=by
 have h1:=zhB h;rcases Nat.lt_or_ge n (zah p l) with h2|h2
 ·obtain⟨d,hd,hq⟩:=zfj h2;rw[hc] at hd;rw[←Option.some.inj hd,hp] at hq;cases hq
 ·omega
theorem zrT {x:UInt8}{c:Nat}(hx:c=x.toNat):decide (Lib.indexByte [13,10] ((c:Int)).toNat.toUInt8≥0) = !zaL x:=by
 have e:((c:Int)).toNat.toUInt8=x:=by rw[hx];simp
 rw[e,←zmu,Lib.contains_iff_indexByte]
theorem zrU (s:ByteArray)(w:World)(h8:s.size≤8) :
  Calls Tryz.prog 91 #[.string s,.string ⟨#[13,10]⟩] w fun e w'=>e=.returned (.int .i64 (remI s.data.toList))∧Below w.heap.size w w':=by
 obtain⟨R,hR⟩:∃R,R=remI s.data.toList:=⟨_,rfl⟩;rw[←hR];have HR:=Hh hR;have H8:=Hh h8;clear hR h8;go_enter Tryz.func91,Tryz.ntmps91;go_wp2_with (first
  | (go_at_call 124;go_loud (refine(zoY _ _ false (decide_eq_false (by have:=H8.out;omega))).mono ?_;rintro e w' ⟨rfl,rfl⟩)))
 go_loopw [53] (fun z wr=>∃(v:Value) (i:Nat),z=v∧i≤s.size∧wr.heap[w'.heap.size]?=some (.stringIter s i)∧(∀j,j<i→∃c,s.data.toList[j]?=some c∧zaL c=true)∧Below w'.heap.size w' wr) (fun _ wr=>s.size-zrS w'.heap.size wr)
 case atStart=>exact⟨_,0,rfl,Nat.zero_le _,World.iter_heap _ _ _,fun j hj=>absurd hj (Nat.not_lt_zero _),(Below.refl _ _).alloc (Nat.le_refl _) _⟩
 case round =>
  obtain⟨v,i,rfl,hi,hk,hp,hb⟩:=hrel;have HI:=Hh hi;have HK:=Hh hk;have HP:=Hh hp;have HB:=Hh hb;clear hp hb;rcases Nat.lt_or_ge i s.size with hlt|hge
  ·have hnx:=fun ty=>Lib.run_next_any_at (P:=Tryz.prog) wr w'.heap.size s i ty hk hlt;have HLT:=Hh hlt;obtain⟨c,hc⟩:∃c,c=(Utf8.decode s i).1:=⟨_,rfl⟩;obtain⟨k,hk2⟩:∃k,k=(Utf8.decode s i).2:=⟨_,rfl⟩;rw[←hc,←hk2] at hnx;have HNEW:=Hh (Lib.iterAt_heap wr w'.heap.size s i (i+k) hk);have HBN:=Hh (Lib.below_iterAt HB.out (Nat.le_refl _) s (i+k));rcases Nat.lt_or_ge (s[i]'hlt).toNat 128 with hx|hx
   ·have hd:=decode_ascii s i hlt hx;have HG:=Hh (zbQ hlt);have e1:c=(s[i]'hlt).toNat:=by rw[hc,hd]
    have e2:k=1:=by rw[hk2,hd]
    have HX:=Hh (show(c:Int)<128 by omega);obtain⟨J,hJ⟩:∃J,J=Lib.indexByte [13,10] ((c:Int)).toNat.toUInt8:=⟨_,rfl⟩;have hr9:=zrT e1;rw[←hJ] at hr9;have HJ:=Hh hJ;have HE2:=Hh e2;cases hr:zaL (s[i]'hlt) with
    | true =>
     rw[hr] at hr9;have d1:decide (J≥0)=false:=hr9;have d2:decide (0≤J)=false:=hr9;have HRT:=Hh hr;clear hr hr9 hJ e1 e2 hc hk2 hd hk hi;go_wp2_with (first
      | (go_at_call 123;go_loud (refine(zlg (c:Int) _ (by omega) HX.out).mono ?_;rintro e w2 ⟨rfl,b_⟩;rw[←HJ.out];have HK2:=Hh ((b_.block _ (zdO HNEW.out)).trans HNEW.out);have HB2:=Hh (HBN.out.trans (b_.mono HBN.out.size));clear b_)))
     go_roundw
     case rel=>exact⟨_,i+k,rfl,by have:=HLT.out;have:=HE2.out;omega,HK2.out,fun j hj=>by(rcases Nat.lt_or_ge j i with h1|h1;exact HP.out j h1;exact⟨_,by rw[show j=i by have:=HE2.out;omega];exact HG.out,HRT.out⟩),HB2.out⟩
     case measure =>
      have:=HLT.out;have:=HE2.out;rw[zcF HK2.out,zcF HK.out];omega
    | false =>
     rw[hr] at hr9;have d1:decide (J≥0)=true:=hr9;have d2:decide (0≤J)=true:=hr9;have HRF:=Hh hr;clear hr hr9 hJ e1 e2 hc hk2 hd hk hi;go_wp2_with (first
      | (go_at_call 123;go_loud (refine(zlg (c:Int) _ (by omega) HX.out).mono ?_;rintro e w2 ⟨rfl,b_⟩;rw[←HJ.out];have HB2:=Hh (HBN.out.trans (b_.mono HBN.out.size));clear b_)))
     go_ret;refine⟨?_,HB2.out⟩;have h1:=zwY HP.out HG.out HRF.out;have h2:R=(i:Int):=by
      rw[HR.out];unfold remI;rw[h1,if_pos (by rw[zaf];exact HLT.out)]
     rw[h2];rfl
   ·have hd:=zux hlt hx;have h1:=decode_high s i hlt hx;rw[←hc,←hk2] at h1 hd;have HD:=Hh hd;have H1:=Hh h1;have HI2:=Hh (show ∀W,Calls Tryz.prog 123 #[.string ⟨#[13,10]⟩,.int .i32 (c:Int)] W fun e w'=>e=.returned (.int .i64 (-1))∧Below W.heap.size W w' from fun W=>by
     by_cases h9:c=65533
     ·rw[h9];exact zrR W
     ·exact zoX (c:Int) W (by have:=h1.1;omega) (by omega) (hd.2.2.resolve_left h9))
    clear hd h1 hc hk2 hk hi hx;go_wp2_with (first
     | (go_at_call 123;go_loud (refine(HI2.out _).mono ?_;rintro e w2 ⟨rfl,b_⟩;have HK2:=Hh ((b_.block _ (zdO HNEW.out)).trans HNEW.out);have HB2:=Hh (HBN.out.trans (b_.mono HBN.out.size));clear b_)))
    go_roundw
    case rel=>exact⟨_,i+k,rfl,HD.out.1,HK2.out,fun j hj=>by(rcases Nat.lt_or_ge j i with h1|h1;exact HP.out j h1;exact HD.out.2.1 j h1 hj),HB2.out⟩
    case measure =>
     have:=HLT.out;have:=H1.out.2;rw[zcF HK2.out,zcF HK.out];omega
  ·have hnx:=fun ty=>Lib.run_next_end_at (P:=Tryz.prog) wr w'.heap.size s i ty hk (by omega);have HE:=Hh (show i=s.size by omega);clear hk hi hge;go_wp2;go_ret;refine⟨?_,HB.out⟩;have h1:=zhB HP.out;have h2:=zfF zaL s.data.toList;have h3:R = -1:=by
    rw[HR.out];unfold remI;rw[if_neg (by rw[zaf] at h2 ⊢;have:=HE.out;omega)]
   rw[h3];rfl
theorem zuy (s:ByteArray)(w:World)(h8:8<s.size)(hs:s.size≤1000000) :
  Calls Tryz.prog 91 #[.string s,.string ⟨#[13,10]⟩] w fun e w'=>e=.returned (.int .i64 (remI s.data.toList))∧Below w.heap.size w w':=by
 have hv:=zero_of_info (P:=Tryz.prog) (t:=Tryz.anyS_ren.t 116) (show(Tryz.prog.info? (Tryz.anyS_ren.t 116)).map (fun i=>(i.zero,i.size))=some (some (.agg (Array.replicate 256 (.bool false))),256) by kernel_rfl);refine(Any.strings_IndexAny_long Tryz.anyS hv.1 hv.2 s ⟨#[13,10]⟩ w (by decide) h8 (by omega) (by decide) (fun j b hb=>?_)).mono fun e w' ⟨h1,h2⟩=>⟨?_,?_⟩
 ·have:b∈([13,10]:List UInt8):=List.mem_of_getElem? hb;simp at this;rcases this with rfl|rfl <;> decide
 ·rw[h1,show(⟨#[13,10]⟩:ByteArray).data.toList=[13,10] from rfl,zwX]
 ·rw[h2];exact((Below.refl _ _).alloc (Nat.le_refl _) _).alloc (by simp) _
theorem zrV (s:ByteArray)(w:World)(hs:s.size≤1000000) :
  Calls Tryz.prog 91 #[.string s,.string ⟨#[13,10]⟩] w fun e w'=>e=.returned (.int .i64 (remI s.data.toList))∧Below w.heap.size w w':=by
 rcases Nat.lt_or_ge 8 s.size with h|h
 ·exact zuy s w h hs
 ·exact zrU s w h
end Go.Proofs.YtbabbmdpgpcgjaaGreatDoor

namespace Go.Proofs.YtbabbmdpgpcgjaaGreatDoor
open Go.RowKit Txt Lib
def stK (wide:Nat)(r:List UInt8)(i:Nat):List UInt8:=(List.range wide).map fun j=>if j<i∧r[j]?=some 79 then 1 else 0
def stR (wide:Nat)(r:List UInt8):List UInt8:=(List.range wide).map fun j=>if r[j]?=some 79 then 1 else 0
theorem zwZ (wide:Nat)(r:List UInt8){i:Nat}(h:r.length≤i):stK wide r i=stR wide r:=by
 unfold stK stR;refine List.map_congr_left fun j hj=>?_;by_cases h1:r[j]?=some 79
 ·have h2:j<r.length:=by
   rcases Nat.lt_or_ge j r.length with h2|h2
   ·exact h2
   ·rw[List.getElem?_eq_none h2] at h1;cases h1
  rw[if_pos ⟨by omega,h1⟩,if_pos h1]
 ·rw[if_neg (fun e=>h1 e.2),if_neg h1]
theorem zxa (wide:Nat)(r:List UInt8)(i:Nat):(stK wide r i).length=wide:=by unfold stK;simp
theorem zmv (wide:Nat)(r:List UInt8):(stR wide r).length=wide:=by unfold stR;simp
theorem zxb {wide:Nat}{r:List UInt8}{i:Nat}(h:r[i]?≠some 79):stK wide r (i+1)=stK wide r i:=by
 unfold stK;refine List.map_congr_left fun j hj=>?_;by_cases h1:j<i∧r[j]?=some 79
 ·rw[if_pos h1,if_pos ⟨by omega,h1.2⟩]
 ·rw[if_neg h1,if_neg fun e=>?_];rcases(show j<i∨j=i by omega) with h2|h2
  ·exact h1 ⟨h2,e.2⟩
  ·subst h2;exact h e.2
theorem zyk {wide:Nat}{r:List UInt8}{i:Nat}(h:r[i]?=some 79):((stK wide r i).map fun x:UInt8=>Value.int .u8 (x.toNat:Int)).toArray.setIfInBounds i (.int .u8 1)=((stK wide r (i+1)).map fun x:UInt8=>Value.int .u8 (x.toNat:Int)).toArray:=by
 apply Array.ext';rw[Array.toList_setIfInBounds];refine List.ext_getElem? fun j=>?_;rw[List.getElem?_set];unfold stK;rw[List.map_map,List.map_map,List.length_map,List.length_range];by_cases hj:j<wide
 ·by_cases e:i=j
  ·subst e;rw[if_pos rfl,if_pos hj,List.getElem?_map,List.getElem?_range hj];show _=some (Value.int .u8 (((if i<i+1∧r[i]?=some 79 then 1 else 0:UInt8).toNat:Nat):Int));rw[if_pos ⟨by omega,h⟩];rfl
  ·rw[if_neg e,List.getElem?_map,List.getElem?_range hj,List.getElem?_map,List.getElem?_range hj];show some (Value.int .u8 (((if j<i∧r[j]?=some 79 then 1 else 0:UInt8).toNat:Nat):Int))=some (Value.int .u8 (((if j<i+1∧r[j]?=some 79 then 1 else 0:UInt8).toNat:Nat):Int));by_cases h1:j<i∧r[j]?=some 79
   ·rw[if_pos h1,if_pos ⟨by omega,h1.2⟩]
   ·rw[if_neg h1,if_neg fun e2=>h1 ⟨by omega,e2.2⟩]
 ·by_cases e:i=j
  ·subst e;rw[if_pos rfl,if_neg hj,List.getElem?_eq_none (by simpa using hj)]
  ·rw[if_neg e,List.getElem?_eq_none (by simpa using hj),List.getElem?_eq_none (by simpa using hj)]
theorem znN {W:World}{base g n:Nat}{e:TypeId}{xs:List Value}(h:W.ownsRow base e 1 (.slice (some ⟨g,0,none⟩) n n) n xs):W.heap[g]?=some (.cells xs.toArray e):=by
 rcases h.2 with⟨h',hn⟩|⟨g',cap,cur,h',hb,hg,hnc,hcm,hcs,ht⟩
 ·simp at h'
 ·simp at h';obtain⟨rfl,rfl⟩:=h';rw[hg];have:cur=xs.toArray:=by
   apply Array.ext';rw[←ht,List.take_of_length_le (by rw[Array.length_toList,hcs];exact Nat.le_refl _)]
  rw[this]
theorem zrW (wide:Nat)(r:List UInt8):List.replicate wide (Value.int .u8 0)=(stK wide r 0).map fun x:UInt8=>Value.int .u8 (x.toNat:Int):=by
 unfold stK;rw[List.map_map];refine List.ext_getElem? fun j=>?_;by_cases hj:j<wide
 ·rw[List.getElem?_replicate,if_pos hj,List.getElem?_map,List.getElem?_range hj];show _=some (Value.int .u8 (((if j<0∧r[j]?=some 79 then 1 else 0:UInt8).toNat:Nat):Int));rw[if_neg (fun e=>absurd e.1 (Nat.not_lt_zero _))];rfl
 ·rw[List.getElem?_replicate,if_neg hj,List.getElem?_eq_none (by simpa using hj)]
structure Ss (w:World)(it wide:Nat)(r:ByteArray)(i:Nat)(W:World):Prop where
 gk:W.heap[w.heap.size]?=some (.cells ((stK wide r.data.toList i).map fun x:UInt8=>Value.int .u8 (x.toNat:Int)).toArray 5)
 wk:W.heap[it]?=some (.stringIter r i)
 b:Below w.heap.size w W
 lt:w.heap.size<it
theorem Ss.step {w W:World}{it wide i:Nat}{r:ByteArray}(h:Ss w it wide r i W)(k:Nat):(W.iterAt it r k).heap[w.heap.size]?=some (.cells ((stK wide r.data.toList i).map fun x:UInt8=>Value.int .u8 (x.toNat:Int)).toArray 5)∧(W.iterAt it r k).heap[it]?=some (.stringIter r k)∧Below w.heap.size w (W.iterAt it r k) :=
 ⟨(iterAt_other W it w.heap.size r k (by have:=h.lt;omega)).trans h.gk,iterAt_heap W it r i k h.wk,below_iterAt h.b (by have:=h.lt;omega) r k⟩
theorem zxc {W:World}{g wide:Nat}{L:List UInt8}(h:W.heap[g]?=some (.cells (L.map fun x:UInt8=>Value.int .u8 (x.toNat:Int)).toArray 5))(hl:L.length=wide) :
  (convert 101 9 (.slice (some ⟨g,0,none⟩) wide wide)).run Tryz.prog W=.ok (.string ⟨L.toArray⟩) W:=by
 have:=run_convert_bytes_back (P:=Tryz.prog) W 101 9 5 ⟨g,0,none⟩ wide L Tryz.underlying101 Tryz.underlying5 Tryz.underlying9 (fun j hj=>?_)
 ·rw[hl] at this;exact this
 ·have e3:(⟨g,0,none⟩:Addr).add j=⟨g,j,none⟩:=by unfold Addr.add;split <;> simp_all
  rw[e3,Lib.cell_of_heap h];rw[List.getElem?_toArray,List.getElem?_map,List.getElem?_eq_getElem hj];rfl
theorem zmw (r:ByteArray)(wide:Nat)(w:World)(hr:∀c∈r.data.toList,zau c=true)(hw:r.size≤wide)(hw9:wide≤400000) :
  Calls Tryz.prog 40 #[.string r,.int .i64 (wide:Int)] w fun e w'=>e=.returned (.string ⟨(stR wide r.data.toList).toArray⟩)∧Below w.heap.size w w':=by
 obtain⟨iY,hi,hz0,hz1,hz2⟩:=zbL Tryz.infoY;have HI:=Hh (And.intro hi (And.intro hz0 (And.intro hz1 hz2)));have HR:=Hh hr;have HW:=Hh (And.intro hw hw9);clear hi hz0 hz1 hz2 hr hw hw9;go_enter Tryz.func40,Tryz.ntmps40;go_wp2_with (at_make;refine wpList_make_full _ rfl _ _ 101 rfl w.heap.size 5 iY _ 1 Tryz.underlying101 HI.out.1 HI.out.2.1 HI.out.2.2.1 .i64 .i64 _ _ wide rfl rfl rfl rfl (by rw[HI.out.2.2.2];have:=HW.out;omega) (by have:=HW.out;unfold maxLen;omega) (Nat.le_refl _) ?_;intro wa owa grwa;rw[zdn rfl] at owa;have hga:=znN owa;rw[zrW wide r.data.toList] at hga;have HSS:=Hh (show Ss w wa.heap.size wide r 0 (wa.iter r 0) from⟨(heap_alloc_old _ _ (zab hga)).trans hga,World.iter_heap _ _ _,((zer grwa)).alloc (zer grwa).size _,zab hga⟩);clear owa grwa hga);obtain⟨it,hit⟩:∃it,it=wa.heap.size:=⟨_,rfl⟩;have HSS:=HSS.out;rw[←hit] at HSS ⊢;have HS0:=Hh HSS;clear HSS hit;go_loopw [18] (fun z wr=>∃(v:Value) (i:Nat),z=v∧i≤r.size∧Ss w it wide r i wr) (fun _ wr=>r.size-zrS it wr)
 case atStart=>exact⟨_,0,rfl,Nat.zero_le _,HS0.out⟩
 case round =>
  obtain⟨v,i,rfl,hi,hs⟩:=hrel;have HS:=Hh hs;clear hs;rcases Nat.lt_or_ge i r.size with hlt|hge
  ·have hg:=zbQ hlt;have hx:=HR.out _ (List.mem_of_getElem? hg);have hx8:(r[i]'hlt).toNat<128:=by
    unfold zau at hx;rw[Bool.or_eq_true,beq_iff_eq,beq_iff_eq] at hx;rcases hx with h|h <;> rw[h] <;> decide
   have hnx:∀ty,(Instr.next (.pointer (some ⟨it,0,none⟩)) true ty).run Tryz.prog wr=.ok (.tuple #[.bool true,.int .i64 i,.int .i32 ((r[i]'hlt).toNat:Int)]) (wr.iterAt it r (i+1)):=fun ty=>Lib.run_next_ascii_at wr it r i ty HS.out.wk hlt hx8;have ST:=Hh (HS.out.step (i+1));have j0:(0:Int)≤(i:Int):=by omega
   have j1:(i:Int)<(r.size:Int):=by omega
   have j2:(i:Int)<(wide:Int):=by have:=HW.out.1;omega
   have HG:=Hh hg;have HLT:=Hh hlt;have c0:(wr.iterAt it r (i+1)).cell? ⟨w.heap.size,i,none⟩=some (.int .u8 (((if i<i∧r.data.toList[i]?=some 79 then 1 else 0:UInt8).toNat:Nat):Int)):=by
    rw[Lib.cell_of_heap ST.out.1,List.getElem?_toArray,List.getElem?_map];unfold stK;rw[List.getElem?_map,List.getElem?_range (by have:=HW.out.1;omega)];rfl
   have f0:(wr.iterAt it r (i+1)).frozen? ⟨w.heap.size,i,none⟩=false:=Lib.frozen_of_heap ST.out.1 i;by_cases h79:r[i]'hlt=79
   ·have u1:((((r[i]'hlt).toNat:Nat):Int)==(((⟨#[79]⟩:ByteArray)[0]'(by decide)).toNat:Int))=true:=by rw[h79];rfl
    have H79:=Hh (show r.data.toList[i]?=some 79 by rw[hg,h79]);clear hx hx8 hg h79 hi;go_wp2_with fail;go_quiet (fail);go_wp2_with fail;have hw1:∀W:World,W.heap=(wr.iterAt it r (i+1)).heap→(W.setCell ⟨w.heap.size,i,none⟩ (.int .u8 1)).heap[w.heap.size]?=some (.cells ((stK wide r.data.toList (i+1)).map fun x:UInt8=>Value.int .u8 (x.toNat:Int)).toArray 5)∧(W.setCell ⟨w.heap.size,i,none⟩ (.int .u8 1)).heap[it]?=some (.stringIter r (i+1)):=fun W hW=>by
     constructor
     ·rw[←zyk H79.out];simp[World.setCell,Array.getElem?_modify,hW,ST.out.1]
     ·refine(Below.heap_setCell _ _ _ _ (fun e=>?_)).trans (by rw[hW];exact ST.out.2.1);have:=HS.out.lt;have e:w.heap.size=it:=by first|exact e|exact e.symm
      omega
    go_roundw
    case rel=>exact⟨_,i+1,rfl,HLT.out,(hw1 _ rfl).1,(hw1 _ rfl).2,Below.setCell (p:=⟨w.heap.size,i,none⟩) (show Below w.heap.size w ((wr.iterAt it r (i+1)).drewN _) from⟨ST.out.2.2.os,ST.out.2.2.tape,ST.out.2.2.output,ST.out.2.2.size,ST.out.2.2.block⟩) (Nat.le_refl _) _,HS.out.lt⟩
    case measure =>
     have:=HLT.out;rw[zcF HS.out.wk,zcF (hw1 ((wr.iterAt it r (i+1)).drewN nq) rfl).2];omega
   ·have u1:((((r[i]'hlt).toNat:Nat):Int)==(((⟨#[79]⟩:ByteArray)[0]'(by decide)).toNat:Int))=false:=beq_eq_false_iff_ne.2 fun e=>h79 (UInt8.toNat_inj.1 (by show(r[i]'hlt).toNat=79;have e:(((r[i]'hlt).toNat:Nat):Int)=((79:Nat):Int):=e;omega));have H79:=Hh (show r.data.toList[i]?≠some 79 by rw[hg];exact fun e=>h79 (Option.some.inj e));clear hx hx8 hg h79 hi;go_wp2_with fail;go_quiet (fail);go_wp2_with fail;go_roundw
    case rel=>exact⟨_,i+1,rfl,HLT.out,by rw[zxb H79.out];exact ST.out.1,ST.out.2.1,⟨ST.out.2.2.os,ST.out.2.2.tape,ST.out.2.2.output,ST.out.2.2.size,ST.out.2.2.block⟩,HS.out.lt⟩
    case measure =>
     have e2:∀W:World,W.heap=(wr.iterAt it r (i+1)).heap→zrS it W=i+1:=fun W hW=>zcF (by rw[hW];exact ST.out.2.1);have:=HLT.out;rw[zcF HS.out.wk,e2 ((wr.iterAt it r (i+1)).drewN nq) rfl];omega
  ·have hnx:∀ty,(Instr.next (.pointer (some ⟨it,0,none⟩)) true ty).run Tryz.prog wr=.ok (.tuple #[.bool false]) wr:=fun ty=>Lib.run_next_end_at wr it r i ty HS.out.wk (by omega);have HE:=Hh (show r.data.toList.length≤i by rw[zaf];exact hge);have hcv:=zxc HS.out.gk (zxa _ _ _);clear hi hge;go_wp2_with fail;go_ret;rw[←zwZ wide r.data.toList HE.out];exact⟨rfl,HS.out.b⟩
end Go.Proofs.YtbabbmdpgpcgjaaGreatDoor

namespace Go.Proofs.YtbabbmdpgpcgjaaGreatDoor
open Go.RowKit Num Nds
theorem zxd {M:Int→Int→Int}{wide high w h:Nat}{X Y:Int}{q:List Nd}(hq:zaW (picL M 0 0 wide high) q)(b:BoxP q X Y w h):w≤wide∧h≤high:=by
 rcases b with⟨-,-,-,rfl,rfl⟩|⟨-,-,k,a,hk⟩
 ·exact⟨Nat.zero_le _,Nat.zero_le _⟩
 ·have hin:∀x y,zax (den q q.length) x y≠0→0≤x∧x<wide∧0≤y∧y<high:=fun x y h=>by
   rw[hq.den,zjB] at h;by_cases hc:0≤x-0∧x-0<wide∧0≤y-0∧y-0<high
   ·omega
   ·rw[if_neg hc] at h;exact absurd rfl h
  obtain⟨⟨x1,y1,h1,e1⟩,⟨x2,y2,h2,e2⟩,⟨x3,y3,h3,e3⟩,⟨x4,y4,h4,e4⟩⟩:=a.touch hk;have i1:=hin _ _ h1;have i2:=hin _ _ h2;have i3:=hin _ _ h3;have i4:=hin _ _ h4;omega
theorem zyl {M:Int→Int→Int}{wide high:Nat}{q:List Nd}{most er X Y:Int}{R:List (List UInt8)}(hq:zaW (picL M 0 0 wide high) q)(h1:(wide:Int)≤most)(h2:(high:Int)≤most)(h3:most≤1000)(g:GoI q q.length most er X Y R) :
  er=0∧GoI q q.length 1000 0 X Y R∧picL (picS R) X Y (zaP R) R.length=zdv q:=by
 have hg:=hq.good;rcases g with⟨h0,-⟩|⟨h0,ok,X',Y',V,H,b,h4⟩
 ·omega
 ·obtain⟨hb,v0,h0'⟩:=b.boxp hg;have hin:=zxd hq hb;rcases h4 with⟨h5,-⟩|⟨h5,rfl,rfl,rfl,rfl⟩
  ·omega
  ·refine⟨rfl,.inr ⟨by omega,ok,X,Y,V,H,b,.inr ⟨by omega,rfl,rfl,rfl,rfl⟩⟩,?_⟩;rw[zoQ _ hb.flat,zcW,zoI fun r c=>zjD hg.1 X Y r c];rcases hb with⟨rfl,rfl,rfl,e1,e2⟩|⟨-,-,k,a,hk⟩
   ·rw[e1,e2];rfl
   ·exact a.list hk (zku q) (fun c hc=>((zbx _).2.2 c hc).1) fun x y=>(zjr hg.1 x y).symm
theorem zxe {M:Int→Int→Int}{wide high:Nat}{q:List Nd}{most er X Y:Int}{R:List (List UInt8)}(hq:zaW (picL M 0 0 wide high) q)(h1:(wide:Int)≤most)(h2:(high:Int)≤most)(h3:most≤1000)(hf:(picL M 0 0 wide high).length≤600)(g:GoI q q.length most er X Y R) :
  (picL (picS R) 0 0 (zaP R) R.length).length≤600:=by
 obtain⟨-,-,g3⟩:=zyl hq h1 h2 h3 g;rw[zkV _ 0 0 X Y,g3,hq.cells (zcE ..) zhu];exact hf
theorem zuz {M:Int→Int→Int}{wide high:Nat}{q:List Nd}(hq:zaW (picL M 0 0 wide high) q)(hf:(picL M 0 0 wide high).length≤600):q.length≤900000:=by
 have h1:zaW (zaR (picL M 0 0 wide high)) q:=by rw[zhx];exact hq
 have h2:=h1.lenF.2;rw[zhx] at h2;omega
theorem zoZ (M:Int→Int→Int){wide high:Nat}(hw:wide≤1000)(hh:high≤1000):zaJ (picL M 0 0 wide high)≤1329:=by
 refine Nat.le_trans (znz (k:=12) (by omega) fun c hc=>?_) (by omega);obtain⟨k,i,h1,h2,-,rfl⟩:=zcg.1 hc;unfold inL;rw[show p2 (12-1)=2048 from rfl];unfold inH;simp only[Bool.and_eq_true,decide_eq_true_iff];omega
def zbm (L:List (List UInt8)):Nat:=L.foldl (fun n r=>max n r.length) 0
def zbI (L:List (List UInt8)):List (List UInt8):=L.map (stR (zbm L))
theorem zrX (L:List (List UInt8)):∀n:Nat,n≤L.foldl (fun n r=>max n r.length) n∧∀r∈L,r.length≤L.foldl (fun n r=>max n r.length) n:=by
 induction L with
 | nil=>intro n;exact⟨Nat.le_refl _,fun r hr=>by cases hr⟩
 | cons x L ih =>
  intro n;have h:=ih (max n x.length);refine⟨by rw[List.foldl_cons];omega,fun r hr=>?_⟩;rw[List.foldl_cons];rcases List.mem_cons.1 hr with rfl|hr
  ·omega
  ·exact h.2 r hr
theorem zjL {L:List (List UInt8)}{r:List UInt8}(h:r∈L):r.length≤zbm L:=(zrX L 0).2 r h
theorem zrY {L:List (List UInt8)}{m:Nat}(h:∀r∈L,r.length≤m):zbm L≤m:=by
 have key:∀(L:List (List UInt8)) (n:Nat),n≤m→(∀r∈L,r.length≤m)→L.foldl (fun n r=>max n r.length) n≤m:=by
  intro L
  induction L with
  | nil=>intro n hn _;exact hn
  | cons x L ih =>
   intro n hn h;rw[List.foldl_cons];exact ih _ (by have:=h x (by simp);omega) fun r hr=>h r (by simp[hr])
 exact key L 0 (Nat.zero_le _) h
theorem zpa (L:List (List UInt8))(r:List UInt8):zbm (L++[r])=max (zbm L) r.length:=by
 unfold zbm;rw[List.foldl_append];rfl
theorem zaM (L:List (List UInt8)):(zbI L).length=L.length:=by unfold zbI;simp
theorem ziN {L:List (List UInt8)}(h:0<L.length):zaP (zbI L)=zbm L:=by
 unfold zaP tat zbI;rw[List.getElem?_map,List.getElem?_eq_getElem h];exact zmv _ _
theorem zez {L:List (List UInt8)}(h1:zbm L≤1000)(h2:L.length≤1000):zcM (zbI L)=true:=by
 rcases Nat.eq_zero_or_pos L.length with h0|h0
 ·rw[List.length_eq_zero_iff.1 h0];rfl
 ·unfold zcM;rw[ziN h0,zaM,Bool.and_eq_true,Bool.and_eq_true,decide_eq_true_iff,decide_eq_true_iff,List.all_eq_true];refine⟨⟨h1,h2⟩,fun r hr=>?_⟩;unfold zbI at hr;obtain⟨x,-,rfl⟩:=List.mem_map.1 hr;exact decide_eq_true (zmv _ _)
abbrev zdP (L:List (List UInt8)):List Cl:=picL (picS (zbI L)) 0 0 (zaP (zbI L)) (zbI L).length
theorem zuA {L:List (List UInt8)}(h1:zbm L≤1000)(h2:L.length≤1000){er:Int}{q:List Nd}(g:GqI (at0 (zbI L)) er q):er=0∧zaW (zdP L) q:=by
 have hr:zbZ (at0 (zbI L))=true:=by
  unfold zbZ;rw[Bool.and_eq_true,Bool.and_eq_true];exact⟨rfl,rfl,zez h1 h2⟩
 have hw:zaP (zbI L)≤1000:=(zhy (zez h1 h2)).1;have h3:=g.2 hr;exact h3.2 (zoZ _ hw (by show(zbI L).length≤1000;rw[zaM];exact h2))
def HomP (L:List (List UInt8))(h:List Nd):Prop:=∃q er,zaW (zdP L) q∧GhI q q.length 1000 er h
theorem HomP.one {L:List (List UInt8)}{h k:List Nd}(a:HomP L h)(b:HomP L k):h=k:=by
 obtain⟨q,e1,q1,g1⟩:=a;obtain⟨q',e2,q2,g2⟩:=b;obtain rfl:=ziq q1 q2 fun _ _=>rfl;exact(g1.one g2).2
structure Qr (w W:World):Prop where
 b:Below w.heap.size w W
 k:W.heap[w.heap.size]?=some (.cells #[.slice none 0 0] 27)
theorem Qr.next {w W W1:World}(h:Qr w W)(k:Below W.heap.size W W1):Qr w W1:=⟨h.b.trans (k.mono h.b.size),(k.block _ (zab h.k)).trans h.k⟩
theorem zpb {L:List (List UInt8)}{k:Nat}(hk:k<L.length):zbm (L.take (k+1))=max (zbm (L.take k)) (tat L k).length:=by
 unfold tat;rw[List.take_add_one,List.getElem?_eq_getElem hk];exact zpa _ _
def stS (L:List (List UInt8))(k:Nat):List (List UInt8):=(zbI L).take k++List.replicate (L.length-k) []
theorem zrZ {L:List (List UInt8)}{k:Nat}(hk:k≤L.length):(stS L k).length=L.length:=by
 unfold stS;rw[List.length_append,List.length_take,zaM,List.length_replicate];omega
theorem zxf (L:List (List UInt8)):stS L L.length=zbI L:=by
 unfold stS;rw[Nat.sub_self,List.take_of_length_le (by rw[zaM];exact Nat.le_refl _)];exact List.append_nil _
theorem zuB {L:List (List UInt8)}{k:Nat}(hk:k<L.length):((stS L k).map strV).toArray.setIfInBounds k (strV (stR (zbm L) (tat L k)))=((stS L (k+1)).map strV).toArray:=by
 apply Array.ext';rw[Array.toList_setIfInBounds];refine List.ext_getElem? fun j=>?_;rw[List.getElem?_set,List.length_map,zrZ (by omega),List.getElem?_map];show _=((stS L (k+1)).map strV)[j]?;rw[List.getElem?_map];have e1:∀i:Nat,i<L.length→(zbI L)[i]?=some (stR (zbm L) (tat L i)):=fun i hi=>by
  unfold zbI tat;rw[List.getElem?_map,List.getElem?_eq_getElem hi];rfl
 unfold stS;by_cases e:k=j
 ·subst e;rw[if_pos rfl,if_pos hk,List.getElem?_append_left (by rw[List.length_take,zaM];omega),List.getElem?_take,if_pos (by omega),e1 k hk];rfl
 ·rw[if_neg e];congr 1;rcases Nat.lt_or_ge j k with h|h
  ·rw[List.getElem?_append_left (by rw[List.length_take,zaM];omega),List.getElem?_append_left (by rw[List.length_take,zaM];omega),List.getElem?_take,List.getElem?_take,if_pos h,if_pos (by omega)]
  ·rw[List.getElem?_append_right (by rw[List.length_take,zaM];omega),List.getElem?_append_right (by rw[List.length_take,zaM];omega),List.length_take,List.length_take,zaM,List.getElem?_replicate,List.getElem?_replicate];by_cases hj:j<L.length
   ·rw[if_pos (by omega),if_pos (by omega)]
   ·rw[if_neg (by omega),if_neg (by omega)]
theorem zuC (L:List (List UInt8)):List.replicate L.length (Value.string ⟨#[]⟩)=(stS L 0).map strV:=by
 unfold stS;rw[List.take_zero,List.nil_append,Nat.sub_zero,List.map_replicate];rfl
theorem zsa {W W':World}{b i:Nat}{v:Option Value}(h:W.cell? ⟨b,i,none⟩=v)(e:W'.heap[b]?=W.heap[b]?):W'.cell? ⟨b,i,none⟩=v:=by
 unfold World.cell? at h ⊢;rw[e];exact h
structure S2 (W0:World)(L:List (List UInt8))(i:Nat)(W:World):Prop where
 gk:W.heap[W0.heap.size]?=some (.cells ((stS L i).map strV).toArray 9)
 b:Below W0.heap.size W0 W
theorem S2.next {W0 W W1:World}{L:List (List UInt8)}{i:Nat}(h:S2 W0 L i W)(k:Below W.heap.size W W1):S2 W0 L i W1:=⟨(k.block _ (zab h.gk)).trans h.gk,h.b.trans (k.mono h.b.size)⟩
theorem S2.put {W0 W:World}{L:List (List UInt8)}{i:Nat}(h:S2 W0 L i W)(hi:i<L.length):S2 W0 L (i+1) (W.setCell ⟨W0.heap.size,i,none⟩ (strV (stR (zbm L) (tat L i)))):=by
 refine⟨?_,h.b.setCell (p:=⟨W0.heap.size,i,none⟩) (Nat.le_refl _) _⟩;rw[←zuB hi];simp[World.setCell,Array.getElem?_modify,h.gk]
theorem S2.cell {W0 W:World}{L:List (List UInt8)}{i:Nat}(h:S2 W0 L i W)(hi:i<L.length):∃v,W.cell? ⟨W0.heap.size,i,none⟩=some v:=by
 rw[Lib.cell_of_heap h.gk];have:i<((stS L i).map strV).toArray.size:=by simp;rw[zrZ (by omega)];exact hi
 exact⟨_,Array.getElem?_eq_getElem this⟩
theorem S2.ts {W0 W:World}{L:List (List UInt8)}(h:S2 W0 L L.length W)(h1:zbm L≤1000)(h2:L.length≤1000):Ts W (some ⟨W0.heap.size,0,none⟩) L.length (zbI L):=by
 have hg:=h.gk;rw[zxf] at hg;refine⟨fun r hr=>?_,by rw[List.length_map,zaM];exact Nat.le_refl _,by unfold maxLen;omega,fun _=>⟨_,0,rfl,zab hg,fun j u hu=>?_⟩⟩
 ·unfold zbI at hr;obtain⟨x,-,rfl⟩:=List.mem_map.1 hr;rw[zmv];unfold maxLen;omega
 ·rw[Nat.zero_add,Lib.cell_of_heap hg];simpa using hu
theorem zpc (g n:Nat)(G:List (List UInt8))(W:World)(h:Ts W (some ⟨g,0,none⟩) n G)(hn:G.length=n)(hf:(picL (picS G) 0 0 (zaP G) G.length).length≤600) :
  Calls Tryz.prog 41 #[.agg #[.bool false,.slice none 0 0,.bool false,.slice none 0 0,.slice (some ⟨g,0,none⟩) n n]] W (zyg (at0 G) W):=by
 subst hn;exact zkX (Gr.mk bw0 bw0 (some ⟨g,0,none⟩) G.length G) W ⟨Us.nil _,Us.nil _,h⟩ (Nat.zero_le _) (Nat.zero_le _) (fun _=>hf)
def zzc (L:List (List UInt8))(w:World)(e:Ending)(w':World):Prop :=
 ∃A c m h,e=.returned (.agg #[.slice A m c])∧h.length=m∧Ns w' A c h∧(A=none→c=0)∧Below w.heap.size w w'∧HomP L h
theorem zsb (p:Nat)(x:Rs)(L:List (List UInt8))(w:World)(h:At9 p x w)(hx:x.n=L.length)(ht:Ts w x.a x.c L)(h1:zbm L≤1000)(h2:L.length≤1000)(hi:∀r∈L,∀c∈r,zau c=true)(hf:(zdP L).length≤600) :
  Calls Tryz.prog 21 #[.pointer (some ⟨p,0,none⟩)] w (zzc L w):=by
 obtain⟨iS,hi0,hz0,hz1,hz2⟩:=zbL Tryz.infoTz;have HI:=Hh (And.intro hi0 (And.intro hz0 (And.intro hz1 hz2)));have hal:=(Below.refl w.heap.size w).alloc (Nat.le_refl _) (.cells #[.slice none 0 0] 27);have QR:=Hh (show Qr w (w.alloc (.cells #[.slice none 0 0] 27)) from⟨hal,heap_alloc_new w _⟩);obtain⟨n,hn⟩:∃n,n=L.length:=⟨_,rfl⟩;have H:=Hh (show At9 p x (w.alloc (.cells #[.slice none 0 0] 27)) from(Below.heap_alloc _ _ _ h.lt).trans h);have HN:=Hh hn;have H12:=Hh (And.intro h1 h2);have HIR:=Hh hi;have HF:=Hh hf;have c6:=H.out.cells.2.2.2.2.2.2;obtain⟨A,hA⟩:∃A,A=x.a:=⟨_,rfl⟩;obtain⟨C,hC⟩:∃C,C=x.c:=⟨_,rfl⟩;rw[hx,←hn,←hA,←hC] at c6;rw[←hA,←hC] at ht;have HT:=Hh (ht.below hal);have hcap:=ht.cap;rw[←hn] at hcap;have HPL:=Hh h.lt;have hn9:n≤1000:=by omega
 clear h hx ht h1 h2 hi hf hal hi0 hz0 hz1 hz2 hA hC hn;go_enter Tryz.func21,Tryz.ntmps21;go_wp2_with fail;generalize hW0:w.alloc (.cells #[.slice none 0 0] 27)=W0 at QR H HT c6 ⊢;clear hW0;go_loopw [3,18] (fun z3 z18 wr=>∃k:Nat,k≤n∧z3=.int .i64 (zbm (L.take k):Nat)∧z18=.int .i64 k∧wr=W0) (fun _ z18 _=>n-(intOf z18).toNat)
 case atStart=>exact⟨0,Nat.zero_le _,rfl,rfl,rfl⟩
 case round =>
  obtain⟨k,hk,rfl,rfl,rfl⟩:=hrel;by_cases hlt:k<n
  ·obtain⟨b2,o2,rfl,-,hcc⟩:=HT.out.at_ (by have:=HN.out;omega)
   have s0:=hcc k (by have:=HN.out;omega);unfold strV at s0;obtain⟨R,hR⟩:∃R:ByteArray,R=⟨(tat L k).toArray⟩:=⟨_,rfl⟩;have hz:R.size=(tat L k).length:=by rw[hR,zef]
   rw[←hR] at s0;have HM:=Hh (show((zbm (L.take (k+1)):Nat):Int)=max ((zbm (L.take k):Nat):Int) (R.size:Int) by rw[zpb (by have:=HN.out;omega),hz];omega);have j0:(0:Int)≤(k:Int):=by omega
   have j1:(k:Int)<(n:Int):=by omega
   have j3:decide ((k:Int)<(n:Int))=true:=decide_eq_true j1;have kw:IntKind.i64.wrap ((k:Int)+1)=(k:Int)+1:=IntWalk.i64_in _ (by omega);have HLT:=Hh hlt;clear hcc hR hz hlt hk;go_wp2_with fail;go_roundw
   case rel=>exact⟨k+1,HLT.out,by rw[HM.out],by go_num,trivial⟩
   case measure=>have:=HLT.out;simp[intOf];omega
  ·have hke:k=n:=by omega
   subst hke;obtain⟨W0,hW0⟩:∃W0,W0=wr:=⟨_,rfl⟩;subst hW0;have t9:decide ((k:Int)<(k:Int))=false:=decide_eq_false (by omega);have HWD:=Hh (show zbm (L.take k)=zbm L by rw[HN.out,List.take_length]);have hw9:=HWD.out;clear hlt hk;go_wp2_with (at_make;go_loud (refine wpList_make_full _ rfl _ _ 56 rfl W0.heap.size 9 iS _ 1 Tryz.underlying56 HI.out.1 HI.out.2.1 HI.out.2.2.1 .i64 .i64 _ _ k rfl rfl rfl rfl (by rw[HI.out.2.2.2];omega) (by unfold maxLen;omega) (Nat.le_refl _) ?_;intro wa owa grwa;rw[zdn rfl] at owa;have hga:=znN owa;rw[show List.replicate k (Value.string ⟨#[]⟩)=(stS L 0).map strV by rw[HN.out];exact zuC L] at hga;have SS:=Hh (show S2 W0 L 0 wa from⟨hga,zer grwa⟩);have c6:=zsa c6 ((zer grwa).block _ H.out.lt);clear owa grwa hga));clear c6 t9 hw9;go_loopw [38] (fun z wr=>∃i:Nat,i≤k∧z=.int .i64 i∧S2 W0 L i wr) (fun z _=>k-(intOf z).toNat)
   case atStart=>exact⟨0,Nat.zero_le _,rfl,SS.out⟩
   case round =>
    obtain⟨i,hi,rfl,hs2⟩:=hrel;have S:=Hh hs2;clear SS hs2;by_cases hlt:i<k
    ·have HT2:=Hh (HT.out.below S.out.b);obtain⟨b2,o2,rfl,-,hcc⟩:=HT2.out.at_ (by have:=HN.out;omega)
     have s0:=hcc i (by have:=HN.out;omega);unfold strV at s0;obtain⟨R,hR⟩:∃R:ByteArray,R=⟨(tat L i).toArray⟩:=⟨_,rfl⟩;have hl:R.data.toList=tat L i:=by rw[hR]
     have hz:R.size=(tat L i).length:=by rw[hR,zef]
     rw[←hR] at s0;have hmem:tat L i∈L:=by
      unfold tat;rw[List.getElem?_eq_getElem (by have:=HN.out;omega)];exact List.getElem_mem _
     obtain⟨D,hD⟩:∃D:ByteArray,D=⟨(stR (zbm L) (tat L i)).toArray⟩:=⟨_,rfl⟩;have HD:=Hh (show strV (stR (zbm L) (tat L i))=.string D by unfold strV;rw[hD]);have PS:=Hh (show ∀W,Calls Tryz.prog 40 #[.string R,.int .i64 (zbm L:Nat)] W fun e w'=>e=.returned (.string D)∧Below W.heap.size W w' from fun W=>by
      have h9:=zmw R (zbm L) W (by rw[hl];exact HIR.out _ hmem) (by rw[hz];exact zjL hmem) (by have:=H12.out.1;omega);rw[hl,←hD] at h9;exact h9)
     have j0:(0:Int)≤(i:Int):=by omega
     have j1:(i:Int)<(k:Int):=by omega
     have j3:decide ((i:Int)<(k:Int))=true:=decide_eq_true j1;have kw:IntKind.i64.wrap ((i:Int)+1)=(i:Int)+1:=IntWalk.i64_in _ (by omega);have HLT:=Hh hlt;clear hcc hR hl hz hmem hlt hi hD;go_wp2_with (go_at_call 40;go_loud (refine(PS.out _).mono ?_;rintro e w4 ⟨rfl,b_⟩;have S4:=Hh (S.out.next b_);obtain⟨v4,c4⟩:=S4.out.cell (by have:=HN.out;have:=HLT.out;omega);have f4:=Lib.frozen_of_heap S4.out.gk i;clear b_ s0));go_roundw
     case rel=>exact⟨i+1,HLT.out,by go_num,by rw[←HD.out];exact S4.out.put (by have:=HN.out;have:=HLT.out;omega)⟩
     case measure=>have:=HLT.out;simp[intOf];omega
    ·have hie:i=k:=by omega
     subst hie;have t9:decide ((i:Int)<(i:Int))=false:=decide_eq_false (by omega);have TS:=Hh (show Ts wr (some ⟨W0.heap.size,0,none⟩) i (zbI L) from by
      have hs9:=S.out;have h0:=HN.out;subst h0;exact hs9.ts H12.out.1 H12.out.2)
     have QR2:=Hh (QR.out.next S.out.b);have GQ:=Hh (zpc W0.heap.size i (zbI L) wr TS.out (by rw[zaM,HN.out]) HF.out);have HA:∀er q,GqI (at0 (zbI L)) er q→er=0∧zaW (zdP L) q:=fun er q g=>zuA H12.out.1 H12.out.2 g;have HW1:(zaP (zbI L):Int)≤1000:=by have:=(zhy (zez H12.out.1 H12.out.2)).1;omega
     have HW2:((zbI L).length:Int)≤1000:=by rw[zaM];have:=H12.out.2;omega
     have HA2:=Hh HA;have HWW:=Hh (And.intro HW1 HW2);clear hlt hi S TS HA HW1 HW2;go_wp2_with (first
      | (go_at_call 41;go_loud (refine GQ.out.mono ?_;rintro e w5 ⟨A5,c5,n5,q,er,rfl,l5,n5_,a5,b_,gq⟩;obtain⟨rfl,gq2⟩:=HA2.out _ _ gq;have QR3:=Hh (QR2.out.next b_);have L5:=Hh l5;have N5:=Hh (n5_.below ((Below.refl w5.heap.size w5).alloc (Nat.le_refl _) (.cells #[.slice A5 n5 c5] 27)));have GQ2:=Hh gq2;clear l5 n5_ a5 b_ gq gq2))
      | (go_at_call 42;go_loud (refine(zrC A5 c5 n5 q 1000 _ N5.out L5.out (by rw[←L5.out];exact zuz GQ2.out HF.out) GQ2.out.good (by omega) (fun er X Y R g=>by rw[←L5.out] at g;exact zxe GQ2.out HWW.out.1 HWW.out.2 (by omega) HF.out g)).mono ?_;rintro e w6 ⟨A6,c6_,n6,hh,er6,rfl,l6,n6_,a6,b_,gh⟩;have hal6:=(Below.refl w6.heap.size w6).alloc (Nat.le_refl _) (.cells #[.slice A6 n6 c6_] 27);have QR4:=Hh (((QR3.out.next ((Below.refl w5.heap.size w5).alloc (Nat.le_refl _) (.cells #[.slice A5 n5 c5] 27))).next b_).next hal6);have L6:=Hh l6;have N6:=Hh (n6_.below hal6);have A6':=Hh a6;have GH:=Hh gh;have z0:=zaa QR4.out.k;have f0:=zam QR4.out.k;clear l6 n6_ a6 b_ gh hal6)))
     have e1:=World.cell?_setCell_same _ _ (.slice A6 n6 c6_) z0;refine bodyPost_ret (v:=.agg #[.slice A6 n6 c6_]) (by simp[results,Tryz.results21,go_sem,e1]) rfl ?_;exact⟨A6,c6_,n6,hh,rfl,L6.out,N6.out.boxed QR4.out.k,A6'.out,QR4.out.b.setCell (p:=⟨w.heap.size,0,none⟩) (Nat.le_refl _) _,q,er6,GQ2.out,by rw[L5.out];exact GH.out⟩
end Go.Proofs.YtbabbmdpgpcgjaaGreatDoor

namespace Go.Proofs.YtbabbmdpgpcgjaaGreatDoor
open Go.RowKit Txt
theorem zba (p:Nat)(x:Rs)(w:World)(h:At9 p x w) :
  Calls Tryz.prog 38 #[.pointer (some ⟨p,0,none⟩)] w fun e w'=>e=.returned (.bool (decide (x.k<x.s.size)))∧∃m,w'=w.drewN m:=by
 obtain⟨c0,c1,-⟩:=h.cells;clear h;go_enter Tryz.func38,Tryz.ntmps38;go_wp2;go_quiet (fail);go_wp2;go_ret;exact⟨rfl,_,rfl⟩
theorem zmx (p:Nat)(x:Rs)(w:World)(h:At9 p x w) :
  Calls Tryz.prog 92 #[.pointer (some ⟨p,0,none⟩)] w fun e w'=>e=.returned (.int .i64 x.k)∧w'=w:=by
 obtain⟨c0,c1,-⟩:=h.cells;clear h;go_enter Tryz.func92,Tryz.ntmps92;go_wp2_with fail;go_ret;exact⟨rfl,rfl⟩
def thr (k er:Int):Value:=.iface 87 (.agg #[.int .i64 k,.int .i64 er])
theorem zlh (v:Value)(k er:Int)(w:World) :
  Calls Tryz.prog 95 #[v,.int .i64 k,.int .i64 er] w fun e w'=>e=.panicked [{ v:=thr k er,recovered:=false }]∧w'=w:=by
 go_enter Tryz.func95,Tryz.ntmps95;go_wp2_with fail;exact⟨rfl,rfl,rfl⟩
theorem zgv (s:ByteArray)(k:Nat):(s.extract k s.size).data.toList=s.data.toList.drop k:=by
 rw[ByteArray.data_extract,Array.toList_extract,List.extract_eq_take_drop];refine List.take_of_length_le ?_;rw[List.length_drop,zaf];exact Nat.le_refl _
theorem zaQ (p:Nat)(x:Rs)(v:ByteArray)(w:World)(h:At9 p x w)(hk:x.k≤x.s.size)(hs:x.s.size≤1000000)(hv:v.size≤1000)(B:Bool)(hB:decide (comm (x.s.data.toList.drop x.k) v.data.toList=v.data.toList.length)=B) :
  Calls Tryz.prog 62 #[.pointer (some ⟨p,0,none⟩),.string v] w fun e w'=>e=.returned (.bool B)∧Lq9 p { x with k:=if B then x.k+v.size else x.k } w w':=by
 obtain⟨c0,c1,-⟩:=h.cells;have f1:=h.free 1;have i1:(0:Int)≤(x.k:Int):=by omega
 have i2:(x.k:Int)≤(x.s.size:Int):=by omega
 have HP:=Hh (show ∀W,Calls Tryz.prog 88 #[.string (x.s.extract x.k x.s.size),.string v] W fun e w'=>e=.returned (.bool B)∧w'=W from fun W=>by
  have h9:=zwW (x.s.extract x.k x.s.size) v W
  rwa [zgv,hB] at h9)
 have kw:IntKind.i64.wrap ((x.k:Int)+(v.size:Int))=((x.k+v.size:Nat):Int):=by
  rw[show(x.k:Int)+(v.size:Int)=((x.k+v.size:Nat):Int) by omega];exact IntWalk.i64_in _ (by omega)
 have H:=Hh h;have HB:=Hh hB;clear h hB;cases B with
 | true =>
  go_enter Tryz.func62,Tryz.ntmps62;go_wp2_with fail;go_quiet (first|(go_at_call 88;exact Calls.quiet_of_same (HP.out _)));go_wp2_with fail;go_ret;exact⟨rfl,(H.out.drew _).put rfl,(Kp.drew _ _ _).set ⟨p,1,none⟩ (fun _=>rfl) _⟩
 | false =>
  go_enter Tryz.func62,Tryz.ntmps62;go_wp2_with fail;go_quiet (first|(go_at_call 88;exact Calls.quiet_of_same (HP.out _)));go_wp2_with fail;go_ret;exact⟨rfl,Lq9.drew H.out _⟩
theorem zjM {l:List UInt8}{k:Nat}(C:UInt8)(h:l.length≤k):comm (l.drop k) [C]=0:=by
 rw[List.drop_eq_nil_of_le h];rfl
theorem zfk {l:List UInt8}{k:Nat}{C:UInt8}(h:l[k]?=some C):comm (l.drop k) [C]=1:=by
 rw[zfi h];unfold comm;rw[if_pos rfl,zgB];rfl
theorem zfl {l:List UInt8}{k:Nat}{c C:UInt8}(h:l[k]?=some c)(hc:c≠C):comm (l.drop k) [C]=0:=by
 rw[zfi h];unfold comm;rw[if_neg hc]
theorem zhC (x:Rs)(C:UInt8)(hs:x.s.size≤1000000){S:Nat}(hS:comm (x.s.data.toList.drop x.k) [C]=S)(W:World) :
  Calls Tryz.prog 122 #[.string (x.s.extract x.k x.s.size),.string ⟨#[C]⟩] W fun e w'=>e=.returned (.int .i64 (S:Nat))∧∃m,w'=W.drewN m:=by
 have h9:=znR (x.s.extract x.k x.s.size) ⟨#[C]⟩ W (by rw[ByteArray.size_extract];unfold maxLen;omega) (by show 1≤maxLen;unfold maxLen;omega)
 rwa [zgv,show(⟨#[C]⟩:ByteArray).data.toList=[C] from rfl,hS] at h9
theorem zxg (C:UInt8):(⟨#[]⟩:ByteArray)++(⟨#[C]⟩:ByteArray).extract 0 1=⟨#[C]⟩:=by
 apply ByteArray.ext;rw[ByteArray.data_append,ByteArray.data_extract];rfl
theorem znO (p:Nat)(x:Rs)(C:UInt8)(w:World)(h:At9 p x w)(hk:x.k=x.s.size)(hs:x.s.size≤1000000)(hh:x.h=⟨#[]⟩) :
  Calls Tryz.prog 90 #[.pointer (some ⟨p,0,none⟩),.string ⟨#[C]⟩] w fun e w'=>e=.returned (.tuple #[])∧Lq9 p { x with h:=⟨#[C]⟩ } w w':=by
 obtain⟨c0,c1,c2,-⟩:=h.cells;have f1:=h.free 1;have f2:=h.free 2;rw[hh] at c2;have i1:(0:Int)≤(x.k:Int):=by omega
 have i2:(x.k:Int)≤(x.s.size:Int):=by omega
 have HP:=Hh (zhC x C hs (zjM C (by rw[zaf];omega)));have H:=Hh h;have HK:=Hh hk;have kw:IntKind.i64.wrap (x.k:Int)=(x.k:Int):=IntWalk.i64_in _ (by omega);have kw2:wrap64 (x.k:Int)=(x.k:Int):=by
  unfold wrap64;omega
 clear h hh hk hs;go_enter Tryz.func90,Tryz.ntmps90;go_wp2_with fail;go_quiet (first|(go_at_call 122;exact Calls.quiet_of (HP.out _)));rename_i nq;have H2:At9 p x ((w.drewN nq).setCell ⟨p,1,none⟩ (.int .i64 x.k)):=(H.out.drew nq).put rfl;have H3:Kp p w ((w.drewN nq).setCell ⟨p,1,none⟩ (.int .i64 x.k)):=(Kp.drew p w nq).set ⟨p,1,none⟩ (fun _=>rfl) _;have H2:=Hh H2;have H3:=Hh H3;go_wp2_with (go_at_call 38;go_loud (refine(zba p x _ H2.out).mono ?_;rintro e w2 ⟨rfl,m2,rfl⟩;rw[show decide (x.k<x.s.size)=false from decide_eq_false (by have:=HK.out;omega)]));have c2':=(World.cell?_setCell_other (w.drewN nq) ⟨p,1,none⟩ ⟨p,2,none⟩ (.int .i64 x.k) (by simp)).trans c2;have z0:(0:Int)≤((0:Nat):Int):=by omega
 have z1:((0:Nat):Int)≤1:=by omega
 go_region;go_wp2;go_end0;exact⟨rfl,(H2.out.drew _).put (by rw[zxg C];rfl),(H3.out.more _).set ⟨p,2,none⟩ (fun _=>rfl) _⟩
theorem zsc (p:Nat)(x:Rs)(C:UInt8)(w:World)(h:At9 p x w)(hc:x.s.data.toList[x.k]?=some C)(hk:x.k<x.s.size)(hs:x.s.size≤1000000)(hh:x.h=⟨#[]⟩) :
  Calls Tryz.prog 90 #[.pointer (some ⟨p,0,none⟩),.string ⟨#[C]⟩] w fun e w'=>e=.returned (.tuple #[])∧Lq9 p { x with k:=x.k+1 } w w':=by
 obtain⟨c0,c1,c2,-⟩:=h.cells;have f1:=h.free 1;have f2:=h.free 2;rw[hh] at c2;have i1:(0:Int)≤(x.k:Int):=by omega
 have i2:(x.k:Int)≤(x.s.size:Int):=by omega
 have HP:=Hh (zhC x C hs (zfk hc));have H:=Hh h;have HH:=Hh hh;have HK:=Hh hk;have kw:IntKind.i64.wrap ((x.k:Int)+1)=((x.k+1:Nat):Int):=IntWalk.i64_in _ (by omega);clear h hh hk hs hc;go_enter Tryz.func90,Tryz.ntmps90;go_wp2_with fail;go_quiet (first|(go_at_call 122;exact Calls.quiet_of (HP.out _)));rename_i nq;have H2:At9 p { x with k:=x.k+1 } ((w.drewN nq).setCell ⟨p,1,none⟩ (.int .i64 ((x.k+1:Nat):Int))):=(H.out.drew nq).put rfl;have H3:Kp p w ((w.drewN nq).setCell ⟨p,1,none⟩ (.int .i64 ((x.k+1:Nat):Int))):=(Kp.drew p w nq).set ⟨p,1,none⟩ (fun _=>rfl) _;have H2:=Hh H2;have H3:=Hh H3;go_wp2_with fail;have c2':=(World.cell?_setCell_other (w.drewN nq) ⟨p,1,none⟩ ⟨p,2,none⟩ (.int .i64 ((x.k+1:Nat):Int)) (by simp)).trans c2;have z0:(0:Int)≤((1:Nat):Int):=by omega
 have z1:((1:Nat):Int)≤1:=by omega
 go_region;go_wp2;go_end0;exact⟨rfl,(H2.out.drew _).put (by rw[←HH.out];rfl),(H3.out.more _).set ⟨p,2,none⟩ (fun _=>rfl) _⟩
theorem zjN (p:Nat)(x:Rs)(C c:UInt8)(w:World)(h:At9 p x w)(hc:x.s.data.toList[x.k]?=some c)(hC:c≠C)(hk:x.k<x.s.size)(hs:x.s.size≤1000000)(hh:x.h=⟨#[]⟩) :
  Calls Tryz.prog 90 #[.pointer (some ⟨p,0,none⟩),.string ⟨#[C]⟩] w fun e w'=>e=.panicked [{ v:=thr x.k 2,recovered:=false }]∧Lq9 p x w w':=by
 obtain⟨c0,c1,c2,-⟩:=h.cells;have f1:=h.free 1;have f2:=h.free 2;rw[hh] at c2;have i1:(0:Int)≤(x.k:Int):=by omega
 have i2:(x.k:Int)≤(x.s.size:Int):=by omega
 have HP:=Hh (zhC x C hs (zfl hc hC));have H:=Hh h;have HK:=Hh hk;have kw:IntKind.i64.wrap (x.k:Int)=(x.k:Int):=IntWalk.i64_in _ (by omega);have kw2:wrap64 (x.k:Int)=(x.k:Int):=by
  unfold wrap64;omega
 clear h hh hk hs hc hC;go_enter Tryz.func90,Tryz.ntmps90;go_wp2_with fail;go_quiet (first|(go_at_call 122;exact Calls.quiet_of (HP.out _)));rename_i nq;have H2:At9 p x ((w.drewN nq).setCell ⟨p,1,none⟩ (.int .i64 x.k)):=(H.out.drew nq).put rfl;have H3:Kp p w ((w.drewN nq).setCell ⟨p,1,none⟩ (.int .i64 x.k)):=(Kp.drew p w nq).set ⟨p,1,none⟩ (fun _=>rfl) _;have H2:=Hh H2;have H3:=Hh H3;go_wp2_with (first
  | (go_at_call 38;go_loud (refine(zba p x _ H2.out).mono ?_;rintro e w2 ⟨rfl,m2,rfl⟩;rw[show decide (x.k<x.s.size)=true from decide_eq_true (by have:=HK.out;omega)]))
  | (go_at_call 95;go_loud (refine(zlh _ x.k 2 _).mono ?_;rintro e w3 ⟨rfl,rfl⟩)))
 exact⟨rfl,rfl,H2.out.drew _,H3.out.more _⟩
def zxh (p:Nat)(x:Rs)(w:World)(e:Ending)(w':World):Prop :=
 match eolZ x.s.data.toList x.k with
 | .go k=>e=.returned (.tuple #[])∧Lq9 p { x with k:=k } w w'
 | .short=>e=.returned (.tuple #[])∧Lq9 p { x with k:=x.s.size,h:=⟨#[10]⟩ } w w'
 | .bad k=>e=.panicked [{ v:=thr k 2,recovered:=false }]∧Kp p w w'
theorem zeA {s:ByteArray}{k:Nat}{c:UInt8}(h:s.data.toList[k]?=some c):k<s.size:=by
 rcases Nat.lt_or_ge k s.data.toList.length with h1|h1
 ·rwa [zaf] at h1
 ·rw[List.getElem?_eq_none h1] at h;cases h
theorem zxi (p:Nat)(x:Rs)(w:World)(h:At9 p x w)(hk:x.k≤x.s.size)(hs:x.s.size≤1000000)(hh:x.h=⟨#[]⟩)(hn:x.k=x.s.size) :
  Calls Tryz.prog 66 #[.pointer (some ⟨p,0,none⟩)] w fun e w'=>e=.returned (.tuple #[])∧Lq9 p x w w':=by
 have H:=Hh h;have HK:=Hh hk;have HS:=Hh hs;have HH:=Hh hh;have HB:=Hh (show decide (comm (x.s.data.toList.drop x.k) (⟨#[13]⟩:ByteArray).data.toList=(⟨#[13]⟩:ByteArray).data.toList.length)=false from by rw[show(⟨#[13]⟩:ByteArray).data.toList=[13] from rfl,zjM 13 (by rw[zaf];omega)];rfl);have HN:=Hh hn;clear h hk hs hh hn;go_enter Tryz.func66,Tryz.ntmps66;go_wp2_with (first
  | (go_at_call 62;go_loud (refine(zaQ p x ⟨#[13]⟩ _ H.out HK.out HS.out (by show 1≤1000;omega) false HB.out).mono ?_;rintro e w2 ⟨rfl,q2⟩;have Q2:=Hh (show Lq9 p x w w2 from q2);clear q2))
  | (go_at_call 38;go_loud (refine(zba p x _ Q2.out.o).mono ?_;rintro e w3 ⟨rfl,m3,rfl⟩;rw[show decide (x.k<x.s.size)=false from decide_eq_false (by have:=HN.out;omega)];have Q3:=Hh (show Lq9 p x w (w2.drewN m3) from Q2.out.trans (Lq9.drew Q2.out.o m3));clear Q2)))
 go_end0;exact⟨rfl,Q3.out⟩
theorem zuD (p:Nat)(x:Rs)(w:World)(h:At9 p x w)(hk:x.k≤x.s.size)(hs:x.s.size≤1000000)(hh:x.h=⟨#[]⟩)(hc:x.s.data.toList[x.k]?=some 13)(hn:x.k+1=x.s.size) :
  Calls Tryz.prog 66 #[.pointer (some ⟨p,0,none⟩)] w fun e w'=>e=.returned (.tuple #[])∧Lq9 p { x with k:=x.s.size,h:=⟨#[10]⟩ } w w':=by
 have H:=Hh h;have HK:=Hh hk;have HS:=Hh hs;have HH:=Hh hh;have HB:=Hh (show decide (comm (x.s.data.toList.drop x.k) (⟨#[13]⟩:ByteArray).data.toList=(⟨#[13]⟩:ByteArray).data.toList.length)=true from by rw[show(⟨#[13]⟩:ByteArray).data.toList=[13] from rfl,zfk hc];rfl);have HC:=Hh hc;have HN:=Hh hn;clear h hk hs hh hc hn;go_enter Tryz.func66,Tryz.ntmps66;go_wp2_with (first
  | (go_at_call 62;go_loud (refine(zaQ p x ⟨#[13]⟩ _ H.out HK.out HS.out (by show 1≤1000;omega) true HB.out).mono ?_;rintro e w2 ⟨rfl,q2⟩;have Q2:=Hh (show Lq9 p { x with k:=x.k+1 } w w2 from q2);clear q2))
  | (go_at_call 90;go_loud (refine(znO p { x with k:=x.k+1 } 10 _ Q2.out.o HN.out HS.out HH.out).mono ?_;rintro e w4 ⟨rfl,q4⟩;have Q4:=Hh q4;clear q4)))
 go_end0;exact⟨rfl,by have h9:=Q2.out.trans Q4.out;rw[←HN.out];exact h9⟩
theorem zym (p:Nat)(x:Rs)(w:World)(h:At9 p x w)(hk:x.k≤x.s.size)(hs:x.s.size≤1000000)(hh:x.h=⟨#[]⟩)(hc:x.s.data.toList[x.k]?=some 13)(hd:x.s.data.toList[x.k+1]?=some 10) :
  Calls Tryz.prog 66 #[.pointer (some ⟨p,0,none⟩)] w fun e w'=>e=.returned (.tuple #[])∧Lq9 p { x with k:=x.k+2 } w w':=by
 have H:=Hh h;have HK:=Hh hk;have HS:=Hh hs;have HH:=Hh hh;have HB:=Hh (show decide (comm (x.s.data.toList.drop x.k) (⟨#[13]⟩:ByteArray).data.toList=(⟨#[13]⟩:ByteArray).data.toList.length)=true from by rw[show(⟨#[13]⟩:ByteArray).data.toList=[13] from rfl,zfk hc];rfl);have HC:=Hh hc;have HD:=Hh hd;clear h hk hs hh hc hd;go_enter Tryz.func66,Tryz.ntmps66;go_wp2_with (first
  | (go_at_call 62;go_loud (refine(zaQ p x ⟨#[13]⟩ _ H.out HK.out HS.out (by show 1≤1000;omega) true HB.out).mono ?_;rintro e w2 ⟨rfl,q2⟩;have Q2:=Hh (show Lq9 p { x with k:=x.k+1 } w w2 from q2);clear q2))
  | (go_at_call 90;go_loud (refine(zsc p { x with k:=x.k+1 } 10 _ Q2.out.o HD.out (zeA HD.out) HS.out HH.out).mono ?_;rintro e w4 ⟨rfl,q4⟩;have Q4:=Hh q4;clear q4)))
 go_end0;exact⟨rfl,Q2.out.trans Q4.out⟩
theorem zxj (p:Nat)(x:Rs)(w:World)(h:At9 p x w)(hk:x.k≤x.s.size)(hs:x.s.size≤1000000)(hh:x.h=⟨#[]⟩)(d:UInt8)(hc:x.s.data.toList[x.k]?=some 13)(hd:x.s.data.toList[x.k+1]?=some d)(hn:d≠10) :
  Calls Tryz.prog 66 #[.pointer (some ⟨p,0,none⟩)] w fun e w'=>e=.panicked [{ v:=thr (x.k+1:Nat) 2,recovered:=false }]∧Kp p w w':=by
 have H:=Hh h;have HK:=Hh hk;have HS:=Hh hs;have HH:=Hh hh;have HB:=Hh (show decide (comm (x.s.data.toList.drop x.k) (⟨#[13]⟩:ByteArray).data.toList=(⟨#[13]⟩:ByteArray).data.toList.length)=true from by rw[show(⟨#[13]⟩:ByteArray).data.toList=[13] from rfl,zfk hc];rfl);have HC:=Hh hc;have HD:=Hh hd;have HN:=Hh hn;clear h hk hs hh hc hd hn;go_enter Tryz.func66,Tryz.ntmps66;go_wp2_with (first
  | (go_at_call 62;go_loud (refine(zaQ p x ⟨#[13]⟩ _ H.out HK.out HS.out (by show 1≤1000;omega) true HB.out).mono ?_;rintro e w2 ⟨rfl,q2⟩;have Q2:=Hh (show Lq9 p { x with k:=x.k+1 } w w2 from q2);clear q2))
  | (go_at_call 90;go_loud (refine(zjN p { x with k:=x.k+1 } 10 d _ Q2.out.o HD.out HN.out (zeA HD.out) HS.out HH.out).mono ?_;rintro e w4 ⟨rfl,q4⟩;have Q4:=Hh q4;clear q4)))
 exact⟨rfl,rfl,(Q2.out.trans Q4.out).k⟩
theorem zyn (p:Nat)(x:Rs)(w:World)(h:At9 p x w)(hk:x.k≤x.s.size)(hs:x.s.size≤1000000)(hh:x.h=⟨#[]⟩)(hc:x.s.data.toList[x.k]?=some 10) :
  Calls Tryz.prog 66 #[.pointer (some ⟨p,0,none⟩)] w fun e w'=>e=.returned (.tuple #[])∧Lq9 p { x with k:=x.k+1 } w w':=by
 have H:=Hh h;have HK:=Hh hk;have HS:=Hh hs;have HH:=Hh hh;have HB:=Hh (show decide (comm (x.s.data.toList.drop x.k) (⟨#[13]⟩:ByteArray).data.toList=(⟨#[13]⟩:ByteArray).data.toList.length)=false from by rw[show(⟨#[13]⟩:ByteArray).data.toList=[13] from rfl,zfl hc (by decide)];rfl);have HC:=Hh hc;clear h hk hs hh hc;go_enter Tryz.func66,Tryz.ntmps66;go_wp2_with (first
  | (go_at_call 62;go_loud (refine(zaQ p x ⟨#[13]⟩ _ H.out HK.out HS.out (by show 1≤1000;omega) false HB.out).mono ?_;rintro e w2 ⟨rfl,q2⟩;have Q2:=Hh (show Lq9 p x w w2 from q2);clear q2))
  | (go_at_call 38;go_loud (refine(zba p x _ Q2.out.o).mono ?_;rintro e w3 ⟨rfl,m3,rfl⟩;rw[show decide (x.k<x.s.size)=true from decide_eq_true (zeA HC.out)];have Q3:=Hh (show Lq9 p x w (w2.drewN m3) from Q2.out.trans (Lq9.drew Q2.out.o m3));clear Q2))
  | (go_at_call 90;go_loud (refine(zsc p x 10 _ Q3.out.o HC.out (zeA HC.out) HS.out HH.out).mono ?_;rintro e w4 ⟨rfl,q4⟩;have Q4:=Hh q4;clear q4)))
 go_end0;exact⟨rfl,Q3.out.trans Q4.out⟩
theorem zyo (p:Nat)(x:Rs)(w:World)(h:At9 p x w)(hk:x.k≤x.s.size)(hs:x.s.size≤1000000)(hh:x.h=⟨#[]⟩)(c:UInt8)(hc:x.s.data.toList[x.k]?=some c)(hd:c≠13)(hn:c≠10) :
  Calls Tryz.prog 66 #[.pointer (some ⟨p,0,none⟩)] w fun e w'=>e=.panicked [{ v:=thr (x.k:Nat) 2,recovered:=false }]∧Kp p w w':=by
 have H:=Hh h;have HK:=Hh hk;have HS:=Hh hs;have HH:=Hh hh;have HB:=Hh (show decide (comm (x.s.data.toList.drop x.k) (⟨#[13]⟩:ByteArray).data.toList=(⟨#[13]⟩:ByteArray).data.toList.length)=false from by rw[show(⟨#[13]⟩:ByteArray).data.toList=[13] from rfl,zfl hc hd];rfl);have HC:=Hh hc;have HD:=Hh hd;have HN:=Hh hn;clear h hk hs hh hc hd hn;go_enter Tryz.func66,Tryz.ntmps66;go_wp2_with (first
  | (go_at_call 62;go_loud (refine(zaQ p x ⟨#[13]⟩ _ H.out HK.out HS.out (by show 1≤1000;omega) false HB.out).mono ?_;rintro e w2 ⟨rfl,q2⟩;have Q2:=Hh (show Lq9 p x w w2 from q2);clear q2))
  | (go_at_call 38;go_loud (refine(zba p x _ Q2.out.o).mono ?_;rintro e w3 ⟨rfl,m3,rfl⟩;rw[show decide (x.k<x.s.size)=true from decide_eq_true (zeA HC.out)];have Q3:=Hh (show Lq9 p x w (w2.drewN m3) from Q2.out.trans (Lq9.drew Q2.out.o m3));clear Q2))
  | (go_at_call 90;go_loud (refine(zjN p x 10 c _ Q3.out.o HC.out HN.out (zeA HC.out) HS.out HH.out).mono ?_;rintro e w4 ⟨rfl,q4⟩;have Q4:=Hh q4;clear q4)))
 exact⟨rfl,rfl,(Q3.out.trans Q4.out).k⟩
theorem zmy (p:Nat)(x:Rs)(w:World)(h:At9 p x w)(hk:x.k≤x.s.size)(hs:x.s.size≤1000000)(hh:x.h=⟨#[]⟩):Calls Tryz.prog 66 #[.pointer (some ⟨p,0,none⟩)] w (zxh p x w):=by
 unfold zxh eolZ;cases h1:x.s.data.toList[x.k]? with
 | none =>
  refine zxi p x w h hk hs hh ?_;have h2:=List.getElem?_eq_none_iff.1 h1;rw[zaf] at h2;omega
 | some c =>
  show Calls _ _ _ _ (fun e w'=>match (if c=13 then _ else _:Eo) with|.go k=>_|.short=>_|.bad k=>_);by_cases hc:c=13
  ·subst hc;rw[if_pos rfl];cases h2:x.s.data.toList[x.k+1]? with
   | none =>
    refine zuD p x w h hk hs hh h1 ?_;have h3:=List.getElem?_eq_none_iff.1 h2;rw[zaf] at h3;have:=zeA h1;omega
   | some d =>
    by_cases hd:d=10
    ·subst hd;exact zym p x w h hk hs hh h1 h2
    ·show Calls _ _ _ _ (fun e w'=>match (if d=10 then _ else _:Eo) with|.go k=>_|.short=>_|.bad k=>_);rw[if_neg hd];exact zxj p x w h hk hs hh d h1 h2 hd
  ·rw[if_neg hc];by_cases hd:c=10
   ·subst hd;exact zyn p x w h hk hs hh h1
   ·rw[if_neg hd];exact zyo p x w h hk hs hh c h1 hc hd
def zmz (p:Nat)(W:World):Nat:=match W.cell? ⟨p,1,none⟩ with|some (.int _ i)=>i.toNat|_=>0
theorem At9.pos {p:Nat}{x:Rs}{W:World}(h:At9 p x W):zmz p W=x.k:=by
 unfold zmz;rw[h.cells.2.1];simp
theorem zjO (s:ByteArray)(k n:Nat):(s.extract k (k+n)).data.toList=(s.data.toList.drop k).take n:=by
 rw[ByteArray.data_extract,Array.toList_extract,List.extract_eq_take_drop,Nat.add_sub_cancel_left]
theorem zli (c:UInt8):decide (Lib.indexByte [46,79] ((c.toNat:Int)).toNat.toUInt8≥0)=zau c:=by
 have e:((c.toNat:Int)).toNat.toUInt8=c:=by simp
 rw[e];unfold zau Lib.indexByte Lib.indexByte Lib.indexByte;by_cases h1:c=46
 ·subst h1;rfl
 ·by_cases h2:c=79
  ·subst h2;rfl
  ·have h3:(46==c)=false:=beq_eq_false_iff_ne.2 (Ne.symm h1);have h4:(79==c)=false:=beq_eq_false_iff_ne.2 (Ne.symm h2);have h5:(c==46)=false:=beq_eq_false_iff_ne.2 h1;have h6:(c==79)=false:=beq_eq_false_iff_ne.2 h2;rw[h3,h4,h5,h6];rfl
theorem zch {f:FuncId}{args:Array Value}{w:World}{n:Nat}{v:Value}(h:Calls Tryz.prog f args (w.drewN n) fun e w'=>e=.returned v∧∃q,w'=(w.drewN n).drewN q):Calls Tryz.prog f args (w.drewN n) fun e w''=>e=.returned v∧∃m,w''=w.drewN m :=
 h.mono fun _ _ ⟨he,q,hq⟩=>⟨he,n+q,by rw[hq,World.drewN_drewN]⟩
theorem zhD (p:Nat)(x:Rs)(w:World)(h:At9 p x w)(hk:x.k≤x.s.size)(hs:x.s.size≤1000000) :
  Calls Tryz.prog 93 #[.pointer (some ⟨p,0,none⟩),.string ⟨#[46,79]⟩] w fun e w' =>
   e=.returned (.string (x.s.extract x.k (x.k+zah zau (x.s.data.toList.drop x.k))))∧Lq9 p { x with k:=x.k+zah zau (x.s.data.toList.drop x.k) } w w':=by
 obtain⟨n,hn⟩:∃n,n=zah zau (x.s.data.toList.drop x.k):=⟨_,rfl⟩;rw[←hn];obtain⟨c0,c1,-⟩:=h.cells;have H:=Hh h;have HN:=Hh hn;have HK:=Hh hk;have HS:=Hh hs;clear h hn hk hs;go_enter Tryz.func93,Tryz.ntmps93;go_wp2_with fail;go_loopw [25] (fun z wr=>∃(v:Value) (j:Nat),z=v∧x.k≤j∧j≤x.s.size∧n=(j-x.k)+zah zau (x.s.data.toList.drop j)∧Lq9 p { x with k:=j } w wr) (fun _ wr=>x.s.size-zmz p wr)
 case atStart=>exact⟨_,x.k,rfl,Nat.le_refl _,HK.out,by rw[Nat.sub_self,Nat.zero_add];exact HN.out,H.out,Ky.refl _ _⟩
 case round =>
  obtain⟨v,j,rfl,h1,h2,h3,h4⟩:=hrel;have HJ:=Hh (And.intro h1 (And.intro h2 h3));have H4:=Hh h4;clear h1 h2 h3 h4 c0 c1;obtain⟨c0,c1,-⟩:=H4.out.o.cells;have f1:=H4.out.o.free 1;have i1:(0:Int)≤(j:Int):=by omega
  rcases Nat.lt_or_ge j x.s.size with hlt|hge
  ·have i2:(j:Int)<(x.s.size:Int):=by omega
   have HLT:=Hh hlt;have HM:=Hh (show ∀m,Calls Tryz.prog 38 #[.pointer (some ⟨p,0,none⟩)] (wr.drewN m) fun e w'=>e=.returned (.bool true)∧∃q,w'=(wr.drewN m).drewN q from fun m=>by
    have h9:=zba p _ _ (H4.out.o.drew m)
    rwa [show decide ((Rs.mk x.s j x.h x.ru x.most x.count x.a x.n x.c).k<(Rs.mk x.s j x.h x.ru x.most x.count x.a x.n x.c).s.size)=true from decide_eq_true HLT.out] at h9)
   obtain⟨I,hI⟩:∃I,I=Lib.indexByte [46,79] (((x.s[j]'hlt).toNat:Int)).toNat.toUInt8:=⟨_,rfl⟩;have HX:=Hh (show ∀W,Calls Tryz.prog 127 #[.string ⟨#[46,79]⟩,.int .u8 ((x.s[j]'hlt).toNat:Int)] W fun e w'=>e=.returned (.int .i64 I)∧w'=W from fun W=>by
    rw[hI];exact zrP _ _ _)
   have HG:=Hh (zbQ hlt);cases hr:zau (x.s[j]'hlt) with
   | true =>
    have d1:decide (I≥0)=true:=by rw[hI,zli,hr]
    have d2:decide (0≤I)=true:=d1;have kw:IntKind.i64.wrap ((j:Int)+1)=((j+1:Nat):Int):=IntWalk.i64_in _ (by have:=HS.out;omega);have HR:=Hh hr;clear hI hr;go_wp2;go_quiet (first
     | (go_at_call 38;exact zch (HM.out _))
     | (go_at_call 127;exact Calls.quiet_of_same (HX.out _)))
    go_wp2;go_roundw
    case rel=>exact⟨_,j+1,rfl,by have:=HJ.out.1;omega,HLT.out,by have h9:=HJ.out;rw[zcX HG.out HR.out] at h9;omega,(H4.out.o.drew _).put rfl,(H4.out.k.more _).set ⟨p,1,none⟩ (fun _=>rfl) _⟩
    case measure =>
     have e1:=H4.out.o.pos;have e2:zmz p ((wr.drewN nq).setCell ⟨p,1,none⟩ (.int .i64 ((j:Int)+1)))=j+1:=At9.pos (x:={ x with k:=j+1 }) ((H4.out.o.drew _).put rfl);have:=HLT.out;rw[e2,e1];show x.s.size-(j+1)<x.s.size-j;omega
   | false =>
    have d1:decide (I≥0)=false:=by rw[hI,zli,hr]
    have d2:decide (0≤I)=false:=d1;have HR:=Hh hr;have HE:=Hh (show j=x.k+n by have h9:=HJ.out;rw[zle HG.out hr] at h9;omega);have j1:(0:Int)≤(x.k:Int):=by omega
    have j2:(x.k:Int)≤(j:Int):=by have:=HJ.out.1;omega
    have j3:(j:Int)≤(x.s.size:Int):=by omega
    clear hI hr;go_wp2;go_quiet (first
     | (go_at_call 38;exact zch (HM.out _))
     | (go_at_call 127;exact Calls.quiet_of_same (HX.out _)))
    go_wp2;go_quiet (fail);go_wp2;go_ret;exact⟨by rw[←HE.out];rfl,by rw[←HE.out];exact H4.out.o,(H4.out.k.more _).more _⟩
  ·have HM:=Hh (show ∀m,Calls Tryz.prog 38 #[.pointer (some ⟨p,0,none⟩)] (wr.drewN m) fun e w'=>e=.returned (.bool false)∧∃q,w'=(wr.drewN m).drewN q from fun m=>by
    have h9:=zba p _ _ (H4.out.o.drew m)
    rwa [show decide ((Rs.mk x.s j x.h x.ru x.most x.count x.a x.n x.c).k<(Rs.mk x.s j x.h x.ru x.most x.count x.a x.n x.c).s.size)=false from decide_eq_false (by show ¬ j<x.s.size;omega)] at h9)
   have HE:=Hh (show j=x.k+n by have h9:=HJ.out;rw[znL (by rw[zaf];omega)] at h9;omega);have j1:(0:Int)≤(x.k:Int):=by omega
   have j2:(x.k:Int)≤(j:Int):=by have:=HJ.out.1;omega
   have j3:(j:Int)≤(x.s.size:Int):=by have:=HJ.out.2.1;omega
   clear hge;go_wp2;go_quiet (first
    | (go_at_call 38;exact zch (HM.out _)))
   go_wp2;go_quiet (fail);go_wp2;go_ret;exact⟨by rw[←HE.out];rfl,by rw[←HE.out];exact H4.out.o,(H4.out.k.more _).more _⟩
theorem Kp.below {p:Nat}{a b c:World}(h:Kp p a b)(k:Below b.heap.size b c):Kp p a c:=Ky.below h k
theorem At9.below {p:Nat}{x:Rs}{a b:World}(h:At9 p x a)(k:Below a.heap.size a b):At9 p x b:=(k.block _ h.lt).trans h
theorem zmA (p:Nat)(x:Rs)(w:World)(h:At9 p x w)(hk:x.k≤x.s.size)(hs:x.s.size≤1000000) :
  Calls Tryz.prog 64 #[.pointer (some ⟨p,0,none⟩)] w fun e w'=>e=.returned (.tuple #[])∧Lq9 p { x with k:=x.k+zah zaL (x.s.data.toList.drop x.k) } w w':=by
 obtain⟨n,hn⟩:∃n,n=zah zaL (x.s.data.toList.drop x.k):=⟨_,rfl⟩;rw[←hn];obtain⟨t,ht⟩:∃t,t=x.s.extract x.k x.s.size:=⟨_,rfl⟩;have htl:t.data.toList=x.s.data.toList.drop x.k:=by rw[ht,zgv]
 have htz:t.size=x.s.size-x.k:=by rw[←zaf,htl,List.length_drop,zaf]
 have hn9:n≤t.size:=by rw[hn,←htl,←zaf];exact zfF _ _
 obtain⟨c0,c1,-⟩:=h.cells;have f1:=h.free 1;have H:=Hh h;have HT:=Hh ht;have HR:=Hh (show remI t.data.toList=if n<t.size then (n:Int) else -1 by unfold remI;rw[htl,←hn,←htl,zaf]);have i1:(0:Int)≤(x.k:Int):=by omega
 have i2:(x.k:Int)≤(x.s.size:Int):=by omega
 have HZ:=Hh (show t.size≤1000000 by omega);have kw:IntKind.i64.wrap ((x.k:Int)+(n:Int))=((x.k+n:Nat):Int):=by
  rw[show(x.k:Int)+(n:Int)=((x.k+n:Nat):Int) by omega];exact IntWalk.i64_in _ (by omega)
 have HN:=Hh hn9;clear h hn hk hs ht htl htz hn9;go_enter Tryz.func64,Tryz.ntmps64;go_wp2;go_quiet (fail);rw[←HT.out];rename_i nq;rcases Nat.lt_or_ge n t.size with hlt|hge
 ·have h9:remI t.data.toList=(n:Int):=by rw[HR.out,if_pos hlt]
  have H9:=Hh h9;have j1:(0:Int)≤(n:Int):=by omega
  have j2:(n:Int)≤(t.size:Int):=by omega
  have j3:decide ((n:Int)≥0)=true:=decide_eq_true j1;have e1:min n t.size=n:=by omega
  clear h9 hlt;go_wp2_with (go_at_call 91;go_loud (refine(zrV _ _ HZ.out).mono ?_;rintro e w2 ⟨rfl,b_⟩;rw[H9.out];have HO:=Hh ((H.out.drew nq).below b_);have HK:=Hh ((Kp.drew p w nq).below b_);clear b_ c0 c1 f1;obtain⟨c0,c1,-⟩:=HO.out.cells;have f1:=HO.out.free 1));go_end0;exact⟨rfl,HO.out.put rfl,HK.out.set ⟨p,1,none⟩ (fun _=>rfl) _⟩
 ·have h9:remI t.data.toList = -1:=by rw[HR.out,if_neg (by omega)]
  have H9:=Hh h9;have HE:=Hh (show n=t.size by have:=HN.out;omega);have kw2:IntKind.i64.wrap ((x.k:Int)+(t.size:Int))=((x.k+n:Nat):Int):=by rw[←HE.out];exact kw
  clear h9 hge kw;go_wp2_with (go_at_call 91;go_loud (refine(zrV _ _ HZ.out).mono ?_;rintro e w2 ⟨rfl,b_⟩;rw[H9.out];have HO:=Hh ((H.out.drew nq).below b_);have HK:=Hh ((Kp.drew p w nq).below b_);clear b_ c0 c1 f1;obtain⟨c0,c1,-⟩:=HO.out.cells;have f1:=HO.out.free 1));go_end0;exact⟨rfl,HO.out.put rfl,HK.out.set ⟨p,1,none⟩ (fun _=>rfl) _⟩
abbrev zeB (l:List UInt8)(k:Nat):Nat:=min 40 (zah sgn (l.drop k))
theorem zpd (p:Nat)(x:Rs)(w:World)(h:At9 p x w)(hk:x.k≤x.s.size)(hs:x.s.size≤1000000)(n:Nat)(hn:zeB x.s.data.toList x.k=n)(h0:0<n) :
  Calls Tryz.prog 63 #[.pointer (some ⟨p,0,none⟩)] w fun e w'=>e=.returned (.string (x.s.extract x.k (x.k+n)))∧Lq9 p { x with k:=x.k+n } w w':=by
 obtain⟨c0,c1,-⟩:=h.cells;have H:=Hh h;have HN:=Hh hn;have HK:=Hh hk;have HS:=Hh hs;have H0:=Hh h0;clear h hn hk hs h0;go_enter Tryz.func63,Tryz.ntmps63;go_wp2_with fail;go_loopw [30] (fun z wr=>∃(v:Value) (j:Nat),z=v∧x.k≤j∧j≤x.s.size∧j-x.k≤40∧zah sgn (x.s.data.toList.drop x.k)=(j-x.k)+zah sgn (x.s.data.toList.drop j)∧Lq9 p { x with k:=j } w wr) (fun _ wr=>x.s.size-zmz p wr)
 case atStart=>exact⟨_,x.k,rfl,Nat.le_refl _,HK.out,by omega,by omega,H.out,Ky.refl _ _⟩
 case round =>
  obtain⟨v,j,rfl,h1,h2,h3,h4,h5⟩:=hrel;have H4:=Hh h5;have HJ:=Hh (And.intro h1 (And.intro h2 (And.intro h3 h4)));clear h1 h2 h3 h4 h5 c0 c1;obtain⟨c0,c1,-⟩:=H4.out.o.cells;have f1:=H4.out.o.free 1;have i1:(0:Int)≤(j:Int):=by omega
  have j1:(0:Int)≤(x.k:Int):=by omega
  have j2:(x.k:Int)≤(j:Int):=by have:=HJ.out.1;omega
  have j3:(j:Int)≤(x.s.size:Int):=by have:=HJ.out.2.1;omega
  have kd:IntKind.i64.wrap ((j:Int)-(x.k:Int))=(j:Int)-(x.k:Int):=IntWalk.i64_in _ (by have:=HS.out;omega);have kd2:wrap64 ((j:Int)-(x.k:Int))=(j:Int)-(x.k:Int):=by have:=HS.out;unfold wrap64;omega
  rcases Nat.lt_or_ge j x.s.size with hlt|hge
  ·have i2:(j:Int)<(x.s.size:Int):=by omega
   have HLT:=Hh hlt;have HM:=Hh (show ∀m,Calls Tryz.prog 38 #[.pointer (some ⟨p,0,none⟩)] (wr.drewN m) fun e w'=>e=.returned (.bool true)∧∃q,w'=(wr.drewN m).drewN q from fun m=>by
    have h9:=zba p _ _ (H4.out.o.drew m)
    rwa [show decide (({ x with k:=j }:Rs).k<({ x with k:=j }:Rs).s.size)=true from decide_eq_true HLT.out] at h9)
   rcases Nat.lt_or_ge (j-x.k) 40 with h40|h40
   ·have d40:decide ((j:Int)-(x.k:Int)<40)=true:=decide_eq_true (by omega);have H40:=Hh h40;have HG:=Hh (zbQ hlt);cases hr:sgn (x.s[j]'hlt) with
    | true =>
     have HX:=Hh (show ∀W,Calls Tryz.prog 89 #[.int .u8 ((x.s[j]'hlt).toNat:Int)] W fun e w'=>e=.returned (.bool true)∧W=w' from fun W=>by
      have h9:=ziR ((x.s[j]'hlt).toNat:Int) W
      rwa [←zgC,hr] at h9)
     have kw:IntKind.i64.wrap ((j:Int)+1)=((j+1:Nat):Int):=IntWalk.i64_in _ (by have:=HS.out;omega);have HR:=Hh hr;clear hr h40;go_wp2;go_quiet (first|(go_at_call 38;exact zch (HM.out _))|(go_at_call 89;exact zlw (HX.out _)));go_wp2;go_roundw
     case rel=>exact⟨_,j+1,rfl,by have:=HJ.out.1;omega,HLT.out,by have:=H40.out;have:=HJ.out.1;omega,by have h9:=HJ.out;rw[zcX HG.out HR.out] at h9;omega,(H4.out.o.drew _).put rfl,(H4.out.k.more _).set ⟨p,1,none⟩ (fun _=>rfl) _⟩
     case measure =>
      have e1:=H4.out.o.pos;have e2:zmz p ((wr.drewN nq).setCell ⟨p,1,none⟩ (.int .i64 ((j:Int)+1)))=j+1:=At9.pos (x:={ x with k:=j+1 }) ((H4.out.o.drew _).put rfl);have:=HLT.out;rw[e2,e1];show x.s.size-(j+1)<x.s.size-j;omega
    | false =>
     have HX:=Hh (show ∀W,Calls Tryz.prog 89 #[.int .u8 ((x.s[j]'hlt).toNat:Int)] W fun e w'=>e=.returned (.bool false)∧W=w' from fun W=>by
      have h9:=ziR ((x.s[j]'hlt).toNat:Int) W
      rwa [←zgC,hr] at h9)
     have HE:=Hh (show j=x.k+n by have h9:=HJ.out;rw[zle HG.out hr] at h9;have h8:=HN.out;unfold zeB at h8;omega);have d0:((j:Int)==(x.k:Int))=false:=beq_eq_false_iff_ne.2 (by have:=HE.out;have:=H0.out;omega);clear hr h40;go_wp2;go_quiet (first|(go_at_call 38;exact zch (HM.out _))|(go_at_call 89;exact zlw (HX.out _)));go_wp2;go_quiet (fail);go_wp2;go_ret;exact⟨by rw[←HE.out];rfl,by rw[←HE.out];exact H4.out.o,(H4.out.k.more _).more _⟩
   ·have d40:decide ((j:Int)-(x.k:Int)<40)=false:=decide_eq_false (by omega);have HE:=Hh (show j=x.k+n by have h9:=HJ.out;have h8:=HN.out;unfold zeB at h8;omega);have d0:((j:Int)==(x.k:Int))=false:=beq_eq_false_iff_ne.2 (by have:=HE.out;have:=H0.out;omega);clear h40;go_wp2;go_quiet (first|(go_at_call 38;exact zch (HM.out _)));go_wp2;go_quiet (fail);go_wp2;go_ret;exact⟨by rw[←HE.out];rfl,by rw[←HE.out];exact H4.out.o,(H4.out.k.more _).more _⟩
  ·have HM:=Hh (show ∀m,Calls Tryz.prog 38 #[.pointer (some ⟨p,0,none⟩)] (wr.drewN m) fun e w'=>e=.returned (.bool false)∧∃q,w'=(wr.drewN m).drewN q from fun m=>by
    have h9:=zba p _ _ (H4.out.o.drew m)
    rwa [show decide (({ x with k:=j }:Rs).k<({ x with k:=j }:Rs).s.size)=false from decide_eq_false (by show ¬ j<x.s.size;omega)] at h9)
   have HE:=Hh (show j=x.k+n by have h9:=HJ.out;rw[znL (k:=j) (by rw[zaf];omega)] at h9;have h8:=HN.out;unfold zeB at h8;omega);have d0:((j:Int)==(x.k:Int))=false:=beq_eq_false_iff_ne.2 (by have:=HE.out;have:=H0.out;omega);clear hge;go_wp2;go_quiet (first|(go_at_call 38;exact zch (HM.out _)));go_wp2;go_quiet (fail);go_wp2;go_ret;exact⟨by rw[←HE.out];rfl,by rw[←HE.out];exact H4.out.o,(H4.out.k.more _).more _⟩
theorem zsd (p:Nat)(x:Rs)(w:World)(h:At9 p x w)(hk:x.k≤x.s.size)(hs:x.s.size≤1000000)(hh:x.h=⟨#[]⟩)(hn:zeB x.s.data.toList x.k=0)(hlt:x.k=x.s.size) :
  Calls Tryz.prog 63 #[.pointer (some ⟨p,0,none⟩)] w fun e w'=>e=.returned (.string ByteArray.empty)∧Lq9 p { x with h:=⟨#[120]⟩ } w w':=by
 obtain⟨c0,c1,-⟩:=h.cells;have H:=Hh h;have HN:=Hh hn;have HS:=Hh hs;have HH:=Hh hh;have HLT:=Hh hlt;clear h hn hk hs hh hlt;go_enter Tryz.func63,Tryz.ntmps63;go_wp2_with fail;go_loopw [30] (fun z wr=>∃(v:Value),z=v∧wr=w) (fun _ wr=>0)
 case atStart=>exact⟨_,rfl,rfl⟩
 case round =>
  obtain⟨v,rfl,rfl⟩:=hrel;have H4:=Hh (show Lq9 p x wr wr from⟨H.out,Ky.refl _ _⟩);have i1:(0:Int)≤(x.k:Int):=by omega
  have kd:IntKind.i64.wrap 0=0:=rfl;have HM:=Hh (show ∀m,Calls Tryz.prog 38 #[.pointer (some ⟨p,0,none⟩)] (wr.drewN m) fun e w'=>e=.returned (.bool false)∧∃q,w'=(wr.drewN m).drewN q from fun m=>by
    have h9:=zba p _ _ (H4.out.o.drew m)
    rwa [show decide ((x:Rs).k<(x:Rs).s.size)=false from decide_eq_false (by have:=HLT.out;omega)] at h9)
  have j3:(x.k:Int)≤(x.s.size:Int):=by have:=HLT.out;omega
  have j2:(x.k:Int)≤(x.k:Int):=by omega
  go_wp2;go_quiet (first|(go_at_call 38;exact zch (HM.out _)));rename_i nq;go_wp2_with (go_at_call 90;go_loud (refine(znO p x 120 _ (H.out.drew nq) HLT.out HS.out HH.out).mono ?_;rintro e w2 ⟨rfl,q_⟩;have Q:=Hh (Lq9.trans (Lq9.drew H.out nq) q_);clear q_ c0 c1;obtain⟨c0,c1,-⟩:=Q.out.o.cells));go_quiet (fail);go_wp2;go_ret;exact⟨rfl,Q.out.trans (Lq9.drew Q.out.o _)⟩
theorem zse (p:Nat)(x:Rs)(w:World)(h:At9 p x w)(hk:x.k≤x.s.size)(hs:x.s.size≤1000000)(hh:x.h=⟨#[]⟩)(hn:zeB x.s.data.toList x.k=0)(hlt:x.k<x.s.size) :
  Calls Tryz.prog 63 #[.pointer (some ⟨p,0,none⟩)] w fun e w'=>e=.panicked [{ v:=thr x.k 2,recovered:=false }]∧Kp p w w':=by
 obtain⟨c0,c1,-⟩:=h.cells;have H:=Hh h;have HN:=Hh hn;have HS:=Hh hs;have HH:=Hh hh;have HLT:=Hh hlt;clear h hn hk hs hh hlt;go_enter Tryz.func63,Tryz.ntmps63;go_wp2_with fail;go_loopw [30] (fun z wr=>∃(v:Value),z=v∧wr=w) (fun _ wr=>0)
 case atStart=>exact⟨_,rfl,rfl⟩
 case round =>
  obtain⟨v,rfl,rfl⟩:=hrel;have H4:=Hh (show Lq9 p x wr wr from⟨H.out,Ky.refl _ _⟩);have i1:(0:Int)≤(x.k:Int):=by omega
  have kd:IntKind.i64.wrap 0=0:=rfl;have HM:=Hh (show ∀m,Calls Tryz.prog 38 #[.pointer (some ⟨p,0,none⟩)] (wr.drewN m) fun e w'=>e=.returned (.bool true)∧∃q,w'=(wr.drewN m).drewN q from fun m=>by
    have h9:=zba p _ _ (H4.out.o.drew m)
    rwa [show decide ((x:Rs).k<(x:Rs).s.size)=true from decide_eq_true HLT.out] at h9)
  have i2:(x.k:Int)<(x.s.size:Int):=by have:=HLT.out;omega
  have hlt:=HLT.out;have HG:=Hh (zbQ hlt);have hr:sgn (x.s[x.k]'hlt)=false:=by
   cases hr:sgn (x.s[x.k]'hlt) with
   | false=>rfl
   | true =>
    have h9:=HN.out;unfold zeB at h9;rw[zcX (zbQ hlt) hr] at h9;omega
  have HX:=Hh (show ∀W,Calls Tryz.prog 89 #[.int .u8 ((x.s[x.k]'hlt).toNat:Int)] W fun e w'=>e=.returned (.bool false)∧W=w' from fun W=>by
   have h9:=ziR ((x.s[x.k]'hlt).toNat:Int) W
   rwa [←zgC,hr] at h9)
  have HC:=Hh (show(x.s[x.k]'hlt)≠120 from fun e=>by rw[e] at hr;exact absurd hr (by decide));clear hr;go_wp2;go_quiet (first|(go_at_call 38;exact zch (HM.out _))|(go_at_call 89;exact zlw (HX.out _)));rename_i nq;go_wp2_with (go_at_call 90;go_loud (refine(zjN p x 120 _ _ (H.out.drew nq) HG.out HC.out HLT.out HS.out HH.out).mono ?_;rintro e w2 ⟨rfl,q_⟩;have Q:=Hh (Lq9.trans (Lq9.drew H.out nq) q_);clear q_));exact⟨rfl,rfl,Q.out.k⟩
end Go.Proofs.YtbabbmdpgpcgjaaGreatDoor
