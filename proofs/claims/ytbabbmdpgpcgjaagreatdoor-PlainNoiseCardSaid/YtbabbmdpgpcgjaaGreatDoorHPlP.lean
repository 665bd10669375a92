import Derived.Test.YtbabbmdpgpcgjaaGreatDoorHPlM
import Derived.Deep.RegionLaw
import Derived.Defers
import Derived.Recover
import Derived.Laws.Pointers

set_option linter.unusedVariables false
set_option linter.unusedSimpArgs false
set_option maxRecDepth 100000
set_option maxHeartbeats 6400000
namespace Go.Proofs.YtbabbmdpgpcgjaaGreatDoor
open Go.RowKit Txt
theorem zfm (c:UInt8):∀l:List UInt8,(Lib.indexByte l c = -1∧∀j:Nat,l[j]?≠some c)∨∃i:Nat,Lib.indexByte l c=i∧l[i]?=some c∧∀j<i,l[j]?≠some c
 | []=>.inl ⟨rfl,fun j h=>by simp at h⟩
 | b :: l=>by
  unfold Lib.indexByte;by_cases hb:b=c
  ·subst hb;exact .inr ⟨0,by simp,rfl,fun j hj=>absurd hj (Nat.not_lt_zero _)⟩
  ·have h1:(b==c)=false:=beq_eq_false_iff_ne.2 hb;rw[h1];rcases zfm c l with⟨h2,h3⟩|⟨i,h2,h3,h4⟩
   ·rw[h2];refine .inl ⟨rfl,fun j h=>?_⟩;cases j with
    | zero=>exact hb (Option.some.inj h)
    | succ j=>exact h3 j h
   ·rw[h2];refine .inr ⟨i+1,?_,h3,fun j hj h=>?_⟩
    ·have:((i:Int) == -1)=false:=beq_eq_false_iff_ne.2 (by omega);rw[this];simp
    ·cases j with
     | zero=>exact hb (Option.some.inj h)
     | succ j=>exact h4 j (by omega) h
theorem zuE {box:Int}{count:Nat}{r:List UInt8}{j:Nat}(h1:r[j]?=some 79)(h2:box≤(j:Int)∨box≤(count:Int))(h3:∀i<j,r[i]?=some 79→¬ (box≤(i:Int)∨box≤(count:Int))):farZ box count r=some j:=by
 have hj:j<r.length:=by
  rcases Nat.lt_or_ge j r.length with h|h
  ·exact h
  ·rw[List.getElem?_eq_none h] at h1;cases h1
 unfold farZ;rw[List.find?_range_eq_some];refine⟨by simp[h1,h2],List.mem_range.2 hj,fun i hi=>?_⟩;by_cases h4:r[i]?=some 79
 ·have:=h3 i hi h4;simp[h4];omega
 ·simp[h4]
theorem zuF {box:Int}{count:Nat}{r:List UInt8}(h:∀i:Nat,r[i]?=some 79→¬ (box≤(i:Int)∨box≤(count:Int))):farZ box count r=none:=by
 unfold farZ;rw[List.find?_range_eq_none];intro i hi;by_cases h4:r[i]?=some 79
 ·have:=h i h4;simp[h4];omega
 ·simp[h4]
def farI (o:Option Nat):Int:=match o with|some j=>j|none => -1
theorem zxk {box:Int}{count m:Nat}{r:List UInt8}(h1:box≤(count:Int)→m=0)(h2:¬ box≤(count:Int)→((m:Int)=box∧m≤r.length)∨(m=r.length∧(m:Int)≤box)) :
  farI (farZ box count r)=if 0≤Lib.indexByte (r.drop m) 79 then (m:Int)+Lib.indexByte (r.drop m) 79 else -1:=by
 rcases zfm 79 (r.drop m) with⟨e1,h3⟩|⟨i,e1,h3,h4⟩
 ·have h5:∀i:Nat,m≤i→r[i]?≠some 79:=fun i hi h=>h3 (i-m) (by rw[List.getElem?_drop,show m+(i-m)=i by omega];exact h);rw[e1,if_neg (by decide),zuF fun i hi hor=>?_]
  ·rfl
  ·rcases Nat.lt_or_ge i m with h6|h6
   ·by_cases h7:box≤(count:Int)
    ·have:=h1 h7;omega
    ·rcases h2 h7 with h8|h8 <;> omega
   ·exact h5 i h6 hi
 ·rw[List.getElem?_drop] at h3;rw[e1,if_pos (by omega),zuE h3 (by
   by_cases h7:box≤(count:Int)
   ·exact .inr h7
   ·rcases h2 h7 with h8|h8
    ·left;omega
    ·rw[List.getElem?_eq_none (by omega)] at h3;cases h3) fun j hj h5 hor=>?_]
  ·show((m+i:Nat):Int)=_;omega
  ·rcases Nat.lt_or_ge j m with h6|h6
   ·by_cases h7:box≤(count:Int)
    ·have:=h1 h7;omega
    ·rcases h2 h7 with h8|h8 <;> omega
   ·refine h4 (j-m) (by omega) ?_;rw[List.getElem?_drop,show m+(j-m)=j by omega];exact h5
theorem zjP (p:Nat)(x:Rs)(r:ByteArray)(cn:Nat)(w:World)(h:At9 p x w)(hb:0≤x.most∧x.most≤1000)(hc:x.count=(cn:Int))(hr:r.size≤1000000) :
  Calls Tryz.prog 94 #[.pointer (some ⟨p,0,none⟩),.string r] w fun e w'=>e=.returned (.int .i64 (farI (farZ x.most cn r.data.toList)))∧∃m,w'=w.drewN m:=by
 obtain⟨c0,c1,c2,c3,c4,c5,-⟩:=h.cells;rw[hc] at c5;obtain⟨box,hbox⟩:∃b,b=x.most:=⟨_,rfl⟩;rw[←hbox] at c4 hb ⊢;have HB:=Hh hb;have HR:=Hh hr;have HL:=Hh (zaf r);obtain⟨F,hF⟩:∃F,F=farI (farZ box cn r.data.toList):=⟨_,rfl⟩;rw[←hF];have HF:=Hh hF;have main:∀(M:Nat) (W:World),(box≤(cn:Int)→M=0)→(¬ box≤(cn:Int)→((M:Int)=box∧M≤r.data.toList.length)∨(M=r.data.toList.length∧(M:Int)≤box))→∀I,I=Lib.indexByte (r.data.toList.drop M) 79→F=if 0≤I then (M:Int)+I else -1:=fun M W a b I hI=>by rw[HF.out,hI];exact zxk a b
 have HM:=Hh main;clear main hF h hc hb hr hbox;by_cases hcb:box≤(cn:Int)
 ·have d1:decide ((cn:Int)≥box)=true:=decide_eq_true hcb;have d2:decide (box≤(cn:Int))=true:=d1;obtain⟨I,hI⟩:∃I,I=Lib.indexByte (r.data.toList.drop 0) 79:=⟨_,rfl⟩;have HI:=Hh (HM.out 0 w (fun _=>rfl) (fun e=>absurd hcb e) I hI);have HX:=Hh (show ∀W,Calls Tryz.prog 128 #[.string r,.string ⟨#[79]⟩] W fun e w'=>e=.returned (.int .i64 I)∧w'=W from fun W=>by rw[hI,List.drop_zero];exact zrQ _ _);have hIB : -1≤I∧I≤1000000:=by
   rcases zfm 79 (r.data.toList.drop 0) with⟨e1,-⟩|⟨i,e1,h3,-⟩
   ·rw[hI,e1]
    decide
   ·rw[List.drop_zero] at h3;have h4:i<r.size:=by
     rcases Nat.lt_or_ge i r.data.toList.length with h4|h4
     ·rwa [HL.out] at h4
     ·rw[List.getElem?_eq_none h4] at h3;cases h3
    rw[hI,e1];have:=HR.out;omega
  have kw:IntKind.i64.wrap I=I:=IntWalk.i64_in _ (by omega);have kw2:wrap64 I=I:=by unfold wrap64;omega
  clear hIB;clear hI hcb;rcases(show 0≤I∨I<0 by omega) with hI0|hI0
  ·have q1:decide (I≥0)=true:=decide_eq_true (by omega);have q2:decide (0≤I)=true:=q1;have HE:=Hh (show F=I by rw[HI.out,if_pos hI0];omega);clear hI0;go_enter Tryz.func94,Tryz.ntmps94;go_wp2_with fail;go_quiet (fail);go_wp2_with (go_at_call 128;go_loud (refine(HX.out _).mono ?_;rintro e w2 ⟨rfl,rfl⟩));go_ret;exact⟨by rw[HE.out];rfl,_,rfl⟩
  ·have q1:decide (I≥0)=false:=decide_eq_false (by omega);have q2:decide (0≤I)=false:=q1;have HE:=Hh (show F = -1 by rw[HI.out,if_neg (by omega)]);clear hI0;go_enter Tryz.func94,Tryz.ntmps94;go_wp2_with fail;go_quiet (fail);go_wp2_with (go_at_call 128;go_loud (refine(HX.out _).mono ?_;rintro e w2 ⟨rfl,rfl⟩));go_ret;exact⟨by rw[HE.out];rfl,_,rfl⟩
 ·have d1:decide ((cn:Int)≥box)=false:=decide_eq_false hcb;have d2:decide (box≤(cn:Int))=false:=d1;obtain⟨M,hMM⟩:∃M:Nat,min box (r.size:Int)=(M:Int):=⟨(min box (r.size:Int)).toNat,by have:=HB.out;omega⟩;have hM2:((M:Int)=box∧M≤r.data.toList.length)∨(M=r.data.toList.length∧(M:Int)≤box):=by rw[HL.out];omega
  obtain⟨I,hI⟩:∃I,I=Lib.indexByte (r.data.toList.drop M) 79:=⟨_,rfl⟩;have HI:=Hh (HM.out M w (fun e=>absurd e hcb) (fun _=>hM2) I hI);have z0:(0:Int)≤(M:Int):=by omega
  have z1:(M:Int)≤(r.size:Int):=by omega
  have HX:=Hh (show ∀W,Calls Tryz.prog 128 #[.string (r.extract M r.size),.string ⟨#[79]⟩] W fun e w'=>e=.returned (.int .i64 I)∧w'=W from fun W=>by rw[hI,←zgv];exact zrQ _ _);have HIB:=Hh (show -1≤I∧(M:Int)+I≤1000000 by
   rcases zfm 79 (r.data.toList.drop M) with⟨e1,-⟩|⟨i,e1,h3,-⟩
   ·rw[hI,e1];have:=HR.out;omega
   ·rw[List.getElem?_drop] at h3;have h4:M+i<r.size:=by
     rcases Nat.lt_or_ge (M+i) r.data.toList.length with h4|h4
     ·rwa [HL.out] at h4
     ·rw[List.getElem?_eq_none h4] at h3;cases h3
    rw[hI,e1];have:=HR.out;omega)
  clear hI hcb hM2;rcases(show 0≤I∨I<0 by omega) with hI0|hI0
  ·have q1:decide (I≥0)=true:=decide_eq_true (by omega);have q2:decide (0≤I)=true:=q1;have HE:=Hh (show F=(M:Int)+I by rw[HI.out,if_pos hI0]);have kw:IntKind.i64.wrap ((M:Int)+I)=(M:Int)+I:=IntWalk.i64_in _ (by have:=HR.out;have:=HIB.out;omega);have kw2:wrap64 ((M:Int)+I)=(M:Int)+I:=by have:=HR.out;have:=HIB.out;unfold wrap64;omega
   clear hI0;go_enter Tryz.func94,Tryz.ntmps94;go_wp2_with fail;go_quiet (fail);go_wp2_with (go_at_call 128;go_loud (refine(HX.out _).mono ?_;rintro e w2 ⟨rfl,rfl⟩));go_ret;exact⟨by rw[HE.out];rfl,_,rfl⟩
  ·have q1:decide (I≥0)=false:=decide_eq_false (by omega);have q2:decide (0≤I)=false:=q1;have HE:=Hh (show F = -1 by rw[HI.out,if_neg (by omega)]);clear hI0;go_enter Tryz.func94,Tryz.ntmps94;go_wp2_with fail;go_quiet (fail);go_wp2_with (go_at_call 128;go_loud (refine(HX.out _).mono ?_;rintro e w2 ⟨rfl,rfl⟩));go_ret;exact⟨by rw[HE.out];rfl,_,rfl⟩
abbrev rsOf (s:ByteArray)(box:Int)(t:Ln)(a:Option Addr)(n c:Nat):Rs:=⟨s,t.pos,⟨#[]⟩,⟨t.rule.toArray⟩,box,t.count,a,n,c⟩
structure Rk (p B:Nat)(s:ByteArray)(box:Int)(t:Ln)(W:World):Prop where
 ex:∃a n c,At9 p (rsOf s box t a n c) W∧OwP W B (.slice a n c) n t.rows
 pb:p<B
 bw:B≤W.heap.size
abbrev Kb (p B:Nat)(w w':World):Prop:=Ky (fun i=>i=p∨B≤i) w w'
theorem Kb.of {p:Nat}{w w':World}(B:Nat)(k:Kp p w w'):Kb p B w w':=⟨k.os,k.tape,k.output,k.size,fun i hi hn=>k.block i hi fun e=>hn (.inl e)⟩
theorem Kb.trans {p B:Nat}{a b c:World}(h:Kb p B a b)(k:Kb p B b c):Kb p B a c:=Ky.trans h k fun _ _ e=>e
theorem Kb.cell {p B:Nat}{a b:World}(h:Kb p B a b)(i:Nat)(v:Value):Kb p B a (b.setCell ⟨p,i,none⟩ v):=Ky.set h ⟨p,i,none⟩ (fun _=>.inl rfl) v
theorem Kb.grown {p B:Nat}{a b c:World}{r:Option Nat}(h:Kb p B a b)(k:b.grownBy c r)(hr:∀q,r=some q→B≤q):Kb p B a c:=Ky.gb h k fun i _ e=>.inr (hr i e)
theorem Kb.refl (p B:Nat)(w:World):Kb p B w w:=Ky.refl _ w
theorem OwP.kp {p base n:Nat}{v:Value}{L:List (List UInt8)}{W W':World}(h:OwP W base v n L)(hp:p<base)(k:Kp p W W'):OwP W' base v n L :=
 h.kept fun b hb=>by
  have h1:=h.2.lt b hb;exact k.block b h1.2 (fun e=>by omega)
theorem Kp.refl (p:Nat)(w:World):Kp p w w:=Ky.refl _ w
theorem Kp.cell {p:Nat}{a b:World}(h:Kp p a b)(i:Nat)(v:Value):Kp p a (b.setCell ⟨p,i,none⟩ v):=Ky.set h ⟨p,i,none⟩ (fun _=>rfl) v
theorem zhV {P:Program}{ops:Array Oper}{o:Oper}{a:Act}{w:World}{K:Act→World→Prop}{Q:Exit→Act→World→Prop}{E:Prop}
  (hg:o.guard=none) (s x:Operand) (t tn:TypeId) (hop:o.op=Op.call { callee:=Callee.builtin Builtin.append,args:=#[s,x],argTypes:=#[t,tn] }) (vs vx:Value) (hs:a.eval s=vs) (hx:a.eval x=vx)
  (v':Value) (w':World) (hr:(Builtin.append_ #[t,tn] o.type #[vs,vx]).run P w=.ok v' w') (hK:K (a.put o.dst v') w'):if Region.wanted o (yielded ops a.tmps)=true then Oper.wp P o a w K Q else E:=by
 rw[if_pos (by simp[Region.wanted,hg])];exact Lib.wp_append_run w s x t tn hop vs vx hs hx v' w' hr hK
theorem zsf (p:Nat)(s:ByteArray)(box:Int)(t:Ln)(a:Option Addr)(n c:Nat)(w:World)(h:At9 p (rsOf s box t a n c) w)(B:Nat)(hpB:p<B)(hBw:B≤w.heap.size)(ho:OwP w B (.slice a n c) n t.rows)(hk:t.pos≤s.size)(hs:s.size≤400000)(hb:0≤box∧box≤1000)
  (hc:t.rows.length≤t.count) (hc9:t.count≤400000) (r:List UInt8) (hr:r=(s.data.toList.drop t.pos).takeWhile zau) (hf:farZ box t.count r=none) (ht:zaK 46 r≠[]) :
  Calls Tryz.prog 65 #[.pointer (some ⟨p,0,none⟩)] w fun e w'=>e=.returned (.tuple #[]) ∧
   Rk p B s box ⟨t.pos+zah zau (s.data.toList.drop t.pos),t.rule,zbz t.rows t.count r,t.count+1⟩ w'∧Kb p B w w':=by
 obtain⟨m,hm⟩:∃m,m=zah zau (s.data.toList.drop t.pos):=⟨_,rfl⟩;obtain⟨R,hR⟩:∃R,R=s.extract t.pos (t.pos+m):=⟨_,rfl⟩;have hRl:R.data.toList=r:=by rw[hR,zjO,hr,zbG,hm]
 have hms:=zbl zau s.data.toList t.pos;rw[zaf] at hms;have hRz:R.size≤400000:=by rw[←zaf,hRl,hr,zbG,List.length_take];omega
 obtain⟨D,hD⟩:∃D:ByteArray,D=⟨(zaK 46 R.data.toList).toArray⟩:=⟨_,rfl⟩;have hDl:D.data.toList=zaK 46 r:=by rw[hD,←hRl]
 have e1:D.toList.isEmpty=false:=by
  rw[Lib.toList_data,hDl];cases hq:zaK 46 r with
  | nil=>exact absurd hq ht
  | cons x l=>rfl
 have HF:=Hh (show farI (farZ box t.count R.data.toList) = -1 by rw[hRl,hf];rfl);have SP:=Hh (show Calls Tryz.prog 93 #[.pointer (some ⟨p,0,none⟩),.string ⟨#[46,79]⟩] w fun e w'=>e=.returned (.string R)∧Lq9 p (rsOf s box ⟨t.pos+m,t.rule,t.rows,t.count⟩ a n c) w w' by
  have h9:=zhD p _ w h hk (by show s.size≤1000000;omega);rw[←hm,←hR] at h9;exact h9)
 have TR:=Hh (show ∀W,Calls Tryz.prog 96 #[.string R,.string ⟨#[46]⟩] W fun e w'=>e=.returned (.string D)∧w'=W from fun W=>by rw[hD];exact ziK 46 (.inr rfl) R W (by unfold maxLen;omega));rw[←hm];have H:=Hh h;have HO:=Hh ho;have HB:=Hh hb;have HRZ:=Hh hRz;have HDL:=Hh hDl;have HT:=Hh ht;have HC:=Hh (And.intro hc hc9);have HPB:=Hh hpB;have HBW:=Hh hBw;clear h ho hk hs hpB hBw hb hR hm hRl hms hRz hr hf ht hc hc9 hD hDl;go_enter Tryz.func65,Tryz.ntmps65;go_upto_region 7 with(first
  | (go_at_call 92;go_loud (refine(zmx p _ _ H.out).mono ?_;rintro e w1 ⟨rfl,rfl⟩))
  | (go_at_call 93;go_loud (refine SP.out.mono ?_;rintro e w2 ⟨rfl,q2⟩;have Q2:=Hh q2;clear q2))
  | (go_at_call 94;go_loud (refine(zjP p _ R t.count _ Q2.out.o HB.out rfl (by have:=HRZ.out;omega)).mono ?_;rintro e w3 ⟨rfl,m3,rfl⟩;rw[HF.out]))
  | (go_at_call 96;go_loud (refine(TR.out _).mono ?_;rintro e w4 ⟨rfl,rfl⟩)))
 rename_i KK HK;obtain⟨V,hV⟩:∃V:World,V=(w2.drewN m3).drew:=⟨_,rfl⟩;have HV:=Hh (show At9 p (rsOf s box ⟨t.pos+m,t.rule,t.rows,t.count⟩ a n c) V from by rw[hV];exact(Q2.out.o.drew m3).drew1);have HOV:=Hh (show OwP V B (.slice a n c) n t.rows from by rw[hV];exact HO.out.kp HPB.out ((Q2.out.k.more m3).more 1));have HKV:=Hh (show Kp p w1 V from by rw[hV];exact(Q2.out.k.more m3).more 1);have HN:=Hh (show t.rows.length=n from HO.out.1);obtain⟨k,hk⟩:∃k:Nat,k=t.count-n:=⟨_,rfl⟩;have hnk:n+k=t.count:=by have:=HN.out;have:=HC.out;omega
 have kw:IntKind.i64.wrap ((t.count:Int)-(n:Int))=(k:Int):=by
  rw[show(t.count:Int)-(n:Int)=(k:Int) by omega];exact IntWalk.i64_in _ (by have:=HC.out;omega)
 have kw2:wrap64 ((t.count:Int)-(n:Int))=(k:Int):=by have:=HC.out;unfold wrap64;omega
 have HNK:=Hh hnk;obtain⟨v2,V2,hr2,ho2,hg2⟩:=zfS V 56 B n k (.slice a n c) t.rows HOV.out (by have:=HC.out;omega) (Nat.le_trans HBW.out HKV.out.size);rw[hV] at hr2;have HR2:=Hh hr2;obtain⟨a2,c2,rfl⟩:=zcm ho2.2;have HO2:=Hh ho2;have hne:∀b,(Value.slice a n c).ownBlock=some b→b≠p:=fun b hb e=>by
  have:=(HOV.out.2.lt b hb).1;have:=HPB.out;omega
 have HV2:=Hh (show At9 p (rsOf s box ⟨t.pos+m,t.rule,t.rows,t.count⟩ a n c) V2 from(hg2.block p HV.out.lt (fun e=>hne p e.symm rfl)).trans HV.out);have HB2:=Hh (show Kb p B w1 V2 from(Kb.of B HKV.out).grown hg2 fun q hq=>(HOV.out.2.lt q hq).1);have f6:=HV2.out.free 6;have cc:=Q2.out.o.cells;have c5:=cc.2.2.2.2.2.1;have c6:=cc.2.2.2.2.2.2;have d6:=HV2.out.cells.2.2.2.2.2.2;clear cc hr2 ho2 hg2 hk hnk hne hV;have REST:KK ⟨#[.pointer (some ⟨p,0,none⟩),undef,.int .i64 (t.pos:Int),.string D,.int .i64 (-1),.pointer (some ⟨p,0,none⟩),.pointer (some ⟨p,0,none⟩),.pointer (some ⟨p,0,none⟩),.int .i64 (t.pos:Int),.pointer (some ⟨p,0,none⟩),.pointer (some ⟨p,0,none⟩),.pointer (some ⟨p,0,none⟩),.string R,.pointer (some ⟨p,0,none⟩),.string R,.int .i64 (-1),.int .i64 (-1),.bool false,undef,undef,undef,undef,undef,undef,undef,.string R,.string D,.string D,.bool true,.pointer (some ⟨p,0,none⟩),.pointer (some ⟨p,0,none⟩),.pointer (some ⟨p,0,none⟩),.pointer (some ⟨p,6,none⟩),.slice a n c,.pointer (some ⟨p,0,none⟩),.pointer (some ⟨p,0,none⟩),.pointer (some ⟨p,5,none⟩),.int .i64 (t.count:Int),.pointer (some ⟨p,0,none⟩),.pointer (some ⟨p,0,none⟩),.pointer (some ⟨p,6,none⟩),.slice a n c,.int .i64 (n:Int),.int .i64 (k:Int),.slice a2 (n+k) c2,.pointer (some ⟨p,0,none⟩),.pointer (some ⟨p,6,none⟩),undef,undef,undef,undef,undef,undef,undef,undef,undef,undef,undef,undef,undef,undef,undef,undef,undef],[]⟩ (V2.setCell ⟨p,6,none⟩ (.slice a2 (n+k) c2)):=by
  refine HK _ _ ?_;clear HK c5 c6 d6 f6 kw kw2;have HV3:=Hh (show At9 p (rsOf s box ⟨t.pos+m,t.rule,t.rows,t.count⟩ a2 (n+k) c2) (V2.setCell ⟨p,6,none⟩ (.slice a2 (n+k) c2)) from HV2.out.put rfl);have HO3:=Hh (show OwP (V2.setCell ⟨p,6,none⟩ (.slice a2 (n+k) c2)) B (.slice a2 (n+k) c2) (n+k) (t.rows++List.replicate k []) from HO2.out.kp HPB.out ((Kp.refl p V2).cell 6 _));have HB3:=Hh (HB2.out.cell 6 (.slice a2 (n+k) c2));generalize V2.setCell ⟨p,6,none⟩ (.slice a2 (n+k) c2)=V3 at HV3 HO3 HB3 ⊢;have c6:=HV3.out.cells.2.2.2.2.2.2;have hpl:=HV3.out.lt;have HV3b:=Hh (show At9 p (rsOf s box ⟨t.pos+m,t.rule,t.rows,t.count⟩ a2 (n+k) c2) (V3.alloc (.cells #[.string D] 9)) from(Below.heap_alloc _ _ _ hpl).trans HV3.out);have HO3b:=Hh (show OwP (V3.alloc (.cells #[.string D] 9)) B (.slice a2 (n+k) c2) (n+k) (t.rows++List.replicate k []) from HO3.out.kept fun b hb=>Below.heap_alloc _ _ _ (HO3.out.2.lt b hb).2);have HB3b:=Hh (show Kb p B w1 (V3.alloc (.cells #[.string D] 9)) from Ky.alloc HB3.out _);have HBW3:=Hh (Nat.le_trans HBW.out HB3b.out.size);obtain⟨iT,hi,hz0,hz1,hz2⟩:=zbL Tryz.infoTz;have hcn:=HC.out.2;have hnk2:=HNK.out;have kw:IntKind.i64.wrap ((t.count:Int)+1)=((t.count+1:Nat):Int):=IntWalk.i64_in _ (by omega);have HD2:=Hh (show strV (zaK 46 r)=.string D from by unfold strV;rw[←HDL.out]);have HI:=Hh (And.intro hi (And.intro hz0 (And.intro hz1 hz2)));clear hi hz0 hz1 hz2 hnk2 hcn;dsimp only;go_wp2_with (at_builtin;go_loud (refine wpList_append_own_at _ rfl _ _ 56 rfl B 9 iT (.string ⟨#[]⟩) 1 16 Tryz.underlying56 HI.out.1 HI.out.2.1 HI.out.2.2.1 HI.out.2.2.2 rfl (by decide) _ _ _ rfl HO3b.out.2 ⟨_,0,none⟩ 1 1 [.string D] rfl rfl (cell_one_new _ _ _) (by simp[Value.oneCell']) (by have:=HNK.out;have:=HC.out;simp only[maxLen];omega) (by have:=HNK.out;have:=HC.out;omega) HBW3.out ?_;intro v4 V4 ho4 hg4 hn4 hk4;obtain⟨a4,c4,rfl⟩:=zcm ho4;have HV4:=Hh (show At9 p (rsOf s box ⟨t.pos+m,t.rule,t.rows,t.count⟩ a2 (n+k) c2) V4 from(hg4.block p HV3b.out.lt (fun e=>by have:=(HO3b.out.2.lt p e.symm).1;have:=HPB.out;omega)).trans HV3b.out);have HO4:=Hh (OwP.more (M:=[zaK 46 r]) HO3.out.1 rfl (by rw[List.map_singleton,HD2.out];exact ho4));have HB4:=Hh (HB3b.out.grown hg4 (fun q hq=>(HO3b.out.2.lt q hq).1));clear ho4 hg4 hn4 hk4 c6;have c5:=HV4.out.cells.2.2.2.2.2.1;have c6:=HV4.out.cells.2.2.2.2.2.2;have f5:=HV4.out.free 5;have f6:=HV4.out.free 6));go_end0;have h6:At9 p (rsOf s box ⟨t.pos+m,t.rule,t.rows,t.count⟩ a4 (n+k+1) c4) (V4.setCell ⟨p,6,none⟩ (.slice a4 (n+k+1) c4)):=HV4.out.put rfl;have k6:Kp p V4 (V4.setCell ⟨p,6,none⟩ (.slice a4 (n+k+1) c4)):=(Kp.refl p V4).cell 6 _;refine⟨rfl,⟨⟨a4,n+k+1,c4,h6.put rfl,?_⟩,HPB.out,Nat.le_trans HBW.out ((HB4.out.cell 6 _).cell 5 _).size⟩,(HB4.out.cell 6 _).cell 5 _⟩;have h9:zbz t.rows t.count r=t.rows++List.replicate k []++[zaK 46 r]:=by
   unfold zbz;rw[if_neg HT.out,HN.out,show t.count-n=k by have:=HNK.out;omega]
  rw[h9];exact HO4.out.kp HPB.out (k6.cell 5 _)
 go_region_law (refine zhV rfl (.tmp 33) (.tmp 43) 56 3 rfl _ _ (by simp[Act.eval,Act.put]) (by simp[Act.eval,Act.put]) _ _ HR2.out ?_)
 all_goals exact REST
theorem zsg (p:Nat)(s:ByteArray)(box:Int)(t:Ln)(a:Option Addr)(n c:Nat)(w:World)(h:At9 p (rsOf s box t a n c) w)(B:Nat)(hpB:p<B)(hBw:B≤w.heap.size)(ho:OwP w B (.slice a n c) n t.rows)(hk:t.pos≤s.size)(hs:s.size≤400000)(hb:0≤box∧box≤1000)
  (hc:t.rows.length≤t.count) (hc9:t.count≤400000) (r:List UInt8) (hr:r=(s.data.toList.drop t.pos).takeWhile zau) (hf:farZ box t.count r=none) (ht:zaK 46 r=[]) :
  Calls Tryz.prog 65 #[.pointer (some ⟨p,0,none⟩)] w fun e w'=>e=.returned (.tuple #[]) ∧
   Rk p B s box ⟨t.pos+zah zau (s.data.toList.drop t.pos),t.rule,zbz t.rows t.count r,t.count+1⟩ w'∧Kb p B w w':=by
 obtain⟨m,hm⟩:∃m,m=zah zau (s.data.toList.drop t.pos):=⟨_,rfl⟩;obtain⟨R,hR⟩:∃R,R=s.extract t.pos (t.pos+m):=⟨_,rfl⟩;have hRl:R.data.toList=r:=by rw[hR,zjO,hr,zbG,hm]
 have hms:=zbl zau s.data.toList t.pos;rw[zaf] at hms;have hRz:R.size≤400000:=by rw[←zaf,hRl,hr,zbG,List.length_take];omega
 obtain⟨D,hD⟩:∃D:ByteArray,D=⟨(zaK 46 R.data.toList).toArray⟩:=⟨_,rfl⟩;have hDl:D.data.toList=zaK 46 r:=by rw[hD,←hRl]
 have e1:D.toList.isEmpty=true:=by
  rw[Lib.toList_data,hDl,ht];rfl
 have HF:=Hh (show farI (farZ box t.count R.data.toList) = -1 by rw[hRl,hf];rfl);have SP:=Hh (show Calls Tryz.prog 93 #[.pointer (some ⟨p,0,none⟩),.string ⟨#[46,79]⟩] w fun e w'=>e=.returned (.string R)∧Lq9 p (rsOf s box ⟨t.pos+m,t.rule,t.rows,t.count⟩ a n c) w w' by
  have h9:=zhD p _ w h hk (by show s.size≤1000000;omega);rw[←hm,←hR] at h9;exact h9)
 have TR:=Hh (show ∀W,Calls Tryz.prog 96 #[.string R,.string ⟨#[46]⟩] W fun e w'=>e=.returned (.string D)∧w'=W from fun W=>by rw[hD];exact ziK 46 (.inr rfl) R W (by unfold maxLen;omega));rw[←hm];have H:=Hh h;have HO:=Hh ho;have HB:=Hh hb;have HRZ:=Hh hRz;have HDL:=Hh hDl;have HT:=Hh ht;have HC:=Hh (And.intro hc hc9);have HPB:=Hh hpB;have HBW:=Hh hBw;have kw:IntKind.i64.wrap ((t.count:Int)+1)=((t.count+1:Nat):Int):=IntWalk.i64_in _ (by omega);clear h ho hk hs hpB hBw hb hR hm hRl hms hRz hr hf ht hc hc9 hD hDl;go_enter Tryz.func65,Tryz.ntmps65;go_wp2_with (first
  | (go_at_call 92;go_loud (refine(zmx p _ _ H.out).mono ?_;rintro e w1 ⟨rfl,rfl⟩))
  | (go_at_call 93;go_loud (refine SP.out.mono ?_;rintro e w2 ⟨rfl,q2⟩;have Q2:=Hh q2;clear q2;have c5:=Q2.out.o.cells.2.2.2.2.2.1;have f5:=Q2.out.o.free 5))
  | (go_at_call 94;go_loud (refine(zjP p _ R t.count _ Q2.out.o HB.out rfl (by have:=HRZ.out;omega)).mono ?_;rintro e w3 ⟨rfl,m3,rfl⟩;rw[HF.out]))
  | (go_at_call 96;go_loud (refine(TR.out _).mono ?_;rintro e w4 ⟨rfl,rfl⟩)))
 go_end0;refine⟨rfl,⟨⟨a,n,c,(Q2.out.o.drew _).put rfl,?_⟩,HPB.out,Nat.le_trans HBW.out ((Kb.of B (Q2.out.k.more _)).cell 5 _).size⟩,(Kb.of B (Q2.out.k.more _)).cell 5 _⟩;have h9:zbz t.rows t.count r=t.rows:=by
  unfold zbz;rw[if_pos HT.out]
 rw[h9];exact HO.out.kp HPB.out ((Q2.out.k.more _).cell 5 _)
theorem zuG (p:Nat)(s:ByteArray)(box:Int)(t:Ln)(a:Option Addr)(n c:Nat)(w:World)(h:At9 p (rsOf s box t a n c) w)(B:Nat)(hpB:p<B)(hBw:B≤w.heap.size)(ho:OwP w B (.slice a n c) n t.rows)(hk:t.pos≤s.size)(hs:s.size≤400000)(hb:0≤box∧box≤1000)
  (hc:t.rows.length≤t.count) (hc9:t.count≤400000) (r:List UInt8) (hr:r=(s.data.toList.drop t.pos).takeWhile zau) (j:Nat) (hf:farZ box t.count r=some j) :
  Calls Tryz.prog 65 #[.pointer (some ⟨p,0,none⟩)] w fun e w'=>e=.panicked [{ v:=thr ((t.pos+j:Nat):Int) 4,recovered:=false }]∧Kb p B w w':=by
 obtain⟨m,hm⟩:∃m,m=zah zau (s.data.toList.drop t.pos):=⟨_,rfl⟩;obtain⟨R,hR⟩:∃R,R=s.extract t.pos (t.pos+m):=⟨_,rfl⟩;have hRl:R.data.toList=r:=by rw[hR,zjO,hr,zbG,hm]
 have hms:=zbl zau s.data.toList t.pos;rw[zaf] at hms;have hRz:R.size≤400000:=by rw[←zaf,hRl,hr,zbG,List.length_take];omega
 have HF:=Hh (show farI (farZ box t.count R.data.toList)=(j:Int) by rw[hRl,hf];rfl);have SP:=Hh (show Calls Tryz.prog 93 #[.pointer (some ⟨p,0,none⟩),.string ⟨#[46,79]⟩] w fun e w'=>e=.returned (.string R)∧Lq9 p (rsOf s box ⟨t.pos+m,t.rule,t.rows,t.count⟩ a n c) w w' by
  have h9:=zhD p _ w h hk (by show s.size≤1000000;omega);rw[←hm,←hR] at h9;exact h9)
 have H:=Hh h;have HO:=Hh ho;have HB:=Hh hb;have HRZ:=Hh hRz;have HC:=Hh (And.intro hc hc9);have HPB:=Hh hpB;have HBW:=Hh hBw;have hj9:j≤400000:=by
  unfold farZ at hf;have h8:=(List.find?_range_eq_some.1 hf).2.1;have h7:=List.mem_range.1 h8;rw[←hRl,zaf] at h7;omega
 have kw:IntKind.i64.wrap ((t.pos:Int)+(j:Int))=((t.pos+j:Nat):Int):=by
  rw[show(t.pos:Int)+(j:Int)=((t.pos+j:Nat):Int) by omega];exact IntWalk.i64_in _ (by omega)
 have kw2:wrap64 ((t.pos:Int)+(j:Int))=((t.pos+j:Nat):Int):=by unfold wrap64;omega
 have j0:decide ((j:Int)≥0)=true:=decide_eq_true (by omega);clear hj9;clear h ho hk hs hpB hBw hb hR hm hRl hms hRz hr hf hc hc9;go_enter Tryz.func65,Tryz.ntmps65;go_wp2_with (first
  | (go_at_call 92;go_loud (refine(zmx p _ _ H.out).mono ?_;rintro e w1 ⟨rfl,rfl⟩))
  | (go_at_call 93;go_loud (refine SP.out.mono ?_;rintro e w2 ⟨rfl,q2⟩;have Q2:=Hh q2;clear q2))
  | (go_at_call 94;go_loud (refine(zjP p _ R t.count _ Q2.out.o HB.out rfl (by have:=HRZ.out;omega)).mono ?_;rintro e w3 ⟨rfl,m3,rfl⟩;rw[HF.out]))
  | (go_at_call 95;go_loud (refine(zlh _ ((t.pos+j:Nat):Int) 4 _).mono ?_;rintro e w4 ⟨rfl,rfl⟩)))
 exact⟨rfl,rfl,Kb.of B (Q2.out.k.more _)⟩
def zlj (l:List UInt8):UInt8:=if l[l.length-1]?=some 13 then 10 else 120
def Sh9 (p:Nat)(s:ByteArray)(W:World):Prop:=∃(y:Rs),At9 p y W∧y.s=s∧y.k=s.size∧y.h=⟨#[zlj s.data.toList]⟩
theorem zuH {l:List UInt8}{k:Nat}(h:eolZ l k=.short):zlj l=10:=by
 unfold eolZ at h;unfold zlj;cases h1:l[k]? with
 | none=>rw[h1] at h;cases h
 | some c =>
  rw[h1] at h;dsimp only at h;by_cases hc:c=13
  ·rw[if_pos hc] at h;cases h2:l[k+1]? with
   | none =>
    have h3:=List.getElem?_eq_none_iff.1 h2;have h4:k<l.length:=by
     rcases Nat.lt_or_ge k l.length with h4|h4
     ·exact h4
     ·rw[List.getElem?_eq_none h4] at h1;cases h1
    rw[show l.length-1=k by omega,h1,hc,if_pos rfl]
   | some d =>
    rw[h2] at h;dsimp only at h;split at h <;> cases h
  ·rw[if_neg hc] at h;split at h <;> cases h
theorem zeh:∀{s t:List UInt8} {i:Nat},i<comm s t→s[i]?=t[i]?
 | [],_,_,h=>absurd h (Nat.not_lt_zero _)
 | _ :: _,[],_,h=>absurd h (Nat.not_lt_zero _)
 | x :: s,y :: t,i,h=>by
  unfold comm at h;by_cases hx:x=y
  ·cases i with
   | zero=>rw[hx];rfl
   | succ i =>
    rw[if_pos hx] at h;have h1:=zeh (s:=s) (t:=t) (i:=i) (by omega);simpa using h1
  ·rw[if_neg hx] at h;exact absurd h (Nat.not_lt_zero _)
theorem zsh {l:List UInt8}{k:Nat}(h:comm (l.drop k) zbj=7)(he:k+7=l.length):zlj l=120:=by
 have h1:=zeh (s:=l.drop k) (t:=zbj) (i:=6) (by omega);rw[List.getElem?_drop,show k+6=l.length-1 by omega] at h1;unfold zlj;rw[h1];rfl
def zfT (p B:Nat)(s:ByteArray)(box:Int)(w:World)(o:Ro)(e:Ending)(w':World):Prop :=
 Kb p B w w'∧match o with
 | .ok t=>e=.returned (.tuple #[])∧Rk p B s box t w'
 | .short=>e=.returned (.tuple #[])∧Sh9 p s w'
 | .bad k er=>e=.panicked [{ v:=thr k er,recovered:=false }]
theorem zsi (p B:Nat)(s:ByteArray)(box:Int)(t:Ln)(w0 w:World)(h:Rk p B s box t w)(hb:Kb p B w0 w)(hk:t.pos≤s.size)(hs:s.size≤400000) :
  Calls Tryz.prog 66 #[.pointer (some ⟨p,0,none⟩)] w (zfT p B s box w0 (t.eol s.data.toList)):=by
 obtain⟨a,n,c,ha,ho⟩:=h.ex;refine(zmy p _ w ha hk (by show s.size≤1000000;omega) rfl).mono fun e w' hr=>?_;unfold zxh at hr;unfold Ln.eol;cases hE:eolZ s.data.toList t.pos with
 | go k =>
  have hr2:e=.returned (.tuple #[])∧Lq9 p { (rsOf s box t a n c) with k:=k } w w':=by
   have h9:eolZ (rsOf s box t a n c).s.data.toList (rsOf s box t a n c).k=.go k:=hE;rw[h9] at hr;exact hr
  exact⟨hb.trans (Kb.of B hr2.2.k),hr2.1,⟨a,n,c,hr2.2.o,ho.kp h.pb hr2.2.k⟩,h.pb,Nat.le_trans h.bw hr2.2.k.size⟩
 | short =>
  have hr2:e=.returned (.tuple #[])∧Lq9 p { (rsOf s box t a n c) with k:=s.size,h:=⟨#[10]⟩ } w w':=by
   have h9:eolZ (rsOf s box t a n c).s.data.toList (rsOf s box t a n c).k=.short:=hE;rw[h9] at hr;exact hr
  exact⟨hb.trans (Kb.of B hr2.2.k),hr2.1,_,hr2.2.o,rfl,rfl,by rw[zuH hE]⟩
 | bad k =>
  have hr2:e=.panicked [{ v:=thr k 2,recovered:=false }]∧Kp p w w':=by
   have h9:eolZ (rsOf s box t a n c).s.data.toList (rsOf s box t a n c).k=.bad k:=hE;rw[h9] at hr;exact hr
  exact⟨hb.trans (Kb.of B hr2.2),hr2.1⟩
theorem zuI (p:Nat)(x:Rs)(w:World)(h:At9 p x w)(hn:x.k=x.s.size)(hs:x.s.size≤1000000) :
  Calls Tryz.prog 66 #[.pointer (some ⟨p,0,none⟩)] w fun e w'=>e=.returned (.tuple #[])∧Lq9 p x w w':=by
 have H:=Hh h;have HS:=Hh hs;have HB:=Hh (show decide (comm (x.s.data.toList.drop x.k) (⟨#[13]⟩:ByteArray).data.toList=(⟨#[13]⟩:ByteArray).data.toList.length)=false from by rw[show(⟨#[13]⟩:ByteArray).data.toList=[13] from rfl,zjM 13 (by rw[zaf];omega)];rfl);have HN:=Hh hn;clear h hs hn;go_enter Tryz.func66,Tryz.ntmps66;go_wp2_with (first
  | (go_at_call 62;go_loud (refine(zaQ p x ⟨#[13]⟩ _ H.out (Nat.le_of_eq HN.out) HS.out (by show 1≤1000;omega) false HB.out).mono ?_;rintro e w2 ⟨rfl,q2⟩;have Q2:=Hh (show Lq9 p x w w2 from q2);clear q2))
  | (go_at_call 38;go_loud (refine(zba p x _ Q2.out.o).mono ?_;rintro e w3 ⟨rfl,m3,rfl⟩;rw[show decide (x.k<x.s.size)=false from decide_eq_false (by have:=HN.out;omega)];have Q3:=Hh (show Lq9 p x w (w2.drewN m3) from Q2.out.trans (Lq9.drew Q2.out.o m3));clear Q2)))
 go_end0;exact⟨rfl,Q3.out⟩
theorem zcY {l:List UInt8}{k:Nat}{B:Bool}(h:decide (comm (l.drop k) zbj=7)=B):decide (comm (l.drop k) (⟨#[33,82,117,108,101,58,32]⟩:ByteArray).data.toList=(⟨#[33,82,117,108,101,58,32]⟩:ByteArray).data.toList.length)=B:=h
theorem zhE {l:List UInt8}{k:Nat}(h:k<l.length):decide (comm (l.drop k) (⟨#[33]⟩:ByteArray).data.toList=(⟨#[33]⟩:ByteArray).data.toList.length)=decide (l[k]?=some 33):=by
 rw[show(⟨#[33]⟩:ByteArray).data.toList=[33] from rfl];have h1:l[k]?=some (l[k]'h):=List.getElem?_eq_getElem h;by_cases hc:l[k]'h=33
 ·rw[hc] at h1;rw[zfk h1,h1];rfl
 ·rw[zfl h1 hc,h1];simp[hc]
theorem zcZ {l:List UInt8}{k:Nat}(h:comm (l.drop k) zbj=7):k+7≤l.length:=by
 have h1:=zfK (l.drop k) zbj;rw[h,List.length_drop] at h1;omega
theorem zsj (p B:Nat)(s:ByteArray)(box:Int)(t:Ln)(w:World)(h:Rk p B s box t w)(hk:t.pos<s.size)(hs:s.size≤400000)(n9:Nat)(hc:comm (s.data.toList.drop t.pos) zbj=7)(hn:zeB s.data.toList (t.pos+7)=n9)(h0:0<n9) :
  Calls Tryz.prog 39 #[.pointer (some ⟨p,0,none⟩)] w (zfT p B s box w (zaE s.data.toList box t)):=by
 obtain⟨a,n,c,ha,ho⟩:=h.ex;have HPB:=Hh h.pb;have HBW:=Hh h.bw;have H:=Hh ha;have HO:=Hh ho;have HK:=Hh hk;have HS:=Hh hs;have HS1:=Hh (show s.size≤1000000 by omega);have HL:=Hh (zcZ hc);have HC:=Hh (zcY (l:=s.data.toList) (k:=t.pos) (B:=true) (decide_eq_true hc));have HN:=Hh hn;have H0:=Hh h0;have HZ:=Hh (show zaE s.data.toList box t=Ln.eol ⟨t.pos+7+n9,(s.data.toList.drop (t.pos+7)).take n9,t.rows,t.count⟩ s.data.toList by
  unfold zaE;rw[if_pos hc];unfold zeB at hn;rw[hn,if_neg (by omega)])
 have HLS:=Hh (zaf s);have HX:=Hh (show t.pos+7+n9≤s.size by
  have h1:=zbl sgn s.data.toList (t.pos+7);have h2:=zcZ hc;rw[zaf] at h1 h2;unfold zeB at hn;omega)
 clear h ha ho hk hs hc hn h0;go_enter Tryz.func39,Tryz.ntmps39;go_wp2_with (first
  | (go_at_call 62;go_loud (refine(zaQ p _ ⟨#[33,82,117,108,101,58,32]⟩ _ H.out (Nat.le_of_lt HK.out) HS1.out (by show 7≤1000;omega) true HC.out).mono ?_;rintro e w2 ⟨rfl,q2⟩;have Q2:=Hh (show Lq9 p (rsOf s box ⟨t.pos+7,t.rule,t.rows,t.count⟩ a n c) w w2 from q2);clear q2))
  | (go_at_call 63;go_loud (refine(zpd p _ _ Q2.out.o (by have:=HL.out;have:=HLS.out;show t.pos+7≤s.size;omega) HS1.out n9 HN.out H0.out).mono ?_;rintro e w3 ⟨rfl,q3⟩;have Q3:=Hh (show Lq9 p (rsOf s box ⟨t.pos+7+n9,t.rule,t.rows,t.count⟩ a n c) w w3 from Q2.out.trans q3);clear q3;have f3:=Q3.out.o.free 3;have c3:=Q3.out.o.cells.2.2.2.1)))
 have hru:s.extract (t.pos+7) (t.pos+7+n9)=⟨((s.data.toList.drop (t.pos+7)).take n9).toArray⟩:=zhU (by rw[zjO]);go_at_call 66;refine(zsi p B s box ⟨t.pos+7+n9,(s.data.toList.drop (t.pos+7)).take n9,t.rows,t.count⟩ w _ ⟨⟨a,n,c,Q3.out.o.put (by rw[hru];rfl),HO.out.kp HPB.out (Q3.out.k.cell 3 _)⟩,HPB.out,Nat.le_trans HBW.out (Q3.out.k.cell 3 _).size⟩ (Kb.of B (Q3.out.k.cell 3 _)) HX.out HS.out).mono ?_;rintro e w9 hr;unfold zfT at hr;have HR:=Hh hr;clear hr;cases ho:Ln.eol ⟨t.pos+7+n9,(s.data.toList.drop (t.pos+7)).take n9,t.rows,t.count⟩ s.data.toList with
 | ok u =>
  have h9:=HR.out;rw[ho] at h9;obtain⟨h1,rfl,h3⟩:=h9;have H9:=Hh (And.intro h1 h3);clear h1 h3;go_wp2;go_end0;refine⟨H9.out.1,?_⟩;rw[HZ.out,ho];exact⟨rfl,H9.out.2⟩
 | short =>
  have h9:=HR.out;rw[ho] at h9;obtain⟨h1,rfl,h3⟩:=h9;have H9:=Hh (And.intro h1 h3);clear h1 h3;go_wp2;go_end0;refine⟨H9.out.1,?_⟩;rw[HZ.out,ho];exact⟨rfl,H9.out.2⟩
 | bad k er =>
  have h9:=HR.out;rw[ho] at h9;obtain⟨h1,rfl⟩:=h9;refine⟨rfl,h1,?_⟩;rw[HZ.out,ho]
theorem zlk (p B:Nat)(s:ByteArray)(box:Int)(t:Ln)(w:World)(h:Rk p B s box t w)(hk:t.pos<s.size)(hs:s.size≤400000)(hc:comm (s.data.toList.drop t.pos) zbj=7)(hn:zeB s.data.toList (t.pos+7)=0)(h0:t.pos+7=s.size) :
  Calls Tryz.prog 39 #[.pointer (some ⟨p,0,none⟩)] w (zfT p B s box w (zaE s.data.toList box t)):=by
 obtain⟨a,n,c,ha,ho⟩:=h.ex;have HPB:=Hh h.pb;have HBW:=Hh h.bw;have H:=Hh ha;have HO:=Hh ho;have HK:=Hh hk;have HS:=Hh hs;have HS1:=Hh (show s.size≤1000000 by omega);have HC:=Hh (zcY (l:=s.data.toList) (k:=t.pos) (B:=true) (decide_eq_true hc));have HN:=Hh hn;have HT:=Hh (zsh hc (by rw[zaf];exact h0));have H0:=Hh h0;have HZ:=Hh (show zaE s.data.toList box t=.short by
  unfold zaE;rw[if_pos hc];unfold zeB at hn;rw[hn,if_pos rfl,if_neg (by rw[zaf];omega)])
 clear h ha ho hk hs hc hn h0;go_enter Tryz.func39,Tryz.ntmps39;go_wp2_with (first
  | (go_at_call 62;go_loud (refine(zaQ p _ ⟨#[33,82,117,108,101,58,32]⟩ _ H.out (Nat.le_of_lt HK.out) HS1.out (by show 7≤1000;omega) true HC.out).mono ?_;rintro e w2 ⟨rfl,q2⟩;have Q2:=Hh (show Lq9 p (rsOf s box ⟨t.pos+7,t.rule,t.rows,t.count⟩ a n c) w w2 from q2);clear q2))
  | (go_at_call 63;go_loud (refine(zsd p _ _ Q2.out.o (Nat.le_of_eq H0.out) HS1.out rfl HN.out H0.out).mono ?_;rintro e w3 ⟨rfl,q3⟩;have Q3:=Hh (Q2.out.trans q3);clear q3;have f3:=Q3.out.o.free 3;have c3:=Q3.out.o.cells.2.2.2.1;have Q4:=Hh (show Lq9 p { rsOf s box ⟨t.pos+7,[],t.rows,t.count⟩ a n c with h:=⟨#[120]⟩ } w (w3.setCell ⟨p,3,none⟩ (.string ByteArray.empty)) from⟨Q3.out.o.put rfl,Q3.out.k.cell 3 _⟩)))
  | (go_at_call 66;go_loud (refine(zuI p _ _ Q4.out.o H0.out HS1.out).mono ?_;rintro e w5 ⟨rfl,q5⟩;have Q5:=Hh (Q4.out.trans q5);clear q5)))
 go_end0;rw[HZ.out];exact⟨Kb.of B Q5.out.k,rfl,_,Q5.out.o,rfl,H0.out,by rw[HT.out]⟩
theorem zll (p B:Nat)(s:ByteArray)(box:Int)(t:Ln)(w:World)(h:Rk p B s box t w)(hk:t.pos<s.size)(hs:s.size≤400000)(hc:comm (s.data.toList.drop t.pos) zbj=7)(hn:zeB s.data.toList (t.pos+7)=0)(h0:t.pos+7<s.size) :
  Calls Tryz.prog 39 #[.pointer (some ⟨p,0,none⟩)] w (zfT p B s box w (zaE s.data.toList box t)):=by
 obtain⟨a,n,c,ha,ho⟩:=h.ex;have HPB:=Hh h.pb;have HBW:=Hh h.bw;have H:=Hh ha;have HO:=Hh ho;have HK:=Hh hk;have HS:=Hh hs;have HS1:=Hh (show s.size≤1000000 by omega);have HC:=Hh (zcY (l:=s.data.toList) (k:=t.pos) (B:=true) (decide_eq_true hc));have HN:=Hh hn;have H0:=Hh h0;have HZ:=Hh (show zaE s.data.toList box t=.bad (t.pos+7) 2 by
  unfold zaE;rw[if_pos hc];unfold zeB at hn;rw[hn,if_pos rfl,if_pos (by rw[zaf];omega)])
 clear h ha ho hk hs hc hn h0;go_enter Tryz.func39,Tryz.ntmps39;go_wp2_with (first
  | (go_at_call 62;go_loud (refine(zaQ p _ ⟨#[33,82,117,108,101,58,32]⟩ _ H.out (Nat.le_of_lt HK.out) HS1.out (by show 7≤1000;omega) true HC.out).mono ?_;rintro e w2 ⟨rfl,q2⟩;have Q2:=Hh (show Lq9 p (rsOf s box ⟨t.pos+7,t.rule,t.rows,t.count⟩ a n c) w w2 from q2);clear q2))
  | (go_at_call 63;go_loud (refine(zse p _ _ Q2.out.o (Nat.le_of_lt H0.out) HS1.out rfl HN.out H0.out).mono ?_;rintro e w3 ⟨rfl,q3⟩;have Q3:=Hh (Q2.out.k.trans q3 fun _ _ e=>e);clear q3)))
 refine⟨rfl,?_⟩;rw[HZ.out];exact⟨Kb.of B Q3.out,rfl⟩
theorem zmB (p B:Nat)(s:ByteArray)(box:Int)(t:Ln)(w:World)(h:Rk p B s box t w)(hk:t.pos<s.size)(hs:s.size≤400000)(m9:Nat)(hm:m9=zah zaL (s.data.toList.drop (t.pos+1)))(hc:comm (s.data.toList.drop t.pos) zbj≠7)(hd:s.data.toList[t.pos]?=some 33) :
  Calls Tryz.prog 39 #[.pointer (some ⟨p,0,none⟩)] w (zfT p B s box w (zaE s.data.toList box t)):=by
 obtain⟨a,n,c,ha,ho⟩:=h.ex;have HPB:=Hh h.pb;have HBW:=Hh h.bw;have H:=Hh ha;have HO:=Hh ho;have HK:=Hh hk;have HS:=Hh hs;have HS1:=Hh (show s.size≤1000000 by omega);have HC:=Hh (zcY (l:=s.data.toList) (k:=t.pos) (B:=false) (decide_eq_false hc));have HD:=Hh (show decide (comm (s.data.toList.drop t.pos) (⟨#[33]⟩:ByteArray).data.toList=(⟨#[33]⟩:ByteArray).data.toList.length)=true by rw[zhE (by rw[zaf];exact hk),hd];rfl);have HZ:=Hh (show zaE s.data.toList box t=Ln.eol ⟨t.pos+1+m9,t.rule,t.rows,t.count⟩ s.data.toList by
  unfold zaE;rw[if_neg hc,if_pos hd,zcX hd rfl,←hm,show t.pos+(m9+1)=t.pos+1+m9 by omega])
 have HX:=Hh (show t.pos+1+m9≤s.size by
  have h1:=zbl zaL s.data.toList (t.pos+1);rw[zaf] at h1;omega)
 have RM:=Hh (show ∀W,At9 p (rsOf s box ⟨t.pos+1,t.rule,t.rows,t.count⟩ a n c) W→Calls Tryz.prog 64 #[.pointer (some ⟨p,0,none⟩)] W fun e w'=>e=.returned (.tuple #[])∧Lq9 p (rsOf s box ⟨t.pos+1+m9,t.rule,t.rows,t.count⟩ a n c) W w' from fun W hW=>by
  have h9:=zmA p _ W hW hk (by show s.size≤1000000;omega);rw[show zah zaL ((rsOf s box ⟨t.pos+1,t.rule,t.rows,t.count⟩ a n c).s.data.toList.drop (rsOf s box ⟨t.pos+1,t.rule,t.rows,t.count⟩ a n c).k)=m9 from hm.symm] at h9;exact h9)
 have q0:True:=trivial;clear h ha ho hk hs hc hd hm;go_enter Tryz.func39,Tryz.ntmps39;go_wp2_with (first
  | (have _t:=q0;go_at_call 62;clear _t;go_loud (refine(zaQ p _ ⟨#[33,82,117,108,101,58,32]⟩ _ H.out (Nat.le_of_lt HK.out) HS1.out (by show 7≤1000;omega) false HC.out).mono ?_;rintro e w2 ⟨rfl,q2⟩;have Q2:=Hh (show Lq9 p (rsOf s box t a n c) w w2 from q2);clear q2;have q1:=q0;clear q0))
  | (have _t:=q1;go_at_call 62;clear _t;go_loud (refine(zaQ p _ ⟨#[33]⟩ _ Q2.out.o (Nat.le_of_lt HK.out) HS1.out (by show 1≤1000;omega) true HD.out).mono ?_;rintro e w3 ⟨rfl,q3⟩;have Q3:=Hh (show Lq9 p (rsOf s box ⟨t.pos+1,t.rule,t.rows,t.count⟩ a n c) w w3 from Q2.out.trans q3);clear q3;have q2:=q1;clear q1))
  | (go_at_call 64;go_loud (refine(RM.out _ Q3.out.o).mono ?_;rintro e w4 ⟨rfl,q4⟩;have Q4:=Hh (Q3.out.trans q4);clear q4)))
 go_at_call 66;refine(zsi p B s box ⟨t.pos+1+m9,t.rule,t.rows,t.count⟩ w _ ⟨⟨a,n,c,Q4.out.o,HO.out.kp HPB.out Q4.out.k⟩,HPB.out,Nat.le_trans HBW.out Q4.out.k.size⟩ (Kb.of B Q4.out.k) HX.out HS.out).mono ?_;rintro e w9 hr;unfold zfT at hr;have HR:=Hh hr;clear hr;cases ho:Ln.eol ⟨t.pos+1+m9,t.rule,t.rows,t.count⟩ s.data.toList with
 | ok u =>
  have h9:=HR.out;rw[ho] at h9;obtain⟨h1,rfl,h3⟩:=h9;have H9:=Hh (And.intro h1 h3);clear h1 h3;go_wp2;go_end0;refine⟨H9.out.1,?_⟩;rw[HZ.out,ho];exact⟨rfl,H9.out.2⟩
 | short =>
  have h9:=HR.out;rw[ho] at h9;obtain⟨h1,rfl,h3⟩:=h9;have H9:=Hh (And.intro h1 h3);clear h1 h3;go_wp2;go_end0;refine⟨H9.out.1,?_⟩;rw[HZ.out,ho];exact⟨rfl,H9.out.2⟩
 | bad k er =>
  have h9:=HR.out;rw[ho] at h9;obtain⟨h1,rfl⟩:=h9;refine⟨rfl,h1,?_⟩;rw[HZ.out,ho]
theorem zuJ (p B:Nat)(s:ByteArray)(box:Int)(t:Ln)(w:World)(h:Rk p B s box t w)(hk:t.pos<s.size)(hs:s.size≤400000)(r:List UInt8)(hr:r=(s.data.toList.drop t.pos).takeWhile zau)(hc:comm (s.data.toList.drop t.pos) zbj≠7)(hd:s.data.toList[t.pos]?≠some 33)(hb:0≤box∧box≤1000)(hcn:t.rows.length≤t.count)(hc9:t.count≤400000)(hf:farZ box t.count r=none) :
  Calls Tryz.prog 39 #[.pointer (some ⟨p,0,none⟩)] w (zfT p B s box w (zaE s.data.toList box t)):=by
 obtain⟨a,n,c,ha,ho⟩:=h.ex;have HPB:=Hh h.pb;have HBW:=Hh h.bw;have H:=Hh ha;have HO:=Hh ho;have HK:=Hh hk;have HS:=Hh hs;have HS1:=Hh (show s.size≤1000000 by omega);have HC:=Hh (zcY (l:=s.data.toList) (k:=t.pos) (B:=false) (decide_eq_false hc));have HD:=Hh (show decide (comm (s.data.toList.drop t.pos) (⟨#[33]⟩:ByteArray).data.toList=(⟨#[33]⟩:ByteArray).data.toList.length)=false by rw[zhE (by rw[zaf];exact hk)];exact decide_eq_false hd);have HZ:=Hh (show zaE s.data.toList box t=Ln.eol ⟨t.pos+zah zau (s.data.toList.drop t.pos),t.rule,zbz t.rows t.count r,t.count+1⟩ s.data.toList by
  unfold zaE;rw[if_neg hc,if_neg hd,←hr,hf])
 have HX:=Hh (show t.pos+zah zau (s.data.toList.drop t.pos)≤s.size by
  have h1:=zbl zau s.data.toList t.pos;rw[zaf] at h1;omega)
 have RW:=Hh (show ∀W,Lq9 p (rsOf s box t a n c) w W→Calls Tryz.prog 65 #[.pointer (some ⟨p,0,none⟩)] W fun e w'=>e=.returned (.tuple #[])∧Rk p B s box ⟨t.pos+zah zau (s.data.toList.drop t.pos),t.rule,zbz t.rows t.count r,t.count+1⟩ w'∧Kb p B W w' from fun W hW=>by
  have hoW:=ho.kp h.pb hW.k;have hBW:=Nat.le_trans h.bw hW.k.size;by_cases ht:zaK 46 r=[]
  ·exact zsg p s box t a n c W hW.o B h.pb hBW hoW (Nat.le_of_lt hk) hs hb hcn hc9 r hr hf ht
  ·exact zsf p s box t a n c W hW.o B h.pb hBW hoW (Nat.le_of_lt hk) hs hb hcn hc9 r hr hf ht)
 have q0:True:=trivial;clear h ha ho hk hs hc hd hr hb hcn hc9 hf;go_enter Tryz.func39,Tryz.ntmps39;go_wp2_with (first
  | (have _t:=q0;go_at_call 62;clear _t;go_loud (refine(zaQ p _ ⟨#[33,82,117,108,101,58,32]⟩ _ H.out (Nat.le_of_lt HK.out) HS1.out (by show 7≤1000;omega) false HC.out).mono ?_;rintro e w2 ⟨rfl,q2⟩;have Q2:=Hh (show Lq9 p (rsOf s box t a n c) w w2 from q2);clear q2;have q1:=q0;clear q0))
  | (have _t:=q1;go_at_call 62;clear _t;go_loud (refine(zaQ p _ ⟨#[33]⟩ _ Q2.out.o (Nat.le_of_lt HK.out) HS1.out (by show 1≤1000;omega) false HD.out).mono ?_;rintro e w3 ⟨rfl,q3⟩;have Q3:=Hh (show Lq9 p (rsOf s box t a n c) w w3 from Q2.out.trans q3);clear q3;have q2:=q1;clear q1))
  | (go_at_call 65;go_loud (refine(RW.out _ Q3.out).mono ?_;rintro e w4 ⟨rfl,r4,b4⟩;have R4:=Hh r4;have B4:=Hh ((Kb.of B Q3.out.k).trans b4);clear r4 b4)))
 go_at_call 66;refine(zsi p B s box ⟨t.pos+zah zau (s.data.toList.drop t.pos),t.rule,zbz t.rows t.count r,t.count+1⟩ w _ R4.out B4.out HX.out HS.out).mono ?_;rintro e w9 hr;unfold zfT at hr;have HR:=Hh hr;clear hr;cases ho:Ln.eol ⟨t.pos+zah zau (s.data.toList.drop t.pos),t.rule,zbz t.rows t.count r,t.count+1⟩ s.data.toList with
 | ok u =>
  have h9:=HR.out;rw[ho] at h9;obtain⟨h1,rfl,h3⟩:=h9;have H9:=Hh (And.intro h1 h3);clear h1 h3;go_wp2;go_end0;refine⟨H9.out.1,?_⟩;rw[HZ.out,ho];exact⟨rfl,H9.out.2⟩
 | short =>
  have h9:=HR.out;rw[ho] at h9;obtain⟨h1,rfl,h3⟩:=h9;have H9:=Hh (And.intro h1 h3);clear h1 h3;go_wp2;go_end0;refine⟨H9.out.1,?_⟩;rw[HZ.out,ho];exact⟨rfl,H9.out.2⟩
 | bad k er =>
  have h9:=HR.out;rw[ho] at h9;obtain⟨h1,rfl⟩:=h9;refine⟨rfl,h1,?_⟩;rw[HZ.out,ho]
theorem zuK (p B:Nat)(s:ByteArray)(box:Int)(t:Ln)(w:World)(h:Rk p B s box t w)(hk:t.pos<s.size)(hs:s.size≤400000)(r:List UInt8)(hr:r=(s.data.toList.drop t.pos).takeWhile zau)(hc:comm (s.data.toList.drop t.pos) zbj≠7)(hd:s.data.toList[t.pos]?≠some 33)(hb:0≤box∧box≤1000)(hcn:t.rows.length≤t.count)(hc9:t.count≤400000)(j:Nat)(hf:farZ box t.count r=some j) :
  Calls Tryz.prog 39 #[.pointer (some ⟨p,0,none⟩)] w (zfT p B s box w (zaE s.data.toList box t)):=by
 obtain⟨a,n,c,ha,ho⟩:=h.ex;have HPB:=Hh h.pb;have HBW:=Hh h.bw;have H:=Hh ha;have HO:=Hh ho;have HK:=Hh hk;have HS:=Hh hs;have HS1:=Hh (show s.size≤1000000 by omega);have HC:=Hh (zcY (l:=s.data.toList) (k:=t.pos) (B:=false) (decide_eq_false hc));have HD:=Hh (show decide (comm (s.data.toList.drop t.pos) (⟨#[33]⟩:ByteArray).data.toList=(⟨#[33]⟩:ByteArray).data.toList.length)=false by rw[zhE (by rw[zaf];exact hk)];exact decide_eq_false hd);have HZ:=Hh (show zaE s.data.toList box t=.bad (t.pos+j) 4 by
  unfold zaE;rw[if_neg hc,if_neg hd,←hr,hf])
 have RW:=Hh (show ∀W,Lq9 p (rsOf s box t a n c) w W→Calls Tryz.prog 65 #[.pointer (some ⟨p,0,none⟩)] W fun e w'=>e=.panicked [{ v:=thr ((t.pos+j:Nat):Int) 4,recovered:=false }]∧Kb p B W w' from fun W hW =>
  zuG p s box t a n c W hW.o B h.pb (Nat.le_trans h.bw hW.k.size) (ho.kp h.pb hW.k) (Nat.le_of_lt hk) hs hb hcn hc9 r hr j hf)
 have q0:True:=trivial;clear h ha ho hk hs hc hd hr hb hcn hc9 hf;go_enter Tryz.func39,Tryz.ntmps39;go_wp2_with (first
  | (have _t:=q0;go_at_call 62;clear _t;go_loud (refine(zaQ p _ ⟨#[33,82,117,108,101,58,32]⟩ _ H.out (Nat.le_of_lt HK.out) HS1.out (by show 7≤1000;omega) false HC.out).mono ?_;rintro e w2 ⟨rfl,q2⟩;have Q2:=Hh (show Lq9 p (rsOf s box t a n c) w w2 from q2);clear q2;have q1:=q0;clear q0))
  | (have _t:=q1;go_at_call 62;clear _t;go_loud (refine(zaQ p _ ⟨#[33]⟩ _ Q2.out.o (Nat.le_of_lt HK.out) HS1.out (by show 1≤1000;omega) false HD.out).mono ?_;rintro e w3 ⟨rfl,q3⟩;have Q3:=Hh (show Lq9 p (rsOf s box t a n c) w w3 from Q2.out.trans q3);clear q3;have q2:=q1;clear q1))
  | (go_at_call 65;go_loud (refine(RW.out _ Q3.out).mono ?_;rintro e w4 ⟨rfl,b4⟩;have B4:=Hh ((Kb.of B Q3.out.k).trans b4);clear b4)))
 refine⟨rfl,?_⟩;rw[HZ.out];exact⟨B4.out,rfl⟩
theorem zsk (p B:Nat)(s:ByteArray)(box:Int)(t:Ln)(w:World)(h:Rk p B s box t w)(hk:t.pos<s.size)(hs:s.size≤400000)(hb:0≤box∧box≤1000)(hcn:t.rows.length≤t.count)(hc9:t.count≤400000) :
  Calls Tryz.prog 39 #[.pointer (some ⟨p,0,none⟩)] w (zfT p B s box w (zaE s.data.toList box t)):=by
 by_cases hc:comm (s.data.toList.drop t.pos) zbj=7
 ·rcases Nat.eq_zero_or_pos (zeB s.data.toList (t.pos+7)) with h0|h0
  ·have h1:=zcZ hc;rw[zaf] at h1;rcases Nat.lt_or_ge (t.pos+7) s.size with h2|h2
   ·exact zll p B s box t w h hk hs hc h0 h2
   ·exact zlk p B s box t w h hk hs hc h0 (by omega)
  ·exact zsj p B s box t w h hk hs _ hc rfl h0
 ·by_cases hd:s.data.toList[t.pos]?=some 33
  ·exact zmB p B s box t w h hk hs _ rfl hc hd
  ·cases hf:farZ box t.count ((s.data.toList.drop t.pos).takeWhile zau) with
   | none=>exact zuJ p B s box t w h hk hs _ rfl hc hd hb hcn hc9 hf
   | some j=>exact zuK p B s box t w h hk hs _ rfl hc hd hb hcn hc9 j hf
theorem zei {l:List UInt8}{v u:Ln}(h:v.eol l=.ok u)(hv:v.pos≤l.length):v.pos≤u.pos∧u.pos≤l.length∧(v.pos<l.length→v.pos<u.pos)∧u.rows=v.rows∧u.count=v.count∧u.rule=v.rule:=by
 unfold Ln.eol eolZ at h;cases h1:l[v.pos]? with
 | none =>
  rw[h1] at h;cases h;have:=List.getElem?_eq_none_iff.1 h1;exact⟨Nat.le_refl _,hv,fun h=>by omega,rfl,rfl,rfl⟩
 | some c =>
  have hlt:v.pos<l.length:=by
   rcases Nat.lt_or_ge v.pos l.length with h2|h2
   ·exact h2
   ·rw[List.getElem?_eq_none h2] at h1;cases h1
  rw[h1] at h;dsimp only at h;by_cases hc:c=13
  ·rw[if_pos hc] at h;cases h2:l[v.pos+1]? with
   | none=>rw[h2] at h;cases h
   | some d =>
    rw[h2] at h;dsimp only at h;by_cases hd:d=10
    ·rw[if_pos hd] at h;cases h;have:v.pos+1<l.length:=by
      rcases Nat.lt_or_ge (v.pos+1) l.length with h3|h3
      ·exact h3
      ·rw[List.getElem?_eq_none h3] at h2;cases h2
     exact⟨by show v.pos≤v.pos+2;omega,by show v.pos+2≤_;omega,fun _=>by show v.pos<v.pos+2;omega,rfl,rfl,rfl⟩
    ·rw[if_neg hd] at h;cases h
  ·rw[if_neg hc] at h;by_cases hd:c=10
   ·rw[if_pos hd] at h;cases h;exact⟨by show v.pos≤v.pos+1;omega,by show v.pos+1≤_;omega,fun _=>by show v.pos<v.pos+1;omega,rfl,rfl,rfl⟩
   ·rw[if_neg hd] at h;cases h
structure I9 (l:List UInt8)(u:Ln):Prop where
 rows:u.rows.length≤u.count
 count:u.count≤u.pos
 pos:u.pos≤l.length
theorem zpe {L:List (List UInt8)}{c:Nat}(r:List UInt8)(h:L.length≤c):(zbz L c r).length≤c+1:=by
 unfold zbz;split
 ·omega
 ·rw[List.length_append,List.length_append,List.length_replicate,List.length_singleton];omega
theorem zhF {l:List UInt8}{box:Int}{u v:Ln}(h:zaE l box u=.ok v)(hp:u.pos<l.length)(hi:I9 l u):u.pos<v.pos∧I9 l v:=by
 unfold zaE at h;by_cases hc:comm (l.drop u.pos) zbj=7
 ·rw[if_pos hc] at h;have h7:=zcZ hc;by_cases hn:min 40 (zah sgn (l.drop (u.pos+7)))=0
  ·rw[if_pos hn] at h;split at h <;> cases h
  ·rw[if_neg hn] at h;have hs:=zbl sgn l (u.pos+7);obtain⟨e1,e2,e3,e4,e5,e6⟩:=zei h (by show u.pos+7+_≤_;omega);dsimp only at e1 e2 e3 e4 e5 e6;exact⟨by omega,by rw[e4,e5];exact hi.rows,by rw[e5];have:=hi.count;omega,e2⟩
 ·rw[if_neg hc] at h;by_cases hd:l[u.pos]?=some 33
  ·rw[if_pos hd] at h;have hs:=zbl zaL l u.pos;have hm:=zcX (p:=zaL) hd rfl;obtain⟨e1,e2,e3,e4,e5,e6⟩:=zei h (by show u.pos+_≤_;omega);dsimp only at e1 e2 e3 e4 e5 e6;exact⟨by omega,by rw[e4,e5];exact hi.rows,by rw[e5];have:=hi.count;omega,e2⟩
  ·rw[if_neg hd] at h;cases hf:farZ box u.count ((l.drop u.pos).takeWhile zau) with
   | some j=>rw[hf] at h;cases h
   | none =>
    rw[hf] at h;dsimp only at h;have hs:=zbl zau l u.pos;obtain⟨e1,e2,e3,e4,e5,e6⟩:=zei h (by show u.pos+_≤_;omega);dsimp only at e1 e2 e3 e4 e5 e6;have hlt:u.pos<v.pos:=by
     rcases Nat.eq_zero_or_pos (zah zau (l.drop u.pos)) with h0|h0
     ·rw[h0] at e3 e1;have:=e3 (by omega);omega
     ·omega
    exact⟨hlt,by rw[e4,e5];exact zpe _ hi.rows,by rw[e5];have:=hi.count;omega,e2⟩
def zzd (p B:Nat)(s:ByteArray)(box:Int)(w:World)(t:Ln)(e:Ending)(w':World):Prop :=
 ∃o,Rd9 s.data.toList box t o∧zfT p B s box w o e w'
theorem zmC (p B:Nat)(s:ByteArray)(box:Int)(t:Ln)(w:World)(h:Rk p B s box t w)(hi:I9 s.data.toList t)(hs:s.size≤400000)(hb:0≤box∧box≤1000) :
  Calls Tryz.prog 20 #[.pointer (some ⟨p,0,none⟩)] w (zzd p B s box w t):=by
 have H:=Hh h;have HI:=Hh hi;have HS:=Hh hs;have HB:=Hh hb;have HL:=Hh (zaf s);clear h hi hs hb;go_enter Tryz.func20,Tryz.ntmps20;go_wp2_with fail;go_loopw [5] (fun z wr=>∃(v:Value),z=v∧Kb p B w wr∧((∃u,Rk p B s box u wr∧I9 s.data.toList u∧∀o,Rd9 s.data.toList box u o→Rd9 s.data.toList box t o)∨(Sh9 p s wr∧Rd9 s.data.toList box t .short))) (fun _ wr=>s.size-zmz p wr)
 case atStart=>exact⟨_,rfl,Kb.refl _ _ _,.inl ⟨t,H.out,HI.out,fun _ h=>h⟩⟩
 case round =>
  obtain⟨v,rfl,hbl,hr⟩:=hrel;have HBL:=Hh hbl;clear hbl;rcases hr with⟨u,hu,hiu,hru⟩|⟨⟨y,h1,h2,h3,h4⟩,h5⟩
  ·obtain⟨a,n,c,ha,hoo⟩:=hu.ex;have HU:=Hh (And.intro hu.pb hu.bw);have HA:=Hh ha;have HOO:=Hh hoo;have HIU:=Hh hiu;have HRU:=Hh hru;clear hu ha hoo hiu hru;rcases Nat.lt_or_ge u.pos s.size with hlt|hge
   ·have HLT:=Hh hlt;clear hlt;go_wp2_with (first
     | (go_at_call 38;go_loud (refine(zba p _ _ HA.out).mono ?_;rintro e w1 ⟨rfl,m1,rfl⟩;rw[show decide ((rsOf s box u a n c).k<(rsOf s box u a n c).s.size)=true from decide_eq_true HLT.out])))
    go_at_call 39;refine(zsk p B s box u _ ⟨⟨a,n,c,HA.out.drew m1,HOO.out.kp HU.out.1 (Kp.drew p _ _)⟩,HU.out.1,HU.out.2⟩ HLT.out HS.out HB.out HIU.out.rows (by have:=HIU.out.count;have:=HLT.out;have:=HS.out;omega)).mono ?_;rintro e w9 ⟨b9,hr⟩;have B9:=Hh (show Kb p B w w9 from HBL.out.trans ((Kb.of B (Kp.drew p wr m1)).trans b9));have HR:=Hh hr;clear hr b9;have HP:=Hh HA.out.pos;cases ho:zaE s.data.toList box u with
    | ok u2 =>
     have h9:=HR.out;rw[ho] at h9;obtain⟨rfl,h3⟩:=h9;have H3:=Hh h3;have HST:=Hh (zhF ho (by rw[HL.out];exact HLT.out) HIU.out);have HGO:=Hh (show ∀o,Rd9 s.data.toList box u2 o→Rd9 s.data.toList box t o from fun o h=>HRU.out o (.go (by rw[HL.out];exact HLT.out) ho h));clear h3 ho;go_wp2;go_roundw
     case rel=>exact⟨_,rfl,B9.out,.inl ⟨u2,H3.out,HST.out.2,HGO.out⟩⟩
     case measure =>
      obtain⟨a2,n2,c2,ha2,-⟩:=H3.out.ex;rw[ha2.pos,HP.out];have:=HST.out.1;have:=HLT.out;show s.size-u2.pos<s.size-u.pos;omega
    | short =>
     have h9:=HR.out;rw[ho] at h9;obtain⟨rfl,h3⟩:=h9;have H3:=Hh h3;have HGO:=Hh (HRU.out _ (.short (by rw[HL.out];exact HLT.out) ho));clear h3 ho;go_wp2;go_roundw
     case rel=>exact⟨_,rfl,B9.out,.inr ⟨H3.out,HGO.out⟩⟩
     case measure =>
      obtain⟨y,h1,h2,h3,h4⟩:=H3.out;rw[h1.pos,HP.out,h3];have:=HLT.out;show s.size-s.size<s.size-u.pos;omega
    | bad k er =>
     have h9:=HR.out;rw[ho] at h9;obtain rfl:=h9;exact⟨rfl,_,HRU.out _ (.bad (by rw[HL.out];exact HLT.out) ho),B9.out,rfl⟩
   ·have HGE:=Hh hge;clear hge;go_wp2_with (first
     | (go_at_call 38;go_loud (refine(zba p _ _ HA.out).mono ?_;rintro e w1 ⟨rfl,m1,rfl⟩;rw[show decide ((rsOf s box u a n c).k<(rsOf s box u a n c).s.size)=false from decide_eq_false (by have:=HGE.out;show ¬ u.pos<s.size;omega)])))
    go_end0;exact⟨_,HRU.out _ (.done (by rw[HL.out];exact HGE.out)),HBL.out.trans (Kb.of B (Kp.drew p _ _)),rfl,⟨a,n,c,HA.out.drew _,HOO.out.kp HU.out.1 (Kp.drew p _ _)⟩,HU.out.1,HU.out.2⟩
  ·have HY:=Hh h1;have HE:=Hh (And.intro h2 (And.intro h3 (And.intro h4 h5)));clear h1 h2 h3 h4 h5;go_wp2_with (first
    | (go_at_call 38;go_loud (refine(zba p _ _ HY.out).mono ?_;rintro e w1 ⟨rfl,m1,rfl⟩;rw[show decide (y.k<y.s.size)=false from decide_eq_false (by rw[HE.out.1,HE.out.2.1];omega)])))
   go_end0;exact⟨_,HE.out.2.2.2,HBL.out.trans (Kb.of B (Kp.drew p _ _)),rfl,y,HY.out.drew _,HE.out.1,HE.out.2.1,HE.out.2.2.1⟩
abbrev Own1 (g:Nat)(T:TypeId)(v:Value)(W:World):Prop:=W.heap[g]?=some (.cells #[v] T)
theorem zej {g:Nat}{T:TypeId}{v:Value}{W:World}(h:Own1 g T v W)(u:Value):Own1 g T u (W.setCell ⟨g,0,none⟩ u):=by
 unfold Own1 at h ⊢;simp[World.setCell,Array.getElem?_modify,h]
theorem zck {g b:Nat}{T:TypeId}{v:Value}{W:World}(h:Own1 g T v W)(hb:¬ g=b)(u:Value):Own1 g T v (W.setCell ⟨b,0,none⟩ u):=(Below.heap_setCell _ _ _ _ (fun e=>hb (by first|exact e|exact e.symm))).trans h
theorem zhG (g4 g5:Nat)(w:World) :
  CallsD Tryz.prog 37 #[.pointer (some ⟨g4,0,none⟩),.pointer (some ⟨g5,0,none⟩)] .returning w fun e u' w'=>e=.returned (.tuple #[])∧u'=.returning∧w'=w:=by
 refine callsD_of_wpS Tryz.func37 rfl fun c₀ cs hu=>?_;simp only[Tryz.ntmps37,List.size_toArray,List.length_cons,List.length_nil,Nat.reduceAdd,Nat.reduceSub,Array.replicate_succ,Array.replicate_zero,List.push_toArray,List.append_toArray,List.nil_append,List.cons_append];apply wpS_seq;apply wpS_region;generalize hQ:Exit.thenS (Code.wpS _ _ _) (bodyPostS _ _ _ _ _)=Q;simp[wpOpsS,go_sem,recoverD,hu];rw[←hQ];clear hQ;refine wpS_of_wp ?_;go_wp2;exact⟨rfl,.returning,by cases c₀;simp_all,.tuple #[],by simp[results,Tryz.results37],rfl,rfl,rfl⟩
theorem zpf (B g4 g5:Nat)(k er x y:Int)(older:List PanicEntry)(w:World)(hB:B≤g4∧B≤g5∧g4≠g5)(h4:Own1 g4 3 (.int .i64 x) w)(h5:Own1 g5 30 (.int .i64 y) w) :
  CallsD Tryz.prog 37 #[.pointer (some ⟨g4,0,none⟩),.pointer (some ⟨g5,0,none⟩)] (.panicking ({ v:=thr k er,recovered:=false } :: older)) w fun e u' w' =>
   e=.returned (.tuple #[])∧u'=.panicking ({ v:=thr k er,recovered:=true } :: older)∧Own1 g4 3 (.int .i64 k) w'∧Own1 g5 30 (.int .i64 er) w'∧Below B w w':=by
 have HB:=Hh hB;have hne:¬ g4=g5:=hB.2.2;have hne2:¬ g5=g4:=fun e=>hne e.symm;have h4a:Own1 g4 3 (.int .i64 x) (w.alloc (.cells #[.int .i64 k,.int .i64 er] 87)):=(Below.heap_alloc _ _ _ (zdO h4)).trans h4;have h5a:Own1 g5 30 (.int .i64 y) (w.alloc (.cells #[.int .i64 k,.int .i64 er] 87)):=(Below.heap_alloc _ _ _ (zdO h5)).trans h5;have z4:=zaa h4a;have z5:=zaa h5a;have f4:=zam h4a;have f5:=zam h5a;have H4:=Hh h4a;have H5:=Hh h5a;have HL:=Hh (And.intro (zdO h4) (zdO h5));clear h4 h5 hB h4a h5a;refine callsD_of_wpS Tryz.func37 rfl fun c₀ cs hu=>?_;simp only[Tryz.ntmps37,List.size_toArray,List.length_cons,List.length_nil,Nat.reduceAdd,Nat.reduceSub,Array.replicate_succ,Array.replicate_zero,List.push_toArray,List.append_toArray,List.nil_append,List.cons_append];apply wpS_seq;apply wpS_region;generalize hQ:Exit.thenS (Code.wpS _ _ _) (bodyPostS _ _ _ _ _)=Q;simp[wpOpsS,go_sem,recoverD,hu,thr];rw[←hQ];clear hQ;refine wpS_of_wp ?_;have hta:∀(xt:TypeId) (v:Value) (W:World),(Instr.typeAssert (.iface 87 v) xt 87 true).run Tryz.prog W=.ok (.tuple #[v,.bool true]) W:=fun xt v W=>by kernel_rfl
 go_wp2;go_region;refine⟨rfl,.panicking ({ v:=thr k er,recovered:=true } :: older),by cases c₀;simp_all [thr],.tuple #[],by simp[results,Tryz.results37],rfl,rfl,?_,?_,?_⟩
 ·exact(zck (zej H4.out _) hne _)
 ·exact zej (zck H5.out hne2 _) _
 ·have h1:=HB.out;have h2:Below B w (w.alloc (.cells #[.int .i64 k,.int .i64 er] 87)):=(Below.refl B w).alloc (by have:=HL.out;omega) _;have h3:=(h2.setCell (p:=⟨g4,0,none⟩) h1.1 (.int .i64 k)).setCell (p:=⟨g5,0,none⟩) h1.2.1 (.int .i64 er);exact⟨h3.os,h3.tape,h3.output,h3.size,h3.block⟩
abbrev ln0:Ln:=⟨0,[66,51,47,83,50,51],[],0⟩
def zze (p:Nat)(s:ByteArray)(box:Int)(w:World)(e:Ending)(w':World):Prop :=
 ∃o,Rd9 s.data.toList box ln0 o∧Below p w w'∧match o with
 | .ok u=>e=.returned (.tuple #[.int .i64 0,.int .i64 0])∧Rk p (w.heap.size+2) s box u w'
 | .short=>e=.returned (.tuple #[.int .i64 s.size,.int .i64 3])∧Sh9 p s w'
 | .bad k er=>e=.returned (.tuple #[.int .i64 k,.int .i64 er])∧At9 p (rsOf s box ln0 none 0 0) w
theorem Kb.to {p B C:Nat}{a b w:World}(h:Kb p B a b)(hw:Below C w a)(h1:C≤p)(h2:C≤B)(h3:C≤a.heap.size):Below C w b:=hw.trans (Ky.to h h3 fun k e=>by rcases e with e|e <;> omega)
theorem ziO (p:Nat)(s:ByteArray)(box:Int)(w:World)(h:At9 p (rsOf s box ln0 none 0 0) w)(hs:s.size≤400000)(hb:0≤box∧box≤1000) :
  Calls Tryz.prog 19 #[.pointer (some ⟨p,0,none⟩),.func (Fn.func 20) #[.pointer (some ⟨p,0,none⟩)] #[]] w (zze p s box w):=by
 have hmf:∀(fn:Fn) (first cap:Array Value) (w:World),(Instr.makeFunc fn first cap).run Tryz.prog w=.ok (.func fn first cap) w:=fun _ _ _ _=>rfl;obtain⟨V,hV⟩:∃V:World,V=(w.alloc (.cells #[.int .i64 0] 3)).alloc (.cells #[.int .i64 0] 30):=⟨_,rfl⟩;have HB0:=Hh (show Below w.heap.size w V from by rw[hV];exact((Below.refl w.heap.size w).alloc (Nat.le_refl _) (.cells #[.int .i64 0] 3)).alloc (by rw[World.size_alloc];omega) (.cells #[.int .i64 0] 30));have hz:V.heap.size=w.heap.size+2:=by rw[hV,World.size_alloc,World.size_alloc]
 have g4:Own1 w.heap.size 3 (.int .i64 0) V:=by
  rw[hV];exact(Below.heap_alloc _ _ _ (by rw[World.size_alloc];omega)).trans (heap_alloc_new w _)
 have g5:Own1 (w.heap.size+1) 30 (.int .i64 0) V:=by
  rw[hV];have h9:=heap_alloc_new (w.alloc (.cells #[.int .i64 0] 3)) (.cells #[.int .i64 0] 30)
  rwa [World.size_alloc] at h9
 have hpl:=h.lt;have RK:=Hh (show Rk p (w.heap.size+2) s box ln0 V from⟨⟨none,0,0,h.below HB0.out,OwP.nil _ _⟩,by omega,Nat.le_of_eq hz.symm⟩);have H:=Hh h;have HL:=Hh hpl;have HS:=Hh hs;have HB:=Hh hb;have G4:=Hh g4;have G5:=Hh g5;have HV:=Hh hV;have HZ:=Hh hz;clear h hs hb g4 g5 hpl hz hV;go_enter_defers Tryz.func19,Tryz.ntmps19;go_wp2_with fail;go_at_call 20;rw[←HV.out];refine(zmC p (w.heap.size+2) s box ln0 V RK.out ⟨Nat.le_refl _,Nat.le_refl _,Nat.zero_le _⟩ HS.out HB.out).mono ?_;rintro e w2 ⟨o,hrd,hkb,hr⟩;have HRD:=Hh hrd;have HKB:=Hh hkb;have ne4:¬ (w.heap.size=p∨w.heap.size+2≤w.heap.size):=by have:=HL.out;omega
 have ne5:¬ (w.heap.size+1=p∨w.heap.size+2≤w.heap.size+1):=by have:=HL.out;omega
 have G42:=Hh (show Own1 w.heap.size 3 (.int .i64 0) w2 from(hkb.block _ (zdO G4.out) ne4).trans G4.out);have G52:=Hh (show Own1 (w.heap.size+1) 30 (.int .i64 0) w2 from(hkb.block _ (zdO G5.out) ne5).trans G5.out);have HBW:=Hh (show Below p w w2 from HKB.out.to (HB0.out.mono (Nat.le_of_lt HL.out)) (Nat.le_refl _) (by have:=HL.out;omega) (by have:=HL.out;have:=HZ.out;omega));clear hrd hkb ne4 ne5;cases o with
 | ok u =>
  obtain⟨rfl,hrk⟩:=hr;have RK2:=Hh hrk;obtain⟨a,n,c,ha,ho⟩:=hrk.ex;have c0:=ha.cells.1;have c2:=ha.cells.2.2.1;have z4:=zaa G42.out;have z5:=zaa G52.out;have f4:=zam G42.out;have f5:=zam G52.out;have HA:=Hh ha;have HO:=Hh ho;clear ho ha hrk;go_wp2;have G43:=zck (zej G42.out (.int .i64 0)) (by omega:¬ w.heap.size=w.heap.size+1) (.int .i64 0);have G53:=zej (zck G52.out (by omega:¬ w.heap.size+1=w.heap.size) (.int .i64 0)) (.int .i64 0);have HB3:=(HBW.out.setCell (p:=⟨w.heap.size,0,none⟩) (Nat.le_of_lt HL.out) (.int .i64 0)).setCell (p:=⟨w.heap.size+1,0,none⟩) (by have:=HL.out;show p≤w.heap.size+1;omega) (.int .i64 0);have hk3:∀(W:World),W=((w2.setCell ⟨w.heap.size,0,none⟩ (.int .i64 0)).setCell ⟨w.heap.size+1,0,none⟩ (.int .i64 0))→∀i,i≠w.heap.size→i≠w.heap.size+1→W.heap[i]?=w2.heap[i]?:=fun W hW i h1 h2=>by
   rw[hW];exact(Below.heap_setCell _ _ _ _ (fun e=>h2 (by first|exact e|exact e.symm))).trans (Below.heap_setCell _ _ _ _ (fun e=>h1 (by first|exact e|exact e.symm)))
  refine leaves_cons (f:=37) (args:=#[.pointer (some ⟨w.heap.size,0,none⟩),.pointer (some ⟨w.heap.size+1,0,none⟩)]) (by simp) (by simp[go_sem]) ?_;refine(zhG w.heap.size (w.heap.size+1) _).mono ?_;rintro e u' w'' ⟨rfl,rfl,rfl⟩;have e4:=zaa G43;have e5:=zaa G53;refine⟨.tuple #[.int .i64 0,.int .i64 0],by simp[results,Tryz.results19,go_sem,e4,e5],?_⟩;exact⟨_,HRD.out,HB3,rfl,⟨a,n,c,HA.out.same (hk3 _ rfl p (by have:=HL.out;omega) (by have:=HL.out;omega)),HO.out.kept fun b hb=>hk3 _ rfl b (by have:=(HO.out.2.lt b hb).1;omega) (by have:=(HO.out.2.lt b hb).1;omega)⟩,RK2.out.pb,by show _≤((w2.setCell _ _).setCell _ _).heap.size;simp[World.setCell];exact RK2.out.bw⟩
 | short =>
  obtain⟨rfl,y,h1,h2,h3,h4⟩:=hr;have c0:=h1.cells.1;have c2:=h1.cells.2.2.1;rw[h2] at c0;rw[h4] at c2;have z4:=zaa G42.out;have z5:=zaa G52.out;have f4:=zam G42.out;have f5:=zam G52.out;have HY:=Hh (And.intro h1 (And.intro h2 (And.intro h3 h4)));clear h1 h2 h3 h4;go_wp2;have G43:=zck (zej G42.out (.int .i64 (s.size:Int))) (by omega:¬ w.heap.size=w.heap.size+1) (.int .i64 3);have G53:=zej (zck G52.out (by omega:¬ w.heap.size+1=w.heap.size) (.int .i64 (s.size:Int))) (.int .i64 3);have HB3:=(HBW.out.setCell (p:=⟨w.heap.size,0,none⟩) (Nat.le_of_lt HL.out) (.int .i64 (s.size:Int))).setCell (p:=⟨w.heap.size+1,0,none⟩) (by have:=HL.out;show p≤w.heap.size+1;omega) (.int .i64 3);have hk3:∀(W:World),W=((w2.setCell ⟨w.heap.size,0,none⟩ (.int .i64 (s.size:Int))).setCell ⟨w.heap.size+1,0,none⟩ (.int .i64 3))→∀i,i≠w.heap.size→i≠w.heap.size+1→W.heap[i]?=w2.heap[i]?:=fun W hW i h1 h2=>by
   rw[hW];exact(Below.heap_setCell _ _ _ _ (fun e=>h2 (by first|exact e|exact e.symm))).trans (Below.heap_setCell _ _ _ _ (fun e=>h1 (by first|exact e|exact e.symm)))
  refine leaves_cons (f:=37) (args:=#[.pointer (some ⟨w.heap.size,0,none⟩),.pointer (some ⟨w.heap.size+1,0,none⟩)]) (by simp) (by simp[go_sem]) ?_;refine(zhG w.heap.size (w.heap.size+1) _).mono ?_;rintro e u' w'' ⟨rfl,rfl,rfl⟩;have e4:=zaa G43;have e5:=zaa G53;refine⟨.tuple #[.int .i64 (s.size:Int),.int .i64 3],by simp[results,Tryz.results19,go_sem,e4,e5],?_⟩;exact⟨_,HRD.out,HB3,rfl,y,HY.out.1.same (hk3 _ rfl p (by have:=HL.out;omega) (by have:=HL.out;omega)),HY.out.2⟩
 | bad k er =>
  obtain rfl:=hr;refine leaves_cons (f:=37) (args:=#[.pointer (some ⟨w.heap.size,0,none⟩),.pointer (some ⟨w.heap.size+1,0,none⟩)]) (by simp) (by simp[go_sem]) ?_;refine(zpf p w.heap.size (w.heap.size+1) k er 0 0 [] w2 ⟨Nat.le_of_lt HL.out,by have:=HL.out;omega,by omega⟩ G42.out G52.out).mono ?_;rintro e u' w'' ⟨rfl,rfl,h4,h5,hb⟩;have e4:=zaa h4;have e5:=zaa h5;refine⟨.tuple #[.int .i64 k,.int .i64 er],by simp[results,Tryz.results19,go_sem,e4,e5],?_⟩;exact⟨_,HRD.out,HBW.out.trans hb,rfl,H.out⟩
theorem zlm {c:UInt8}:∀{l:List UInt8},zaK c l≠[]→∃x,l[(zaK c l).length-1]?=some x∧x≠c
 | [],h=>absurd rfl h
 | y :: r,h=>by
  unfold zaK at h ⊢;by_cases h1:y=c∧zaK c r=[]
  ·rw[if_pos h1] at h;exact absurd rfl h
  ·rw[if_neg h1];by_cases h2:zaK c r=[]
   ·rw[h2];exact⟨y,rfl,fun e=>h1 ⟨e,h2⟩⟩
   ·obtain⟨x,h3,h4⟩:=zlm h2;refine⟨x,?_,h4⟩;have h5:0<(zaK c r).length:=List.length_pos_iff.2 h2;rw[List.length_cons,Nat.add_sub_cancel];obtain⟨m,hm⟩:∃m,(zaK c r).length=m+1:=⟨_,(Nat.sub_add_cancel h5).symm⟩;rw[hm] at h3 ⊢;exact h3
theorem zyp {box:Int}{count:Nat}{r:List UInt8}(h:farZ box count r=none){i:Nat}(hi:r[i]?=some 79):(i:Int)<box∧(count:Int)<box:=by
 have hlt:i<r.length:=by
  rcases Nat.lt_or_ge i r.length with h1|h1
  ·exact h1
  ·rw[List.getElem?_eq_none h1] at hi;cases hi
 unfold farZ at h;have h2:=List.find?_range_eq_none.1 h i hlt;rw[hi] at h2;simp at h2;omega
structure J9 (l:List UInt8)(box:Int)(u:Ln):Prop where
 len:(u.rows.length:Int)≤box
 row:∀r∈u.rows,(r.length:Int)≤box∧∀c∈r,zau c=true
 ones:u.rows.flatten.count 79≤(l.take u.pos).count 79
theorem zfG {l:List UInt8}{i j:Nat}(h:i≤j):(l.take i).count 79≤(l.take j).count 79:=by
 have e:l.take j=l.take i++(l.take j).drop i:=by
  have h1:=(List.take_append_drop i (l.take j)).symm
  rwa [List.take_take,Nat.min_eq_left h] at h1
 rw[e,List.count_append];omega
theorem J9.same {l:List UInt8}{box:Int}{u v:Ln}(h:J9 l box u)(hr:v.rows=u.rows)(hp:u.pos≤v.pos):J9 l box v :=
 ⟨by rw[hr];exact h.len,by rw[hr];exact h.row,by rw[hr];exact Nat.le_trans h.ones (zfG hp)⟩
theorem zyq {l:List UInt8}{box:Int}{u v:Ln}(h:zaE l box u=.ok v)(hp:u.pos<l.length)(hi:I9 l u)(hj:J9 l box u):J9 l box v:=by
 have hstep:=(zhF h hp hi).1;unfold zaE at h;by_cases hc:comm (l.drop u.pos) zbj=7
 ·rw[if_pos hc] at h;have h7:=zcZ hc;by_cases hn:min 40 (zah sgn (l.drop (u.pos+7)))=0
  ·rw[if_pos hn] at h;split at h <;> cases h
  ·rw[if_neg hn] at h;have hs:=zbl sgn l (u.pos+7);obtain⟨-,-,-,e4,-⟩:=zei h (by show u.pos+7+_≤_;omega);exact hj.same e4 (Nat.le_of_lt hstep)
 ·rw[if_neg hc] at h;by_cases hd:l[u.pos]?=some 33
  ·rw[if_pos hd] at h;have hs:=zbl zaL l u.pos;obtain⟨-,-,-,e4,-⟩:=zei h (by show u.pos+_≤_;omega);exact hj.same e4 (Nat.le_of_lt hstep)
  ·rw[if_neg hd] at h;cases hf:farZ box u.count ((l.drop u.pos).takeWhile zau) with
   | some j=>rw[hf] at h;cases h
   | none =>
    rw[hf] at h;dsimp only at h;have hs:=zbl zau l u.pos;obtain⟨e1,-,-,e4,-⟩:=zei h (by show u.pos+_≤_;omega);dsimp only at e1 e4;obtain⟨r,hr⟩:∃r,r=(l.drop u.pos).takeWhile zau:=⟨_,rfl⟩;rw[←hr] at e4 hf;have hall:∀c∈r,zau c=true:=fun c hc=>by
     obtain⟨i,hi,e⟩:=List.mem_iff_getElem.1 hc;have h1:i<zah zau (l.drop u.pos):=by rw[hr] at hi;exact hi
     obtain⟨d,hd1,hd2⟩:=zfj h1;have h2:r[i]?=some c:=by rw[List.getElem?_eq_getElem hi,e]
     rw[hr,zbG,List.getElem?_take,if_pos h1,hd1] at h2;rw[←Option.some.inj h2];exact hd2
    by_cases ht:zaK 46 r=[]
    ·refine hj.same ?_ (Nat.le_of_lt hstep);rw[e4];unfold zbz;rw[if_pos ht]
    ·have e5:v.rows=u.rows++List.replicate (u.count-u.rows.length) []++[zaK 46 r]:=by
      rw[e4];unfold zbz;rw[if_neg ht]
     obtain⟨x,hx1,hx2⟩:=zlm ht;have hx3:x=79:=by
      have h1:=hall x (List.mem_of_getElem? hx1);unfold zau at h1;rw[Bool.or_eq_true,beq_iff_eq,beq_iff_eq] at h1;exact h1.resolve_left hx2
     rw[hx3] at hx1;have hno:=zyp hf hx1;have hpos:0<(zaK 46 r).length:=List.length_pos_iff.2 ht;have hrc:=hi.rows;refine⟨?_,fun y hy=>?_,?_⟩
     ·rw[e5,List.length_append,List.length_append,List.length_replicate,List.length_singleton];omega
     ·rw[e5,List.mem_append,List.mem_append] at hy;rcases hy with(hy|hy)|hy
      ·exact hj.row y hy
      ·rw[List.eq_of_mem_replicate hy];exact⟨by have:=hj.len;show(0:Int)≤box;omega,fun c hc=>by cases hc⟩
      ·rw[List.mem_singleton.1 hy];exact⟨by omega,fun c hc=>hall c (zrN hc)⟩
     ·have e6:(u.rows++List.replicate (u.count-u.rows.length) []++[zaK 46 r]).flatten=u.rows.flatten++zaK 46 r:=by
       rw[List.flatten_append,List.flatten_append,List.flatten_singleton];have:(List.replicate (u.count-u.rows.length) ([]:List UInt8)).flatten=[]:=by
        rw[List.flatten_eq_nil_iff];exact fun y hy=>List.eq_of_mem_replicate hy
       rw[this,List.append_nil]
      rw[e5,e6,List.count_append];have h1:=hj.ones;have h2:(zaK 46 r).count 79≤r.count 79:=by
       rw[ziI 46 r];exact(List.take_sublist _ _).count_le _
      have h3:l.take (u.pos+zah zau (l.drop u.pos))=l.take u.pos++r:=by
       rw[List.take_add,hr,zbG]
      have h4:=zfG (l:=l) e1;rw[h3,List.count_append] at h4;omega
theorem rd_j {l:List UInt8}{box:Int}{t:Ln}{o:Ro}(h:Rd9 l box t o):I9 l t→J9 l box t→∀u,o=.ok u→I9 l u∧J9 l box u:=by
 induction h with
 | done h1=>intro hi hj u e;cases e;exact⟨hi,hj⟩
 | short=>intro _ _ u e;cases e
 | bad=>intro _ _ u e;cases e
 | go h1 h2 h3 ih=>intro hi hj u e;exact ih (zhF h2 h1 hi).2 (zyq h2 h1 hi hj) u e
theorem zsl {L:List (List UInt8)}{k:Nat}(X Y:Int)(hk:k<L.length):∀w,w≤zbm L→(rowC (picS (zbI L)) X Y k w).length≤((tat L k).take w).count 79
 | 0,_=>Nat.zero_le _
 | w+1,hw=>by
  have ih:=zsl X Y hk w (by omega);rw[zdK];have hp:picS (zbI L) k w=if (tat L k)[w]?=some 79 then 1 else 0:=by
   have h1:(zbI L)[k]?=some (stR (zbm L) (tat L k)):=by
    unfold zbI tat;rw[List.getElem?_map,List.getElem?_eq_getElem hk];rfl
   have h2:(stR (zbm L) (tat L k))[w]?=some (if (tat L k)[w]?=some 79 then 1 else 0):=by
    unfold stR;rw[List.getElem?_map,List.getElem?_range (by omega)];rfl
   rw[zmh h1 h2];split <;> rfl
  rw[hp,List.take_add_one,List.count_append];by_cases h9:(tat L k)[w]?=some 79
  ·rw[if_pos h9,if_neg (by decide),List.length_append,h9];show _+1≤_+List.count 79 [79];rw[List.count_singleton_self];omega
  ·rw[if_neg h9,if_pos rfl,List.append_nil];omega
theorem zsm {L:List (List UInt8)}(X Y:Int):∀h,h≤L.length→(picL (picS (zbI L)) X Y (zbm L) h).length≤(L.take h).flatten.count 79
 | 0,_=>Nat.zero_le _
 | h+1,hh=>by
  have ih:=zsm (L:=L) X Y h (by omega);have h1:=zsl X Y (show h<L.length by omega) (zbm L) (Nat.le_refl _);have h2:(tat L h).take (zbm L)=tat L h:=List.take_of_length_le (zjL (show tat L h∈L by unfold tat;rw[List.getElem?_eq_getElem (show h<L.length by omega)];exact List.getElem_mem _));rw[h2] at h1;have h3:(L.take (h+1)).flatten=(L.take h).flatten++tat L h:=zrE (by omega);rw[zff,List.length_append,h3,List.count_append];omega
theorem zpg (L:List (List UInt8)):(zdP L).length≤L.flatten.count 79:=by
 rcases Nat.eq_zero_or_pos L.length with h0|h0
 ·rw[List.length_eq_zero_iff.1 h0];exact Nat.zero_le _
 ·unfold zdP;rw[ziN h0,zaM];have h1:=zsm (L:=L) 0 0 L.length (Nat.le_refl _)
  rwa [List.take_length] at h1
theorem zxl {l:List UInt8}{box:Int}(hb:0≤box∧box≤1000){u:Ln}(h:Rd9 l box ln0 (.ok u)) :
  I9 l u∧(zbm u.rows:Int)≤box∧(u.rows.length:Int)≤box∧(∀r∈u.rows,∀c∈r,zau c=true):=by
 obtain⟨hi,hj⟩:=rd_j h ⟨Nat.le_refl _,Nat.le_refl _,Nat.zero_le _⟩ ⟨hb.1,fun r hr=>(by cases hr),Nat.zero_le _⟩ u rfl;refine⟨hi,?_,hj.len,fun r hr=>(hj.row r hr).2⟩;have h1:=zrY (L:=u.rows) (m:=box.toNat) fun r hr=>by have:=(hj.row r hr).1;omega
 omega
theorem zuL {l:List UInt8}{box:Int}(hb:0≤box){u:Ln}(h:Rd9 l box ln0 (.ok u))(hf:l.count 79≤600):(zdP u.rows).length≤600:=by
 obtain⟨hi,hj⟩:=rd_j h ⟨Nat.le_refl _,Nat.le_refl _,Nat.zero_le _⟩ ⟨hb,fun r hr=>(by cases hr),Nat.zero_le _⟩ u rfl;refine Nat.le_trans (zpg _) (Nat.le_trans hj.ones (Nat.le_trans ?_ hf));have:=zfG (l:=l) (i:=u.pos) (j:=max u.pos l.length) (by omega);rw[List.take_of_length_le (i:=max u.pos l.length) (by omega)] at this;exact this
end Go.Proofs.YtbabbmdpgpcgjaaGreatDoor

namespace Go.Proofs.YtbabbmdpgpcgjaaGreatDoor
open Go.RowKit Txt Num Nds
theorem zsn (s:ByteArray)(w:World):Calls Tryz.prog 36 #[.string s] w fun e w'=>e=.returned (.agg #[.string s,.int .i64 0,.string ⟨#[]⟩])∧Below w.heap.size w w':=by
 go_enter Tryz.func36,Tryz.ntmps36;go_wp2_with fail;refine bodyPost_ret (v:=.agg #[.string s,.int .i64 0,.string ⟨#[]⟩]) (by simp[results,Tryz.results36,go_sem]) rfl ?_;exact⟨rfl,(Below.refl _ _).alloc (Nat.le_refl _) _⟩
theorem zhH (s:ByteArray)(box:Int)(w:World):Calls Tryz.prog 18 #[.string s,.int .i64 box] w fun e w'=>∃p,e=.returned (.pointer (some ⟨p,0,none⟩))∧w.heap.size≤p∧At9 p (rsOf s box ln0 none 0 0) w'∧Below w.heap.size w w':=by
 go_enter Tryz.func18,Tryz.ntmps18;go_wp2_with (go_at_call 36;go_loud (refine(zsn s _).mono ?_;rintro e w1 ⟨rfl,b_⟩));go_ret;exact⟨w1.heap.size,rfl,b_.size,heap_alloc_new _ _,b_.alloc b_.size _⟩
def RdI (l:List UInt8)(box nodes:Int)(ru:List UInt8)(q:List Nd)(at_ er:Int):Prop :=
  (zbF box nodes=false→at_=0∧er=1∧ru=[]∧q=[])∧(zbF box nodes=true→∃o,Rd9 l box ln0 o∧match o with
    | .bad k e=>at_=k∧er=e∧ru=[]∧q=[]
    | .short=>at_=l.length∧er=3∧ru=[]∧q=[]
    | .ok u=>∃h,HomP u.rows h∧(nodes<h.length→at_=l.length∧er=4∧ru=[]∧q=[])∧((h.length:Int)≤nodes→at_=0∧er=0∧ru=u.rule∧q=h))
def zxm (s:ByteArray)(box nodes:Int)(w:World)(e:Ending)(w':World):Prop :=
 ∃ru A c m q at_ er,e=.returned (.tuple #[.agg #[.string ru,.slice A m c],.int .i64 at_,.int .i64 er])∧q.length=m∧Ns w' A c q∧(A=none→c=0)∧Below w.heap.size w w'∧RdI s.data.toList box nodes ru.data.toList q at_ er
structure Rq9 (w:World)(box nodes:Int)(W:World):Prop where
 b:Below w.heap.size w W
 lk:W.heap[w.heap.size]?=some (.cells #[.int .i64 box,.int .i64 nodes] 23)
 pk:W.heap[w.heap.size+1]?=some (.cells #[.string ⟨#[]⟩,.slice none 0 0] 29)
theorem Rq9.next {w W W1:World}{box nodes:Int}(h:Rq9 w box nodes W)(k:Below W.heap.size W W1):Rq9 w box nodes W1:=⟨h.b.trans (k.mono h.b.size),(k.block _ (zab h.lk)).trans h.lk,(k.block _ (zab h.pk)).trans h.pk⟩
theorem Rq9.from {w W W1:World}{box nodes:Int}(h:Rq9 w box nodes W){p:Nat}(hp:w.heap.size+2≤p)(k:Below p W W1):Rq9 w box nodes W1:=⟨h.b.trans (k.mono (by omega)),(k.block _ (by omega)).trans h.lk,(k.block _ (by omega)).trans h.pk⟩
theorem Rq9.start (w:World)(box nodes:Int):Rq9 w box nodes ((w.alloc (.cells #[.int .i64 box,.int .i64 nodes] 23)).alloc (.cells #[.string ⟨#[]⟩,.slice none 0 0] 29)):=by
 have b1:=(Below.refl w.heap.size w).alloc (Nat.le_refl _) (.cells #[.int .i64 box,.int .i64 nodes] 23);have b2:=b1.alloc b1.size (.cells #[.string ⟨#[]⟩,.slice none 0 0] 29);have x2:=heap_alloc_new (w.alloc (.cells #[.int .i64 box,.int .i64 nodes] 23)) (.cells #[.string ⟨#[]⟩,.slice none 0 0] 29);rw[World.size_alloc] at x2;exact⟨b2,(((Below.refl _ _).alloc (Nat.le_refl _) _).block _ (by rw[World.size_alloc];omega)).trans (heap_alloc_new w _),x2⟩
theorem Rq9.cells {w W:World}{box nodes:Int}(h:Rq9 w box nodes W):W.cell? ⟨w.heap.size,0,none⟩=some (.int .i64 box)∧W.cell? ⟨w.heap.size,1,none⟩=some (.int .i64 nodes)∧W.cell? ⟨w.heap.size+1,0,none⟩=some (.string ⟨#[]⟩)∧W.cell? ⟨w.heap.size+1,1,none⟩=some (.slice none 0 0) ∧
  W.frozen? ⟨w.heap.size+1,0,none⟩=false∧W.frozen? ⟨w.heap.size+1,1,none⟩=false:=by
 refine⟨?_,?_,?_,?_,Lib.frozen_of_heap h.pk 0,Lib.frozen_of_heap h.pk 1⟩
 ·rw[Lib.cell_of_heap h.lk];rfl
 ·rw[Lib.cell_of_heap h.lk];rfl
 ·rw[Lib.cell_of_heap h.pk];rfl
 ·rw[Lib.cell_of_heap h.pk];rfl
theorem zhI {W:World}{g:Nat}{x y:Value}{T:TypeId}(h:W.heap[g]?=some (.cells #[x,y] T))(a b:Value):((W.setCell ⟨g,0,none⟩ a).setCell ⟨g,1,none⟩ b).heap[g]?=some (.cells #[a,b] T):=by
 simp[World.setCell,Array.getElem?_modify,h]
theorem zso (s:ByteArray)(box nodes:Int)(w:World)(hf:zbF box nodes=false) :
  Calls Tryz.prog 7 #[.string s,.agg #[.int .i64 box,.int .i64 nodes]] w (zxm s box nodes w):=by
 have RQ:=Hh (Rq9.start w box nodes);obtain⟨c0,c1,p0,p1,f0,f1⟩:=RQ.out.cells;have HF:=Hh hf;clear hf;go_enter Tryz.func7,Tryz.ntmps7;go_wp2_with (go_at_call 17;go_loud (refine(zkL box nodes _).mono ?_;rintro e w1 ⟨rfl,b_⟩;rw[HF.out];have RQ:=Hh (RQ.out.next b_);clear c0 c1 p0 p1 f0 f1 b_;obtain⟨c0,c1,p0,p1,f0,f1⟩:=RQ.out.cells));have hp:=zhI RQ.out.pk (.string ⟨#[]⟩) (.slice none 0 0);have e0:=(Lib.cell_of_heap hp 0).trans (show _=some (Value.string ⟨#[]⟩) from rfl);have e1:=(Lib.cell_of_heap hp 1).trans (show _=some (Value.slice none 0 0) from rfl);refine bodyPost_ret (v:=.tuple #[.agg #[.string ⟨#[]⟩,.slice none 0 0],.int .i64 0,.int .i64 1]) (by simp[results,Tryz.results7,go_sem,e0,e1]) rfl ?_;exact⟨⟨#[]⟩,none,0,0,[],0,1,rfl,rfl,zil _,fun _=>rfl,(RQ.out.b.setCell (p:=⟨w.heap.size+1,0,none⟩) (by show w.heap.size≤w.heap.size+1;omega) _).setCell (p:=⟨w.heap.size+1,1,none⟩) (by show w.heap.size≤w.heap.size+1;omega) _,fun _=>⟨rfl,rfl,rfl,rfl⟩,fun e=>by(rw[HF.out] at e;cases e)⟩
theorem zsp {l:List UInt8}{box:Int}{t:Ln}{o:Ro}(h:Rd9 l box t o):∀k e,o=.bad k e→e=2∨e=4:=by
 induction h with
 | done=>intro k e h;cases h
 | short=>intro k e h;cases h
 | go _ _ _ ih=>exact ih
 | bad h1 h2 =>
  intro k e h;cases h;unfold zaE at h2;have key:∀(m:List UInt8) (v:Ln) (k:Nat) (e:Int),v.eol m=.bad k e→e=2:=fun m v k e h=>by
   unfold Ln.eol at h;split at h <;> cases h
   rfl
  split at h2
  ·split at h2
   ·split at h2 <;> cases h2
    exact .inl rfl
   ·exact .inl (key _ _ _ _ h2)
  ·split at h2
   ·exact .inl (key _ _ _ _ h2)
   ·split at h2
    ·cases h2;exact .inr rfl
    ·exact .inl (key _ _ _ _ h2)
theorem zsq {box nodes:Int}(h:zbF box nodes=true):(0≤box∧box≤1000)∧0≤nodes∧nodes≤100000:=by
 unfold zbF at h;simp at h;omega
theorem zph (s:ByteArray)(box nodes:Int)(w:World)(hf:zbF box nodes=true)(hs:s.size≤400000)(h6:∀u,Rd9 s.data.toList box ln0 (.ok u)→(zdP u.rows).length≤600) :
  Calls Tryz.prog 7 #[.string s,.agg #[.int .i64 box,.int .i64 nodes]] w (zxm s box nodes w):=by
 have hmf:∀(fn:Fn) (first cap:Array Value) (w:World),(Instr.makeFunc fn first cap).run Tryz.prog w=.ok (.func fn first cap) w:=fun _ _ _ _=>rfl;have RQ:=Hh (Rq9.start w box nodes);obtain⟨c0,c1,p0,p1,f0,f1⟩:=RQ.out.cells;have HF:=Hh hf;have HFN:=Hh (zsq hf);have HS:=Hh hs;have H6:=Hh h6;have HLS:=Hh (zaf s);have HZ0:=Hh (show w.heap.size+2=((w.alloc (.cells #[.int .i64 box,.int .i64 nodes] 23)).alloc (.cells #[.string ⟨#[]⟩,.slice none 0 0] 29)).heap.size by rw[World.size_alloc,World.size_alloc]);clear hf hs h6;go_enter Tryz.func7,Tryz.ntmps7;go_wp2_with (first
  | (go_at_call 17;go_loud (refine(zkL box nodes _).mono ?_;rintro e w1 ⟨rfl,b_⟩;rw[HF.out];have RQ:=Hh (RQ.out.next b_);have HZ1:=Hh (show w.heap.size+2≤w1.heap.size from by have:=b_.size;rw[←HZ0.out] at this;exact this);clear c0 c1 p0 p1 f0 f1 b_;obtain⟨c0,c1,p0,p1,f0,f1⟩:=RQ.out.cells))
  | (go_at_call 18;go_loud (refine(zhH s box _).mono ?_;rintro e w2 ⟨p,rfl,hp,ha,b_⟩;have RQ:=Hh (RQ.out.next b_);have HP:=Hh (show w.heap.size+2≤p from Nat.le_trans HZ1.out hp);have HA:=Hh ha;clear c0 c1 p0 p1 f0 f1 b_ hp ha;obtain⟨c0,c1,p0,p1,f0,f1⟩:=RQ.out.cells)))
 go_at_call 19;refine(ziO p s box w2 HA.out HS.out HFN.out.1).mono ?_;rintro e w3 ⟨o,hrd,hb,hr⟩;have HRD:=Hh hrd;have RQ:=Hh (RQ.out.from HP.out hb);clear hrd hb c0 c1 p0 p1 f0 f1;obtain⟨c0,c1,p0,p1,f0,f1⟩:=RQ.out.cells;cases o with
 | bad k er =>
  obtain⟨rfl,-⟩:=hr;have h24:=zsp HRD.out k er rfl;have t1:(er != 0)=true:=by rw[bne_iff_ne];omega
  clear h24;go_wp2_with fail;have hp:=zhI RQ.out.pk (.string ⟨#[]⟩) (.slice none 0 0);have e0:=(Lib.cell_of_heap hp 0).trans (show _=some (Value.string ⟨#[]⟩) from rfl);have e1:=(Lib.cell_of_heap hp 1).trans (show _=some (Value.slice none 0 0) from rfl);refine bodyPost_ret (v:=.tuple #[.agg #[.string ⟨#[]⟩,.slice none 0 0],.int .i64 (k:Int),.int .i64 er]) (by simp[results,Tryz.results7,go_sem,e0,e1]) rfl ?_;exact⟨⟨#[]⟩,none,0,0,[],(k:Int),er,rfl,rfl,zil _,fun _=>rfl,(RQ.out.b.setCell (p:=⟨w.heap.size+1,0,none⟩) (by show w.heap.size≤w.heap.size+1;omega) _).setCell (p:=⟨w.heap.size+1,1,none⟩) (by show w.heap.size≤w.heap.size+1;omega) _,fun e=>by(rw[HF.out] at e;cases e),fun _=>⟨_,HRD.out,rfl,rfl,rfl,rfl⟩⟩
 | short =>
  obtain⟨rfl,-⟩:=hr;go_wp2_with fail;have hp:=zhI RQ.out.pk (.string ⟨#[]⟩) (.slice none 0 0);have e0:=(Lib.cell_of_heap hp 0).trans (show _=some (Value.string ⟨#[]⟩) from rfl);have e1:=(Lib.cell_of_heap hp 1).trans (show _=some (Value.slice none 0 0) from rfl);refine bodyPost_ret (v:=.tuple #[.agg #[.string ⟨#[]⟩,.slice none 0 0],.int .i64 (s.size:Int),.int .i64 3]) (by simp[results,Tryz.results7,go_sem,e0,e1]) rfl ?_;exact⟨⟨#[]⟩,none,0,0,[],(s.size:Int),3,rfl,rfl,zil _,fun _=>rfl,(RQ.out.b.setCell (p:=⟨w.heap.size+1,0,none⟩) (by show w.heap.size≤w.heap.size+1;omega) _).setCell (p:=⟨w.heap.size+1,1,none⟩) (by show w.heap.size≤w.heap.size+1;omega) _,fun e=>by(rw[HF.out] at e;cases e),fun _=>⟨_,HRD.out,by rw[HLS.out],rfl,rfl,rfl⟩⟩
 | ok u =>
  obtain⟨rfl,hrk⟩:=hr;obtain⟨a,n,c,ha,ho⟩:=hrk.ex;have hok:=zxl HFN.out.1 HRD.out;have hcl:∀r∈u.rows,r.length≤maxLen:=fun r hr=>by
   have h1:=zjL hr;have h2:=hok.2.1;have h3:=HFN.out.1;unfold maxLen;omega
  have HTS:=Hh (OwP.ts ho hcl).2;have HN:=Hh ho.1;have HU:=Hh ha;have HOK:=Hh (show zbm u.rows≤1000∧u.rows.length≤1000∧(∀r∈u.rows,∀c∈r,zau c=true)∧(zdP u.rows).length≤600 from⟨by have:=hok.2.1;have:=HFN.out.1;omega,by have:=hok.2.2.1;have:=HFN.out.1;omega,hok.2.2.2,H6.out u HRD.out⟩);clear hrk ha ho hok hcl;go_upto_if 40 with(go_at_call 21;go_loud (refine(zsb p _ u.rows _ HU.out HN.out.symm HTS.out HOK.out.1 HOK.out.2.1 HOK.out.2.2.1 HOK.out.2.2.2).mono ?_;rintro e w4 ⟨A4,c4,m4,hh,rfl,l4,n4,a4,b_,hom⟩;have hal:=(Below.refl w4.heap.size w4).alloc (Nat.le_refl _) (.cells #[.slice A4 m4 c4] 27);have RQ:=Hh ((RQ.out.next b_).next hal);have HU2:=Hh (At9.below (At9.below HU.out b_) hal);have QB:=Hh (heap_alloc_new w4 (.cells #[.slice A4 m4 c4] 27));have L4:=Hh l4;have N4:=Hh (n4.below hal);have A4':=Hh a4;have HOM:=Hh hom;clear c0 c1 p0 p1 f0 f1 l4 n4 a4 b_ hom hal;obtain⟨c0,c1,p0,p1,f0,f1⟩:=RQ.out.cells;have z0:=zaa QB.out))
  by_cases hn:nodes<(m4:Int)
  ·have t1:decide ((m4:Int)>nodes)=true:=decide_eq_true hn;have t2:decide (nodes<(m4:Int))=true:=t1;have HNN:=Hh hn;go_wp2_with fail;have hp:=zhI RQ.out.pk (.string ⟨#[]⟩) (.slice none 0 0);have e0:=(Lib.cell_of_heap hp 0).trans (show _=some (Value.string ⟨#[]⟩) from rfl);have e1:=(Lib.cell_of_heap hp 1).trans (show _=some (Value.slice none 0 0) from rfl);refine bodyPost_ret (v:=.tuple #[.agg #[.string ⟨#[]⟩,.slice none 0 0],.int .i64 (s.size:Int),.int .i64 4]) (by simp[results,Tryz.results7,go_sem,e0,e1]) rfl ?_;exact⟨⟨#[]⟩,none,0,0,[],(s.size:Int),4,rfl,rfl,zil _,fun _=>rfl,(RQ.out.b.setCell (p:=⟨w.heap.size+1,0,none⟩) (by show w.heap.size≤w.heap.size+1;omega) _).setCell (p:=⟨w.heap.size+1,1,none⟩) (by show w.heap.size≤w.heap.size+1;omega) _,fun e=>by(rw[HF.out] at e;cases e),fun _=>⟨_,HRD.out,hh,HOM.out,fun _=>⟨by rw[HLS.out],rfl,rfl,rfl⟩,fun h=>by have:=HNN.out;rw[L4.out] at h;omega⟩⟩
  ·have t1:decide ((m4:Int)>nodes)=false:=decide_eq_false hn;have t2:decide (nodes<(m4:Int))=false:=t1;have HNN:=Hh hn;have c3:=HU2.out.cells.2.2.2.1;clear hn;go_wp2_with fail;go_region;go_wp2_with fail;have hp:=zhI RQ.out.pk (.string ⟨u.rule.toArray⟩) (.slice A4 m4 c4);have e0:=(Lib.cell_of_heap hp 0).trans (show _=some (Value.string ⟨u.rule.toArray⟩) from rfl);have e1:=(Lib.cell_of_heap hp 1).trans (show _=some (Value.slice A4 m4 c4) from rfl);refine bodyPost_ret (v:=.tuple #[.agg #[.string ⟨u.rule.toArray⟩,.slice A4 m4 c4],.int .i64 0,.int .i64 0]) ?_ rfl ?_
   ·simp[results,Tryz.results7,go_sem,e0,e1]
   ·have BV:=(RQ.out.b.setCell (p:=⟨w.heap.size+1,0,none⟩) (by show w.heap.size≤w.heap.size+1;omega) (.string ⟨u.rule.toArray⟩)).setCell (p:=⟨w.heap.size+1,1,none⟩) (by show w.heap.size≤w.heap.size+1;omega) (.slice A4 m4 c4);have NV:=(N4.out.patb RQ.out.pk (k:=0) (u:=.string ⟨u.rule.toArray⟩)).patb (k:=1) (u:=.slice A4 m4 c4) ((heap_setCell_same _ (w.heap.size+1) 0 _ _ (.string ⟨u.rule.toArray⟩) RQ.out.pk).trans rfl);refine⟨⟨u.rule.toArray⟩,A4,c4,m4,hh,0,0,rfl,L4.out,NV,A4'.out,⟨BV.os,BV.tape,BV.output,BV.size,BV.block⟩,fun e=>by(rw[HF.out] at e;cases e),fun _=>⟨_,HRD.out,hh,HOM.out,fun h=>by have:=HNN.out;rw[L4.out] at h;omega,fun _=>⟨rfl,rfl,rfl,rfl⟩⟩⟩
theorem zaN (s:ByteArray)(box nodes:Int)(w:World)(hs:s.size≤400000)(h6:s.data.toList.count 79≤600) :
  Calls Tryz.prog 7 #[.string s,.agg #[.int .i64 box,.int .i64 nodes]] w (zxm s box nodes w):=by
 cases hf:zbF box nodes with
 | false=>exact zso s box nodes w hf
 | true=>exact zph s box nodes w hf hs fun u hu=>zuL (zsq hf).1.1 hu h6
end Go.Proofs.YtbabbmdpgpcgjaaGreatDoor
