import Derived.Test.YtfjajpnfjjdnpaaGreatDoorTTrL
import Derived.Laws.RangeString
import Derived.Deep.LoopGhost
import Derived.Laws.BytesString
import Derived.Laws.Concat
import Derived.Laws.BytesArg

set_option linter.unusedVariables false
set_option linter.unusedSimpArgs false
set_option maxRecDepth 100000
set_option maxHeartbeats 6400000
namespace Go.Proofs.YtfjajpnfjjdnpaaGreatDoor
open Go.RowKit Nds Lib
def LQ (q:List Nd):List Nd:=if zaz q≤1 then zaT 3 q else q
def VQ (q:List Nd):Int:=if zaz q≤1 then 3 else 1
theorem zeH (q:List Nd):zca q=zaj (LQ q) (VQ q) (LQ q).length:=by
 unfold zca LQ VQ;split <;> rfl
theorem zqd (q:List Nd):VQ q=1∨VQ q=3:=by
 unfold VQ;split
 ·exact .inr rfl
 ·exact .inl rfl
theorem zfj {q:List Nd}(hl:zaa q=true):zaz q%256=zaz q:=Int.emod_eq_of_lt (zmc q) (by have:=znA hl;omega)
theorem znH {q:List Nd}(hl:zaa q=true):zaa (zaT 3 q)=true∧(zaT 3 q).length≤q.length+10:=by
 unfold zaT;by_cases h0:q.length=0
 ·rw[if_pos h0];exact⟨rfl,Nat.zero_le _⟩
 ·rw[if_neg h0];have h1:=zcS hl (i:=q.length-1) (by omega);obtain⟨m,hm⟩:∃m:Nat,(Nds.at_ q (q.length-1)).lv=(m:Int)+1:=⟨(Nds.at_ q (q.length-1)).lv.toNat-1,by omega⟩;obtain⟨g1,g2⟩:=zfb (3-(Nds.at_ q (q.length-1)).lv.toNat) hl (by omega) hm (by omega);exact⟨g1.loose,by omega⟩
theorem zdO {q:List Nd}(hl:zaa q=true):zaa (LQ q)=true∧(LQ q).length≤q.length+10:=by
 unfold LQ;split
 ·exact znH hl
 ·exact⟨hl,by omega⟩
def znI (q:List Nd)(w:World)(e:Ending)(w':World):Prop:=∃A c,e=.returned (.tuple #[.slice A (LQ q).length c,.int .i64 (VQ q)])∧Ns w' A c (LQ q)∧Below w.heap.size w w'
theorem zfX (A:Option Addr)(c n:Nat)(q:List Nd)(w:World)(h:Ns w A c q)(hn:q.length=n)(hn9:n≤800000)(hl:zaa q=true)(hA:A=none→c=0) :
  Calls Tryz.prog 84 #[.agg #[.slice A n c]] w (znI q w):=by
 have hb:=(Below.refl w.heap.size w).alloc (Nat.le_refl _) (.cells #[.slice A n c] 28);have hm:=zfj hl;have hbx:=zeB (heap_alloc_new w (.cells #[.slice A n c] 28));obtain⟨gb,hgb⟩:∃g,g=w.heap.size:=⟨_,rfl⟩;obtain⟨W0,hW0⟩:∃W:World,W=w.alloc (.cells #[.slice A n c] 28):=⟨_,rfl⟩;rw[←hgb,←hW0] at hbx;rw[←hW0] at hb;have HB:=Hh hb;have HW:=Hh (h.below hb);have HN:=Hh hn;have HL:=Hh hl;have HA:=Hh hA;have HM:=Hh hm;have HBX:=Hh (show ∀W:World,Below W0.heap.size W0 W→W.cell? ⟨gb,0,none⟩=some (.slice A n c) from fun W k=>(k.cell (p:=⟨gb,0,none⟩) (by rw[hW0,World.size_alloc,hgb];exact Nat.lt_succ_self _)).trans hbx);unfold znI;by_cases h1:zaz q≤1
 ·have e1:LQ q=zaT 3 q:=if_pos h1;have e2:VQ q=3:=if_pos h1;have t1:decide (zaz q>1)=false:=decide_eq_false (by omega);have t2:decide (1<zaz q)=false:=t1;rw[e1,e2];obtain⟨M,hM⟩:∃M,M=zaz q:=⟨_,rfl⟩;rw[←hM] at t1 t2;have HMM:=Hh hM;clear h hn hl hA hm h1 e1 e2 hM hb;go_enter Tryz.func84,Tryz.ntmps84;go_upto_region 1 with fail
  rw[←hgb,←hW0];clear hgb hW0;go_wp2_with (first
   | (go_at_call 131;go_loud (refine(zlF A c n q _ HW.out HN.out).mono ?_;rintro e w1 ⟨rfl,b1⟩;rw[HM.out,←HMM.out];have HB1:=Hh b1;have hbx:=HBX.out _ b1;clear b1))
   | (go_at_call 132;go_loud (refine(zoS A c n 3 q _ (HW.out.below HB1.out) HN.out hn9 HL.out (by omega) HA.out).mono ?_;rintro e w2 ⟨v,rfl,o2,b2⟩;obtain⟨A2,c2,rfl,n2,-⟩:=o2.shape;have HN2:=Hh n2;have HB2:=Hh (HB.out.trans ((HB1.out.trans (b2.mono HB1.out.size)).mono HB.out.size));clear o2 n2 b2)))
  go_ret2;exact⟨_,_,rfl,HN2.out,HB2.out⟩
 ·have e1:LQ q=q:=if_neg h1;have e2:VQ q=1:=if_neg h1;have t1:decide (zaz q>1)=true:=decide_eq_true (by omega);have t2:decide (1<zaz q)=true:=t1;rw[e1,e2,hn];obtain⟨M,hM⟩:∃M,M=zaz q:=⟨_,rfl⟩;rw[←hM] at t1 t2;have HMM:=Hh hM;clear h hn hl hA hm h1 e1 e2 hM hb;go_enter Tryz.func84,Tryz.ntmps84;go_upto_region 1 with fail
  rw[←hgb,←hW0];clear hgb hW0;go_wp2_with (go_at_call 131;go_loud (refine(zlF A c n q _ HW.out HN.out).mono ?_;rintro e w1 ⟨rfl,b1⟩;rw[HM.out,←HMM.out];have HB1:=Hh b1;have hbx:=HBX.out _ b1;clear b1));go_ret2;exact⟨_,_,rfl,HW.out.below HB1.out,HB.out.trans (HB1.out.mono HB.out.size)⟩
theorem zdP (A:Option Addr)(c n:Nat)(q:List Nd)(w:World)(h:Ns w A c q)(hn:q.length=n)(hn9:n≤800000)(hl:zaa q=true)(hA:A=none→c=0) :
  Calls Tryz.prog 40 #[.agg #[.slice A n c]] w fun e w'=>e=.returned (.int .i64 ((zca q).length:Nat))∧Below w.heap.size w w':=by
 have hb:=(Below.refl w.heap.size w).alloc (Nat.le_refl _) (.cells #[.slice A n c] 28);obtain⟨R,hR⟩:∃R,R=(zca q).length:=⟨_,rfl⟩;rw[←hR];obtain⟨L,hLL⟩:∃L,L=LQ q:=⟨_,rfl⟩;obtain⟨V,hV⟩:∃V,V=VQ q:=⟨_,rfl⟩;obtain⟨N,hN⟩:∃N,L.length=N:=⟨_,rfl⟩;have HR:=Hh (show R=cntL L V N by rw[hR,zeH,←hLL,←hV,hN,zci]);have HN9:=Hh (show N≤1000000 by have:=(zdO hl).2;rw[←hLL,hN] at this;omega);have HBX:=Hh (zeB (heap_alloc_new w (.cells #[.slice A n c] 28)));have HLD:=Hh (show ∀W:World,Ns W A c q→Calls Tryz.prog 84 #[.agg #[.slice A n c]] W fun e w'=>∃A c,e=.returned (.tuple #[.slice A N c,.int .i64 V])∧Ns w' A c L∧Below W.heap.size W w' from fun W hW=>by
  have h1:=zfX A c n q W hW hn hn9 hl hA;unfold znI at h1;rw[←hLL,←hV,hN] at h1;exact h1)
 have HLo:=Hh (show zaa L=true by rw[hLL];exact(zdO hl).1);have HB:=Hh hb;have HW:=Hh (h.below hb);have HN:=Hh hN;clear h hn hl hA hR hLL hV hN hb;go_enter Tryz.func40,Tryz.ntmps40;go_wp2_with (go_at_call 84;go_loud (refine(HLD.out _ HW.out).mono ?_;rintro e w1 ⟨A1,c1,rfl,n1,b1⟩;have HN1:=Hh n1;have hcap:=n1.cap;have HB1:=Hh (HB.out.trans (b1.mono HB.out.size));clear n1 b1));rw[HN.out] at hcap;go_loopw [15,5,7] (fun z1 z2 z3 wr=>∃(k:Nat) (u:Value),z1=.int .i64 k∧z2=.int .i64 ((cntL L V k:Nat):Int)∧u=z3∧k≤N∧Below w1.heap.size w1 wr) (fun z1 _ _ _=>N-(intOf z1).toNat)
 case atStart=>exact⟨0,_,rfl,rfl,rfl,Nat.zero_le _,Below.refl _ _⟩
 case round =>
  obtain⟨k,u,rfl,rfl,rfl,hk,hb⟩:=hrel;have HB2:=Hh hb;clear hb;obtain⟨ct,hct⟩:∃ct,ct=cntL L V k:=⟨_,rfl⟩;have hct9:ct≤k:=by rw[hct];exact zei L V k
  rw[←hct];have HC:=Hh hct;have hN9:=HN9.out;clear hct;by_cases hlt:k<N
  ·have kw:IntKind.i64.wrap ((k:Int)+1)=(k:Int)+1:=IntWalk.i64_in _ (by omega);have cw:IntKind.i64.wrap ((ct:Int)+1)=(ct:Int)+1:=IntWalk.i64_in _ (by omega);have t1:decide ((k:Int)<(N:Int))=true:=decide_eq_true (by omega);have i1:(k:Int)<(N:Int):=by omega
   obtain⟨bl,off,rfl,hbl,hcl⟩:=HN1.out.at_ (by rw[HN.out];omega)
   obtain⟨c1,c2,c3,c4,c5⟩:=(hcl k (by rw[HN.out];exact hlt)).below (HB2.out.block bl hbl);obtain⟨x,hx⟩:∃x,x=Nds.at_ L k:=⟨_,rfl⟩
   rw[←hx] at c1 c2 c3 c4 c5;have HX:=Hh hx;have HB3:=Hh (HB2.out.alloc HB2.out.size (.cells #[.int .i64 x.lv,.int .i64 x.a,.int .i64 x.b,.int .i64 x.c,.int .i64 x.d] 70));have HLT:=Hh hlt;by_cases hs:x.lv<V
   ·have t2:decide (x.lv≥V)=false:=decide_eq_false (by omega);have t3:decide (V≤x.lv)=false:=t2;have HC2:=Hh (show cntL L V (k+1)=ct by rw[HC.out];exact if_pos (by rw[←hx];exact hs));clear hx hcl hbl hlt hs;go_wp2_with fail;go_roundw
    case rel=>exact⟨k+1,_,by go_num,by rw[HC2.out],rfl,HLT.out,HB3.out⟩
    case measure=>have:=HLT.out;simp[intOf];omega
   ·have t2:decide (x.lv≥V)=true:=decide_eq_true (by omega);have t3:decide (V≤x.lv)=true:=t2;have HC2:=Hh (show cntL L V (k+1)=ct+1 by rw[HC.out];exact if_neg (by rw[←hx];exact hs));clear hx hcl hbl hlt hs;go_wp2_with fail;go_roundw
    case rel=>exact⟨k+1,_,by go_num,by rw[HC2.out];rfl,rfl,HLT.out,HB3.out⟩
    case measure=>have:=HLT.out;simp[intOf];omega
  ·obtain rfl:k=N:=by omega
   have t9:decide ((k:Int)<(k:Int))=false:=decide_eq_false (by omega);go_wp2_with fail;go_ret;exact⟨by rw[HR.out,←HC.out];rfl,HB1.out.trans (HB2.out.mono HB1.out.size)⟩
def zek (s:ByteArray)(q:List Nd)(w:World)(e:Ending)(w':World):Prop:=(e=.returned (if mayP s q=true then .tuple #[.string ⟨(zft s.data.toList q).toArray⟩,.int .i64 0] else .tuple #[.string ⟨#[]⟩,.int .i64 1]))∧Below w.heap.size w w'
theorem zek.no {s:ByteArray}{q:List Nd}{w w':World}{e:Ending}(h:mayP s q=false)(he:e=.returned (.tuple #[.string ⟨#[]⟩,.int .i64 1]))(hb:Below w.heap.size w w'):zek s q w e w':=⟨by rw[he,h];rfl,hb⟩
theorem zek.yes {s:ByteArray}{q:List Nd}{w w':World}{e:Ending}(h:mayP s q=true)(he:e=.returned (.tuple #[.string ⟨(zft s.data.toList q).toArray⟩,.int .i64 0]))(hb:Below w.heap.size w w'):zek s q w e w':=⟨by rw[he,h];rfl,hb⟩
theorem zkq {s:ByteArray}{q:List Nd}(h:mayP s q=true):zaa q=true:=zbA (Bool.and_eq_true_iff.1 h).2
theorem zdQ (A:Option Addr)(c n:Nat)(s:ByteArray)(q:List Nd)(w:World)(hs:s.size≤1000)(h:Ns w A c q)(hn:q.length=n)(hn9:n≤800000)(hA:A=none→c=0)(T:TabP w) :
  Calls Tryz.prog 38 #[.agg #[.string s,.slice A n c]] w (zek s q w):=by
 have hb:=(Below.refl w.heap.size w).alloc (Nat.le_refl _) (.cells #[.string s,.slice A n c] 30);have hpc:=zcG (heap_alloc_new w (.cells #[.string s,.slice A n c] 30));obtain⟨gb,hgb⟩:∃g,g=w.heap.size:=⟨_,rfl⟩;obtain⟨W0,hW0⟩:∃W:World,W=w.alloc (.cells #[.string s,.slice A n c] 30):=⟨_,rfl⟩;rw[←hgb,←hW0] at hpc;rw[←hW0] at hb;have HB:=Hh hb;have HW:=Hh (h.below hb);have HN:=Hh hn;have HA:=Hh hA;have HT:=Hh (zal T hb);have HPC:=Hh (show ∀W:World,Below W0.heap.size W0 W→W.cell? ⟨gb,0,none⟩=some (.string s)∧W.cell? ⟨gb,1,none⟩=some (.slice A n c) from fun W k=>by
  have hlt:gb<W0.heap.size:=by rw[hW0,World.size_alloc,hgb];exact Nat.lt_succ_self _
  exact⟨(k.cell (p:=⟨gb,0,none⟩) hlt).trans hpc.1,(k.cell (p:=⟨gb,1,none⟩) hlt).trans hpc.2⟩)
 have HPR:=Hh (show ∀W:World,Ns W A c q→Calls Tryz.prog 82 #[.agg #[.string s,.slice A n c]] W fun e w'=>e=.returned (.bool (mayP s q))∧Below W.heap.size W w' from fun W hW=>zkm A c n s q W (by unfold maxLen;omega) hW hn (by omega));obtain⟨c0,c1⟩:=hpc;cases hm:mayP s q with
 | false =>
  have HM:=Hh hm;clear h hn hA T hb hm;go_enter Tryz.func38,Tryz.ntmps38;go_upto_region 1 with fail
  rw[←hgb,←hW0];clear hgb hW0;go_wp2_with (go_at_call 82;go_loud (refine(HPR.out _ HW.out).mono ?_;rintro e w1 ⟨rfl,b1⟩;rw[HM.out];have HB1:=Hh (HB.out.trans (b1.mono HB.out.size));clear b1));go_ret2;exact zek.no HM.out rfl HB1.out
 | true =>
  have hl:=zkq hm;have hlq:=zdO hl;obtain⟨L,hLL⟩:∃L,L=LQ q:=⟨_,rfl⟩;obtain⟨V,hV⟩:∃V,V=VQ q:=⟨_,rfl⟩;obtain⟨N,hN⟩:∃N,L.length=N:=⟨_,rfl⟩;have HLo:=Hh (show zaa L=true by rw[hLL];exact hlq.1);have HN9:=Hh (show N≤1000000 by have h1:=hlq.2;rw[←hLL,hN] at h1;omega);have HLN:=Hh hN;have HVO:=Hh (show V=1∨V=3 by rw[hV];exact zqd q);have HLD:=Hh (show ∀W:World,Ns W A c q→Calls Tryz.prog 84 #[.agg #[.slice A n c]] W fun e w'=>∃A c,e=.returned (.tuple #[.slice A N c,.int .i64 V])∧Ns w' A c L∧Below W.heap.size W w' from fun W hW=>by
   have h1:=zfX A c n q W hW hn hn9 hl hA;unfold znI at h1;rw[←hLL,←hV,hN] at h1;exact h1)
  have HM:=Hh hm;obtain⟨t,ht⟩:∃t:ByteArray,t=⟨(lnT (zaj L V N)).toArray⟩:=⟨_,rfl⟩;have HTT:=Hh ht;have htz:t.size≤73000000:=by
   rw[ht,zav];have h1:=zim HLo.out (by rw[hN];exact HN9.out) (v:=V) N (by rw[hN];exact Nat.le_refl _);have:=HN9.out;omega
  have z1:(9223372036854775807<(⟨#[91,77,50,93,32,40,103,108,105,100,101,114,41,10,35,82,32]⟩:ByteArray).size+s.size)=False:=eq_false (by show ¬ 9223372036854775807<17+s.size;omega);have z2:(9223372036854775807<((⟨#[91,77,50,93,32,40,103,108,105,100,101,114,41,10,35,82,32]⟩:ByteArray)++s).size+(⟨#[10]⟩:ByteArray).size)=False:=eq_false (by rw[ByteArray.size_append];show ¬ 9223372036854775807<17+s.size+1;omega);have z3:(9223372036854775807<(⟨#[91,77,50,93,32,40,103,108,105,100,101,114,41,10,35,82,32]⟩:ByteArray).size+s.size+(⟨#[10]⟩:ByteArray).size)=False:=eq_false (by show ¬ 9223372036854775807<17+s.size+1;omega);have z4:(9223372036854775807<(⟨#[91,77,50,93,32,40,103,108,105,100,101,114,41,10,35,82,32]⟩:ByteArray).size+s.size+(⟨#[10]⟩:ByteArray).size+t.size)=False:=eq_false (by show ¬ 9223372036854775807<17+s.size+1+t.size;omega);have z5:(9223372036854775807<17+s.size)=False:=eq_false (by omega);have z6:(9223372036854775807<17+s.size+1)=False:=eq_false (by omega);have z7:(9223372036854775807<17+s.size+1+t.size)=False:=eq_false (by omega);have HTX:=Hh (show(⟨#[91,77,50,93,32,40,103,108,105,100,101,114,41,10,35,82,32]⟩:ByteArray)++s++(⟨#[10]⟩:ByteArray)++t=⟨(zft s.data.toList q).toArray⟩ by
   refine zef ?_;unfold zft;rw[zeH,←hLL,←hV,hN,ht];simp[znD])
  clear h hn hA T hb hm hl hlq hLL hV hN ht;go_enter Tryz.func38,Tryz.ntmps38;go_upto_region 1 with fail
  rw[←hgb,←hW0];clear hgb hW0;go_wp2_with (go_at_call 82;go_loud (refine(HPR.out _ HW.out).mono ?_;rintro e w1 ⟨rfl,b1⟩;rw[HM.out];have HB1:=Hh b1;clear b1 c0 c1;obtain⟨c0,c1⟩:=HPC.out _ HB1.out));have HBd:=Hh (show Below W0.heap.size W0 w1.drew from HB1.out.drew);clear c0 c1;obtain⟨c0,c1⟩:=HPC.out _ HBd.out;go_region_held3 (fun w'=>w'.cell? ⟨gb,0,none⟩=some (.string s)∧w'.cell? ⟨gb,1,none⟩=some (.slice A n c))
   (first|go_keep|exact⟨c0,c1⟩)
   (first
    | (go_at_call 84;go_loud (refine(HLD.out _ (HW.out.below HBd.out)).mono ?_;rintro e w2 ⟨A2,c2,rfl,n2,b2⟩;have HN2:=Hh n2;have HB2:=Hh (HBd.out.trans (b2.mono HBd.out.size));clear n2 b2 c0 c1;obtain⟨c0,c1⟩:=HPC.out _ HB2.out))
    | (go_at_call 83;go_loud (refine(zmm A2 c2 N L V _ HN2.out HLN.out HN9.out HLo.out HVO.out (zal HT.out HB2.out)).mono ?_;rintro e w3 ⟨rfl,b3⟩;rw[←HTT.out];have HB3:=Hh (HB2.out.trans (b3.mono HB2.out.size));clear b3 c0 c1;obtain⟨c0,c1⟩:=HPC.out _ HB3.out)))
  all_goals (
   go_wp2_with fail;go_ret2;exact zek.yes HM.out (by rw[←HTX.out];rfl) (HB.out.trans (HB3.out.mono HB.out.size)))
end Go.Proofs.YtfjajpnfjjdnpaaGreatDoor

namespace Go.Proofs.YtfjajpnfjjdnpaaGreatDoor
open Go.RowKit Num Digs
theorem zqe (s:ByteArray):s.data.toList.length=s.size:=by simp
theorem zmn (len:Nat):4294967296^len≤10^(10*len):=by
 rw[Nat.pow_mul];exact Nat.pow_le_pow_left (by decide) _
theorem zmo {a b n:Nat}(h:10^a≤n)(h2:n<10^b):a<b:=by
 rcases Nat.lt_or_ge a b with h3|h3
 ·exact h3
 ·have:10^b≤10^a:=Nat.pow_le_pow_right (by decide) h3;omega
theorem zkr (b o j:Nat):(⟨b,o,none⟩:Addr).add j=⟨b,o+j,none⟩:=by unfold Addr.add;split <;> simp_all
def zqB (l:List UInt8)(w:World)(e:Ending)(w':World):Prop:=e=.returned (.string ⟨l.toArray⟩)∧Below w.heap.size w w'
theorem zpm {r:List Nat}(h:((r.length:Int)==0)=true):r=[]:=List.eq_nil_of_length_eq_zero (by simpa using h)
theorem zpn {r:List Nat}(h:((r.length:Int)==0)=false):0<r.length:=by
 have:r≠[]:=by simpa using h
 exact List.length_pos_iff.2 this
theorem zqf {t:ByteArray}{l:List UInt8}(h:t.data.toList=l):t=⟨l.toArray⟩:=by
 subst h;cases t;rfl
theorem zfk (a b:ByteArray):(a++b).data.toList=a.data.toList++b.data.toList:=by simp
theorem znJ {z:Int}{x:UInt8}(hz:z=(x.toNat:Int))(W:World):(convert 83 9 (.slice (some ⟨W.heap.size,0,none⟩) 1 1)).run Tryz.prog (W.alloc (.cells #[.int .u8 z] 5))=.ok (.string ⟨#[x]⟩) (W.alloc (.cells #[.int .u8 z] 5)):=by
 subst hz;refine run_convert_bytes_back (P:=Tryz.prog) (W.alloc (.cells #[.int .u8 (x.toNat:Int)] 5)) _ _ 5 ⟨W.heap.size,0,none⟩ 1 [x] Tryz.underlying83 Tryz.underlying5 Tryz.underlying9 (fun j hj=>?_);simp only[List.length_cons,List.length_nil] at hj;obtain rfl:j=0:=by omega
 rw[zkr];exact(zjN W (.int .u8 (x.toNat:Int)) 5).1
def zbb (n len:Nat)(w:World)(k g:Nat)(A:Option Addr)(c:Nat)(ys:List Nat)(t:ByteArray)(wr:World):Prop :=
 Us wr A c ys∧ys.length≤len∧(k=0∨10^k≤n)∧val ys=n / 10^k∧val ys≤g∧t.data.toList=(low k n).reverse∧Below w.heap.size w wr
theorem zbb.few {n len k g c:Nat}{w wr:World}{A:Option Addr}{ys:List Nat}{t:ByteArray}(h:zbb n len w k g A c ys t wr)(hn:n<4294967296^len):t.size≤10*len:=by
 have h1:t.size=k:=by rw[←zqe,h.2.2.2.2.2.1,List.length_reverse,zee]
 rcases h.2.2.1 with h2|h2
 ·omega
 ·have:=zmo h2 (Nat.lt_of_lt_of_le hn (zmn len));omega
theorem zbb.next {n len k g c c1 d:Nat}{w wr w1 w2:World}{A A1:Option Addr}{ys rs:List Nat}{t:ByteArray}(h:zbb n len w k g A c ys t wr)(hl:Dig ys)(q:Us w1 A1 c1 rs)(hk:zbo rs)(hv:val rs=val ys / 10)(hd:d=val ys%10)(b:Below wr.heap.size wr w1)(b2:Below w1.heap.size w1 w2)(hr:0<rs.length) :
  ∃g',g'<g∧zbb n len w (k+1) g' A1 c1 rs (⟨#[dig d]⟩++t) w2:=by
 obtain⟨_,h1,h2,h3,h4,h5,h6⟩:=h;have hp:0<val rs:=by
  rcases Nat.eq_zero_or_pos (val rs) with h0|h0
  ·rw[zcb hk h0] at hr;simp at hr
  ·exact h0
 have hb:=h6.trans (b.mono h6.size);refine⟨val rs,by omega,q.below b2,?_,.inr ?_,?_,Nat.le_refl _,?_,hb.trans (b2.mono hb.size)⟩
 ·have:rs.length≤ys.length:=zgT hk (by rw[hv];exact Nat.lt_of_le_of_lt (Nat.div_le_self _ _) (zcx hl));omega
 ·rw[hv,h3,Nat.div_div_eq_div_mul,←Nat.pow_succ] at hp;rcases Nat.lt_or_ge n (10^(k+1)) with h7|h7
  ·rw[Nat.div_eq_of_lt h7] at hp;omega
  ·exact h7
 ·rw[hv,h3,Nat.div_div_eq_div_mul,←Nat.pow_succ]
 ·rw[zfk,h5,zjB,←h3,←hd];simp
theorem zbb.last {n len k g c d:Nat}{w wr:World}{A:Option Addr}{ys rs:List Nat}{t:ByteArray}(h:zbb n len w k g A c ys t wr)(hv:val rs=val ys / 10)(hd:d=val ys%10)(hr:rs=[]) :
  (⟨#[dig d]⟩++t).data.toList=digs n:=by
 obtain⟨_,h1,h2,h3,h4,h5,h6⟩:=h;subst hr;have hz:n<10^(k+1):=by
  rw[h3,Nat.div_div_eq_div_mul,←Nat.pow_succ] at hv;rcases Nat.lt_or_ge n (10^(k+1)) with h7|h7
  ·exact h7
  ·have:=Nat.div_pos h7 (Nat.pow_pos (by decide));simp[val] at hv;omega
 have e:(⟨#[dig d]⟩++t).data.toList=(low (k+1) n).reverse:=by
  rw[zfk,h5,zjB,←h3,←hd];simp
 rw[e];unfold digs;by_cases h0:n=0
 ·subst h0;have:k=0:=by
   rcases h2 with h2|h2
   ·exact h2
   ·have:=Nat.pow_pos (n:=k) (show 0<10 by decide);omega
  subst this;rfl
 ·rw[if_neg h0];have:size n=k+1:=by
   rcases h2 with h2|h2
   ·subst h2;exact zlW hz (by simp;omega)
   ·exact zlW hz h2
  rw[this]
theorem zmp (s:Bool)(A:Option Addr)(c:Nat)(xs:List Nat)(w:World)(h:Us w A c xs)(hl:xs.length≤1000) :
    Calls Tryz.prog 59 #[.agg #[.bool s,.slice A xs.length c]] w (zqB (text s (val xs)) w):=by
  obtain⟨n,hn⟩:∃n,n=val xs:=⟨_,rfl⟩;obtain⟨len,hlen⟩:∃len,len=xs.length:=⟨_,rfl⟩;have hcap:=h.cap;have HN:=Hh (show n<4294967296^len by rw[hn,hlen];exact zcx h.1);obtain⟨hX,hB⟩:=box1 w (.bool s) (.slice A xs.length c) 48;have HX:=Hh hX;have HB:=Hh hB;have R0:=Hh (show zbb n len w 0 n A c xs ⟨#[]⟩ (w.alloc (.cells #[.bool s,.slice A xs.length c] 48)) from⟨h.below hB,by omega,.inl rfl,by rw[←hn];simp,by omega,by simp[low],hB⟩);obtain⟨x1,x2,x3,x4,x5⟩:=hX;rw[←hn];have hl2:len≤1000:=by omega
  clear h hn hlen hB;go_enter Tryz.func59,Tryz.ntmps59;go_wp2;go_loopg [3,4] n (fun g sv lv wr=>∃(k:Nat) (A1:Option Addr) (c1:Nat) (ys:List Nat) (t:ByteArray),sv=.string t∧lv=.slice A1 ys.length c1∧zbb n len w k g A1 c1 ys t wr∧Box wr w.heap.size (.bool s) (.slice A xs.length c))
  case atStart=>exact⟨0,A,c,xs,_,rfl,rfl,R0.out,HX.out⟩
  case round =>
    obtain⟨k,A1,c1,ys,t,rfl,rfl,hR,hBx⟩:=hrel;have R:=Hh hR;have BX:=Hh hBx;have hyl:=hR.2.1;have ht:=hR.few HN.out;have hcap1:=hR.1.cap;clear hR R0 hBx x1 x2 x3 x4 x5;obtain⟨d,hd⟩:∃d,d=val ys%10:=⟨_,rfl⟩;have hdl:d<10:=by rw[hd];exact Nat.mod_lt _ (by decide)
    have HD:=Hh hd;have hcv:=znJ (z:=48+(d:Int)) (x:=dig d) (by rw[zpe hdl];omega);have hsz:(⟨#[dig d]⟩:ByteArray).size=1:=rfl;clear hd;go_wp2_with (go_at_call 104;go_loud (refine(zmJ _ _ ys 10 _ R.out.1 (by omega) (by omega) (by omega)).mono ?_;rintro e w1 ⟨A2,c2,r2,rfl,q2,k2,v2,b2⟩;rw[←HD.out];have hcap2:=q2.cap;obtain⟨x1,x2,_,_,_⟩:=BX.out.below b2;have Q:=Hh (And.intro q2 (And.intro k2 (And.intro v2 b2)));clear q2 k2 v2 b2))
    all_goals
      first
        | (have hr0:r2=[]:=zpm (by assumption)
           have L:=zbb.last R.out Q.out.2.2.1 HD.out hr0;go_ret;refine⟨?_,?_⟩
           · first
               | (have hs:s=true:=by assumption
                  subst hs;show Ending.returned (.string (⟨#[45]⟩++(⟨#[dig d]⟩++t)))=_;rw[zqf (t:=⟨#[45]⟩++(⟨#[dig d]⟩++t)) (l:=text true n) (by rw[zfk,L];rfl)])
               | (have hs:s=false:=by assumption
                  subst hs;show Ending.returned (.string (⟨#[dig d]⟩++t))=_;rw[zqf L];rfl)
           · have hb:=R.out.2.2.2.2.2.2
             have hb1:=hb.trans (Q.out.2.2.2.mono hb.size);exact hb1.alloc hb1.size _)
        | (have hr0:0<r2.length:=zpn (by assumption)
           obtain⟨g',hg,hR⟩:=zbb.next R.out R.out.1.1 Q.out.1 Q.out.2.1 Q.out.2.2.1 HD.out Q.out.2.2.2 ((Below.refl w1.heap.size w1).alloc (Nat.le_refl _) (.cells #[.int .u8 (48+(d:Int))] 5)) hr0;have RN:=Hh hR;clear hR;go_roundg g'
           case measure=>exact hg
           case rel=>exact⟨k+1,A2,c2,r2,_,rfl,rfl,RN.out,(BX.out.below Q.out.2.2.2).alloc _⟩)
end Go.Proofs.YtfjajpnfjjdnpaaGreatDoor
