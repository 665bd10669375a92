import Derived.Test.YtfjajpnfjjdnpaaGreatDoorTTrA
import Derived.Test.YtfjajpnfjjdnpaaGreatDoorTTrX

set_option linter.unusedVariables false
set_option linter.unusedSimpArgs false
set_option maxRecDepth 100000
set_option maxHeartbeats 6400000
namespace Go.Proofs.YtfjajpnfjjdnpaaGreatDoor
open Nds
theorem zfo {c:UInt8}:∀{l:List UInt8},zaL c l=[]↔∀x∈l,x=c
 | []=>⟨fun _ x hx=>(by cases hx),fun _=>rfl⟩
 | y :: r=>by
  have ih:=zfo (c:=c) (l:=r);show(if y=c∧zaL c r=[] then [] else y :: zaL c r)=[]↔_;constructor
  ·intro h;split at h
   ·rename_i h1;intro x hx;rcases List.mem_cons.1 hx with e|hx
    ·rw[e];exact h1.1
    ·exact ih.1 h1.2 x hx
   ·cases h
  ·intro h;rw[if_pos ⟨h y (by simp),ih.2 fun x hx=>h x (List.mem_cons_of_mem _ hx)⟩]
theorem zmA {l:List Nd}{n:Int}{y:Nat}:rowL l n y=[]↔∀x:Nat,x<8→getF 3 l n x y=0:=by
 unfold rowL;rw[zfo];unfold rowF;constructor
 ·intro h x hx;have h1:=h _ (List.mem_map.2 ⟨x,List.mem_range.2 hx,rfl⟩);unfold sgL at h1;split at h1
  ·assumption
  ·exact absurd h1 (by decide)
 ·intro h u hu;obtain⟨x,hx,rfl⟩:=List.mem_map.1 hu;exact if_pos (h x (List.mem_range.1 hx))
theorem znP {l:List Nd}{n:Int}:zbc l n=[]↔∀y x:Nat,y<8→x<8→getF 3 l n x y=0:=by
 have h0:zbc l n=[]↔zaL 36 (zbu l n 8)=[]:=by
  unfold zbc;split
  ·rename_i h;exact⟨fun _=>h,fun _=>rfl⟩
  ·rename_i h;exact⟨fun e=>by simp at e,fun e=>absurd e h⟩
 rw[h0,zfo];constructor
 ·intro h y x hy hx;refine zmA.1 ?_ x hx;refine Classical.byContradiction fun hne=>?_;obtain⟨u,t,hu⟩:=List.exists_cons_of_ne_nil hne;have hm:u∈rowL l n y:=by rw[hu];simp
  have h1:u∈zbu l n 8:=by
   unfold zbu;exact List.mem_flatten.2 ⟨rowL l n y++[36],List.mem_map.2 ⟨y,List.mem_range.2 hy,rfl⟩,by simp[hm]⟩
  have h2:=h u h1;rcases zjF hm with e|e <;> (rw[e] at h2;exact absurd h2 (by decide))
 ·intro h u hu;unfold zbu at hu;obtain⟨r,hr,hu2⟩:=List.mem_flatten.1 hu;obtain⟨y,hy,rfl⟩:=List.mem_map.1 hr;rw[zmA.2 fun x hx=>h y x (List.mem_range.1 hy) hx] at hu2;simpa using hu2
theorem zjL {l:List Nd}(hl:zaa l=true){n:Int}(hn:kidB l 4 n=true){x y:Nat}(hx:x<8)(hy:y<8):getF 3 l n x y=zae (kidT (dens l) 4 n) x y :=
 zdF hl (m:=3) (by omega) hn (by omega) (by rw[show p2 3=8 from rfl];omega) (by omega) (by rw[show p2 3=8 from rfl];omega)
theorem zmB {l:List Nd}(hl:zaa l=true){n:Int}(hn:kidB l 4 n=true):zbc l n=[]↔kidT (dens l) 4 n=.e:=by
 have hw:wfT ((3:Nat):Int) (kidT (dens l) 4 n):=zjp hl (m:=3) hn;rw[znP];constructor
 ·intro h;refine Classical.byContradiction fun hne=>?_;obtain⟨x,y,hc⟩:=zaS _ 3 hw hne;obtain⟨h1,h2,h3,h4⟩:=zas _ 3 _ _ hw hc;rw[show p2 3=8 from rfl] at h2 h4;have h5:=h y.toNat x.toNat (by omega) (by omega);rw[zjL hl hn (by omega) (by omega),show((x.toNat:Nat):Int)=x by omega,show((y.toNat:Nat):Int)=y by omega] at h5;exact hc h5
 ·intro h y x hy hx;rw[zjL hl hn hx hy,h];rfl
theorem znQ {l:List Nd}(hl:zaa l=true){k:Nat}(hk:k≤l.length)(hn:kidB l 4 (k:Int)=true):(zbc l (k:Int)).isEmpty=empB l k:=by
 have h:=zmB hl hn;rw[zax (by omega),show((k:Int)).toNat=k by omega] at h;rw[zdw hl hk];cases he:(den l k).isE with
 | true =>
  rw[h.2 (zbd.1 he)];rfl
 | false =>
  have h2:zbc l (k:Int)≠[]:=fun e=>by
   rw[h.1 e] at he;cases he
  cases hL:zbc l (k:Int) with
  | nil=>exact absurd hL h2
  | cons a r=>rfl
end Go.Proofs.YtfjajpnfjjdnpaaGreatDoor

namespace Go.Proofs.YtfjajpnfjjdnpaaGreatDoor
open Go.RowKit Num Nds Txt
def zhH (l:List Nd)(n:Int):Prop:=l.length≤60∧zaa l=true∧0≤n∧n≤(l.length:Int)∧(0<n→(Nds.at_ l (n.toNat-1)).lv=3)
theorem zhH.kid {l:List Nd}{k:Nat}(h:zhH l (k:Int)):kidB l 4 (k:Int)=true:=by
 rcases Nat.eq_zero_or_pos k with h0|h0
 ·subst h0;exact zbk _ _ (by omega)
 ·obtain⟨p,rfl⟩:∃p,k=p+1:=⟨k-1,by omega⟩;have h1:=h.2.2.2.2 (by omega);rw[show((p+1:Nat):Int)=(p:Int)+1 by omega,zbW _ 4 p (by omega) (by have:=h.2.2.2.1;omega)];rw[show(((p+1:Nat):Int)).toNat-1=p by omega] at h1;exact decide_eq_true (by omega)
theorem ziw (A:Option Addr)(c:Nat)(l:List Nd)(k:Nat)(w:World)(h:Ns w A c l)(T:TabP w)(ho:zhH l (k:Int)) :
  Calls Tryz.prog 10 #[.slice A l.length c,.int .i64 (k:Int)] w fun e w'=>e=.returned (.bool true)∧Below w.heap.size w w':=by
 have hcap:=h.cap;have hkb:=ho.kid;obtain⟨o1,o2,-,o4,o5⟩:=ho;have HH:=Hh h;have HT:=Hh T;have HL:=Hh o2;have HK:=Hh hkb;have hem:=znQ o2 (by omega) hkb;have h72:=zhB l (k:Int);obtain⟨N,hN⟩:∃N,l.length=N:=⟨_,rfl⟩;rw[hN] at hcap o1 o4 ⊢;have HN:=Hh hN;have HKN:=Hh (show k≤N by omega);obtain⟨t,ht⟩:∃t:ByteArray,t=⟨(zbc l (k:Int)).toArray⟩:=⟨_,rfl⟩;have HTT:=Hh ht;have hts:t.size≤72:=by rw[ht,zav];exact h72
 have g1:decide ((t.size:Int)≤72)=true:=decide_eq_true (by omega);have g2:decide (t.size≤72)=true:=decide_eq_true hts;have e1:t.toList.isEmpty=empB l k:=by
  rw[ByteArray.toList_eq,ht];exact hem
 obtain⟨B,hB⟩:∃B,B=empB l k:=⟨_,rfl⟩;rw[←hB] at e1;have HB:=Hh hB;have b1:(B==B)=true:=beq_self_eq_true B;have t1:decide ((N:Int)>60)=false:=decide_eq_false (by omega);have t1b:decide (60<N)=false:=decide_eq_false (by omega);have t2:decide ((k:Int)<0)=false:=decide_eq_false (by omega);have t3:decide ((k:Int)>(N:Int))=false:=decide_eq_false (by omega);have t3b:decide (N<k)=false:=decide_eq_false (by omega);have hN9:N≤1000000:=by omega
 have HEM:=Hh (show ∀W:World,Ns W A c l→Calls Tryz.prog 45 #[.slice A N c,.int .i64 (k:Int)] W fun e w'=>e=.returned (.bool (empB l k))∧Below W.heap.size W w' from fun W hW=>zdY A c N l k W hW hN o2 hN9 (by omega));rcases Nat.eq_zero_or_pos k with h0|h0
 ·subst h0;have t3c:decide ((N:Int)<0)=false:=decide_eq_false (by omega);clear h T hkb o1 o2 o4 o5 hem h72 hN ht hts hB;go_enter Tryz.func10,Tryz.ntmps10;go_wp2_with (first
   | (go_at_call 37;go_loud (refine(zau _ HT.out).mono ?_;rintro e w1 ⟨rfl,b1⟩;have B1:=Hh b1;clear b1))
   | (go_at_call 42;go_loud (refine(zaP _ c N l _ (HH.out.below B1.out) HN.out).mono ?_;rintro e w2 ⟨rfl,m2,rfl⟩;rw[HL.out];have B2:=Hh (zab B1.out m2)))
   | (go_at_call 43;go_loud (refine(zdM _ c N l 0 _ (HH.out.below B2.out) HN.out (by omega) HL.out HK.out).mono ?_;rintro e w3 ⟨rfl,b3⟩;rw[show(⟨(zbc l 0).toArray⟩:ByteArray)=t from HTT.out.symm];have B3:=Hh (B2.out.trans (b3.mono B2.out.size));clear b3))
   | (go_at_call 44;go_loud (refine(zdS _ c N l 0 _ (HH.out.below B3.out) HN.out (by omega) HL.out HK.out).mono ?_;rintro e w4 ⟨rfl,m4,rfl⟩;rw[show(⟨(zbc l 0).toArray⟩:ByteArray)=t from HTT.out.symm];have B4:=Hh (zab B3.out m4)))
   | (go_at_call 45;go_loud (refine(HEM.out _ (HH.out.below B4.out)).mono ?_;rintro e w5 ⟨rfl,b5⟩;rw[←HB.out];have B5:=Hh (B4.out.trans (b5.mono B4.out.size));clear b5)))
  go_ret;exact⟨rfl,B5.out⟩
 ·obtain⟨p,rfl⟩:∃p,k=p+1:=⟨k-1,by omega⟩;have hlv:=o5 (by omega);rw[show(((p+1:Nat):Int)).toNat-1=p by omega] at hlv;have e9:((p+1:Nat):Int)=(p:Int)+1:=by omega
  rw[e9] at t2 t3 HTT HK HEM ⊢;have HNA:=Hh (show ∀W:World,Below w.heap.size w W→∃b off,A=some ⟨b,off,none⟩∧W.cell? ⟨b,off+p*5,none⟩=some (.int .i64 3) from fun W hW=>by
   obtain⟨b,off,e,hb,hcl⟩:=h.at_ (by omega)
   have h1:=((hcl p (by omega)).below (hW.block b hb)).1;rw[hlv] at h1;exact⟨b,off,e,h1⟩)
  obtain⟨b,off,rfl,-⟩:=HNA.out w (Below.refl _ _);have HC:=Hh (show ∀W:World,Below w.heap.size w W→W.cell? ⟨b,off+p*5,none⟩=some (.int .i64 3) from fun W hW=>by
   obtain⟨b',off',e,h1⟩:=HNA.out W hW;cases e;exact h1)
  have i0:(0:Int)≤(p:Int):=by omega
  have i1:(p:Int)<(N:Int):=by omega
  have t4:decide (((p:Int)+1)>0)=true:=decide_eq_true (by omega);have ip:IntKind.i64.wrap (p:Int)=(p:Int):=IntWalk.i64_in _ (by omega);clear h T hkb o1 o2 o4 o5 hem h72 hN ht hts hB hlv e9;go_enter Tryz.func10,Tryz.ntmps10;go_wp2_with (first
   | (go_at_call 37;go_loud (refine(zau _ HT.out).mono ?_;rintro e w1 ⟨rfl,b1⟩;have B1:=Hh b1;clear b1))
   | (go_at_call 42;go_loud (refine(zaP _ c N l _ (HH.out.below B1.out) HN.out).mono ?_;rintro e w2 ⟨rfl,m2,rfl⟩;rw[HL.out];have B2:=Hh (zab B1.out m2);have d0:=HC.out _ B2.out))
   | (go_at_call 43;go_loud (refine(zdM _ c N l ((p:Int)+1) _ (HH.out.below B2.out) HN.out (by omega) HL.out HK.out).mono ?_;rintro e w3 ⟨rfl,b3⟩;rw[show(⟨(zbc l ((p:Int)+1)).toArray⟩:ByteArray)=t from HTT.out.symm];have B3:=Hh (B2.out.trans (b3.mono B2.out.size));clear b3))
   | (go_at_call 44;go_loud (refine(zdS _ c N l ((p:Int)+1) _ (HH.out.below B3.out) HN.out (by omega) HL.out HK.out).mono ?_;rintro e w4 ⟨rfl,m4,rfl⟩;rw[show(⟨(zbc l ((p:Int)+1)).toArray⟩:ByteArray)=t from HTT.out.symm];have B4:=Hh (zab B3.out m4)))
   | (go_at_call 45;go_loud (refine(HEM.out _ (HH.out.below B4.out)).mono ?_;rintro e w5 ⟨rfl,b5⟩;rw[←HB.out];have B5:=Hh (B4.out.trans (b5.mono B4.out.size));clear b5)))
  go_ret;exact⟨rfl,B5.out⟩
theorem zky (A:Option Addr)(c:Nat)(l:List Nd)(n:Int)(w:World)(h:Ns w A c l)(hn:in64 n)(T:TabP w)(ho:¬ zhH l n) :
  Calls Tryz.prog 10 #[.slice A l.length c,.int .i64 n] w fun e w'=>e=.returned (.bool true)∧Below w.heap.size w w':=by
 have hcap:=h.cap;obtain⟨hn1,hn2⟩:=hn;obtain⟨N,hN⟩:∃N,l.length=N:=⟨_,rfl⟩;rw[hN] at hcap ⊢;have HH:=Hh h;have HT:=Hh T;have HN:=Hh hN;by_cases h60:60<N
 ·have t1:decide ((N:Int)>60)=true:=decide_eq_true (by omega);have t1b:decide (60<N)=true:=decide_eq_true h60;clear h T hN ho h60;go_enter Tryz.func10,Tryz.ntmps10;go_wp2_with (go_at_call 37;go_loud (refine(zau _ HT.out).mono ?_;rintro e w1 ⟨rfl,b1⟩;have B1:=Hh b1;clear b1));go_ret;exact⟨rfl,B1.out⟩
 ·have t1:decide ((N:Int)>60)=false:=decide_eq_false (by omega);have t1b:decide (60<N)=false:=decide_eq_false h60;cases hl:zaa l with
  | false =>
   have HL:=Hh hl;clear h T hN ho hl;go_enter Tryz.func10,Tryz.ntmps10;go_wp2_with (first
    | (go_at_call 37;go_loud (refine(zau _ HT.out).mono ?_;rintro e w1 ⟨rfl,b1⟩;have B1:=Hh b1;clear b1))
    | (go_at_call 42;go_loud (refine(zaP _ c N l _ (HH.out.below B1.out) HN.out).mono ?_;rintro e w2 ⟨rfl,m2,rfl⟩;rw[HL.out];have B2:=Hh (zab B1.out m2))))
   go_ret;exact⟨rfl,B2.out⟩
  | true =>
   have HL:=Hh hl;by_cases h0:n<0
   ·have t2:decide (n<0)=true:=decide_eq_true h0;clear h T hN ho hl h0;go_enter Tryz.func10,Tryz.ntmps10;go_wp2_with (first
     | (go_at_call 37;go_loud (refine(zau _ HT.out).mono ?_;rintro e w1 ⟨rfl,b1⟩;have B1:=Hh b1;clear b1))
     | (go_at_call 42;go_loud (refine(zaP _ c N l _ (HH.out.below B1.out) HN.out).mono ?_;rintro e w2 ⟨rfl,m2,rfl⟩;rw[HL.out];have B2:=Hh (zab B1.out m2))))
    go_ret;exact⟨rfl,B2.out⟩
   ·have t2:decide (n<0)=false:=decide_eq_false h0;by_cases hbig:(N:Int)<n
    ·have t3:decide (n>(N:Int))=true:=decide_eq_true hbig;have t3b:decide ((N:Int)<n)=true:=t3;clear h T hN ho hl h0 hbig;go_enter Tryz.func10,Tryz.ntmps10;go_wp2_with (first
      | (go_at_call 37;go_loud (refine(zau _ HT.out).mono ?_;rintro e w1 ⟨rfl,b1⟩;have B1:=Hh b1;clear b1))
      | (go_at_call 42;go_loud (refine(zaP _ c N l _ (HH.out.below B1.out) HN.out).mono ?_;rintro e w2 ⟨rfl,m2,rfl⟩;rw[HL.out];have B2:=Hh (zab B1.out m2))))
     go_ret;exact⟨rfl,B2.out⟩
    ·have hp:0<n∧(Nds.at_ l (n.toNat-1)).lv≠3:=by
      refine Classical.byContradiction fun hc=>ho ⟨by omega,hl,by omega,by omega,fun hp=>Classical.byContradiction fun hv=>hc ⟨hp,hv⟩⟩
     obtain⟨p,rfl⟩:∃p:Nat,n=(p:Int)+1:=⟨n.toNat-1,by omega⟩;have hlv:=hp.2;rw[show((p:Int)+1).toNat-1=p by omega] at hlv;obtain⟨v,hv⟩:∃v,v=(Nds.at_ l p).lv:=⟨_,rfl⟩;rw[←hv] at hlv;have HNA:=Hh (show ∀W:World,Below w.heap.size w W→∃b off,A=some ⟨b,off,none⟩∧W.cell? ⟨b,off+p*5,none⟩=some (.int .i64 v) from fun W hW=>by
      obtain⟨b,off,e,hb,hcl⟩:=h.at_ (by omega)
      have h1:=((hcl p (by omega)).below (hW.block b hb)).1;rw[←hv] at h1;exact⟨b,off,e,h1⟩)
     obtain⟨b,off,rfl,-⟩:=HNA.out w (Below.refl _ _);have HC:=Hh (show ∀W:World,Below w.heap.size w W→W.cell? ⟨b,off+p*5,none⟩=some (.int .i64 v) from fun W hW=>by
      obtain⟨b',off',e,h1⟩:=HNA.out W hW;cases e;exact h1)
     have i0:(0:Int)≤(p:Int):=by omega
     have i1:(p:Int)<(N:Int):=by omega
     have t3:decide (((p:Int)+1)>(N:Int))=false:=decide_eq_false (by omega);have t4:decide (((p:Int)+1)>0)=true:=decide_eq_true (by omega);have t5:(v != 3)=true:=by rw[bne_iff_ne];exact hlv
     have ip:IntKind.i64.wrap (p:Int)=(p:Int):=IntWalk.i64_in _ (by omega);clear h T hN ho hl h0 hbig hp hv hlv;go_enter Tryz.func10,Tryz.ntmps10;go_wp2_with (first
      | (go_at_call 37;go_loud (refine(zau _ HT.out).mono ?_;rintro e w1 ⟨rfl,b1⟩;have B1:=Hh b1;clear b1))
      | (go_at_call 42;go_loud (refine(zaP _ c N l _ (HH.out.below B1.out) HN.out).mono ?_;rintro e w2 ⟨rfl,m2,rfl⟩;rw[HL.out];have B2:=Hh (zab B1.out m2);have d0:=HC.out _ B2.out)))
     go_ret;exact⟨rfl,B2.out⟩
theorem zix (A:Option Addr)(c:Nat)(l:List Nd)(n:Int)(w:World)(h:Ns w A c l)(hn:in64 n)(T:TabP w) :
  Calls Tryz.prog 10 #[.slice A l.length c,.int .i64 n] w fun e w'=>e=.returned (.bool true)∧Below w.heap.size w w':=by
 by_cases ho:zhH l n
 ·obtain⟨k,rfl⟩:∃k:Nat,n=(k:Int):=⟨n.toNat,by have:=ho.2.2.1;omega⟩;exact ziw A c l k w h T ho
 ·exact zky A c l n w h hn T ho
structure P14t (w W:World)(A:Option Addr)(c N:Nat)(s:ByteArray)(l:List Nd)(gb:Nat):Prop where
 b:Below w.heap.size w W
 ns:Ns W A c l
 k:W.heap[gb]?=some (.cells #[.string s,.slice A N c] 30)
theorem P14t.next {w W W':World}{A:Option Addr}{c N:Nat}{s:ByteArray}{l:List Nd}{gb:Nat}(h:P14t w W A c N s l gb)(k:Below W.heap.size W W'):P14t w W' A c N s l gb :=
 ⟨h.b.trans (k.mono h.b.size),h.ns.below k,(k.block _ (zep h.k)).trans h.k⟩
theorem P14t.cells {w W:World}{A:Option Addr}{c N:Nat}{s:ByteArray}{l:List Nd}{gb:Nat}(h:P14t w W A c N s l gb):W.cell? ⟨gb,0,none⟩=some (.string s)∧W.cell? ⟨gb,1,none⟩=some (.slice A N c) :=
 ⟨(cell_of_row W _ 0 _ _ (0,0) h.k).trans rfl,(cell_of_row W _ 1 _ _ (0,0) h.k).trans rfl⟩
theorem zkz (A:Option Addr)(c:Nat)(s:ByteArray)(l:List Nd)(w:World)(hs:s.size≤maxLen)(h:Ns w A c l)(hA:A=none→c=0)(T:TabP w) :
  Calls Tryz.prog 9 #[.agg #[.string s,.slice A l.length c]] w fun e w'=>e=.returned (.bool true)∧Below w.heap.size w w':=by
 have hcap:=h.cap;have hsm:s.size≤9223372036854775807:=by unfold maxLen at hs;omega
 obtain⟨N,hN⟩:∃N,l.length=N:=⟨_,rfl⟩;rw[hN] at hcap ⊢;have hal:=(Below.refl w.heap.size w).alloc (Nat.le_refl _) (.cells #[.string s,.slice A N c] 30);obtain⟨gb,hgb⟩:∃g,g=w.heap.size:=⟨_,rfl⟩;obtain⟨W0,hW0⟩:∃W:World,W=w.alloc (.cells #[.string s,.slice A N c] 30):=⟨_,rfl⟩;have hP:P14t w W0 A c N s l gb:=⟨by rw[hW0];exact hal,by rw[hW0];exact h.below hal,by rw[hW0,hgb];exact heap_alloc_new w _⟩;have HP:=Hh hP;have HT:=Hh T;have HN:=Hh hN;have HA:=Hh hA;clear h hA hal T hN hP hs;obtain⟨c0,c1⟩:=HP.out.cells;by_cases h1:100<s.size
 ·have t1:decide ((s.size:Int)>100)=true:=decide_eq_true (by omega);have t1b:decide (100<s.size)=true:=decide_eq_true h1;clear h1;go_enter Tryz.func9,Tryz.ntmps9;go_upto_region 1 with fail
  rw[←hgb,←hW0];clear hgb hW0;go_wp2_with (go_at_call 37;go_loud (refine(zau _ (zal HT.out HP.out.b)).mono ?_;rintro e w1 ⟨rfl,b1⟩;have HP:=Hh (HP.out.next b1);clear b1 c0 c1;obtain⟨c0,c1⟩:=HP.out.cells));go_ret;exact⟨rfl,HP.out.b⟩
 ·have t1:decide ((s.size:Int)>100)=false:=decide_eq_false (by omega);have t1b:decide (100<s.size)=false:=decide_eq_false h1;by_cases h2:300<N
  ·have t2:decide ((N:Int)>300)=true:=decide_eq_true (by omega);have t2b:decide (300<N)=true:=decide_eq_true h2;clear h1 h2;go_enter Tryz.func9,Tryz.ntmps9;go_upto_region 1 with fail
   rw[←hgb,←hW0];clear hgb hW0;go_wp2_with (go_at_call 37;go_loud (refine(zau _ (zal HT.out HP.out.b)).mono ?_;rintro e w1 ⟨rfl,b1⟩;have HP:=Hh (HP.out.next b1);clear b1 c0 c1;obtain⟨c0,c1⟩:=HP.out.cells));go_ret;exact⟨rfl,HP.out.b⟩
  ·have t2:decide ((N:Int)>300)=false:=decide_eq_false (by omega);have t2b:decide (300<N)=false:=decide_eq_false h2;have hN3:N≤800000:=by omega
   have hs3:s.size≤1000:=by omega
   cases hm:mayP s l with
   | false =>
    have HM:=Hh hm;clear h1 h2 hm;go_enter Tryz.func9,Tryz.ntmps9;go_upto_region 1 with fail
    rw[←hgb,←hW0];clear hgb hW0;go_wp2_with (first
     | (go_at_call 37;go_loud (refine(zau _ (zal HT.out HP.out.b)).mono ?_;rintro e w1 ⟨rfl,b1⟩;have HP:=Hh (HP.out.next b1);clear b1 c0 c1;obtain⟨c0,c1⟩:=HP.out.cells))
     | (go_at_call 38;go_loud (refine(zdQ A c N s l _ hs3 HP.out.ns HN.out hN3 HA.out (zal HT.out HP.out.b)).mono ?_;rintro e w2 ⟨he,b2⟩;rw[HM.out] at he;subst he;have HP:=Hh (HP.out.next b2);clear b2 c0 c1;obtain⟨c0,c1⟩:=HP.out.cells))
     | (go_at_call 39;go_loud (refine(zjJ A c N s l _ hs3 HP.out.ns HN.out hN3 HA.out).mono ?_;rintro e w3 ⟨he,b3⟩;rw[HM.out] at he;subst he;have HP:=Hh (HP.out.next b3);clear b3 c0 c1;obtain⟨c0,c1⟩:=HP.out.cells)))
    go_quiet (fail);go_wp2_with fail;go_ret;exact⟨rfl,zab HP.out.b _⟩
   | true =>
    have HM:=Hh hm;have hq:zbq l=true:=(Bool.and_eq_true_iff.1 hm).2;have HQ:=Hh hq;obtain⟨t,ht⟩:∃t:ByteArray,t=⟨(zft s.data.toList l).toArray⟩:=⟨_,rfl⟩;have HTT:=Hh ht;obtain⟨m,hmm⟩:∃m:Nat,m=(zca l).length:=⟨_,rfl⟩;have HMM:=Hh hmm;have e0:(t.toList==t.toList)=true:=beq_self_eq_true _;have e1:((m:Int)==(m:Int))=true:=beq_self_eq_true _;clear h1 h2 hm hq ht hmm;go_enter Tryz.func9,Tryz.ntmps9;go_upto_region 1 with fail
    rw[←hgb,←hW0];clear hgb hW0;go_wp2_with (first
     | (go_at_call 37;go_loud (refine(zau _ (zal HT.out HP.out.b)).mono ?_;rintro e w1 ⟨rfl,b1⟩;have HP:=Hh (HP.out.next b1);clear b1 c0 c1;obtain⟨c0,c1⟩:=HP.out.cells))
     | (go_at_call 38;go_loud (refine(zdQ A c N s l _ hs3 HP.out.ns HN.out hN3 HA.out (zal HT.out HP.out.b)).mono ?_;rintro e w2 ⟨he,b2⟩;rw[HM.out,if_pos rfl,←HTT.out] at he;subst he;have HP:=Hh (HP.out.next b2);clear b2 c0 c1;obtain⟨c0,c1⟩:=HP.out.cells))
     | (go_at_call 39;go_loud (refine(zjJ A c N s l _ hs3 HP.out.ns HN.out hN3 HA.out).mono ?_;rintro e w3 ⟨he,b3⟩;rw[HM.out,if_pos rfl,←HTT.out] at he;subst he;have HP:=Hh (HP.out.next b3);clear b3 c0 c1;obtain⟨c0,c1⟩:=HP.out.cells)))
    have HPd:=Hh (HP.out.next (Below.refl _ _).drew);clear c0 c1;obtain⟨c0,c1⟩:=HPd.out.cells;go_region_held3 (fun w'=>w'.cell? ⟨gb,0,none⟩=some (.string s)∧w'.cell? ⟨gb,1,none⟩=some (.slice A N c))
     (first|go_keep|exact⟨c0,c1⟩)
     (first
      | (go_at_call 40;go_loud (refine(zdP A c N l _ HPd.out.ns HN.out hN3 (zbA HQ.out) HA.out).mono ?_;rintro e w4 ⟨rfl,b4⟩;rw[←HMM.out];have HPe:=Hh (HPd.out.next b4);clear b4 c0 c1;obtain⟨c0,c1⟩:=HPe.out.cells))
      | (go_at_call 41;go_loud (refine(zmw A c N l _ HPe.out.ns HN.out hN3 HQ.out HA.out).mono ?_;rintro e w5 ⟨rfl,b5⟩;rw[←HMM.out];have HPf:=Hh (HPe.out.next b5);clear b5 c0 c1;obtain⟨c0,c1⟩:=HPf.out.cells)))
    all_goals (
     go_wp2_with fail;go_ret;exact⟨rfl,HPf.out.b⟩)
end Go.Proofs.YtfjajpnfjjdnpaaGreatDoor
