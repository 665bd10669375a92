import Derived.Test.YtfjajpnfjjdnpaaGreatDoorWDecRev
import Derived.Laws.BytesString
import Derived.Laws.Concat
import Derived.Laws.BytesArg
import Derived.Lib.Builder
import Derived.Lib.FrozenHead2
import Derived.Lib.UnsafeStr
import Derived.Lib.AppendStr
import Derived.Laws.Externs
import Derived.Shelf.RegionOpenPlain
import Derived.Laws.IdiomCopy
import Derived.Laws.BitsLemmas
import Derived.Lib.IndexBytes

set_option linter.unusedVariables false
set_option linter.unusedSimpArgs false
set_option maxRecDepth 100000
set_option maxHeartbeats 6400000
namespace Go.Proofs.YtfjajpnfjjdnpaaGreatDoor
open Go.RowKit Num Digs
theorem OwB.nil (w:World)(base:Nat):OwB w base (.slice none 0 0) []:=World.ownsRow_nil _ _ _ _
theorem OwB.alloc {w:World}{base:Nat}{v:Value}{bs:List UInt8}(h:OwB w base v bs)(o:Obj):OwB (w.alloc o) base v bs:=World.ownsRow.alloc h o
theorem OwB.lt {w:World}{base:Nat}{v:Value}{bs:List UInt8}(h:OwB w base v bs):∀k,v.ownBlock=some k→base≤k∧k<w.heap.size:=World.ownsRow.lt h
theorem OwB.snoc {w0 w w1:World}{base:Nat}{v v':Value}{bs:List UInt8}{o:Obj}{z:Int}{x:UInt8}(h:OwB w base v bs)(hb:Below base w0 w)(hz:z=(x.toNat:Int))
  (hown:w1.ownsRow base 5 1 v' (bs.length+1) (bs.map u8v++[.int .u8 z])) (hg:(w.alloc o).grownBy w1 v.ownBlock) (hs:base≤w.heap.size):OwB w1 base v' (bs++[x])∧Below base w0 w1:=by
 constructor
 ·unfold OwB;rw[List.length_append,List.map_append];simp only[List.map_cons,List.map_nil,List.length_cons,List.length_nil,Nat.zero_add];subst hz;exact hown
 ·exact(hb.alloc hs o).grown hg (by simp;omega) (fun k hk=>(h.lt k hk).1)
def znT (A:Option Addr)(v:Value):Prop:=∀a k,A=some a→v.ownBlock=some k→a.block≠k
theorem Us.apart {w w1:World}{A:Option Addr}{c:Nat}{xs:List Nat}{v:Value}(h:Us w A c xs)(o:Obj)(hg:(w.alloc o).grownBy w1 v.ownBlock)(ha:znT A v):Us w1 A c xs :=
 ⟨h.1,h.2.1,h.2.2.1,fun hn=>by
  obtain⟨b,off,e,hlt,hc⟩:=h.2.2.2 hn;have hlt2:b<(w.alloc o).heap.size:=by simp;omega
  refine⟨b,off,e,Nat.lt_of_lt_of_le hlt2 hg.size,fun j u hu=>?_⟩;rw[World.cell?_of_block (a:=⟨b,off+j,none⟩) (hg.block b hlt2 (fun e2=>ha _ _ e e2.symm rfl))];exact zaK o (hc j u hu)⟩
theorem znT.next {w:World}{A:Option Addr}{c:Nat}{xs:List Nat}{v v':Value}(h:Us w A c xs)(hx:0<xs.length)(ha:znT A v){m:Nat}(hm:w.heap.size≤m)(hv:v'.ownBlock=v.ownBlock∨v'.ownBlock=some m):znT A v':=by
 intro a k e e2;rcases hv with hv|hv
 ·exact ha a k e (by rw[←hv];exact e2)
 ·obtain⟨b,off,e3,hb⟩:=h.at_ hx
  rw[hv] at e2;cases e2;rw[e] at e3;cases e3;simp only;omega
theorem zgX (len:Nat):4294967296^len≤10^(10*len):=by
 rw[Nat.pow_mul];exact Nat.pow_le_pow_left (by decide) _
theorem zqA {a b n:Nat}(h:10^a≤n)(h2:n<10^b):a<b:=by
 rcases Nat.lt_or_ge a b with h3|h3
 ·exact h3
 ·have:10^b≤10^a:=Nat.pow_le_pow_right (by decide) h3;omega
def zec (n len:Nat)(w:World)(k g:Nat)(A:Option Addr)(c:Nat)(ys:List Nat)(v:Value)(wr:World):Prop :=
 Us wr A c ys∧(k=0∨zaI ys)∧ys.length≤len∧val ys=n / 10^(9*k)∧val ys+ys.length≤g∧OwB wr w.heap.size v (low (9*k) n)∧Below w.heap.size w wr
theorem zec.few {n len k g:Nat}{w wr:World}{A:Option Addr}{c:Nat}{ys:List Nat}{v:Value}(h:zec n len w k g A c ys v wr)(hn:n<4294967296^len)(hy:0<ys.length):9*k≤10*len:=by
 obtain⟨_,h1,_,h2,_⟩:=h;rcases h1 with rfl|h1
 ·omega
 ·have h3:0<val ys:=by
   rcases Nat.eq_zero_or_pos (val ys) with h0|h0
   ·rw[zbs h1 h0] at hy;simp at hy
   ·exact h0
  rw[h2] at h3;have h4:10^(9*k)≤n:=by
   rcases Nat.lt_or_ge n (10^(9*k)) with h5|h5
   ·rw[Nat.div_eq_of_lt h5] at h3;omega
   ·exact h5
  have:=zqA h4 (Nat.lt_of_lt_of_le hn (zgX len));omega
def zcQ (n:Nat)(w:World)(k p j:Nat)(A:Option Addr)(c:Nat)(rs:List Nat)(bs:List UInt8)(v:Value)(wr:World):Prop :=
 Us wr A c rs∧(0<rs.length→znT A v)∧OwB wr w.heap.size v bs∧Below w.heap.size w wr∧bs=low (9*k) n++low j p
theorem zcQ.len {n k p j c:Nat}{w wr:World}{A:Option Addr}{rs:List Nat}{bs:List UInt8}{v:Value}(h:zcQ n w k p j A c rs bs v wr):bs.length=9*k+j:=by
 rw[h.2.2.2.2,List.length_append,zaD,zaD]
theorem zcQ.start {n len k g p c0 c:Nat}{w wr w1:World}{A0 A:Option Addr}{ys rs:List Nat}{v:Value}(h:zec n len w k g A0 c0 ys v wr)(b:Below wr.heap.size wr w1)(q:Us w1 A c rs)(hn:∀a,A=some a→wr.heap.size≤a.block):zcQ n w k p 0 A c rs (low (9*k) n) v w1:=by
 obtain⟨_,_,_,_,_,h1,h2⟩:=h;refine⟨q,fun _ a k e e2=>?_,OwB.below h1 b,h2.trans (b.mono h2.size),by simp[low]⟩;have:=(h1.lt _ e2).2;have:=hn a e;omega
theorem zcQ.next {n k p j c d:Nat}{w wr w1:World}{A:Option Addr}{rs:List Nat}{bs:List UInt8}{v v':Value}{o:Obj}{z:Int}(h:zcQ n w k p j A c rs bs v wr)(hd:d=p / 10^j)(hz:z=48+(d:Int)%10)
  (hown:w1.ownsRow w.heap.size 5 1 v' (bs.length+1) (bs.map u8v++[.int .u8 z])) (hg:(wr.alloc o).grownBy w1 v.ownBlock) (hv:v'.ownBlock=v.ownBlock∨v'.ownBlock=some (wr.alloc o).heap.size):zcQ n w k p (j+1) A c rs (bs++[dig (d%10)]) v' w1:=by
 obtain⟨h1,h2,h3,h4,h5⟩:=h;obtain⟨g1,g2⟩:=OwB.snoc (x:=dig (d%10)) h3 h4 (by rw[hz,zgV (Nat.mod_lt _ (by decide))];omega) hown hg h4.size;refine⟨?_,fun hr=>znT.next h1 hr (h2 hr) (by simp) hv,g1,g2,by rw[zmA,←hd,←List.append_assoc,h5]⟩;rcases Nat.eq_zero_or_pos rs.length with h0|h0
 ·exact⟨h1.1,h1.2.1,h1.2.2.1,fun hn=>by simp at hn;omega⟩
 ·exact h1.apart o hg (h2 h0)
theorem zcQ.done {n len k g p c0 c:Nat}{w wr w1:World}{A0 A:Option Addr}{ys rs:List Nat}{v v0:Value}(h:zec n len w k g A0 c0 ys v0 wr){bs:List UInt8}(hI:zcQ n w k p 9 A c rs bs v w1)(hd:Dig ys)(hk:zaI rs)(hv:val rs=val ys / 1000000000)(hp:p=val ys%1000000000)(hy:0<ys.length) :
  ∃g',g'<g∧zec n len w (k+1) g' A c rs v w1:=by
 obtain⟨_,h1,h2,h3,h4,_,_⟩:=h;have hr:rs.length≤ys.length:=zjn hk (by rw[hv];exact Nat.lt_of_le_of_lt (Nat.div_le_self _ _) (zbz hd));refine⟨val rs+rs.length,?_,hI.1,.inr hk,by omega,?_,Nat.le_refl _,?_,hI.2.2.2.1⟩
 ·rcases Nat.eq_zero_or_pos (val ys) with h0|h0
  ·have:rs=[]:=zbs hk (by rw[hv,h0]);subst this;simp[val];omega
  ·omega
 ·rw[hv,h3,Nat.div_div_eq_div_mul,Nat.mul_add,Nat.mul_one,Nat.pow_add]
 ·have e:low (9*(k+1)) n=low (9*k) n++low 9 p:=by
   rw[Nat.mul_add,Nat.mul_one,Digs.low_add,←h3,hp];congr 1;have:=zqv 9 (val ys%1000000000) (val ys / 1000000000);rw[show(10:Nat)^9=1000000000 from rfl,Nat.mod_add_div] at this;exact this
  rw[e,←hI.2.2.2.2];exact hI.2.2.1
theorem zqB (A:Option Addr)(c:Nat)(xs:List Nat)(w:World)(h:Us w A c xs)(hl:xs.length≤1000) :
  Calls Tryz.prog 102 #[.slice A xs.length c] w fun e w'=>∃B c',e=.returned (.slice B (size (val xs)) c')∧OwB w' w.heap.size (.slice B (size (val xs)) c') (low (size (val xs)) (val xs))∧Below w.heap.size w w':=by
 obtain⟨i0,hi,hz0,hz1,hz2⟩:=info_parts Tryz.info8;obtain⟨n,hn⟩:∃n,n=val xs:=⟨_,rfl⟩;obtain⟨len,hlen⟩:∃len,len=xs.length:=⟨_,rfl⟩;have HN:=Hh (show n<4294967296^len by rw[hn,hlen];exact zbz h.1);have R0:=Hh (show zec n len w 0 (n+len) A c xs (.slice none 0 0) w from⟨h,.inl rfl,by omega,by rw[←hn];simp,by rw[hn,hlen];omega,OwB.nil _ _,Below.refl _ _⟩);have HI:=Hh (And.intro hi (And.intro hz0 (And.intro hz1 hz2)));rw[←hn];have hcap:=h.cap;clear h hi hz0 hz1 hz2 hn;have hl2:len≤1000:=by omega
 clear hlen;go_enter Tryz.func102,Tryz.ntmps102;go_wp2;go_loopg [0,3] (n+len) (fun g av v wr=>∃(k:Nat) (A:Option Addr) (c:Nat) (ys:List Nat),av=.slice A ys.length c∧zec n len w k g A c ys v wr)
 case atStart=>exact⟨0,A,c,xs,rfl,R0.out⟩
 case round =>
  obtain⟨k,A,c,ys,rfl,hR⟩:=hrel;have R:=Hh hR;have hyl:=hR.2.2.1;have hcap:=hR.1.cap;clear hR R0;by_cases hlt:0<ys.length
  ·have hk:=R.out.few HN.out hlt;obtain⟨p,hp⟩:∃p,p=val ys%1000000000:=⟨_,rfl⟩;have hpl:p<1000000000:=by rw[hp];exact Nat.mod_lt _ (by decide)
   have hpz:((val ys:Nat):Int)%1000000000=(p:Int):=by rw[hp];omega
   have HP:=Hh hp;clear hp;go_wp2_with (go_at_call 147;refine(zrr _ _ ys 1000000000 _ R.out.1 (by omega) (by omega) (by omega)).mono ?_;rintro e w1 ⟨A1,c1,r1,rfl,q1,k1,v1,b1,n1⟩;rw[←HP.out];have Q:=Hh (And.intro q1 (And.intro k1 (And.intro v1 (And.intro b1 n1))));clear q1 k1 v1 b1 n1);have I0:=Hh (zcQ.start (p:=p) R.out Q.out.2.2.2.1 Q.out.1 Q.out.2.2.2.2);clear hpz;go_loopw [3,4,13] (fun v pv jv wr2=>∃(j:Nat) (bs:List UInt8),j≤9∧pv=.int .u32 ((p / 10^j:Nat):Int)∧jv=.int .i64 j∧zcQ n w k p j A1 c1 r1 bs v wr2) (fun _ _ jv _=>9-(intOf jv).toNat)
   case atStart=>exact⟨0,_,by omega,by simp,rfl,I0.out⟩
   case round =>
    obtain⟨j,bs,hj,rfl,rfl,hI⟩:=hrel;have I:=Hh hI;have hbs:=hI.2.2.2.1.size;have hbl:bs.length≤20000:=by have:=hI.len;omega
    clear hI I0;by_cases hj9:j<9
    ·obtain⟨d,hd⟩:∃d,d=p / 10^j:=⟨_,rfl⟩;have hdl:d<1000000000:=by rw[hd];exact Nat.lt_of_le_of_lt (Nat.div_le_self _ _) hpl
     have HD2:=Hh (show d / 10=p / 10^(j+1) by rw[hd,Nat.div_div_eq_div_mul,Nat.pow_succ]);rw[←hd];have HD:=Hh hd;clear hd;go_wp2_with (at_builtin;go_loud (refine wpList_append_own_at _ rfl _ _ 83 rfl w.heap.size 5 i0 (.int .u8 0) 1 1 Tryz.underlying83 HI.out.1 HI.out.2.1 HI.out.2.2.1 HI.out.2.2.2 rfl (by decide) _ _ _ rfl (I.out.2.2.1.alloc _) ⟨_,0,none⟩ 1 1 [.int .u8 (48+(d:Int)%10)] rfl rfl (cell_one_new _ _ _) (by simp[Value.oneCell']) (by simp only[maxLen];omega) (by omega) (by simp;omega) ?_;intro v2 w2 own2 grow2 _ at2));go_roundw
     case rel=>exact⟨j+1,_,by omega,by rw[←HD2.out];go_num,by go_num,zcQ.next I.out HD.out rfl own2 grow2 at2⟩
     case measure=>simp[intOf];omega
    ·obtain rfl:j=9:=by omega
     obtain⟨g',hg,hR⟩:=zcQ.done R.out I.out R.out.1.1 Q.out.2.1 Q.out.2.2.1 HP.out hlt;have RN:=Hh hR;clear hR;go_wp2;go_roundg g'
     case measure=>exact hg
     case rel=>exact⟨k+1,A1,c1,r1,rfl,RN.out⟩
  ·have hy0:ys=[]:=List.eq_nil_of_length_eq_zero (by omega);obtain⟨hB,hO⟩:=R.out.2.2.2.2.2.symm;have hv:=R.out.2.2.2.1;rw[hy0] at hv;have hz:n<10^(9*k):=by
    rcases Nat.lt_or_ge n (10^(9*k)) with h|h
    ·exact h
    ·have:=Nat.div_pos h (Nat.pow_pos (by decide));simp[val] at hv;omega
   obtain⟨B,c9,hvs⟩:=zcI hO;subst hvs;have e:=zsD hz;have sl:=zje hz;have T:=Hh (zqz B c9 (size n) (low (9*k) n) wr hO.rd.2 (by rw[zaD];exact sl) (fun j h1 h2=>by
    rw[zaD] at h2;rw[e,List.getElem?_append_right (by rw[zaD];exact h1),zaD,List.getElem?_replicate,if_pos (by omega)]) (fun j hj=>by
    have hp:0<n:=by
     rcases Nat.eq_zero_or_pos n with h0|h0
     ·rw[h0,zck] at hj;omega
     ·exact h0
    obtain⟨r,d,h1,h2,h3⟩:=zmC hp;have hl:(low (size n) n).length=r.length+1:=by rw[h1];simp
    rw[zaD] at hl;rw[e,h1,List.append_assoc,List.getElem?_append_right (by omega),show j-r.length=0 by omega];simp;intro e2;have:=zuD h3 (by decide) (show dig d=dig 0 from e2);omega))
   have O:=Hh (show OwB wr w.heap.size (.slice B (size n) c9) (low (size n) n) by
    have h1:=OwB.take hO (k:=size n) (by rw[zaD];exact sl)
    rwa [e,List.take_left' (zaD _ _)] at h1)
   have BB:=Hh hB;obtain⟨m,hm⟩:∃m,m=(low (9*k) n).length:=⟨_,rfl⟩;rw[←hm] at T ⊢;clear e sl hv hz hO hB hy0 hyl R hm;go_wp2_with (go_at_call 148;go_loud (refine T.out.mono ?_;rintro e w1 ⟨rfl,rfl⟩));go_ret;exact⟨B,c9,rfl,O.out,BB.out⟩
theorem znU (b o j:Nat):(⟨b,o,none⟩:Addr).add j=⟨b,o+j,none⟩:=by unfold Addr.add;split <;> simp_all
theorem zsF {w:World}{base n c:Nat}{A:Option Addr}{bs:List UInt8}(h:OwB w base (.slice A n c) bs):(convert 83 9 (.slice A n c)).run Tryz.prog w=.ok (.string ⟨bs.toArray⟩) w:=by
 obtain⟨rfl,hr⟩:=h.rd;rcases Nat.eq_zero_or_pos bs.length with h0|h0
 ·have e:bs=[]:=List.eq_nil_of_length_eq_zero h0;subst e;cases A with
  | none=>exact run_convert_bytes_nil w 83 5 Tryz.underlying83 Tryz.underlying5 _ _ _ Tryz.underlying9
  | some a=>exact run_convert_bytes_back w _ _ 5 a c [] Tryz.underlying83 Tryz.underlying5 Tryz.underlying9 (fun j hj=>by simp at hj)
 ·obtain⟨b,off,rfl,hb,hc⟩:=hr.2.2 (by simpa using h0);refine run_convert_bytes_back w _ _ 5 _ c bs Tryz.underlying83 Tryz.underlying5 Tryz.underlying9 (fun j hj=>?_);rw[znU];exact hc j _ (by rw[List.getElem?_map,List.getElem?_eq_getElem hj];rfl)
def zww (l:List UInt8)(w:World)(e:Ending)(w':World):Prop:=e=.returned (.string ⟨l.toArray⟩)∧Below w.heap.size w w'
theorem zsG {n len:Nat}(h:n<4294967296^len):size n≤10*len:=zje (Nat.lt_of_lt_of_le h (zgX len))
theorem zmD (s:Bool)(A:Option Addr)(c:Nat)(xs:List Nat)(w:World)(h:Us w A c xs)(hl:xs.length≤1000) :
  Calls Tryz.prog 57 #[.agg #[.bool s,.slice A xs.length c]] w (zww (text s (val xs)) w):=by
 obtain⟨i0,hi,hz0,hz1,hz2⟩:=info_parts Tryz.info8;obtain⟨n,hn⟩:∃n,n=val xs:=⟨_,rfl⟩;have hcap:=h.cap;have H:=Hh (h.below ((Below.refl w.heap.size w).alloc (Nat.le_refl _) (.cells #[.bool s,.slice A xs.length c] 48)));have b0:=(Below.refl w.heap.size w).alloc (Nat.le_refl _) (.cells #[.bool s,.slice A xs.length c] 48);have C:=zqB A c xs _ H.out hl;obtain⟨hX,_⟩:=box1 w (.bool s) (.slice A xs.length c) 48;have HX:=Hh hX;rw[←hn] at C ⊢;have hm0:=zsG (n:=n) (by rw[hn];exact zbz h.1);have hs0:n=0→size n=0:=fun e=>by rw[e,zck]
 have hs1:0<n→0<size n:=fun e=>by rw[zeJ e];omega
 have HT:∀r,r=(if s then (if n=0 then low (size n) n++[48] else low (size n) n)++[45] else (if n=0 then low (size n) n++[48] else low (size n) n)).reverse→r=text s n:=fun r hr=>by
  subst hr;unfold text digs;cases s
  ·by_cases h0:n=0
   ·simp[h0,zck,low]
   ·simp[h0]
  ·by_cases h0:n=0
   ·simp[h0,zck,low]
   ·simp[h0]
 obtain⟨r,hr⟩:∃r,r=text s n:=⟨_,rfl⟩;rw[←hr];have hLl:=zaD (size n) n;generalize low (size n) n=L at *;generalize size n=m at *;have HC:=Hh C;have HI:=Hh (And.intro hi (And.intro hz0 (And.intro hz1 hz2)));have HB:=Hh b0;have HTT:=Hh (And.intro HT hr);have HLL:=Hh hLl;have hL2:L.length≤10000:=by omega
 have tok0:True:=trivial;obtain⟨B0,hB0⟩:∃B0,B0=(w.alloc (.cells #[.bool s,.slice A xs.length c] 48)).heap.size:=⟨_,rfl⟩;rw[←hB0] at HC;have HB0:=Hh hB0;clear C h hi hz0 hz1 hz2 hn hX b0 HT hr hLl H hB0;rcases Nat.eq_zero_or_pos n with h0|h0 <;> cases s
 all_goals
  first
   | (have hm:=hs0 h0;clear hs0 hs1;subst h0;have hL0:L=[]:=List.eq_nil_of_length_eq_zero (by rw[HLL.out];exact hm);subst hL0;subst hm)
   | (have hm:=hs1 h0;clear hs0 hs1;have h1:¬ n=0:=by omega)
  obtain⟨x1,x2,x3,x4,x5⟩:=HX.out;go_enter Tryz.func57,Tryz.ntmps57;go_wp2_with (first
   | (go_at_call 102;go_loud (refine HC.out.mono ?_;rintro e w1 ⟨B,c9,rfl,hO,hb⟩;clear x3 x4 x5;obtain⟨x1,x2,_,_,_⟩:=HX.out.below (hb.mono (by rw[HB0.out];simp));have O:=Hh (And.intro hO (And.intro hb (by have:=hb.size;rw[←HB0.out] at this;exact this)));clear hO hb))
   | (at_builtin;go_loud (refine wpList_append_own_at _ rfl _ _ 83 rfl B0 5 i0 (.int .u8 0) 1 1 Tryz.underlying83 HI.out.1 HI.out.2.1 HI.out.2.2.1 HI.out.2.2.2 rfl (by decide) _ _ _ rfl (O.out.1.alloc _) ⟨_,0,none⟩ 1 1 [.int .u8 _] rfl rfl (cell_one_new _ _ _) (by simp[Value.oneCell']) (by simp only[maxLen];(try simp);(try omega)) (by(try simp);(try omega)) (by have:=O.out.2.2;simp;omega) ?_;intro v2 w2 own2 grow2 _ at2;(first|(have q:=OwB.snoc (x:=48) O.out.1 O.out.2.1 rfl own2 grow2 O.out.2.2)|(have q:=OwB.snoc (x:=45) O.out.1 O.out.2.1 rfl own2 grow2 O.out.2.2));obtain⟨A3,c3,hv3⟩:=zcI own2;subst hv3;have hs2:=Nat.le_trans O.out.2.2 (Nat.le_trans (Nat.le_succ _) (by have:=grow2.size;simpa using this));clear own2 grow2 at2;obtain⟨x1,x2,_,_,_⟩:=HX.out.below (q.2.mono (by rw[HB0.out];simp));have O:=Hh (And.intro q.1 (And.intro q.2 hs2));clear q hs2))
   | (go_at_call 103;go_loud (refine(zli _ _ _ B0 _ _ O.out.1 (by(try simp);(try omega))).mono ?_;rintro e w5 ⟨rfl,hO,hb⟩;have hcv:=zsF hO;(try simp only[List.length_nil,List.length_append,List.length_cons,List.nil_append,Nat.zero_add,Nat.reduceAdd] at hcv);have hb2:=Hh (O.out.2.1.trans hb);clear hO hb;obtain⟨x1,x2,_,_,_⟩:=HX.out.below (hb2.out.mono (by rw[HB0.out];simp)))))
  go_ret;refine⟨?_,HB.out.trans (hb2.out.mono (by rw[HB0.out];simp))⟩;have e:=HTT.out.1 _ rfl;rw[HTT.out.2,←e];simp[*]
end Go.Proofs.YtfjajpnfjjdnpaaGreatDoor

namespace Go.Proofs.YtfjajpnfjjdnpaaGreatDoor
open Go.RowKit
def Ke (b:Nat)(w w':World):Prop:=Below b w w'∧Lib.OthersKept 5 (some b) w w'
theorem Ke.refl (b:Nat)(w:World):Ke b w w:=⟨Below.refl _ _,Lib.OthersKept.refl _ _ _⟩
theorem Ke.trans {b:Nat}{w w1 w2:World}(h:Ke b w w1)(k:Ke b w1 w2):Ke b w w2:=⟨h.1.trans k.1,h.2.trans k.2⟩
theorem zmE:(Tryz.prog.info? 5).map (fun i=>(i.zero,i.size,i.bytes))=some (some (.int .u8 0),1,1):=by kernel_rfl
theorem zmF:(Tryz.prog.info? 85).map (·.size)=some 2:=by kernel_rfl
theorem zjf (b:Nat)(w:World)(h0:w.cell? ⟨b,0,none⟩=some (.pointer (some ⟨b,0,none⟩))) :
  Calls Tryz.prog 135 #[.pointer (some ⟨b,0,none⟩)] w fun e w'=>e=.returned (.tuple #[])∧w'=w:=by
 obtain⟨j,hj,-⟩:=Option.map_eq_some_iff.1 zmF;go_enter Tryz.func135,Tryz.ntmps135;go_wp2;rw[Lib.run_neq_ptr_same w _ Tryz.underlying82 hj];go_wp2;go_end0;exact⟨rfl,rfl⟩
end Go.Proofs.YtfjajpnfjjdnpaaGreatDoor

namespace Go.Proofs.YtfjajpnfjjdnpaaGreatDoor
open Go.RowKit Lib
theorem zid {w:World}{base:Nat}{e:TypeId}{size:Nat}{v:Value}{n:Nat}{xs:List Value}(h:w.ownsRowF base e size v n xs):∃A c,v=.slice A n c:=by
 rcases h.2 with⟨hv,h0⟩|⟨g,cap,cur,fz,hv,-⟩
 ·exact⟨none,0,by rw[hv,h0]⟩
 ·exact⟨_,_,hv⟩
end Go.Proofs.YtfjajpnfjjdnpaaGreatDoor

namespace Go.Proofs.YtfjajpnfjjdnpaaGreatDoor
def zah:List UInt8→List UInt8
 | []=>[]
 | x :: r=>if x=0∧zah r=[] then [] else x :: zah r
theorem zie (l:List UInt8)(x:UInt8):zah (l++[x])=if x=0 then zah l else l++[x]:=by
 induction l with
 | nil =>
  show(if x=0∧([]:List UInt8)=[] then [] else [x])=_;by_cases h:x=0
  ·rw[if_pos ⟨h,rfl⟩,if_pos h];rfl
  ·rw[if_neg (fun e=>h e.1),if_neg h];rfl
 | cons y r ih =>
  show(if y=0∧zah (r++[x])=[] then [] else y :: zah (r++[x]))=_;rw[ih];by_cases h:x=0
  ·rw[if_pos h,if_pos h];rfl
  ·rw[if_neg h,if_neg h,if_neg (fun e=>by have:=e.2;simp at this)];rfl
theorem zdH (l:List UInt8):zah l=l.take (zah l).length:=by
 induction l with
 | nil=>rfl
 | cons y r ih =>
  show(if y=0∧zah r=[] then [] else y :: zah r)=_;show _=(y :: r).take (if y=0∧zah r=[] then [] else y :: zah r).length;split
  ·rfl
  ·rw[List.length_cons,List.take_succ_cons,←ih]
theorem zgY (l:List UInt8):(zah l).length≤l.length:=by
 have h:=congrArg List.length (zdH l);rw[List.length_take] at h;omega
end Go.Proofs.YtfjajpnfjjdnpaaGreatDoor

namespace Go.Proofs.YtfjajpnfjjdnpaaGreatDoor
open Go.RowKit Lib
def ztu:Value→Nat
 | .string t=>t.size
 | _=>0
theorem zjg (t:ByteArray)(m:Nat):(t.extract 0 m).data.toList=t.data.toList.take m:=by
 simp[ByteArray.data_extract]
theorem zqC {s t:ByteArray}(h:s.data.toList=t.data.toList):s=t:=by
 obtain⟨⟨a⟩⟩:=s;obtain⟨⟨b⟩⟩:=t;simp at h;rw[h]
theorem zuE {t:ByteArray}{m:Nat}(h:t.size=m+1)(hlt:m<t.size):t.data.toList=t.data.toList.take m++[t[m]'hlt]:=by
 have hl:t.data.toList.length=m+1:=(zaU t).trans h;have h1:=zeg (s:=t) (k:=m) hlt;have h2:=List.take_add_one (l:=t.data.toList) (i:=m);rw[h1,List.take_of_length_le (by omega)] at h2;exact h2
theorem zqD (s:ByteArray)(w:World)(hs:s.size≤maxLen) :
  Calls Tryz.prog 137 #[.string s,.int .u8 0] w fun e w'=>e=.returned (.string ⟨(zah s.data.toList).toArray⟩)∧w'=w:=by
 obtain⟨R,hR⟩:∃R,R=zah s.data.toList:=⟨_,rfl⟩;rw[←hR];have HR:=Hh hR;have HS:=Hh hs;clear hR hs;go_enter Tryz.func137,Tryz.ntmps137;go_wp2_with fail;go_loopw [0] (fun z1 wr=>∃t:ByteArray,z1=.string t∧zah t.data.toList=R∧t.size≤maxLen∧wr=w) (fun z1 _=>ztu z1)
 case atStart=>exact⟨s,rfl,HR.out.symm,HS.out,rfl⟩
 case round =>
  obtain⟨t,rfl,ht,htl,rfl⟩:=hrel;have HT:=Hh ht;have HTL:=Hh htl;clear ht htl;rcases Nat.eq_zero_or_pos t.size with h0|h0
  ·have t1:decide ((t.size:Int)>0)=false:=decide_eq_false (by omega);have t2:decide (0<t.size)=false:=decide_eq_false (by omega);have t3:(0<t.size)=False:=eq_false (by omega);have HE:=Hh (show t.data.toList=[] from List.eq_nil_of_length_eq_zero (by rw[zaU];exact h0));clear h0;go_wp2_with fail;go_ret;have e:R=[]:=by rw[←HT.out,HE.out];rfl
   refine⟨?_,rfl⟩;rw[e];have e2:t=⟨#[]⟩:=zqC (by rw[HE.out]);rw[e2];rfl
  ·obtain⟨m,hm⟩:∃m,t.size=m+1:=⟨t.size-1,by omega⟩;have hlt:m<t.size:=by omega
   have t1:decide ((t.size:Int)>0)=true:=decide_eq_true (by omega);have t2:decide (0<t.size)=true:=decide_eq_true (by omega);have t3:(0<t.size)=True:=eq_true (by omega);have i1:IntKind.i64.wrap ((t.size:Int)-1)=(m:Int):=by
    rw[show(t.size:Int)-1=(m:Int) by omega];exact IntWalk.i64_in _ (by have:=HTL.out;unfold maxLen at this;omega)
   have i2:(0:Int)≤(m:Int):=by omega
   have i3:(m:Int)<(t.size:Int):=by omega
   have i4:(0:Int)≤(m:Int)∧(m:Int)≤(t.size:Int):=by omega
   have HSN:=Hh (zuE hm hlt);have HM:=Hh hm;have HGT:=Hh (zeg hlt);by_cases hx:(t[m]'hlt).toNat=0
   ·have u1:((((t[m]'hlt).toNat:Nat):Int)==0)=true:=by rw[hx];rfl
    have HX:=Hh (show t[m]'hlt=0 from UInt8.toNat_inj.1 hx);clear hm h0 hx;go_wp2_with fail;go_roundw
    case rel=>exact⟨t.extract 0 m,rfl,by(have h9:=HT.out;rw[HSN.out,zie,if_pos HX.out] at h9;rw[zjg];exact h9),by have:=HTL.out;have h2:=HM.out;have h3:(t.extract 0 m).size=m:=(by rw[←zaU,zjg,List.length_take,zaU];omega);omega,trivial⟩
    case measure =>
     have h2:=HM.out;have h3:(t.extract 0 m).size=m:=by rw[←zaU,zjg,List.length_take,zaU];omega
     show(t.extract 0 m).size<t.size;omega
   ·have u1:((((t[m]'hlt).toNat:Nat):Int)==0)=false:=beq_eq_false_iff_ne.2 (by omega);have HX:=Hh (show ¬ t[m]'hlt=0 from fun e=>hx (by rw[e];rfl));clear hm h0 hx;go_wp2_with fail;go_ret;have e:R=t.data.toList:=by rw[←HT.out,HSN.out,zie,if_neg HX.out]
    refine⟨?_,rfl⟩;rw[e];rfl
theorem zqE (s:ByteArray)(w:World)(hs:s.size≤maxLen) :
  Calls Tryz.prog 90 #[.string s,.string ⟨#[0]⟩] w fun e w'=>e=.returned (.string ⟨(zah s.data.toList).toArray⟩)∧w'=w:=by
 by_cases h0:s.data.toList=[]
 ·have e1:s.toList.isEmpty=true:=by
   rw[ByteArray.toList_eq,h0];rfl
  go_enter Tryz.func90,Tryz.ntmps90;go_wp2_with fail;go_ret;refine⟨?_,rfl⟩;rw[h0];have e2:s=⟨#[]⟩:=zqC (by rw[h0]);rw[e2];rfl
 ·have e1:s.toList.isEmpty=false:=by
   rw[ByteArray.toList_eq];cases hl:s.data.toList with
   | nil=>exact absurd hl h0
   | cons x r=>rfl
  go_enter Tryz.func90,Tryz.ntmps90;go_wp2_with (go_at_call 137;go_loud (refine(zqD s _ hs).mono ?_;rintro e w1 ⟨rfl,rfl⟩));go_ret;exact⟨rfl,rfl⟩
end Go.Proofs.YtfjajpnfjjdnpaaGreatDoor

namespace Go.Proofs.YtfjajpnfjjdnpaaGreatDoor
open Go.RowKit Num Nds Txt
def zdM (z:Int):List UInt8:=Digs.text (decide (z<0)) z.natAbs
theorem zjh {u:Bw}{W:World}{X:Int}(h:u.R W X):Digs.text u.s (val u.xs)=zdM X:=by
 have hv:=h.v;have hc:=h.cn;unfold zdM;have h1:X.natAbs=val u.xs:=by
  rw[←hv];unfold ival;split <;> simp
 have h2:decide (X<0)=u.s:=by
  cases hs:u.s with
  | false =>
   refine decide_eq_false ?_;rw[←hv,hs];show ¬ ((val u.xs:Nat):Int)<0;omega
  | true =>
   refine decide_eq_true ?_;have h3:=hc.2 hs;have h4:0<val u.xs:=Nat.pos_of_ne_zero fun e=>h3 (zbs hc.1 e);rw[←hv,hs];show -((val u.xs:Nat):Int)<0;omega
 rw[h1,h2]
def GfI (f:Int)(s:ByteArray)(q:List Nd)(n:Nat)(box nodes er X Y:Int)(L:List (List UInt8)):Prop :=
 (er≠0∧CkI f s q n box nodes er∧X=0∧Y=0∧L=[])∨(er=0∧CkI f s q n box nodes 0∧GoI q n box 0 X Y L)
theorem zlj {f:Int}{s:ByteArray}{q:List Nd}{n:Nat}{box nodes:Int}(h:CkI f s q n box nodes 0):mayP s q=true∧zeb box nodes=true∧ExpP f q n box:=by
 have h1:(fmtB f&&(mayP s q&&zeb box nodes))=true:=by
  cases e:(fmtB f&&(mayP s q&&zeb box nodes)) with
  | true=>rfl
  | false=>have:=h.1 e;omega
 have h2:=h1;rw[Bool.and_eq_true,Bool.and_eq_true] at h2;rcases h.2 h1 with h3|h3
 ·exact⟨h2.2.1,h2.2.2,h3.2⟩
 ·omega
theorem zsH {s:ByteArray}{q:List Nd}(h:mayP s q=true):zaq q:=by
 unfold mayP at h;rw[Bool.and_eq_true] at h;exact zhX h.2
theorem zvN {f:Int}{s:ByteArray}{q:List Nd}{n:Nat}{box nodes er X Y:Int}{L:List (List UInt8)}(hf:f≠5)(h:CkI f s q n box nodes 0)(g:GoI q n box er X Y L):er=0:=by
 obtain⟨h1,h2,h3⟩:=zlj h;unfold zeb at h2;rw[decide_eq_true_iff] at h2;rcases h3 with h3|⟨⟨X2,Y2,V2,H2,ok2,b2,h4,h5⟩,-⟩
 ·exact absurd h3 hf
 ·rcases g with⟨h6,-⟩|⟨-,ok,X',Y',V,H,b,h6⟩
  ·omega
  ·obtain⟨-,-,-,rfl,rfl⟩:=b.one b2;rcases h6 with⟨h7,-⟩|⟨-,h7,-⟩
   ·omega
   ·exact h7
theorem GfI.one {f:Int}{s:ByteArray}{q:List Nd}{n:Nat}{box nodes er X Y er' X' Y':Int}{L L':List (List UInt8)}(h:GfI f s q n box nodes er X Y L)(k:GfI f s q n box nodes er' X' Y' L'):er=er'∧X=X'∧Y=Y'∧L=L':=by
 obtain⟨E,hE⟩:=zvI f s q n box nodes;rcases h with⟨h0,h1,rfl,rfl,rfl⟩|⟨rfl,h1,h2⟩
 ·have e1:=hE _ h1;rcases k with⟨k0,k1,rfl,rfl,rfl⟩|⟨rfl,k1,k2⟩
  ·exact⟨e1.trans (hE _ k1).symm,rfl,rfl,rfl⟩
  ·have e2:=hE _ k1;omega
 ·have e1:=hE _ h1;rcases k with⟨k0,k1,rfl,rfl,rfl⟩|⟨rfl,k1,k2⟩
  ·have e2:=hE _ k1;omega
  ·obtain⟨-,e3,e4,e5⟩:=h2.one k2;exact⟨rfl,e3,e4,e5⟩
structure Og (w:World)(A:Option Addr)(n c:Nat)(q:List Nd)(s:ByteArray)(box nodes:Int)(W:World):Prop where
 b:Below w.heap.size w W
 pk:W.heap[w.heap.size]?=some (.cells #[.string s,.slice A n c] 30)
 lk:W.heap[w.heap.size+1]?=some (.cells #[.int .i64 box,.int .i64 nodes] 24)
 ns:Ns W A c q
section
variable {w W W':World} {A:Option Addr} {n c:Nat} {q:List Nd} {s:ByteArray} {box nodes:Int}
theorem Og.next (h:Og w A n c q s box nodes W)(k:Below W.heap.size W W'):Og w A n c q s box nodes W' :=
 ⟨h.b.trans (k.mono h.b.size),(k.block _ (zag h.pk)).trans h.pk,(k.block _ (zag h.lk)).trans h.lk,h.ns.below k⟩
theorem Og.start (h:Ns w A c q):Og w A n c q s box nodes ((w.alloc (.cells #[.string s,.slice A n c] 30)).alloc (.cells #[.int .i64 box,.int .i64 nodes] 24)):=by
 have b1:=(Below.refl w.heap.size w).alloc (Nat.le_refl _) (.cells #[.string s,.slice A n c] 30);have b2:=b1.alloc b1.size (.cells #[.int .i64 box,.int .i64 nodes] 24);have x2:=heap_alloc_new (w.alloc (.cells #[.string s,.slice A n c] 30)) (.cells #[.int .i64 box,.int .i64 nodes] 24);rw[World.size_alloc] at x2;exact⟨b2,(((Below.refl _ _).alloc (Nat.le_refl _) _).block _ (by rw[World.size_alloc];omega)).trans (heap_alloc_new w _),x2,h.below b2⟩
theorem Og.cells (h:Og w A n c q s box nodes W):W.cell? ⟨w.heap.size,0,none⟩=some (.string s)∧W.cell? ⟨w.heap.size,1,none⟩=some (.slice A n c)∧W.cell? ⟨w.heap.size+1,0,none⟩=some (.int .i64 box)∧W.cell? ⟨w.heap.size+1,1,none⟩=some (.int .i64 nodes) :=
 ⟨(cell_of_row W _ 0 _ _ (0,0) h.pk).trans rfl,(cell_of_row W _ 1 _ _ (0,0) h.pk).trans rfl,(cell_of_row W _ 0 _ _ (0,0) h.lk).trans rfl,(cell_of_row W _ 1 _ _ (0,0) h.lk).trans rfl⟩
end
end Go.Proofs.YtfjajpnfjjdnpaaGreatDoor
