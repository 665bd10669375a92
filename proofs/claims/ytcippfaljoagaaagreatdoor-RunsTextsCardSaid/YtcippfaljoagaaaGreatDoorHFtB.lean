import Derived.Test.YtcippfaljoagaaaGreatDoorHGdH
import Derived.Laws.RangeString
import Derived.Deep.LoopGhost
import Derived.Laws.BytesString
import Derived.Laws.Concat
import Derived.Laws.BytesArg
import Derived.Lib.Builder
import Derived.Lib.FrozenHead2
import Derived.Lib.UnsafeStr
import Derived.Lib.AppendStr
import Derived.Laws.Externs
import Derived.Shelf.RegionOpenPlain
import Derived.Laws.IdiomCopy
import Derived.Laws.BitsLemmas

set_option linter.unusedVariables false
set_option linter.unusedSimpArgs false
set_option maxRecDepth 100000
set_option maxHeartbeats 6400000
namespace Go.Proofs.YtcippfaljoagaaaGreatDoor
open Go.RowKit Num Nds
theorem zvu {W:World}{g:Nat}{L:List (List UInt8)}(hb:W.heap[g]?=some (.cells (L.map strV).toArray 9))(hl:∀r∈L,r.length≤maxLen)(hn:L.length≤maxLen):Ts W (some ⟨g,0,none⟩) L.length L :=
 ⟨hl,by simp,hn,fun _=>⟨g,0,rfl,zad hb,fun j u hu=>by
  rw[cell_of_row _ _ _ _ _ _ hb,Nat.zero_add];simpa using hu⟩⟩
end Go.Proofs.YtcippfaljoagaaaGreatDoor

namespace Go.Proofs.YtcippfaljoagaaaGreatDoor.Digs
def dig (d:Nat):UInt8:=UInt8.ofNat (48+d)
theorem ziQ {d:Nat}(h:d<10):(dig d).toNat=48+d:=by
 unfold dig;simp;omega
theorem zuh {d e:Nat}(h:d<10)(k:e<10)(he:dig d=dig e):d=e:=by
 have h1:=ziQ h;have h2:=ziQ k;rw[he] at h1;omega
def low:Nat→Nat→List UInt8
 | 0,_=>[]
 | k+1,n=>dig (n%10) :: low k (n / 10)
theorem zaM:∀(k n:Nat),(low k n).length=k
 | 0,_=>rfl
 | k+1,n=>by simp[low,zaM k]
theorem low_add:∀(j k n:Nat),low (j+k) n=low j n++low k (n / 10^j)
 | 0,k,n=>by simp[low]
 | j+1,k,n=>by
  rw[show j+1+k=(j+k)+1 by omega];simp only[low,List.cons_append];rw[low_add j k (n / 10),Nat.div_div_eq_div_mul,Nat.pow_succ,Nat.mul_comm 10]
theorem zgh (k n:Nat):low (k+1) n=low k n++[dig (n / 10^k%10)]:=by
 rw[low_add k 1 n];rfl
theorem zpS:∀(k n m:Nat),low k (n+10^k*m)=low k n
 | 0,_,_=>rfl
 | k+1,n,m=>by
  simp only[low];have e:n+10^(k+1)*m=n+10*(10^k*m):=by rw[Nat.pow_succ,Nat.mul_comm (10^k) 10,Nat.mul_assoc]
  rw[e,Nat.add_mul_mod_self_left,Nat.add_mul_div_left _ _ (by decide),zpS k]
def size (n:Nat):Nat:=if n=0 then 0 else size (n / 10)+1
theorem zct:size 0=0:=by unfold size;simp
theorem zeT {n:Nat}(h:0<n):size n=size (n / 10)+1:=by
 rw[size,if_neg (by omega)]
theorem zle (n:Nat):n<10^size n:=by
 induction n using Nat.strongRecOn with
 | ind n ih =>
  rcases Nat.eq_zero_or_pos n with rfl|hn
  ·rw[zct];decide
  ·rw[zeT hn,Nat.pow_succ];have:=ih (n / 10) (by omega);omega
theorem zpT {n:Nat}(h:0<n):10^(size n-1)≤n:=by
 induction n using Nat.strongRecOn with
 | ind n ih =>
  rw[zeT h,Nat.add_sub_cancel];rcases Nat.eq_zero_or_pos (n / 10) with h0|h0
  ·rw[h0,zct];exact h
  ·have h1:=ih (n / 10) (by omega) h0;have h2:=zeT h0;have h3:10^size (n / 10)=10^(size (n / 10)-1)*10:=by rw[←Nat.pow_succ];congr 1;omega
   omega
theorem zgU {n k:Nat}(h:n<10^k):size n≤k:=by
 rcases Nat.eq_zero_or_pos n with rfl|hn
 ·rw[zct];exact Nat.zero_le _
 ·have h1:=zpT hn;rcases Nat.lt_or_ge k (size n) with hk|hk
  ·have h2:10^k≤10^(size n-1):=Nat.pow_le_pow_right (by decide) (by omega);omega
  ·exact hk
theorem zpU {n k:Nat}(h:n<10^(k+1))(h2:10^k≤n):size n=k+1:=by
 have h3:=zgU h;have h4:=zle n;rcases Nat.lt_or_ge k (size n) with hk|hk
 ·omega
 ·have:10^size n≤10^k:=Nat.pow_le_pow_right (by decide) hk;omega
def digs (n:Nat):List UInt8:=if n=0 then [48] else (low (size n) n).reverse
def text (s:Bool)(n:Nat):List UInt8:=if s then 45 :: digs n else digs n
theorem zmt:∀k,low k 0=List.replicate k 48
 | 0=>rfl
 | k+1=>by simp only[low,Nat.zero_mod,Nat.zero_div,zmt k,List.replicate_succ];rfl
theorem zrS {n k:Nat}(h:n<10^k):low k n=low (size n) n++List.replicate (k-size n) 48:=by
 have h1:=zgU h;obtain⟨j,hj⟩:∃j,k=size n+j:=⟨k-size n,by omega⟩;rw[hj,low_add,Nat.div_eq_of_lt (zle n),zmt,Nat.add_sub_cancel_left]
theorem zrT {n:Nat}(h:0<n):∃r d,low (size n) n=r++[dig d]∧0<d∧d<10:=by
 have h1:=zeT h;have h2:=zpT h;have h3:=zle n;obtain⟨k,hk⟩:∃k,size n=k+1:=⟨_,h1⟩;rw[hk,zgh];refine⟨_,_,rfl,?_,Nat.mod_lt _ (by decide)⟩;rw[hk] at h2 h3;rw[Nat.add_sub_cancel] at h2;rw[Nat.pow_succ] at h3;have h4:n / 10^k<10:=by rw[Nat.div_lt_iff_lt_mul (Nat.pow_pos (by decide))];omega
 have h5:1≤n / 10^k:=(Nat.le_div_iff_mul_le (Nat.pow_pos (by decide))).2 (by omega);omega
theorem zgV {n:Nat}(h:0<n):(digs n).length=size n:=by
 unfold digs;rw[if_neg (by omega)];simp[zaM]
theorem digs_length_le {n k:Nat}(h:n<10^k)(hk:0<k):(digs n).length≤k:=by
 rcases Nat.eq_zero_or_pos n with rfl|hn
 ·unfold digs;exact hk
 ·rw[zgV hn];exact zgU h
end Go.Proofs.YtcippfaljoagaaaGreatDoor.Digs

namespace Go.Proofs.YtcippfaljoagaaaGreatDoor
open Go.RowKit Num Digs
theorem zvv (s:ByteArray):s.data.toList.length=s.size:=by simp
abbrev u8v (b:UInt8):Value:=.int .u8 (b.toNat:Int)
def OwB (w:World)(base:Nat)(v:Value)(bs:List UInt8):Prop:=w.ownsRow base 5 1 v bs.length (bs.map u8v)
theorem OwB.below {w w':World}{base:Nat}{v:Value}{bs:List UInt8}(h:OwB w base v bs)(hb:Below w.heap.size w w'):OwB w' base v bs:=zca h hb
theorem OwB.rd {w:World}{base:Nat}{A:Option Addr}{n c:Nat}{bs:List UInt8}(h:OwB w base (.slice A n c) bs):n=bs.length∧Rd w A c (bs.map u8v):=by
 have hn:n=bs.length:=by
  rcases h.2 with⟨h1,h2⟩|⟨g,cap,cur,h1,_⟩
  ·cases h1;omega
  ·cases h1;rfl
 subst hn;exact⟨rfl,Rd.own h⟩
theorem OwB.take {w:World}{base:Nat}{A:Option Addr}{n c:Nat}{bs:List UInt8}(h:OwB w base (.slice A n c) bs){k:Nat}(hk:k≤bs.length):OwB w base (.slice A k c) (bs.take k):=by
 have hl:(bs.take k).length=k:=by rw[List.length_take];omega
 refine⟨by simp,?_⟩;rw[hl];rcases h.2 with⟨h1,h2⟩|⟨g,cap,cur,h1,hb,hg,hn,hc,hs,ht⟩
 ·cases h1;obtain rfl:k=0:=by omega
  exact .inl ⟨rfl,rfl⟩
 ·cases h1;refine .inr ⟨g,c,cur,rfl,hb,hg,by omega,hc,hs,?_⟩;rw[Nat.mul_one] at ht ⊢;rw[List.map_take,←ht,List.take_take,Nat.min_eq_left hk]
theorem Tryz.info8:(Tryz.prog.info? 5).map (fun i=>(i.zero,i.size,i.bytes))=some (some (.int .u8 0),1,1):=by kernel_rfl
theorem zpV (A:Option Addr)(c k:Nat)(bs:List UInt8)(w:World)(h:Rd w A c (bs.map u8v))(hk:k≤bs.length)(hz:∀j,k≤j→j<bs.length→bs[j]?=some 48)(he:∀j,k=j+1→bs[j]?≠some 48) :
  Calls Tryz.prog 159 #[.slice A bs.length c,.int .u8 48] w fun e w'=>e=.returned (.slice A k c)∧w=w':=by
 have hcap:=h.1;have hmax:=h.2.1;rw[List.length_map] at hcap;unfold maxLen at hmax;have HH:=Hh h;have HZ:=Hh hz;have HE:=Hh he;clear h hz he;obtain⟨n,hn⟩:∃n,n=bs.length:=⟨_,rfl⟩;have HN:=Hh hn;rw[←hn] at hcap hk ⊢;clear hn;go_enter Tryz.func159,Tryz.ntmps159;go_wp2;go_loop [0] (fun v=>∃j:Nat,k≤j∧j≤n∧v=.slice A j c) (fun v=>match v with|.slice _ j _=>j|_=>0)
 case atStart=>exact⟨n,hk,Nat.le_refl _,rfl⟩
 case round =>
  obtain⟨j,hkj,hjn,rfl⟩:=hrel;rcases Nat.eq_zero_or_pos j with hj|hj
  ·subst hj;obtain rfl:k=0:=by omega
   go_wp2;go_ret;exact⟨rfl,rfl⟩
  ·obtain⟨t,rfl⟩:∃t,j=t+1:=⟨j-1,by omega⟩;have hl:t<bs.length:=by rw[←HN.out];omega
   obtain⟨b,off,rfl,hb,hc⟩:=HH.out.2.2 (by rw[List.length_map];omega);obtain⟨x,hx⟩:∃x,bs[t]?=some x:=⟨_,List.getElem?_eq_getElem hl⟩;have hct:=hc t (u8v x) (by rw[List.getElem?_map,hx];rfl);have hqz:((t+1:Nat):Int)=(t:Int)+1:=by omega
   have htz:((t:Int)).toNat=t:=by omega
   have htc:(t:Int)<((t:Int)+1):=by omega
   clear hc;by_cases hlt:k<t+1
   ·obtain rfl:x=48:=by
     have:=HZ.out t (by omega) hl;rw[hx] at this;exact Option.some.inj this
    have hct2:w.cell? ⟨b,off+t,none⟩=some (.int .u8 48):=hct;clear hct hx;go_wp2;refine⟨⟨t,by omega,by omega,rfl⟩,?_⟩;simp
   ·obtain rfl:k=t+1:=by omega
    have hne:¬ ((x.toNat:Int)=48):=fun e=>HE.out t rfl (by rw[hx];congr 1;exact UInt8.toNat_inj.1 (by rw[show(48:UInt8).toNat=48 from rfl];omega));clear hx;go_wp2;go_ret;exact⟨rfl,rfl⟩
theorem zpW (A:Option Addr)(c k:Nat)(bs:List UInt8)(w:World)(h:Rd w A c (bs.map u8v))(hk:k≤bs.length)(hz:∀j,k≤j→j<bs.length→bs[j]?=some 48)(he:∀j,k=j+1→bs[j]?≠some 48) :
  Calls Tryz.prog 125 #[.slice A bs.length c,.string ⟨#[48]⟩] w fun e w'=>e=.returned (.slice A k c)∧w=w':=by
 have hcap:=h.1;have hmax:=h.2.1;rw[List.length_map] at hcap;unfold maxLen at hmax;have C:=Hh (zpV A c k bs w h hk hz he);clear h hz he;generalize bs.length=n at C hk hcap ⊢;by_cases h0:0<n
 ·have hz:((n:Nat):Int)≠0:=by omega
  go_enter Tryz.func125,Tryz.ntmps125;go_wp2_with (go_at_call 159;refine C.out.mono ?_;rintro e w1 ⟨rfl,rfl⟩);go_ret;exact⟨rfl,rfl⟩
 ·obtain rfl:n=0:=by omega
  obtain rfl:k=0:=by omega
  go_enter Tryz.func125,Tryz.ntmps125;go_wp2_with fail;go_ret;exact⟨rfl,rfl⟩
def zeU (bs ys:List UInt8)(i:Nat)(j:Int):Prop :=
 ys.length=bs.length∧(i:Int)+j+1=bs.length∧∀k,k<bs.length→ys[k]?=if i≤k∧(k:Int)≤j then bs[k]? else bs[bs.length-1-k]?
theorem zeU.start (bs:List UInt8):zeU bs bs 0 ((bs.length:Int)-1) :=
 ⟨rfl,by omega,fun k hk=>by rw[if_pos (by omega)]⟩
theorem zeU.done {bs ys:List UInt8}{i:Nat}{j:Int}(h:zeU bs ys i j)(hij:¬ (i:Int)<j):ys=bs.reverse:=by
 obtain⟨h1,h2,h3⟩:=h;refine List.ext_getElem? fun k=>?_;rcases Nat.lt_or_ge k bs.length with hk|hk
 ·rw[h3 k hk,List.getElem?_reverse hk];split
  ·rename_i h;rw[show bs.length-1-k=k by omega]
  ·rfl
 ·rw[List.getElem?_eq_none (by omega),List.getElem?_eq_none (by simpa using hk)]
theorem zeU.next {bs ys:List UInt8}{i j:Nat}(h:zeU bs ys i j)(hij:i<j){x y:UInt8}(hx:ys[i]?=some x)(hy:ys[j]?=some y):zeU bs ((ys.set i y).set j x) (i+1) ((j:Int)-1):=by
 obtain⟨h1,h2,h3⟩:=h;have hi:=(List.getElem?_eq_some_iff.1 hx).1;have hj:=(List.getElem?_eq_some_iff.1 hy).1;refine⟨by simpa using h1,by omega,fun k hk=>?_⟩;have e1:=h3 i (by omega);have e2:=h3 j (by omega);rw[if_pos (by omega),hx] at e1;rw[if_pos (by omega),hy] at e2;rw[List.getElem?_set,List.getElem?_set];simp only[List.length_set];by_cases hkj:j=k
 ·subst hkj;rw[if_pos rfl,if_pos hj,if_neg (by omega),e1];congr 1;omega
 ·rw[if_neg hkj];by_cases hki:i=k
  ·subst hki;rw[if_pos rfl,if_pos hi,if_neg (by omega),e2];congr 1;omega
  ·rw[if_neg hki,h3 k hk];by_cases hc:i≤k∧(k:Int)≤j
   ·rw[if_pos hc,if_pos (by omega)]
   ·rw[if_neg hc,if_neg (by omega)]
theorem OwB.cell {w:World}{base g n c:Nat}{bs:List UInt8}(h:OwB w base (.slice (some ⟨g,0,none⟩) n c) bs){k:Nat}{x:UInt8}(hk:bs[k]?=some x):w.cell? ⟨g,k,none⟩=some (.int .u8 (x.toNat:Int)):=by
 have hl:=(List.getElem?_eq_some_iff.1 hk).1;obtain⟨rfl,_⟩:=h.rd;rw[World.ownsRow.cellAt h k (by omega),List.getElem?_map,hk];rfl
theorem OwB.set {w:World}{base g n c:Nat}{bs:List UInt8}(h:OwB w base (.slice (some ⟨g,0,none⟩) n c) bs)(k:Nat)(x:UInt8):OwB (w.setCell ⟨g,k,none⟩ (.int .u8 (x.toNat:Int))) base (.slice (some ⟨g,0,none⟩) n c) (bs.set k x):=by
 obtain⟨rfl,_⟩:=h.rd;unfold OwB;rw[List.map_set,List.length_set];exact(World.ownsRow.stored h k _).1
theorem OwB.free {w:World}{base g n c:Nat}{bs:List UInt8}(h:OwB w base (.slice (some ⟨g,0,none⟩) n c) bs)(k:Nat):w.frozen? ⟨g,k,none⟩=false:=by
 obtain⟨rfl,_⟩:=h.rd;exact World.ownsRow.frozenAt h k
theorem OwB.base {w:World}{base g n c:Nat}{bs:List UInt8}(h:OwB w base (.slice (some ⟨g,0,none⟩) n c) bs):base≤g:=by
 rcases h.2 with⟨h1,_⟩|⟨g',cap,cur,h1,h2,_⟩
 ·cases h1
 ·cases h1;exact h2
theorem OwB.shape {w:World}{base n c:Nat}{A:Option Addr}{bs:List UInt8}(h:OwB w base (.slice A n c) bs)(hn:0<bs.length):∃g,A=some ⟨g,0,none⟩:=by
 rcases h.2 with⟨h1,h2⟩|⟨g',cap,cur,h1,h2,_⟩
 ·omega
 ·cases h1;exact⟨_,rfl⟩
theorem zlf (A:Option Addr)(n c base:Nat)(bs:List UInt8)(w:World)(h:OwB w base (.slice A n c) bs)(hl:bs.length≤9223372036854775807) :
  Calls Tryz.prog 92 #[.slice A n c] w fun e w'=>e=.returned (.tuple #[])∧OwB w' base (.slice A n c) bs.reverse∧Below base w w':=by
 obtain⟨hn,_⟩:=h.rd;have HH:=Hh h;have HN:=Hh hn;rw[←hn] at hl;clear h hn;go_enter Tryz.func92,Tryz.ntmps92;go_wp2;go_loopw [2,3] (fun iv jv wr=>∃(i:Nat) (j:Int) (ys:List UInt8),i≤n∧-1≤j∧iv=.int .i64 i∧jv=.int .i64 j∧zeU bs ys i j∧OwB wr base (.slice A n c) ys∧Below base w wr) (fun iv _ _=>n-(intOf iv).toNat)
 case atStart=>exact⟨0,(n:Int)-1,bs,by omega,by omega,rfl,by go_num,by rw[HN.out];exact zeU.start bs,HH.out,Below.refl _ _⟩
 case round =>
  obtain⟨i,j,ys,hi,hj,rfl,rfl,hT,hO,hB⟩:=hrel;have T:=Hh hT;have O:=Hh hO;have B:=Hh hB;have hjn:(i:Int)+j+1=n:=by rw[HN.out];exact hT.2.1
  have hyl:ys.length=n:=by rw[hT.1];exact HN.out.symm
  clear hT hO hB;by_cases hlt:(i:Int)<j
  ·obtain⟨jn,rfl⟩:∃jn:Nat,j=jn:=⟨j.toNat,by omega⟩;obtain⟨g,rfl⟩:=O.out.shape (by omega);have hij:i<jn:=by omega
   have hjl:jn<n:=by omega
   obtain⟨x,hx⟩:∃x,ys[i]?=some x:=⟨_,List.getElem?_eq_getElem (by omega)⟩;obtain⟨y,hy⟩:∃y,ys[jn]?=some y:=⟨_,List.getElem?_eq_getElem (by omega)⟩;have cx:=O.out.cell hx;have cy:=O.out.cell hy;have fx:=O.out.free i;have fy:=O.out.free jn;have TN:=Hh (T.out.next hij hx hy);have ON:=Hh ((O.out.set i y).set jn x);have BN:=Hh ((B.out.setCell (p:=⟨g,i,none⟩) O.out.base (.int .u8 (y.toNat:Int))).setCell (p:=⟨g,jn,none⟩) O.out.base (.int .u8 (x.toNat:Int)));have ne1:¬ i=jn:=by omega
   have ne2:¬ jn=i:=by omega
   have hc0:n≤c:=by have:=O.out.rd.2.1;simp at this;omega
   have hic:i<n:=by omega
   clear hx hy hyl hjn;go_wp2_with fail;go_region;go_wp2_with fail;exact⟨⟨i+1,(jn:Int)-1,_,by omega,by omega,by go_num,rfl,TN.out,ON.out,zaa BN.out 1⟩,by simp[intOf];omega⟩
  ·have F:=Hh (T.out.done hlt);clear hjn hyl;go_wp2;go_end0;exact⟨rfl,by rw[←F.out];exact O.out,B.out⟩
theorem OwB.nil (w:World)(base:Nat):OwB w base (.slice none 0 0) []:=World.ownsRow_nil _ _ _ _
theorem OwB.alloc {w:World}{base:Nat}{v:Value}{bs:List UInt8}(h:OwB w base v bs)(o:Obj):OwB (w.alloc o) base v bs:=World.ownsRow.alloc h o
theorem OwB.lt {w:World}{base:Nat}{v:Value}{bs:List UInt8}(h:OwB w base v bs):∀k,v.ownBlock=some k→base≤k∧k<w.heap.size:=World.ownsRow.lt h
theorem OwB.snoc {w0 w w1:World}{base:Nat}{v v':Value}{bs:List UInt8}{o:Obj}{z:Int}{x:UInt8}(h:OwB w base v bs)(hb:Below base w0 w)(hz:z=(x.toNat:Int))
  (hown:w1.ownsRow base 5 1 v' (bs.length+1) (bs.map u8v++[.int .u8 z])) (hg:(w.alloc o).grownBy w1 v.ownBlock) (hs:base≤w.heap.size):OwB w1 base v' (bs++[x])∧Below base w0 w1:=by
 constructor
 ·unfold OwB;rw[List.length_append,List.map_append];simp only[List.map_cons,List.map_nil,List.length_cons,List.length_nil,Nat.zero_add];subst hz;exact hown
 ·exact(hb.alloc hs o).grown hg (by simp;omega) (fun k hk=>(h.lt k hk).1)
def znE (A:Option Addr)(v:Value):Prop:=∀a k,A=some a→v.ownBlock=some k→a.block≠k
theorem Us.apart {w w1:World}{A:Option Addr}{c:Nat}{xs:List Nat}{v:Value}(h:Us w A c xs)(o:Obj)(hg:(w.alloc o).grownBy w1 v.ownBlock)(ha:znE A v):Us w1 A c xs :=
 ⟨h.1,h.2.1,h.2.2.1,fun hn=>by
  obtain⟨b,off,e,hlt,hc⟩:=h.2.2.2 hn;have hlt2:b<(w.alloc o).heap.size:=by simp;omega
  refine⟨b,off,e,Nat.lt_of_lt_of_le hlt2 hg.size,fun j u hu=>?_⟩;rw[World.cell?_of_block (a:=⟨b,off+j,none⟩) (hg.block b hlt2 (fun e2=>ha _ _ e e2.symm rfl))];exact zaY o (hc j u hu)⟩
theorem znE.next {w:World}{A:Option Addr}{c:Nat}{xs:List Nat}{v v':Value}(h:Us w A c xs)(hx:0<xs.length)(ha:znE A v){m:Nat}(hm:w.heap.size≤m)(hv:v'.ownBlock=v.ownBlock∨v'.ownBlock=some m):znE A v':=by
 intro a k e e2;rcases hv with hv|hv
 ·exact ha a k e (by rw[←hv];exact e2)
 ·obtain⟨b,off,e3,hb⟩:=h.at_ hx
  rw[hv] at e2;cases e2;rw[e] at e3;cases e3;simp only;omega
theorem zeV (len:Nat):4294967296^len≤10^(10*len):=by
 rw[Nat.pow_mul];exact Nat.pow_le_pow_left (by decide) _
theorem zjX {a b n:Nat}(h:10^a≤n)(h2:n<10^b):a<b:=by
 rcases Nat.lt_or_ge a b with h3|h3
 ·exact h3
 ·have:10^b≤10^a:=Nat.pow_le_pow_right (by decide) h3;omega
def zer (n len:Nat)(w:World)(k g:Nat)(A:Option Addr)(c:Nat)(ys:List Nat)(v:Value)(wr:World):Prop :=
 Us wr A c ys∧(k=0∨zaT ys)∧ys.length≤len∧val ys=n / 10^(9*k)∧val ys+ys.length≤g∧OwB wr w.heap.size v (low (9*k) n)∧Below w.heap.size w wr
theorem zer.few {n len k g:Nat}{w wr:World}{A:Option Addr}{c:Nat}{ys:List Nat}{v:Value}(h:zer n len w k g A c ys v wr)(hn:n<4294967296^len)(hy:0<ys.length):9*k≤10*len:=by
 obtain⟨_,h1,_,h2,_⟩:=h;rcases h1 with rfl|h1
 ·omega
 ·have h3:0<val ys:=by
   rcases Nat.eq_zero_or_pos (val ys) with h0|h0
   ·rw[zbh h1 h0] at hy;simp at hy
   ·exact h0
  rw[h2] at h3;have h4:10^(9*k)≤n:=by
   rcases Nat.lt_or_ge n (10^(9*k)) with h5|h5
   ·rw[Nat.div_eq_of_lt h5] at h3;omega
   ·exact h5
  have:=zjX h4 (Nat.lt_of_lt_of_le hn (zeV len));omega
def zcY (n:Nat)(w:World)(k p j:Nat)(A:Option Addr)(c:Nat)(rs:List Nat)(bs:List UInt8)(v:Value)(wr:World):Prop :=
 Us wr A c rs∧(0<rs.length→znE A v)∧OwB wr w.heap.size v bs∧Below w.heap.size w wr∧bs=low (9*k) n++low j p
theorem zcY.len {n k p j c:Nat}{w wr:World}{A:Option Addr}{rs:List Nat}{bs:List UInt8}{v:Value}(h:zcY n w k p j A c rs bs v wr):bs.length=9*k+j:=by
 rw[h.2.2.2.2,List.length_append,zaM,zaM]
theorem zcY.start {n len k g p c0 c:Nat}{w wr w1:World}{A0 A:Option Addr}{ys rs:List Nat}{v:Value}(h:zer n len w k g A0 c0 ys v wr)(b:Below wr.heap.size wr w1)(q:Us w1 A c rs)(hn:∀a,A=some a→wr.heap.size≤a.block):zcY n w k p 0 A c rs (low (9*k) n) v w1:=by
 obtain⟨_,_,_,_,_,h1,h2⟩:=h;refine⟨q,fun _ a k e e2=>?_,OwB.below h1 b,h2.trans (b.mono h2.size),by simp[low]⟩;have:=(h1.lt _ e2).2;have:=hn a e;omega
theorem zcY.next {n k p j c d:Nat}{w wr w1:World}{A:Option Addr}{rs:List Nat}{bs:List UInt8}{v v':Value}{o:Obj}{z:Int}(h:zcY n w k p j A c rs bs v wr)(hd:d=p / 10^j)(hz:z=48+(d:Int)%10)
  (hown:w1.ownsRow w.heap.size 5 1 v' (bs.length+1) (bs.map u8v++[.int .u8 z])) (hg:(wr.alloc o).grownBy w1 v.ownBlock) (hv:v'.ownBlock=v.ownBlock∨v'.ownBlock=some (wr.alloc o).heap.size):zcY n w k p (j+1) A c rs (bs++[dig (d%10)]) v' w1:=by
 obtain⟨h1,h2,h3,h4,h5⟩:=h;obtain⟨g1,g2⟩:=OwB.snoc (x:=dig (d%10)) h3 h4 (by rw[hz,ziQ (Nat.mod_lt _ (by decide))];omega) hown hg h4.size;refine⟨?_,fun hr=>znE.next h1 hr (h2 hr) (by simp) hv,g1,g2,by rw[zgh,←hd,←List.append_assoc,h5]⟩;rcases Nat.eq_zero_or_pos rs.length with h0|h0
 ·exact⟨h1.1,h1.2.1,h1.2.2.1,fun hn=>by simp at hn;omega⟩
 ·exact h1.apart o hg (h2 h0)
theorem zcY.done {n len k g p c0 c:Nat}{w wr w1:World}{A0 A:Option Addr}{ys rs:List Nat}{v v0:Value}(h:zer n len w k g A0 c0 ys v0 wr){bs:List UInt8}(hI:zcY n w k p 9 A c rs bs v w1)(hd:Dig ys)(hk:zaT rs)(hv:val rs=val ys / 1000000000)(hp:p=val ys%1000000000)(hy:0<ys.length) :
  ∃g',g'<g∧zer n len w (k+1) g' A c rs v w1:=by
 obtain⟨_,h1,h2,h3,h4,_,_⟩:=h;have hr:rs.length≤ys.length:=zhp hk (by rw[hv];exact Nat.lt_of_le_of_lt (Nat.div_le_self _ _) (zbt hd));refine⟨val rs+rs.length,?_,hI.1,.inr hk,by omega,?_,Nat.le_refl _,?_,hI.2.2.2.1⟩
 ·rcases Nat.eq_zero_or_pos (val ys) with h0|h0
  ·have:rs=[]:=zbh hk (by rw[hv,h0]);subst this;simp[val];omega
  ·omega
 ·rw[hv,h3,Nat.div_div_eq_div_mul,Nat.mul_add,Nat.mul_one,Nat.pow_add]
 ·have e:low (9*(k+1)) n=low (9*k) n++low 9 p:=by
   rw[Nat.mul_add,Nat.mul_one,Digs.low_add,←h3,hp];congr 1;have:=zpS 9 (val ys%1000000000) (val ys / 1000000000);rw[show(10:Nat)^9=1000000000 from rfl,Nat.mod_add_div] at this;exact this
  rw[e,←hI.2.2.2.2];exact hI.2.2.1
theorem zpX (A:Option Addr)(c:Nat)(xs:List Nat)(w:World)(h:Us w A c xs)(hl:xs.length≤1000) :
  Calls Tryz.prog 91 #[.slice A xs.length c] w fun e w'=>∃B c',e=.returned (.slice B (size (val xs)) c')∧OwB w' w.heap.size (.slice B (size (val xs)) c') (low (size (val xs)) (val xs))∧Below w.heap.size w w':=by
 obtain⟨i0,hi,hz0,hz1,hz2⟩:=info_parts Tryz.info8;obtain⟨n,hn⟩:∃n,n=val xs:=⟨_,rfl⟩;obtain⟨len,hlen⟩:∃len,len=xs.length:=⟨_,rfl⟩;have HN:=Hh (show n<4294967296^len by rw[hn,hlen];exact zbt h.1);have R0:=Hh (show zer n len w 0 (n+len) A c xs (.slice none 0 0) w from⟨h,.inl rfl,by omega,by rw[←hn];simp,by rw[hn,hlen];omega,OwB.nil _ _,Below.refl _ _⟩);have HI:=Hh (And.intro hi (And.intro hz0 (And.intro hz1 hz2)));rw[←hn];have hcap:=h.cap;clear h hi hz0 hz1 hz2 hn;have hl2:len≤1000:=by omega
 clear hlen;go_enter Tryz.func91,Tryz.ntmps91;go_wp2;go_loopg [0,3] (n+len) (fun g av v wr=>∃(k:Nat) (A:Option Addr) (c:Nat) (ys:List Nat),av=.slice A ys.length c∧zer n len w k g A c ys v wr)
 case atStart=>exact⟨0,A,c,xs,rfl,R0.out⟩
 case round =>
  obtain⟨k,A,c,ys,rfl,hR⟩:=hrel;have R:=Hh hR;have hyl:=hR.2.2.1;have hcap:=hR.1.cap;clear hR R0;by_cases hlt:0<ys.length
  ·have hk:=R.out.few HN.out hlt;obtain⟨p,hp⟩:∃p,p=val ys%1000000000:=⟨_,rfl⟩;have hpl:p<1000000000:=by rw[hp];exact Nat.mod_lt _ (by decide)
   have hpz:((val ys:Nat):Int)%1000000000=(p:Int):=by rw[hp];omega
   have HP:=Hh hp;clear hp;go_wp2_with (go_at_call 124;refine(zqC _ _ ys 1000000000 _ R.out.1 (by omega) (by omega) (by omega)).mono ?_;rintro e w1 ⟨A1,c1,r1,rfl,q1,k1,v1,b1,n1⟩;rw[←HP.out];have Q:=Hh (And.intro q1 (And.intro k1 (And.intro v1 (And.intro b1 n1))));clear q1 k1 v1 b1 n1);have I0:=Hh (zcY.start (p:=p) R.out Q.out.2.2.2.1 Q.out.1 Q.out.2.2.2.2);clear hpz;go_loopw [3,4,13] (fun v pv jv wr2=>∃(j:Nat) (bs:List UInt8),j≤9∧pv=.int .u32 ((p / 10^j:Nat):Int)∧jv=.int .i64 j∧zcY n w k p j A1 c1 r1 bs v wr2) (fun _ _ jv _=>9-(intOf jv).toNat)
   case atStart=>exact⟨0,_,by omega,by simp,rfl,I0.out⟩
   case round =>
    obtain⟨j,bs,hj,rfl,rfl,hI⟩:=hrel;have I:=Hh hI;have hbs:=hI.2.2.2.1.size;have hbl:bs.length≤20000:=by have:=hI.len;omega
    clear hI I0;by_cases hj9:j<9
    ·obtain⟨d,hd⟩:∃d,d=p / 10^j:=⟨_,rfl⟩;have hdl:d<1000000000:=by rw[hd];exact Nat.lt_of_le_of_lt (Nat.div_le_self _ _) hpl
     have HD2:=Hh (show d / 10=p / 10^(j+1) by rw[hd,Nat.div_div_eq_div_mul,Nat.pow_succ]);rw[←hd];have HD:=Hh hd;clear hd;go_wp2_with (at_builtin;go_loud (refine wpList_append_own_at _ rfl _ _ 75 rfl w.heap.size 5 i0 (.int .u8 0) 1 1 Tryz.underlying75 HI.out.1 HI.out.2.1 HI.out.2.2.1 HI.out.2.2.2 rfl (by decide) _ _ _ rfl (I.out.2.2.1.alloc _) ⟨_,0,none⟩ 1 1 [.int .u8 (48+(d:Int)%10)] rfl rfl (cell_one_new _ _ _) (by simp[Value.oneCell']) (by simp only[maxLen];omega) (by omega) (by simp;omega) ?_;intro v2 w2 own2 grow2 _ at2));go_roundw
     case rel=>exact⟨j+1,_,by omega,by rw[←HD2.out];go_num,by go_num,zcY.next I.out HD.out rfl own2 grow2 at2⟩
     case measure=>simp[intOf];omega
    ·obtain rfl:j=9:=by omega
     obtain⟨g',hg,hR⟩:=zcY.done R.out I.out R.out.1.1 Q.out.2.1 Q.out.2.2.1 HP.out hlt;have RN:=Hh hR;clear hR;go_wp2;go_roundg g'
     case measure=>exact hg
     case rel=>exact⟨k+1,A1,c1,r1,rfl,RN.out⟩
  ·have hy0:ys=[]:=List.eq_nil_of_length_eq_zero (by omega);obtain⟨hB,hO⟩:=R.out.2.2.2.2.2.symm;have hv:=R.out.2.2.2.1;rw[hy0] at hv;have hz:n<10^(9*k):=by
    rcases Nat.lt_or_ge n (10^(9*k)) with h|h
    ·exact h
    ·have:=Nat.div_pos h (Nat.pow_pos (by decide));simp[val] at hv;omega
   obtain⟨B,c9,hvs⟩:=zcO hO;subst hvs;have e:=zrS hz;have sl:=zgU hz;have T:=Hh (zpW B c9 (size n) (low (9*k) n) wr hO.rd.2 (by rw[zaM];exact sl) (fun j h1 h2=>by
    rw[zaM] at h2;rw[e,List.getElem?_append_right (by rw[zaM];exact h1),zaM,List.getElem?_replicate,if_pos (by omega)]) (fun j hj=>by
    have hp:0<n:=by
     rcases Nat.eq_zero_or_pos n with h0|h0
     ·rw[h0,zct] at hj;omega
     ·exact h0
    obtain⟨r,d,h1,h2,h3⟩:=zrT hp;have hl:(low (size n) n).length=r.length+1:=by rw[h1];simp
    rw[zaM] at hl;rw[e,h1,List.append_assoc,List.getElem?_append_right (by omega),show j-r.length=0 by omega];simp;intro e2;have:=zuh h3 (by decide) (show dig d=dig 0 from e2);omega))
   have O:=Hh (show OwB wr w.heap.size (.slice B (size n) c9) (low (size n) n) by
    have h1:=OwB.take hO (k:=size n) (by rw[zaM];exact sl)
    rwa [e,List.take_left' (zaM _ _)] at h1)
   have BB:=Hh hB;obtain⟨m,hm⟩:∃m,m=(low (9*k) n).length:=⟨_,rfl⟩;rw[←hm] at T ⊢;clear e sl hv hz hO hB hy0 hyl R hm;go_wp2_with (go_at_call 125;go_loud (refine T.out.mono ?_;rintro e w1 ⟨rfl,rfl⟩));go_ret;exact⟨B,c9,rfl,O.out,BB.out⟩
theorem zhP (b o j:Nat):(⟨b,o,none⟩:Addr).add j=⟨b,o+j,none⟩:=by unfold Addr.add;split <;> simp_all
theorem zrU {w:World}{base n c:Nat}{A:Option Addr}{bs:List UInt8}(h:OwB w base (.slice A n c) bs):(convert 75 9 (.slice A n c)).run Tryz.prog w=.ok (.string ⟨bs.toArray⟩) w:=by
 obtain⟨rfl,hr⟩:=h.rd;rcases Nat.eq_zero_or_pos bs.length with h0|h0
 ·have e:bs=[]:=List.eq_nil_of_length_eq_zero h0;subst e;cases A with
  | none=>exact run_convert_bytes_nil w 75 5 Tryz.underlying75 Tryz.underlying5 _ _ _ Tryz.underlying9
  | some a=>exact run_convert_bytes_back w _ _ 5 a c [] Tryz.underlying75 Tryz.underlying5 Tryz.underlying9 (fun j hj=>by simp at hj)
 ·obtain⟨b,off,rfl,hb,hc⟩:=hr.2.2 (by simpa using h0);refine run_convert_bytes_back w _ _ 5 _ c bs Tryz.underlying75 Tryz.underlying5 Tryz.underlying9 (fun j hj=>?_);rw[zhP];exact hc j _ (by rw[List.getElem?_map,List.getElem?_eq_getElem hj];rfl)
def zvw (l:List UInt8)(w:World)(e:Ending)(w':World):Prop:=e=.returned (.string ⟨l.toArray⟩)∧Below w.heap.size w w'
theorem zrV {n len:Nat}(h:n<4294967296^len):size n≤10*len:=zgU (Nat.lt_of_lt_of_le h (zeV len))
theorem zmu (s:Bool)(A:Option Addr)(c:Nat)(xs:List Nat)(w:World)(h:Us w A c xs)(hl:xs.length≤1000) :
  Calls Tryz.prog 50 #[.agg #[.bool s,.slice A xs.length c]] w (zvw (text s (val xs)) w):=by
 obtain⟨i0,hi,hz0,hz1,hz2⟩:=info_parts Tryz.info8;obtain⟨n,hn⟩:∃n,n=val xs:=⟨_,rfl⟩;have hcap:=h.cap;have H:=Hh (h.below ((Below.refl w.heap.size w).alloc (Nat.le_refl _) (.cells #[.bool s,.slice A xs.length c] 48)));have b0:=(Below.refl w.heap.size w).alloc (Nat.le_refl _) (.cells #[.bool s,.slice A xs.length c] 48);have C:=zpX A c xs _ H.out hl;obtain⟨hX,_⟩:=box1 w (.bool s) (.slice A xs.length c) 48;have HX:=Hh hX;rw[←hn] at C ⊢;have hm0:=zrV (n:=n) (by rw[hn];exact zbt h.1);have hs0:n=0→size n=0:=fun e=>by rw[e,zct]
 have hs1:0<n→0<size n:=fun e=>by rw[zeT e];omega
 have HT:∀r,r=(if s then (if n=0 then low (size n) n++[48] else low (size n) n)++[45] else (if n=0 then low (size n) n++[48] else low (size n) n)).reverse→r=text s n:=fun r hr=>by
  subst hr;unfold text digs;cases s
  ·by_cases h0:n=0
   ·simp[h0,zct,low]
   ·simp[h0]
  ·by_cases h0:n=0
   ·simp[h0,zct,low]
   ·simp[h0]
 obtain⟨r,hr⟩:∃r,r=text s n:=⟨_,rfl⟩;rw[←hr];have hLl:=zaM (size n) n;generalize low (size n) n=L at *;generalize size n=m at *;have HC:=Hh C;have HI:=Hh (And.intro hi (And.intro hz0 (And.intro hz1 hz2)));have HB:=Hh b0;have HTT:=Hh (And.intro HT hr);have HLL:=Hh hLl;have hL2:L.length≤10000:=by omega
 have tok0:True:=trivial;obtain⟨B0,hB0⟩:∃B0,B0=(w.alloc (.cells #[.bool s,.slice A xs.length c] 48)).heap.size:=⟨_,rfl⟩;rw[←hB0] at HC;have HB0:=Hh hB0;clear C h hi hz0 hz1 hz2 hn hX b0 HT hr hLl H hB0;rcases Nat.eq_zero_or_pos n with h0|h0 <;> cases s
 all_goals
  first
   | (have hm:=hs0 h0;clear hs0 hs1;subst h0;have hL0:L=[]:=List.eq_nil_of_length_eq_zero (by rw[HLL.out];exact hm);subst hL0;subst hm)
   | (have hm:=hs1 h0;clear hs0 hs1;have h1:¬ n=0:=by omega)
  obtain⟨x1,x2,x3,x4,x5⟩:=HX.out;go_enter Tryz.func50,Tryz.ntmps50;go_wp2_with (first
   | (go_at_call 91;go_loud (refine HC.out.mono ?_;rintro e w1 ⟨B,c9,rfl,hO,hb⟩;clear x3 x4 x5;obtain⟨x1,x2,_,_,_⟩:=HX.out.below (hb.mono (by rw[HB0.out];simp));have O:=Hh (And.intro hO (And.intro hb (by have:=hb.size;rw[←HB0.out] at this;exact this)));clear hO hb))
   | (at_builtin;go_loud (refine wpList_append_own_at _ rfl _ _ 75 rfl B0 5 i0 (.int .u8 0) 1 1 Tryz.underlying75 HI.out.1 HI.out.2.1 HI.out.2.2.1 HI.out.2.2.2 rfl (by decide) _ _ _ rfl (O.out.1.alloc _) ⟨_,0,none⟩ 1 1 [.int .u8 _] rfl rfl (cell_one_new _ _ _) (by simp[Value.oneCell']) (by simp only[maxLen];(try simp);(try omega)) (by(try simp);(try omega)) (by have:=O.out.2.2;simp;omega) ?_;intro v2 w2 own2 grow2 _ at2;(first|(have q:=OwB.snoc (x:=48) O.out.1 O.out.2.1 rfl own2 grow2 O.out.2.2)|(have q:=OwB.snoc (x:=45) O.out.1 O.out.2.1 rfl own2 grow2 O.out.2.2));obtain⟨A3,c3,hv3⟩:=zcO own2;subst hv3;have hs2:=Nat.le_trans O.out.2.2 (Nat.le_trans (Nat.le_succ _) (by have:=grow2.size;simpa using this));clear own2 grow2 at2;obtain⟨x1,x2,_,_,_⟩:=HX.out.below (q.2.mono (by rw[HB0.out];simp));have O:=Hh (And.intro q.1 (And.intro q.2 hs2));clear q hs2))
   | (go_at_call 92;go_loud (refine(zlf _ _ _ B0 _ _ O.out.1 (by(try simp);(try omega))).mono ?_;rintro e w5 ⟨rfl,hO,hb⟩;have hcv:=zrU hO;(try simp only[List.length_nil,List.length_append,List.length_cons,List.nil_append,Nat.zero_add,Nat.reduceAdd] at hcv);have hb2:=Hh (O.out.2.1.trans hb);clear hO hb;obtain⟨x1,x2,_,_,_⟩:=HX.out.below (hb2.out.mono (by rw[HB0.out];simp)))))
  go_ret;refine⟨?_,HB.out.trans (hb2.out.mono (by rw[HB0.out];simp))⟩;have e:=HTT.out.1 _ rfl;rw[HTT.out.2,←e];simp[*]
theorem zui {r:List Nat}(h:((r.length:Int)==0)=true):r=[]:=List.eq_nil_of_length_eq_zero (by simpa using h)
theorem zuj {r:List Nat}(h:((r.length:Int)==0)=false):0<r.length:=by
 have:r≠[]:=by simpa using h
 exact List.length_pos_iff.2 this
theorem zvx {t:ByteArray}{l:List UInt8}(h:t.data.toList=l):t=⟨l.toArray⟩:=by
 subst h;cases t;rfl
theorem zgW (a b:ByteArray):(a++b).data.toList=a.data.toList++b.data.toList:=by simp
theorem zrW {z:Int}{x:UInt8}(hz:z=(x.toNat:Int))(W:World):(convert 75 9 (.slice (some ⟨W.heap.size,0,none⟩) 1 1)).run Tryz.prog (W.alloc (.cells #[.int .u8 z] 5))=.ok (.string ⟨#[x]⟩) (W.alloc (.cells #[.int .u8 z] 5)):=by
 subst hz;refine run_convert_bytes_back (P:=Tryz.prog) (W.alloc (.cells #[.int .u8 (x.toNat:Int)] 5)) _ _ 5 ⟨W.heap.size,0,none⟩ 1 [x] Tryz.underlying75 Tryz.underlying5 Tryz.underlying9 (fun j hj=>?_);simp only[List.length_cons,List.length_nil] at hj;obtain rfl:j=0:=by omega
 rw[zhP];exact(zaU W (.int .u8 (x.toNat:Int)) 5).1
def zbD (n len:Nat)(w:World)(k g:Nat)(A:Option Addr)(c:Nat)(ys:List Nat)(t:ByteArray)(wr:World):Prop :=
 Us wr A c ys∧ys.length≤len∧(k=0∨10^k≤n)∧val ys=n / 10^k∧val ys≤g∧t.data.toList=(low k n).reverse∧Below w.heap.size w wr
theorem zbD.few {n len k g c:Nat}{w wr:World}{A:Option Addr}{ys:List Nat}{t:ByteArray}(h:zbD n len w k g A c ys t wr)(hn:n<4294967296^len):t.size≤10*len:=by
 have h1:t.size=k:=by rw[←zvv,h.2.2.2.2.2.1,List.length_reverse,zaM]
 rcases h.2.2.1 with h2|h2
 ·omega
 ·have:=zjX h2 (Nat.lt_of_lt_of_le hn (zeV len));omega
theorem zbD.next {n len k g c c1 d:Nat}{w wr w1 w2:World}{A A1:Option Addr}{ys rs:List Nat}{t:ByteArray}(h:zbD n len w k g A c ys t wr)(hl:Dig ys)(q:Us w1 A1 c1 rs)(hk:zaT rs)(hv:val rs=val ys / 10)(hd:d=val ys%10)(b:Below wr.heap.size wr w1)(b2:Below w1.heap.size w1 w2)(hr:0<rs.length) :
  ∃g',g'<g∧zbD n len w (k+1) g' A1 c1 rs (⟨#[dig d]⟩++t) w2:=by
 obtain⟨_,h1,h2,h3,h4,h5,h6⟩:=h;have hp:0<val rs:=by
  rcases Nat.eq_zero_or_pos (val rs) with h0|h0
  ·rw[zbh hk h0] at hr;simp at hr
  ·exact h0
 have hb:=h6.trans (b.mono h6.size);refine⟨val rs,by omega,q.below b2,?_,.inr ?_,?_,Nat.le_refl _,?_,hb.trans (b2.mono hb.size)⟩
 ·have:rs.length≤ys.length:=zhp hk (by rw[hv];exact Nat.lt_of_le_of_lt (Nat.div_le_self _ _) (zbt hl));omega
 ·rw[hv,h3,Nat.div_div_eq_div_mul,←Nat.pow_succ] at hp;rcases Nat.lt_or_ge n (10^(k+1)) with h7|h7
  ·rw[Nat.div_eq_of_lt h7] at hp;omega
  ·exact h7
 ·rw[hv,h3,Nat.div_div_eq_div_mul,←Nat.pow_succ]
 ·rw[zgW,h5,zgh,←h3,←hd];simp
theorem zbD.last {n len k g c d:Nat}{w wr:World}{A:Option Addr}{ys rs:List Nat}{t:ByteArray}(h:zbD n len w k g A c ys t wr)(hv:val rs=val ys / 10)(hd:d=val ys%10)(hr:rs=[]) :
  (⟨#[dig d]⟩++t).data.toList=digs n:=by
 obtain⟨_,h1,h2,h3,h4,h5,h6⟩:=h;subst hr;have hz:n<10^(k+1):=by
  rw[h3,Nat.div_div_eq_div_mul,←Nat.pow_succ] at hv;rcases Nat.lt_or_ge n (10^(k+1)) with h7|h7
  ·exact h7
  ·have:=Nat.div_pos h7 (Nat.pow_pos (by decide));simp[val] at hv;omega
 have e:(⟨#[dig d]⟩++t).data.toList=(low (k+1) n).reverse:=by
  rw[zgW,h5,zgh,←h3,←hd];simp
 rw[e];unfold digs;by_cases h0:n=0
 ·subst h0;have:k=0:=by
   rcases h2 with h2|h2
   ·exact h2
   ·have:=Nat.pow_pos (n:=k) (show 0<10 by decide);omega
  subst this;rfl
 ·rw[if_neg h0];have:size n=k+1:=by
   rcases h2 with h2|h2
   ·subst h2;exact zpU hz (by simp;omega)
   ·exact zpU hz h2
  rw[this]
theorem zdE (s:Bool)(A:Option Addr)(c:Nat)(xs:List Nat)(w:World)(h:Us w A c xs)(hl:xs.length≤1000) :
    Calls Tryz.prog 52 #[.agg #[.bool s,.slice A xs.length c]] w (zvw (text s (val xs)) w):=by
  obtain⟨n,hn⟩:∃n,n=val xs:=⟨_,rfl⟩;obtain⟨len,hlen⟩:∃len,len=xs.length:=⟨_,rfl⟩;have hcap:=h.cap;have HN:=Hh (show n<4294967296^len by rw[hn,hlen];exact zbt h.1);obtain⟨hX,hB⟩:=box1 w (.bool s) (.slice A xs.length c) 48;have HX:=Hh hX;have HB:=Hh hB;have R0:=Hh (show zbD n len w 0 n A c xs ⟨#[]⟩ (w.alloc (.cells #[.bool s,.slice A xs.length c] 48)) from⟨h.below hB,by omega,.inl rfl,by rw[←hn];simp,by omega,by simp[low],hB⟩);obtain⟨x1,x2,x3,x4,x5⟩:=hX;rw[←hn];have hl2:len≤1000:=by omega
  clear h hn hlen hB;go_enter Tryz.func52,Tryz.ntmps52;go_wp2;go_loopg [3,4] n (fun g sv lv wr=>∃(k:Nat) (A1:Option Addr) (c1:Nat) (ys:List Nat) (t:ByteArray),sv=.string t∧lv=.slice A1 ys.length c1∧zbD n len w k g A1 c1 ys t wr∧Box wr w.heap.size (.bool s) (.slice A xs.length c))
  case atStart=>exact⟨0,A,c,xs,_,rfl,rfl,R0.out,HX.out⟩
  case round =>
    obtain⟨k,A1,c1,ys,t,rfl,rfl,hR,hBx⟩:=hrel;have R:=Hh hR;have BX:=Hh hBx;have hyl:=hR.2.1;have ht:=hR.few HN.out;have hcap1:=hR.1.cap;clear hR R0 hBx x1 x2 x3 x4 x5;obtain⟨d,hd⟩:∃d,d=val ys%10:=⟨_,rfl⟩;have hdl:d<10:=by rw[hd];exact Nat.mod_lt _ (by decide)
    have HD:=Hh hd;have hcv:=zrW (z:=48+(d:Int)) (x:=dig d) (by rw[ziQ hdl];omega);have hsz:(⟨#[dig d]⟩:ByteArray).size=1:=rfl;clear hd;go_wp2_with (go_at_call 93;go_loud (refine(zqG _ _ ys 10 _ R.out.1 (by omega) (by omega) (by omega)).mono ?_;rintro e w1 ⟨A2,c2,r2,rfl,q2,k2,v2,b2⟩;rw[←HD.out];have hcap2:=q2.cap;obtain⟨x1,x2,_,_,_⟩:=BX.out.below b2;have Q:=Hh (And.intro q2 (And.intro k2 (And.intro v2 b2)));clear q2 k2 v2 b2))
    all_goals
      first
        | (have hr0:r2=[]:=zui (by assumption)
           have L:=zbD.last R.out Q.out.2.2.1 HD.out hr0;go_ret;refine⟨?_,?_⟩
           · first
               | (have hs:s=true:=by assumption
                  subst hs;show Ending.returned (.string (⟨#[45]⟩++(⟨#[dig d]⟩++t)))=_;rw[zvx (t:=⟨#[45]⟩++(⟨#[dig d]⟩++t)) (l:=text true n) (by rw[zgW,L];rfl)])
               | (have hs:s=false:=by assumption
                  subst hs;show Ending.returned (.string (⟨#[dig d]⟩++t))=_;rw[zvx L];rfl)
           · have hb:=R.out.2.2.2.2.2.2
             have hb1:=hb.trans (Q.out.2.2.2.mono hb.size);exact hb1.alloc hb1.size _)
        | (have hr0:0<r2.length:=zuj (by assumption)
           obtain⟨g',hg,hR⟩:=zbD.next R.out R.out.1.1 Q.out.1 Q.out.2.1 Q.out.2.2.1 HD.out Q.out.2.2.2 ((Below.refl w1.heap.size w1).alloc (Nat.le_refl _) (.cells #[.int .u8 (48+(d:Int))] 5)) hr0;have RN:=Hh hR;clear hR;go_roundg g'
           case measure=>exact hg
           case rel=>exact⟨k+1,A2,c2,r2,_,rfl,rfl,RN.out,(BX.out.below Q.out.2.2.2).alloc _⟩)
end Go.Proofs.YtcippfaljoagaaaGreatDoor

namespace Go.Proofs.YtcippfaljoagaaaGreatDoor
open Go.RowKit
def Ke (b:Nat)(w w':World):Prop:=Below b w w'∧Lib.OthersKept 5 (some b) w w'
theorem Ke.refl (b:Nat)(w:World):Ke b w w:=⟨Below.refl _ _,Lib.OthersKept.refl _ _ _⟩
theorem Ke.trans {b:Nat}{w w1 w2:World}(h:Ke b w w1)(k:Ke b w1 w2):Ke b w w2:=⟨h.1.trans k.1,h.2.trans k.2⟩
theorem zmv:(Tryz.prog.info? 5).map (fun i=>(i.zero,i.size,i.bytes))=some (some (.int .u8 0),1,1):=by kernel_rfl
theorem zmw:(Tryz.prog.info? 77).map (·.size)=some 2:=by kernel_rfl
theorem ziR (b:Nat)(w:World)(h0:w.cell? ⟨b,0,none⟩=some (.pointer (some ⟨b,0,none⟩))) :
  Calls Tryz.prog 122 #[.pointer (some ⟨b,0,none⟩)] w fun e w'=>e=.returned (.tuple #[])∧w'=w:=by
 obtain⟨j,hj,-⟩:=Option.map_eq_some_iff.1 zmw;go_enter Tryz.func122,Tryz.ntmps122;go_wp2;rw[Lib.run_neq_ptr_same w _ Tryz.underlying74 hj];go_wp2;go_end0;exact⟨rfl,rfl⟩
end Go.Proofs.YtcippfaljoagaaaGreatDoor
