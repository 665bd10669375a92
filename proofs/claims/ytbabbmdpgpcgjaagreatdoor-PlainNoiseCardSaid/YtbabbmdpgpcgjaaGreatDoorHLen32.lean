import Derived.Test.YtbabbmdpgpcgjaaGreatDoorRows
import Derived.Lib.Strings
import Derived.Lib.Slices
import Derived.Lib.Small
import Derived.Lib.Walk
import Derived.Lib.BitFns

set_option linter.unusedVariables false
set_option linter.unusedSimpArgs false
set_option maxRecDepth 100000
set_option maxHeartbeats 6400000
namespace Go.Proofs.YtbabbmdpgpcgjaaGreatDoor.Num
def val:List Nat→Nat
 | []=>0
 | x :: r=>x+4294967296*val r
def Dig (xs:List Nat):Prop:=∀x∈xs,x<4294967296
def zaS (xs:List Nat):Prop:=xs.getLast?≠some 0
def bval:List Bool→Nat
 | []=>0
 | b :: r=>b.toNat+2*bval r
def zbn (bs:List Bool):Prop:=bs.getLast?≠some false
theorem Dig.nil:Dig []:=fun _ h=>by cases h
theorem Dig.cons {x:Nat}{r:List Nat}(h:x<4294967296)(k:Dig r):Dig (x :: r):=fun y hy=>by
 rcases List.mem_cons.1 hy with rfl|hy
 ·exact h
 ·exact k y hy
theorem Dig.head {x:Nat}{r:List Nat}(h:Dig (x :: r)):x<4294967296:=h x (by simp)
theorem Dig.tail {x:Nat}{r:List Nat}(h:Dig (x :: r)):Dig r:=fun y hy=>h y (by simp[hy])
theorem Dig.append {xs ys:List Nat}(h:Dig xs)(k:Dig ys):Dig (xs++ys):=fun y hy=>by
 rcases List.mem_append.1 hy with hy|hy
 ·exact h y hy
 ·exact k y hy
theorem Dig.take {xs:List Nat}(h:Dig xs)(k:Nat):Dig (xs.take k):=fun y hy=>h y (List.mem_of_mem_take hy)
theorem Dig.getD {xs:List Nat}(h:Dig xs)(k:Nat):xs[k]?.getD 0<4294967296:=by
 rcases Nat.lt_or_ge k xs.length with hk|hk
 ·rw[List.getElem?_eq_getElem hk];exact h _ (List.getElem_mem hk)
 ·rw[List.getElem?_eq_none hk]
  decide
theorem Dig.set {xs:List Nat}(h:Dig xs)(k:Nat){u:Nat}(hu:u<4294967296):Dig (xs.set k u):=fun y hy=>by
 rcases List.mem_or_eq_of_mem_set hy with hy|rfl
 ·exact h y hy
 ·exact hu
theorem Dig.replicate (n:Nat):Dig (List.replicate n 0):=fun y hy=>by
 rw[(List.mem_replicate.1 hy).2]
 decide
theorem zdT:∀(xs ys:List Nat),val (xs++ys)=val xs+4294967296^xs.length*val ys
 | [],ys=>by simp[val]
 | x :: r,ys=>by
  simp only[List.cons_append,val,zdT r ys,List.length_cons,Nat.pow_succ];rw[Nat.mul_add,Nat.mul_comm (4294967296^r.length) 4294967296,Nat.mul_assoc];omega
theorem zcl:∀{xs:List Nat},Dig xs→val xs<4294967296^xs.length
 | [],_=>by simp[val]
 | x :: r,h=>by
  have h1:=zcl h.tail;have h2:=h.head;simp only[val,List.length_cons,Nat.pow_succ];omega
theorem zmK (n:Nat):val (List.replicate n 0)=0:=by
 induction n with
 | zero=>rfl
 | succ n ih=>simp[List.replicate_succ,val,ih]
theorem zjU {xs:List Nat}{k:Nat}(hk:k<xs.length):xs.take (k+1)=xs.take k++[xs[k]?.getD 0]:=by
 rw[List.take_succ_eq_append_getElem hk,List.getElem?_eq_getElem hk];rfl
theorem zbB {xs:List Nat}{k:Nat}(hk:k<xs.length):val (xs.take (k+1))=val (xs.take k)+4294967296^k*xs[k]?.getD 0:=by
 rw[zjU hk,zdT,List.length_take,Nat.min_eq_left (by omega)];simp[val]
theorem zdU {xs:List Nat}{k:Nat}(hk:k<xs.length):val (xs.drop k)=xs[k]?.getD 0+4294967296*val (xs.drop (k+1)):=by
 rw[List.drop_eq_getElem_cons hk,List.getElem?_eq_getElem hk];rfl
theorem zcN (xs:List Nat)(k:Nat)(hk:k≤xs.length):val xs=val (xs.take k)+4294967296^k*val (xs.drop k):=by
 have h:=zdT (xs.take k) (xs.drop k);rw[List.take_append_drop,List.length_take,Nat.min_eq_left hk] at h;exact h
theorem zbe:zaS []:=by simp[zaS]
theorem zaS.tail {x:Nat}{r:List Nat}(h:zaS (x :: r)):zaS r:=by
 cases r with
 | nil=>exact zbe
 | cons y t=>simpa [zaS,List.getLast?_cons_cons] using h
theorem zbw:∀{xs:List Nat},zaS xs→val xs=0→xs=[]
 | [],_,_=>rfl
 | x :: r,h,hv=>by
  simp only[val] at hv;have hr:=zbw h.tail (by omega);subst hr;have:x=0:=by omega
  subst this;simp[zaS] at h
theorem zeC:∀{xs:List Nat},zaS xs→xs≠[]→4294967296^(xs.length-1)≤val xs
 | [],_,h=>absurd rfl h
 | [x],h,_=>by
  have:x≠0:=by intro e;subst e;simp[zaS] at h
  simp[val];omega
 | x :: y :: r,h,_=>by
  have h1:=zeC h.tail (by simp);simp only[List.length_cons,Nat.add_sub_cancel,val] at h1 ⊢;rw[Nat.pow_succ];omega
theorem zmL {xs:List Nat}{m:Nat}(h:zaS xs)(hv:val xs<4294967296^m):xs.length≤m:=by
 rcases Nat.lt_or_ge m xs.length with hm|hm
 ·have h1:=zeC h (by intro e;subst e;simp at hm);have h2:4294967296^m≤4294967296^(xs.length-1):=Nat.pow_le_pow_right (by decide) (by omega);omega
 ·exact hm
theorem zlt {xs:List Nat}{k:Nat}(hk:k≤xs.length)(hz:∀j,k≤j→j<xs.length→xs[j]?.getD 0=0):val (xs.take k)=val xs:=by
 have h0:∀(n:Nat) (ys:List Nat),ys.length=n→(∀j,j<ys.length→ys[j]?.getD 0=0)→val ys=0:=by
  intro n
  induction n with
  | zero=>intro ys hl _;rw[List.eq_nil_of_length_eq_zero hl];rfl
  | succ n ih =>
   intro ys hl hy;cases ys with
   | nil=>rfl
   | cons y r =>
    have h1:=hy 0 (by simp);simp at h1;have h2:=ih r (by simpa using hl) (fun j hj=>by simpa using hy (j+1) (by simpa using hj));simp[val,h1,h2]
 have:=zcN xs k hk;rw[h0 _ (xs.drop k) rfl (fun j hj=>by rw[List.getElem?_drop];exact hz _ (by omega) (by rw[List.length_drop] at hj;omega))] at this;omega
theorem zhX {xs:List Nat}{k:Nat}(hk:k<xs.length)(hn:xs[k]?.getD 0≠0):zaS (xs.take (k+1)):=by
 rw[zjU hk];simpa [zaS] using hn
-- bits
theorem zbq:∀(xs ys:List Bool),bval (xs++ys)=bval xs+2^xs.length*bval ys
 | [],ys=>by simp[bval]
 | x :: r,ys=>by
  simp only[List.cons_append,bval,zbq r ys,List.length_cons,Nat.pow_succ];rw[Nat.mul_add,Nat.mul_comm (2^r.length) 2,Nat.mul_assoc];omega
theorem zes:∀(xs:List Bool),bval xs<2^xs.length
 | []=>by simp[bval]
 | x :: r=>by
  have h1:=zes r;have h2:x.toNat≤1:=Bool.toNat_le x;simp only[bval,List.length_cons,Nat.pow_succ];omega
theorem znQ (n:Nat):bval (List.replicate n false)=0:=by
 induction n with
 | zero=>rfl
 | succ n ih=>simp[List.replicate_succ,bval,ih]
theorem zhY {xs:List Bool}{k:Nat}(hk:k<xs.length):xs.take (k+1)=xs.take k++[xs[k]?.getD false]:=by
 rw[List.take_succ_eq_append_getElem hk,List.getElem?_eq_getElem hk];rfl
theorem zcG {xs:List Bool}{k:Nat}(hk:k<xs.length):bval (xs.take (k+1))=bval (xs.take k)+2^k*(xs[k]?.getD false).toNat:=by
 rw[zhY hk,zbq,List.length_take,Nat.min_eq_left (by omega)];simp[bval]
theorem zhZ (xs:List Bool)(k:Nat)(hk:k≤xs.length):bval xs=bval (xs.take k)+2^k*bval (xs.drop k):=by
 have h:=zbq (xs.take k) (xs.drop k);rw[List.take_append_drop,List.length_take,Nat.min_eq_left hk] at h;exact h
theorem zaT:∀(xs:List Bool) (i:Nat),(bval xs).testBit i=xs[i]?.getD false
 | [],i=>by simp[bval]
 | x :: r,0=>by
  cases x <;> simp[bval,Nat.testBit_zero]
 | x :: r,i+1=>by
  have:(x.toNat+2*bval r) / 2=bval r:=by have:=Bool.toNat_le x;omega
  simp only[bval,Nat.testBit_succ,this,zaT r i,List.getElem?_cons_succ]
theorem zsB {xs:List Bool}{k:Nat}(hk:k<xs.length)(hz:xs[k]?.getD false=false):bval (xs.take (k+1))=bval (xs.take k):=by
 rw[zcG hk,hz];simp
theorem zgy:∀{xs:List Bool},zbn xs→bval xs=0→xs=[]
 | [],_,_=>rfl
 | [x],h,hv=>by
  cases x
  ·simp[zbn] at h
  ·simp[bval] at hv
 | x :: y :: r,h,hv=>by
  have h':zbn (y :: r):=by simpa [zbn,List.getLast?_cons_cons] using h
  simp only[bval] at hv;have:=zgy h' (by simp only[bval];omega);simp at this
theorem zbn.tail {x:Bool}{r:List Bool}(h:zbn (x :: r)):zbn r:=by
 cases r with
 | nil=>simp[zbn]
 | cons y t=>simpa [zbn,List.getLast?_cons_cons] using h
theorem zjV:∀{xs:List Bool},zbn xs→xs≠[]→2^(xs.length-1)≤bval xs
 | [],_,h=>absurd rfl h
 | [x],h,_=>by
  cases x
  ·simp[zbn] at h
  ·simp[bval]
 | x :: y :: r,h,_=>by
  have h1:=zjV h.tail (by simp);simp only[List.length_cons,Nat.add_sub_cancel,bval] at h1 ⊢;rw[Nat.pow_succ];omega
theorem zvA {xs:List Bool}{m:Nat}(h:zbn xs)(hv:bval xs<2^m):xs.length≤m:=by
 rcases Nat.lt_or_ge m xs.length with hm|hm
 ·have h1:=zjV h (by intro e;subst e;simp at hm);have h2:2^m≤2^(xs.length-1):=Nat.pow_le_pow_right (by decide) (by omega);omega
 ·exact hm
def blen (n:Nat):Nat:=if n=0 then 0 else Nat.log2 n+1
theorem zgz (n:Nat):n<2^blen n:=by
 unfold blen;by_cases h:n=0
 ·simp[h]
 ·simp only[h,if_false];exact Nat.lt_log2_self
theorem zgA {n:Nat}(h:n≠0):2^(blen n-1)≤n:=by
 unfold blen;simp only[h,if_false,Nat.add_sub_cancel];exact Nat.log2_self_le h
theorem zpp {n m:Nat}(h1:n<2^m)(h2:m=0∨2^(m-1)≤n):blen n=m:=by
 by_cases h:n=0
 ·subst h;rcases h2 with rfl|h2
  ·rfl
  ·have:=Nat.two_pow_pos (m-1);omega
 ·have a:=zgz n;have b:=zgA h;have hb:0<blen n:=by unfold blen;simp[h]
  rcases Nat.lt_trichotomy (blen n) m with hlt|he|hgt
  ·rcases h2 with rfl|h2
   ·omega
   ·have:2^blen n≤2^(m-1):=Nat.pow_le_pow_right (by decide) (by omega);omega
  ·exact he
  ·have:2^m≤2^(blen n-1):=Nat.pow_le_pow_right (by decide) (by omega);omega
theorem ziP {x k:Nat}(h:2^k≤x):blen x=k+blen (x / 2^k):=by
 have hp:=Nat.two_pow_pos k;have hq:x / 2^k≠0:=Nat.ne_of_gt (Nat.div_pos h hp);have a:=zgz (x / 2^k);have b:=zgA hq;have hb:0<blen (x / 2^k):=by unfold blen;simp[hq]
 refine zpp ?_ (.inr ?_)
 ·rw[Nat.pow_add,Nat.mul_comm];exact(Nat.div_lt_iff_lt_mul hp).1 a
 ·rw[show k+blen (x / 2^k)-1=(blen (x / 2^k)-1)+k from by omega,Nat.pow_add];exact(Nat.le_div_iff_mul_le hp).1 b
def cmpN (a b:Nat):Int:=if a<b then -1 else if a=b then 0 else 1
theorem zeD {xs ys:List Nat}(dx:Dig xs)(hy:zaS ys)(h:xs.length<ys.length):val xs<val ys:=by
 have h1:=zcl dx;have h2:=zeC hy (by intro e;subst e;simp at h);have h3:4294967296^xs.length≤4294967296^(ys.length-1):=Nat.pow_le_pow_right (by decide) (by omega);omega
theorem zuU {xs ys:List Nat}{i:Nat}(dx:Dig xs)(dy:Dig ys)(hl:xs.length=ys.length)(hi:i<xs.length)(hs:∀j,i<j→j<xs.length→xs[j]?.getD 0=ys[j]?.getD 0)(hne:xs[i]?.getD 0≠ys[i]?.getD 0) :
  cmpN (val xs) (val ys)=cmpN (xs[i]?.getD 0) (ys[i]?.getD 0):=by
 have e:xs.drop (i+1)=ys.drop (i+1):=by
  refine List.ext_getElem (by simp[hl]) fun j h1 h2=>?_;rw[List.length_drop] at h1 h2;have:=hs (i+1+j) (by omega) (by omega);rw[List.getElem?_eq_getElem (by omega),List.getElem?_eq_getElem (by omega)] at this;simpa using this
 have sx:=zcN xs i (by omega);have sy:=zcN ys i (by omega);rw[zdU hi] at sx;rw[zdU (by omega:i<ys.length),←e] at sy;have lx:=zcl (dx.take i);have ly:=zcl (dy.take i);rw[List.length_take,Nat.min_eq_left (by omega)] at lx ly;generalize val (xs.drop (i+1))=r at *;generalize xs[i]?.getD 0=x at *;generalize ys[i]?.getD 0=y at *;generalize 4294967296^i=p at *;rw[Nat.mul_add] at sx sy;unfold cmpN;rcases Nat.lt_or_ge x y with h|h
 ·have:p*(x+1)≤p*y:=Nat.mul_le_mul_left _ h;rw[Nat.mul_add] at this;rw[if_pos h,if_pos (by omega)]
 ·have h':y<x:=by omega
  have:p*(y+1)≤p*x:=Nat.mul_le_mul_left _ h';rw[Nat.mul_add] at this;rw[if_neg (by omega),if_neg (by omega),if_neg (by omega),if_neg (by omega)]
theorem zmM {xs ys:List Nat}(hl:xs.length=ys.length)(hs:∀j,j<xs.length→xs[j]?.getD 0=ys[j]?.getD 0):xs=ys:=by
 refine List.ext_getElem hl fun j h1 h2=>?_;have:=hs j h1
 rwa [List.getElem?_eq_getElem h1,List.getElem?_eq_getElem h2] at this
end Go.Proofs.YtbabbmdpgpcgjaaGreatDoor.Num

namespace Go.Proofs.YtbabbmdpgpcgjaaGreatDoor
open Num
theorem zpq:∀n:Fin 256,blen n.val=Lib.bitLen n.val:=by decide +kernel
theorem zfU:∀n:Fin 256,blen n.val≤8:=by decide +kernel
theorem zeE (b:Int)(h0:0≤b)(h1:b≤255):Lib.len8 b=(blen b.toNat:Int):=by
 rw[Lib.len8_of b h0 h1,←zpq ⟨b.toNat,by omega⟩]
theorem zpr (x:Int)(w:World)(h0:0≤x)(h1:x≤4294967295) :
    Calls Tryz.prog 198 #[.int .u32 x] w fun e w'=>e=.returned (.int .i64 (blen x.toNat:Nat))∧w=w':=by
  go_enter Tryz.func198,Tryz.ntmps198;go_wp2
  all_goals (go_ret;refine⟨congrArg Ending.returned (congrArg (Value.int IntKind.i64) ?_),rfl⟩)
  all_goals first
    | (rw[zeE (x / 65536 / 256%256) (by omega) (by omega)]
       have e:(x / 65536 / 256%256).toNat=x.toNat / 2^24:=by omega
       have l:=zfU ⟨x.toNat / 2^24,by omega⟩;have s:=ziP (x:=x.toNat) (k:=24) (by omega);rw[e];simp only at l;omega)
    | (rw[zeE (x / 65536%256) (by omega) (by omega)]
       have e:(x / 65536%256).toNat=x.toNat / 2^16:=by omega
       have l:=zfU ⟨x.toNat / 2^16,by omega⟩;have s:=ziP (x:=x.toNat) (k:=16) (by omega);rw[e];simp only at l;omega)
    | (rw[zeE (x / 256%256) (by omega) (by omega)]
       have e:(x / 256%256).toNat=x.toNat / 2^8:=by omega
       have l:=zfU ⟨x.toNat / 2^8,by omega⟩;have s:=ziP (x:=x.toNat) (k:=8) (by omega);rw[e];simp only at l;omega)
    | (rw[zeE (x%256) (by omega) (by omega)]
       have e:(x%256).toNat=x.toNat:=by omega
       have l:=zfU ⟨x.toNat,by omega⟩;rw[e];simp only at l;omega)
theorem zps (x:Nat)(w:World)(hx:x<4294967296) :
  Calls Tryz.prog 198 #[.int .u32 x] w fun e w'=>e=.returned (.int .i64 (blen x:Nat))∧w=w' :=
 zpr x w (by omega) (by omega)
end Go.Proofs.YtbabbmdpgpcgjaaGreatDoor
