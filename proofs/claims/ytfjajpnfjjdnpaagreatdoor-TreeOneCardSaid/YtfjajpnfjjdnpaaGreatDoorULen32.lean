

set_option linter.unusedVariables false
set_option linter.unusedSimpArgs false
set_option maxRecDepth 100000
set_option maxHeartbeats 6400000
namespace Go.Proofs.YtfjajpnfjjdnpaaGreatDoor.Num
def val:List Nat→Nat
 | []=>0
 | x :: r=>x+4294967296*val r
def Dig (xs:List Nat):Prop:=∀x∈xs,x<4294967296
def zbu (xs:List Nat):Prop:=xs.getLast?≠some 0
def bval:List Bool→Nat
 | []=>0
 | b :: r=>b.toNat+2*bval r
def zaT (bs:List Bool):Prop:=bs.getLast?≠some false
theorem Dig.nil:Dig []:=fun _ h=>by cases h
theorem Dig.cons {x:Nat}{r:List Nat}(h:x<4294967296)(k:Dig r):Dig (x :: r):=fun y hy=>by
 rcases List.mem_cons.1 hy with rfl|hy
 ·exact h
 ·exact k y hy
theorem Dig.head {x:Nat}{r:List Nat}(h:Dig (x :: r)):x<4294967296:=h x (by simp)
theorem Dig.tail {x:Nat}{r:List Nat}(h:Dig (x :: r)):Dig r:=fun y hy=>h y (by simp[hy])
theorem Dig.append {xs ys:List Nat}(h:Dig xs)(k:Dig ys):Dig (xs++ys):=fun y hy=>by
 rcases List.mem_append.1 hy with hy|hy
 ·exact h y hy
 ·exact k y hy
theorem Dig.take {xs:List Nat}(h:Dig xs)(k:Nat):Dig (xs.take k):=fun y hy=>h y (List.mem_of_mem_take hy)
theorem Dig.getD {xs:List Nat}(h:Dig xs)(k:Nat):xs[k]?.getD 0<4294967296:=by
 rcases Nat.lt_or_ge k xs.length with hk|hk
 ·rw[List.getElem?_eq_getElem hk];exact h _ (List.getElem_mem hk)
 ·rw[List.getElem?_eq_none hk]
  decide
theorem zcC:∀(xs ys:List Nat),val (xs++ys)=val xs+4294967296^xs.length*val ys
 | [],ys=>by simp[val]
 | x :: r,ys=>by
  simp only[List.cons_append,val,zcC r ys,List.length_cons,Nat.pow_succ];rw[Nat.mul_add,Nat.mul_comm (4294967296^r.length) 4294967296,Nat.mul_assoc];omega
theorem zdd:∀{xs:List Nat},Dig xs→val xs<4294967296^xs.length
 | [],_=>by simp[val]
 | x :: r,h=>by
  have h1:=zdd h.tail;have h2:=h.head;simp only[val,List.length_cons,Nat.pow_succ];omega
theorem zku {xs:List Nat}{k:Nat}(hk:k<xs.length):xs.take (k+1)=xs.take k++[xs[k]?.getD 0]:=by
 rw[List.take_succ_eq_append_getElem hk,List.getElem?_eq_getElem hk];rfl
theorem zfX {xs:List Nat}{k:Nat}(hk:k<xs.length):val (xs.take (k+1))=val (xs.take k)+4294967296^k*xs[k]?.getD 0:=by
 rw[zku hk,zcC,List.length_take,Nat.min_eq_left (by omega)];simp[val]
theorem zfY {xs:List Nat}{k:Nat}(hk:k<xs.length):val (xs.drop k)=xs[k]?.getD 0+4294967296*val (xs.drop (k+1)):=by
 rw[List.drop_eq_getElem_cons hk,List.getElem?_eq_getElem hk];rfl
theorem zkv (xs:List Nat)(k:Nat)(hk:k≤xs.length):val xs=val (xs.take k)+4294967296^k*val (xs.drop k):=by
 have h:=zcC (xs.take k) (xs.drop k);rw[List.take_append_drop,List.length_take,Nat.min_eq_left hk] at h;exact h
theorem zde:zbu []:=by simp[zbu]
theorem zbu.tail {x:Nat}{r:List Nat}(h:zbu (x :: r)):zbu r:=by
 cases r with
 | nil=>exact zde
 | cons y t=>simpa [zbu,List.getLast?_cons_cons] using h
theorem zdI:∀{xs:List Nat},zbu xs→val xs=0→xs=[]
 | [],_,_=>rfl
 | x :: r,h,hv=>by
  simp only[val] at hv;have hr:=zdI h.tail (by omega);subst hr;have:x=0:=by omega
  subst this;simp[zbu] at h
theorem zix:∀{xs:List Nat},zbu xs→xs≠[]→4294967296^(xs.length-1)≤val xs
 | [],_,h=>absurd rfl h
 | [x],h,_=>by
  have:x≠0:=by intro e;subst e;simp[zbu] at h
  simp[val];omega
 | x :: y :: r,h,_=>by
  have h1:=zix h.tail (by simp);simp only[List.length_cons,Nat.add_sub_cancel,val] at h1 ⊢;rw[Nat.pow_succ];omega
theorem ziy {xs:List Nat}{m:Nat}(h:zbu xs)(hv:val xs<4294967296^m):xs.length≤m:=by
 rcases Nat.lt_or_ge m xs.length with hm|hm
 ·have h1:=zix h (by intro e;subst e;simp at hm);have h2:4294967296^m≤4294967296^(xs.length-1):=Nat.pow_le_pow_right (by decide) (by omega);omega
 ·exact hm
-- bits
theorem zaZ:∀(xs ys:List Bool),bval (xs++ys)=bval xs+2^xs.length*bval ys
 | [],ys=>by simp[bval]
 | x :: r,ys=>by
  simp only[List.cons_append,bval,zaZ r ys,List.length_cons,Nat.pow_succ];rw[Nat.mul_add,Nat.mul_comm (2^r.length) 2,Nat.mul_assoc];omega
theorem zcV:∀(xs:List Bool),bval xs<2^xs.length
 | []=>by simp[bval]
 | x :: r=>by
  have h1:=zcV r;have h2:x.toNat≤1:=Bool.toNat_le x;simp only[bval,List.length_cons,Nat.pow_succ];omega
theorem zjM (n:Nat):bval (List.replicate n false)=0:=by
 induction n with
 | zero=>rfl
 | succ n ih=>simp[List.replicate_succ,bval,ih]
theorem zfo {xs:List Bool}{k:Nat}(hk:k<xs.length):xs.take (k+1)=xs.take k++[xs[k]?.getD false]:=by
 rw[List.take_succ_eq_append_getElem hk,List.getElem?_eq_getElem hk];rfl
theorem zbO {xs:List Bool}{k:Nat}(hk:k<xs.length):bval (xs.take (k+1))=bval (xs.take k)+2^k*(xs[k]?.getD false).toNat:=by
 rw[zfo hk,zaZ,List.length_take,Nat.min_eq_left (by omega)];simp[bval]
theorem zfp (xs:List Bool)(k:Nat)(hk:k≤xs.length):bval xs=bval (xs.take k)+2^k*bval (xs.drop k):=by
 have h:=zaZ (xs.take k) (xs.drop k);rw[List.take_append_drop,List.length_take,Nat.min_eq_left hk] at h;exact h
theorem zaA:∀(xs:List Bool) (i:Nat),(bval xs).testBit i=xs[i]?.getD false
 | [],i=>by simp[bval]
 | x :: r,0=>by
  cases x <;> simp[bval,Nat.testBit_zero]
 | x :: r,i+1=>by
  have:(x.toNat+2*bval r) / 2=bval r:=by have:=Bool.toNat_le x;omega
  simp only[bval,Nat.testBit_succ,this,zaA r i,List.getElem?_cons_succ]
theorem zmy {xs:List Bool}{k:Nat}(hk:k<xs.length)(hz:xs[k]?.getD false=false):bval (xs.take (k+1))=bval (xs.take k):=by
 rw[zbO hk,hz];simp
theorem zeu:∀{xs:List Bool},zaT xs→bval xs=0→xs=[]
 | [],_,_=>rfl
 | [x],h,hv=>by
  cases x
  ·simp[zaT] at h
  ·simp[bval] at hv
 | x :: y :: r,h,hv=>by
  have h':zaT (y :: r):=by simpa [zaT,List.getLast?_cons_cons] using h
  simp only[bval] at hv;have:=zeu h' (by simp only[bval];omega);simp at this
theorem zaT.tail {x:Bool}{r:List Bool}(h:zaT (x :: r)):zaT r:=by
 cases r with
 | nil=>simp[zaT]
 | cons y t=>simpa [zaT,List.getLast?_cons_cons] using h
theorem zgZ:∀{xs:List Bool},zaT xs→xs≠[]→2^(xs.length-1)≤bval xs
 | [],_,h=>absurd rfl h
 | [x],h,_=>by
  cases x
  ·simp[zaT] at h
  ·simp[bval]
 | x :: y :: r,h,_=>by
  have h1:=zgZ h.tail (by simp);simp only[List.length_cons,Nat.add_sub_cancel,bval] at h1 ⊢;rw[Nat.pow_succ];omega
theorem zok {xs:List Bool}{m:Nat}(h:zaT xs)(hv:bval xs<2^m):xs.length≤m:=by
 rcases Nat.lt_or_ge m xs.length with hm|hm
 ·have h1:=zgZ h (by intro e;subst e;simp at hm);have h2:2^m≤2^(xs.length-1):=Nat.pow_le_pow_right (by decide) (by omega);omega
 ·exact hm
def cmpN (a b:Nat):Int:=if a<b then -1 else if a=b then 0 else 1
end Go.Proofs.YtfjajpnfjjdnpaaGreatDoor.Num
