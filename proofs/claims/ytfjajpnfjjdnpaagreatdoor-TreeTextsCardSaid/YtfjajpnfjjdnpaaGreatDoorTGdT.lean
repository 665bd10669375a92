import Derived.Test.YtfjajpnfjjdnpaaGreatDoorTClPj
import Derived.Test.YtfjajpnfjjdnpaaGreatDoorTBxP

set_option linter.unusedVariables false
set_option linter.unusedSimpArgs false
set_option maxRecDepth 100000
set_option maxHeartbeats 6400000
namespace Go.Proofs.YtfjajpnfjjdnpaaGreatDoor.Digs
def dig (d:Nat):UInt8:=UInt8.ofNat (48+d)
theorem zpe {d:Nat}(h:d<10):(dig d).toNat=48+d:=by
 unfold dig;simp;omega
def low:Nat→Nat→List UInt8
 | 0,_=>[]
 | k+1,n=>dig (n%10) :: low k (n / 10)
theorem zee:∀(k n:Nat),(low k n).length=k
 | 0,_=>rfl
 | k+1,n=>by simp[low,zee k]
theorem zlU:∀(j k n:Nat),low (j+k) n=low j n++low k (n / 10^j)
 | 0,k,n=>by simp[low]
 | j+1,k,n=>by
  rw[show j+1+k=(j+k)+1 by omega];simp only[low,List.cons_append];rw[zlU j k (n / 10),Nat.div_div_eq_div_mul,Nat.pow_succ,Nat.mul_comm 10]
theorem zjB (k n:Nat):low (k+1) n=low k n++[dig (n / 10^k%10)]:=by
 rw[zlU k 1 n];rfl
def size (n:Nat):Nat:=if n=0 then 0 else size (n / 10)+1
theorem zfe:size 0=0:=by unfold size;simp
theorem zeC {n:Nat}(h:0<n):size n=size (n / 10)+1:=by
 rw[size,if_neg (by omega)]
theorem zpf (n:Nat):n<10^size n:=by
 induction n using Nat.strongRecOn with
 | ind n ih =>
  rcases Nat.eq_zero_or_pos n with rfl|hn
  ·rw[zfe];decide
  ·rw[zeC hn,Nat.pow_succ];have:=ih (n / 10) (by omega);omega
theorem zpg {n:Nat}(h:0<n):10^(size n-1)≤n:=by
 induction n using Nat.strongRecOn with
 | ind n ih =>
  rw[zeC h,Nat.add_sub_cancel];rcases Nat.eq_zero_or_pos (n / 10) with h0|h0
  ·rw[h0,zfe];exact h
  ·have h1:=ih (n / 10) (by omega) h0;have h2:=zeC h0;have h3:10^size (n / 10)=10^(size (n / 10)-1)*10:=by rw[←Nat.pow_succ];congr 1;omega
   omega
theorem zlV {n k:Nat}(h:n<10^k):size n≤k:=by
 rcases Nat.eq_zero_or_pos n with rfl|hn
 ·rw[zfe];exact Nat.zero_le _
 ·have h1:=zpg hn;rcases Nat.lt_or_ge k (size n) with hk|hk
  ·have h2:10^k≤10^(size n-1):=Nat.pow_le_pow_right (by decide) (by omega);omega
  ·exact hk
theorem zlW {n k:Nat}(h:n<10^(k+1))(h2:10^k≤n):size n=k+1:=by
 have h3:=zlV h;have h4:=zpf n;rcases Nat.lt_or_ge k (size n) with hk|hk
 ·omega
 ·have:10^size n≤10^k:=Nat.pow_le_pow_right (by decide) hk;omega
def digs (n:Nat):List UInt8:=if n=0 then [48] else (low (size n) n).reverse
def text (s:Bool)(n:Nat):List UInt8:=if s then 45 :: digs n else digs n
theorem zff {n:Nat}(h:0<n):(digs n).length=size n:=by
 unfold digs;rw[if_neg (by omega)];simp[zee]
theorem digs_length_le {n k:Nat}(h:n<10^k)(hk:0<k):(digs n).length≤k:=by
 rcases Nat.eq_zero_or_pos n with rfl|hn
 ·unfold digs;exact hk
 ·rw[zff hn];exact zlV h
theorem digs_ten {n k:Nat}(hn:0<n)(hk:k<10):digs (n*10+k)=digs n++[dig k]:=by
 have h1:size (n*10+k)=size n+1:=by rw[zeC (by omega),show(n*10+k) / 10=n by omega]
 unfold digs;rw[if_neg (by omega),if_neg (by omega),h1];simp only[low,List.reverse_cons];rw[show(n*10+k) / 10=n by omega,show(n*10+k)%10=k by omega]
end Go.Proofs.YtfjajpnfjjdnpaaGreatDoor.Digs

namespace Go.Proofs.YtfjajpnfjjdnpaaGreatDoor
open Go.RowKit Num Nds
def strV (r:List UInt8):Value:=.string ⟨r.toArray⟩
def Ts (w:World)(A:Option Addr)(c:Nat)(L:List (List UInt8)):Prop:=(∀r∈L,r.length≤maxLen)∧Rd w A c (L.map strV)
def tat (L:List (List UInt8))(i:Nat):List UInt8:=L[i]?.getD []
theorem Ts.nil (w:World):Ts w none 0 []:=⟨by simp,Rd.nil w⟩
theorem Ts.cap {w:World}{A:Option Addr}{c:Nat}{L:List (List UInt8)}(h:Ts w A c L):L.length≤c∧c≤9223372036854775807:=by
 have h1:=h.2.1;have h2:=h.2.2.1;simp only[maxLen,List.length_map] at h1 h2;exact⟨h1,by omega⟩
theorem Ts.at_ {w:World}{A:Option Addr}{c:Nat}{L:List (List UInt8)}(h:Ts w A c L)(hn:0<L.length) :
  ∃b off,A=some ⟨b,off,none⟩∧b<w.heap.size∧∀j,j<L.length→w.cell? ⟨b,off+j,none⟩=some (strV (tat L j)):=by
 obtain⟨b,off,e,hb,hc⟩:=h.2.2.2 (by simpa using hn);refine⟨b,off,e,hb,fun j hj=>hc j _ ?_⟩;unfold tat;rw[List.getElem?_map,List.getElem?_eq_getElem hj];rfl
theorem zav (r:List UInt8):(⟨r.toArray⟩:ByteArray).size=r.length:=by simp[ByteArray.size]
end Go.Proofs.YtfjajpnfjjdnpaaGreatDoor
