import Derived.Test.YtfjajpnfjjdnpaaGreatDoorVFtT
import Derived.Test.YtfjajpnfjjdnpaaGreatDoorLaidW

set_option linter.unusedVariables false
set_option linter.unusedSimpArgs false
set_option maxRecDepth 100000
set_option maxHeartbeats 6400000
namespace Go.Proofs.YtfjajpnfjjdnpaaGreatDoor
open Go.RowKit Num Nds Txt
def sgnR (b:Bool)(n:Nat):List UInt8 :=
 if b=true∧n=0 then [98] else if b=true∧n=1 then [111] else if n=0 then [46] else if n≤24 then [UInt8.ofNat (64+n)] else [UInt8.ofNat (112+(n-25) / 24),UInt8.ofNat (65+(n-25)%24)]
def tokR (n:Nat)(s:List UInt8):List UInt8:=if n=1 then s else Digs.digs n++s
def runN:List UInt8→Nat
 | []=>0
 | x :: r=>if r.head?=some x then runN r+1 else 1
theorem zdp {r:List UInt8}(h:r≠[]):0<runN r:=by
 cases r with
 | nil=>exact absurd rfl h
 | cons x r =>
  unfold runN;split <;> omega
theorem zdD:∀r:List UInt8,runN r≤r.length
 | []=>Nat.le_refl _
 | x :: r=>by
  have:=zdD r;unfold runN;split
  ·rw[List.length_cons];omega
  ·rw[List.length_cons];omega
theorem zib:∀{r:List UInt8} {i:Nat},i<runN r→r[i]?=r.head?
 | [],i,h=>absurd h (Nat.not_lt_zero _)
 | x :: r,0,_=>rfl
 | x :: r,i+1,h=>by
  unfold runN at h;by_cases hc:r.head?=some x
  ·rw[if_pos hc] at h;rw[List.getElem?_cons_succ,zib (by omega:i<runN r),hc];rfl
  ·rw[if_neg hc] at h;omega
theorem zlw:∀(r:List UInt8),runN r=r.length∨r[runN r]?≠r.head?
 | []=>.inl rfl
 | x :: r=>by
  unfold runN;by_cases hc:r.head?=some x
  ·rw[if_pos hc];rcases zlw r with h|h
   ·exact .inl (by rw[h,List.length_cons])
   ·exact .inr (by rw[List.getElem?_cons_succ];rw[hc] at h;exact h)
  ·rw[if_neg hc];cases r with
   | nil=>exact .inl rfl
   | cons y r=>exact .inr (by rw[List.getElem?_cons_succ];exact hc)
theorem zpi {r:List UInt8}{i:Nat}(h0:0<i)(hi:i≤r.length)(ha:∀j,j<i→r[j]?=r.head?)(he:i=r.length∨r[i]?≠r.head?):runN r=i:=by
 have h1:=zdD r;rcases Nat.lt_trichotomy (runN r) i with h|h|h
 ·rcases zlw r with h2|h2
  ·omega
  ·exact absurd (ha _ h) h2
 ·exact h
 ·rcases he with h2|h2
  ·omega
  ·exact absurd (zib h) h2
def rle (b:Bool):Nat→List UInt8→List (Nat × Nat)
 | 0,_=>[]
 | f+1,r=>match r with
  | []=>[]
  | x :: t=>(runN (x :: t),x.toNat) :: rle b f ((x :: t).drop (runN (x :: t)))
theorem zlx (b:Bool):∀(f g:Nat) (r:List UInt8),r.length≤f→r.length≤g→rle b f r=rle b g r
 | 0,0,r,_,_=>rfl
 | 0,g+1,r,h,_=>by
  have e:r=[]:=List.eq_nil_of_length_eq_zero (by omega);rw[e];rfl
 | f+1,0,r,_,h=>by
  have e:r=[]:=List.eq_nil_of_length_eq_zero (by omega);rw[e];rfl
 | f+1,g+1,r,h,k=>by
  cases r with
  | nil=>rfl
  | cons x t =>
   show _ :: _=_ :: _;have h1:=zdp (r:=x :: t) (by simp);have h2:((x :: t).drop (runN (x :: t))).length≤f∧((x :: t).drop (runN (x :: t))).length≤g:=by
    rw[List.length_drop];omega
   rw[zlx b f g _ h2.1 h2.2]
def zbq (b:Bool)(r:List UInt8):List (List UInt8):=(rle b r.length r).map fun p=>tokR p.1 (sgnR b p.2)
theorem zpj (b:Bool):zbq b []=[]:=rfl
theorem zrd (b:Bool){r:List UInt8}(h:r≠[]):rle b r.length r=(runN r,(r.headD 0).toNat) :: rle b (r.drop (runN r)).length (r.drop (runN r)):=by
 cases r with
 | nil=>exact absurd rfl h
 | cons x t =>
  show _ :: _=_ :: _;have h1:=zdp (r:=x :: t) (by simp);rw[zlx b t.length ((x :: t).drop (runN (x :: t))).length _ (by rw[List.length_drop,List.length_cons];omega) (Nat.le_refl _)];rfl
theorem zcv (b:Bool){r:List UInt8}(h:r≠[]):zbq b r=tokR (runN r) (sgnR b (r.headD 0).toNat) :: zbq b (r.drop (runN r)):=by
 unfold zbq;rw[zrd b h];rfl
theorem zgo (b:Bool):∀(n:Nat) (r:List UInt8),r.length≤n→(zbq b r).length≤r.length
 | 0,r,h=>by
  have e:r=[]:=List.eq_nil_of_length_eq_zero (by omega);rw[e];exact Nat.le_refl _
 | n+1,r,h=>by
  by_cases h0:r=[]
  ·rw[h0];exact Nat.le_refl _
  ·have h1:=zdp h0;have h2:=zdD r;have h3:=zgo b n (r.drop (runN r)) (by rw[List.length_drop];omega);rw[zcv b h0,List.length_cons];rw[List.length_drop] at h3;omega
def tokK (b:Bool)(L:List (List UInt8)):Nat→List (List UInt8) × Option Nat
 | 0=>([],none)
 | k+1=>if zae (tat L k)=[] then tokK b L k else ((tokK b L k).1++(match (tokK b L k).2 with|none=>[]|some j=>[tokR (k-j) [36]])++zbq b (zae (tat L k)),some k)
theorem zbY {b:Bool}{L:List (List UInt8)}{k:Nat}(h:zae (tat L k)=[]):tokK b L (k+1)=tokK b L k:=if_pos h
theorem zdq {b:Bool}{L:List (List UInt8)}{k:Nat}(h:zae (tat L k)≠[])(h2:(tokK b L k).2=none):tokK b L (k+1)=((tokK b L k).1++zbq b (zae (tat L k)),some k):=by
 show(if _ then _ else _)=_;rw[if_neg h,h2];show((tokK b L k).1++[]++_,_)=_;rw[List.append_nil]
theorem zdb {b:Bool}{L:List (List UInt8)}{k j:Nat}(h:zae (tat L k)≠[])(h2:(tokK b L k).2=some j):tokK b L (k+1)=((tokK b L k).1++[tokR (k-j) [36]]++zbq b (zae (tat L k)),some k):=by
 show(if _ then _ else _)=_;rw[if_neg h,h2]
theorem zjW {b:Bool}{L:List (List UInt8)}:∀{k j:Nat},(tokK b L k).2=some j→j<k
 | 0,j,h=>by cases h
 | k+1,j,h=>by
  by_cases h0:zae (tat L k)=[]
  ·rw[zbY h0] at h;have:=zjW h;omega
  ·have e:(tokK b L (k+1)).2=some k:=by
    show(if _ then _ else _:List (List UInt8) × Option Nat).2=_;rw[if_neg h0]
   rw[e] at h;cases h;omega
theorem zek {b:Bool}{L:List (List UInt8)}{m:Nat}(hm:∀r∈L,r.length≤m):∀k,k≤L.length→(tokK b L k).1.length≤k*(m+1)
 | 0,_=>Nat.zero_le _
 | k+1,h=>by
  have ih:=zek (b:=b) hm k (by omega);have h1:(tat L k).length≤m:=by
   unfold tat;rw[List.getElem?_eq_getElem (by omega)];exact hm _ (List.getElem_mem _)
  have h2:=zgo b _ (zae (tat L k)) (Nat.le_refl _);have h3:=zda (tat L k);rw[Nat.add_mul,Nat.one_mul];by_cases h0:zae (tat L k)=[]
  ·rw[zbY h0];omega
  ·cases hj:(tokK b L k).2 with
   | none =>
    rw[zdq h0 hj];show((tokK b L k).1++_).length≤_;rw[List.length_append];omega
   | some j =>
    rw[zdb h0 hj];show((tokK b L k).1++_++_).length≤_;rw[List.length_append,List.length_append];show _+1+_≤_;omega
def twoR (L:List (List UInt8)):Bool:=L.all fun r=>r.all fun x=>decide (x.toNat≤1)
def zat (L:List (List UInt8)):List (List UInt8):=(tokK (twoR L) L L.length).1++[[33]]
def zck (l:List (List UInt8)):Nat→List UInt8 × Nat
 | 0=>([],0)
 | k+1=>if 70<(zck l k).2+(tat l k).length then ((zck l k).1++[10]++tat l k,(tat l k).length) else ((zck l k).1++tat l k,(zck l k).2+(tat l k).length)
theorem ziQ {l:List (List UInt8)}{k:Nat}(h:70<(zck l k).2+(tat l k).length):zck l (k+1)=((zck l k).1++[10]++tat l k,(tat l k).length):=if_pos h
theorem zly {l:List (List UInt8)}{k:Nat}(h:¬ 70<(zck l k).2+(tat l k).length):zck l (k+1)=((zck l k).1++tat l k,(zck l k).2+(tat l k).length):=if_neg h
def zmC (l:List (List UInt8)):List UInt8:=(zck l l.length).1++[10]
theorem zgp {l:List (List UInt8)}{m:Nat}(hm:∀r∈l,r.length≤m):∀k,k≤l.length→(zck l k).1.length≤k*(m+1)∧(zck l k).2≤k*(m+1)
 | 0,_=>⟨Nat.zero_le _,Nat.zero_le _⟩
 | k+1,h=>by
  have ih:=zgp hm k (by omega);have h1:(tat l k).length≤m:=by
   unfold tat;rw[List.getElem?_eq_getElem (by omega)];exact hm _ (List.getElem_mem _)
  rw[Nat.add_mul,Nat.one_mul];by_cases hc:70<(zck l k).2+(tat l k).length
  ·rw[ziQ hc];show((zck l k).1++[10]++tat l k).length≤_∧(tat l k).length≤_;rw[List.length_append,List.length_append];show _+1+_≤_∧_;omega
  ·rw[zly hc];show((zck l k).1++tat l k).length≤_∧_+(tat l k).length≤_;rw[List.length_append];omega
def zug:List UInt8:=[35,67,88,82,76,69,32,80,111,115,61]
def zuh:List UInt8:=[120,32,61,32]
def zui:List UInt8:=[44,32,121,32,61,32]
def zuj:List UInt8:=[44,32,114,117,108,101,32,61,32]
def zjX (rule:List UInt8)(X Y:Int)(L:List (List UInt8)):List UInt8 :=
 zug++zmB X++[44]++zmB Y++[10]++(zuh++Digs.digs (zbV L)++zui++Digs.digs L.length++zuj++rule++[10])++zmC (zat L)
end Go.Proofs.YtfjajpnfjjdnpaaGreatDoor

namespace Go.Proofs.YtfjajpnfjjdnpaaGreatDoor
open Go.RowKit Lib
theorem zte (w:World)(z:Int)(x:UInt8)(hz:z=(x.toNat:Int)) :
  (convert 83 9 (.slice (some ⟨w.heap.size,0,none⟩) 1 1)).run Tryz.prog (w.alloc (.cells #[.int .u8 z] 5))=.ok (.string ⟨#[x]⟩) (w.alloc (.cells #[.int .u8 z] 5)):=by
 subst hz;refine run_convert_bytes_back (P:=Tryz.prog) _ 83 9 5 ⟨w.heap.size,0,none⟩ 1 [x] Tryz.underlying83 Tryz.underlying5 Tryz.underlying9 (fun j hj=>?_);obtain rfl:j=0:=by simpa using hj
 exact cell_one_new _ _ _ 0 _ rfl
theorem ztf (w:World)(z y:Int)(x u:UInt8)(hz:z=(x.toNat:Int))(hy:y=(u.toNat:Int)) :
  (convert 83 9 (.slice (some ⟨w.heap.size,0,none⟩) 2 2)).run Tryz.prog (w.alloc (.cells #[.int .u8 z,.int .u8 y] 5))=.ok (.string ⟨#[x,u]⟩) (w.alloc (.cells #[.int .u8 z,.int .u8 y] 5)):=by
 subst hz;subst hy;refine run_convert_bytes_back (P:=Tryz.prog) _ 83 9 5 ⟨w.heap.size,0,none⟩ 2 [x,u] Tryz.underlying83 Tryz.underlying5 Tryz.underlying9 (fun j hj=>?_);have hc:=fun i=>cell_of_row _ _ i _ _ (0,0) (heap_alloc_new w (.cells #[.int .u8 (x.toNat:Int),.int .u8 (u.toNat:Int)] 5));have hj':j<2:=by simpa using hj
 match j,hj' with
 | 0,_=>exact(hc 0).trans rfl
 | 1,_=>exact(hc 1).trans rfl
theorem zcw (b:Bool)(n:Nat)(w:World)(hn:n≤255) :
  Calls Tryz.prog 36 #[.int .u8 (n:Int),.bool b] w fun e w'=>e=.returned (.string ⟨(sgnR b n).toArray⟩)∧Below w.heap.size w w':=by
 by_cases h0:n=0
 ·subst h0;cases b with
  | false =>
   go_enter Tryz.func36,Tryz.ntmps36;go_wp2_with fail;go_ret;exact⟨rfl,Below.refl _ _⟩
  | true =>
   go_enter Tryz.func36,Tryz.ntmps36;go_wp2_with fail;go_ret;exact⟨rfl,Below.refl _ _⟩
 ·by_cases h1:n=1∧b=true
  ·obtain⟨rfl,rfl⟩:=h1;go_enter Tryz.func36,Tryz.ntmps36;go_wp2_with fail;go_ret;exact⟨rfl,Below.refl _ _⟩
  ·obtain⟨T,hT⟩:∃T,T=sgnR b n:=⟨_,rfl⟩;have e0:¬ (b=true∧n=0):=fun e=>h0 e.2;have e1:¬ (b=true∧n=1):=fun e=>h1 ⟨e.2,e.1⟩;have t0:((n:Int)==0)=false:=beq_eq_false_iff_ne.2 (by omega);have t1:b=true→((n:Int)==1)=false:=fun hb=>beq_eq_false_iff_ne.2 (fun e=>h1 ⟨by omega,hb⟩);unfold sgnR at hT;rw[if_neg e0,if_neg e1,if_neg h0] at hT;rw[show sgnR b n=T by rw[hT];unfold sgnR;rw[if_neg e0,if_neg e1,if_neg h0]];by_cases h24:n≤24
   ·have t2:decide ((n:Int)≤24)=true:=decide_eq_true (by omega);rw[if_pos h24] at hT;obtain⟨z,hz⟩:∃z:Int,z=64+(n:Int):=⟨_,rfl⟩;obtain⟨y,hy⟩:∃y:Int,y=65+(n:Int):=⟨_,rfl⟩;have w1:IntKind.u8.wrap (65+(n:Int))=y:=by rw[hy];simp[IntKind.wrap,IntKind.bits,IntKind.signed];omega
    have w2:IntKind.u8.wrap (y-1)=z:=by rw[hy,hz];simp[IntKind.wrap,IntKind.bits,IntKind.signed];omega
    have hcv:=zte w z (UInt8.ofNat (64+n)) (by rw[hz,UInt8.toNat_ofNat'];omega);have HT:=Hh (show(⟨#[UInt8.ofNat (64+n)]⟩:ByteArray)=⟨T.toArray⟩ by rw[hT]);rw[HT.out] at hcv;have HB:=Hh ((Below.refl w.heap.size w).alloc (Nat.le_refl _) (.cells #[.int .u8 z] 5));clear hT h0 h1 h24 e0 e1 hy hz;cases b with
    | false =>
     clear t1;go_enter Tryz.func36,Tryz.ntmps36;go_wp2_with fail;go_ret;exact⟨rfl,HB.out⟩
    | true =>
     have t3:=t1 rfl;clear t1;go_enter Tryz.func36,Tryz.ntmps36;go_wp2_with fail;go_ret;exact⟨rfl,HB.out⟩
   ·have t2:decide ((n:Int)≤24)=false:=decide_eq_false (by omega);rw[if_neg h24] at hT;obtain⟨m,hm⟩:∃m:Nat,n=m+25:=⟨n-25,by omega⟩;obtain⟨x,hx⟩:∃x:Int,x=(m:Int)+1:=⟨_,rfl⟩;obtain⟨y,hy⟩:∃y:Int,y=(m:Int):=⟨_,rfl⟩;have w1:IntKind.u8.wrap ((n:Int)-24)=x:=by rw[hm,hx];simp[IntKind.wrap,IntKind.bits,IntKind.signed];omega
    have w2:IntKind.u8.wrap (x-1)=y:=by rw[hx,hy];simp[IntKind.wrap,IntKind.bits,IntKind.signed];omega
    clear hx;obtain⟨q,hq⟩:∃q:Int,q=((m / 24:Nat):Int):=⟨_,rfl⟩;obtain⟨r,hr⟩:∃r:Int,r=((m%24:Nat):Int):=⟨_,rfl⟩;obtain⟨z,hz⟩:∃z:Int,z=112+q:=⟨_,rfl⟩;obtain⟨v,hv⟩:∃v:Int,v=65+r:=⟨_,rfl⟩;have d1:Int.tdiv y 24=q:=by rw[hy,hq];rfl
    have d2:Int.tmod y 24=r:=by rw[hy,hr];rfl
    have d3:IntKind.u8.wrap q=q:=by rw[hq];simp[IntKind.wrap,IntKind.bits,IntKind.signed];omega
    have d4:IntKind.u8.wrap r=r:=by rw[hr];simp[IntKind.wrap,IntKind.bits,IntKind.signed];omega
    have w3:IntKind.u8.wrap (112+q)=z:=by rw[hz,hq];simp[IntKind.wrap,IntKind.bits,IntKind.signed];omega
    have w4:IntKind.u8.wrap (65+r)=v:=by rw[hv,hr];simp[IntKind.wrap,IntKind.bits,IntKind.signed];omega
    have hcv:=ztf w z v (UInt8.ofNat (112+(n-25) / 24)) (UInt8.ofNat (65+(n-25)%24)) (by rw[hz,hq,UInt8.toNat_ofNat',hm,Nat.add_sub_cancel];omega) (by rw[hv,hr,UInt8.toNat_ofNat',hm,Nat.add_sub_cancel];omega);have HT:=Hh (show(⟨#[UInt8.ofNat (112+(n-25) / 24),UInt8.ofNat (65+(n-25)%24)]⟩:ByteArray)=⟨T.toArray⟩ by rw[hT]);rw[HT.out] at hcv;have HB:=Hh ((Below.refl w.heap.size w).alloc (Nat.le_refl _) (.cells #[.int .u8 z,.int .u8 v] 5));clear hT h0 h1 h24 e0 e1 hy hz hm hq hr hv;cases b with
    | false =>
     clear t1;go_enter Tryz.func36,Tryz.ntmps36;go_wp2_with fail;go_ret;exact⟨rfl,HB.out⟩
    | true =>
     have t3:=t1 rfl;clear t1;go_enter Tryz.func36,Tryz.ntmps36;go_wp2_with fail;go_ret;exact⟨rfl,HB.out⟩
theorem zre {n:Nat}(h:n<100):Lib.decDigits n=Digs.digs n:=by
 have h1:((List.range 100).all fun n=>Lib.decDigits n==Digs.digs n)=true:=by kernel_rfl
 have h2:=List.all_eq_true.1 h1 n (List.mem_range.2 h);exact eq_of_beq h2
theorem zgq (n:Nat)(w:World)(h:n<100) :
  Calls Tryz.prog 75 #[.int .i64 (n:Int)] w fun e w'=>e=.returned (.string ⟨(Digs.digs n).toArray⟩)∧w'=w:=by
 refine(Any.strconv_Itoa_small Tryz.itS n h w).mono ?_;rintro e w' ⟨rfl,rfl⟩;rw[zre h];exact⟨rfl,rfl⟩
theorem zuk (a:List UInt8)(s:ByteArray):(⟨a.toArray⟩:ByteArray)++s=⟨(a++s.data.toList).toArray⟩:=by
 refine zjV ?_;simp[ByteArray.data_append]
theorem zel {n:Nat}(h:n<100):(Digs.digs n).length≤2:=Digs.digs_length_le (k:=2) (by omega) (by omega)
theorem zgY (n:Nat)(s:ByteArray)(w:World)(hn:n<100)(hs:s.size≤1000) :
  Calls Tryz.prog 80 #[.int .i64 (n:Int),.string s] w fun e w'=>e=.returned (.string ⟨(tokR n s.data.toList).toArray⟩)∧w'=w:=by
 by_cases h1:n=1
 ·subst h1;have HT:=Hh (show(⟨(tokR 1 s.data.toList).toArray⟩:ByteArray)=s from zjV rfl);rw[HT.out];go_enter Tryz.func80,Tryz.ntmps80;go_wp2_with fail;go_ret;exact⟨rfl,rfl⟩
 ·have t1:((n:Int)==1)=false:=beq_eq_false_iff_ne.2 (by omega);obtain⟨a,ha⟩:∃a:ByteArray,a=⟨(Digs.digs n).toArray⟩:=⟨_,rfl⟩;have HA:=Hh ha;have hz:a.size≤2:=by rw[ha,zaT];exact zel hn
  have HT:=Hh (show(⟨(tokR n s.data.toList).toArray⟩:ByteArray)=a++s by
   rw[ha,zuk];unfold tokR;rw[if_neg h1])
  rw[HT.out];have m1:(9223372036854775807<a.size+s.size)=False:=eq_false (by omega);have HN:=Hh hn;clear ha h1;go_enter Tryz.func80,Tryz.ntmps80;go_wp2_with (go_at_call 75;go_loud (refine(zgq n _ HN.out).mono ?_;rintro e w1 ⟨rfl,rfl⟩;rw[←HA.out]));go_ret;exact⟨rfl,rfl⟩
theorem zdc (s:ByteArray)(w:World)(hs:s.size≤maxLen) :
  Calls Tryz.prog 79 #[.string s] w fun e w'=>e=.returned (.string ⟨(zae s.data.toList).toArray⟩)∧w'=w:=by
 go_enter Tryz.func79,Tryz.ntmps79;go_wp2_with (go_at_call 90;go_loud (refine(zph s _ hs).mono ?_;rintro e w1 ⟨rfl,rfl⟩));go_ret;exact⟨rfl,rfl⟩
theorem zrf {s:ByteArray}{i:Nat}(h:i<s.size)(hx:s.data.toList[i]?=s.data.toList.head?)(ha:∀j,j<i→s.data.toList[j]?=s.data.toList.head?):∀j,j<i+1→s.data.toList[j]?=s.data.toList.head?:=fun j hj=>by
 rcases Nat.lt_or_ge j i with h1|h1
 ·exact ha j h1
 ·rw[show j=i by omega];exact hx
theorem zrg (s:ByteArray)(w:World)(hs:s.size≤1000000)(h0:0<s.size) :
  Calls Tryz.prog 126 #[.string s] w fun e w'=>e=.returned (.int .i64 (runN s.data.toList:Int))∧Below w.heap.size w w':=by
 have hg0:=zcG h0;have hhd:s.data.toList.head?=some (s[0]'h0):=by rw[List.head?_eq_getElem?];exact hg0
 have HD:=Hh hhd;obtain⟨R,hR⟩:∃R,R=runN s.data.toList:=⟨_,rfl⟩;have HR:=Hh hR;rw[←hR];have hm:s.size≤9223372036854775800:=by omega
 have z0:(0:Int)<(s.size:Int):=by omega
 have z1:(0<s.size)=True:=eq_true h0;obtain⟨x0,hx0⟩:∃x,x=(s[0]'h0).toNat:=⟨_,rfl⟩;have HX0:=Hh hx0;clear hg0 hhd hR hs hx0;go_enter Tryz.func126,Tryz.ntmps126;go_wp2_with fail;go_loopw [6,3] (fun z1 z2 wr=>∃(i:Nat) (v:Value),z1=.int .i64 i∧v=z2∧i≤s.size∧(∀j,j<i→s.data.toList[j]?=s.data.toList.head?)∧Below w.heap.size w wr) (fun z1 _ _=>s.size-(intOf z1).toNat)
 case atStart=>exact⟨0,_,rfl,rfl,Nat.zero_le _,fun j hj=>by omega,Below.refl _ _⟩
 case round =>
  obtain⟨i,v,rfl,rfl,hi,ha,hb⟩:=hrel;have HA:=Hh ha;have HB:=Hh hb;have iw:IntKind.i64.wrap ((i:Int)+1)=(i:Int)+1:=IntWalk.i64_in _ (by omega);clear ha hb;by_cases hlt:i<s.size
  ·have hgt:=zcG hlt;have HGT:=Hh hgt;have HLT:=Hh hlt;have i0:(0:Int)≤(i:Int):=by omega
   have i1:(i:Int)<(s.size:Int):=by omega
   have j3:decide ((i:Int)<(s.size:Int))=true:=decide_eq_true i1;clear hgt;by_cases hx:(s[i]'hlt)=s[0]'h0
   ·have u1:((((s[i]'hlt).toNat:Nat):Int)!=(((s[0]'h0).toNat:Nat):Int))=false:=by rw[hx];exact bne_self_eq_false _
    have HX:=Hh hx;clear hx;go_wp2_with fail;go_quiet (fail);go_wp2_with fail;go_roundw
    case rel=>exact⟨i+1,_,by go_num,rfl,HLT.out,zrf HLT.out (by rw[HGT.out,HD.out,HX.out]) HA.out,zaa HB.out _⟩
    case measure=>have:=HLT.out;simp[intOf];omega
   ·have u1:((((s[i]'hlt).toNat:Nat):Int)!=(((s[0]'h0).toNat:Nat):Int))=true:=by
     rw[bne_iff_ne];exact fun e=>hx (UInt8.toNat_inj.1 (by omega))
    have HX:=Hh hx;have HRI:=Hh (show R=i by
     rw[HR.out];refine zpi (Nat.pos_of_ne_zero fun e=>?_) (by rw[zav];exact hi) HA.out (.inr ?_)
     ·subst e;exact hx rfl
     ·rw[HGT.out,HD.out];exact fun e=>hx (Option.some.inj e))
    clear hx;go_wp2_with fail;go_quiet (fail);go_wp2_with fail;go_ret;exact⟨by rw[HRI.out];rfl,zaa HB.out _⟩
  ·have e:i=s.size:=by omega
   have t9:decide ((i:Int)<(s.size:Int))=false:=decide_eq_false (by omega);have t10:decide (i<s.size)=false:=decide_eq_false hlt;have t11:(i<s.size)=False:=eq_false hlt;have HRI:=Hh (show R=s.size by
    rw[HR.out];refine zpi h0 (by rw[zav];exact Nat.le_refl _) (by rw[←e];exact HA.out) (.inl (by rw[zav])))
   clear hlt e;go_wp2_with fail;go_ret;exact⟨by rw[HRI.out];rfl,HB.out⟩
theorem Tryz.infoTs:(Tryz.prog.info? 9).map (fun i=>(i.zero,i.size,i.bytes))=some (some (.string ⟨#[]⟩),1,16):=by kernel_rfl
def OwS (W:World)(base:Nat)(v:Value)(n:Nat)(L:List (List UInt8)):Prop:=L.length=n∧W.ownsRow base 9 1 v n (L.map strV)
theorem OwS.nil (W:World)(base:Nat):OwS W base (.slice none 0 0) 0 []:=⟨rfl,World.ownsRow_nil _ _ _ 1⟩
theorem OwS.more {W:World}{base n:Nat}{v:Value}{L:List (List UInt8)}{t:List UInt8}(h:L.length=n)(k:W.ownsRow base 9 1 v (n+1) (L.map strV++[strV t])):OwS W base v (n+1) (L++[t]) :=
 ⟨by rw[List.length_append,h];rfl,by rw[List.map_append];exact k⟩
theorem OwS.next {W W':World}{base n:Nat}{v:Value}{L:List (List UInt8)}(h:OwS W base v n L)(k:Below W.heap.size W W'):OwS W' base v n L :=
 ⟨h.1,h.2.1,by
  rcases h.2.2 with h2|⟨g,cap,cur,hv,r1,r2,r3⟩
  ·exact .inl h2
  ·exact .inr ⟨g,cap,cur,hv,r1,(k.block _ (Array.getElem?_eq_some_iff.1 r2).1).trans r2,r3⟩⟩
theorem zlz (b:Bool)(n:Nat):(sgnR b n).length≤2:=by
 unfold sgnR;split
 ·simp
 ·split
  ·simp
  ·split
   ·simp
   ·split <;> simp
theorem zrh (t:ByteArray)(m:Nat):(t.extract m t.size).data.toList=t.data.toList.drop m:=by
 rw[ByteArray.data_extract,Array.toList_extract,List.extract_eq_take_drop];exact List.take_of_length_le (by rw[List.length_drop,zav];exact Nat.le_refl _)
theorem zlA {n:Nat}{s:List UInt8}(h:n<100)(hs:s.length≤2):(tokR n s).length≤4:=by
 unfold tokR;split
 ·omega
 ·rw[List.length_append];have:=zel h;omega
theorem zgr (b:Bool)(s:ByteArray)(base n:Nat)(v:Value)(L:List (List UInt8))(w:World)(ho:OwS w base v n L)(hb:base≤w.heap.size)(hs:s.size≤99)(hn:n≤1000000) :
  Calls Tryz.prog 81 #[v,.string s,.bool b] w fun e w'=>∃v',e=.returned v'∧OwS w' base v' (n+(zbq b s.data.toList).length) (L++zbq b s.data.toList)∧Below base w w':=by
 obtain⟨iT,hi,hz0,hz1,hz2⟩:=zgj Tryz.infoTs;have HI:=Hh (And.intro hi (And.intro hz0 (And.intro hz1 hz2)));have hTL:=zgo b _ s.data.toList (Nat.le_refl _);rw[zav] at hTL;obtain⟨T,hT⟩:∃T,T=L++zbq b s.data.toList:=⟨_,rfl⟩;obtain⟨N,hN⟩:∃N,N=n+(zbq b s.data.toList).length:=⟨_,rfl⟩;rw[←hT,←hN];have HT:=Hh hT;have HN:=Hh (show T.length=N by rw[hT,hN,List.length_append,ho.1]);have HN9:=Hh (show N≤1000100 by omega);have HO:=Hh ho;have HBW:=Hh hb;clear hi hz0 hz1 hz2 hT hN ho hb hTL;go_enter Tryz.func81,Tryz.ntmps81;go_wp2_with fail;go_loopw [0,1,7] (fun z1 z2 z3 wr=>∃(v' y:Value) (r:ByteArray) (m:Nat) (M:List (List UInt8)),v'=z1∧z2=.string r∧y=z3∧M++zbq b r.data.toList=T∧r.size≤99∧OwS wr base v' m M∧Below base w wr) (fun _ z2 _ _=>zrK z2)
 case atStart=>exact⟨_,_,s,n,L,rfl,rfl,rfl,HT.out.symm,hs,HO.out,Below.refl _ _⟩
 case round =>
  obtain⟨v',y,r,m,M,rfl,rfl,rfl,hM,hr,hown,hbl⟩:=hrel;have HM:=Hh hM;have HOW:=Hh hown;have HB:=Hh hbl;have hb0:=HBW.out;have hsz:=Nat.le_trans hb0 hbl.size;have hm9:m≤1000100:=by
   have h1:=congrArg List.length hM;rw[List.length_append,HN.out,hown.1] at h1;have:=HN9.out;omega
  clear hM hown hbl;rcases Nat.eq_zero_or_pos r.size with h0|h0
  ·have hl:r.data.toList=[]:=List.eq_nil_of_length_eq_zero (by rw[zav];exact h0);have e1:r.toList.isEmpty=true:=by
    rw[ByteArray.toList_eq,hl];rfl
   have HE:=Hh (show M=T by have:=HM.out;rw[hl,zpj,List.append_nil] at this;exact this);have HE2:=Hh (show m=N by rw[←HOW.out.1,HE.out];exact HN.out);clear hl h0;go_wp2_with fail;go_ret;exact⟨_,rfl,by rw[←HE.out,←HE2.out];exact HOW.out,HB.out⟩
  ·have hl:r.data.toList≠[]:=fun e=>by
    have:=zav r;rw[e] at this;simp at this;omega
   have e1:r.toList.isEmpty=false:=by
    rw[ByteArray.toList_eq];cases hq:r.data.toList with
    | nil=>exact absurd hq hl
    | cons x t=>rfl
   have hhd:r.data.toList.headD 0=r[0]'h0:=by
    have h1:=zcG h0;cases hq:r.data.toList with
    | nil=>exact absurd hq hl
    | cons x t =>
     rw[hq] at h1;exact Option.some.inj h1
   obtain⟨c,hc⟩:∃c,c=runN r.data.toList:=⟨_,rfl⟩;have hc1:=zdD r.data.toList;have hc0:=zdp hl;rw[zav,←hc] at hc1;rw[←hc] at hc0;obtain⟨x0,hx0⟩:∃x,x=(r[0]'h0).toNat:=⟨_,rfl⟩;obtain⟨g,hg⟩:∃g:ByteArray,g=⟨(sgnR b x0).toArray⟩:=⟨_,rfl⟩;have hgz:g.size≤2:=by rw[hg,zaT];exact zlz _ _
   obtain⟨t,ht⟩:∃t,t=tokR c g.data.toList:=⟨_,rfl⟩;have HTK:=Hh (show zbq b r.data.toList=t :: zbq b (r.data.toList.drop c) by
    rw[zcv b hl,hhd,←hc,←hx0,ht,hg])
   have HC:=Hh hc;have HG:=Hh hg;have HX:=Hh hx0;have HTT:=Hh ht;have hx9:x0≤255:=by rw[hx0];have:=(r[0]'h0).toNat_lt;omega
   have k0:(0:Int)≤(c:Int):=by omega
   have k1:(c:Int)≤(r.size:Int):=by omega
   have k2:(0:Int)<(r.size:Int):=by omega
   have k3:(0<r.size)=True:=eq_true h0;have HDR:=Hh (zrh r c);have hc9:c<100:=by omega
   have HH0:=Hh h0;clear hl hhd hc hg ht;go_wp2_with (first
    | (go_at_call 126;go_loud (refine(zrg r _ (by omega) HH0.out).mono ?_;rintro e w1 ⟨rfl,b1_⟩;rw[←HC.out];have OW1:=Hh (HOW.out.next b1_);have B1:=Hh (HB.out.trans (b1_.mono hsz));have hs1:=Nat.le_trans hb0 B1.out.size;clear b1_))
    | (go_at_call 36;go_loud (rw[←HX.out];refine(zcw b x0 _ hx9).mono ?_;rintro e w2 ⟨rfl,b2_⟩;rw[←HG.out];have OW2:=Hh (OW1.out.next b2_);have B2:=Hh (B1.out.trans (b2_.mono hs1));have hs2:=Nat.le_trans hb0 B2.out.size;clear b2_))
    | (go_at_call 80;go_loud (refine(zgY c g _ hc9 (by omega)).mono ?_;rintro e w3 ⟨rfl,rfl⟩;rw[←HTT.out]))
    | (at_builtin;go_loud (refine wpList_append_own_at _ rfl _ _ 49 rfl base 9 iT (.string ⟨#[]⟩) 1 16 Tryz.underlying49 HI.out.1 HI.out.2.1 HI.out.2.2.1 HI.out.2.2.2 rfl (by decide) _ _ _ rfl (OW2.out.next ((Below.refl _ _).alloc (Nat.le_refl _) (.cells #[.string ⟨t.toArray⟩] 9))).2 ⟨_,0,none⟩ 1 1 [.string ⟨t.toArray⟩] rfl rfl (cell_one_new _ _ _) (by simp[Value.oneCell']) (by simp only[maxLen];omega) (by omega) (by simp;omega) ?_;intro v2 w4 ho4 hg4 hn4 hk4;have OW4:=Hh (OwS.more (t:=t) HOW.out.1 ho4);have B4:=Hh ((B2.out.alloc hs2 (.cells #[.string ⟨t.toArray⟩] 9)).grown hg4 (by rw[World.size_alloc];omega) (fun q hq=>(OW2.out.2.lt q hq).1));clear ho4 hg4 hn4 hk4)))
   go_roundw
   case rel=>exact⟨_,_,r.extract c r.size,m+1,M++[t],rfl,rfl,rfl,by rw[HDR.out,←HM.out,HTK.out,List.append_assoc];rfl,by rw[←zav,HDR.out,List.length_drop,zav];omega,OW4.out,B4.out⟩
   case measure =>
    show(r.extract c r.size).size<r.size;rw[←zav (r.extract c r.size),HDR.out,List.length_drop,zav];omega
def allR (r:List UInt8):Bool:=r.all fun x=>decide (x.toNat≤1)
theorem zpk {L:List (List UInt8)}{k:Nat}(hk:k<L.length):twoR (L.take (k+1))=(twoR (L.take k)&&allR (tat L k)):=by
 unfold twoR;rw[List.take_add_one,List.getElem?_eq_getElem hk,List.all_append];unfold tat;rw[List.getElem?_eq_getElem hk];show(_&&((_:Bool)&&true))=_;rw[Bool.and_true];rfl
theorem zpl {r:List UInt8}{i:Nat}{x:UInt8}(hx:r[i]?=some x):allR (r.take (i+1))=(allR (r.take i)&&decide (x.toNat≤1)):=by
 unfold allR;rw[List.take_add_one,hx,List.all_append];show(_&&((_:Bool)&&true))=_;rw[Bool.and_true]
theorem ztg {m x:Nat}{A:Bool}(h:decide (m≤1)=A):decide (max m x≤1)=(A&&decide (x≤1)):=by
 rw[←h,←Bool.decide_and,decide_eq_decide];omega
theorem ziR (A:Option Addr)(c n:Nat)(L:List (List UInt8))(w:World)(h:Ts w A c L)(hn:L.length=n)(hr:∀r∈L,r.length≤1000) :
  Calls Tryz.prog 78 #[.slice A n c] w fun e w'=>(∃m:Nat,e=.returned (.int .u8 (m:Int))∧m≤255∧decide (m≤1)=twoR L)∧w'=w:=by
 have hcap:=h.cap;rw[hn] at hcap;have HT:=Hh h;have HN:=Hh hn;have HR:=Hh hr;clear h hn hr;go_enter Tryz.func78,Tryz.ntmps78;go_wp2_with fail;go_loopw [9,3] (fun z1 z2 wr=>∃(k m:Nat),z1=.int .i64 k∧z2=.int .u8 (m:Int)∧k≤n∧m≤255∧decide (m≤1)=twoR (L.take k)∧wr=w) (fun z1 _ _=>n-(intOf z1).toNat)
 case atStart=>exact⟨0,0,rfl,rfl,Nat.zero_le _,by omega,by rw[List.take_zero];rfl,rfl⟩
 case round =>
  obtain⟨k,m,rfl,rfl,hk,hm9,hm,rfl⟩:=hrel;have HM:=Hh hm;have HM9:=Hh hm9;clear hm hm9;by_cases hlt:k<n
  ·have kw:IntKind.i64.wrap ((k:Int)+1)=(k:Int)+1:=IntWalk.i64_in _ (by omega);have hkl:k<L.length:=by rw[HN.out];exact hlt
   obtain⟨b2,o2,hA2,-,hcc⟩:=HT.out.at_ (by omega)
   subst hA2;have s0:=hcc k hkl;unfold strV at s0;obtain⟨s,hs⟩:∃s:ByteArray,s=⟨(tat L k).toArray⟩:=⟨_,rfl⟩;rw[←hs] at s0;have HSD:=Hh (show s.data.toList=tat L k by rw[hs]);have hsz:s.size≤1000:=by
    rw[hs,zaT];refine HR.out _ ?_;unfold tat;rw[List.getElem?_eq_getElem hkl];exact List.getElem_mem _
   have j0:(0:Int)≤(k:Int):=by omega
   have j1:(k:Int)<(n:Int):=by omega
   have j3:decide ((k:Int)<(n:Int))=true:=decide_eq_true j1;have HLT:=Hh hlt;have HTW:=Hh (zpk hkl);clear hcc hs hlt hkl;go_wp2_with fail;go_loopw [15,3] (fun z1 z2 w2=>∃(i m:Nat),z1=.int .i64 i∧z2=.int .u8 (m:Int)∧i≤s.size∧m≤255∧decide (m≤1)=(twoR (L.take k)&&allR (s.data.toList.take i))∧w2=wr) (fun z1 _ _=>s.size-(intOf z1).toNat)
   case atStart=>exact⟨0,m,rfl,rfl,Nat.zero_le _,HM9.out,by rw[HM.out,List.take_zero];show _=(_&&true);rw[Bool.and_true],rfl⟩
   case round =>
    obtain⟨i,p,rfl,rfl,hi,hp9,hp,rfl⟩:=hrel;have HP:=Hh hp;have HP9:=Hh hp9;have iw:IntKind.i64.wrap ((i:Int)+1)=(i:Int)+1:=IntWalk.i64_in _ (by omega);clear hp hp9 HM HM9;by_cases hli:i<s.size
    ·have hgt:=zcG hli;have HAT:=Hh (zpl hgt);have i0:(0:Int)≤(i:Int):=by omega
     have i1:(i:Int)<(s.size:Int):=by omega
     have i3:decide ((i:Int)<(s.size:Int))=true:=decide_eq_true i1;have HLI:=Hh hli;have hx9:(s[i]'hli).toNat≤255:=by have:=(s[i]'hli).toNat_lt;omega
     have HX9:=Hh hx9;have HMX:=Hh (show max (p:Int) ((s[i]'hli).toNat:Int)=((max p (s[i]'hli).toNat:Nat):Int) by omega);clear hgt hx9;go_wp2_with fail;go_roundw
     case rel=>exact⟨i+1,max p (s[i]'hli).toNat,by go_num,by rw[HMX.out],HLI.out,by have:=HP9.out;have:=HX9.out;omega,by rw[HAT.out,←Bool.and_assoc];exact ztg HP.out,trivial⟩
     case measure=>have:=HLI.out;simp[intOf];omega
    ·have e:i=s.size:=by omega
     have i9:decide ((i:Int)<(s.size:Int))=false:=decide_eq_false (by omega);have i10:decide (i<s.size)=false:=decide_eq_false hli;have i11:(i<s.size)=False:=eq_false hli;have HE:=Hh (show s.data.toList.take i=tat L k by rw[List.take_of_length_le (by rw[zav];omega)];exact HSD.out);clear hli e;go_wp2_with fail;go_roundw
     case rel=>exact⟨k+1,p,by go_num,rfl,HLT.out,HP9.out,by rw[HTW.out,←HE.out];exact HP.out,trivial⟩
     case measure=>have:=HLT.out;simp[intOf];omega
  ·have e:k=n:=by omega
   have t9:decide ((k:Int)<(n:Int))=false:=decide_eq_false (by omega);have t10:decide (k<n)=false:=decide_eq_false hlt;have t11:(k<n)=False:=eq_false hlt;have HE:=Hh (show twoR (L.take k)=twoR L by rw[e,←HN.out,List.take_length]);clear hlt e;go_wp2_with fail;go_ret;exact⟨⟨m,rfl,HM9.out,by rw[HM.out,HE.out]⟩,rfl⟩
theorem OwS.ts {W:World}{base n:Nat}{v:Value}{L:List (List UInt8)}(h:OwS W base v n L)(hl:∀r∈L,r.length≤maxLen):∃A c,v=.slice A n c∧Ts W A c L:=by
 obtain⟨h1,h2⟩:=h;have ho:=h2;rcases h2.2 with⟨h',hn⟩|⟨g,cap,cur,h',hb,hg,hnc,hcm,hcs,htake⟩
 ·have e:L=[]:=List.eq_nil_of_length_eq_zero (by omega);subst e;exact⟨none,0,by rw[h',hn],Ts.nil W⟩
 ·subst h';refine⟨some ⟨g,0,none⟩,cap,rfl,hl,by rw[List.length_map];omega,hcm,fun _=>⟨g,0,rfl,(Array.getElem?_eq_some_iff.1 hg).1,fun j u hu=>?_⟩⟩;have hj:j<n:=by
   have:=(List.getElem?_eq_some_iff.1 hu).1;rw[List.length_map] at this;omega
  rw[Nat.zero_add,ho.cellAt j (by omega)];exact hu
theorem ziS (b:Bool):∀(m:Nat) (r:List UInt8),r.length≤m→r.length≤99→∀t∈zbq b r,t.length≤4
 | 0,r,h,_,t,ht=>by
  have e:r=[]:=List.eq_nil_of_length_eq_zero (by omega);rw[e] at ht;cases ht
 | m+1,r,h,h9,t,ht=>by
  by_cases h0:r=[]
  ·rw[h0] at ht;cases ht
  ·have h1:=zdp h0;have h2:=zdD r;rw[zcv b h0] at ht;rcases List.mem_cons.1 ht with rfl|ht
   ·exact zlA (by omega) (zlz _ _)
   ·exact ziS b m _ (by rw[List.length_drop];omega) (by rw[List.length_drop];omega) t ht
theorem zlB {b:Bool}{L:List (List UInt8)}(hr:∀r∈L,r.length≤99)(hl:L.length≤99):∀k,k≤L.length→∀t∈(tokK b L k).1,t.length≤4
 | 0,_,t,ht=>by cases ht
 | k+1,h,t,ht=>by
  have ih:=zlB (b:=b) hr hl k (by omega);have h1:(zae (tat L k)).length≤99:=by
   refine Nat.le_trans (zda _) ?_;unfold tat;rw[List.getElem?_eq_getElem (by omega)];exact hr _ (List.getElem_mem _)
  by_cases h0:zae (tat L k)=[]
  ·rw[zbY h0] at ht;exact ih t ht
  ·have hx:=ziS b _ (zae (tat L k)) (Nat.le_refl _) h1;cases hj:(tokK b L k).2 with
   | none =>
    rw[zdq h0 hj] at ht;rcases List.mem_append.1 ht with ht|ht
    ·exact ih t ht
    ·exact hx t ht
   | some j =>
    rw[zdb h0 hj] at ht;have:=zjW hj;rcases List.mem_append.1 ht with ht|ht
    ·rcases List.mem_append.1 ht with ht|ht
     ·exact ih t ht
     ·rw[List.mem_singleton.1 ht];exact zlA (by omega) (by decide)
    ·exact hx t ht
theorem zdr {L:List (List UInt8)}(hr:∀r∈L,r.length≤99)(hl:L.length≤99):∀t∈zat L,t.length≤4:=fun t ht=>by
 unfold zat at ht;rcases List.mem_append.1 ht with ht|ht
 ·exact zlB hr hl _ (Nat.le_refl _) t ht
 ·rw[List.mem_singleton.1 ht]
  decide
def zul:Option Nat→Int
 | none => -1
 | some j=>j
def zuT (L:List (List UInt8))(w:World)(e:Ending)(w':World):Prop :=
 ∃A c n,e=.returned (.slice A n c)∧(zat L).length=n∧Ts w' A c (zat L)∧Below w.heap.size w w'
theorem zdE (u:Gr)(w:World)(h:Ts w u.a u.c u.L)(hr:∀r∈u.L,r.length≤99)(hl:u.L.length≤99) :
  Calls Tryz.prog 33 #[u.val] w (zuT u.L w):=by
 have hcap:=h.cap;obtain⟨iT,hi,hz0,hz1,hz2⟩:=zgj Tryz.infoTs;have HI:=Hh (And.intro hi (And.intro hz0 (And.intro hz1 hz2)));have hal:=(Below.refl w.heap.size w).alloc (Nat.le_refl _) u.obj;obtain⟨W0,hW0⟩:∃W:World,W=w.alloc u.obj:=⟨_,rfl⟩;obtain⟨base,hbase⟩:∃b,b=w.heap.size+1:=⟨_,rfl⟩;obtain⟨g0,hg0⟩:∃g,g=w.heap.size:=⟨_,rfl⟩;have hk:W0.heap[g0]?=some u.obj:=by rw[hW0,hg0];exact heap_alloc_new w _
 have HW:=Hh (show Below w.heap.size w W0∧W0.heap.size=base by rw[hW0];exact⟨hal,by rw[World.size_alloc,hbase]⟩);have HT:=Hh (show Ts W0 u.a u.c u.L by rw[hW0];exact h.below hal);obtain⟨e0,e1,e2,e3,e4⟩:=Gr.cells hk;have HR:=Hh hr;have HL:=Hh hl;obtain⟨B,hB⟩:∃B,B=twoR u.L:=⟨_,rfl⟩;have HBB:=Hh hB;have HBS:=Hh hbase;clear h hi hz0 hz1 hz2 hal hk hr hB hbase;rcases Nat.eq_zero_or_pos u.L.length with hl0|hl0
 ·have HL0:=Hh hl0;clear hl0;go_enter Tryz.func33,Tryz.ntmps33;go_upto_region 1 with fail
  rw[←hW0,←hg0];clear hW0 hg0;go_wp2_with (go_at_call 78;go_loud (refine(ziR u.a u.c u.L.length u.L _ HT.out rfl (fun r hr=>by have:=HR.out r hr;omega)).mono ?_;rintro e w1 ⟨⟨m,rfl,m9,hm⟩,rfl⟩;have q1:decide ((m:Int)≤1)=B:=(by rw[HBB.out,←hm,decide_eq_decide];omega);clear hm));go_loopw [15,4,5,6,7] (fun z1 z2 z3 z4 z5 wr=>∃(k N:Nat) (v y4 y5:Value) (lz:Int),z1=.int .i64 k∧v=z2∧z3=.int .i64 lz∧y4=z4∧y5=z5∧k≤u.L.length∧lz=zul (tokK B u.L k).2∧OwS wr base v N (tokK B u.L k).1∧Below base w1 wr) (fun z1 _ _ _ _ _=>u.L.length-(intOf z1).toNat)
  case atStart=>exact⟨0,0,_,_,_,-1,rfl,rfl,rfl,rfl,rfl,Nat.zero_le _,rfl,OwS.nil _ _,Below.refl _ _⟩
  case round =>
   obtain⟨k,N,v,y4,y5,lz,rfl,rfl,rfl,rfl,rfl,hk,hlz,hown,hb⟩:=hrel;have HLZ:=Hh hlz;have HOW:=Hh hown;have HB:=Hh hb;have hsz:=hb.size;rw[HW.out.2] at hsz;have hN9:N≤10000:=by
    have h1:=zek (b:=B) (m:=99) HR.out k hk;rw[hown.1] at h1;have h2:k*(99+1)≤99*100:=Nat.mul_le_mul (by omega) (by omega);omega
   clear hlz hown hb;by_cases hlt:k<u.L.length
   ·have:=HL0.out;omega
   ·have e:k=u.L.length:=by omega
    have t9:decide ((k:Int)<(u.L.length:Int))=false:=decide_eq_false (by omega);have t10:decide (k<u.L.length)=false:=decide_eq_false hlt;have t11:(k<u.L.length)=False:=eq_false hlt;have HE:=Hh (show(tokK B u.L k).1++[[33]]=zat u.L by(unfold zat;rw[e,HBB.out]));clear hlt e;go_wp2_with (at_builtin;go_loud (refine wpList_append_own_at _ rfl _ _ 49 rfl base 9 iT (.string ⟨#[]⟩) 1 16 Tryz.underlying49 HI.out.1 HI.out.2.1 HI.out.2.2.1 HI.out.2.2.2 rfl (by decide) _ _ _ rfl (HOW.out.next ((Below.refl _ _).alloc (Nat.le_refl _) (.cells #[.string ⟨#[33]⟩] 9))).2 ⟨_,0,none⟩ 1 1 [.string ⟨#[33]⟩] rfl rfl (cell_one_new _ _ _) (by simp[Value.oneCell']) (by simp only[maxLen];omega) (by omega) (by simp;omega) ?_;intro v2 w4 ho4 hg4 hn4 hk4;have OW4:=Hh (OwS.more (t:=[33]) HOW.out.1 ho4);have B4:=Hh ((HB.out.alloc hsz (.cells #[.string ⟨#[33]⟩] 9)).grown hg4 (by rw[World.size_alloc];omega) (fun q hq=>(HOW.out.2.lt q hq).1));clear ho4 hg4 hn4 hk4));go_ret;have h5:=OW4.out;rw[HE.out] at h5;obtain⟨A5,c5,e5,t5⟩:=h5.ts (fun r hr=>by have:=zdr HR.out HL.out r hr;unfold maxLen;omega);exact⟨A5,c5,N+1,by rw[←e5];rfl,h5.1,t5,HW.out.1.trans (B4.out.mono (by have:=HBS.out;omega))⟩
 ·obtain⟨b2,o2,hA,-,-⟩:=HT.out.at_ hl0
  have HA:=Hh hA;rw[hA] at e4;clear hA;go_enter Tryz.func33,Tryz.ntmps33;go_upto_region 1 with fail
  rw[←hW0,←hg0];clear hW0 hg0;go_wp2_with (go_at_call 78;go_loud (refine(ziR (some ⟨b2,o2,none⟩) u.c u.L.length u.L _ (by rw[←HA.out];exact HT.out) rfl (fun r hr=>by have:=HR.out r hr;omega)).mono ?_;rintro e w1 ⟨⟨m,rfl,m9,hm⟩,rfl⟩;have q1:decide ((m:Int)≤1)=B:=(by rw[HBB.out,←hm,decide_eq_decide];omega);clear hm));go_loopw [15,4,5,6,7] (fun z1 z2 z3 z4 z5 wr=>∃(k N:Nat) (v y4 y5:Value) (lz:Int),z1=.int .i64 k∧v=z2∧z3=.int .i64 lz∧y4=z4∧y5=z5∧k≤u.L.length∧lz=zul (tokK B u.L k).2∧OwS wr base v N (tokK B u.L k).1∧Below base w1 wr) (fun z1 _ _ _ _ _=>u.L.length-(intOf z1).toNat)
  case atStart=>exact⟨0,0,_,_,_,-1,rfl,rfl,rfl,rfl,rfl,Nat.zero_le _,rfl,OwS.nil _ _,Below.refl _ _⟩
  case round =>
   obtain⟨k,N,v,y4,y5,lz,rfl,rfl,rfl,rfl,rfl,hk,hlz,hown,hb⟩:=hrel;have HLZ:=Hh hlz;have HOW:=Hh hown;have HB:=Hh hb;have hsz:=hb.size;rw[HW.out.2] at hsz;have hN9:N≤10000:=by
    have h1:=zek (b:=B) (m:=99) HR.out k hk;rw[hown.1] at h1;have h2:k*(99+1)≤99*100:=Nat.mul_le_mul (by omega) (by omega);omega
   clear hlz hown hb;by_cases hlt:k<u.L.length
   ·obtain⟨b3,o3,hA3,-,hcc⟩:=(HT.out.below (show Below w1.heap.size w1 wr by rw[HW.out.2];exact HB.out)).at_ hl0
    rw[HA.out] at hA3;injection hA3 with hA3
    injection hA3 with e3_ e4_
    subst e3_;subst e4_;have s0:=hcc k hlt;unfold strV at s0;obtain⟨s,hs⟩:∃s:ByteArray,s=⟨(tat u.L k).toArray⟩:=⟨_,rfl⟩;rw[←hs] at s0;have hsz9:s.size≤99:=by
     rw[hs,zaT];refine HR.out _ ?_;unfold tat;rw[List.getElem?_eq_getElem hlt];exact List.getElem_mem _
    have HSD:=Hh (show s.data.toList=tat u.L k by rw[hs]);obtain⟨t,ht⟩:∃t:ByteArray,t=⟨(zae s.data.toList).toArray⟩:=⟨_,rfl⟩;have HTR:=Hh ht;have HTD:=Hh (show t.data.toList=zae (tat u.L k) by rw[ht,←HSD.out]);have htz:t.size≤99:=by
     rw[ht,zaT];have:=zda s.data.toList;rw[zav] at this;omega
    have kw:IntKind.i64.wrap ((k:Int)+1)=(k:Int)+1:=IntWalk.i64_in _ (by omega);have j0:(0:Int)≤(k:Int):=by omega
    have j1:(k:Int)<(u.L.length:Int):=by omega
    have j3:decide ((k:Int)<(u.L.length:Int))=true:=decide_eq_true j1;have HLT:=Hh hlt;clear hcc hs ht hlt;by_cases hemp:zae (tat u.L k)=[]
    ·have x1:t.toList.isEmpty=true:=by rw[ByteArray.toList_eq,HTD.out,hemp];rfl
     have HSK:=Hh (zbY (b:=B) hemp);clear hemp;go_wp2_with (go_at_call 79;go_loud (refine(zdc s _ (by unfold maxLen;omega)).mono ?_;rintro e w2 ⟨rfl,rfl⟩;rw[←HTR.out]));go_roundw
     case rel=>exact⟨k+1,N,_,_,_,lz,by go_num,rfl,rfl,rfl,rfl,HLT.out,by rw[HSK.out];exact HLZ.out,by rw[HSK.out];exact HOW.out,HB.out⟩
     case measure=>have:=HLT.out;simp[intOf];omega
    ·have x1:t.toList.isEmpty=false:=by
      rw[ByteArray.toList_eq,HTD.out];cases hq:zae (tat u.L k) with
      | nil=>exact absurd hq hemp
      | cons x r=>rfl
     cases hj:(tokK B u.L k).2 with
     | none =>
      have HTF:=Hh (zdq (b:=B) hemp hj);obtain rfl:lz = -1:=by have:=HLZ.out;rw[hj] at this;exact this
      clear hemp hj;go_wp2_with (first
       | (go_at_call 79;go_loud (refine(zdc s _ (by unfold maxLen;omega)).mono ?_;rintro e w2 ⟨rfl,rfl⟩;rw[←HTR.out]))
       | (go_at_call 81;go_loud (refine(zgr B t base N _ _ _ HOW.out hsz htz (by omega)).mono ?_;rintro e w5 ⟨v5,rfl,ow5,b5⟩;have OW5:=Hh ow5;have B5:=Hh (HB.out.trans b5);clear ow5 b5)))
      go_roundw
      case rel=>exact⟨k+1,_,v5,_,_,k,by go_num,rfl,rfl,rfl,rfl,HLT.out,by rw[HTF.out];rfl,by rw[HTF.out,←HTD.out];exact OW5.out,B5.out⟩
      case measure=>have:=HLT.out;simp[intOf];omega
     | some j =>
      have HTF:=Hh (zdb (b:=B) hemp hj);have hjk:=zjW hj;obtain rfl:lz=(j:Int):=by have:=HLZ.out;rw[hj] at this;exact this
      have y1:decide ((j:Int)≥0)=true:=decide_eq_true (by omega);have y2:(0:Int)≤(j:Int):=by omega
      obtain⟨d,hd⟩:∃d,d=k-j:=⟨_,rfl⟩;have y3:IntKind.i64.wrap ((k:Int)-(j:Int))=(d:Int):=by rw[IntWalk.i64_in _ (by omega)];omega
      have hd9:d<100:=by omega
      obtain⟨tt,htt⟩:∃tt:ByteArray,tt=⟨(tokR d [36]).toArray⟩:=⟨_,rfl⟩;have HTT:=Hh htt;have HDD:=Hh hd;clear hemp hj htt hd;go_wp2_with (first
       | (go_at_call 79;go_loud (refine(zdc s _ (by unfold maxLen;omega)).mono ?_;rintro e w2 ⟨rfl,rfl⟩;rw[←HTR.out]))
       | (go_at_call 80;go_loud (refine(zgY d ⟨#[36]⟩ _ hd9 (by decide)).mono ?_;rintro e w3 ⟨rfl,rfl⟩;rw[show(⟨(tokR d (⟨#[36]⟩:ByteArray).data.toList).toArray⟩:ByteArray)=tt from HTT.out.symm]))
       | (at_builtin;go_loud (refine wpList_append_own_at _ rfl _ _ 49 rfl base 9 iT (.string ⟨#[]⟩) 1 16 Tryz.underlying49 HI.out.1 HI.out.2.1 HI.out.2.2.1 HI.out.2.2.2 rfl (by decide) _ _ _ rfl (HOW.out.next ((Below.refl _ _).alloc (Nat.le_refl _) (.cells #[.string tt] 9))).2 ⟨_,0,none⟩ 1 1 [.string tt] rfl rfl (cell_one_new _ _ _) (by simp[Value.oneCell']) (by simp only[maxLen];omega) (by omega) (by simp;omega) ?_;intro v2 w4 ho4 hg4 hn4 hk4;have OW4:=Hh (show OwS w4 base v2 (N+1) ((tokK B u.L k).1++[tokR d [36]]) from OwS.more HOW.out.1 (by rw[HTT.out] at ho4;exact ho4));have B4:=Hh ((HB.out.alloc hsz (.cells #[.string tt] 9)).grown hg4 (by rw[World.size_alloc];omega) (fun q hq=>(HOW.out.2.lt q hq).1));have hs4:=B4.out.size;rw[HW.out.2] at hs4;clear ho4 hg4 hn4 hk4))
       | (go_at_call 81;go_loud (refine(zgr B t base (N+1) _ _ _ OW4.out hs4 htz (by omega)).mono ?_;rintro e w5 ⟨v5,rfl,ow5,b5⟩;have OW5:=Hh ow5;have B5:=Hh (B4.out.trans b5);clear ow5 b5)))
      go_roundw
      case rel=>exact⟨k+1,_,v5,_,_,k,by go_num,rfl,rfl,rfl,rfl,HLT.out,by rw[HTF.out];rfl,by rw[HTF.out,←HTD.out,←HDD.out];exact OW5.out,B5.out⟩
      case measure=>have:=HLT.out;simp[intOf];omega
   ·have e:k=u.L.length:=by omega
    have t9:decide ((k:Int)<(u.L.length:Int))=false:=decide_eq_false (by omega);have t10:decide (k<u.L.length)=false:=decide_eq_false hlt;have t11:(k<u.L.length)=False:=eq_false hlt;have HE:=Hh (show(tokK B u.L k).1++[[33]]=zat u.L by(unfold zat;rw[e,HBB.out]));clear hlt e;go_wp2_with (at_builtin;go_loud (refine wpList_append_own_at _ rfl _ _ 49 rfl base 9 iT (.string ⟨#[]⟩) 1 16 Tryz.underlying49 HI.out.1 HI.out.2.1 HI.out.2.2.1 HI.out.2.2.2 rfl (by decide) _ _ _ rfl (HOW.out.next ((Below.refl _ _).alloc (Nat.le_refl _) (.cells #[.string ⟨#[33]⟩] 9))).2 ⟨_,0,none⟩ 1 1 [.string ⟨#[33]⟩] rfl rfl (cell_one_new _ _ _) (by simp[Value.oneCell']) (by simp only[maxLen];omega) (by omega) (by simp;omega) ?_;intro v2 w4 ho4 hg4 hn4 hk4;have OW4:=Hh (OwS.more (t:=[33]) HOW.out.1 ho4);have B4:=Hh ((HB.out.alloc hsz (.cells #[.string ⟨#[33]⟩] 9)).grown hg4 (by rw[World.size_alloc];omega) (fun q hq=>(HOW.out.2.lt q hq).1));clear ho4 hg4 hn4 hk4));go_ret;have h5:=OW4.out;rw[HE.out] at h5;obtain⟨A5,c5,e5,t5⟩:=h5.ts (fun r hr=>by have:=zdr HR.out HL.out r hr;unfold maxLen;omega);exact⟨A5,c5,N+1,by rw[←e5];rfl,h5.1,t5,HW.out.1.trans (B4.out.mono (by have:=HBS.out;omega))⟩
end Go.Proofs.YtfjajpnfjjdnpaaGreatDoor

namespace Go.Proofs.YtfjajpnfjjdnpaaGreatDoor
open Go.RowKit Lib Num Nds Txt
theorem zpm {l:List UInt8}{i:Nat}{x:UInt8}(hx:l[i]?=some x):(zae (l.take (i+1))).length=if x=0 then (zae (l.take i)).length else i+1:=by
 have hl:=(List.getElem?_eq_some_iff.1 hx).1;rw[List.take_add_one,hx];show(zae (l.take i++[x])).length=_;rw[zeM];by_cases h:x=0
 ·rw[if_pos h,if_pos h]
 ·rw[if_neg h,if_neg h,List.length_append,List.length_take];show min i l.length+1=_;omega
end Go.Proofs.YtfjajpnfjjdnpaaGreatDoor
