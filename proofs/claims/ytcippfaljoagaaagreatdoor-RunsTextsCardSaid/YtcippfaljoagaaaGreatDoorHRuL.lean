import Derived.Test.YtcippfaljoagaaaGreatDoorHFtM
import Derived.Test.YtcippfaljoagaaaGreatDoorLaidW

set_option linter.unusedVariables false
set_option linter.unusedSimpArgs false
set_option maxRecDepth 100000
set_option maxHeartbeats 6400000
namespace Go.Proofs.YtcippfaljoagaaaGreatDoor
open Go.RowKit Num Nds Txt
def zho (z:Int):List UInt8:=Digs.text (decide (z<0)) z.natAbs
theorem zcu {u:Bw}{W:World}{X:Int}(h:u.R W X):Digs.text u.s (val u.xs)=zho X:=by
 have hv:=h.v;have hc:=h.cn;unfold zho;have h1:X.natAbs=val u.xs:=by
  rw[←hv];unfold ival;split <;> simp
 have h2:decide (X<0)=u.s:=by
  cases hs:u.s with
  | false =>
   refine decide_eq_false ?_;rw[←hv,hs];show ¬ ((val u.xs:Nat):Int)<0;omega
  | true =>
   refine decide_eq_true ?_;have h3:=hc.2 hs;have h4:0<val u.xs:=Nat.pos_of_ne_zero fun e=>h3 (zbh hc.1 e);rw[←hv,hs];show -((val u.xs:Nat):Int)<0;omega
 rw[h1,h2]
def GfI (f:Int)(s:ByteArray)(q:List Nd)(n:Nat)(box nodes er X Y:Int)(L:List (List UInt8)):Prop :=
 (er≠0∧CkI f s q n box nodes er∧X=0∧Y=0∧L=[])∨(er=0∧CkI f s q n box nodes 0∧GoI q n box 0 X Y L)
theorem zgX {f:Int}{s:ByteArray}{q:List Nd}{n:Nat}{box nodes:Int}(h:CkI f s q n box nodes 0):mayP s q=true∧zcK box nodes=true∧ExpP f q n box:=by
 have h1:(fmtB f&&(mayP s q&&zcK box nodes))=true:=by
  cases e:(fmtB f&&(mayP s q&&zcK box nodes)) with
  | true=>rfl
  | false=>have:=h.1 e;omega
 have h2:=h1;rw[Bool.and_eq_true,Bool.and_eq_true] at h2;rcases h.2 h1 with h3|h3
 ·exact⟨h2.2.1,h2.2.2,h3.2⟩
 ·omega
theorem zmx {s:ByteArray}{q:List Nd}(h:mayP s q=true):zas q:=by
 unfold mayP at h;rw[Bool.and_eq_true] at h;exact zaL h.2
theorem zsO {f:Int}{s:ByteArray}{q:List Nd}{n:Nat}{box nodes er X Y:Int}{L:List (List UInt8)}(hf:f≠5)(h:CkI f s q n box nodes 0)(g:GoI q n box er X Y L):er=0:=by
 obtain⟨h1,h2,h3⟩:=zgX h;unfold zcK at h2;rw[decide_eq_true_iff] at h2;rcases h3 with h3|⟨⟨X2,Y2,V2,H2,ok2,b2,h4,h5⟩,-⟩
 ·exact absurd h3 hf
 ·rcases g with⟨h6,-⟩|⟨-,ok,X',Y',V,H,b,h6⟩
  ·omega
  ·obtain⟨-,-,-,rfl,rfl⟩:=b.one b2;rcases h6 with⟨h7,-⟩|⟨-,h7,-⟩
   ·omega
   ·exact h7
theorem GfI.one {f:Int}{s:ByteArray}{q:List Nd}{n:Nat}{box nodes er X Y er' X' Y':Int}{L L':List (List UInt8)}(h:GfI f s q n box nodes er X Y L)(k:GfI f s q n box nodes er' X' Y' L'):er=er'∧X=X'∧Y=Y'∧L=L':=by
 obtain⟨E,hE⟩:=zvq f s q n box nodes;rcases h with⟨h0,h1,rfl,rfl,rfl⟩|⟨rfl,h1,h2⟩
 ·have e1:=hE _ h1;rcases k with⟨k0,k1,rfl,rfl,rfl⟩|⟨rfl,k1,k2⟩
  ·exact⟨e1.trans (hE _ k1).symm,rfl,rfl,rfl⟩
  ·have e2:=hE _ k1;omega
 ·have e1:=hE _ h1;rcases k with⟨k0,k1,rfl,rfl,rfl⟩|⟨rfl,k1,k2⟩
  ·have e2:=hE _ k1;omega
  ·obtain⟨-,e3,e4,e5⟩:=h2.one k2;exact⟨rfl,e3,e4,e5⟩
structure Og (w:World)(A:Option Addr)(n c:Nat)(q:List Nd)(s:ByteArray)(box nodes:Int)(W:World):Prop where
 b:Below w.heap.size w W
 pk:W.heap[w.heap.size]?=some (.cells #[.string s,.slice A n c] 30)
 lk:W.heap[w.heap.size+1]?=some (.cells #[.int .i64 box,.int .i64 nodes] 24)
 ns:Ns W A c q
section
variable {w W W':World} {A:Option Addr} {n c:Nat} {q:List Nd} {s:ByteArray} {box nodes:Int}
theorem Og.next (h:Og w A n c q s box nodes W)(k:Below W.heap.size W W'):Og w A n c q s box nodes W' :=
 ⟨h.b.trans (k.mono h.b.size),(k.block _ (zad h.pk)).trans h.pk,(k.block _ (zad h.lk)).trans h.lk,h.ns.below k⟩
theorem Og.start (h:Ns w A c q):Og w A n c q s box nodes ((w.alloc (.cells #[.string s,.slice A n c] 30)).alloc (.cells #[.int .i64 box,.int .i64 nodes] 24)):=by
 have b1:=(Below.refl w.heap.size w).alloc (Nat.le_refl _) (.cells #[.string s,.slice A n c] 30);have b2:=b1.alloc b1.size (.cells #[.int .i64 box,.int .i64 nodes] 24);have x2:=heap_alloc_new (w.alloc (.cells #[.string s,.slice A n c] 30)) (.cells #[.int .i64 box,.int .i64 nodes] 24);rw[World.size_alloc] at x2;exact⟨b2,(((Below.refl _ _).alloc (Nat.le_refl _) _).block _ (by rw[World.size_alloc];omega)).trans (heap_alloc_new w _),x2,h.below b2⟩
theorem Og.cells (h:Og w A n c q s box nodes W):W.cell? ⟨w.heap.size,0,none⟩=some (.string s)∧W.cell? ⟨w.heap.size,1,none⟩=some (.slice A n c)∧W.cell? ⟨w.heap.size+1,0,none⟩=some (.int .i64 box)∧W.cell? ⟨w.heap.size+1,1,none⟩=some (.int .i64 nodes) :=
 ⟨(cell_of_row W _ 0 _ _ (0,0) h.pk).trans rfl,(cell_of_row W _ 1 _ _ (0,0) h.pk).trans rfl,(cell_of_row W _ 0 _ _ (0,0) h.lk).trans rfl,(cell_of_row W _ 1 _ _ (0,0) h.lk).trans rfl⟩
end
def sgnR (b:Bool)(n:Nat):List UInt8 :=
 if b=true∧n=0 then [98] else if b=true∧n=1 then [111] else if n=0 then [46] else if n≤24 then [UInt8.ofNat (64+n)] else [UInt8.ofNat (112+(n-25) / 24),UInt8.ofNat (65+(n-25)%24)]
def tokR (n:Nat)(s:List UInt8):List UInt8:=if n=1 then s else Digs.digs n++s
def runN:List UInt8→Nat
 | []=>0
 | x :: r=>if r.head?=some x then runN r+1 else 1
theorem zeY {r:List UInt8}(h:r≠[]):0<runN r:=by
 cases r with
 | nil=>exact absurd rfl h
 | cons x r =>
  unfold runN;split <;> omega
theorem zgY:∀r:List UInt8,runN r≤r.length
 | []=>Nat.le_refl _
 | x :: r=>by
  have:=zgY r;unfold runN;split
  ·rw[List.length_cons];omega
  ·rw[List.length_cons];omega
theorem zmy:∀{r:List UInt8} {i:Nat},i<runN r→r[i]?=r.head?
 | [],i,h=>absurd h (Nat.not_lt_zero _)
 | x :: r,0,_=>rfl
 | x :: r,i+1,h=>by
  unfold runN at h;by_cases hc:r.head?=some x
  ·rw[if_pos hc] at h;rw[List.getElem?_cons_succ,zmy (by omega:i<runN r),hc];rfl
  ·rw[if_neg hc] at h;omega
theorem zmz:∀(r:List UInt8),runN r=r.length∨r[runN r]?≠r.head?
 | []=>.inl rfl
 | x :: r=>by
  unfold runN;by_cases hc:r.head?=some x
  ·rw[if_pos hc];rcases zmz r with h|h
   ·exact .inl (by rw[h,List.length_cons])
   ·exact .inr (by rw[List.getElem?_cons_succ];rw[hc] at h;exact h)
  ·rw[if_neg hc];cases r with
   | nil=>exact .inl rfl
   | cons y r=>exact .inr (by rw[List.getElem?_cons_succ];exact hc)
theorem zlj {r:List UInt8}{i:Nat}(h0:0<i)(hi:i≤r.length)(ha:∀j,j<i→r[j]?=r.head?)(he:i=r.length∨r[i]?≠r.head?):runN r=i:=by
 have h1:=zgY r;rcases Nat.lt_trichotomy (runN r) i with h|h|h
 ·rcases zmz r with h2|h2
  ·omega
  ·exact absurd (ha _ h) h2
 ·exact h
 ·rcases he with h2|h2
  ·omega
  ·exact absurd (zmy h) h2
def rle (b:Bool):Nat→List UInt8→List (Nat × Nat)
 | 0,_=>[]
 | f+1,r=>match r with
  | []=>[]
  | x :: t=>(runN (x :: t),x.toNat) :: rle b f ((x :: t).drop (runN (x :: t)))
theorem zmA (b:Bool):∀(f g:Nat) (r:List UInt8),r.length≤f→r.length≤g→rle b f r=rle b g r
 | 0,0,r,_,_=>rfl
 | 0,g+1,r,h,_=>by
  have e:r=[]:=List.eq_nil_of_length_eq_zero (by omega);rw[e];rfl
 | f+1,0,r,_,h=>by
  have e:r=[]:=List.eq_nil_of_length_eq_zero (by omega);rw[e];rfl
 | f+1,g+1,r,h,k=>by
  cases r with
  | nil=>rfl
  | cons x t =>
   show _ :: _=_ :: _;have h1:=zeY (r:=x :: t) (by simp);have h2:((x :: t).drop (runN (x :: t))).length≤f∧((x :: t).drop (runN (x :: t))).length≤g:=by
    rw[List.length_drop];omega
   rw[zmA b f g _ h2.1 h2.2]
def zbG (b:Bool)(r:List UInt8):List (List UInt8):=(rle b r.length r).map fun p=>tokR p.1 (sgnR b p.2)
theorem zgZ (b:Bool):zbG b []=[]:=rfl
theorem zsc (b:Bool){r:List UInt8}(h:r≠[]):rle b r.length r=(runN r,(r.headD 0).toNat) :: rle b (r.drop (runN r)).length (r.drop (runN r)):=by
 cases r with
 | nil=>exact absurd rfl h
 | cons x t =>
  show _ :: _=_ :: _;have h1:=zeY (r:=x :: t) (by simp);rw[zmA b t.length ((x :: t).drop (runN (x :: t))).length _ (by rw[List.length_drop,List.length_cons];omega) (Nat.le_refl _)];rfl
theorem zcZ (b:Bool){r:List UInt8}(h:r≠[]):zbG b r=tokR (runN r) (sgnR b (r.headD 0).toNat) :: zbG b (r.drop (runN r)):=by
 unfold zbG;rw[zsc b h];rfl
theorem zdF (b:Bool):∀(n:Nat) (r:List UInt8),r.length≤n→(zbG b r).length≤r.length
 | 0,r,h=>by
  have e:r=[]:=List.eq_nil_of_length_eq_zero (by omega);rw[e];exact Nat.le_refl _
 | n+1,r,h=>by
  by_cases h0:r=[]
  ·rw[h0];exact Nat.le_refl _
  ·have h1:=zeY h0;have h2:=zgY r;have h3:=zdF b n (r.drop (runN r)) (by rw[List.length_drop];omega);rw[zcZ b h0,List.length_cons];rw[List.length_drop] at h3;omega
def tokK (b:Bool)(L:List (List UInt8)):Nat→List (List UInt8) × Option Nat
 | 0=>([],none)
 | k+1=>if zal (tat L k)=[] then tokK b L k else ((tokK b L k).1++(match (tokK b L k).2 with|none=>[]|some j=>[tokR (k-j) [36]])++zbG b (zal (tat L k)),some k)
theorem zdG {b:Bool}{L:List (List UInt8)}{k:Nat}(h:zal (tat L k)=[]):tokK b L (k+1)=tokK b L k:=if_pos h
theorem zdW {b:Bool}{L:List (List UInt8)}{k:Nat}(h:zal (tat L k)≠[])(h2:(tokK b L k).2=none):tokK b L (k+1)=((tokK b L k).1++zbG b (zal (tat L k)),some k):=by
 show(if _ then _ else _)=_;rw[if_neg h,h2];show((tokK b L k).1++[]++_,_)=_;rw[List.append_nil]
theorem zeZ {b:Bool}{L:List (List UInt8)}{k j:Nat}(h:zal (tat L k)≠[])(h2:(tokK b L k).2=some j):tokK b L (k+1)=((tokK b L k).1++[tokR (k-j) [36]]++zbG b (zal (tat L k)),some k):=by
 show(if _ then _ else _)=_;rw[if_neg h,h2]
theorem ziU {b:Bool}{L:List (List UInt8)}:∀{k j:Nat},(tokK b L k).2=some j→j<k
 | 0,j,h=>by cases h
 | k+1,j,h=>by
  by_cases h0:zal (tat L k)=[]
  ·rw[zdG h0] at h;have:=ziU h;omega
  ·have e:(tokK b L (k+1)).2=some k:=by
    show(if _ then _ else _:List (List UInt8) × Option Nat).2=_;rw[if_neg h0]
   rw[e] at h;cases h;omega
theorem zfa {b:Bool}{L:List (List UInt8)}{m:Nat}(hm:∀r∈L,r.length≤m):∀k,k≤L.length→(tokK b L k).1.length≤k*(m+1)
 | 0,_=>Nat.zero_le _
 | k+1,h=>by
  have ih:=zfa (b:=b) hm k (by omega);have h1:(tat L k).length≤m:=by
   unfold tat;rw[List.getElem?_eq_getElem (by omega)];exact hm _ (List.getElem_mem _)
  have h2:=zdF b _ (zal (tat L k)) (Nat.le_refl _);have h3:=zeW (tat L k);rw[Nat.add_mul,Nat.one_mul];by_cases h0:zal (tat L k)=[]
  ·rw[zdG h0];omega
  ·cases hj:(tokK b L k).2 with
   | none =>
    rw[zdW h0 hj];show((tokK b L k).1++_).length≤_;rw[List.length_append];omega
   | some j =>
    rw[zeZ h0 hj];show((tokK b L k).1++_++_).length≤_;rw[List.length_append,List.length_append];show _+1+_≤_;omega
def twoR (L:List (List UInt8)):Bool:=L.all fun r=>r.all fun x=>decide (x.toNat≤1)
def zbE (L:List (List UInt8)):List (List UInt8):=(tokK (twoR L) L L.length).1++[[33]]
def zbT (l:List (List UInt8)):Nat→List UInt8 × Nat
 | 0=>([],0)
 | k+1=>if 70<(zbT l k).2+(tat l k).length then ((zbT l k).1++[10]++tat l k,(tat l k).length) else ((zbT l k).1++tat l k,(zbT l k).2+(tat l k).length)
theorem zha {l:List (List UInt8)}{k:Nat}(h:70<(zbT l k).2+(tat l k).length):zbT l (k+1)=((zbT l k).1++[10]++tat l k,(tat l k).length):=if_pos h
theorem ziV {l:List (List UInt8)}{k:Nat}(h:¬ 70<(zbT l k).2+(tat l k).length):zbT l (k+1)=((zbT l k).1++tat l k,(zbT l k).2+(tat l k).length):=if_neg h
def ziW (l:List (List UInt8)):List UInt8:=(zbT l l.length).1++[10]
theorem zfb {l:List (List UInt8)}{m:Nat}(hm:∀r∈l,r.length≤m):∀k,k≤l.length→(zbT l k).1.length≤k*(m+1)∧(zbT l k).2≤k*(m+1)
 | 0,_=>⟨Nat.zero_le _,Nat.zero_le _⟩
 | k+1,h=>by
  have ih:=zfb hm k (by omega);have h1:(tat l k).length≤m:=by
   unfold tat;rw[List.getElem?_eq_getElem (by omega)];exact hm _ (List.getElem_mem _)
  rw[Nat.add_mul,Nat.one_mul];by_cases hc:70<(zbT l k).2+(tat l k).length
  ·rw[zha hc];show((zbT l k).1++[10]++tat l k).length≤_∧(tat l k).length≤_;rw[List.length_append,List.length_append];show _+1+_≤_∧_;omega
  ·rw[ziV hc];show((zbT l k).1++tat l k).length≤_∧_+(tat l k).length≤_;rw[List.length_append];omega
def zul:List UInt8:=[35,67,88,82,76,69,32,80,111,115,61]
def zum:List UInt8:=[120,32,61,32]
def zun:List UInt8:=[44,32,121,32,61,32]
def zuo:List UInt8:=[44,32,114,117,108,101,32,61,32]
def zfK (rule:List UInt8)(X Y:Int)(L:List (List UInt8)):List UInt8 :=
 zul++zho X++[44]++zho Y++[10]++(zum++Digs.digs (zhn L)++zun++Digs.digs L.length++zuo++rule++[10])++ziW (zbE L)
end Go.Proofs.YtcippfaljoagaaaGreatDoor

namespace Go.Proofs.YtcippfaljoagaaaGreatDoor
open Go.RowKit Lib
theorem zqd (w:World)(z:Int)(x:UInt8)(hz:z=(x.toNat:Int)) :
  (convert 75 9 (.slice (some ⟨w.heap.size,0,none⟩) 1 1)).run Tryz.prog (w.alloc (.cells #[.int .u8 z] 5))=.ok (.string ⟨#[x]⟩) (w.alloc (.cells #[.int .u8 z] 5)):=by
 subst hz;refine run_convert_bytes_back (P:=Tryz.prog) _ 75 9 5 ⟨w.heap.size,0,none⟩ 1 [x] Tryz.underlying75 Tryz.underlying5 Tryz.underlying9 (fun j hj=>?_);obtain rfl:j=0:=by simpa using hj
 exact cell_one_new _ _ _ 0 _ rfl
theorem zqe (w:World)(z y:Int)(x u:UInt8)(hz:z=(x.toNat:Int))(hy:y=(u.toNat:Int)) :
  (convert 75 9 (.slice (some ⟨w.heap.size,0,none⟩) 2 2)).run Tryz.prog (w.alloc (.cells #[.int .u8 z,.int .u8 y] 5))=.ok (.string ⟨#[x,u]⟩) (w.alloc (.cells #[.int .u8 z,.int .u8 y] 5)):=by
 subst hz;subst hy;refine run_convert_bytes_back (P:=Tryz.prog) _ 75 9 5 ⟨w.heap.size,0,none⟩ 2 [x,u] Tryz.underlying75 Tryz.underlying5 Tryz.underlying9 (fun j hj=>?_);have hc:=fun i=>cell_of_row _ _ i _ _ (0,0) (heap_alloc_new w (.cells #[.int .u8 (x.toNat:Int),.int .u8 (u.toNat:Int)] 5));have hj':j<2:=by simpa using hj
 match j,hj' with
 | 0,_=>exact(hc 0).trans rfl
 | 1,_=>exact(hc 1).trans rfl
theorem zfc (b:Bool)(n:Nat)(w:World)(hn:n≤255) :
  Calls Tryz.prog 31 #[.int .u8 (n:Int),.bool b] w fun e w'=>e=.returned (.string ⟨(sgnR b n).toArray⟩)∧Below w.heap.size w w':=by
 by_cases h0:n=0
 ·subst h0;cases b with
  | false =>
   go_enter Tryz.func31,Tryz.ntmps31;go_wp2_with fail;go_ret;exact⟨rfl,Below.refl _ _⟩
  | true =>
   go_enter Tryz.func31,Tryz.ntmps31;go_wp2_with fail;go_ret;exact⟨rfl,Below.refl _ _⟩
 ·by_cases h1:n=1∧b=true
  ·obtain⟨rfl,rfl⟩:=h1;go_enter Tryz.func31,Tryz.ntmps31;go_wp2_with fail;go_ret;exact⟨rfl,Below.refl _ _⟩
  ·obtain⟨T,hT⟩:∃T,T=sgnR b n:=⟨_,rfl⟩;have e0:¬ (b=true∧n=0):=fun e=>h0 e.2;have e1:¬ (b=true∧n=1):=fun e=>h1 ⟨e.2,e.1⟩;have t0:((n:Int)==0)=false:=beq_eq_false_iff_ne.2 (by omega);have t1:b=true→((n:Int)==1)=false:=fun hb=>beq_eq_false_iff_ne.2 (fun e=>h1 ⟨by omega,hb⟩);unfold sgnR at hT;rw[if_neg e0,if_neg e1,if_neg h0] at hT;rw[show sgnR b n=T by rw[hT];unfold sgnR;rw[if_neg e0,if_neg e1,if_neg h0]];by_cases h24:n≤24
   ·have t2:decide ((n:Int)≤24)=true:=decide_eq_true (by omega);rw[if_pos h24] at hT;obtain⟨z,hz⟩:∃z:Int,z=64+(n:Int):=⟨_,rfl⟩;obtain⟨y,hy⟩:∃y:Int,y=65+(n:Int):=⟨_,rfl⟩;have w1:IntKind.u8.wrap (65+(n:Int))=y:=by rw[hy];simp[IntKind.wrap,IntKind.bits,IntKind.signed];omega
    have w2:IntKind.u8.wrap (y-1)=z:=by rw[hy,hz];simp[IntKind.wrap,IntKind.bits,IntKind.signed];omega
    have hcv:=zqd w z (UInt8.ofNat (64+n)) (by rw[hz,UInt8.toNat_ofNat'];omega);have HT:=Hh (show(⟨#[UInt8.ofNat (64+n)]⟩:ByteArray)=⟨T.toArray⟩ by rw[hT]);rw[HT.out] at hcv;have HB:=Hh ((Below.refl w.heap.size w).alloc (Nat.le_refl _) (.cells #[.int .u8 z] 5));clear hT h0 h1 h24 e0 e1 hy hz;cases b with
    | false =>
     clear t1;go_enter Tryz.func31,Tryz.ntmps31;go_wp2_with fail;go_ret;exact⟨rfl,HB.out⟩
    | true =>
     have t3:=t1 rfl;clear t1;go_enter Tryz.func31,Tryz.ntmps31;go_wp2_with fail;go_ret;exact⟨rfl,HB.out⟩
   ·have t2:decide ((n:Int)≤24)=false:=decide_eq_false (by omega);rw[if_neg h24] at hT;obtain⟨m,hm⟩:∃m:Nat,n=m+25:=⟨n-25,by omega⟩;obtain⟨x,hx⟩:∃x:Int,x=(m:Int)+1:=⟨_,rfl⟩;obtain⟨y,hy⟩:∃y:Int,y=(m:Int):=⟨_,rfl⟩;have w1:IntKind.u8.wrap ((n:Int)-24)=x:=by rw[hm,hx];simp[IntKind.wrap,IntKind.bits,IntKind.signed];omega
    have w2:IntKind.u8.wrap (x-1)=y:=by rw[hx,hy];simp[IntKind.wrap,IntKind.bits,IntKind.signed];omega
    clear hx;obtain⟨q,hq⟩:∃q:Int,q=((m / 24:Nat):Int):=⟨_,rfl⟩;obtain⟨r,hr⟩:∃r:Int,r=((m%24:Nat):Int):=⟨_,rfl⟩;obtain⟨z,hz⟩:∃z:Int,z=112+q:=⟨_,rfl⟩;obtain⟨v,hv⟩:∃v:Int,v=65+r:=⟨_,rfl⟩;have d1:Int.tdiv y 24=q:=by rw[hy,hq];rfl
    have d2:Int.tmod y 24=r:=by rw[hy,hr];rfl
    have d3:IntKind.u8.wrap q=q:=by rw[hq];simp[IntKind.wrap,IntKind.bits,IntKind.signed];omega
    have d4:IntKind.u8.wrap r=r:=by rw[hr];simp[IntKind.wrap,IntKind.bits,IntKind.signed];omega
    have w3:IntKind.u8.wrap (112+q)=z:=by rw[hz,hq];simp[IntKind.wrap,IntKind.bits,IntKind.signed];omega
    have w4:IntKind.u8.wrap (65+r)=v:=by rw[hv,hr];simp[IntKind.wrap,IntKind.bits,IntKind.signed];omega
    have hcv:=zqe w z v (UInt8.ofNat (112+(n-25) / 24)) (UInt8.ofNat (65+(n-25)%24)) (by rw[hz,hq,UInt8.toNat_ofNat',hm,Nat.add_sub_cancel];omega) (by rw[hv,hr,UInt8.toNat_ofNat',hm,Nat.add_sub_cancel];omega);have HT:=Hh (show(⟨#[UInt8.ofNat (112+(n-25) / 24),UInt8.ofNat (65+(n-25)%24)]⟩:ByteArray)=⟨T.toArray⟩ by rw[hT]);rw[HT.out] at hcv;have HB:=Hh ((Below.refl w.heap.size w).alloc (Nat.le_refl _) (.cells #[.int .u8 z,.int .u8 v] 5));clear hT h0 h1 h24 e0 e1 hy hz hm hq hr hv;cases b with
    | false =>
     clear t1;go_enter Tryz.func31,Tryz.ntmps31;go_wp2_with fail;go_ret;exact⟨rfl,HB.out⟩
    | true =>
     have t3:=t1 rfl;clear t1;go_enter Tryz.func31,Tryz.ntmps31;go_wp2_with fail;go_ret;exact⟨rfl,HB.out⟩
theorem zdl (b:Bool)(n:Nat)(w:World)(hn:n≤255) :
  Calls Tryz.prog 32 #[.int .u8 (n:Int),.bool b] w fun e w'=>e=.returned (.string ⟨(sgnR b n).toArray⟩)∧Below w.heap.size w w':=by
 by_cases h0:n=0
 ·subst h0;cases b with
  | false =>
   go_enter Tryz.func32,Tryz.ntmps32;go_wp2_with fail;go_ret;exact⟨rfl,Below.refl _ _⟩
  | true =>
   go_enter Tryz.func32,Tryz.ntmps32;go_wp2_with fail;go_ret;exact⟨rfl,Below.refl _ _⟩
 ·by_cases h1:n=1∧b=true
  ·obtain⟨rfl,rfl⟩:=h1;go_enter Tryz.func32,Tryz.ntmps32;go_wp2_with fail;go_ret;exact⟨rfl,Below.refl _ _⟩
  ·obtain⟨T,hT⟩:∃T,T=sgnR b n:=⟨_,rfl⟩;have e0:¬ (b=true∧n=0):=fun e=>h0 e.2;have e1:¬ (b=true∧n=1):=fun e=>h1 ⟨e.2,e.1⟩;have t0:((n:Int)==0)=false:=beq_eq_false_iff_ne.2 (by omega);have t1:b=true→((n:Int)==1)=false:=fun hb=>beq_eq_false_iff_ne.2 (fun e=>h1 ⟨by omega,hb⟩);unfold sgnR at hT;rw[if_neg e0,if_neg e1,if_neg h0] at hT;rw[show sgnR b n=T by rw[hT];unfold sgnR;rw[if_neg e0,if_neg e1,if_neg h0]];by_cases h24:n≤24
   ·have t2:decide ((n:Int)≤24)=true:=decide_eq_true (by omega);rw[if_pos h24] at hT;obtain⟨z,hz⟩:∃z:Int,z=64+(n:Int):=⟨_,rfl⟩;obtain⟨y,hy⟩:∃y:Int,y=65+(n:Int):=⟨_,rfl⟩;have w1:IntKind.u8.wrap (65+(n:Int))=y:=by rw[hy];simp[IntKind.wrap,IntKind.bits,IntKind.signed];omega
    have w2:IntKind.u8.wrap (y-1)=z:=by rw[hy,hz];simp[IntKind.wrap,IntKind.bits,IntKind.signed];omega
    have hcv:=zqd w z (UInt8.ofNat (64+n)) (by rw[hz,UInt8.toNat_ofNat'];omega);have HT:=Hh (show(⟨#[UInt8.ofNat (64+n)]⟩:ByteArray)=⟨T.toArray⟩ by rw[hT]);rw[HT.out] at hcv;have HB:=Hh ((Below.refl w.heap.size w).alloc (Nat.le_refl _) (.cells #[.int .u8 z] 5));clear hT h0 h1 h24 e0 e1 hy hz;cases b with
    | false =>
     clear t1;go_enter Tryz.func32,Tryz.ntmps32;go_wp2_with fail;go_ret;exact⟨rfl,HB.out⟩
    | true =>
     have t3:=t1 rfl;clear t1;go_enter Tryz.func32,Tryz.ntmps32;go_wp2_with fail;go_ret;exact⟨rfl,HB.out⟩
   ·have t2:decide ((n:Int)≤24)=false:=decide_eq_false (by omega);rw[if_neg h24] at hT;obtain⟨m,hm⟩:∃m:Nat,n=m+25:=⟨n-25,by omega⟩;obtain⟨y,hy⟩:∃y:Int,y=(m:Int):=⟨_,rfl⟩;have w1:IntKind.u8.wrap ((n:Int)-25)=y:=by rw[hm,hy];simp[IntKind.wrap,IntKind.bits,IntKind.signed];omega
    obtain⟨q,hq⟩:∃q:Int,q=((m / 24:Nat):Int):=⟨_,rfl⟩;obtain⟨r,hr⟩:∃r:Int,r=((m%24:Nat):Int):=⟨_,rfl⟩;obtain⟨z,hz⟩:∃z:Int,z=112+q:=⟨_,rfl⟩;obtain⟨v,hv⟩:∃v:Int,v=65+r:=⟨_,rfl⟩;have d1:Int.tdiv y 24=q:=by rw[hy,hq];rfl
    have d2:Int.tmod y 24=r:=by rw[hy,hr];rfl
    have d3:IntKind.u8.wrap q=q:=by rw[hq];simp[IntKind.wrap,IntKind.bits,IntKind.signed];omega
    have d4:IntKind.u8.wrap r=r:=by rw[hr];simp[IntKind.wrap,IntKind.bits,IntKind.signed];omega
    have w3:IntKind.u8.wrap (112+q)=z:=by rw[hz,hq];simp[IntKind.wrap,IntKind.bits,IntKind.signed];omega
    have w4:IntKind.u8.wrap (65+r)=v:=by rw[hv,hr];simp[IntKind.wrap,IntKind.bits,IntKind.signed];omega
    have hcv:=zqe w z v (UInt8.ofNat (112+(n-25) / 24)) (UInt8.ofNat (65+(n-25)%24)) (by rw[hz,hq,UInt8.toNat_ofNat',hm,Nat.add_sub_cancel];omega) (by rw[hv,hr,UInt8.toNat_ofNat',hm,Nat.add_sub_cancel];omega);have HT:=Hh (show(⟨#[UInt8.ofNat (112+(n-25) / 24),UInt8.ofNat (65+(n-25)%24)]⟩:ByteArray)=⟨T.toArray⟩ by rw[hT]);rw[HT.out] at hcv;have HB:=Hh ((Below.refl w.heap.size w).alloc (Nat.le_refl _) (.cells #[.int .u8 z,.int .u8 v] 5));clear hT h0 h1 h24 e0 e1 hy hz hm hq hr hv;cases b with
    | false =>
     clear t1;go_enter Tryz.func32,Tryz.ntmps32;go_wp2_with fail;go_ret;exact⟨rfl,HB.out⟩
    | true =>
     have t3:=t1 rfl;clear t1;go_enter Tryz.func32,Tryz.ntmps32;go_wp2_with fail;go_ret;exact⟨rfl,HB.out⟩
end Go.Proofs.YtcippfaljoagaaaGreatDoor

namespace Go.Proofs.YtcippfaljoagaaaGreatDoor
open Go.RowKit Num Nds Txt
theorem Ns.patb {w:World}{A A0:Option Addr}{c n0 c0 g k:Nat}{l:List Nd}{u:Value}{s0:ByteArray}{t:TypeId}(h:Ns w A c l)(hb:w.heap[g]?=some (.cells #[.string s0,.slice A0 n0 c0] t)):Ns (w.setCell ⟨g,k,none⟩ u) A c l :=
 ⟨h.1,h.2.1,h.2.2.1,fun h0=>by
  obtain⟨b,off,e,hlt,hc⟩:=h.2.2.2 h0;have hne:b≠g:=fun e2=>by
   subst e2;have h1:=(hc 0 h0).1;rw[cell_of_row w b _ _ _ (0,0) hb] at h1;rcases off with _|_|off
   ·simp at h1
   ·simp at h1
   ·simp at h1
  exact⟨b,off,e,by simpa [World.setCell] using hlt,fun i hi=>(hc i hi).below (Below.heap_setCell w ⟨g,k,none⟩ u b hne)⟩⟩
def zwd (s:ByteArray)(l:List Cv)(most:Int)(w:World)(e:Ending)(w':World):Prop :=
 ∃A' c' qn q ok,e=.returned (.tuple #[.agg #[.string s,.slice A' qn c'],.bool (ok&&zdo s.data.toList)])∧q.length=qn∧Ns w' A' c' q∧(A'=none→c'=0)∧Below w.heap.size w w'∧ok=mayB l most∧(ok=false→q=[])∧(ok=true→zcU (zbC (l.map Cv.cl)) q)
theorem zsd (A:Option Addr)(c n:Nat)(most:Int)(s:ByteArray)(l:List Cv)(w:World)(hs:s.size≤maxLen)(h:Cs w A c l)(hn:l.length=n)(hm:most≤600) :
  Calls Tryz.prog 12 #[.string s,.slice A n c,.int .i64 most] w (zwd s l most w):=by
 have hcap:=h.cap;rw[hn] at hcap;have hb:=(Below.refl w.heap.size w).alloc (Nat.le_refl _) (.cells #[.string ⟨#[]⟩,.slice none 0 0] 30);have hq:=heap_alloc_new w (.cells #[.string ⟨#[]⟩,.slice none 0 0] 30);have HC:=Hh (h.below hb);have HN:=Hh hn;have HB:=Hh hb;have HQ:=Hh hq;have HS:=Hh hs;obtain⟨R,hR⟩:∃R,R=zdo s.data.toList:=⟨_,rfl⟩;have HR:=Hh hR;have q0:True:=trivial;clear h hn hb hq hs hR;go_enter Tryz.func12,Tryz.ntmps12;go_upto_region 2 with(have _t:=q0;go_at_call 42;clear _t;go_loud (refine(zpR A c n most l _ HC.out HN.out hm).mono ?_;rintro e w2 ⟨A5,c5,qn,q,ok,rfl,l5,n5,a5,b5,hok,hno,hqo⟩;have hc5:=n5.cap;rw[l5] at hc5;have H5:=Hh l5;have N5:=Hh n5;have A5':=Hh a5;have L5:=Hh b5.size;have B5:=Hh (HB.out.trans (b5.mono HB.out.size));have HQ:=Hh ((b5.block _ (zad HQ.out)).trans HQ.out);have OK:=Hh hok;have NO:=Hh hno;have QO:=Hh hqo;clear l5 n5 a5 b5 hok hno hqo;have q1:=q0;clear q0))
 have hb2:=(Below.refl w2.heap.size w2).alloc (Nat.le_refl _) (.cells #[.slice A5 qn c5] 28);have N6:=Hh (N5.out.below hb2);have B6:=Hh (B5.out.trans (hb2.mono B5.out.size));have Q6:=Hh ((hb2.block _ (zad HQ.out)).trans HQ.out);clear hb2 HQ B5 N5;obtain⟨W0,hW0⟩:∃W0:World,W0=(w2.alloc (.cells #[.slice A5 qn c5] 28)).drew:=⟨_,rfl⟩;have hd:=Below.drew' (Below.refl (w2.alloc (.cells #[.slice A5 qn c5] 28)).heap.size (w2.alloc (.cells #[.slice A5 qn c5] 28)));rw[←hW0] at hd;have hS0:=zab ((hd.block _ (by simp)).trans (heap_alloc_new w2 (.cells #[.slice A5 qn c5] 28)));have N7:=Hh (N6.out.below hd);have B7:=Hh (B6.out.trans (hd.mono B6.out.size));have Q7:=(hd.block _ (zad Q6.out)).trans Q6.out;obtain⟨r0,r1⟩:=zdB Q7;have r2:=frozen_of_row W0 w.heap.size 0 _ _ Q7;have r3:=frozen_of_row W0 w.heap.size 1 _ _ Q7;have hne:w.heap.size<w2.heap.size:=by have:=L5.out;rw[World.size_alloc] at this;omega
 have Q8:=Hh Q7;clear N6 B6 Q6 hd Q7;cases hok:ok with
 | false =>
  subst hok;refine wp_region_noPanic ?_;refine wp_region_held (S:=fun w'=>w'.cell? ⟨w2.heap.size,0,none⟩=some (.slice A5 qn c5)) (by kernel_rfl) ?_;change wpAnyH _ _ _ _ _ _ _ _ (w2.alloc (.cells #[.slice A5 qn c5] 28)).drew;rw[←hW0];clear hW0;refine Tk1 (v:=?_) 0 hS0 ?_ ?_;rotate_left
  ·rintro w' _;go_simp;first|done|with_reducible rfl|rfl
  simp only[Act.put,LA];refine Tk1 (v:=?_) 1 hS0 ?_ ?_;rotate_left
  ·rintro w' _;go_simp;first|done|with_reducible rfl|rfl
  simp only[Act.put,LA];refine Tk1 (v:=?_) 2 hS0 ?_ ?_;rotate_left
  ·rintro w' _;go_simp;first|done|with_reducible rfl|rfl
  simp only[Act.put,LA];refine Tk1 (v:=?_) 3 hS0 ?_ ?_;rotate_left
  ·rintro w' _;go_simp;first|done|with_reducible rfl|rfl
  simp only[Act.put,LA];refine Tk1 (v:=?_) 4 hS0 ?_ ?_;rotate_left
  ·rintro w' _;go_simp;first|done|with_reducible rfl|rfl
  simp only[Act.put,LA];refine Tk0 5 hS0 ?_;simp only[Act.put,LA];refine Tk0 6 hS0 ?_;simp only[Act.put,LA];refine Tk1 (v:=?_) 7 hS0 ?_ ?_;rotate_left
  ·rintro w' _;go_simp;first|done|with_reducible rfl|rfl
  simp only[Act.put,LA];refine Rd1 8 fun K hK=>?_;go_simp;refine hK.out _ _ (by rw[World.cell?_setCell_other _ _ _ _ (by simp),World.cell?_setCell_other _ _ _ _ (by simp)];exact hS0) (fun hS9=>?_);clear hK K;refine Tk1 (v:=?_) 9 hS9 ?_ ?_;rotate_left
  ·rintro w' _;go_simp;first|done|with_reducible rfl|rfl
  simp only[Act.put,LA];refine wpAnyH_done (by kernel_rfl) ?_ _;refine NoPanic.normal ?_;go_wp2_with fail;have QV:=(heap_setCell_same _ w.heap.size 1 _ _ (.slice A5 qn c5) ((heap_setCell_same W0 w.heap.size 0 _ _ (.string s) Q8.out).trans rfl)).trans rfl;obtain⟨e0,e1⟩:=zdB QV;refine bodyPost_ret (v:=.tuple #[.agg #[.string s,.slice A5 qn c5],.bool false]) (by simp[results,Tryz.results12,go_sem,e0,e1]) rfl ?_;have BV:=(B7.out.setCell (p:=⟨w.heap.size,0,none⟩) (Nat.le_refl _) (.string s)).setCell (p:=⟨w.heap.size,1,none⟩) (Nat.le_refl _) (.slice A5 qn c5);refine⟨A5,c5,qn,q,false,rfl,H5.out,?_,A5'.out,BV,OK.out,fun _=>NO.out (by trivial),fun h=>by(cases h)⟩;exact(N7.out.patb Q8.out).patb ((heap_setCell_same W0 w.heap.size 0 _ _ (.string s) Q8.out).trans rfl)
 | true =>
  subst hok;refine wp_region_noPanic ?_;refine wp_region_held (S:=fun w'=>w'.cell? ⟨w2.heap.size,0,none⟩=some (.slice A5 qn c5)) (by kernel_rfl) ?_;change wpAnyH _ _ _ _ _ _ _ _ (w2.alloc (.cells #[.slice A5 qn c5] 28)).drew;rw[←hW0];clear hW0;refine Tk1 (v:=?_) 0 hS0 ?_ ?_;rotate_left
  ·rintro w' _;go_simp;first|done|with_reducible rfl|rfl
  simp only[Act.put,LA];refine Tk1 (v:=?_) 1 hS0 ?_ ?_;rotate_left
  ·rintro w' _;go_simp;first|done|with_reducible rfl|rfl
  simp only[Act.put,LA];refine Tk1 (v:=?_) 2 hS0 ?_ ?_;rotate_left
  ·rintro w' _;go_simp;first|done|with_reducible rfl|rfl
  simp only[Act.put,LA];refine Tk1 (v:=?_) 3 hS0 ?_ ?_;rotate_left
  ·rintro w' _;go_simp;first|done|with_reducible rfl|rfl
  simp only[Act.put,LA];refine Tk1 (v:=?_) 4 hS0 ?_ ?_;rotate_left
  ·rintro w' _;go_simp;first|done|with_reducible rfl|rfl
  simp only[Act.put,LA];refine Tk1 (v:=?_) 5 hS0 ?_ ?_;rotate_left
  ·rintro w' _;go_simp;first|done|with_reducible rfl|rfl
  simp only[Act.put,LA];refine Rd1 6 fun K hK=>?_;go_simp;refine(zgm s _ HS.out).mono ?_;rintro e w3 ⟨rfl,rfl⟩;rw[←HR.out];dsimp only;refine hK.out _ _ hS0 (fun _=>?_);clear hK K;refine Tk1 (v:=?_) 7 hS0 ?_ ?_;rotate_left
  ·rintro w' _;go_simp;first|done|with_reducible rfl|rfl
  simp only[Act.put,LA];refine Rd1 8 fun K hK=>?_;go_simp;refine hK.out _ _ (by rw[World.cell?_setCell_other _ _ _ _ (by simp),World.cell?_setCell_other _ _ _ _ (by simp)];exact hS0) (fun hS9=>?_);clear hK K;refine Tk1 (v:=?_) 9 hS9 ?_ ?_;rotate_left
  ·rintro w' _;go_simp;first|done|with_reducible rfl|rfl
  simp only[Act.put,LA];refine wpAnyH_done (by kernel_rfl) ?_ _;refine NoPanic.normal ?_;go_wp2_with fail;have QV:=(heap_setCell_same _ w.heap.size 1 _ _ (.slice A5 qn c5) ((heap_setCell_same W0 w.heap.size 0 _ _ (.string s) Q8.out).trans rfl)).trans rfl;obtain⟨e0,e1⟩:=zdB QV;refine bodyPost_ret (v:=.tuple #[.agg #[.string s,.slice A5 qn c5],.bool R]) (by simp[results,Tryz.results12,go_sem,e0,e1]) rfl ?_;have BV:=(B7.out.setCell (p:=⟨w.heap.size,0,none⟩) (Nat.le_refl _) (.string s)).setCell (p:=⟨w.heap.size,1,none⟩) (Nat.le_refl _) (.slice A5 qn c5);refine⟨A5,c5,qn,q,true,by rw[HR.out];rfl,H5.out,?_,A5'.out,BV,OK.out,fun h=>by(cases h),fun _=>QO.out (by trivial)⟩;exact(N7.out.patb Q8.out).patb ((heap_setCell_same W0 w.heap.size 0 _ _ (.string s) Q8.out).trans rfl)
end Go.Proofs.YtcippfaljoagaaaGreatDoor

namespace Go.Proofs.YtcippfaljoagaaaGreatDoor
open Go.RowKit Lib
abbrev WbA (b:Nat)(p:Value)(bs:List Value)(w:World):Prop:=Lib.BuilderAtF 77 5 b b p bs w
abbrev Wb (b:Nat)(bs:List Value)(w:World):Prop:=Lib.IsBuilderF 77 5 b b bs w
theorem zvy:(77:TypeId)≠5:=by decide
theorem zse:liesAt Tryz.prog Tryz.prog.depth 77 (2 / Tryz.prog.cellsOf 77) 0 77 1=true:=by kernel_rfl
theorem zkb (b:Nat)(w:World)(h0:w.cell? ⟨b,0,none⟩=some (.pointer none))(hs:w.shape? b=some (77,2))(hf:w.frozen? ⟨b,0,none⟩=false) :
  Calls Tryz.prog 122 #[.pointer (some ⟨b,0,none⟩)] w fun e w'=>e=.returned (.tuple #[])∧w'=w.setCell ⟨b,0,none⟩ (.pointer (some ⟨b,0,none⟩)):=by
 obtain⟨j,hj,hjs⟩:=Option.map_eq_some_iff.1 zmw;go_enter Tryz.func122,Tryz.ntmps122;go_wp2;rw[Lib.run_to_unsafe w ⟨b,0,none⟩ Tryz.underlying74 Tryz.underlying192 hj (by rw[hjs];decide) hs (Nat.zero_lt_succ 1)];simp only[Result.andThen];rw[Oper.upon_value];go_wp2;rw[run_callFunc_extern Tryz.func154 (by kernel_rfl) (by kernel_rfl) (by kernel_rfl) (e:=Extern.AbiNoEscape.same) (by kernel_rfl),Lib.run_noEscape];simp only[Result.andThen];rw[Oper.upon_value];go_wp2;rw[Lib.run_from_unsafe w ⟨b,0,none⟩ Tryz.underlying192 Tryz.underlying74 hj hs zse];simp only[Result.andThen];rw[Oper.upon_value];go_wp2;go_end0;exact⟨rfl,rfl⟩
theorem zmB (b:Nat)(bs:List Value)(w:World)(h:Wb b bs w) :
  Calls Tryz.prog 122 #[.pointer (some ⟨b,0,none⟩)] w fun e w'=>e=.returned (.tuple #[])∧WbA b (.pointer (some ⟨b,0,none⟩)) bs w'∧Ke b w w':=by
 rcases h with h|h
 ·refine(zkb b w h.cell0 h.shape h.frozen0).mono ?_;rintro e w' ⟨rfl,rfl⟩;exact⟨rfl,h.used _,(Below.refl b w).setCell (p:=⟨b,0,none⟩) h.1 _,(Lib.OthersKept.refl _ _ w).setCell ⟨b,0,none⟩ rfl _⟩
 ·refine(ziR b w h.cell0).mono ?_;rintro e w' ⟨rfl,rfl⟩;exact⟨rfl,h,Ke.refl _ _⟩
theorem WbA.cells {b:Nat}{p:Value}{bs:List Value}{w:World}(h:WbA b p bs w):∃v,w.heap[b]?=some (.cells #[p,v] 77 (0,0))∧w.cell? ⟨b,0,none⟩=some p∧w.cell? ⟨b,1,none⟩=some v∧w.frozen? ⟨b,1,none⟩=false∧w.ownsRowF b 5 1 v bs.length bs∧v.ownBlock≠some b:=by
 obtain⟨-,v,hb,ho,hne⟩:=h;exact⟨v,hb,by rw[Lib.cell_of_heap hb];rfl,by rw[Lib.cell_of_heap hb];rfl,Lib.frozen_of_heap hb 1,ho,hne⟩
theorem WbA.grew {b:Nat}{p v v':Value}{bs cs:List Value}{w w1 w2:World}(hb:b≤w.heap.size)(k:Ke b w w1)(hbk:w1.heap[b]?=some (.cells #[p,v] 77 (0,0)))(ho:w1.ownsRowF b 5 1 v bs.length bs)(hne:v.ownBlock≠some b)
  (o:w2.ownsRowF b 5 1 v' (bs++cs).length (bs++cs)) (g:w1.grownBy w2 v.ownBlock) :
  w2.heap[b]?=some (.cells #[p,v] 77 (0,0))∧WbA b p (bs++cs) (w2.setCell ⟨b,1,none⟩ v')∧Ke b w (w2.setCell ⟨b,1,none⟩ v'):=by
 have hlt:b<w1.heap.size:=(Array.getElem?_eq_some_iff.1 hbk).1;have hb2:w2.heap[b]?=some (.cells #[p,v] 77 (0,0)):=by rw[g.block b hlt (fun e=>hne e.symm)];exact hbk
 exact⟨hb2,Lib.BuilderAtF.put (Nat.le_refl _) hb2 o zvy,(k.1.grown g (Nat.le_trans hb k.1.size) (fun q hq=>(ho.lt q hq).1)).setCell (p:=⟨b,1,none⟩) (Nat.le_refl _) _,(k.2.grown g (Lib.ownsRowF_kind ho)).setCell ⟨b,1,none⟩ rfl _⟩
theorem zqf (b:Nat)(bs:List Value)(s:ByteArray)(w:World)(h:Wb b bs w)(hl:bs.length+s.size≤140737488355328)(hb:b≤w.heap.size) :
  Calls Tryz.prog 85 #[.pointer (some ⟨b,0,none⟩),.string s] w fun e w'=>e=.returned (.tuple #[.int .i64 s.size,.nilIface])∧WbA b (.pointer (some ⟨b,0,none⟩)) (bs++strCells s) w'∧Ke b w w':=by
 obtain⟨i0,hi,hz0,hz1,hz2⟩:=info_parts zmv;go_enter Tryz.func85,Tryz.ntmps85;go_wp2_with (first
  | (go_at_call 122;go_loud (refine(zmB b _ _ h).mono ?_;rintro e w1 ⟨rfl,h1,k1⟩;obtain⟨v,hbk,c0,c1,-,ho,hne⟩:=h1.cells))
  | (at_builtin;go_loud (refine wpList_append_own_stringF _ rfl _ _ 75 9 rfl b 5 i0 Tryz.underlying75 Tryz.underlying9 hi hz0 hz1 hz2 _ _ _ rfl ho s rfl (by unfold maxLen;omega) (by omega) (by have:=k1.1.size;omega) ?_;intro v' w2 ho2 hg2 _;have hc:=WbA.grew hb k1 hbk ho hne (v':=v') (cs:=strCells s) (by rw[List.length_append,strCells_length];exact ho2) hg2;obtain⟨hb2,h3,k3⟩:=hc;have d0:w2.cell? ⟨b,0,none⟩=some (.pointer (some ⟨b,0,none⟩)):=(Lib.cell_of_heap hb2 0).trans rfl;have d1:w2.cell? ⟨b,1,none⟩=some v:=(Lib.cell_of_heap hb2 1).trans rfl;have f1:w2.frozen? ⟨b,1,none⟩=false:=Lib.frozen_of_heap hb2 1;obtain⟨A2,c2,rfl⟩:=zhQ ho2)))
 go_ret2;exact⟨rfl,h3,k3⟩
theorem zmC (b:Nat)(l:List UInt8)(s:ByteArray)(w:World)(h:Wb b (byteCells l) w)(hl:l.length+s.size≤140737488355328)(hb:b≤w.heap.size) :
  Calls Tryz.prog 85 #[.pointer (some ⟨b,0,none⟩),.string s] w fun e w'=>e=.returned (.tuple #[.int .i64 s.size,.nilIface])∧Wb b (byteCells (l++s.data.toList)) w'∧Ke b w w':=by
 refine(zqf b _ s w h (by rw[byteCells_length];exact hl) hb).mono ?_;rintro e w' ⟨rfl,h1,h2⟩;rw[strCells_eq,←byteCells_append] at h1;exact⟨rfl,.inr h1,h2⟩
theorem zsf (b:Nat)(bs:List Value)(n:Nat)(hn:bs.length=n)(r:Int)(w:World)(h:Wb b bs w)(hl:n+1≤140737488355328)(hb:b≤w.heap.size) :
  Calls Tryz.prog 117 #[.pointer (some ⟨b,0,none⟩),.int .u8 r] w fun e w'=>e=.returned .nilIface∧WbA b (.pointer (some ⟨b,0,none⟩)) (bs++[.int .u8 r]) w'∧Ke b w w':=by
 obtain⟨i0,hi,hz0,hz1,hz2⟩:=info_parts zmv;go_enter Tryz.func117,Tryz.ntmps117;go_wp2_with (first
  | (go_at_call 122;go_loud (refine(zmB b _ _ h).mono ?_;rintro e w1 ⟨rfl,h1,k1⟩;obtain⟨v,hbk,c0,c1,-,ho,hne⟩:=h1.cells;rw[hn] at ho;have hlt:b<w1.heap.size:=(Array.getElem?_eq_some_iff.1 hbk).1;have e1:(w1.alloc (.cells #[.int .u8 r] 5)).cell? ⟨b,1,none⟩=some v:=(Lib.cell_of_heap ((Lib.alloc_old w1 _ b hlt).trans hbk) 1).trans rfl))
  | (at_builtin;go_loud (refine wpList_append_ownF _ rfl _ _ 75 rfl b 5 i0 (.int .u8 0) 1 1 Tryz.underlying75 hi hz0 hz1 hz2 rfl (by decide) _ _ _ rfl (ho.alloc _) ⟨w1.heap.size,0,none⟩ 1 1 [.int .u8 r] rfl rfl (fun j u hj=>by(match j,hj with|0,hj=>(simp at hj;subst hj;simp[Addr.add])|(j+1),hj=>simp at hj)) (fun u hu=>by(simp at hu;subst hu;rfl)) (by unfold maxLen;omega) (by omega) (by have:=k1.1.size;simp;omega) ?_;intro v' w2 ho2 hg2 _;have hc:=WbA.grew (w1:=w1.alloc (.cells #[.int .u8 r] 5)) hb (⟨k1.1.alloc (by have:=k1.1.size;omega) _,k1.2.alloc _⟩:Ke b w (w1.alloc (.cells #[.int .u8 r] 5))) ((Lib.alloc_old w1 _ b hlt).trans hbk) (by rw[hn];exact ho.alloc _) hne (v':=v') (cs:=[.int .u8 r]) (by rw[List.length_append,hn];exact ho2) hg2;obtain⟨hb2,h3,k3⟩:=hc;have d0:w2.cell? ⟨b,0,none⟩=some (.pointer (some ⟨b,0,none⟩)):=(Lib.cell_of_heap hb2 0).trans rfl;have d1:w2.cell? ⟨b,1,none⟩=some v:=(Lib.cell_of_heap hb2 1).trans rfl;have f1:w2.frozen? ⟨b,1,none⟩=false:=Lib.frozen_of_heap hb2 1;obtain⟨A2,c2,rfl⟩:=zhQ ho2)))
 go_ret;exact⟨rfl,h3,k3⟩
theorem zqg (b:Nat)(l:List UInt8)(r:UInt8)(w:World)(h:Wb b (byteCells l) w)(hl:l.length+1≤140737488355328)(hb:b≤w.heap.size) :
  Calls Tryz.prog 117 #[.pointer (some ⟨b,0,none⟩),.int .u8 (r.toNat:Int)] w fun e w'=>e=.returned .nilIface∧Wb b (byteCells (l++[r])) w'∧Ke b w w':=by
 refine(zsf b _ _ (byteCells_length l) (r.toNat:Int) w h hl hb).mono ?_;rintro e w' ⟨he,h2,h3⟩;rw[show([.int .u8 (r.toNat:Int)]:List Value)=byteCells [r] from rfl,←byteCells_append] at h2;exact⟨he,.inr h2,h3⟩
theorem zup (b:Nat)(l:List UInt8)(w:World)(h:Wb b (byteCells l) w)(h0:l≠[]) :
  Calls Tryz.prog 47 #[.pointer (some ⟨b,0,none⟩)] w fun e w'=>e=.returned (.string ⟨l.toArray⟩)∧Below b w w':=by
 obtain⟨p,hA⟩:∃p,WbA b p (byteCells l) w:=by
  rcases h with h|h
  ·exact⟨_,h⟩
  ·exact⟨_,h⟩
 obtain⟨v,hbk,-,c1,-,ho,hne⟩:=hA.cells;have hl0:l.length≠0:=by simpa using h0
 rw[byteCells_length] at ho;obtain⟨g,cap,cur,fz,rfl,hbg,hg,hcm,hnc,hcs⟩:∃g cap cur fz,v=.slice (some ⟨g,0,none⟩) l.length cap∧b≤g∧w.heap[g]?=some (.cells cur 5 fz)∧cap≤maxLen∧l.length≤cap∧l.length≤cur.size:=by
  rcases ho.2 with⟨-,hz⟩|⟨g,cap,cur,fz,hv,r1,r2,-,r3,r4,r5,-⟩
  ·exact absurd hz hl0
  ·exact⟨g,cap,cur,fz,hv,r1,r2,r4,r3,by omega⟩
 have c2:w.drew.cell? ⟨b,1,none⟩=some (.slice (some ⟨g,0,none⟩) l.length cap):=c1;have hSD:(Builtin.unsafeSliceData_ #[75] 131 #[.slice (some ⟨g,0,none⟩) l.length cap]).run Tryz.prog w.drew=.ok (.pointer (some ⟨g,0,none⟩)) w.drew:=run_unsafeSliceData_row _ _ _ _ _ _ (by omega);have hUS:(Builtin.unsafeString_ #[131,3] 9 #[.pointer (some ⟨g,0,none⟩),.int .i64 l.length]).run Tryz.prog w.drew=.ok (.string ⟨l.toArray⟩) (w.drew.freeze ⟨g,0,none⟩ l.length) :=
  run_unsafeString_row w.drew 131 3 9 5 Tryz.underlying131 (by kernel_rfl) g cur.size (by have hg':w.drew.heap[g]?=some (.cells cur 5 fz):=hg;simp[World.shape?,hg']) l h0 hcs (by unfold maxLen at hcm;omega) (fun j x hx=>ho.cells (g:=g) rfl j (.int .u8 x.toNat) (by simp[byteCells,hx]))
 have mixed:Tryz.prog.follows .mixedOrders=true:=by kernel_rfl
 go_enter Tryz.func47,Tryz.ntmps47;go_wp2;go_region_o
 all_goals (go_wp2;go_ret;exact⟨rfl,below_freeze (Below.drew (Below.refl b w)) (p:=⟨g,0,none⟩) hbg _⟩)
theorem Wb.fresh (w:World):Wb w.heap.size (Lib.byteCells []) (w.alloc (.cells #[.pointer none,.slice none 0 0] 77)):=Lib.IsBuilderF.of (Lib.fresh_isBuilder 77 5 w)
theorem zsg {n:Nat}(h:n<100):Lib.decDigits n=Digs.digs n:=by
 have h1:((List.range 100).all fun n=>Lib.decDigits n==Digs.digs n)=true:=by kernel_rfl
 have h2:=List.all_eq_true.1 h1 n (List.mem_range.2 h);exact eq_of_beq h2
theorem zhb (n:Nat)(w:World)(h:n<100) :
  Calls Tryz.prog 78 #[.int .i64 (n:Int)] w fun e w'=>e=.returned (.string ⟨(Digs.digs n).toArray⟩)∧w'=w:=by
 refine(Any.strconv_Itoa_small Tryz.itS n h w).mono ?_;rintro e w' ⟨rfl,rfl⟩;rw[zsg h];exact⟨rfl,rfl⟩
theorem zsP (a:List UInt8)(s:ByteArray):(⟨a.toArray⟩:ByteArray)++s=⟨(a++s.data.toList).toArray⟩:=by
 refine zjY ?_;simp[ByteArray.data_append]
theorem zdm {n:Nat}(h:n<100):(Digs.digs n).length≤2:=Digs.digs_length_le (k:=2) (by omega) (by omega)
theorem zhS (n:Nat)(s:ByteArray)(w:World)(hn:n<100)(hs:s.size≤1000) :
  Calls Tryz.prog 69 #[.int .i64 (n:Int),.string s] w fun e w'=>e=.returned (.string ⟨(tokR n s.data.toList).toArray⟩)∧w'=w:=by
 by_cases h1:n=1
 ·subst h1;have HT:=Hh (show(⟨(tokR 1 s.data.toList).toArray⟩:ByteArray)=s from zjY rfl);rw[HT.out];go_enter Tryz.func69,Tryz.ntmps69;go_wp2_with fail;go_ret;exact⟨rfl,rfl⟩
 ·have t1:((n:Int)==1)=false:=beq_eq_false_iff_ne.2 (by omega);obtain⟨a,ha⟩:∃a:ByteArray,a=⟨(Digs.digs n).toArray⟩:=⟨_,rfl⟩;have HA:=Hh ha;have hz:a.size≤2:=by rw[ha,zax];exact zdm hn
  have HT:=Hh (show(⟨(tokR n s.data.toList).toArray⟩:ByteArray)=a++s by
   rw[ha,zsP];unfold tokR;rw[if_neg h1])
  rw[HT.out];have m1:(9223372036854775807<a.size+s.size)=False:=eq_false (by omega);have HN:=Hh hn;clear ha h1;go_enter Tryz.func69,Tryz.ntmps69;go_wp2_with (go_at_call 78;go_loud (refine(zhb n _ HN.out).mono ?_;rintro e w1 ⟨rfl,rfl⟩;rw[←HA.out]));go_ret;exact⟨rfl,rfl⟩
theorem zdH (s:ByteArray)(w:World)(hs:s.size≤maxLen) :
  Calls Tryz.prog 68 #[.string s] w fun e w'=>e=.returned (.string ⟨(zal s.data.toList).toArray⟩)∧w'=w:=by
 go_enter Tryz.func68,Tryz.ntmps68;go_wp2_with (go_at_call 107;go_loud (refine(zpZ s _ hs).mono ?_;rintro e w1 ⟨rfl,rfl⟩));go_ret;exact⟨rfl,rfl⟩
theorem zsh {s:ByteArray}{i:Nat}(h:i<s.size)(hx:s.data.toList[i]?=s.data.toList.head?)(ha:∀j,j<i→s.data.toList[j]?=s.data.toList.head?):∀j,j<i+1→s.data.toList[j]?=s.data.toList.head?:=fun j hj=>by
 rcases Nat.lt_or_ge j i with h1|h1
 ·exact ha j h1
 ·rw[show j=i by omega];exact hx
theorem zsi (s:ByteArray)(w:World)(hs:s.size≤1000000)(h0:0<s.size) :
  Calls Tryz.prog 108 #[.string s] w fun e w'=>e=.returned (.int .i64 (runN s.data.toList:Int))∧Below w.heap.size w w':=by
 have hg0:=zbH h0;have hhd:s.data.toList.head?=some (s[0]'h0):=by rw[List.head?_eq_getElem?];exact hg0
 have HD:=Hh hhd;obtain⟨R,hR⟩:∃R,R=runN s.data.toList:=⟨_,rfl⟩;have HR:=Hh hR;rw[←hR];have hm:s.size≤9223372036854775800:=by omega
 have z0:(0:Int)<(s.size:Int):=by omega
 have z1:(0<s.size)=True:=eq_true h0;obtain⟨x0,hx0⟩:∃x,x=(s[0]'h0).toNat:=⟨_,rfl⟩;have HX0:=Hh hx0;clear hg0 hhd hR hs hx0;go_enter Tryz.func108,Tryz.ntmps108;go_wp2_with fail;go_loopw [6,3] (fun z1 z2 wr=>∃(i:Nat) (v:Value),z1=.int .i64 i∧v=z2∧i≤s.size∧(∀j,j<i→s.data.toList[j]?=s.data.toList.head?)∧Below w.heap.size w wr) (fun z1 _ _=>s.size-(intOf z1).toNat)
 case atStart=>exact⟨0,_,rfl,rfl,Nat.zero_le _,fun j hj=>by omega,Below.refl _ _⟩
 case round =>
  obtain⟨i,v,rfl,rfl,hi,ha,hb⟩:=hrel;have HA:=Hh ha;have HB:=Hh hb;have iw:IntKind.i64.wrap ((i:Int)+1)=(i:Int)+1:=IntWalk.i64_in _ (by omega);clear ha hb;by_cases hlt:i<s.size
  ·have hgt:=zbH hlt;have HGT:=Hh hgt;have HLT:=Hh hlt;have i0:(0:Int)≤(i:Int):=by omega
   have i1:(i:Int)<(s.size:Int):=by omega
   have j3:decide ((i:Int)<(s.size:Int))=true:=decide_eq_true i1;clear hgt;by_cases hx:(s[i]'hlt)=s[0]'h0
   ·have u1:((((s[i]'hlt).toNat:Nat):Int)!=(((s[0]'h0).toNat:Nat):Int))=false:=by rw[hx];exact bne_self_eq_false _
    have HX:=Hh hx;clear hx;go_wp2_with fail;go_quiet (fail);go_wp2_with fail;go_roundw
    case rel=>exact⟨i+1,_,by go_num,rfl,HLT.out,zsh HLT.out (by rw[HGT.out,HD.out,HX.out]) HA.out,zaa HB.out _⟩
    case measure=>have:=HLT.out;simp[intOf];omega
   ·have u1:((((s[i]'hlt).toNat:Nat):Int)!=(((s[0]'h0).toNat:Nat):Int))=true:=by
     rw[bne_iff_ne];exact fun e=>hx (UInt8.toNat_inj.1 (by omega))
    have HX:=Hh hx;have HRI:=Hh (show R=i by
     rw[HR.out];refine zlj (Nat.pos_of_ne_zero fun e=>?_) (by rw[zaN];exact hi) HA.out (.inr ?_)
     ·subst e;exact hx rfl
     ·rw[HGT.out,HD.out];exact fun e=>hx (Option.some.inj e))
    clear hx;go_wp2_with fail;go_quiet (fail);go_wp2_with fail;go_ret;exact⟨by rw[HRI.out];rfl,zaa HB.out _⟩
  ·have e:i=s.size:=by omega
   have t9:decide ((i:Int)<(s.size:Int))=false:=decide_eq_false (by omega);have t10:decide (i<s.size)=false:=decide_eq_false hlt;have t11:(i<s.size)=False:=eq_false hlt;have HRI:=Hh (show R=s.size by
    rw[HR.out];refine zlj h0 (by rw[zaN];exact Nat.le_refl _) (by rw[←e];exact HA.out) (.inl (by rw[zaN])))
   clear hlt e;go_wp2_with fail;go_ret;exact⟨by rw[HRI.out];rfl,HB.out⟩
theorem Tryz.infoTs:(Tryz.prog.info? 9).map (fun i=>(i.zero,i.size,i.bytes))=some (some (.string ⟨#[]⟩),1,16):=by kernel_rfl
def OwS (W:World)(base:Nat)(v:Value)(n:Nat)(L:List (List UInt8)):Prop:=L.length=n∧W.ownsRow base 9 1 v n (L.map strV)
theorem OwS.nil (W:World)(base:Nat):OwS W base (.slice none 0 0) 0 []:=⟨rfl,World.ownsRow_nil _ _ _ 1⟩
theorem OwS.more {W:World}{base n:Nat}{v:Value}{L:List (List UInt8)}{t:List UInt8}(h:L.length=n)(k:W.ownsRow base 9 1 v (n+1) (L.map strV++[strV t])):OwS W base v (n+1) (L++[t]) :=
 ⟨by rw[List.length_append,h];rfl,by rw[List.map_append];exact k⟩
theorem OwS.next {W W':World}{base n:Nat}{v:Value}{L:List (List UInt8)}(h:OwS W base v n L)(k:Below W.heap.size W W'):OwS W' base v n L :=
 ⟨h.1,h.2.1,by
  rcases h.2.2 with h2|⟨g,cap,cur,hv,r1,r2,r3⟩
  ·exact .inl h2
  ·exact .inr ⟨g,cap,cur,hv,r1,(k.block _ (Array.getElem?_eq_some_iff.1 r2).1).trans r2,r3⟩⟩
theorem zgj (b:Bool)(n:Nat):(sgnR b n).length≤2:=by
 unfold sgnR;split
 ·simp
 ·split
  ·simp
  ·split
   ·simp
   ·split <;> simp
theorem zsj (t:ByteArray)(m:Nat):(t.extract m t.size).data.toList=t.data.toList.drop m:=by
 rw[ByteArray.data_extract,Array.toList_extract,List.extract_eq_take_drop];exact List.take_of_length_le (by rw[List.length_drop,zaN];exact Nat.le_refl _)
theorem zmD {n:Nat}{s:List UInt8}(h:n<100)(hs:s.length≤2):(tokR n s).length≤4:=by
 unfold tokR;split
 ·omega
 ·rw[List.length_append];have:=zdm h;omega
theorem zhc (b:Bool)(s:ByteArray)(base n:Nat)(v:Value)(L:List (List UInt8))(w:World)(ho:OwS w base v n L)(hb:base≤w.heap.size)(hs:s.size≤99)(hn:n≤1000000) :
  Calls Tryz.prog 70 #[v,.string s,.bool b] w fun e w'=>∃v',e=.returned v'∧OwS w' base v' (n+(zbG b s.data.toList).length) (L++zbG b s.data.toList)∧Below base w w':=by
 obtain⟨iT,hi,hz0,hz1,hz2⟩:=zdD Tryz.infoTs;have HI:=Hh (And.intro hi (And.intro hz0 (And.intro hz1 hz2)));have hTL:=zdF b _ s.data.toList (Nat.le_refl _);rw[zaN] at hTL;obtain⟨T,hT⟩:∃T,T=L++zbG b s.data.toList:=⟨_,rfl⟩;obtain⟨N,hN⟩:∃N,N=n+(zbG b s.data.toList).length:=⟨_,rfl⟩;rw[←hT,←hN];have HT:=Hh hT;have HN:=Hh (show T.length=N by rw[hT,hN,List.length_append,ho.1]);have HN9:=Hh (show N≤1000100 by omega);have HO:=Hh ho;have HBW:=Hh hb;clear hi hz0 hz1 hz2 hT hN ho hb hTL;go_enter Tryz.func70,Tryz.ntmps70;go_wp2_with fail;go_loopw [0,1,7] (fun z1 z2 z3 wr=>∃(v' y:Value) (r:ByteArray) (m:Nat) (M:List (List UInt8)),v'=z1∧z2=.string r∧y=z3∧M++zbG b r.data.toList=T∧r.size≤99∧OwS wr base v' m M∧Below base w wr) (fun _ z2 _ _=>zsM z2)
 case atStart=>exact⟨_,_,s,n,L,rfl,rfl,rfl,HT.out.symm,hs,HO.out,Below.refl _ _⟩
 case round =>
  obtain⟨v',y,r,m,M,rfl,rfl,rfl,hM,hr,hown,hbl⟩:=hrel;have HM:=Hh hM;have HOW:=Hh hown;have HB:=Hh hbl;have hb0:=HBW.out;have hsz:=Nat.le_trans hb0 hbl.size;have hm9:m≤1000100:=by
   have h1:=congrArg List.length hM;rw[List.length_append,HN.out,hown.1] at h1;have:=HN9.out;omega
  clear hM hown hbl;rcases Nat.eq_zero_or_pos r.size with h0|h0
  ·have hl:r.data.toList=[]:=List.eq_nil_of_length_eq_zero (by rw[zaN];exact h0);have e1:r.toList.isEmpty=true:=by
    rw[ByteArray.toList_eq,hl];rfl
   have HE:=Hh (show M=T by have:=HM.out;rw[hl,zgZ,List.append_nil] at this;exact this);have HE2:=Hh (show m=N by rw[←HOW.out.1,HE.out];exact HN.out);clear hl h0;go_wp2_with fail;go_ret;exact⟨_,rfl,by rw[←HE.out,←HE2.out];exact HOW.out,HB.out⟩
  ·have hl:r.data.toList≠[]:=fun e=>by
    have:=zaN r;rw[e] at this;simp at this;omega
   have e1:r.toList.isEmpty=false:=by
    rw[ByteArray.toList_eq];cases hq:r.data.toList with
    | nil=>exact absurd hq hl
    | cons x t=>rfl
   have hhd:r.data.toList.headD 0=r[0]'h0:=by
    have h1:=zbH h0;cases hq:r.data.toList with
    | nil=>exact absurd hq hl
    | cons x t =>
     rw[hq] at h1;exact Option.some.inj h1
   obtain⟨c,hc⟩:∃c,c=runN r.data.toList:=⟨_,rfl⟩;have hc1:=zgY r.data.toList;have hc0:=zeY hl;rw[zaN,←hc] at hc1;rw[←hc] at hc0;obtain⟨x0,hx0⟩:∃x,x=(r[0]'h0).toNat:=⟨_,rfl⟩;obtain⟨g,hg⟩:∃g:ByteArray,g=⟨(sgnR b x0).toArray⟩:=⟨_,rfl⟩;have hgz:g.size≤2:=by rw[hg,zax];exact zgj _ _
   obtain⟨t,ht⟩:∃t,t=tokR c g.data.toList:=⟨_,rfl⟩;have HTK:=Hh (show zbG b r.data.toList=t :: zbG b (r.data.toList.drop c) by
    rw[zcZ b hl,hhd,←hc,←hx0,ht,hg])
   have HC:=Hh hc;have HG:=Hh hg;have HX:=Hh hx0;have HTT:=Hh ht;have hx9:x0≤255:=by rw[hx0];have:=(r[0]'h0).toNat_lt;omega
   have k0:(0:Int)≤(c:Int):=by omega
   have k1:(c:Int)≤(r.size:Int):=by omega
   have k2:(0:Int)<(r.size:Int):=by omega
   have k3:(0<r.size)=True:=eq_true h0;have HDR:=Hh (zsj r c);have hc9:c<100:=by omega
   have HH0:=Hh h0;clear hl hhd hc hg ht;go_wp2_with (first
    | (go_at_call 108;go_loud (refine(zsi r _ (by omega) HH0.out).mono ?_;rintro e w1 ⟨rfl,b1_⟩;rw[←HC.out];have OW1:=Hh (HOW.out.next b1_);have B1:=Hh (HB.out.trans (b1_.mono hsz));have hs1:=Nat.le_trans hb0 B1.out.size;clear b1_))
    | (go_at_call 31;go_loud (rw[←HX.out];refine(zfc b x0 _ hx9).mono ?_;rintro e w2 ⟨rfl,b2_⟩;rw[←HG.out];have OW2:=Hh (OW1.out.next b2_);have B2:=Hh (B1.out.trans (b2_.mono hs1));have hs2:=Nat.le_trans hb0 B2.out.size;clear b2_))
    | (go_at_call 69;go_loud (refine(zhS c g _ hc9 (by omega)).mono ?_;rintro e w3 ⟨rfl,rfl⟩;rw[←HTT.out]))
    | (at_builtin;go_loud (refine wpList_append_own_at _ rfl _ _ 49 rfl base 9 iT (.string ⟨#[]⟩) 1 16 Tryz.underlying49 HI.out.1 HI.out.2.1 HI.out.2.2.1 HI.out.2.2.2 rfl (by decide) _ _ _ rfl (OW2.out.next ((Below.refl _ _).alloc (Nat.le_refl _) (.cells #[.string ⟨t.toArray⟩] 9))).2 ⟨_,0,none⟩ 1 1 [.string ⟨t.toArray⟩] rfl rfl (cell_one_new _ _ _) (by simp[Value.oneCell']) (by simp only[maxLen];omega) (by omega) (by simp;omega) ?_;intro v2 w4 ho4 hg4 hn4 hk4;have OW4:=Hh (OwS.more (t:=t) HOW.out.1 ho4);have B4:=Hh ((B2.out.alloc hs2 (.cells #[.string ⟨t.toArray⟩] 9)).grown hg4 (by rw[World.size_alloc];omega) (fun q hq=>(OW2.out.2.lt q hq).1));clear ho4 hg4 hn4 hk4)))
   go_roundw
   case rel=>exact⟨_,_,r.extract c r.size,m+1,M++[t],rfl,rfl,rfl,by rw[HDR.out,←HM.out,HTK.out,List.append_assoc];rfl,by rw[←zaN,HDR.out,List.length_drop,zaN];omega,OW4.out,B4.out⟩
   case measure =>
    show(r.extract c r.size).size<r.size;rw[←zaN (r.extract c r.size),HDR.out,List.length_drop,zaN];omega
def allR (r:List UInt8):Bool:=r.all fun x=>decide (x.toNat≤1)
theorem zkc {L:List (List UInt8)}{k:Nat}(hk:k<L.length):twoR (L.take (k+1))=(twoR (L.take k)&&allR (tat L k)):=by
 unfold twoR;rw[List.take_add_one,List.getElem?_eq_getElem hk,List.all_append];unfold tat;rw[List.getElem?_eq_getElem hk];show(_&&((_:Bool)&&true))=_;rw[Bool.and_true];rfl
theorem zkd {r:List UInt8}{i:Nat}{x:UInt8}(hx:r[i]?=some x):allR (r.take (i+1))=(allR (r.take i)&&decide (x.toNat≤1)):=by
 unfold allR;rw[List.take_add_one,hx,List.all_append];show(_&&((_:Bool)&&true))=_;rw[Bool.and_true]
theorem zuq {m x:Nat}{A:Bool}(h:decide (m≤1)=A):decide (max m x≤1)=(A&&decide (x≤1)):=by
 rw[←h,←Bool.decide_and,decide_eq_decide];omega
theorem zke (A:Option Addr)(c n:Nat)(L:List (List UInt8))(w:World)(h:Ts w A c L)(hn:L.length=n)(hr:∀r∈L,r.length≤1000) :
  Calls Tryz.prog 67 #[.slice A n c] w fun e w'=>(∃m:Nat,e=.returned (.int .u8 (m:Int))∧m≤255∧decide (m≤1)=twoR L)∧w'=w:=by
 have hcap:=h.cap;rw[hn] at hcap;have HT:=Hh h;have HN:=Hh hn;have HR:=Hh hr;clear h hn hr;go_enter Tryz.func67,Tryz.ntmps67;go_wp2_with fail;go_loopw [9,3] (fun z1 z2 wr=>∃(k m:Nat),z1=.int .i64 k∧z2=.int .u8 (m:Int)∧k≤n∧m≤255∧decide (m≤1)=twoR (L.take k)∧wr=w) (fun z1 _ _=>n-(intOf z1).toNat)
 case atStart=>exact⟨0,0,rfl,rfl,Nat.zero_le _,by omega,by rw[List.take_zero];rfl,rfl⟩
 case round =>
  obtain⟨k,m,rfl,rfl,hk,hm9,hm,rfl⟩:=hrel;have HM:=Hh hm;have HM9:=Hh hm9;clear hm hm9;by_cases hlt:k<n
  ·have kw:IntKind.i64.wrap ((k:Int)+1)=(k:Int)+1:=IntWalk.i64_in _ (by omega);have hkl:k<L.length:=by rw[HN.out];exact hlt
   obtain⟨b2,o2,hA2,-,hcc⟩:=HT.out.at_ (by omega)
   subst hA2;have s0:=hcc k hkl;unfold strV at s0;obtain⟨s,hs⟩:∃s:ByteArray,s=⟨(tat L k).toArray⟩:=⟨_,rfl⟩;rw[←hs] at s0;have HSD:=Hh (show s.data.toList=tat L k by rw[hs]);have hsz:s.size≤1000:=by
    rw[hs,zax];refine HR.out _ ?_;unfold tat;rw[List.getElem?_eq_getElem hkl];exact List.getElem_mem _
   have j0:(0:Int)≤(k:Int):=by omega
   have j1:(k:Int)<(n:Int):=by omega
   have j3:decide ((k:Int)<(n:Int))=true:=decide_eq_true j1;have HLT:=Hh hlt;have HTW:=Hh (zkc hkl);clear hcc hs hlt hkl;go_wp2_with fail;go_loopw [15,3] (fun z1 z2 w2=>∃(i m:Nat),z1=.int .i64 i∧z2=.int .u8 (m:Int)∧i≤s.size∧m≤255∧decide (m≤1)=(twoR (L.take k)&&allR (s.data.toList.take i))∧w2=wr) (fun z1 _ _=>s.size-(intOf z1).toNat)
   case atStart=>exact⟨0,m,rfl,rfl,Nat.zero_le _,HM9.out,by rw[HM.out,List.take_zero];show _=(_&&true);rw[Bool.and_true],rfl⟩
   case round =>
    obtain⟨i,p,rfl,rfl,hi,hp9,hp,rfl⟩:=hrel;have HP:=Hh hp;have HP9:=Hh hp9;have iw:IntKind.i64.wrap ((i:Int)+1)=(i:Int)+1:=IntWalk.i64_in _ (by omega);clear hp hp9 HM HM9;by_cases hli:i<s.size
    ·have hgt:=zbH hli;have HAT:=Hh (zkd hgt);have i0:(0:Int)≤(i:Int):=by omega
     have i1:(i:Int)<(s.size:Int):=by omega
     have i3:decide ((i:Int)<(s.size:Int))=true:=decide_eq_true i1;have HLI:=Hh hli;have hx9:(s[i]'hli).toNat≤255:=by have:=(s[i]'hli).toNat_lt;omega
     have HX9:=Hh hx9;have HMX:=Hh (show max (p:Int) ((s[i]'hli).toNat:Int)=((max p (s[i]'hli).toNat:Nat):Int) by omega);clear hgt hx9;go_wp2_with fail;go_roundw
     case rel=>exact⟨i+1,max p (s[i]'hli).toNat,by go_num,by rw[HMX.out],HLI.out,by have:=HP9.out;have:=HX9.out;omega,by rw[HAT.out,←Bool.and_assoc];exact zuq HP.out,trivial⟩
     case measure=>have:=HLI.out;simp[intOf];omega
    ·have e:i=s.size:=by omega
     have i9:decide ((i:Int)<(s.size:Int))=false:=decide_eq_false (by omega);have i10:decide (i<s.size)=false:=decide_eq_false hli;have i11:(i<s.size)=False:=eq_false hli;have HE:=Hh (show s.data.toList.take i=tat L k by rw[List.take_of_length_le (by rw[zaN];omega)];exact HSD.out);clear hli e;go_wp2_with fail;go_roundw
     case rel=>exact⟨k+1,p,by go_num,rfl,HLT.out,HP9.out,by rw[HTW.out,←HE.out];exact HP.out,trivial⟩
     case measure=>have:=HLT.out;simp[intOf];omega
  ·have e:k=n:=by omega
   have t9:decide ((k:Int)<(n:Int))=false:=decide_eq_false (by omega);have t10:decide (k<n)=false:=decide_eq_false hlt;have t11:(k<n)=False:=eq_false hlt;have HE:=Hh (show twoR (L.take k)=twoR L by rw[e,←HN.out,List.take_length]);clear hlt e;go_wp2_with fail;go_ret;exact⟨⟨m,rfl,HM9.out,by rw[HM.out,HE.out]⟩,rfl⟩
theorem OwS.ts {W:World}{base n:Nat}{v:Value}{L:List (List UInt8)}(h:OwS W base v n L)(hl:∀r∈L,r.length≤maxLen):∃A c,v=.slice A n c∧Ts W A c L:=by
 obtain⟨h1,h2⟩:=h;have ho:=h2;rcases h2.2 with⟨h',hn⟩|⟨g,cap,cur,h',hb,hg,hnc,hcm,hcs,htake⟩
 ·have e:L=[]:=List.eq_nil_of_length_eq_zero (by omega);subst e;exact⟨none,0,by rw[h',hn],Ts.nil W⟩
 ·subst h';refine⟨some ⟨g,0,none⟩,cap,rfl,hl,by rw[List.length_map];omega,hcm,fun _=>⟨g,0,rfl,(Array.getElem?_eq_some_iff.1 hg).1,fun j u hu=>?_⟩⟩;have hj:j<n:=by
   have:=(List.getElem?_eq_some_iff.1 hu).1;rw[List.length_map] at this;omega
  rw[Nat.zero_add,ho.cellAt j (by omega)];exact hu
theorem zkf (b:Bool):∀(m:Nat) (r:List UInt8),r.length≤m→r.length≤99→∀t∈zbG b r,t.length≤4
 | 0,r,h,_,t,ht=>by
  have e:r=[]:=List.eq_nil_of_length_eq_zero (by omega);rw[e] at ht;cases ht
 | m+1,r,h,h9,t,ht=>by
  by_cases h0:r=[]
  ·rw[h0] at ht;cases ht
  ·have h1:=zeY h0;have h2:=zgY r;rw[zcZ b h0] at ht;rcases List.mem_cons.1 ht with rfl|ht
   ·exact zmD (by omega) (zgj _ _)
   ·exact zkf b m _ (by rw[List.length_drop];omega) (by rw[List.length_drop];omega) t ht
theorem zmE {b:Bool}{L:List (List UInt8)}(hr:∀r∈L,r.length≤99)(hl:L.length≤99):∀k,k≤L.length→∀t∈(tokK b L k).1,t.length≤4
 | 0,_,t,ht=>by cases ht
 | k+1,h,t,ht=>by
  have ih:=zmE (b:=b) hr hl k (by omega);have h1:(zal (tat L k)).length≤99:=by
   refine Nat.le_trans (zeW _) ?_;unfold tat;rw[List.getElem?_eq_getElem (by omega)];exact hr _ (List.getElem_mem _)
  by_cases h0:zal (tat L k)=[]
  ·rw[zdG h0] at ht;exact ih t ht
  ·have hx:=zkf b _ (zal (tat L k)) (Nat.le_refl _) h1;cases hj:(tokK b L k).2 with
   | none =>
    rw[zdW h0 hj] at ht;rcases List.mem_append.1 ht with ht|ht
    ·exact ih t ht
    ·exact hx t ht
   | some j =>
    rw[zeZ h0 hj] at ht;have:=ziU hj;rcases List.mem_append.1 ht with ht|ht
    ·rcases List.mem_append.1 ht with ht|ht
     ·exact ih t ht
     ·rw[List.mem_singleton.1 ht];exact zmD (by omega) (by decide)
    ·exact hx t ht
theorem zbK {L:List (List UInt8)}(hr:∀r∈L,r.length≤99)(hl:L.length≤99):∀t∈zbE L,t.length≤4:=fun t ht=>by
 unfold zbE at ht;rcases List.mem_append.1 ht with ht|ht
 ·exact zmE hr hl _ (Nat.le_refl _) t ht
 ·rw[List.mem_singleton.1 ht]
  decide
def zur:Option Nat→Int
 | none => -1
 | some j=>j
def zvz (L:List (List UInt8))(w:World)(e:Ending)(w':World):Prop :=
 ∃A c n,e=.returned (.slice A n c)∧(zbE L).length=n∧Ts w' A c (zbE L)∧Below w.heap.size w w'
theorem zhd (u:Gr)(w:World)(h:Ts w u.a u.c u.L)(hr:∀r∈u.L,r.length≤99)(hl:u.L.length≤99) :
  Calls Tryz.prog 34 #[u.val] w (zvz u.L w):=by
 have hcap:=h.cap;obtain⟨iT,hi,hz0,hz1,hz2⟩:=zdD Tryz.infoTs;have HI:=Hh (And.intro hi (And.intro hz0 (And.intro hz1 hz2)));have hal:=(Below.refl w.heap.size w).alloc (Nat.le_refl _) u.obj;obtain⟨W0,hW0⟩:∃W:World,W=w.alloc u.obj:=⟨_,rfl⟩;obtain⟨base,hbase⟩:∃b,b=w.heap.size+1:=⟨_,rfl⟩;obtain⟨g0,hg0⟩:∃g,g=w.heap.size:=⟨_,rfl⟩;have hk:W0.heap[g0]?=some u.obj:=by rw[hW0,hg0];exact heap_alloc_new w _
 have HW:=Hh (show Below w.heap.size w W0∧W0.heap.size=base by rw[hW0];exact⟨hal,by rw[World.size_alloc,hbase]⟩);have HT:=Hh (show Ts W0 u.a u.c u.L by rw[hW0];exact h.below hal);obtain⟨e0,e1,e2,e3,e4⟩:=Gr.cells hk;have HR:=Hh hr;have HL:=Hh hl;obtain⟨B,hB⟩:∃B,B=twoR u.L:=⟨_,rfl⟩;have HBB:=Hh hB;have HBS:=Hh hbase;clear h hi hz0 hz1 hz2 hal hk hr hB hbase;rcases Nat.eq_zero_or_pos u.L.length with hl0|hl0
 ·have HL0:=Hh hl0;clear hl0;go_enter Tryz.func34,Tryz.ntmps34;go_upto_region 1 with fail
  rw[←hW0,←hg0];clear hW0 hg0;go_wp2_with (go_at_call 67;go_loud (refine(zke u.a u.c u.L.length u.L _ HT.out rfl (fun r hr=>by have:=HR.out r hr;omega)).mono ?_;rintro e w1 ⟨⟨m,rfl,m9,hm⟩,rfl⟩;have q1:decide ((m:Int)≤1)=B:=(by rw[HBB.out,←hm,decide_eq_decide];omega);clear hm));go_loopw [15,4,5,6,7] (fun z1 z2 z3 z4 z5 wr=>∃(k N:Nat) (v y4 y5:Value) (lz:Int),z1=.int .i64 k∧v=z2∧z3=.int .i64 lz∧y4=z4∧y5=z5∧k≤u.L.length∧lz=zur (tokK B u.L k).2∧OwS wr base v N (tokK B u.L k).1∧Below base w1 wr) (fun z1 _ _ _ _ _=>u.L.length-(intOf z1).toNat)
  case atStart=>exact⟨0,0,_,_,_,-1,rfl,rfl,rfl,rfl,rfl,Nat.zero_le _,rfl,OwS.nil _ _,Below.refl _ _⟩
  case round =>
   obtain⟨k,N,v,y4,y5,lz,rfl,rfl,rfl,rfl,rfl,hk,hlz,hown,hb⟩:=hrel;have HLZ:=Hh hlz;have HOW:=Hh hown;have HB:=Hh hb;have hsz:=hb.size;rw[HW.out.2] at hsz;have hN9:N≤10000:=by
    have h1:=zfa (b:=B) (m:=99) HR.out k hk;rw[hown.1] at h1;have h2:k*(99+1)≤99*100:=Nat.mul_le_mul (by omega) (by omega);omega
   clear hlz hown hb;by_cases hlt:k<u.L.length
   ·have:=HL0.out;omega
   ·have e:k=u.L.length:=by omega
    have t9:decide ((k:Int)<(u.L.length:Int))=false:=decide_eq_false (by omega);have t10:decide (k<u.L.length)=false:=decide_eq_false hlt;have t11:(k<u.L.length)=False:=eq_false hlt;have HE:=Hh (show(tokK B u.L k).1++[[33]]=zbE u.L by(unfold zbE;rw[e,HBB.out]));clear hlt e;go_wp2_with (at_builtin;go_loud (refine wpList_append_own_at _ rfl _ _ 49 rfl base 9 iT (.string ⟨#[]⟩) 1 16 Tryz.underlying49 HI.out.1 HI.out.2.1 HI.out.2.2.1 HI.out.2.2.2 rfl (by decide) _ _ _ rfl (HOW.out.next ((Below.refl _ _).alloc (Nat.le_refl _) (.cells #[.string ⟨#[33]⟩] 9))).2 ⟨_,0,none⟩ 1 1 [.string ⟨#[33]⟩] rfl rfl (cell_one_new _ _ _) (by simp[Value.oneCell']) (by simp only[maxLen];omega) (by omega) (by simp;omega) ?_;intro v2 w4 ho4 hg4 hn4 hk4;have OW4:=Hh (OwS.more (t:=[33]) HOW.out.1 ho4);have B4:=Hh ((HB.out.alloc hsz (.cells #[.string ⟨#[33]⟩] 9)).grown hg4 (by rw[World.size_alloc];omega) (fun q hq=>(HOW.out.2.lt q hq).1));clear ho4 hg4 hn4 hk4));go_ret;have h5:=OW4.out;rw[HE.out] at h5;obtain⟨A5,c5,e5,t5⟩:=h5.ts (fun r hr=>by have:=zbK HR.out HL.out r hr;unfold maxLen;omega);exact⟨A5,c5,N+1,by rw[←e5];rfl,h5.1,t5,HW.out.1.trans (B4.out.mono (by have:=HBS.out;omega))⟩
 ·obtain⟨b2,o2,hA,-,-⟩:=HT.out.at_ hl0
  have HA:=Hh hA;rw[hA] at e4;clear hA;go_enter Tryz.func34,Tryz.ntmps34;go_upto_region 1 with fail
  rw[←hW0,←hg0];clear hW0 hg0;go_wp2_with (go_at_call 67;go_loud (refine(zke (some ⟨b2,o2,none⟩) u.c u.L.length u.L _ (by rw[←HA.out];exact HT.out) rfl (fun r hr=>by have:=HR.out r hr;omega)).mono ?_;rintro e w1 ⟨⟨m,rfl,m9,hm⟩,rfl⟩;have q1:decide ((m:Int)≤1)=B:=(by rw[HBB.out,←hm,decide_eq_decide];omega);clear hm));go_loopw [15,4,5,6,7] (fun z1 z2 z3 z4 z5 wr=>∃(k N:Nat) (v y4 y5:Value) (lz:Int),z1=.int .i64 k∧v=z2∧z3=.int .i64 lz∧y4=z4∧y5=z5∧k≤u.L.length∧lz=zur (tokK B u.L k).2∧OwS wr base v N (tokK B u.L k).1∧Below base w1 wr) (fun z1 _ _ _ _ _=>u.L.length-(intOf z1).toNat)
  case atStart=>exact⟨0,0,_,_,_,-1,rfl,rfl,rfl,rfl,rfl,Nat.zero_le _,rfl,OwS.nil _ _,Below.refl _ _⟩
  case round =>
   obtain⟨k,N,v,y4,y5,lz,rfl,rfl,rfl,rfl,rfl,hk,hlz,hown,hb⟩:=hrel;have HLZ:=Hh hlz;have HOW:=Hh hown;have HB:=Hh hb;have hsz:=hb.size;rw[HW.out.2] at hsz;have hN9:N≤10000:=by
    have h1:=zfa (b:=B) (m:=99) HR.out k hk;rw[hown.1] at h1;have h2:k*(99+1)≤99*100:=Nat.mul_le_mul (by omega) (by omega);omega
   clear hlz hown hb;by_cases hlt:k<u.L.length
   ·obtain⟨b3,o3,hA3,-,hcc⟩:=(HT.out.below (show Below w1.heap.size w1 wr by rw[HW.out.2];exact HB.out)).at_ hl0
    rw[HA.out] at hA3;injection hA3 with hA3
    injection hA3 with e3_ e4_
    subst e3_;subst e4_;have s0:=hcc k hlt;unfold strV at s0;obtain⟨s,hs⟩:∃s:ByteArray,s=⟨(tat u.L k).toArray⟩:=⟨_,rfl⟩;rw[←hs] at s0;have hsz9:s.size≤99:=by
     rw[hs,zax];refine HR.out _ ?_;unfold tat;rw[List.getElem?_eq_getElem hlt];exact List.getElem_mem _
    have HSD:=Hh (show s.data.toList=tat u.L k by rw[hs]);obtain⟨t,ht⟩:∃t:ByteArray,t=⟨(zal s.data.toList).toArray⟩:=⟨_,rfl⟩;have HTR:=Hh ht;have HTD:=Hh (show t.data.toList=zal (tat u.L k) by rw[ht,←HSD.out]);have htz:t.size≤99:=by
     rw[ht,zax];have:=zeW s.data.toList;rw[zaN] at this;omega
    have kw:IntKind.i64.wrap ((k:Int)+1)=(k:Int)+1:=IntWalk.i64_in _ (by omega);have j0:(0:Int)≤(k:Int):=by omega
    have j1:(k:Int)<(u.L.length:Int):=by omega
    have j3:decide ((k:Int)<(u.L.length:Int))=true:=decide_eq_true j1;have HLT:=Hh hlt;clear hcc hs ht hlt;by_cases hemp:zal (tat u.L k)=[]
    ·have x1:t.toList.isEmpty=true:=by rw[ByteArray.toList_eq,HTD.out,hemp];rfl
     have HSK:=Hh (zdG (b:=B) hemp);clear hemp;go_wp2_with (go_at_call 68;go_loud (refine(zdH s _ (by unfold maxLen;omega)).mono ?_;rintro e w2 ⟨rfl,rfl⟩;rw[←HTR.out]));go_roundw
     case rel=>exact⟨k+1,N,_,_,_,lz,by go_num,rfl,rfl,rfl,rfl,HLT.out,by rw[HSK.out];exact HLZ.out,by rw[HSK.out];exact HOW.out,HB.out⟩
     case measure=>have:=HLT.out;simp[intOf];omega
    ·have x1:t.toList.isEmpty=false:=by
      rw[ByteArray.toList_eq,HTD.out];cases hq:zal (tat u.L k) with
      | nil=>exact absurd hq hemp
      | cons x r=>rfl
     cases hj:(tokK B u.L k).2 with
     | none =>
      have HTF:=Hh (zdW (b:=B) hemp hj);obtain rfl:lz = -1:=by have:=HLZ.out;rw[hj] at this;exact this
      clear hemp hj;go_wp2_with (first
       | (go_at_call 68;go_loud (refine(zdH s _ (by unfold maxLen;omega)).mono ?_;rintro e w2 ⟨rfl,rfl⟩;rw[←HTR.out]))
       | (go_at_call 70;go_loud (refine(zhc B t base N _ _ _ HOW.out hsz htz (by omega)).mono ?_;rintro e w5 ⟨v5,rfl,ow5,b5⟩;have OW5:=Hh ow5;have B5:=Hh (HB.out.trans b5);clear ow5 b5)))
      go_roundw
      case rel=>exact⟨k+1,_,v5,_,_,k,by go_num,rfl,rfl,rfl,rfl,HLT.out,by rw[HTF.out];rfl,by rw[HTF.out,←HTD.out];exact OW5.out,B5.out⟩
      case measure=>have:=HLT.out;simp[intOf];omega
     | some j =>
      have HTF:=Hh (zeZ (b:=B) hemp hj);have hjk:=ziU hj;obtain rfl:lz=(j:Int):=by have:=HLZ.out;rw[hj] at this;exact this
      have y1:decide ((j:Int)≥0)=true:=decide_eq_true (by omega);have y2:(0:Int)≤(j:Int):=by omega
      obtain⟨d,hd⟩:∃d,d=k-j:=⟨_,rfl⟩;have y3:IntKind.i64.wrap ((k:Int)-(j:Int))=(d:Int):=by rw[IntWalk.i64_in _ (by omega)];omega
      have hd9:d<100:=by omega
      obtain⟨tt,htt⟩:∃tt:ByteArray,tt=⟨(tokR d [36]).toArray⟩:=⟨_,rfl⟩;have HTT:=Hh htt;have HDD:=Hh hd;clear hemp hj htt hd;go_wp2_with (first
       | (go_at_call 68;go_loud (refine(zdH s _ (by unfold maxLen;omega)).mono ?_;rintro e w2 ⟨rfl,rfl⟩;rw[←HTR.out]))
       | (go_at_call 69;go_loud (refine(zhS d ⟨#[36]⟩ _ hd9 (by decide)).mono ?_;rintro e w3 ⟨rfl,rfl⟩;rw[show(⟨(tokR d (⟨#[36]⟩:ByteArray).data.toList).toArray⟩:ByteArray)=tt from HTT.out.symm]))
       | (at_builtin;go_loud (refine wpList_append_own_at _ rfl _ _ 49 rfl base 9 iT (.string ⟨#[]⟩) 1 16 Tryz.underlying49 HI.out.1 HI.out.2.1 HI.out.2.2.1 HI.out.2.2.2 rfl (by decide) _ _ _ rfl (HOW.out.next ((Below.refl _ _).alloc (Nat.le_refl _) (.cells #[.string tt] 9))).2 ⟨_,0,none⟩ 1 1 [.string tt] rfl rfl (cell_one_new _ _ _) (by simp[Value.oneCell']) (by simp only[maxLen];omega) (by omega) (by simp;omega) ?_;intro v2 w4 ho4 hg4 hn4 hk4;have OW4:=Hh (show OwS w4 base v2 (N+1) ((tokK B u.L k).1++[tokR d [36]]) from OwS.more HOW.out.1 (by rw[HTT.out] at ho4;exact ho4));have B4:=Hh ((HB.out.alloc hsz (.cells #[.string tt] 9)).grown hg4 (by rw[World.size_alloc];omega) (fun q hq=>(HOW.out.2.lt q hq).1));have hs4:=B4.out.size;rw[HW.out.2] at hs4;clear ho4 hg4 hn4 hk4))
       | (go_at_call 70;go_loud (refine(zhc B t base (N+1) _ _ _ OW4.out hs4 htz (by omega)).mono ?_;rintro e w5 ⟨v5,rfl,ow5,b5⟩;have OW5:=Hh ow5;have B5:=Hh (B4.out.trans b5);clear ow5 b5)))
      go_roundw
      case rel=>exact⟨k+1,_,v5,_,_,k,by go_num,rfl,rfl,rfl,rfl,HLT.out,by rw[HTF.out];rfl,by rw[HTF.out,←HTD.out,←HDD.out];exact OW5.out,B5.out⟩
      case measure=>have:=HLT.out;simp[intOf];omega
   ·have e:k=u.L.length:=by omega
    have t9:decide ((k:Int)<(u.L.length:Int))=false:=decide_eq_false (by omega);have t10:decide (k<u.L.length)=false:=decide_eq_false hlt;have t11:(k<u.L.length)=False:=eq_false hlt;have HE:=Hh (show(tokK B u.L k).1++[[33]]=zbE u.L by(unfold zbE;rw[e,HBB.out]));clear hlt e;go_wp2_with (at_builtin;go_loud (refine wpList_append_own_at _ rfl _ _ 49 rfl base 9 iT (.string ⟨#[]⟩) 1 16 Tryz.underlying49 HI.out.1 HI.out.2.1 HI.out.2.2.1 HI.out.2.2.2 rfl (by decide) _ _ _ rfl (HOW.out.next ((Below.refl _ _).alloc (Nat.le_refl _) (.cells #[.string ⟨#[33]⟩] 9))).2 ⟨_,0,none⟩ 1 1 [.string ⟨#[33]⟩] rfl rfl (cell_one_new _ _ _) (by simp[Value.oneCell']) (by simp only[maxLen];omega) (by omega) (by simp;omega) ?_;intro v2 w4 ho4 hg4 hn4 hk4;have OW4:=Hh (OwS.more (t:=[33]) HOW.out.1 ho4);have B4:=Hh ((HB.out.alloc hsz (.cells #[.string ⟨#[33]⟩] 9)).grown hg4 (by rw[World.size_alloc];omega) (fun q hq=>(HOW.out.2.lt q hq).1));clear ho4 hg4 hn4 hk4));go_ret;have h5:=OW4.out;rw[HE.out] at h5;obtain⟨A5,c5,e5,t5⟩:=h5.ts (fun r hr=>by have:=zbK HR.out HL.out r hr;unfold maxLen;omega);exact⟨A5,c5,N+1,by rw[←e5];rfl,h5.1,t5,HW.out.1.trans (B4.out.mono (by have:=HBS.out;omega))⟩
theorem zqh (u:Gr)(w:World)(h:Ts w u.a u.c u.L) :
  Calls Tryz.prog 77 #[u.val] w fun e w'=>e=.returned (.tuple #[.int .i64 (zhn u.L:Int),.int .i64 (u.L.length:Int)])∧Below w.heap.size w w':=by
 have hcap:=h.cap;have hal:=(Below.refl w.heap.size w).alloc (Nat.le_refl _) u.obj;obtain⟨W0,hW0⟩:∃W:World,W=w.alloc u.obj:=⟨_,rfl⟩;obtain⟨g0,hg0⟩:∃g,g=w.heap.size:=⟨_,rfl⟩;have hk:W0.heap[g0]?=some u.obj:=by rw[hW0,hg0];exact heap_alloc_new w _
 have HW:=Hh (show Below w.heap.size w W0 by rw[hW0];exact hal);have ht:Ts W0 u.a u.c u.L:=by rw[hW0];exact h.below hal
 obtain⟨e0,e1,e2,e3,e4⟩:=Gr.cells hk;rcases Nat.eq_zero_or_pos u.L.length with hl0|hl0
 ·have hw:zhn u.L=0:=by rw[List.length_eq_zero_iff.1 hl0];rfl
  have HH:=Hh hw;have HL0:=Hh hl0;have t1:((u.L.length:Int)==0)=true:=by rw[hl0];rfl
  rw[hw,hl0];clear h hal hk ht hw hl0;go_enter Tryz.func77,Tryz.ntmps77;go_upto_region 1 with fail
  rw[←hW0,←hg0];clear hW0 hg0;go_wp2_with fail;go_ret2;exact⟨rfl,HW.out⟩
 ·obtain⟨b2,o2,hA,-,hcc⟩:=ht.at_ hl0
  rw[hA] at e4;have s0:=hcc 0 hl0;rw[Nat.add_zero] at s0;unfold strV at s0;obtain⟨s,hs⟩:∃s:ByteArray,s=⟨(tat u.L 0).toArray⟩:=⟨_,rfl⟩;rw[←hs] at s0;have hw:s.size=zhn u.L:=by rw[hs,zax];rfl
  have t1:((u.L.length:Int)==0)=false:=beq_eq_false_iff_ne.2 (by omega);have t2:(0:Int)<(u.L.length:Int):=by omega
  have t3:(0<u.L.length)=True:=eq_true hl0;rw[←hw];clear h hal hk ht hA hcc hl0 hs hw;go_enter Tryz.func77,Tryz.ntmps77;go_upto_region 1 with fail
  rw[←hW0,←hg0];clear hW0 hg0;go_wp2_with fail;go_quiet (fail);go_wp2_with fail;go_ret2;exact⟨rfl,zaa HW.out _⟩
theorem znJ (A:Option Addr)(c n:Nat)(L:List (List UInt8))(w:World)(h:Ts w A c L)(hn:L.length=n)(hn9:n≤1000000)(h4:∀t∈L,t.length≤4) :
  Calls Tryz.prog 79 #[.slice A n c] w fun e w'=>e=.returned (.string ⟨(ziW L).toArray⟩)∧Below w.heap.size w w':=by
 have hcap:=h.cap;rw[hn] at hcap;have HT:=Hh h;have HN:=Hh hn;have H4:=Hh h4;obtain⟨T,hT⟩:∃T,T=ziW L:=⟨_,rfl⟩;rw[←hT];have HTW:=Hh hT;have S0:=Hh (Wb.fresh w);obtain⟨b,hb⟩:∃b,b=w.heap.size:=⟨_,rfl⟩;rw[←hb] at S0;have HBE:=Hh hb;have B0:=Hh (show Below b w (w.alloc (.cells #[.pointer none,.slice none 0 0] 77)) by rw[hb];exact(Below.refl _ _).alloc (Nat.le_refl _) _);clear h hn h4 hT;go_enter Tryz.func79,Tryz.ntmps79;go_upto_region 2 with fail
 rw[←hb];clear hb;go_wp2_with fail;go_loopw [9,4,6] (fun z1 z2 z3 wr=>∃(k:Nat) (y:Value),z1=.int .i64 k∧z2=.int .i64 ((zbT L k).2:Int)∧y=z3∧k≤n∧Wb b (byteCells (zbT L k).1) wr∧Below b w wr) (fun z1 _ _ _=>n-(intOf z1).toNat)
 case atStart=>exact⟨0,_,rfl,rfl,rfl,Nat.zero_le _,S0.out,B0.out⟩
 case round =>
  obtain⟨k,y,rfl,rfl,rfl,hk,hs,hbl⟩:=hrel;have HS:=Hh hs;have HB:=Hh hbl;have hlt_:b≤wr.heap.size:=Nat.le_trans (by rw[HBE.out];exact Nat.le_refl _) hbl.size;have hwk:=zfb (m:=4) H4.out k (by rw[HN.out];exact hk);obtain⟨us,hus⟩:∃x,x=(zbT L k).2:=⟨_,rfl⟩;have HUS:=Hh hus;rw[←hus] at hwk;rw[←hus];have hk5:k*(4+1)≤5000000:=by omega
  have HWL:=Hh hwk.1;have hus9:us≤5000000:=by omega
  clear hs hbl hus hwk;by_cases hlt:k<n
  ·have kw:IntKind.i64.wrap ((k:Int)+1)=(k:Int)+1:=IntWalk.i64_in _ (by omega);have hkl:k<L.length:=by rw[HN.out];exact hlt
   obtain⟨b2,o2,hA2,-,hcc⟩:=(HT.out.below (show Below w.heap.size w wr by rw[←HBE.out];exact HB.out)).at_ (by omega)
   subst hA2;have s0:=hcc k hkl;unfold strV at s0;obtain⟨t,ht⟩:∃t:ByteArray,t=⟨(tat L k).toArray⟩:=⟨_,rfl⟩;rw[←ht] at s0;have HTD:=Hh (show t.data.toList=tat L k by rw[ht]);have hz:t.size=(tat L k).length:=by rw[ht,zax]
   have HZ:=Hh hz;have htz:t.size≤4:=by
    rw[hz];refine H4.out _ ?_;unfold tat;rw[List.getElem?_eq_getElem hkl];exact List.getElem_mem _
   have j0:(0:Int)≤(k:Int):=by omega
   have j1:(k:Int)<(n:Int):=by omega
   have j3:decide ((k:Int)<(n:Int))=true:=decide_eq_true j1;have HLT:=Hh hlt;have w1:IntKind.i64.wrap ((us:Int)+(t.size:Int))=(us:Int)+(t.size:Int):=IntWalk.i64_in _ (by omega);have w2:IntKind.i64.wrap (0+(t.size:Int))=(t.size:Int):=by rw[Int.zero_add];exact IntWalk.i64_in _ (by omega)
   have w3:IntKind.i64.wrap (t.size:Int)=(t.size:Int):=IntWalk.i64_in _ (by omega);clear hcc ht hlt hkl hz;by_cases hc:70<us+t.size
   ·have t1:decide ((us:Int)+(t.size:Int)>70)=true:=decide_eq_true (by omega);have t2:decide (70<us+t.size)=true:=decide_eq_true hc;have HNW:=Hh (zha (l:=L) (k:=k) (by rw[←HUS.out,←HZ.out];exact hc));clear hc;go_wp2_with (first
     | (go_at_call 117;go_loud (refine(zqg b _ 10 _ HS.out (by have:=HWL.out;omega) hlt_).mono ?_;rintro e w5 ⟨rfl,h5,k5⟩;have HS5:=Hh h5;have K5:=Hh k5;have hs5:=k5.1.size;clear h5 k5))
     | (go_at_call 85;go_loud (refine(zmC b _ t _ HS5.out (by rw[List.length_append];have:=HWL.out;simp only[List.length_cons,List.length_nil];omega) (by omega)).mono ?_;rintro e w6 ⟨rfl,h6,k6⟩;have HS6:=Hh h6;have K6:=Hh (K5.out.trans k6);clear h6 k6)))
    go_roundw
    case rel=>exact⟨k+1,_,by go_num,by rw[HNW.out,HZ.out],rfl,HLT.out,by rw[HNW.out,←HTD.out];exact HS6.out,HB.out.trans K6.out.1⟩
    case measure=>have:=HLT.out;simp[intOf];omega
   ·have t1:decide ((us:Int)+(t.size:Int)>70)=false:=decide_eq_false (by omega);have t2:decide (70<us+t.size)=false:=decide_eq_false hc;have HNW:=Hh (ziV (l:=L) (k:=k) (by rw[←HUS.out,←HZ.out];exact hc));clear hc;go_wp2_with (go_at_call 85;go_loud (refine(zmC b _ t _ HS.out (by have:=HWL.out;omega) hlt_).mono ?_;rintro e w6 ⟨rfl,h6,k6⟩;have HS6:=Hh h6;have K6:=Hh k6;clear h6 k6));go_roundw
    case rel=>exact⟨k+1,_,by go_num,by rw[HNW.out,←HZ.out,←HUS.out];rfl,rfl,HLT.out,by rw[HNW.out,←HTD.out];exact HS6.out,HB.out.trans K6.out.1⟩
    case measure=>have:=HLT.out;simp[intOf];omega
  ·have e:k=n:=by omega
   have t9:decide ((k:Int)<(n:Int))=false:=decide_eq_false (by omega);have t10:decide (k<n)=false:=decide_eq_false hlt;have t11:(k<n)=False:=eq_false hlt;have HE:=Hh (show(zbT L k).1++[10]=T by rw[HTW.out,e,←HN.out];rfl);clear hlt e;go_wp2_with (first
    | (go_at_call 117;go_loud (refine(zqg b _ 10 _ HS.out (by have:=HWL.out;omega) hlt_).mono ?_;rintro e w5 ⟨rfl,h5,k5⟩;have HS5:=Hh h5;have K5:=Hh k5;clear h5 k5))
    | (go_at_call 47;go_loud (refine(zup b _ _ HS5.out (by simp)).mono ?_;rintro e w6 ⟨rfl,b6⟩;rw[HE.out];have B6:=Hh (HB.out.trans (K5.out.1.trans b6));clear b6)))
   go_ret;exact⟨rfl,by rw[←HBE.out];exact B6.out⟩
end Go.Proofs.YtcippfaljoagaaaGreatDoor
