import Derived.Test.YtfjajpnfjjdnpaaGreatDoorWFtU
import Derived.Test.YtfjajpnfjjdnpaaGreatDoorLaidW

set_option linter.unusedVariables false
set_option linter.unusedSimpArgs false
set_option maxRecDepth 100000
set_option maxHeartbeats 6400000
namespace Go.Proofs.YtfjajpnfjjdnpaaGreatDoor
open Go.RowKit Num Nds Txt
def zaC:ByteArray:=⟨#[97]⟩
theorem zmG {l:List Cv}{most:Int}{ok:Bool}{q:List Nd}{qn:Nat}(hm:most≤60)(hq:q.length=qn)(ho:ok=mayB l most)(h0:ok=false→q=[])(h1:ok=true→zaX (zaP (l.map Cv.cl)) q):qn≤900000∧zaG (den q qn)≤60:=by
 subst hq;cases hk:ok with
 | false =>
  rw[h0 hk];exact⟨by decide,by decide⟩
 | true =>
  have h2:=(h1 hk).lenF;have h3:=(zwt (ho.symm.trans hk)).1;have h4:=zmp (l.map Cv.cl);rw[List.length_map] at h4;omega
def sgnR (b:Bool)(n:Nat):List UInt8 :=
 if b=true∧n=0 then [98] else if b=true∧n=1 then [111] else if n=0 then [46] else if n≤24 then [UInt8.ofNat (64+n)] else [UInt8.ofNat (112+(n-25) / 24),UInt8.ofNat (65+(n-25)%24)]
def tokR (n:Nat)(s:List UInt8):List UInt8:=if n=1 then s else Digs.digs n++s
def runN:List UInt8→Nat
 | []=>0
 | x :: r=>if r.head?=some x then runN r+1 else 1
theorem zbY {r:List UInt8}(h:r≠[]):0<runN r:=by
 cases r with
 | nil=>exact absurd rfl h
 | cons x r =>
  unfold runN;split <;> omega
theorem zfn:∀r:List UInt8,runN r≤r.length
 | []=>Nat.le_refl _
 | x :: r=>by
  have:=zfn r;unfold runN;split
  ·rw[List.length_cons];omega
  ·rw[List.length_cons];omega
theorem zji:∀{r:List UInt8} {i:Nat},i<runN r→r[i]?=r.head?
 | [],i,h=>absurd h (Nat.not_lt_zero _)
 | x :: r,0,_=>rfl
 | x :: r,i+1,h=>by
  unfold runN at h;by_cases hc:r.head?=some x
  ·rw[if_pos hc] at h;rw[List.getElem?_cons_succ,zji (by omega:i<runN r),hc];rfl
  ·rw[if_neg hc] at h;omega
theorem zmH:∀(r:List UInt8),runN r=r.length∨r[runN r]?≠r.head?
 | []=>.inl rfl
 | x :: r=>by
  unfold runN;by_cases hc:r.head?=some x
  ·rw[if_pos hc];rcases zmH r with h|h
   ·exact .inl (by rw[h,List.length_cons])
   ·exact .inr (by rw[List.getElem?_cons_succ];rw[hc] at h;exact h)
  ·rw[if_neg hc];cases r with
   | nil=>exact .inl rfl
   | cons y r=>exact .inr (by rw[List.getElem?_cons_succ];exact hc)
theorem zqF {r:List UInt8}{i:Nat}(h0:0<i)(hi:i≤r.length)(ha:∀j,j<i→r[j]?=r.head?)(he:i=r.length∨r[i]?≠r.head?):runN r=i:=by
 have h1:=zfn r;rcases Nat.lt_trichotomy (runN r) i with h|h|h
 ·rcases zmH r with h2|h2
  ·omega
  ·exact absurd (ha _ h) h2
 ·exact h
 ·rcases he with h2|h2
  ·omega
  ·exact absurd (zji h) h2
def rle (b:Bool):Nat→List UInt8→List (Nat × Nat)
 | 0,_=>[]
 | f+1,r=>match r with
  | []=>[]
  | x :: t=>(runN (x :: t),x.toNat) :: rle b f ((x :: t).drop (runN (x :: t)))
theorem zmI (b:Bool):∀(f g:Nat) (r:List UInt8),r.length≤f→r.length≤g→rle b f r=rle b g r
 | 0,0,r,_,_=>rfl
 | 0,g+1,r,h,_=>by
  have e:r=[]:=List.eq_nil_of_length_eq_zero (by omega);rw[e];rfl
 | f+1,0,r,_,h=>by
  have e:r=[]:=List.eq_nil_of_length_eq_zero (by omega);rw[e];rfl
 | f+1,g+1,r,h,k=>by
  cases r with
  | nil=>rfl
  | cons x t =>
   show _ :: _=_ :: _;have h1:=zbY (r:=x :: t) (by simp);have h2:((x :: t).drop (runN (x :: t))).length≤f∧((x :: t).drop (runN (x :: t))).length≤g:=by
    rw[List.length_drop];omega
   rw[zmI b f g _ h2.1 h2.2]
def zbe (b:Bool)(r:List UInt8):List (List UInt8):=(rle b r.length r).map fun p=>tokR p.1 (sgnR b p.2)
theorem zqG (b:Bool):zbe b []=[]:=rfl
theorem zsI (b:Bool){r:List UInt8}(h:r≠[]):rle b r.length r=(runN r,(r.headD 0).toNat) :: rle b (r.drop (runN r)).length (r.drop (runN r)):=by
 cases r with
 | nil=>exact absurd rfl h
 | cons x t =>
  show _ :: _=_ :: _;have h1:=zbY (r:=x :: t) (by simp);rw[zmI b t.length ((x :: t).drop (runN (x :: t))).length _ (by rw[List.length_drop,List.length_cons];omega) (Nat.le_refl _)];rfl
theorem zaS (b:Bool){r:List UInt8}(h:r≠[]):zbe b r=tokR (runN r) (sgnR b (r.headD 0).toNat) :: zbe b (r.drop (runN r)):=by
 unfold zbe;rw[zsI b h];rfl
theorem zhb (b:Bool):∀(n:Nat) (r:List UInt8),r.length≤n→(zbe b r).length≤r.length
 | 0,r,h=>by
  have e:r=[]:=List.eq_nil_of_length_eq_zero (by omega);rw[e];exact Nat.le_refl _
 | n+1,r,h=>by
  by_cases h0:r=[]
  ·rw[h0];exact Nat.le_refl _
  ·have h1:=zbY h0;have h2:=zfn r;have h3:=zhb b n (r.drop (runN r)) (by rw[List.length_drop];omega);rw[zaS b h0,List.length_cons];rw[List.length_drop] at h3;omega
def tokK (b:Bool)(L:List (List UInt8)):Nat→List (List UInt8) × Option Nat
 | 0=>([],none)
 | k+1=>if zah (tat L k)=[] then tokK b L k else ((tokK b L k).1++(match (tokK b L k).2 with|none=>[]|some j=>[tokR (k-j) [36]])++zbe b (zah (tat L k)),some k)
theorem zbx {b:Bool}{L:List (List UInt8)}{k:Nat}(h:zah (tat L k)=[]):tokK b L (k+1)=tokK b L k:=if_pos h
theorem zbZ {b:Bool}{L:List (List UInt8)}{k:Nat}(h:zah (tat L k)≠[])(h2:(tokK b L k).2=none):tokK b L (k+1)=((tokK b L k).1++zbe b (zah (tat L k)),some k):=by
 show(if _ then _ else _)=_;rw[if_neg h,h2];show((tokK b L k).1++[]++_,_)=_;rw[List.append_nil]
theorem zcl {b:Bool}{L:List (List UInt8)}{k j:Nat}(h:zah (tat L k)≠[])(h2:(tokK b L k).2=some j):tokK b L (k+1)=((tokK b L k).1++[tokR (k-j) [36]]++zbe b (zah (tat L k)),some k):=by
 show(if _ then _ else _)=_;rw[if_neg h,h2]
theorem zlk {b:Bool}{L:List (List UInt8)}:∀{k j:Nat},(tokK b L k).2=some j→j<k
 | 0,j,h=>by cases h
 | k+1,j,h=>by
  by_cases h0:zah (tat L k)=[]
  ·rw[zbx h0] at h;have:=zlk h;omega
  ·have e:(tokK b L (k+1)).2=some k:=by
    show(if _ then _ else _:List (List UInt8) × Option Nat).2=_;rw[if_neg h0]
   rw[e] at h;cases h;omega
theorem zgd {b:Bool}{L:List (List UInt8)}{m:Nat}(hm:∀r∈L,r.length≤m):∀k,k≤L.length→(tokK b L k).1.length≤k*(m+1)
 | 0,_=>Nat.zero_le _
 | k+1,h=>by
  have ih:=zgd (b:=b) hm k (by omega);have h1:(tat L k).length≤m:=by
   unfold tat;rw[List.getElem?_eq_getElem (by omega)];exact hm _ (List.getElem_mem _)
  have h2:=zhb b _ (zah (tat L k)) (Nat.le_refl _);have h3:=zgY (tat L k);rw[Nat.add_mul,Nat.one_mul];by_cases h0:zah (tat L k)=[]
  ·rw[zbx h0];omega
  ·cases hj:(tokK b L k).2 with
   | none =>
    rw[zbZ h0 hj];show((tokK b L k).1++_).length≤_;rw[List.length_append];omega
   | some j =>
    rw[zcl h0 hj];show((tokK b L k).1++_++_).length≤_;rw[List.length_append,List.length_append];show _+1+_≤_;omega
def twoR (L:List (List UInt8)):Bool:=L.all fun r=>r.all fun x=>decide (x.toNat≤1)
def zas (L:List (List UInt8)):List (List UInt8):=(tokK (twoR L) L L.length).1++[[33]]
def zbE (l:List (List UInt8)):Nat→List UInt8 × Nat
 | 0=>([],0)
 | k+1=>if 70<(zbE l k).2+(tat l k).length then ((zbE l k).1++[10]++tat l k,(tat l k).length) else ((zbE l k).1++tat l k,(zbE l k).2+(tat l k).length)
theorem zhc {l:List (List UInt8)}{k:Nat}(h:70<(zbE l k).2+(tat l k).length):zbE l (k+1)=((zbE l k).1++[10]++tat l k,(tat l k).length):=if_pos h
theorem zjj {l:List (List UInt8)}{k:Nat}(h:¬ 70<(zbE l k).2+(tat l k).length):zbE l (k+1)=((zbE l k).1++tat l k,(zbE l k).2+(tat l k).length):=if_neg h
def zhv (l:List (List UInt8)):List UInt8:=(zbE l l.length).1++[10]
theorem zhd {l:List (List UInt8)}{m:Nat}(hm:∀r∈l,r.length≤m):∀k,k≤l.length→(zbE l k).1.length≤k*(m+1)∧(zbE l k).2≤k*(m+1)
 | 0,_=>⟨Nat.zero_le _,Nat.zero_le _⟩
 | k+1,h=>by
  have ih:=zhd hm k (by omega);have h1:(tat l k).length≤m:=by
   unfold tat;rw[List.getElem?_eq_getElem (by omega)];exact hm _ (List.getElem_mem _)
  rw[Nat.add_mul,Nat.one_mul];by_cases hc:70<(zbE l k).2+(tat l k).length
  ·rw[zhc hc];show((zbE l k).1++[10]++tat l k).length≤_∧(tat l k).length≤_;rw[List.length_append,List.length_append];show _+1+_≤_∧_;omega
  ·rw[zjj hc];show((zbE l k).1++tat l k).length≤_∧_+(tat l k).length≤_;rw[List.length_append];omega
def zqH:List UInt8:=[35,67,88,82,76,69,32,80,111,115,61]
def zqI:List UInt8:=[120,32,61,32]
def zqJ:List UInt8:=[44,32,121,32,61,32]
def zqK:List UInt8:=[44,32,114,117,108,101,32,61,32]
def zcR (rule:List UInt8)(X Y:Int)(L:List (List UInt8)):List UInt8 :=
 zqH++zdM X++[44]++zdM Y++[10]++(zqI++Digs.digs (zcp L)++zqJ++Digs.digs L.length++zqK++rule++[10])++zhv (zas L)
end Go.Proofs.YtfjajpnfjjdnpaaGreatDoor

namespace Go.Proofs.YtfjajpnfjjdnpaaGreatDoor
open Go.RowKit Lib
theorem zuF (w:World)(z:Int)(x:UInt8)(hz:z=(x.toNat:Int)) :
  (convert 83 9 (.slice (some ⟨w.heap.size,0,none⟩) 1 1)).run Tryz.prog (w.alloc (.cells #[.int .u8 z] 5))=.ok (.string ⟨#[x]⟩) (w.alloc (.cells #[.int .u8 z] 5)):=by
 subst hz;refine run_convert_bytes_back (P:=Tryz.prog) _ 83 9 5 ⟨w.heap.size,0,none⟩ 1 [x] Tryz.underlying83 Tryz.underlying5 Tryz.underlying9 (fun j hj=>?_);obtain rfl:j=0:=by simpa using hj
 exact cell_one_new _ _ _ 0 _ rfl
theorem zuG (w:World)(z y:Int)(x u:UInt8)(hz:z=(x.toNat:Int))(hy:y=(u.toNat:Int)) :
  (convert 83 9 (.slice (some ⟨w.heap.size,0,none⟩) 2 2)).run Tryz.prog (w.alloc (.cells #[.int .u8 z,.int .u8 y] 5))=.ok (.string ⟨#[x,u]⟩) (w.alloc (.cells #[.int .u8 z,.int .u8 y] 5)):=by
 subst hz;subst hy;refine run_convert_bytes_back (P:=Tryz.prog) _ 83 9 5 ⟨w.heap.size,0,none⟩ 2 [x,u] Tryz.underlying83 Tryz.underlying5 Tryz.underlying9 (fun j hj=>?_);have hc:=fun i=>cell_of_row _ _ i _ _ (0,0) (heap_alloc_new w (.cells #[.int .u8 (x.toNat:Int),.int .u8 (u.toNat:Int)] 5));have hj':j<2:=by simpa using hj
 match j,hj' with
 | 0,_=>exact(hc 0).trans rfl
 | 1,_=>exact(hc 1).trans rfl
theorem zeL (b:Bool)(n:Nat)(w:World)(hn:n≤255) :
  Calls Tryz.prog 36 #[.int .u8 (n:Int),.bool b] w fun e w'=>e=.returned (.string ⟨(sgnR b n).toArray⟩)∧Below w.heap.size w w':=by
 by_cases h0:n=0
 ·subst h0;cases b with
  | false =>
   go_enter Tryz.func36,Tryz.ntmps36;go_wp2_with fail;go_ret;exact⟨rfl,Below.refl _ _⟩
  | true =>
   go_enter Tryz.func36,Tryz.ntmps36;go_wp2_with fail;go_ret;exact⟨rfl,Below.refl _ _⟩
 ·by_cases h1:n=1∧b=true
  ·obtain⟨rfl,rfl⟩:=h1;go_enter Tryz.func36,Tryz.ntmps36;go_wp2_with fail;go_ret;exact⟨rfl,Below.refl _ _⟩
  ·obtain⟨T,hT⟩:∃T,T=sgnR b n:=⟨_,rfl⟩;have e0:¬ (b=true∧n=0):=fun e=>h0 e.2;have e1:¬ (b=true∧n=1):=fun e=>h1 ⟨e.2,e.1⟩;have t0:((n:Int)==0)=false:=beq_eq_false_iff_ne.2 (by omega);have t1:b=true→((n:Int)==1)=false:=fun hb=>beq_eq_false_iff_ne.2 (fun e=>h1 ⟨by omega,hb⟩);unfold sgnR at hT;rw[if_neg e0,if_neg e1,if_neg h0] at hT;rw[show sgnR b n=T by rw[hT];unfold sgnR;rw[if_neg e0,if_neg e1,if_neg h0]];by_cases h24:n≤24
   ·have t2:decide ((n:Int)≤24)=true:=decide_eq_true (by omega);rw[if_pos h24] at hT;obtain⟨z,hz⟩:∃z:Int,z=64+(n:Int):=⟨_,rfl⟩;obtain⟨y,hy⟩:∃y:Int,y=65+(n:Int):=⟨_,rfl⟩;have w1:IntKind.u8.wrap (65+(n:Int))=y:=by rw[hy];simp[IntKind.wrap,IntKind.bits,IntKind.signed];omega
    have w2:IntKind.u8.wrap (y-1)=z:=by rw[hy,hz];simp[IntKind.wrap,IntKind.bits,IntKind.signed];omega
    have hcv:=zuF w z (UInt8.ofNat (64+n)) (by rw[hz,UInt8.toNat_ofNat'];omega);have HT:=Hh (show(⟨#[UInt8.ofNat (64+n)]⟩:ByteArray)=⟨T.toArray⟩ by rw[hT]);rw[HT.out] at hcv;have HB:=Hh ((Below.refl w.heap.size w).alloc (Nat.le_refl _) (.cells #[.int .u8 z] 5));clear hT h0 h1 h24 e0 e1 hy hz;cases b with
    | false =>
     clear t1;go_enter Tryz.func36,Tryz.ntmps36;go_wp2_with fail;go_ret;exact⟨rfl,HB.out⟩
    | true =>
     have t3:=t1 rfl;clear t1;go_enter Tryz.func36,Tryz.ntmps36;go_wp2_with fail;go_ret;exact⟨rfl,HB.out⟩
   ·have t2:decide ((n:Int)≤24)=false:=decide_eq_false (by omega);rw[if_neg h24] at hT;obtain⟨m,hm⟩:∃m:Nat,n=m+25:=⟨n-25,by omega⟩;obtain⟨x,hx⟩:∃x:Int,x=(m:Int)+1:=⟨_,rfl⟩;obtain⟨y,hy⟩:∃y:Int,y=(m:Int):=⟨_,rfl⟩;have w1:IntKind.u8.wrap ((n:Int)-24)=x:=by rw[hm,hx];simp[IntKind.wrap,IntKind.bits,IntKind.signed];omega
    have w2:IntKind.u8.wrap (x-1)=y:=by rw[hx,hy];simp[IntKind.wrap,IntKind.bits,IntKind.signed];omega
    clear hx;obtain⟨q,hq⟩:∃q:Int,q=((m / 24:Nat):Int):=⟨_,rfl⟩;obtain⟨r,hr⟩:∃r:Int,r=((m%24:Nat):Int):=⟨_,rfl⟩;obtain⟨z,hz⟩:∃z:Int,z=112+q:=⟨_,rfl⟩;obtain⟨v,hv⟩:∃v:Int,v=65+r:=⟨_,rfl⟩;have d1:Int.tdiv y 24=q:=by rw[hy,hq];rfl
    have d2:Int.tmod y 24=r:=by rw[hy,hr];rfl
    have d3:IntKind.u8.wrap q=q:=by rw[hq];simp[IntKind.wrap,IntKind.bits,IntKind.signed];omega
    have d4:IntKind.u8.wrap r=r:=by rw[hr];simp[IntKind.wrap,IntKind.bits,IntKind.signed];omega
    have w3:IntKind.u8.wrap (112+q)=z:=by rw[hz,hq];simp[IntKind.wrap,IntKind.bits,IntKind.signed];omega
    have w4:IntKind.u8.wrap (65+r)=v:=by rw[hv,hr];simp[IntKind.wrap,IntKind.bits,IntKind.signed];omega
    have hcv:=zuG w z v (UInt8.ofNat (112+(n-25) / 24)) (UInt8.ofNat (65+(n-25)%24)) (by rw[hz,hq,UInt8.toNat_ofNat',hm,Nat.add_sub_cancel];omega) (by rw[hv,hr,UInt8.toNat_ofNat',hm,Nat.add_sub_cancel];omega);have HT:=Hh (show(⟨#[UInt8.ofNat (112+(n-25) / 24),UInt8.ofNat (65+(n-25)%24)]⟩:ByteArray)=⟨T.toArray⟩ by rw[hT]);rw[HT.out] at hcv;have HB:=Hh ((Below.refl w.heap.size w).alloc (Nat.le_refl _) (.cells #[.int .u8 z,.int .u8 v] 5));clear hT h0 h1 h24 e0 e1 hy hz hm hq hr hv;cases b with
    | false =>
     clear t1;go_enter Tryz.func36,Tryz.ntmps36;go_wp2_with fail;go_ret;exact⟨rfl,HB.out⟩
    | true =>
     have t3:=t1 rfl;clear t1;go_enter Tryz.func36,Tryz.ntmps36;go_wp2_with fail;go_ret;exact⟨rfl,HB.out⟩
abbrev WbA (b:Nat)(p:Value)(bs:List Value)(w:World):Prop:=Lib.BuilderAtF 85 5 b b p bs w
abbrev Wb (b:Nat)(bs:List Value)(w:World):Prop:=Lib.IsBuilderF 85 5 b b bs w
theorem zvO:(85:TypeId)≠5:=by decide
theorem zsJ:liesAt Tryz.prog Tryz.prog.depth 85 (2 / Tryz.prog.cellsOf 85) 0 85 1=true:=by kernel_rfl
theorem zkc (b:Nat)(w:World)(h0:w.cell? ⟨b,0,none⟩=some (.pointer none))(hs:w.shape? b=some (85,2))(hf:w.frozen? ⟨b,0,none⟩=false) :
  Calls Tryz.prog 135 #[.pointer (some ⟨b,0,none⟩)] w fun e w'=>e=.returned (.tuple #[])∧w'=w.setCell ⟨b,0,none⟩ (.pointer (some ⟨b,0,none⟩)):=by
 obtain⟨j,hj,hjs⟩:=Option.map_eq_some_iff.1 zmF;go_enter Tryz.func135,Tryz.ntmps135;go_wp2;rw[Lib.run_to_unsafe w ⟨b,0,none⟩ Tryz.underlying82 Tryz.underlying206 hj (by rw[hjs];decide) hs (Nat.zero_lt_succ 1)];simp only[Result.andThen];rw[Oper.upon_value];go_wp2;rw[run_callFunc_extern Tryz.func176 (by kernel_rfl) (by kernel_rfl) (by kernel_rfl) (e:=Extern.AbiNoEscape.same) (by kernel_rfl),Lib.run_noEscape];simp only[Result.andThen];rw[Oper.upon_value];go_wp2;rw[Lib.run_from_unsafe w ⟨b,0,none⟩ Tryz.underlying206 Tryz.underlying82 hj hs zsJ];simp only[Result.andThen];rw[Oper.upon_value];go_wp2;go_end0;exact⟨rfl,rfl⟩
theorem zmJ (b:Nat)(bs:List Value)(w:World)(h:Wb b bs w) :
  Calls Tryz.prog 135 #[.pointer (some ⟨b,0,none⟩)] w fun e w'=>e=.returned (.tuple #[])∧WbA b (.pointer (some ⟨b,0,none⟩)) bs w'∧Ke b w w':=by
 rcases h with h|h
 ·refine(zkc b w h.cell0 h.shape h.frozen0).mono ?_;rintro e w' ⟨rfl,rfl⟩;exact⟨rfl,h.used _,(Below.refl b w).setCell (p:=⟨b,0,none⟩) h.1 _,(Lib.OthersKept.refl _ _ w).setCell ⟨b,0,none⟩ rfl _⟩
 ·refine(zjf b w h.cell0).mono ?_;rintro e w' ⟨rfl,rfl⟩;exact⟨rfl,h,Ke.refl _ _⟩
theorem WbA.cells {b:Nat}{p:Value}{bs:List Value}{w:World}(h:WbA b p bs w):∃v,w.heap[b]?=some (.cells #[p,v] 85 (0,0))∧w.cell? ⟨b,0,none⟩=some p∧w.cell? ⟨b,1,none⟩=some v∧w.frozen? ⟨b,1,none⟩=false∧w.ownsRowF b 5 1 v bs.length bs∧v.ownBlock≠some b:=by
 obtain⟨-,v,hb,ho,hne⟩:=h;exact⟨v,hb,by rw[Lib.cell_of_heap hb];rfl,by rw[Lib.cell_of_heap hb];rfl,Lib.frozen_of_heap hb 1,ho,hne⟩
theorem WbA.grew {b:Nat}{p v v':Value}{bs cs:List Value}{w w1 w2:World}(hb:b≤w.heap.size)(k:Ke b w w1)(hbk:w1.heap[b]?=some (.cells #[p,v] 85 (0,0)))(ho:w1.ownsRowF b 5 1 v bs.length bs)(hne:v.ownBlock≠some b)
  (o:w2.ownsRowF b 5 1 v' (bs++cs).length (bs++cs)) (g:w1.grownBy w2 v.ownBlock) :
  w2.heap[b]?=some (.cells #[p,v] 85 (0,0))∧WbA b p (bs++cs) (w2.setCell ⟨b,1,none⟩ v')∧Ke b w (w2.setCell ⟨b,1,none⟩ v'):=by
 have hlt:b<w1.heap.size:=(Array.getElem?_eq_some_iff.1 hbk).1;have hb2:w2.heap[b]?=some (.cells #[p,v] 85 (0,0)):=by rw[g.block b hlt (fun e=>hne e.symm)];exact hbk
 exact⟨hb2,Lib.BuilderAtF.put (Nat.le_refl _) hb2 o zvO,(k.1.grown g (Nat.le_trans hb k.1.size) (fun q hq=>(ho.lt q hq).1)).setCell (p:=⟨b,1,none⟩) (Nat.le_refl _) _,(k.2.grown g (Lib.ownsRowF_kind ho)).setCell ⟨b,1,none⟩ rfl _⟩
theorem zqL (b:Nat)(bs:List Value)(s:ByteArray)(w:World)(h:Wb b bs w)(hl:bs.length+s.size≤140737488355328)(hb:b≤w.heap.size) :
  Calls Tryz.prog 87 #[.pointer (some ⟨b,0,none⟩),.string s] w fun e w'=>e=.returned (.tuple #[.int .i64 s.size,.nilIface])∧WbA b (.pointer (some ⟨b,0,none⟩)) (bs++strCells s) w'∧Ke b w w':=by
 obtain⟨i0,hi,hz0,hz1,hz2⟩:=info_parts zmE;go_enter Tryz.func87,Tryz.ntmps87;go_wp2_with (first
  | (go_at_call 135;go_loud (refine(zmJ b _ _ h).mono ?_;rintro e w1 ⟨rfl,h1,k1⟩;obtain⟨v,hbk,c0,c1,-,ho,hne⟩:=h1.cells))
  | (at_builtin;go_loud (refine wpList_append_own_stringF _ rfl _ _ 83 9 rfl b 5 i0 Tryz.underlying83 Tryz.underlying9 hi hz0 hz1 hz2 _ _ _ rfl ho s rfl (by unfold maxLen;omega) (by omega) (by have:=k1.1.size;omega) ?_;intro v' w2 ho2 hg2 _;have hc:=WbA.grew hb k1 hbk ho hne (v':=v') (cs:=strCells s) (by rw[List.length_append,strCells_length];exact ho2) hg2;obtain⟨hb2,h3,k3⟩:=hc;have d0:w2.cell? ⟨b,0,none⟩=some (.pointer (some ⟨b,0,none⟩)):=(Lib.cell_of_heap hb2 0).trans rfl;have d1:w2.cell? ⟨b,1,none⟩=some v:=(Lib.cell_of_heap hb2 1).trans rfl;have f1:w2.frozen? ⟨b,1,none⟩=false:=Lib.frozen_of_heap hb2 1;obtain⟨A2,c2,rfl⟩:=zid ho2)))
 go_ret2;exact⟨rfl,h3,k3⟩
theorem zmK (b:Nat)(l:List UInt8)(s:ByteArray)(w:World)(h:Wb b (byteCells l) w)(hl:l.length+s.size≤140737488355328)(hb:b≤w.heap.size) :
  Calls Tryz.prog 87 #[.pointer (some ⟨b,0,none⟩),.string s] w fun e w'=>e=.returned (.tuple #[.int .i64 s.size,.nilIface])∧Wb b (byteCells (l++s.data.toList)) w'∧Ke b w w':=by
 refine(zqL b _ s w h (by rw[byteCells_length];exact hl) hb).mono ?_;rintro e w' ⟨rfl,h1,h2⟩;rw[strCells_eq,←byteCells_append] at h1;exact⟨rfl,.inr h1,h2⟩
theorem zsK (b:Nat)(bs:List Value)(n:Nat)(hn:bs.length=n)(r:Int)(w:World)(h:Wb b bs w)(hl:n+1≤140737488355328)(hb:b≤w.heap.size) :
  Calls Tryz.prog 89 #[.pointer (some ⟨b,0,none⟩),.int .u8 r] w fun e w'=>e=.returned .nilIface∧WbA b (.pointer (some ⟨b,0,none⟩)) (bs++[.int .u8 r]) w'∧Ke b w w':=by
 obtain⟨i0,hi,hz0,hz1,hz2⟩:=info_parts zmE;go_enter Tryz.func89,Tryz.ntmps89;go_wp2_with (first
  | (go_at_call 135;go_loud (refine(zmJ b _ _ h).mono ?_;rintro e w1 ⟨rfl,h1,k1⟩;obtain⟨v,hbk,c0,c1,-,ho,hne⟩:=h1.cells;rw[hn] at ho;have hlt:b<w1.heap.size:=(Array.getElem?_eq_some_iff.1 hbk).1;have e1:(w1.alloc (.cells #[.int .u8 r] 5)).cell? ⟨b,1,none⟩=some v:=(Lib.cell_of_heap ((Lib.alloc_old w1 _ b hlt).trans hbk) 1).trans rfl))
  | (at_builtin;go_loud (refine wpList_append_ownF _ rfl _ _ 83 rfl b 5 i0 (.int .u8 0) 1 1 Tryz.underlying83 hi hz0 hz1 hz2 rfl (by decide) _ _ _ rfl (ho.alloc _) ⟨w1.heap.size,0,none⟩ 1 1 [.int .u8 r] rfl rfl (fun j u hj=>by(match j,hj with|0,hj=>(simp at hj;subst hj;simp[Addr.add])|(j+1),hj=>simp at hj)) (fun u hu=>by(simp at hu;subst hu;rfl)) (by unfold maxLen;omega) (by omega) (by have:=k1.1.size;simp;omega) ?_;intro v' w2 ho2 hg2 _;have hc:=WbA.grew (w1:=w1.alloc (.cells #[.int .u8 r] 5)) hb (⟨k1.1.alloc (by have:=k1.1.size;omega) _,k1.2.alloc _⟩:Ke b w (w1.alloc (.cells #[.int .u8 r] 5))) ((Lib.alloc_old w1 _ b hlt).trans hbk) (by rw[hn];exact ho.alloc _) hne (v':=v') (cs:=[.int .u8 r]) (by rw[List.length_append,hn];exact ho2) hg2;obtain⟨hb2,h3,k3⟩:=hc;have d0:w2.cell? ⟨b,0,none⟩=some (.pointer (some ⟨b,0,none⟩)):=(Lib.cell_of_heap hb2 0).trans rfl;have d1:w2.cell? ⟨b,1,none⟩=some v:=(Lib.cell_of_heap hb2 1).trans rfl;have f1:w2.frozen? ⟨b,1,none⟩=false:=Lib.frozen_of_heap hb2 1;obtain⟨A2,c2,rfl⟩:=zid ho2)))
 go_ret;exact⟨rfl,h3,k3⟩
theorem zqM (b:Nat)(l:List UInt8)(r:UInt8)(w:World)(h:Wb b (byteCells l) w)(hl:l.length+1≤140737488355328)(hb:b≤w.heap.size) :
  Calls Tryz.prog 89 #[.pointer (some ⟨b,0,none⟩),.int .u8 (r.toNat:Int)] w fun e w'=>e=.returned .nilIface∧Wb b (byteCells (l++[r])) w'∧Ke b w w':=by
 refine(zsK b _ _ (byteCells_length l) (r.toNat:Int) w h hl hb).mono ?_;rintro e w' ⟨he,h2,h3⟩;rw[show([.int .u8 (r.toNat:Int)]:List Value)=byteCells [r] from rfl,←byteCells_append] at h2;exact⟨he,.inr h2,h3⟩
theorem zuH (b:Nat)(l:List UInt8)(w:World)(h:Wb b (byteCells l) w)(h0:l≠[]) :
  Calls Tryz.prog 54 #[.pointer (some ⟨b,0,none⟩)] w fun e w'=>e=.returned (.string ⟨l.toArray⟩)∧Below b w w':=by
 obtain⟨p,hA⟩:∃p,WbA b p (byteCells l) w:=by
  rcases h with h|h
  ·exact⟨_,h⟩
  ·exact⟨_,h⟩
 obtain⟨v,hbk,-,c1,-,ho,hne⟩:=hA.cells;have hl0:l.length≠0:=by simpa using h0
 rw[byteCells_length] at ho;obtain⟨g,cap,cur,fz,rfl,hbg,hg,hcm,hnc,hcs⟩:∃g cap cur fz,v=.slice (some ⟨g,0,none⟩) l.length cap∧b≤g∧w.heap[g]?=some (.cells cur 5 fz)∧cap≤maxLen∧l.length≤cap∧l.length≤cur.size:=by
  rcases ho.2 with⟨-,hz⟩|⟨g,cap,cur,fz,hv,r1,r2,-,r3,r4,r5,-⟩
  ·exact absurd hz hl0
  ·exact⟨g,cap,cur,fz,hv,r1,r2,r4,r3,by omega⟩
 have c2:w.drew.cell? ⟨b,1,none⟩=some (.slice (some ⟨g,0,none⟩) l.length cap):=c1;have hSD:(Builtin.unsafeSliceData_ #[83] 143 #[.slice (some ⟨g,0,none⟩) l.length cap]).run Tryz.prog w.drew=.ok (.pointer (some ⟨g,0,none⟩)) w.drew:=run_unsafeSliceData_row _ _ _ _ _ _ (by omega);have hUS:(Builtin.unsafeString_ #[143,3] 9 #[.pointer (some ⟨g,0,none⟩),.int .i64 l.length]).run Tryz.prog w.drew=.ok (.string ⟨l.toArray⟩) (w.drew.freeze ⟨g,0,none⟩ l.length) :=
  run_unsafeString_row w.drew 143 3 9 5 Tryz.underlying143 (by kernel_rfl) g cur.size (by have hg':w.drew.heap[g]?=some (.cells cur 5 fz):=hg;simp[World.shape?,hg']) l h0 hcs (by unfold maxLen at hcm;omega) (fun j x hx=>ho.cells (g:=g) rfl j (.int .u8 x.toNat) (by simp[byteCells,hx]))
 have mixed:Tryz.prog.follows .mixedOrders=true:=by kernel_rfl
 go_enter Tryz.func54,Tryz.ntmps54;go_wp2;go_region_o
 all_goals (go_wp2;go_ret;exact⟨rfl,below_freeze (Below.drew (Below.refl b w)) (p:=⟨g,0,none⟩) hbg _⟩)
theorem Wb.fresh (w:World):Wb w.heap.size (Lib.byteCells []) (w.alloc (.cells #[.pointer none,.slice none 0 0] 85)):=Lib.IsBuilderF.of (Lib.fresh_isBuilder 85 5 w)
theorem zsL {n:Nat}(h:n<100):Lib.decDigits n=Digs.digs n:=by
 have h1:((List.range 100).all fun n=>Lib.decDigits n==Digs.digs n)=true:=by kernel_rfl
 have h2:=List.all_eq_true.1 h1 n (List.mem_range.2 h);exact eq_of_beq h2
theorem zhe (n:Nat)(w:World)(h:n<100) :
  Calls Tryz.prog 75 #[.int .i64 (n:Int)] w fun e w'=>e=.returned (.string ⟨(Digs.digs n).toArray⟩)∧w'=w:=by
 refine(Any.strconv_Itoa_small Tryz.itS n h w).mono ?_;rintro e w' ⟨rfl,rfl⟩;rw[zsL h];exact⟨rfl,rfl⟩
theorem zvP (a:List UInt8)(s:ByteArray):(⟨a.toArray⟩:ByteArray)++s=⟨(a++s.data.toList).toArray⟩:=by
 refine zqC ?_;simp[ByteArray.data_append]
theorem zdI {n:Nat}(h:n<100):(Digs.digs n).length≤2:=Digs.digs_length_le (k:=2) (by omega) (by omega)
theorem zif (n:Nat)(s:ByteArray)(w:World)(hn:n<100)(hs:s.size≤1000) :
  Calls Tryz.prog 80 #[.int .i64 (n:Int),.string s] w fun e w'=>e=.returned (.string ⟨(tokR n s.data.toList).toArray⟩)∧w'=w:=by
 by_cases h1:n=1
 ·subst h1;have HT:=Hh (show(⟨(tokR 1 s.data.toList).toArray⟩:ByteArray)=s from zqC rfl);rw[HT.out];go_enter Tryz.func80,Tryz.ntmps80;go_wp2_with fail;go_ret;exact⟨rfl,rfl⟩
 ·have t1:((n:Int)==1)=false:=beq_eq_false_iff_ne.2 (by omega);obtain⟨a,ha⟩:∃a:ByteArray,a=⟨(Digs.digs n).toArray⟩:=⟨_,rfl⟩;have HA:=Hh ha;have hz:a.size≤2:=by rw[ha,zbp];exact zdI hn
  have HT:=Hh (show(⟨(tokR n s.data.toList).toArray⟩:ByteArray)=a++s by
   rw[ha,zvP];unfold tokR;rw[if_neg h1])
  rw[HT.out];have m1:(9223372036854775807<a.size+s.size)=False:=eq_false (by omega);have HN:=Hh hn;clear ha h1;go_enter Tryz.func80,Tryz.ntmps80;go_wp2_with (go_at_call 75;go_loud (refine(zhe n _ HN.out).mono ?_;rintro e w1 ⟨rfl,rfl⟩;rw[←HA.out]));go_ret;exact⟨rfl,rfl⟩
theorem zdq (s:ByteArray)(w:World)(hs:s.size≤maxLen) :
  Calls Tryz.prog 79 #[.string s] w fun e w'=>e=.returned (.string ⟨(zah s.data.toList).toArray⟩)∧w'=w:=by
 go_enter Tryz.func79,Tryz.ntmps79;go_wp2_with (go_at_call 90;go_loud (refine(zqE s _ hs).mono ?_;rintro e w1 ⟨rfl,rfl⟩));go_ret;exact⟨rfl,rfl⟩
theorem zsM {s:ByteArray}{i:Nat}(h:i<s.size)(hx:s.data.toList[i]?=s.data.toList.head?)(ha:∀j,j<i→s.data.toList[j]?=s.data.toList.head?):∀j,j<i+1→s.data.toList[j]?=s.data.toList.head?:=fun j hj=>by
 rcases Nat.lt_or_ge j i with h1|h1
 ·exact ha j h1
 ·rw[show j=i by omega];exact hx
theorem zsN (s:ByteArray)(w:World)(hs:s.size≤1000000)(h0:0<s.size) :
  Calls Tryz.prog 126 #[.string s] w fun e w'=>e=.returned (.int .i64 (runN s.data.toList:Int))∧Below w.heap.size w w':=by
 have hg0:=zeg h0;have hhd:s.data.toList.head?=some (s[0]'h0):=by rw[List.head?_eq_getElem?];exact hg0
 have HD:=Hh hhd;obtain⟨R,hR⟩:∃R,R=runN s.data.toList:=⟨_,rfl⟩;have HR:=Hh hR;rw[←hR];have hm:s.size≤9223372036854775800:=by omega
 have z0:(0:Int)<(s.size:Int):=by omega
 have z1:(0<s.size)=True:=eq_true h0;obtain⟨x0,hx0⟩:∃x,x=(s[0]'h0).toNat:=⟨_,rfl⟩;have HX0:=Hh hx0;clear hg0 hhd hR hs hx0;go_enter Tryz.func126,Tryz.ntmps126;go_wp2_with fail;go_loopw [6,3] (fun z1 z2 wr=>∃(i:Nat) (v:Value),z1=.int .i64 i∧v=z2∧i≤s.size∧(∀j,j<i→s.data.toList[j]?=s.data.toList.head?)∧Below w.heap.size w wr) (fun z1 _ _=>s.size-(intOf z1).toNat)
 case atStart=>exact⟨0,_,rfl,rfl,Nat.zero_le _,fun j hj=>by omega,Below.refl _ _⟩
 case round =>
  obtain⟨i,v,rfl,rfl,hi,ha,hb⟩:=hrel;have HA:=Hh ha;have HB:=Hh hb;have iw:IntKind.i64.wrap ((i:Int)+1)=(i:Int)+1:=IntWalk.i64_in _ (by omega);clear ha hb;by_cases hlt:i<s.size
  ·have hgt:=zeg hlt;have HGT:=Hh hgt;have HLT:=Hh hlt;have i0:(0:Int)≤(i:Int):=by omega
   have i1:(i:Int)<(s.size:Int):=by omega
   have j3:decide ((i:Int)<(s.size:Int))=true:=decide_eq_true i1;clear hgt;by_cases hx:(s[i]'hlt)=s[0]'h0
   ·have u1:((((s[i]'hlt).toNat:Nat):Int)!=(((s[0]'h0).toNat:Nat):Int))=false:=by rw[hx];exact bne_self_eq_false _
    have HX:=Hh hx;clear hx;go_wp2_with fail;go_quiet (fail);go_wp2_with fail;go_roundw
    case rel=>exact⟨i+1,_,by go_num,rfl,HLT.out,zsM HLT.out (by rw[HGT.out,HD.out,HX.out]) HA.out,zaa HB.out _⟩
    case measure=>have:=HLT.out;simp[intOf];omega
   ·have u1:((((s[i]'hlt).toNat:Nat):Int)!=(((s[0]'h0).toNat:Nat):Int))=true:=by
     rw[bne_iff_ne];exact fun e=>hx (UInt8.toNat_inj.1 (by omega))
    have HX:=Hh hx;have HRI:=Hh (show R=i by
     rw[HR.out];refine zqF (Nat.pos_of_ne_zero fun e=>?_) (by rw[zaU];exact hi) HA.out (.inr ?_)
     ·subst e;exact hx rfl
     ·rw[HGT.out,HD.out];exact fun e=>hx (Option.some.inj e))
    clear hx;go_wp2_with fail;go_quiet (fail);go_wp2_with fail;go_ret;exact⟨by rw[HRI.out];rfl,zaa HB.out _⟩
  ·have e:i=s.size:=by omega
   have t9:decide ((i:Int)<(s.size:Int))=false:=decide_eq_false (by omega);have t10:decide (i<s.size)=false:=decide_eq_false hlt;have t11:(i<s.size)=False:=eq_false hlt;have HRI:=Hh (show R=s.size by
    rw[HR.out];refine zqF h0 (by rw[zaU];exact Nat.le_refl _) (by rw[←e];exact HA.out) (.inl (by rw[zaU])))
   clear hlt e;go_wp2_with fail;go_ret;exact⟨by rw[HRI.out];rfl,HB.out⟩
theorem Tryz.infoTs:(Tryz.prog.info? 9).map (fun i=>(i.zero,i.size,i.bytes))=some (some (.string ⟨#[]⟩),1,16):=by kernel_rfl
def OwS (W:World)(base:Nat)(v:Value)(n:Nat)(L:List (List UInt8)):Prop:=L.length=n∧W.ownsRow base 9 1 v n (L.map strV)
theorem OwS.nil (W:World)(base:Nat):OwS W base (.slice none 0 0) 0 []:=⟨rfl,World.ownsRow_nil _ _ _ 1⟩
theorem OwS.more {W:World}{base n:Nat}{v:Value}{L:List (List UInt8)}{t:List UInt8}(h:L.length=n)(k:W.ownsRow base 9 1 v (n+1) (L.map strV++[strV t])):OwS W base v (n+1) (L++[t]) :=
 ⟨by rw[List.length_append,h];rfl,by rw[List.map_append];exact k⟩
theorem OwS.next {W W':World}{base n:Nat}{v:Value}{L:List (List UInt8)}(h:OwS W base v n L)(k:Below W.heap.size W W'):OwS W' base v n L :=
 ⟨h.1,h.2.1,by
  rcases h.2.2 with h2|⟨g,cap,cur,hv,r1,r2,r3⟩
  ·exact .inl h2
  ·exact .inr ⟨g,cap,cur,hv,r1,(k.block _ (Array.getElem?_eq_some_iff.1 r2).1).trans r2,r3⟩⟩
theorem zmL (b:Bool)(n:Nat):(sgnR b n).length≤2:=by
 unfold sgnR;split
 ·simp
 ·split
  ·simp
  ·split
   ·simp
   ·split <;> simp
theorem zsO (t:ByteArray)(m:Nat):(t.extract m t.size).data.toList=t.data.toList.drop m:=by
 rw[ByteArray.data_extract,Array.toList_extract,List.extract_eq_take_drop];exact List.take_of_length_le (by rw[List.length_drop,zaU];exact Nat.le_refl _)
theorem zmM {n:Nat}{s:List UInt8}(h:n<100)(hs:s.length≤2):(tokR n s).length≤4:=by
 unfold tokR;split
 ·omega
 ·rw[List.length_append];have:=zdI h;omega
theorem zhf (b:Bool)(s:ByteArray)(base n:Nat)(v:Value)(L:List (List UInt8))(w:World)(ho:OwS w base v n L)(hb:base≤w.heap.size)(hs:s.size≤99)(hn:n≤1000000) :
  Calls Tryz.prog 81 #[v,.string s,.bool b] w fun e w'=>∃v',e=.returned v'∧OwS w' base v' (n+(zbe b s.data.toList).length) (L++zbe b s.data.toList)∧Below base w w':=by
 obtain⟨iT,hi,hz0,hz1,hz2⟩:=zgU Tryz.infoTs;have HI:=Hh (And.intro hi (And.intro hz0 (And.intro hz1 hz2)));have hTL:=zhb b _ s.data.toList (Nat.le_refl _);rw[zaU] at hTL;obtain⟨T,hT⟩:∃T,T=L++zbe b s.data.toList:=⟨_,rfl⟩;obtain⟨N,hN⟩:∃N,N=n+(zbe b s.data.toList).length:=⟨_,rfl⟩;rw[←hT,←hN];have HT:=Hh hT;have HN:=Hh (show T.length=N by rw[hT,hN,List.length_append,ho.1]);have HN9:=Hh (show N≤1000100 by omega);have HO:=Hh ho;have HBW:=Hh hb;clear hi hz0 hz1 hz2 hT hN ho hb hTL;go_enter Tryz.func81,Tryz.ntmps81;go_wp2_with fail;go_loopw [0,1,7] (fun z1 z2 z3 wr=>∃(v' y:Value) (r:ByteArray) (m:Nat) (M:List (List UInt8)),v'=z1∧z2=.string r∧y=z3∧M++zbe b r.data.toList=T∧r.size≤99∧OwS wr base v' m M∧Below base w wr) (fun _ z2 _ _=>ztu z2)
 case atStart=>exact⟨_,_,s,n,L,rfl,rfl,rfl,HT.out.symm,hs,HO.out,Below.refl _ _⟩
 case round =>
  obtain⟨v',y,r,m,M,rfl,rfl,rfl,hM,hr,hown,hbl⟩:=hrel;have HM:=Hh hM;have HOW:=Hh hown;have HB:=Hh hbl;have hb0:=HBW.out;have hsz:=Nat.le_trans hb0 hbl.size;have hm9:m≤1000100:=by
   have h1:=congrArg List.length hM;rw[List.length_append,HN.out,hown.1] at h1;have:=HN9.out;omega
  clear hM hown hbl;rcases Nat.eq_zero_or_pos r.size with h0|h0
  ·have hl:r.data.toList=[]:=List.eq_nil_of_length_eq_zero (by rw[zaU];exact h0);have e1:r.toList.isEmpty=true:=by
    rw[ByteArray.toList_eq,hl];rfl
   have HE:=Hh (show M=T by have:=HM.out;rw[hl,zqG,List.append_nil] at this;exact this);have HE2:=Hh (show m=N by rw[←HOW.out.1,HE.out];exact HN.out);clear hl h0;go_wp2_with fail;go_ret;exact⟨_,rfl,by rw[←HE.out,←HE2.out];exact HOW.out,HB.out⟩
  ·have hl:r.data.toList≠[]:=fun e=>by
    have:=zaU r;rw[e] at this;simp at this;omega
   have e1:r.toList.isEmpty=false:=by
    rw[ByteArray.toList_eq];cases hq:r.data.toList with
    | nil=>exact absurd hq hl
    | cons x t=>rfl
   have hhd:r.data.toList.headD 0=r[0]'h0:=by
    have h1:=zeg h0;cases hq:r.data.toList with
    | nil=>exact absurd hq hl
    | cons x t =>
     rw[hq] at h1;exact Option.some.inj h1
   obtain⟨c,hc⟩:∃c,c=runN r.data.toList:=⟨_,rfl⟩;have hc1:=zfn r.data.toList;have hc0:=zbY hl;rw[zaU,←hc] at hc1;rw[←hc] at hc0;obtain⟨x0,hx0⟩:∃x,x=(r[0]'h0).toNat:=⟨_,rfl⟩;obtain⟨g,hg⟩:∃g:ByteArray,g=⟨(sgnR b x0).toArray⟩:=⟨_,rfl⟩;have hgz:g.size≤2:=by rw[hg,zbp];exact zmL _ _
   obtain⟨t,ht⟩:∃t,t=tokR c g.data.toList:=⟨_,rfl⟩;have HTK:=Hh (show zbe b r.data.toList=t :: zbe b (r.data.toList.drop c) by
    rw[zaS b hl,hhd,←hc,←hx0,ht,hg])
   have HC:=Hh hc;have HG:=Hh hg;have HX:=Hh hx0;have HTT:=Hh ht;have hx9:x0≤255:=by rw[hx0];have:=(r[0]'h0).toNat_lt;omega
   have k0:(0:Int)≤(c:Int):=by omega
   have k1:(c:Int)≤(r.size:Int):=by omega
   have k2:(0:Int)<(r.size:Int):=by omega
   have k3:(0<r.size)=True:=eq_true h0;have HDR:=Hh (zsO r c);have hc9:c<100:=by omega
   have HH0:=Hh h0;clear hl hhd hc hg ht;go_wp2_with (first
    | (go_at_call 126;go_loud (refine(zsN r _ (by omega) HH0.out).mono ?_;rintro e w1 ⟨rfl,b1_⟩;rw[←HC.out];have OW1:=Hh (HOW.out.next b1_);have B1:=Hh (HB.out.trans (b1_.mono hsz));have hs1:=Nat.le_trans hb0 B1.out.size;clear b1_))
    | (go_at_call 36;go_loud (rw[←HX.out];refine(zeL b x0 _ hx9).mono ?_;rintro e w2 ⟨rfl,b2_⟩;rw[←HG.out];have OW2:=Hh (OW1.out.next b2_);have B2:=Hh (B1.out.trans (b2_.mono hs1));have hs2:=Nat.le_trans hb0 B2.out.size;clear b2_))
    | (go_at_call 80;go_loud (refine(zif c g _ hc9 (by omega)).mono ?_;rintro e w3 ⟨rfl,rfl⟩;rw[←HTT.out]))
    | (at_builtin;go_loud (refine wpList_append_own_at _ rfl _ _ 49 rfl base 9 iT (.string ⟨#[]⟩) 1 16 Tryz.underlying49 HI.out.1 HI.out.2.1 HI.out.2.2.1 HI.out.2.2.2 rfl (by decide) _ _ _ rfl (OW2.out.next ((Below.refl _ _).alloc (Nat.le_refl _) (.cells #[.string ⟨t.toArray⟩] 9))).2 ⟨_,0,none⟩ 1 1 [.string ⟨t.toArray⟩] rfl rfl (cell_one_new _ _ _) (by simp[Value.oneCell']) (by simp only[maxLen];omega) (by omega) (by simp;omega) ?_;intro v2 w4 ho4 hg4 hn4 hk4;have OW4:=Hh (OwS.more (t:=t) HOW.out.1 ho4);have B4:=Hh ((B2.out.alloc hs2 (.cells #[.string ⟨t.toArray⟩] 9)).grown hg4 (by rw[World.size_alloc];omega) (fun q hq=>(OW2.out.2.lt q hq).1));clear ho4 hg4 hn4 hk4)))
   go_roundw
   case rel=>exact⟨_,_,r.extract c r.size,m+1,M++[t],rfl,rfl,rfl,by rw[HDR.out,←HM.out,HTK.out,List.append_assoc];rfl,by rw[←zaU,HDR.out,List.length_drop,zaU];omega,OW4.out,B4.out⟩
   case measure =>
    show(r.extract c r.size).size<r.size;rw[←zaU (r.extract c r.size),HDR.out,List.length_drop,zaU];omega
def allR (r:List UInt8):Bool:=r.all fun x=>decide (x.toNat≤1)
theorem zqN {L:List (List UInt8)}{k:Nat}(hk:k<L.length):twoR (L.take (k+1))=(twoR (L.take k)&&allR (tat L k)):=by
 unfold twoR;rw[List.take_add_one,List.getElem?_eq_getElem hk,List.all_append];unfold tat;rw[List.getElem?_eq_getElem hk];show(_&&((_:Bool)&&true))=_;rw[Bool.and_true];rfl
theorem zqO {r:List UInt8}{i:Nat}{x:UInt8}(hx:r[i]?=some x):allR (r.take (i+1))=(allR (r.take i)&&decide (x.toNat≤1)):=by
 unfold allR;rw[List.take_add_one,hx,List.all_append];show(_&&((_:Bool)&&true))=_;rw[Bool.and_true]
theorem zuI {m x:Nat}{A:Bool}(h:decide (m≤1)=A):decide (max m x≤1)=(A&&decide (x≤1)):=by
 rw[←h,←Bool.decide_and,decide_eq_decide];omega
theorem zkd (A:Option Addr)(c n:Nat)(L:List (List UInt8))(w:World)(h:Ts w A c L)(hn:L.length=n)(hr:∀r∈L,r.length≤1000) :
  Calls Tryz.prog 78 #[.slice A n c] w fun e w'=>(∃m:Nat,e=.returned (.int .u8 (m:Int))∧m≤255∧decide (m≤1)=twoR L)∧w'=w:=by
 have hcap:=h.cap;rw[hn] at hcap;have HT:=Hh h;have HN:=Hh hn;have HR:=Hh hr;clear h hn hr;go_enter Tryz.func78,Tryz.ntmps78;go_wp2_with fail;go_loopw [9,3] (fun z1 z2 wr=>∃(k m:Nat),z1=.int .i64 k∧z2=.int .u8 (m:Int)∧k≤n∧m≤255∧decide (m≤1)=twoR (L.take k)∧wr=w) (fun z1 _ _=>n-(intOf z1).toNat)
 case atStart=>exact⟨0,0,rfl,rfl,Nat.zero_le _,by omega,by rw[List.take_zero];rfl,rfl⟩
 case round =>
  obtain⟨k,m,rfl,rfl,hk,hm9,hm,rfl⟩:=hrel;have HM:=Hh hm;have HM9:=Hh hm9;clear hm hm9;by_cases hlt:k<n
  ·have kw:IntKind.i64.wrap ((k:Int)+1)=(k:Int)+1:=IntWalk.i64_in _ (by omega);have hkl:k<L.length:=by rw[HN.out];exact hlt
   obtain⟨b2,o2,hA2,-,hcc⟩:=HT.out.at_ (by omega)
   subst hA2;have s0:=hcc k hkl;unfold strV at s0;obtain⟨s,hs⟩:∃s:ByteArray,s=⟨(tat L k).toArray⟩:=⟨_,rfl⟩;rw[←hs] at s0;have HSD:=Hh (show s.data.toList=tat L k by rw[hs]);have hsz:s.size≤1000:=by
    rw[hs,zbp];refine HR.out _ ?_;unfold tat;rw[List.getElem?_eq_getElem hkl];exact List.getElem_mem _
   have j0:(0:Int)≤(k:Int):=by omega
   have j1:(k:Int)<(n:Int):=by omega
   have j3:decide ((k:Int)<(n:Int))=true:=decide_eq_true j1;have HLT:=Hh hlt;have HTW:=Hh (zqN hkl);clear hcc hs hlt hkl;go_wp2_with fail;go_loopw [15,3] (fun z1 z2 w2=>∃(i m:Nat),z1=.int .i64 i∧z2=.int .u8 (m:Int)∧i≤s.size∧m≤255∧decide (m≤1)=(twoR (L.take k)&&allR (s.data.toList.take i))∧w2=wr) (fun z1 _ _=>s.size-(intOf z1).toNat)
   case atStart=>exact⟨0,m,rfl,rfl,Nat.zero_le _,HM9.out,by rw[HM.out,List.take_zero];show _=(_&&true);rw[Bool.and_true],rfl⟩
   case round =>
    obtain⟨i,p,rfl,rfl,hi,hp9,hp,rfl⟩:=hrel;have HP:=Hh hp;have HP9:=Hh hp9;have iw:IntKind.i64.wrap ((i:Int)+1)=(i:Int)+1:=IntWalk.i64_in _ (by omega);clear hp hp9 HM HM9;by_cases hli:i<s.size
    ·have hgt:=zeg hli;have HAT:=Hh (zqO hgt);have i0:(0:Int)≤(i:Int):=by omega
     have i1:(i:Int)<(s.size:Int):=by omega
     have i3:decide ((i:Int)<(s.size:Int))=true:=decide_eq_true i1;have HLI:=Hh hli;have hx9:(s[i]'hli).toNat≤255:=by have:=(s[i]'hli).toNat_lt;omega
     have HX9:=Hh hx9;have HMX:=Hh (show max (p:Int) ((s[i]'hli).toNat:Int)=((max p (s[i]'hli).toNat:Nat):Int) by omega);clear hgt hx9;go_wp2_with fail;go_roundw
     case rel=>exact⟨i+1,max p (s[i]'hli).toNat,by go_num,by rw[HMX.out],HLI.out,by have:=HP9.out;have:=HX9.out;omega,by rw[HAT.out,←Bool.and_assoc];exact zuI HP.out,trivial⟩
     case measure=>have:=HLI.out;simp[intOf];omega
    ·have e:i=s.size:=by omega
     have i9:decide ((i:Int)<(s.size:Int))=false:=decide_eq_false (by omega);have i10:decide (i<s.size)=false:=decide_eq_false hli;have i11:(i<s.size)=False:=eq_false hli;have HE:=Hh (show s.data.toList.take i=tat L k by rw[List.take_of_length_le (by rw[zaU];omega)];exact HSD.out);clear hli e;go_wp2_with fail;go_roundw
     case rel=>exact⟨k+1,p,by go_num,rfl,HLT.out,HP9.out,by rw[HTW.out,←HE.out];exact HP.out,trivial⟩
     case measure=>have:=HLT.out;simp[intOf];omega
  ·have e:k=n:=by omega
   have t9:decide ((k:Int)<(n:Int))=false:=decide_eq_false (by omega);have t10:decide (k<n)=false:=decide_eq_false hlt;have t11:(k<n)=False:=eq_false hlt;have HE:=Hh (show twoR (L.take k)=twoR L by rw[e,←HN.out,List.take_length]);clear hlt e;go_wp2_with fail;go_ret;exact⟨⟨m,rfl,HM9.out,by rw[HM.out,HE.out]⟩,rfl⟩
theorem OwS.ts {W:World}{base n:Nat}{v:Value}{L:List (List UInt8)}(h:OwS W base v n L)(hl:∀r∈L,r.length≤maxLen):∃A c,v=.slice A n c∧Ts W A c L:=by
 obtain⟨h1,h2⟩:=h;have ho:=h2;rcases h2.2 with⟨h',hn⟩|⟨g,cap,cur,h',hb,hg,hnc,hcm,hcs,htake⟩
 ·have e:L=[]:=List.eq_nil_of_length_eq_zero (by omega);subst e;exact⟨none,0,by rw[h',hn],Ts.nil W⟩
 ·subst h';refine⟨some ⟨g,0,none⟩,cap,rfl,hl,by rw[List.length_map];omega,hcm,fun _=>⟨g,0,rfl,(Array.getElem?_eq_some_iff.1 hg).1,fun j u hu=>?_⟩⟩;have hj:j<n:=by
   have:=(List.getElem?_eq_some_iff.1 hu).1;rw[List.length_map] at this;omega
  rw[Nat.zero_add,ho.cellAt j (by omega)];exact hu
theorem zke (b:Bool):∀(m:Nat) (r:List UInt8),r.length≤m→r.length≤99→∀t∈zbe b r,t.length≤4
 | 0,r,h,_,t,ht=>by
  have e:r=[]:=List.eq_nil_of_length_eq_zero (by omega);rw[e] at ht;cases ht
 | m+1,r,h,h9,t,ht=>by
  by_cases h0:r=[]
  ·rw[h0] at ht;cases ht
  ·have h1:=zbY h0;have h2:=zfn r;rw[zaS b h0] at ht;rcases List.mem_cons.1 ht with rfl|ht
   ·exact zmM (by omega) (zmL _ _)
   ·exact zke b m _ (by rw[List.length_drop];omega) (by rw[List.length_drop];omega) t ht
theorem zmN {b:Bool}{L:List (List UInt8)}(hr:∀r∈L,r.length≤99)(hl:L.length≤99):∀k,k≤L.length→∀t∈(tokK b L k).1,t.length≤4
 | 0,_,t,ht=>by cases ht
 | k+1,h,t,ht=>by
  have ih:=zmN (b:=b) hr hl k (by omega);have h1:(zah (tat L k)).length≤99:=by
   refine Nat.le_trans (zgY _) ?_;unfold tat;rw[List.getElem?_eq_getElem (by omega)];exact hr _ (List.getElem_mem _)
  by_cases h0:zah (tat L k)=[]
  ·rw[zbx h0] at ht;exact ih t ht
  ·have hx:=zke b _ (zah (tat L k)) (Nat.le_refl _) h1;cases hj:(tokK b L k).2 with
   | none =>
    rw[zbZ h0 hj] at ht;rcases List.mem_append.1 ht with ht|ht
    ·exact ih t ht
    ·exact hx t ht
   | some j =>
    rw[zcl h0 hj] at ht;have:=zlk hj;rcases List.mem_append.1 ht with ht|ht
    ·rcases List.mem_append.1 ht with ht|ht
     ·exact ih t ht
     ·rw[List.mem_singleton.1 ht];exact zmM (by omega) (by decide)
    ·exact hx t ht
theorem zcS {L:List (List UInt8)}(hr:∀r∈L,r.length≤99)(hl:L.length≤99):∀t∈zas L,t.length≤4:=fun t ht=>by
 unfold zas at ht;rcases List.mem_append.1 ht with ht|ht
 ·exact zmN hr hl _ (Nat.le_refl _) t ht
 ·rw[List.mem_singleton.1 ht]
  decide
def zvQ:Option Nat→Int
 | none => -1
 | some j=>j
def zwx (L:List (List UInt8))(w:World)(e:Ending)(w':World):Prop :=
 ∃A c n,e=.returned (.slice A n c)∧(zas L).length=n∧Ts w' A c (zas L)∧Below w.heap.size w w'
theorem zhg (u:Gr)(w:World)(h:Ts w u.a u.c u.L)(hr:∀r∈u.L,r.length≤99)(hl:u.L.length≤99) :
  Calls Tryz.prog 33 #[u.val] w (zwx u.L w):=by
 have hcap:=h.cap;obtain⟨iT,hi,hz0,hz1,hz2⟩:=zgU Tryz.infoTs;have HI:=Hh (And.intro hi (And.intro hz0 (And.intro hz1 hz2)));have hal:=(Below.refl w.heap.size w).alloc (Nat.le_refl _) u.obj;obtain⟨W0,hW0⟩:∃W:World,W=w.alloc u.obj:=⟨_,rfl⟩;obtain⟨base,hbase⟩:∃b,b=w.heap.size+1:=⟨_,rfl⟩;obtain⟨g0,hg0⟩:∃g,g=w.heap.size:=⟨_,rfl⟩;have hk:W0.heap[g0]?=some u.obj:=by rw[hW0,hg0];exact heap_alloc_new w _
 have HW:=Hh (show Below w.heap.size w W0∧W0.heap.size=base by rw[hW0];exact⟨hal,by rw[World.size_alloc,hbase]⟩);have HT:=Hh (show Ts W0 u.a u.c u.L by rw[hW0];exact h.below hal);obtain⟨e0,e1,e2,e3,e4⟩:=Gr.cells hk;have HR:=Hh hr;have HL:=Hh hl;obtain⟨B,hB⟩:∃B,B=twoR u.L:=⟨_,rfl⟩;have HBB:=Hh hB;have HBS:=Hh hbase;clear h hi hz0 hz1 hz2 hal hk hr hB hbase;rcases Nat.eq_zero_or_pos u.L.length with hl0|hl0
 ·have HL0:=Hh hl0;clear hl0;go_enter Tryz.func33,Tryz.ntmps33;go_upto_region 1 with fail
  rw[←hW0,←hg0];clear hW0 hg0;go_wp2_with (go_at_call 78;go_loud (refine(zkd u.a u.c u.L.length u.L _ HT.out rfl (fun r hr=>by have:=HR.out r hr;omega)).mono ?_;rintro e w1 ⟨⟨m,rfl,m9,hm⟩,rfl⟩;have q1:decide ((m:Int)≤1)=B:=(by rw[HBB.out,←hm,decide_eq_decide];omega);clear hm));go_loopw [15,4,5,6,7] (fun z1 z2 z3 z4 z5 wr=>∃(k N:Nat) (v y4 y5:Value) (lz:Int),z1=.int .i64 k∧v=z2∧z3=.int .i64 lz∧y4=z4∧y5=z5∧k≤u.L.length∧lz=zvQ (tokK B u.L k).2∧OwS wr base v N (tokK B u.L k).1∧Below base w1 wr) (fun z1 _ _ _ _ _=>u.L.length-(intOf z1).toNat)
  case atStart=>exact⟨0,0,_,_,_,-1,rfl,rfl,rfl,rfl,rfl,Nat.zero_le _,rfl,OwS.nil _ _,Below.refl _ _⟩
  case round =>
   obtain⟨k,N,v,y4,y5,lz,rfl,rfl,rfl,rfl,rfl,hk,hlz,hown,hb⟩:=hrel;have HLZ:=Hh hlz;have HOW:=Hh hown;have HB:=Hh hb;have hsz:=hb.size;rw[HW.out.2] at hsz;have hN9:N≤10000:=by
    have h1:=zgd (b:=B) (m:=99) HR.out k hk;rw[hown.1] at h1;have h2:k*(99+1)≤99*100:=Nat.mul_le_mul (by omega) (by omega);omega
   clear hlz hown hb;by_cases hlt:k<u.L.length
   ·have:=HL0.out;omega
   ·have e:k=u.L.length:=by omega
    have t9:decide ((k:Int)<(u.L.length:Int))=false:=decide_eq_false (by omega);have t10:decide (k<u.L.length)=false:=decide_eq_false hlt;have t11:(k<u.L.length)=False:=eq_false hlt;have HE:=Hh (show(tokK B u.L k).1++[[33]]=zas u.L by(unfold zas;rw[e,HBB.out]));clear hlt e;go_wp2_with (at_builtin;go_loud (refine wpList_append_own_at _ rfl _ _ 49 rfl base 9 iT (.string ⟨#[]⟩) 1 16 Tryz.underlying49 HI.out.1 HI.out.2.1 HI.out.2.2.1 HI.out.2.2.2 rfl (by decide) _ _ _ rfl (HOW.out.next ((Below.refl _ _).alloc (Nat.le_refl _) (.cells #[.string ⟨#[33]⟩] 9))).2 ⟨_,0,none⟩ 1 1 [.string ⟨#[33]⟩] rfl rfl (cell_one_new _ _ _) (by simp[Value.oneCell']) (by simp only[maxLen];omega) (by omega) (by simp;omega) ?_;intro v2 w4 ho4 hg4 hn4 hk4;have OW4:=Hh (OwS.more (t:=[33]) HOW.out.1 ho4);have B4:=Hh ((HB.out.alloc hsz (.cells #[.string ⟨#[33]⟩] 9)).grown hg4 (by rw[World.size_alloc];omega) (fun q hq=>(HOW.out.2.lt q hq).1));clear ho4 hg4 hn4 hk4));go_ret;have h5:=OW4.out;rw[HE.out] at h5;obtain⟨A5,c5,e5,t5⟩:=h5.ts (fun r hr=>by have:=zcS HR.out HL.out r hr;unfold maxLen;omega);exact⟨A5,c5,N+1,by rw[←e5];rfl,h5.1,t5,HW.out.1.trans (B4.out.mono (by have:=HBS.out;omega))⟩
 ·obtain⟨b2,o2,hA,-,-⟩:=HT.out.at_ hl0
  have HA:=Hh hA;rw[hA] at e4;clear hA;go_enter Tryz.func33,Tryz.ntmps33;go_upto_region 1 with fail
  rw[←hW0,←hg0];clear hW0 hg0;go_wp2_with (go_at_call 78;go_loud (refine(zkd (some ⟨b2,o2,none⟩) u.c u.L.length u.L _ (by rw[←HA.out];exact HT.out) rfl (fun r hr=>by have:=HR.out r hr;omega)).mono ?_;rintro e w1 ⟨⟨m,rfl,m9,hm⟩,rfl⟩;have q1:decide ((m:Int)≤1)=B:=(by rw[HBB.out,←hm,decide_eq_decide];omega);clear hm));go_loopw [15,4,5,6,7] (fun z1 z2 z3 z4 z5 wr=>∃(k N:Nat) (v y4 y5:Value) (lz:Int),z1=.int .i64 k∧v=z2∧z3=.int .i64 lz∧y4=z4∧y5=z5∧k≤u.L.length∧lz=zvQ (tokK B u.L k).2∧OwS wr base v N (tokK B u.L k).1∧Below base w1 wr) (fun z1 _ _ _ _ _=>u.L.length-(intOf z1).toNat)
  case atStart=>exact⟨0,0,_,_,_,-1,rfl,rfl,rfl,rfl,rfl,Nat.zero_le _,rfl,OwS.nil _ _,Below.refl _ _⟩
  case round =>
   obtain⟨k,N,v,y4,y5,lz,rfl,rfl,rfl,rfl,rfl,hk,hlz,hown,hb⟩:=hrel;have HLZ:=Hh hlz;have HOW:=Hh hown;have HB:=Hh hb;have hsz:=hb.size;rw[HW.out.2] at hsz;have hN9:N≤10000:=by
    have h1:=zgd (b:=B) (m:=99) HR.out k hk;rw[hown.1] at h1;have h2:k*(99+1)≤99*100:=Nat.mul_le_mul (by omega) (by omega);omega
   clear hlz hown hb;by_cases hlt:k<u.L.length
   ·obtain⟨b3,o3,hA3,-,hcc⟩:=(HT.out.below (show Below w1.heap.size w1 wr by rw[HW.out.2];exact HB.out)).at_ hl0
    rw[HA.out] at hA3;injection hA3 with hA3
    injection hA3 with e3_ e4_
    subst e3_;subst e4_;have s0:=hcc k hlt;unfold strV at s0;obtain⟨s,hs⟩:∃s:ByteArray,s=⟨(tat u.L k).toArray⟩:=⟨_,rfl⟩;rw[←hs] at s0;have hsz9:s.size≤99:=by
     rw[hs,zbp];refine HR.out _ ?_;unfold tat;rw[List.getElem?_eq_getElem hlt];exact List.getElem_mem _
    have HSD:=Hh (show s.data.toList=tat u.L k by rw[hs]);obtain⟨t,ht⟩:∃t:ByteArray,t=⟨(zah s.data.toList).toArray⟩:=⟨_,rfl⟩;have HTR:=Hh ht;have HTD:=Hh (show t.data.toList=zah (tat u.L k) by rw[ht,←HSD.out]);have htz:t.size≤99:=by
     rw[ht,zbp];have:=zgY s.data.toList;rw[zaU] at this;omega
    have kw:IntKind.i64.wrap ((k:Int)+1)=(k:Int)+1:=IntWalk.i64_in _ (by omega);have j0:(0:Int)≤(k:Int):=by omega
    have j1:(k:Int)<(u.L.length:Int):=by omega
    have j3:decide ((k:Int)<(u.L.length:Int))=true:=decide_eq_true j1;have HLT:=Hh hlt;clear hcc hs ht hlt;by_cases hemp:zah (tat u.L k)=[]
    ·have x1:t.toList.isEmpty=true:=by rw[ByteArray.toList_eq,HTD.out,hemp];rfl
     have HSK:=Hh (zbx (b:=B) hemp);clear hemp;go_wp2_with (go_at_call 79;go_loud (refine(zdq s _ (by unfold maxLen;omega)).mono ?_;rintro e w2 ⟨rfl,rfl⟩;rw[←HTR.out]));go_roundw
     case rel=>exact⟨k+1,N,_,_,_,lz,by go_num,rfl,rfl,rfl,rfl,HLT.out,by rw[HSK.out];exact HLZ.out,by rw[HSK.out];exact HOW.out,HB.out⟩
     case measure=>have:=HLT.out;simp[intOf];omega
    ·have x1:t.toList.isEmpty=false:=by
      rw[ByteArray.toList_eq,HTD.out];cases hq:zah (tat u.L k) with
      | nil=>exact absurd hq hemp
      | cons x r=>rfl
     cases hj:(tokK B u.L k).2 with
     | none =>
      have HTF:=Hh (zbZ (b:=B) hemp hj);obtain rfl:lz = -1:=by have:=HLZ.out;rw[hj] at this;exact this
      clear hemp hj;go_wp2_with (first
       | (go_at_call 79;go_loud (refine(zdq s _ (by unfold maxLen;omega)).mono ?_;rintro e w2 ⟨rfl,rfl⟩;rw[←HTR.out]))
       | (go_at_call 81;go_loud (refine(zhf B t base N _ _ _ HOW.out hsz htz (by omega)).mono ?_;rintro e w5 ⟨v5,rfl,ow5,b5⟩;have OW5:=Hh ow5;have B5:=Hh (HB.out.trans b5);clear ow5 b5)))
      go_roundw
      case rel=>exact⟨k+1,_,v5,_,_,k,by go_num,rfl,rfl,rfl,rfl,HLT.out,by rw[HTF.out];rfl,by rw[HTF.out,←HTD.out];exact OW5.out,B5.out⟩
      case measure=>have:=HLT.out;simp[intOf];omega
     | some j =>
      have HTF:=Hh (zcl (b:=B) hemp hj);have hjk:=zlk hj;obtain rfl:lz=(j:Int):=by have:=HLZ.out;rw[hj] at this;exact this
      have y1:decide ((j:Int)≥0)=true:=decide_eq_true (by omega);have y2:(0:Int)≤(j:Int):=by omega
      obtain⟨d,hd⟩:∃d,d=k-j:=⟨_,rfl⟩;have y3:IntKind.i64.wrap ((k:Int)-(j:Int))=(d:Int):=by rw[IntWalk.i64_in _ (by omega)];omega
      have hd9:d<100:=by omega
      obtain⟨tt,htt⟩:∃tt:ByteArray,tt=⟨(tokR d [36]).toArray⟩:=⟨_,rfl⟩;have HTT:=Hh htt;have HDD:=Hh hd;clear hemp hj htt hd;go_wp2_with (first
       | (go_at_call 79;go_loud (refine(zdq s _ (by unfold maxLen;omega)).mono ?_;rintro e w2 ⟨rfl,rfl⟩;rw[←HTR.out]))
       | (go_at_call 80;go_loud (refine(zif d ⟨#[36]⟩ _ hd9 (by decide)).mono ?_;rintro e w3 ⟨rfl,rfl⟩;rw[show(⟨(tokR d (⟨#[36]⟩:ByteArray).data.toList).toArray⟩:ByteArray)=tt from HTT.out.symm]))
       | (at_builtin;go_loud (refine wpList_append_own_at _ rfl _ _ 49 rfl base 9 iT (.string ⟨#[]⟩) 1 16 Tryz.underlying49 HI.out.1 HI.out.2.1 HI.out.2.2.1 HI.out.2.2.2 rfl (by decide) _ _ _ rfl (HOW.out.next ((Below.refl _ _).alloc (Nat.le_refl _) (.cells #[.string tt] 9))).2 ⟨_,0,none⟩ 1 1 [.string tt] rfl rfl (cell_one_new _ _ _) (by simp[Value.oneCell']) (by simp only[maxLen];omega) (by omega) (by simp;omega) ?_;intro v2 w4 ho4 hg4 hn4 hk4;have OW4:=Hh (show OwS w4 base v2 (N+1) ((tokK B u.L k).1++[tokR d [36]]) from OwS.more HOW.out.1 (by rw[HTT.out] at ho4;exact ho4));have B4:=Hh ((HB.out.alloc hsz (.cells #[.string tt] 9)).grown hg4 (by rw[World.size_alloc];omega) (fun q hq=>(HOW.out.2.lt q hq).1));have hs4:=B4.out.size;rw[HW.out.2] at hs4;clear ho4 hg4 hn4 hk4))
       | (go_at_call 81;go_loud (refine(zhf B t base (N+1) _ _ _ OW4.out hs4 htz (by omega)).mono ?_;rintro e w5 ⟨v5,rfl,ow5,b5⟩;have OW5:=Hh ow5;have B5:=Hh (B4.out.trans b5);clear ow5 b5)))
      go_roundw
      case rel=>exact⟨k+1,_,v5,_,_,k,by go_num,rfl,rfl,rfl,rfl,HLT.out,by rw[HTF.out];rfl,by rw[HTF.out,←HTD.out,←HDD.out];exact OW5.out,B5.out⟩
      case measure=>have:=HLT.out;simp[intOf];omega
   ·have e:k=u.L.length:=by omega
    have t9:decide ((k:Int)<(u.L.length:Int))=false:=decide_eq_false (by omega);have t10:decide (k<u.L.length)=false:=decide_eq_false hlt;have t11:(k<u.L.length)=False:=eq_false hlt;have HE:=Hh (show(tokK B u.L k).1++[[33]]=zas u.L by(unfold zas;rw[e,HBB.out]));clear hlt e;go_wp2_with (at_builtin;go_loud (refine wpList_append_own_at _ rfl _ _ 49 rfl base 9 iT (.string ⟨#[]⟩) 1 16 Tryz.underlying49 HI.out.1 HI.out.2.1 HI.out.2.2.1 HI.out.2.2.2 rfl (by decide) _ _ _ rfl (HOW.out.next ((Below.refl _ _).alloc (Nat.le_refl _) (.cells #[.string ⟨#[33]⟩] 9))).2 ⟨_,0,none⟩ 1 1 [.string ⟨#[33]⟩] rfl rfl (cell_one_new _ _ _) (by simp[Value.oneCell']) (by simp only[maxLen];omega) (by omega) (by simp;omega) ?_;intro v2 w4 ho4 hg4 hn4 hk4;have OW4:=Hh (OwS.more (t:=[33]) HOW.out.1 ho4);have B4:=Hh ((HB.out.alloc hsz (.cells #[.string ⟨#[33]⟩] 9)).grown hg4 (by rw[World.size_alloc];omega) (fun q hq=>(HOW.out.2.lt q hq).1));clear ho4 hg4 hn4 hk4));go_ret;have h5:=OW4.out;rw[HE.out] at h5;obtain⟨A5,c5,e5,t5⟩:=h5.ts (fun r hr=>by have:=zcS HR.out HL.out r hr;unfold maxLen;omega);exact⟨A5,c5,N+1,by rw[←e5];rfl,h5.1,t5,HW.out.1.trans (B4.out.mono (by have:=HBS.out;omega))⟩
theorem zqP (u:Gr)(w:World)(h:Ts w u.a u.c u.L) :
  Calls Tryz.prog 74 #[u.val] w fun e w'=>e=.returned (.tuple #[.int .i64 (zcp u.L:Int),.int .i64 (u.L.length:Int)])∧Below w.heap.size w w':=by
 have hcap:=h.cap;have hal:=(Below.refl w.heap.size w).alloc (Nat.le_refl _) u.obj;obtain⟨W0,hW0⟩:∃W:World,W=w.alloc u.obj:=⟨_,rfl⟩;obtain⟨g0,hg0⟩:∃g,g=w.heap.size:=⟨_,rfl⟩;have hk:W0.heap[g0]?=some u.obj:=by rw[hW0,hg0];exact heap_alloc_new w _
 have HW:=Hh (show Below w.heap.size w W0 by rw[hW0];exact hal);have ht:Ts W0 u.a u.c u.L:=by rw[hW0];exact h.below hal
 obtain⟨e0,e1,e2,e3,e4⟩:=Gr.cells hk;rcases Nat.eq_zero_or_pos u.L.length with hl0|hl0
 ·have hw:zcp u.L=0:=by rw[List.length_eq_zero_iff.1 hl0];rfl
  have HH:=Hh hw;have HL0:=Hh hl0;have t1:((u.L.length:Int)==0)=true:=by rw[hl0];rfl
  rw[hw,hl0];clear h hal hk ht hw hl0;go_enter Tryz.func74,Tryz.ntmps74;go_upto_region 1 with fail
  rw[←hW0,←hg0];clear hW0 hg0;go_wp2_with fail;go_ret2;exact⟨rfl,HW.out⟩
 ·obtain⟨b2,o2,hA,-,hcc⟩:=ht.at_ hl0
  rw[hA] at e4;have s0:=hcc 0 hl0;rw[Nat.add_zero] at s0;unfold strV at s0;obtain⟨s,hs⟩:∃s:ByteArray,s=⟨(tat u.L 0).toArray⟩:=⟨_,rfl⟩;rw[←hs] at s0;have hw:s.size=zcp u.L:=by rw[hs,zbp];rfl
  have t1:((u.L.length:Int)==0)=false:=beq_eq_false_iff_ne.2 (by omega);have t2:(0:Int)<(u.L.length:Int):=by omega
  have t3:(0<u.L.length)=True:=eq_true hl0;rw[←hw];clear h hal hk ht hA hcc hl0 hs hw;go_enter Tryz.func74,Tryz.ntmps74;go_upto_region 1 with fail
  rw[←hW0,←hg0];clear hW0 hg0;go_wp2_with fail;go_quiet (fail);go_wp2_with fail;go_ret2;exact⟨rfl,zaa HW.out _⟩
theorem znV (A:Option Addr)(c n:Nat)(L:List (List UInt8))(w:World)(h:Ts w A c L)(hn:L.length=n)(hn9:n≤1000000)(h4:∀t∈L,t.length≤4) :
  Calls Tryz.prog 76 #[.slice A n c] w fun e w'=>e=.returned (.string ⟨(zhv L).toArray⟩)∧Below w.heap.size w w':=by
 have hcap:=h.cap;rw[hn] at hcap;have HT:=Hh h;have HN:=Hh hn;have H4:=Hh h4;obtain⟨T,hT⟩:∃T,T=zhv L:=⟨_,rfl⟩;rw[←hT];have HTW:=Hh hT;have S0:=Hh (Wb.fresh w);obtain⟨b,hb⟩:∃b,b=w.heap.size:=⟨_,rfl⟩;rw[←hb] at S0;have HBE:=Hh hb;have B0:=Hh (show Below b w (w.alloc (.cells #[.pointer none,.slice none 0 0] 85)) by rw[hb];exact(Below.refl _ _).alloc (Nat.le_refl _) _);clear h hn h4 hT;go_enter Tryz.func76,Tryz.ntmps76;go_upto_region 2 with fail
 rw[←hb];clear hb;go_wp2_with fail;go_loopw [9,4,6] (fun z1 z2 z3 wr=>∃(k:Nat) (y:Value),z1=.int .i64 k∧z2=.int .i64 ((zbE L k).2:Int)∧y=z3∧k≤n∧Wb b (byteCells (zbE L k).1) wr∧Below b w wr) (fun z1 _ _ _=>n-(intOf z1).toNat)
 case atStart=>exact⟨0,_,rfl,rfl,rfl,Nat.zero_le _,S0.out,B0.out⟩
 case round =>
  obtain⟨k,y,rfl,rfl,rfl,hk,hs,hbl⟩:=hrel;have HS:=Hh hs;have HB:=Hh hbl;have hlt_:b≤wr.heap.size:=Nat.le_trans (by rw[HBE.out];exact Nat.le_refl _) hbl.size;have hwk:=zhd (m:=4) H4.out k (by rw[HN.out];exact hk);obtain⟨us,hus⟩:∃x,x=(zbE L k).2:=⟨_,rfl⟩;have HUS:=Hh hus;rw[←hus] at hwk;rw[←hus];have hk5:k*(4+1)≤5000000:=by omega
  have HWL:=Hh hwk.1;have hus9:us≤5000000:=by omega
  clear hs hbl hus hwk;by_cases hlt:k<n
  ·have kw:IntKind.i64.wrap ((k:Int)+1)=(k:Int)+1:=IntWalk.i64_in _ (by omega);have hkl:k<L.length:=by rw[HN.out];exact hlt
   obtain⟨b2,o2,hA2,-,hcc⟩:=(HT.out.below (show Below w.heap.size w wr by rw[←HBE.out];exact HB.out)).at_ (by omega)
   subst hA2;have s0:=hcc k hkl;unfold strV at s0;obtain⟨t,ht⟩:∃t:ByteArray,t=⟨(tat L k).toArray⟩:=⟨_,rfl⟩;rw[←ht] at s0;have HTD:=Hh (show t.data.toList=tat L k by rw[ht]);have hz:t.size=(tat L k).length:=by rw[ht,zbp]
   have HZ:=Hh hz;have htz:t.size≤4:=by
    rw[hz];refine H4.out _ ?_;unfold tat;rw[List.getElem?_eq_getElem hkl];exact List.getElem_mem _
   have j0:(0:Int)≤(k:Int):=by omega
   have j1:(k:Int)<(n:Int):=by omega
   have j3:decide ((k:Int)<(n:Int))=true:=decide_eq_true j1;have HLT:=Hh hlt;have w1:IntKind.i64.wrap ((us:Int)+(t.size:Int))=(us:Int)+(t.size:Int):=IntWalk.i64_in _ (by omega);have w2:IntKind.i64.wrap (0+(t.size:Int))=(t.size:Int):=by rw[Int.zero_add];exact IntWalk.i64_in _ (by omega)
   have w3:IntKind.i64.wrap (t.size:Int)=(t.size:Int):=IntWalk.i64_in _ (by omega);clear hcc ht hlt hkl hz;by_cases hc:70<us+t.size
   ·have t1:decide ((us:Int)+(t.size:Int)>70)=true:=decide_eq_true (by omega);have t2:decide (70<us+t.size)=true:=decide_eq_true hc;have HNW:=Hh (zhc (l:=L) (k:=k) (by rw[←HUS.out,←HZ.out];exact hc));clear hc;go_wp2_with (first
     | (go_at_call 89;go_loud (refine(zqM b _ 10 _ HS.out (by have:=HWL.out;omega) hlt_).mono ?_;rintro e w5 ⟨rfl,h5,k5⟩;have HS5:=Hh h5;have K5:=Hh k5;have hs5:=k5.1.size;clear h5 k5))
     | (go_at_call 87;go_loud (refine(zmK b _ t _ HS5.out (by rw[List.length_append];have:=HWL.out;simp only[List.length_cons,List.length_nil];omega) (by omega)).mono ?_;rintro e w6 ⟨rfl,h6,k6⟩;have HS6:=Hh h6;have K6:=Hh (K5.out.trans k6);clear h6 k6)))
    go_roundw
    case rel=>exact⟨k+1,_,by go_num,by rw[HNW.out,HZ.out],rfl,HLT.out,by rw[HNW.out,←HTD.out];exact HS6.out,HB.out.trans K6.out.1⟩
    case measure=>have:=HLT.out;simp[intOf];omega
   ·have t1:decide ((us:Int)+(t.size:Int)>70)=false:=decide_eq_false (by omega);have t2:decide (70<us+t.size)=false:=decide_eq_false hc;have HNW:=Hh (zjj (l:=L) (k:=k) (by rw[←HUS.out,←HZ.out];exact hc));clear hc;go_wp2_with (go_at_call 87;go_loud (refine(zmK b _ t _ HS.out (by have:=HWL.out;omega) hlt_).mono ?_;rintro e w6 ⟨rfl,h6,k6⟩;have HS6:=Hh h6;have K6:=Hh k6;clear h6 k6));go_roundw
    case rel=>exact⟨k+1,_,by go_num,by rw[HNW.out,←HZ.out,←HUS.out];rfl,rfl,HLT.out,by rw[HNW.out,←HTD.out];exact HS6.out,HB.out.trans K6.out.1⟩
    case measure=>have:=HLT.out;simp[intOf];omega
  ·have e:k=n:=by omega
   have t9:decide ((k:Int)<(n:Int))=false:=decide_eq_false (by omega);have t10:decide (k<n)=false:=decide_eq_false hlt;have t11:(k<n)=False:=eq_false hlt;have HE:=Hh (show(zbE L k).1++[10]=T by rw[HTW.out,e,←HN.out];rfl);clear hlt e;go_wp2_with (first
    | (go_at_call 89;go_loud (refine(zqM b _ 10 _ HS.out (by have:=HWL.out;omega) hlt_).mono ?_;rintro e w5 ⟨rfl,h5,k5⟩;have HS5:=Hh h5;have K5:=Hh k5;clear h5 k5))
    | (go_at_call 54;go_loud (refine(zuH b _ _ HS5.out (by simp)).mono ?_;rintro e w6 ⟨rfl,b6⟩;rw[HE.out];have B6:=Hh (HB.out.trans (K5.out.1.trans b6));clear b6)))
   go_ret;exact⟨rfl,by rw[←HBE.out];exact B6.out⟩
end Go.Proofs.YtfjajpnfjjdnpaaGreatDoor
