import Derived.Test.YtfjajpnfjjdnpaaGreatDoorURuB
import Derived.Test.YtfjajpnfjjdnpaaGreatDoorLaidX

set_option linter.unusedVariables false
set_option linter.unusedSimpArgs false
set_option maxRecDepth 100000
set_option maxHeartbeats 6400000
namespace Go.Proofs.YtfjajpnfjjdnpaaGreatDoor
open Nds
def zaI (c:UInt8):List UInt8→List UInt8
 | []=>[]
 | x :: r=>if x=c∧zaI c r=[] then [] else x :: zaI c r
theorem zbX (c:UInt8)(l:List UInt8)(x:UInt8):zaI c (l++[x])=if x=c then zaI c l else l++[x]:=by
 induction l with
 | nil =>
  show(if x=c∧([]:List UInt8)=[] then [] else [x])=_;by_cases h:x=c
  ·rw[if_pos ⟨h,rfl⟩,if_pos h];rfl
  ·rw[if_neg (fun e=>h e.1),if_neg h];rfl
 | cons y r ih =>
  show(if y=c∧zaI c (r++[x])=[] then [] else y :: zaI c (r++[x]))=_;rw[ih];by_cases h:x=c
  ·rw[if_pos h,if_pos h];rfl
  ·rw[if_neg h,if_neg h,if_neg (fun e=>by have:=e.2;simp at this)];rfl
theorem zcL (c:UInt8)(l:List UInt8):zaI c l=l.take (zaI c l).length:=by
 induction l with
 | nil=>rfl
 | cons y r ih =>
  show(if y=c∧zaI c r=[] then [] else y :: zaI c r)=_;show _=(y :: r).take (if y=c∧zaI c r=[] then [] else y :: zaI c r).length;split
  ·rfl
  ·rw[List.length_cons,List.take_succ_cons,←ih]
theorem zhB (c:UInt8)(l:List UInt8):(zaI c l).length≤l.length:=by
 have h:=congrArg List.length (zcL c l);rw[List.length_take] at h;omega
theorem zma {c:UInt8}{l:List UInt8}{x:UInt8}(h:x∈zaI c l):x∈l:=by
 rw[zcL] at h;exact List.mem_of_mem_take h
theorem zmb (c:UInt8)(l:List UInt8){r:List UInt8}(h0:r≠[])(h:∀x∈r,x≠c):zaI c (l++r)=l++r:=by
 obtain⟨a,x,rfl⟩:∃a x,r=a++[x]:=⟨_,_,(List.dropLast_concat_getLast h0).symm⟩;rw[←List.append_assoc,zbX,if_neg (h x (by simp))]
def sgL (l:List Nd)(n:Int)(y x:Nat):UInt8:=if getF 3 l n x y=0 then 46 else 42
def rowF (l:List Nd)(n:Int)(y:Nat):List UInt8:=(List.range 8).map (sgL l n y)
def rowL (l:List Nd)(n:Int)(y:Nat):List UInt8:=zaI 46 (rowF l n y)
def zbH (l:List Nd)(n:Int)(k:Nat):List UInt8:=((List.range k).map fun y=>rowL l n y++[36]).flatten
def zcl (l:List Nd)(n:Int):List UInt8:=if zaI 36 (zbH l n 8)=[] then [] else zaI 36 (zbH l n 8)++[36]
theorem zbc (l:List Nd)(n:Int)(k:Nat):zbH l n (k+1)=zbH l n k++rowL l n k++[36]:=by
 unfold zbH;rw[List.range_succ,List.map_append,List.flatten_append];simp
theorem zpU (l:List Nd)(n:Int)(y x:Nat):sgL l n y x=46∨sgL l n y x=42:=by
 unfold sgL;split
 ·exact .inl rfl
 ·exact .inr rfl
theorem zep {l:List Nd}{n:Int}{y:Nat}{x:UInt8}(h:x∈rowL l n y):x=46∨x=42:=by
 have h1:=zma h;unfold rowF at h1;obtain⟨a,-,rfl⟩:=List.mem_map.1 h1;exact zpU _ _ _ _
theorem zeq (l:List Nd)(n:Int)(y:Nat):(rowF l n y).length=8:=by
 unfold rowF;simp
theorem zgP (l:List Nd)(n:Int)(y:Nat):(rowL l n y).length≤8:=by
 have h:=zhB 46 (rowF l n y);rw[zeq] at h;exact h
theorem zeZ (l:List Nd)(n:Int):∀k,(zbH l n k).length≤9*k
 | 0=>Nat.le_refl _
 | k+1=>by
  rw[zbc,List.length_append,List.length_append];have h1:=zeZ l n k;have h2:=zgP l n k;simp only[List.length_cons,List.length_nil];omega
def zfm (l:List Nd)(n:Int):Nat→Nat
 | 0=>0
 | k+1=>if rowL l n k=[] then zfm l n k else (zbH l n (k+1)).length
theorem zgQ (l:List Nd)(n:Int):∀k,zfm l n k≤(zbH l n k).length
 | 0=>Nat.zero_le _
 | k+1=>by
  unfold zfm;split
  ·have:=zgQ l n k;rw[zbc,List.length_append,List.length_append];omega
  ·exact Nat.le_refl _
theorem zhC (l:List Nd)(n:Int):∀k,(zbH l n k).take (zfm l n k)=if zaI 36 (zbH l n k)=[] then [] else zaI 36 (zbH l n k)++[36]
 | 0=>rfl
 | k+1=>by
  have ih:=zhC l n k;have hle:=zgQ l n k;unfold zfm;by_cases h:rowL l n k=[]
  ·rw[if_pos h,zbc,h,List.append_nil,zbX,if_pos rfl,←ih,List.take_append_of_le_length hle]
  ·rw[if_neg h,List.take_length,zbc,zbX,if_pos rfl,zmb 36 _ h (fun x hx=>by
    rcases zep hx with e|e <;> (rw[e];decide)),if_neg (fun e=>h (List.append_eq_nil_iff.1 e).2)]
theorem zcB (l:List Nd)(n:Int):(zbH l n 8).take (zfm l n 8)=zcl l n:=zhC l n 8
theorem zmc (l:List Nd)(n:Int):(zcl l n).length≤72:=by
 rw[←zcB,List.length_take];have:=zeZ l n 8;omega
def cntL (l:List Nd)(v:Int):Nat→Nat
 | 0=>0
 | k+1=>if (at_ l k).lv<v then cntL l v k else cntL l v k+1
theorem zfa (l:List Nd)(v:Int):∀k,cntL l v k≤k
 | 0=>Nat.le_refl _
 | k+1=>by
  have:=zfa l v k;unfold cntL;split <;> omega
def numL (l:List Nd)(v:Int)(j:Nat):Nat:=if j=0 then 0 else if (at_ l (j-1)).lv<v then 0 else cntL l v j
theorem zmd (l:List Nd)(v:Int)(j:Nat):numL l v j≤j:=by
 unfold numL;have:=zfa l v j;split
 ·omega
 ·split <;> omega
def zbY (l:List Nd)(v:Int)(n k:Nat):List Nat:=(List.range (n+1)).map fun j=>if j≤k then numL l v j else 0
theorem zdD (l:List Nd)(v:Int)(n k:Nat):(zbY l v n k).length=n+1:=by
 unfold zbY;simp
theorem zki (l:List Nd)(v:Int)(n:Nat):zbY l v n 0=List.replicate (n+1) 0:=by
 unfold zbY;refine List.ext_getElem? fun j=>?_;by_cases hj:j<n+1
 ·rw[List.getElem?_map,List.getElem?_range hj,List.getElem?_replicate,if_pos hj];show some (if j≤0 then numL l v j else 0)=some 0;split
  ·rename_i h;rw[show j=0 by omega];rfl
  ·rfl
 ·rw[List.getElem?_eq_none (by simp;omega),List.getElem?_eq_none (by simp;omega)]
theorem zme {l:List Nd}{v:Int}{n k j:Nat}(hj:j<n+1):(zbY l v n k).getD j 0=if j≤k then numL l v j else 0:=by
 unfold zbY;rw[List.getD_eq_getElem?_getD,List.getElem?_map,List.getElem?_range hj];rfl
theorem zkj {l:List Nd}{v:Int}{n k:Nat}(h:(at_ l k).lv<v):zbY l v n (k+1)=zbY l v n k:=by
 unfold zbY;refine List.map_congr_left fun j _=>?_;by_cases hj:j≤k
 ·rw[if_pos hj,if_pos (by omega)]
 ·rw[if_neg hj];split
  ·rename_i h2;obtain rfl:j=k+1:=by omega
   unfold numL;rw[if_neg (by omega),if_pos (by simpa using h)]
  ·rfl
theorem zmf {l:List Nd}{v:Int}{n k:Nat}(h:¬ (at_ l k).lv<v):zbY l v n (k+1)=(zbY l v n k).set (k+1) (cntL l v k+1):=by
 refine List.ext_getElem? fun j=>?_;rw[List.getElem?_set,zdD];by_cases hj:j<n+1
 ·have e:∀m,(zbY l v n m)[j]?=some (if j≤m then numL l v j else 0):=fun m=>by
   unfold zbY;rw[List.getElem?_map,List.getElem?_range hj];rfl
  rw[e,e];by_cases h2:k+1=j
  ·subst h2;rw[if_pos (Nat.le_refl _),if_pos rfl,if_pos hj];unfold numL;rw[if_neg (by omega),if_neg (by simpa using h)];show some (if (at_ l k).lv<v then _ else cntL l v k+1)=_;rw[if_neg h]
  ·rw[if_neg h2];by_cases h3:j≤k
   ·rw[if_pos h3,if_pos (by omega)]
   ·rw[if_neg h3,if_neg (by omega)]
 ·rw[List.getElem?_eq_none (by rw[zdD];omega)];rw[List.getElem?_eq_none (by rw[zdD];omega)];split
  ·rw[if_neg (by omega)]
  ·rfl
def brT (v:Nat)(f:Nat→Nat):List UInt8:=Digs.digs v++[32]++Digs.digs (f 0)++[32]++Digs.digs (f 1)++[32]++Digs.digs (f 2)++[32]++Digs.digs (f 3)
def zbd (l:List Nd)(v:Int)(i:Nat):List UInt8 :=
 if (at_ l i).lv>v then brT (at_ l i).lv.toNat fun k=>numL l v ((at_ l i).kid k).toNat
 else if v=3 then zcl l ((i:Int)+1) else brT (at_ l i).lv.toNat fun k=>((at_ l i).kid k).toNat
def zai (l:List Nd)(v:Int):Nat→List (List UInt8)
 | 0=>[]
 | k+1=>if (at_ l k).lv<v then zai l v k else zai l v k++[zbd l v k]
theorem zaF (l:List Nd)(v:Int):∀k,(zai l v k).length=cntL l v k
 | 0=>rfl
 | k+1=>by
  unfold zai cntL;split
  ·exact zaF l v k
  ·rw[List.length_append,zaF l v k];rfl
def lnT (L:List (List UInt8)):List UInt8:=(L.map fun r=>r++[10]).flatten
theorem zer (L:List (List UInt8))(r:List UInt8):lnT (L++[r])=lnT L++r++[10]:=by
 unfold lnT;rw[List.map_append,List.flatten_append];simp
def zbb (q:List Nd):List (List UInt8):=if zaq q≤1 then zai (zaP 3 q) 3 (zaP 3 q).length else zai q 1 q.length
def zpV:List UInt8:=[91,77,50,93,32,40,103,108,105,100,101,114,41,10,35,82,32]
def zdS (rule:List UInt8)(q:List Nd):List UInt8:=zpV++rule++[10]++lnT (zbb q)
end Go.Proofs.YtfjajpnfjjdnpaaGreatDoor

namespace Go.Proofs.YtfjajpnfjjdnpaaGreatDoor
open Go.RowKit Lib
theorem zfQ (C:UInt8)(s:ByteArray)(w:World)(hs:s.size≤maxLen) :
  Calls Tryz.prog 137 #[.string s,.int .u8 (C.toNat:Int)] w fun e w'=>e=.returned (.string ⟨(zaI C s.data.toList).toArray⟩)∧w'=w:=by
 obtain⟨R,hR⟩:∃R,R=zaI C s.data.toList:=⟨_,rfl⟩;rw[←hR];have HR:=Hh hR;have HS:=Hh hs;clear hR hs;go_enter Tryz.func137,Tryz.ntmps137;go_wp2_with fail;go_loopw [0] (fun z1 wr=>∃t:ByteArray,z1=.string t∧zaI C t.data.toList=R∧t.size≤maxLen∧wr=w) (fun z1 _=>zpS z1)
 case atStart=>exact⟨s,rfl,HR.out.symm,HS.out,rfl⟩
 case round =>
  obtain⟨t,rfl,ht,htl,rfl⟩:=hrel;have HT:=Hh ht;have HTL:=Hh htl;clear ht htl;rcases Nat.eq_zero_or_pos t.size with h0|h0
  ·have t1:decide ((t.size:Int)>0)=false:=decide_eq_false (by omega);have t2:decide (0<t.size)=false:=decide_eq_false (by omega);have t3:(0<t.size)=False:=eq_false (by omega);have HE:=Hh (show t.data.toList=[] from List.eq_nil_of_length_eq_zero (by rw[zcr];exact h0));clear h0;go_wp2_with fail;go_ret;have e:R=[]:=by rw[←HT.out,HE.out];rfl
   refine⟨?_,rfl⟩;rw[e];have e2:t=⟨#[]⟩:=zlV (by rw[HE.out]);rw[e2];rfl
  ·obtain⟨m,hm⟩:∃m,t.size=m+1:=⟨t.size-1,by omega⟩;have hlt:m<t.size:=by omega
   have t1:decide ((t.size:Int)>0)=true:=decide_eq_true (by omega);have t2:decide (0<t.size)=true:=decide_eq_true (by omega);have t3:(0<t.size)=True:=eq_true (by omega);have i1:IntKind.i64.wrap ((t.size:Int)-1)=(m:Int):=by
    rw[show(t.size:Int)-1=(m:Int) by omega];exact IntWalk.i64_in _ (by have:=HTL.out;unfold maxLen at this;omega)
   have i2:(0:Int)≤(m:Int):=by omega
   have i3:(m:Int)<(t.size:Int):=by omega
   have i4:(0:Int)≤(m:Int)∧(m:Int)≤(t.size:Int):=by omega
   have HSN:=Hh (zpe hm hlt);have HM:=Hh hm;have HGT:=Hh (ziB hlt);by_cases hx:(t[m]'hlt).toNat=C.toNat
   ·have u1:((((t[m]'hlt).toNat:Nat):Int)==((C.toNat:Nat):Int))=true:=by rw[hx];exact beq_self_eq_true _
    have HX:=Hh (show t[m]'hlt=C from UInt8.toNat_inj.1 hx);clear hm h0 hx;go_wp2_with fail;go_roundw
    case rel=>exact⟨t.extract 0 m,rfl,by(have h9:=HT.out;rw[HSN.out,zbX,if_pos HX.out] at h9;rw[zgN];exact h9),by have:=HTL.out;have h2:=HM.out;have h3:(t.extract 0 m).size=m:=(by rw[←zcr,zgN,List.length_take,zcr];omega);omega,trivial⟩
    case measure =>
     have h2:=HM.out;have h3:(t.extract 0 m).size=m:=by rw[←zcr,zgN,List.length_take,zcr];omega
     show(t.extract 0 m).size<t.size;omega
   ·have u1:((((t[m]'hlt).toNat:Nat):Int)==((C.toNat:Nat):Int))=false:=beq_eq_false_iff_ne.2 (by omega);have HX:=Hh (show ¬ t[m]'hlt=C from fun e=>hx (by rw[e]));clear hm h0 hx;go_wp2_with fail;go_ret;have e:R=t.data.toList:=by rw[←HT.out,HSN.out,zbX,if_neg HX.out]
    refine⟨?_,rfl⟩;rw[e];rfl
theorem zdT (C:UInt8)(hC:C=36∨C=46)(s:ByteArray)(w:World)(hs:s.size≤maxLen) :
  Calls Tryz.prog 90 #[.string s,.string ⟨#[C]⟩] w fun e w'=>e=.returned (.string ⟨(zaI C s.data.toList).toArray⟩)∧w'=w:=by
 by_cases h0:s.data.toList=[]
 ·have e1:s.toList.isEmpty=true:=by
   rw[ByteArray.toList_eq,h0];rfl
  go_enter Tryz.func90,Tryz.ntmps90;go_wp2_with fail;go_ret;refine⟨?_,rfl⟩;rw[h0];have e2:s=⟨#[]⟩:=zlV (by rw[h0]);rw[e2];rfl
 ·have e1:s.toList.isEmpty=false:=by
   rw[ByteArray.toList_eq];cases hl:s.data.toList with
   | nil=>exact absurd hl h0
   | cons x r=>rfl
  rcases hC with rfl|rfl
  ·have h1:=zfQ 36 s w hs;go_enter Tryz.func90,Tryz.ntmps90;go_wp2_with (go_at_call 137;go_loud (refine h1.mono ?_;rintro e w1 ⟨rfl,rfl⟩));go_ret;exact⟨rfl,rfl⟩
  ·have h1:=zfQ 46 s w hs;go_enter Tryz.func90,Tryz.ntmps90;go_wp2_with (go_at_call 137;go_loud (refine h1.mono ?_;rintro e w1 ⟨rfl,rfl⟩));go_ret;exact⟨rfl,rfl⟩
end Go.Proofs.YtfjajpnfjjdnpaaGreatDoor

namespace Go.Proofs.YtfjajpnfjjdnpaaGreatDoor
open Go.RowKit Nds
def qbI (x y m:Nat):Nat:=x / 2^m%2+2*(y / 2^m%2)
theorem zog (x y m:Nat):qbI x y m<4:=by unfold qbI;omega
theorem zmg:((List.range 8).all fun x=>(List.range 8).all fun y=>(List.range 3).all fun m =>
  decide (qtI (p2 m) ((x%2^(m+1):Nat):Int) ((y%2^(m+1):Nat):Int)=qbI x y m)&&decide (subI (p2 m) ((x%2^(m+1):Nat):Int)=((x%2^m:Nat):Int)))=true:=by kernel_rfl
theorem zpW {x y m:Nat}(hx:x<8)(hy:y<8)(hm:m<3):qtI (p2 m) ((x%2^(m+1):Nat):Int) ((y%2^(m+1):Nat):Int)=qbI x y m:=by
 have h:=List.all_eq_true.1 (List.all_eq_true.1 (List.all_eq_true.1 zmg x (List.mem_range.2 hx)) y (List.mem_range.2 hy)) m (List.mem_range.2 hm);exact of_decide_eq_true (Bool.and_eq_true_iff.1 h).1
theorem zmh {x m:Nat}(hx:x<8)(hm:m<3):subI (p2 m) ((x%2^(m+1):Nat):Int)=((x%2^m:Nat):Int):=by
 have h:=List.all_eq_true.1 (List.all_eq_true.1 (List.all_eq_true.1 zmg x (List.mem_range.2 hx)) 0 (List.mem_range.2 (by omega))) m (List.mem_range.2 hm);exact of_decide_eq_true (Bool.and_eq_true_iff.1 h).2
theorem znA:((List.range 8).all fun x=>decide (bits .and .i64 (x:Int) 1=((x / 2^0%2:Nat):Int))&&decide (bits .and .i64 ((x:Int) / 2) 1=((x / 2^1%2:Nat):Int))&&decide (bits .and .i64 ((x:Int) / 4) 1=((x / 2^2%2:Nat):Int)))=true:=by kernel_rfl
theorem zmi {x:Nat}(hx:x<8):bits .and .i64 (x:Int) 1=((x / 2^0%2:Nat):Int)∧bits .and .i64 ((x:Int) / 2) 1=((x / 2^1%2:Nat):Int)∧bits .and .i64 ((x:Int) / 4) 1=((x / 2^2%2:Nat):Int):=by
 have h:=List.all_eq_true.1 znA x (List.mem_range.2 hx);obtain⟨h1,h2⟩:=Bool.and_eq_true_iff.1 h;obtain⟨h3,h4⟩:=Bool.and_eq_true_iff.1 h1;exact⟨of_decide_eq_true h3,of_decide_eq_true h4,of_decide_eq_true h2⟩
theorem zpX {a b:Nat}(ha:a≤1)(hb:b≤1):IntKind.i64.wrap ((b:Int)*2)=((2*b:Nat):Int)∧bits .or .i64 (a:Int) ((2*b:Nat):Int)=((a+2*b:Nat):Int):=by
 rcases(show a=0∨a=1 by omega) with rfl|rfl <;> rcases(show b=0∨b=1 by omega) with rfl|rfl <;> exact⟨by kernel_rfl,by kernel_rfl⟩
def WayL (l:List Nd)(x y k:Nat)(v S:Int):Prop:=kidB l ((k:Int)+1) v=true∧getF k l v ((x%2^k:Nat):Int) ((y%2^k:Nat):Int)=S
theorem WayL.start {l:List Nd}{x y:Nat}{n:Int}(hn:kidB l 4 n=true)(hx:x<8)(hy:y<8):WayL l x y 3 n (getF 3 l n x y) :=
 ⟨hn,by rw[Nat.mod_eq_of_lt hx,Nat.mod_eq_of_lt hy]⟩
theorem WayL.zero {l:List Nd}{x y k:Nat}{S:Int}(h:WayL l x y k 0 S):S=0:=by
 rw[←h.2];cases k with
 | zero=>rfl
 | succ m=>exact if_pos rfl
theorem WayL.done {l:List Nd}{x y:Nat}{v S:Int}(h:WayL l x y 0 v S):S=v:=h.2.symm
theorem WayL.node {l:List Nd}{x y m:Nat}{v S:Int}(h:WayL l x y (m+1) v S)(h0:v≠0):∃p:Nat,v=(p:Int)+1∧p<l.length∧(Nds.at_ l p).lv=(m:Int)+1:=by
 have h1:=h.1;unfold kidB at h1;rw[if_neg (by omega)] at h1;rcases of_decide_eq_true h1 with e|⟨h2,h3,h4⟩
 ·exact absurd e h0
 ·refine⟨v.toNat-1,by omega,by omega,?_⟩;rw[h4];omega
theorem WayL.next {l:List Nd}(hl:zaa l=true){x y m p:Nat}{S:Int}(hx:x<8)(hy:y<8)(hm:m<3)(h:WayL l x y (m+1) ((p:Int)+1) S)(hp:p<l.length)(hv:(Nds.at_ l p).lv=(m:Int)+1) :
  WayL l x y m ((Nds.at_ l p).kid (qbI x y m)) S:=by
 have hf:=zae hl hp;have hk:=zag hf (zog x y m);rw[hv] at hk;refine⟨hk,?_⟩;have h2:=h.2;unfold getF at h2;rw[if_neg (by omega),zpW hx hy hm,zmh hx hm,zmh hy hm] at h2;have e:zeT m l ((p:Int)+1)=Nds.at_ l p:=by
  unfold zeT;rw[if_neg (by omega),show((p:Int)+1-1).toNat=p by omega]
 rw[e] at h2;exact h2
theorem zpf (A:Option Addr)(c N:Nat)(l:List Nd)(n:Int)(x y:Nat)(w:World)(h:Ns w A c l)(hN:l.length=N)(hN9:N≤1000000)(hl:zaa l=true)(hn:kidB l 4 n=true)(hx:x<8)(hy:y<8) :
  Calls Tryz.prog 136 #[.slice A N c,.int .i64 n,.int .i64 (x:Int),.int .i64 (y:Int)] w fun e w'=>e=.returned (.int .u8 ((sgL l n y x).toNat:Int))∧∃m,w'=w.drewN m:=by
 have hcap:=h.cap;rw[hN] at hcap;obtain⟨S,hS⟩:∃S,S=getF 3 l n x y:=⟨_,rfl⟩;have HW0:=Hh (show WayL l x y 3 n S by rw[hS];exact WayL.start hn hx hy);obtain⟨R,hR⟩:∃R,R=sgL l n y x:=⟨_,rfl⟩;have HR:=Hh (show R=if S=0 then 46 else 42 by rw[hR,hS];rfl);rw[←hR];have HH:=Hh h;have HN:=Hh hN;have HL:=Hh hl;clear hS hR h hN hl hn;go_enter Tryz.func136,Tryz.ntmps136;go_wp2_with fail;go_loopw [9,1] (fun z1 z2 wr=>∃(k:Nat) (v:Int) (nd:Nat),k≤3∧z1=.int .i64 ((k:Int)-1)∧z2=.int .i64 v∧WayL l x y k v S∧wr=w.drewN nd) (fun z1 _ _=>(intOf z1+1).toNat)
 case atStart=>exact⟨3,_,0,Nat.le_refl _,rfl,rfl,HW0.out,rfl⟩
 case round =>
  obtain⟨k,v,nd,hk,rfl,rfl,hw,rfl⟩:=hrel;have HW:=Hh hw;clear hw;by_cases hv:v=0
  ·subst hv;have hS0:=HW.out.zero;subst hS0;have hd:∀b:Bool,(b&&false)=false:=fun b=>by cases b <;> rfl
   cases k with
   | zero =>
    go_wp2_with fail;go_ret;rw[HR.out];exact⟨rfl,_,rfl⟩
   | succ m =>
    have t1:decide (((m:Int)+1-1)≥0)=true:=decide_eq_true (by omega);have e1:((m+1:Nat):Int)-1=(m:Int):=by omega
    rw[e1];go_wp2_with fail;go_ret;rw[HR.out];exact⟨rfl,_,rfl⟩
  ·have tv:(v==0)=false:=beq_eq_false_iff_ne.2 hv;have tv2:(v != 0)=true:=by rw[bne_iff_ne];exact hv
   cases k with
   | zero =>
    have hS1:=HW.out.done;subst hS1;go_wp2_with fail;go_ret;rw[HR.out,if_neg hv];exact⟨rfl,_,rfl⟩
   | succ m =>
    obtain⟨p,hp,hpl,hlv⟩:=HW.out.node hv;subst hp;have HX:=Hh (HW.out.next HL.out hx hy (by omega) hpl hlv);obtain⟨b,off,rfl,hb,hcc⟩:=HH.out.at_ (by omega)
    have c1:=(hcc p hpl).kid (zog x y m);obtain⟨u,hu⟩:∃u,u=(Nds.at_ l p).kid (qbI x y m):=⟨_,rfl⟩;rw[←hu] at c1 HX;have hpN:p<N:=by rw[←HN.out];exact hpl
    have i0:(0:Int)≤(p:Int):=by omega
    have i1:(p:Int)<(N:Int):=by omega
    have HM:=Hh hk;clear hcc hu hlv hpl hb HW;have ip:IntKind.i64.wrap (p:Int)=(p:Int):=IntWalk.i64_in _ (by omega);obtain⟨x0,x1,x2⟩:=zmi hx;obtain⟨y0,y1,y2⟩:=zmi hy;obtain⟨a,ha⟩:∃a,a=x / 2^m%2:=⟨_,rfl⟩;obtain⟨d,hd⟩:∃d,d=y / 2^m%2:=⟨_,rfl⟩;obtain⟨o1,o2⟩:=zpX (a:=a) (b:=d) (by omega) (by omega);have j0:(0:Int)≤((a+2*d:Nat):Int):=by omega
    have j1:((a+2*d:Nat):Int)<4:=by omega
    rw[show qbI x y m=a+2*d by rw[ha,hd];rfl] at c1;obtain⟨r,hr⟩:∃r,r=a+2*d:=⟨_,rfl⟩;rw[←hr] at c1 o2 j0 j1;obtain⟨d2,hd2⟩:∃r,r=2*d:=⟨_,rfl⟩;rw[←hd2] at o1 o2;clear hr hd2;rcases(show m=0∨m=1∨m=2 by omega) with rfl|rfl|rfl
    ·rw[←ha] at x0;rw[←hd] at y0;clear ha hd x1 x2 y1 y2;go_wp2_with fail;go_quiet (fail);go_wp2_with fail;go_roundw
     case rel=>exact⟨_,_,_,by have:=HM.out;omega,rfl,rfl,HX.out,by first|rfl|exact World.drewN_drewN _ _ _⟩
     case measure=>simp[intOf]
    ·rw[←ha] at x1;rw[←hd] at y1;clear ha hd x0 x2 y0 y2;go_wp2_with fail;go_quiet (fail);go_wp2_with fail;go_roundw
     case rel=>exact⟨_,_,_,by have:=HM.out;omega,rfl,rfl,HX.out,by first|rfl|exact World.drewN_drewN _ _ _⟩
     case measure=>simp[intOf]
    ·rw[←ha] at x2;rw[←hd] at y2;clear ha hd x0 x1 y0 y1;go_wp2_with fail;go_quiet (fail);go_wp2_with fail;go_roundw
     case rel=>exact⟨_,_,_,by have:=HM.out;omega,rfl,rfl,HX.out,by first|rfl|exact World.drewN_drewN _ _ _⟩
     case measure=>simp[intOf]
end Go.Proofs.YtfjajpnfjjdnpaaGreatDoor

namespace Go.Proofs.YtfjajpnfjjdnpaaGreatDoor
open Go.RowKit Nds Lib
theorem Wb.next {b:Nat}{bs:List Value}{w w':World}(h:Wb b bs w)(k:Below w.heap.size w w'):Wb b bs w':=by
 have key:∀p,WbA b p bs w→WbA b p bs w':=fun p ⟨h1,v,hb,ho,hne⟩=>by
  refine⟨h1,v,(k.block _ (Array.getElem?_eq_some_iff.1 hb).1).trans hb,⟨ho.1,?_⟩,hne⟩;rcases ho.2 with h2|⟨g,cap,cur,fz,hv,r1,r2,r3⟩
  ·exact .inl h2
  ·exact .inr ⟨g,cap,cur,fz,hv,r1,(k.block _ (Array.getElem?_eq_some_iff.1 r2).1).trans r2,r3⟩
 rcases h with h|h
 ·exact .inl (key _ h)
 ·exact .inr (key _ h)
def b8v (b:UInt8):Value:=.int .u8 (b.toNat:Int)
def ByR (w:World)(g:Nat)(bs:List UInt8):Prop:=w.heap[g]?=some (.cells (bs.map b8v).toArray 170)
theorem ByR.cell {w:World}{g:Nat}{bs:List UInt8}(h:ByR w g bs){k:Nat}(hk:k<bs.length):w.cell? ⟨g,k,none⟩=some (.int .u8 ((bs.getD k 0).toNat:Int)):=by
 rw[cell_of_row w g _ _ _ (0,0) h,List.getElem?_toArray,List.getElem?_map,List.getD_eq_getElem?_getD,List.getElem?_eq_getElem hk];rfl
theorem ByR.free {w:World}{g:Nat}{bs:List UInt8}(h:ByR w g bs)(k:Nat):w.frozen? ⟨g,k,none⟩=false:=frozen_of_row w g k _ _ h
theorem ByR.set {w:World}{g k:Nat}{bs:List UInt8}(h:ByR w g bs)(u:UInt8):ByR (w.setCell ⟨g,k,none⟩ (.int .u8 (u.toNat:Int))) g (bs.set k u):=by
 refine(heap_setCell_same w g k _ _ _ h).trans ?_;rw[List.map_set];simp[b8v]
theorem ByR.conv {W:World}{g:Nat}{bs:List UInt8}(h:ByR W g bs)(hl:bs.length=8) :
  (convert 83 9 (.slice (some ⟨g,0,none⟩) 8 8)).run Tryz.prog W=.ok (.string ⟨bs.toArray⟩) W:=by
 rw[←hl];refine run_convert_bytes_back (P:=Tryz.prog) W 83 9 5 ⟨g,0,none⟩ bs.length bs Tryz.underlying83 Tryz.underlying5 Tryz.underlying9 (fun j hj=>?_);have h1:=h.cell hj;rw[List.getD_eq_getElem?_getD,List.getElem?_eq_getElem hj] at h1;have e:(⟨g,0,none⟩:Addr).add j=⟨g,j,none⟩:=by cases j <;> simp[Addr.add]
 rw[e];exact h1
def rowK (l:List Nd)(n:Int)(y k:Nat):List UInt8:=(List.range 8).map fun j=>if j<k then sgL l n y j else 0
theorem zcM (l:List Nd)(n:Int)(y k:Nat):(rowK l n y k).length=8:=by
 unfold rowK;simp
theorem znB (l:List Nd)(n:Int)(y:Nat):rowK l n y 8=rowF l n y:=by
 unfold rowK rowF;refine List.map_congr_left fun j hj=>?_;rw[if_pos (List.mem_range.1 hj)]
theorem zmj (l:List Nd)(n:Int)(y k:Nat):rowK l n y (k+1)=(rowK l n y k).set k (sgL l n y k):=by
 refine List.ext_getElem? fun j=>?_;rw[List.getElem?_set,zcM];by_cases hj:j<8
 ·have e:∀m,(rowK l n y m)[j]?=some (if j<m then sgL l n y j else 0):=fun m=>by
   unfold rowK;rw[List.getElem?_map,List.getElem?_range hj];rfl
  rw[e,e];by_cases h2:k=j
  ·subst h2;rw[if_pos (by omega),if_pos rfl,if_pos hj]
  ·rw[if_neg h2];by_cases h3:j<k
   ·rw[if_pos h3,if_pos (by omega)]
   ·rw[if_neg h3,if_neg (by omega)]
 ·rw[List.getElem?_eq_none (by rw[zcM];omega),List.getElem?_eq_none (by rw[zcM];omega)];split
  ·rw[if_neg (by omega)]
  ·rfl
theorem zmk (A:Option Addr)(c N:Nat)(l:List Nd)(n:Int)(y:Nat)(w:World)(h:Ns w A c l)(hN:l.length=N)(hN9:N≤1000000)(hl:zaa l=true)(hn:kidB l 4 n=true)(hy:y<8) :
  Calls Tryz.prog 88 #[.slice A N c,.int .i64 n,.int .i64 (y:Int)] w fun e w'=>e=.returned (.string ⟨(rowL l n y).toArray⟩)∧Below w.heap.size w w':=by
 have HH:=Hh h;have HN:=Hh hN;have HL:=Hh hl;have HK:=Hh hn;obtain⟨g,hg⟩:∃g,g=w.heap.size:=⟨_,rfl⟩;obtain⟨W0,hW0⟩:∃W:World,W=w.alloc (.cells #[.int .u8 0,.int .u8 0,.int .u8 0,.int .u8 0,.int .u8 0,.int .u8 0,.int .u8 0,.int .u8 0] 170):=⟨_,rfl⟩;have HB0:=Hh (show Below g w W0 by rw[hW0,hg];exact(Below.refl _ _).alloc (Nat.le_refl _) _);have HR0:=Hh (show ByR W0 g (rowK l n y 0) by rw[hW0,hg];exact heap_alloc_new w _);have HG:=Hh hg;obtain⟨R,hR⟩:∃R,R=rowL l n y:=⟨_,rfl⟩;rw[←hR];have HRR:=Hh hR;clear h hN hl hn hR;go_enter Tryz.func88,Tryz.ntmps88;go_upto_region 2 with fail
 rw[←hg,←hW0];clear hg hW0;go_wp2_with fail;go_loopw [9,8] (fun z1 z2 wr=>∃(k:Nat) (v:Value),z1=.int .i64 k∧v=z2∧k≤8∧ByR wr g (rowK l n y k)∧Below g w wr) (fun z1 _ _=>8-(intOf z1).toNat)
 case atStart=>exact⟨0,_,rfl,rfl,Nat.zero_le _,HR0.out,HB0.out⟩
 case round =>
  obtain⟨k,v,rfl,rfl,hk,hr,hb⟩:=hrel;have HR:=Hh hr;have HB:=Hh hb;clear hr hb;by_cases hlt:k<8
  ·have kw:IntKind.i64.wrap ((k:Int)+1)=(k:Int)+1:=IntWalk.i64_in _ (by omega);have t1:decide ((k:Int)<8)=true:=decide_eq_true (by omega);have i0:(0:Int)≤(k:Int):=by omega
   have i1:(k:Int)<8:=by omega
   have HLT:=Hh hlt;obtain⟨s,hs⟩:∃s,s=sgL l n y k:=⟨_,rfl⟩;have HS:=Hh hs;have c1:=HR.out.cell (k:=k) (by rw[zcM];exact hlt);have f1:=HR.out.free k;clear hs hlt;go_wp2_with (go_at_call 136;go_loud (refine(zpf A c N l n k y _ (HH.out.below (show Below w.heap.size w _ by rw[←HG.out];exact HB.out)) HN.out hN9 HL.out HK.out HLT.out hy).mono ?_;rintro e w2 ⟨rfl,m,rfl⟩;rw[←HS.out];have HR2:=Hh (show ByR (wr.drewN m) g (rowK l n y k) from HR.out);have HB2:=Hh (zab HB.out m);have c1:=HR2.out.cell (k:=k) (by rw[zcM];exact HLT.out);have f1:=HR2.out.free k));go_roundw
   case rel=>exact⟨k+1,_,by go_num,rfl,HLT.out,by rw[zmj,←HS.out];exact HR2.out.set s,HB2.out.setCell (Nat.le_refl _) _⟩
   case measure=>have:=HLT.out;simp[intOf];omega
  ·obtain rfl:k=8:=by omega
   have hcv:=HR.out.conv (zcM l n y 8);rw[znB] at hcv;obtain⟨s,hs⟩:∃s:ByteArray,s=⟨(rowF l n y).toArray⟩:=⟨_,rfl⟩;rw[←hs] at hcv;have HSZ:=Hh (show s.size≤maxLen by rw[hs,zck,zeq];decide);have HSD:=Hh (show rowL l n y=zaI 46 s.data.toList by rw[hs];rfl);clear hs;go_wp2_with (go_at_call 90;go_loud (refine(zdT 46 (.inr rfl) s _ HSZ.out).mono ?_;rintro e w2 ⟨rfl,rfl⟩));go_ret;exact⟨by rw[HRR.out,HSD.out];rfl,by rw[←HG.out];exact HB.out⟩
theorem zhD (A:Option Addr)(c N:Nat)(l:List Nd)(n:Int)(w:World)(h:Ns w A c l)(hN:l.length=N)(hN9:N≤1000000)(hl:zaa l=true)(hn:kidB l 4 n=true) :
  Calls Tryz.prog 43 #[.slice A N c,.int .i64 n] w fun e w'=>e=.returned (.string ⟨(zcl l n).toArray⟩)∧Below w.heap.size w w':=by
 have HH:=Hh h;have HN:=Hh hN;have HL:=Hh hl;have HK:=Hh hn;have S0:=Hh (Wb.fresh w);obtain⟨b,hb⟩:∃b,b=w.heap.size:=⟨_,rfl⟩;rw[←hb] at S0;have HG:=Hh hb;obtain⟨R,hR⟩:∃R,R=zcl l n:=⟨_,rfl⟩;rw[←hR];have HRR:=Hh hR;clear hR;have B0:=Hh (show Below b w (w.alloc (.cells #[.pointer none,.slice none 0 0] 85)) by rw[hb];exact(Below.refl _ _).alloc (Nat.le_refl _) _);clear h hN hl hn;go_enter Tryz.func43,Tryz.ntmps43;go_upto_region 2 with fail
 rw[←hb];clear hb;go_wp2_with fail;go_loopw [8,6] (fun z1 z2 wr=>∃(k:Nat) (v:Value),z1=.int .i64 k∧v=z2∧k≤8∧Wb b (byteCells (zbH l n k)) wr∧Below b w wr) (fun z1 _ _=>8-(intOf z1).toNat)
 case atStart=>exact⟨0,_,rfl,rfl,Nat.zero_le _,S0.out,B0.out⟩
 case round =>
  obtain⟨k,v,rfl,rfl,hk,hr,hb⟩:=hrel;have HR:=Hh hr;have HB:=Hh hb;have hbs:b≤wr.heap.size:=by
   have:=hb.size;rw[←HG.out] at this;exact this
  have HJ:=Hh (zeZ l n k);clear hr hb;by_cases hlt:k<8
  ·have kw:IntKind.i64.wrap ((k:Int)+1)=(k:Int)+1:=IntWalk.i64_in _ (by omega);have t1:decide ((k:Int)<8)=true:=decide_eq_true (by omega);have HLT:=Hh hlt;obtain⟨s,hs⟩:∃s:ByteArray,s=⟨(rowL l n k).toArray⟩:=⟨_,rfl⟩;have HS:=Hh hs;have HSZ:=Hh (show s.size≤8 by rw[hs,zck];exact zgP l n k);have HSD:=Hh (show s.data.toList=rowL l n k by rw[hs]);clear hs hlt;go_wp2_with (first
    | (go_at_call 88;go_loud (refine(zmk A c N l n k _ (HH.out.below (show Below w.heap.size w _ by rw[←HG.out];exact HB.out)) HN.out hN9 HL.out HK.out HLT.out).mono ?_;rintro e w2 ⟨rfl,b2⟩;rw[←HS.out];have HR2:=Hh (HR.out.next b2);have HB2:=Hh (HB.out.trans (b2.mono hbs));have hbs2:=Nat.le_trans hbs b2.size;clear b2))
    | (go_at_call 87;go_loud (refine(zeo b _ s _ HR2.out (by have:=HJ.out;have:=HSZ.out;omega) hbs2).mono ?_;rintro e w3 ⟨rfl,h3,k3⟩;rw[HSD.out] at h3;have HR3:=Hh h3;have HB3:=Hh (HB2.out.trans k3.1);have hbs3:=Nat.le_trans hbs2 k3.1.size;clear h3 k3))
    | (go_at_call 89;go_loud (refine(zgO b _ 36 _ HR3.out (by rw[List.length_append];have:=HJ.out;have:=zgP l n k;omega) hbs3).mono ?_;rintro e w4 ⟨rfl,h4,k4⟩;rw[←zbc] at h4;have HR4:=Hh h4;have HB4:=Hh (HB3.out.trans k4.1);clear h4 k4)))
   go_roundw
   case rel=>exact⟨k+1,_,by go_num,rfl,HLT.out,HR4.out,HB4.out⟩
   case measure=>have:=HLT.out;simp[intOf];omega
  ·obtain rfl:k=8:=by omega
   obtain⟨s,hs⟩:∃s:ByteArray,s=⟨(zbH l n 8).toArray⟩:=⟨_,rfl⟩;have HS:=Hh hs;have HSZ:=Hh (show s.size≤maxLen by rw[hs,zck];have:=HJ.out;unfold maxLen;omega);obtain⟨t,ht⟩:∃t:ByteArray,t=⟨(zaI 36 s.data.toList).toArray⟩:=⟨_,rfl⟩;have HTT:=Hh ht;have HTZ:=Hh (show t.size≤72 by rw[ht,zck];have h1:=zhB 36 s.data.toList;have h2:=HJ.out;rw[hs] at h1 ⊢;simp only[List.length] at h1 ⊢;omega);have HLF:=Hh (show zcl l n=if t.data.toList=[] then [] else t.data.toList++[36] by rw[ht,hs];rfl);have hne0:zbH l n 8≠[]:=by rw[zbc];simp
   have HNE:=Hh hne0;clear hs ht hne0;by_cases h0:t.data.toList=[]
   ·have e1:t.toList.isEmpty=true:=by
     rw[ByteArray.toList_eq,h0];rfl
    have HE:=Hh (show R=[] by rw[HRR.out,HLF.out,if_pos h0]);clear h0;go_wp2_with (first
     | (go_at_call 54;go_loud (refine(zio b _ _ HR.out HNE.out).mono ?_;rintro e w6 ⟨rfl,b6⟩;rw[←HS.out];have B6:=Hh (HB.out.trans b6);clear b6))
     | (go_at_call 90;go_loud (refine(zdT 36 (.inl rfl) s _ HSZ.out).mono ?_;rintro e w2 ⟨rfl,rfl⟩;rw[←HTT.out])))
    go_ret;exact⟨by rw[HE.out];rfl,by rw[←HG.out];exact B6.out⟩
   ·have e1:t.toList.isEmpty=false:=by
     rw[ByteArray.toList_eq];cases hl:t.data.toList with
     | nil=>exact absurd hl h0
     | cons x r=>rfl
    have hz1:(9223372036854775807<t.size+1)=False:=eq_false (by have:=HTZ.out;omega);have hz:(9223372036854775807<t.size+(⟨#[36]⟩:ByteArray).size)=False:=eq_false (by have:=HTZ.out;show ¬ 9223372036854775807<t.size+1;omega);have HE:=Hh (show R=t.data.toList++[36] by rw[HRR.out,HLF.out,if_neg h0]);clear h0;go_wp2_with (first
     | (go_at_call 54;go_loud (refine(zio b _ _ HR.out HNE.out).mono ?_;rintro e w6 ⟨rfl,b6⟩;rw[←HS.out];have B6:=Hh (HB.out.trans b6);clear b6))
     | (go_at_call 90;go_loud (refine(zdT 36 (.inl rfl) s _ HSZ.out).mono ?_;rintro e w2 ⟨rfl,rfl⟩;rw[←HTT.out])))
    go_ret;refine⟨?_,by rw[←HG.out];exact B6.out⟩;have e3:t++(⟨#[36]⟩:ByteArray)=⟨(t.data.toList++[36]).toArray⟩:=zlV (by simp);rw[HE.out,←e3];rfl
end Go.Proofs.YtfjajpnfjjdnpaaGreatDoor

namespace Go.Proofs.YtfjajpnfjjdnpaaGreatDoor
open Go.RowKit Lib
theorem zkk:∀n,n<10→Digs.digs n=[UInt8.ofNat (48+n)]:=fun n h=>by
 have h1:((List.range 10).all fun n=>Digs.digs n==[UInt8.ofNat (48+n)])=true:=by kernel_rfl
 exact eq_of_beq (List.all_eq_true.1 h1 n (List.mem_range.2 h))
theorem zhE (n:Nat):Lib.decDigits n=Digs.digs n:=by
 induction n using Nat.strongRecOn with
 | ind n ih =>
  by_cases h:n<10
  ·rw[Lib.decDigits_one h,zkk n h]
  ·rw[Lib.decDigits,dif_neg h,ih (n / 10) (by omega)];have h2:=Digs.digs_ten (n:=n / 10) (k:=n%10) (by omega) (by omega);rw[show n / 10*10+n%10=n by omega] at h2;rw[h2];rfl
abbrev TabP (w:World):Prop:=Lib.TabIs Tryz.prog w "internal/strconv.uint64pow10" .u64 Lib.pow10Tab
theorem zat {w w':World}(h:TabP w)(hb:Below w.heap.size w w'):TabP w':=Go.Joins.tab_stays (g:=1) (by kernel_rfl) h hb (Nat.le_refl _)
theorem zfR (n:Nat)(w:World)(h:n≤9223372036854775807)(T:TabP w) :
  Calls Tryz.prog 75 #[.int .i64 (n:Int)] w fun e w'=>e=.returned (.string ⟨(Digs.digs n).toArray⟩)∧Below w.heap.size w w':=by
 refine(Any.strconv_Itoa Tryz.itN (n:Int) (by omega) (by omega) w T).mono ?_;rintro e w' ⟨rfl,k,os,rfl⟩;rw[Lib.itoa_nonneg,zhE];exact⟨rfl,⟨rfl,rfl,rfl,by show w.heap.size≤(w.heap++os).size;rw[Array.size_append];omega,fun j hj=>by show(w.heap++os)[j]?=_;exact Array.getElem?_append_left hj⟩⟩
end Go.Proofs.YtfjajpnfjjdnpaaGreatDoor

namespace Go.Proofs.YtfjajpnfjjdnpaaGreatDoor
open Go.RowKit Nds Lib
def brK (v:Nat)(f:Nat→Nat):Nat→List UInt8
 | 0=>Digs.digs v
 | k+1=>brK v f k++[32]++Digs.digs (f k)
theorem zdU {n:Nat}(h:n≤1000000):(Digs.digs n).length≤7:=Digs.digs_length_le (k:=7) (by omega) (by omega)
theorem zip {v:Nat}{f:Nat→Nat}(hv:v≤1000000):∀k,(∀j,j<k→f j≤1000000)→(brK v f k).length≤7+8*k
 | 0,_=>zdU hv
 | k+1,hf=>by
  show(brK v f k++[32]++Digs.digs (f k)).length≤_;rw[List.length_append,List.length_append];have h1:=zip hv k (fun j hj=>hf j (by omega));have h2:=zdU (hf k (by omega));simp only[List.length_cons,List.length_nil];omega
theorem zml {v:Nat}{f:Nat→Nat}(hv:v≤1000000)(hf:∀j,j<4→f j≤1000000):(brT v f).length≤39:=zip hv 4 hf
def knN (f:Nat→Nat):Nd:=⟨0,f 0,f 1,f 2,f 3⟩
theorem zpg (f:Nat→Nat){k:Nat}(hk:k<4):(knN f).kid k=(f k:Int):=by
 match k,hk with
 | 0,_=>rfl
 | 1,_=>rfl
 | 2,_=>rfl
 | 3,_=>rfl
theorem zfb (v:Nat)(f:Nat→Nat)(w:World)(T:TabP w)(hv:v≤1000000)(hf:∀j,j<4→f j≤1000000) :
  Calls Tryz.prog 129 #[.int .i64 (v:Int),.agg #[.int .i64 (f 0:Int),.int .i64 (f 1:Int),.int .i64 (f 2:Int),.int .i64 (f 3:Int)]] w fun e w'=>e=.returned (.string ⟨(brT v f).toArray⟩)∧Below w.heap.size w w':=by
 have HF:=Hh hf;obtain⟨g,hg⟩:∃g,g=w.heap.size:=⟨_,rfl⟩;obtain⟨W0,hW0⟩:∃W:World,W=w.alloc (.cells #[.int .i64 (f 0:Int),.int .i64 (f 1:Int),.int .i64 (f 2:Int),.int .i64 (f 3:Int)] 68):=⟨_,rfl⟩;have hb0:Below w.heap.size w W0:=by rw[hW0];exact(Below.refl _ _).alloc (Nat.le_refl _) _
 have HB0:=Hh hb0;have HT0:=Hh (zat T hb0);have HX0:=Hh (show zbD W0 g (knN f) by rw[hW0,hg];exact zbD.new w (knN f));have HI:=Hh (show ∀(k:Nat) (hk:k<4) (W:World),(Instr.index 68 (.agg #[.int .i64 (knN f).a,.int .i64 (knN f).b,.int .i64 (knN f).c,.int .i64 (knN f).d]) (.int .i64 (k:Int))).run Tryz.prog W=.ok (.int .i64 (f k:Int)) W from fun k hk W=>by
  have:=zeD (knN f) k hk W;rw[zpg f hk] at this;exact this)
 have hgs:g≤w.heap.size:=by omega
 obtain⟨T0,hT0⟩:∃T,T=brT v f:=⟨_,rfl⟩;rw[←hT0];have HR:=Hh hT0;obtain⟨s0,hs0⟩:∃s:ByteArray,s=⟨(brK v f 0).toArray⟩:=⟨_,rfl⟩;have HS0:=Hh hs0;have HD0:=Hh (show(⟨(Digs.digs v).toArray⟩:ByteArray)=s0 from hs0.symm);obtain⟨a0,a1,a2,a3⟩:∃a0 a1 a2 a3:Int,a0=f 0∧a1=f 1∧a2=f 2∧a3=f 3:=⟨_,_,_,_,rfl,rfl,rfl,rfl⟩;clear T hf hb0 hT0 hs0;obtain⟨x0,x1,x2,x3⟩:=HX0.out.at_
 go_enter Tryz.func129,Tryz.ntmps129;go_upto_region 1 with fail
 rw[←hg,←hW0];clear hg hW0;go_wp2_with (go_at_call 75;go_loud (refine(zfR v _ (by omega) HT0.out).mono ?_;rintro e w1 ⟨rfl,b1⟩;rw[HD0.out];have HX1:=Hh (HX0.out.stay (b1.block g HX0.out.lt));have HB1:=Hh (HB0.out.trans (b1.mono HB0.out.size));have HT1:=Hh (zat HT0.out b1);clear x0 x1 x2 x3 b1;obtain⟨x0,x1,x2,x3⟩:=HX1.out.at_));go_loopw [11,5,7] (fun z1 z2 z3 wr=>∃(k:Nat) (u:Value),z1=.int .i64 k∧z2=.string ⟨(brK v f k).toArray⟩∧u=z3∧k≤4∧TabP wr∧Below w.heap.size w wr) (fun z1 _ _ _=>4-(intOf z1).toNat)
 case atStart=>exact⟨0,_,rfl,by rw[HS0.out],rfl,Nat.zero_le _,HT1.out,HB1.out⟩
 case round =>
  obtain⟨k,u,rfl,rfl,rfl,hk,ht,hb⟩:=hrel;have HT:=Hh ht;have HB:=Hh hb;clear ht hb;obtain⟨s,hs⟩:∃s:ByteArray,s=⟨(brK v f k).toArray⟩:=⟨_,rfl⟩;rw[←hs];have HS:=Hh hs;have hsz:s.size≤39:=by
   rw[hs,zck];have:=zip hv k (fun j hj=>HF.out j (by omega));omega
  clear hs;by_cases hlt:k<4
  ·have kw:IntKind.i64.wrap ((k:Int)+1)=(k:Int)+1:=IntWalk.i64_in _ (by omega);have t1:decide ((k:Int)<4)=true:=decide_eq_true (by omega);have hix:=HI.out k hlt;obtain⟨q,hq⟩:∃q,q=f k:=⟨_,rfl⟩;rw[←hq] at hix;have hq9:q≤1000000:=by rw[hq];exact HF.out k hlt
   obtain⟨t,ht⟩:∃t:ByteArray,t=⟨(Digs.digs q).toArray⟩:=⟨_,rfl⟩;have HTD:=Hh ht;have htz:t.size≤7:=by rw[ht,zck];exact zdU hq9
   have HQ:=Hh hq;have HLT:=Hh hlt;have z1:(9223372036854775807<(⟨#[32]⟩:ByteArray).size+t.size)=False:=eq_false (by show ¬ 9223372036854775807<1+t.size;omega);have z2:(9223372036854775807<s.size+((⟨#[32]⟩:ByteArray)++t).size)=False:=eq_false (by rw[ByteArray.size_append];show ¬ 9223372036854775807<s.size+(1+t.size);omega);have z3:(9223372036854775807<s.size+((⟨#[32]⟩:ByteArray).size+t.size))=False:=eq_false (by show ¬ 9223372036854775807<s.size+(1+t.size);omega);have HNX:=Hh (show s++((⟨#[32]⟩:ByteArray)++t)=⟨(brK v f (k+1)).toArray⟩ by
    refine zlV ?_;rw[HS.out,ht,hq];show _=brK v f k++[32]++Digs.digs (f k);simp)
   clear hq ht hlt;go_wp2_with (go_at_call 75;go_loud (refine(zfR q _ (by omega) HT.out).mono ?_;rintro e w2 ⟨rfl,b2⟩;rw[←HTD.out];have HB2:=Hh (HB.out.trans (b2.mono HB.out.size));have HT2:=Hh (zat HT.out b2);clear b2));go_roundw
   case rel=>exact⟨k+1,_,by go_num,by rw[←HNX.out],rfl,HLT.out,HT2.out,HB2.out⟩
   case measure=>have:=HLT.out;simp[intOf];omega
  ·obtain rfl:k=4:=by omega
   go_wp2_with fail;go_ret;refine⟨?_,HB.out⟩;rw[HS.out,HR.out];rfl
theorem zbD.setAt {w:World}{g:Nat}{z:Nd}{k:Nat}(h:zbD w g z)(hk:k<4)(u:Int):zbD (w.setCell ⟨g,k,none⟩ (.int .i64 u)) g (chK z k u):=by
 refine(heap_setCell_same w g k _ _ _ h).trans ?_
 match k,hk with
 | 0,_=>rfl
 | 1,_=>rfl
 | 2,_=>rfl
 | 3,_=>rfl
def Ris (w:World)(g:Nat)(xs:List Nat):Prop:=g<w.heap.size∧∀j,j<xs.length→w.cell? ⟨g,j,none⟩=some (.int .i64 ((xs.getD j 0:Nat):Int))
theorem Ris.next {w w':World}{g:Nat}{xs:List Nat}(h:Ris w g xs)(hb:Below w.heap.size w w'):Ris w' g xs:=⟨Nat.lt_of_lt_of_le h.1 hb.size,fun j hj=>(hb.cell (p:=⟨g,j,none⟩) h.1).trans (h.2 j hj)⟩
theorem zkl (x:Nd)(p:Nat→Nat)(xs:List Nat)(g N:Nat)(w:World)(h:Ris w g xs)(hN:xs.length=N)(hN9:N≤1000001)(hx:∀j,j<4→x.kid j=(p j:Int)∧p j<N) :
  Calls Tryz.prog 130 #[.agg #[.int .i64 x.a,.int .i64 x.b,.int .i64 x.c,.int .i64 x.d],.slice (some ⟨g,0,none⟩) N N] w fun e w'=>e=.returned (.agg #[.int .i64 (xs.getD (p 0) 0:Nat),.int .i64 (xs.getD (p 1) 0:Nat),.int .i64 (xs.getD (p 2) 0:Nat),.int .i64 (xs.getD (p 3) 0:Nat)])∧Below w.heap.size w w':=by
 have HX:=Hh hx;obtain⟨B,hB⟩:∃B,B=w.heap.size:=⟨_,rfl⟩;obtain⟨W0,hW0⟩:∃W:World,W=(w.alloc (.cells #[.int .i64 x.a,.int .i64 x.b,.int .i64 x.c,.int .i64 x.d] 68)).alloc (.cells #[.int .i64 0,.int .i64 0,.int .i64 0,.int .i64 0] 68):=⟨_,rfl⟩;have hb0:Below w.heap.size w W0:=by rw[hW0];exact((Below.refl _ _).alloc (Nat.le_refl _) _).alloc (by simp) _
 have HB0:=Hh (show Below B w W0 by rw[hB];exact hb0);have HR0:=Hh (h.next hb0);have HX0:=Hh (show zbD W0 B x by
  rw[hW0,hB];exact(zbD.new w x).stay (Lib.alloc_old _ _ _ (by rw[World.size_alloc];exact Nat.lt_succ_self _)))
 have HY0:=Hh (show zbD W0 (B+1) nd0 by
  have h1:=heap_alloc_new (w.alloc (.cells #[.int .i64 x.a,.int .i64 x.b,.int .i64 x.c,.int .i64 x.d] 68)) (.cells #[.int .i64 0,.int .i64 0,.int .i64 0,.int .i64 0] 68);rw[World.size_alloc,←hB,←hW0] at h1;exact h1)
 have HI:=Hh (zeD x);have HNN:=Hh hN;have HBE:=Hh hB;have hgB:g<B:=by rw[hB];exact h.1
 obtain⟨x0,x1,x2,x3⟩:=HX0.out.at_
 obtain⟨r0,r1,r2,r3,h0,h1,h2,h3⟩:∃r0 r1 r2 r3:Int,r0=(xs.getD (p 0) 0:Nat)∧r1=(xs.getD (p 1) 0:Nat)∧r2=(xs.getD (p 2) 0:Nat)∧r3=(xs.getD (p 3) 0:Nat):=⟨_,_,_,_,rfl,rfl,rfl,rfl⟩;rw[←h0,←h1,←h2,←h3];have HRE:=Hh (And.intro h0 (And.intro h1 (And.intro h2 h3)));clear h hx hb0 hN h0 h1 h2 h3;go_enter Tryz.func130,Tryz.ntmps130;go_upto_region 1 with fail
 rw[←hW0,←hB];clear hW0 hB;go_wp2_with fail;go_loopw [8,5,6] (fun z1 z2 z3 wr=>∃(k:Nat) (z:Nd) (u v:Value),z1=.int .i64 k∧u=z2∧v=z3∧k≤4∧zbD wr B z∧(∀j,j<4→z.kid j=if j<k then ((xs.getD (p j) 0:Nat):Int) else x.kid j)∧zbD wr (B+1) nd0∧Ris wr g xs∧Below B w wr) (fun z1 _ _ _=>4-(intOf z1).toNat)
 case atStart=>exact⟨0,x,_,_,rfl,rfl,rfl,Nat.zero_le _,HX0.out,fun j hj=>rfl,HY0.out,HR0.out,HB0.out⟩
 case round =>
  obtain⟨k,z,u,v,rfl,rfl,rfl,hk,hz,hzk,hy,hr,hb⟩:=hrel;have HZ:=Hh hz;have HZK:=Hh hzk;have HY:=Hh hy;have HR:=Hh hr;have HB:=Hh hb;clear hz hzk hy hr hb x0 x1 x2 x3;by_cases hlt:k<4
  ·have kw:IntKind.i64.wrap ((k:Int)+1)=(k:Int)+1:=IntWalk.i64_in _ (by omega);have t1:decide ((k:Int)<4)=true:=decide_eq_true (by omega);have hix:=HI.out k hlt;obtain⟨e1,e2⟩:=HX.out k hlt;rw[e1] at hix;obtain⟨q,hq⟩:∃q,q=p k:=⟨_,rfl⟩;rw[←hq] at hix e2;have c1:=HR.out.2 q (by rw[HNN.out];exact e2);have c2:=HZ.out.cell hlt;have f2:=HZ.out.free k;have i0:(0:Int)≤(q:Int):=by omega
   have i1:(q:Int)<(N:Int):=by omega
   have j0:(0:Int)≤(k:Int):=by omega
   have j1:(k:Int)<4:=by omega
   have HLT:=Hh hlt;have HQ:=Hh hq;clear hq hlt e1;go_wp2_with fail;go_roundw
   case rel =>
    refine⟨k+1,chK z k _,_,_,by go_num,rfl,rfl,HLT.out,HZ.out.setAt HLT.out _,fun j hj=>?_,HY.out.stay (Below.heap_setCell _ _ _ _ (by simp)),⟨?_,fun j hj=>?_⟩,HB.out.setCell (Nat.le_refl _) _⟩
    ·rw[zgG z HLT.out _ hj];by_cases h1:j=k
     ·subst h1;rw[if_pos rfl,if_pos (by omega),HQ.out]
      first|rfl|(rw[List.getD_eq_getElem?_getD])
     ·rw[if_neg h1,HZK.out j hj];by_cases h2:j<k
      ·rw[if_pos h2,if_pos (by omega)]
      ·rw[if_neg h2,if_neg (by omega)]
    ·exact Nat.lt_of_lt_of_le HR.out.1 (by simp)
    ·have h1:=HR.out.2 j hj;rw[←h1];exact World.cell?_of_block (Below.heap_setCell _ _ _ _ (show g≠B by omega))
   case measure=>have:=HLT.out;simp[intOf];omega
  ·obtain rfl:k=4:=by omega
   obtain⟨x0,x1,x2,x3⟩:=HZ.out.at_
   obtain⟨y0,y1,y2,y3⟩:=HY.out.at_
   have f0:=HY.out.free 0;have f1:=HY.out.free 1;have f2:=HY.out.free 2;have f3:=HY.out.free 3;have k0:z.a=_:=HZK.out 0 (by omega);have k1:z.b=_:=HZK.out 1 (by omega);have k2:z.c=_:=HZK.out 2 (by omega);have k3:z.d=_:=HZK.out 3 (by omega);rw[if_pos (by omega)] at k0 k1 k2 k3;rw[←HRE.out.1] at k0;rw[←HRE.out.2.1] at k1;rw[←HRE.out.2.2.1] at k2;rw[←HRE.out.2.2.2] at k3;have HK:=Hh (And.intro k0 (And.intro k1 (And.intro k2 k3)));clear k0 k1 k2 k3;go_wp2_with fail;have m0:=HY.out.setAt (k:=0) (by omega) z.a;have m1:=m0.setAt (k:=1) (by omega) z.b;have m2:=m1.setAt (k:=2) (by omega) z.c;have m3:=m2.setAt (k:=3) (by omega) z.d;obtain⟨W4,hW4⟩:∃W:World,W=((((wr.setCell ⟨B+1,0,none⟩ (.int .i64 z.a)).setCell ⟨B+1,1,none⟩ (.int .i64 z.b)).setCell ⟨B+1,2,none⟩ (.int .i64 z.c)).setCell ⟨B+1,3,none⟩ (.int .i64 z.d)):=⟨_,rfl⟩;rw[←hW4] at m3 ⊢;have hbw:Below B w W4:=by
    rw[hW4];exact(((HB.out.setCell (p:=⟨B+1,0,none⟩) (Nat.le_succ B) _).setCell (p:=⟨B+1,1,none⟩) (Nat.le_succ B) _).setCell (p:=⟨B+1,2,none⟩) (Nat.le_succ B) _).setCell (p:=⟨B+1,3,none⟩) (Nat.le_succ B) _
   obtain⟨q0,q1,q2,q3⟩:=m3.at_
   refine bodyPost_ret (v:=.agg #[.int .i64 z.a,.int .i64 z.b,.int .i64 z.c,.int .i64 z.d]) (by simp[results,Tryz.results130,go_sem,q0,q1,q2,q3,chK]) rfl ?_;exact⟨by rw[←HK.out.1,←HK.out.2.1,←HK.out.2.2.1,←HK.out.2.2.2],by rw[←HBE.out];exact hbw⟩
theorem zfc {l:List Nd}(hl:zaa l=true)(hn:l.length≤1000000){i k:Nat}(hi:i<l.length)(hk:k<4):0≤(Nds.at_ l i).kid k∧(Nds.at_ l i).kid k≤1000000∧(1<(Nds.at_ l i).lv→(Nds.at_ l i).kid k≤(i:Int)):=by
 have h:=zag (zaf.1 hl i hi) hk;unfold kidB at h;split at h
 ·have:=of_decide_eq_true h;exact⟨this.1,by omega,fun h1=>by omega⟩
 ·have h1:=of_decide_eq_true h;rw[List.length_take] at h1;exact⟨by omega,by omega,fun _=>by omega⟩
theorem zaY {l:List Nd}(hl:zaa l=true){i:Nat}(hi:i<l.length):1≤(Nds.at_ l i).lv∧(Nds.at_ l i).lv≤1329:=zao (zaf.1 hl i hi)
theorem zhF {l:List Nd}(hl:zaa l=true)(hn:l.length≤1000000){v:Int}{i:Nat}(hi:i<l.length):(zbd l v i).length≤72:=by
 have hv:=zaY hl hi;unfold zbd;split
 ·have:=zml (v:=(Nds.at_ l i).lv.toNat) (f:=fun k=>numL l v ((Nds.at_ l i).kid k).toNat) (by omega) (fun j hj=>by
   have h1:=zmd l v ((Nds.at_ l i).kid j).toNat;have h2:=zfc hl hn hi hj;show numL l v ((Nds.at_ l i).kid j).toNat≤1000000;omega)
  omega
 ·split
  ·exact zmc _ _
  ·have:=zml (v:=(Nds.at_ l i).lv.toNat) (f:=fun k=>((Nds.at_ l i).kid k).toNat) (by omega) (fun j hj=>by
    have h2:=zfc hl hn hi hj;show((Nds.at_ l i).kid j).toNat≤1000000;omega)
   omega
theorem ziq {l:List Nd}(hl:zaa l=true)(hn:l.length≤1000000){v:Int}:∀k,k≤l.length→(lnT (zai l v k)).length≤73*k
 | 0,_=>Nat.le_refl _
 | k+1,hk=>by
  have ih:=ziq hl hn (v:=v) k (by omega);unfold zai;split
  ·omega
  ·rw[zer,List.length_append,List.length_append];have:=zhF hl hn (v:=v) (i:=k) (by omega);simp only[List.length_cons,List.length_nil];omega
theorem zph {L:List (List UInt8)}(h:lnT L=[]):L=[]:=by
 cases L with
 | nil=>rfl
 | cons r t =>
  unfold lnT at h;simp at h
theorem OwnD.keep {w w':World}{base g n:Nat}{ds:List Nat}(h:OwnD w base g n ds)(hb:w'.heap[g]?=w.heap[g]?):OwnD w' base g n ds:=by
 refine⟨h.1,h.2.1,?_⟩;rcases h.2.2 with h2|⟨g2,cap,cur,hv,r1,r2,r3⟩
 ·exact .inl h2
 ·cases hv;exact .inr ⟨_,_,cur,rfl,r1,hb.trans r2,r3⟩
theorem OwnD.ke {w w':World}{base g n b:Nat}{ds:List Nat}(h:OwnD w base g n ds)(k:Ke b w w')(hg:g≠b):OwnD w' base g n ds:=by
 refine h.keep ?_;rcases h.2.2 with h2|⟨g2,cap,cur,hv,r1,r2,r3⟩
 ·cases h2.1
 ·cases hv;rw[r2];exact k.2 g _ r2 (by simpa using hg) (fun c fz e=>by cases e)
theorem OwnD.ris {w:World}{base g n:Nat}{ds:List Nat}(h:OwnD w base g n ds):Ris w g ds:=⟨h.lt.2,fun j hj=>h.cell (by rw[←h.1];exact hj)⟩
theorem zau.ke {w w':World}{g b:Nat}{x:Nd}(h:zau w g x)(k:Ke b w w')(hg:g≠b):zau w' g x:=k.2 g _ h (by simpa using hg) (fun c fz e=>by cases e)
theorem zfS {w w':World}(h:w.grownBy w' none):Below w.heap.size w w':=(Below.refl _ _).grown h (Nat.le_refl _) (fun k hk=>by cases hk)
theorem Wb.store {b:Nat}{bs:List Value}{w:World}(h:Wb b bs w){g:Nat}(hg:g≠b){c:Array Value}{fz:Nat × Nat}(hr:w.heap[g]?=some (.cells c 3 fz))(k:Nat)(u:Value):Wb b bs (w.setCell ⟨g,k,none⟩ u):=by
 have key:∀p,WbA b p bs w→WbA b p bs (w.setCell ⟨g,k,none⟩ u):=fun p ⟨h1,v,hb,ho,hne⟩=>by
  refine⟨h1,v,(Below.heap_setCell _ _ _ _ (fun e=>hg e.symm)).trans hb,⟨ho.1,?_⟩,hne⟩;rcases ho.2 with h2|⟨g2,cap,cur,fz2,hv,r1,r2,r3⟩
  ·exact .inl h2
  ·refine .inr ⟨g2,cap,cur,fz2,hv,r1,(Below.heap_setCell _ _ _ _ (fun e=>?_)).trans r2,r3⟩;subst e;rw[r2] at hr;cases hr
 rcases h with h|h
 ·exact .inl (key _ h)
 ·exact .inr (key _ h)
theorem OwnD.row {w:World}{base g n:Nat}{ds:List Nat}(h:OwnD w base g n ds):∃c fz,w.heap[g]?=some (.cells c 3 fz):=by
 rcases h.2.2 with h2|⟨g2,cap,cur,hv,r1,r2,r3⟩
 ·cases h2.1
 ·cases hv;exact⟨_,_,r2⟩
theorem znC (b:Nat)(w:World)(h:w.heap[b]?=some (.cells #[.pointer none,.slice none 0 0] 85)) :
  Calls Tryz.prog 54 #[.pointer (some ⟨b,0,none⟩)] w fun e w'=>e=.returned (.string ⟨#[]⟩)∧Below b w w':=by
 have c1:w.drew.cell? ⟨b,1,none⟩=some (.slice none 0 0):=by
  rw[show w.drew.cell? ⟨b,1,none⟩=w.cell? ⟨b,1,none⟩ from rfl,cell_of_row w b _ _ _ (0,0) h];rfl
 have hSD:(Builtin.unsafeSliceData_ #[83] 143 #[.slice none 0 0]).run Tryz.prog w.drew=.ok (.pointer none) w.drew:=by kernel_rfl
 have hUS:(Builtin.unsafeString_ #[143,3] 9 #[.pointer none,.int .i64 0]).run Tryz.prog w.drew=.ok (.string ⟨#[]⟩) w.drew:=by kernel_rfl
 have mixed:Tryz.prog.follows .mixedOrders=true:=by kernel_rfl
 go_enter Tryz.func54,Tryz.ntmps54;go_wp2;go_region_o
 all_goals (go_wp2;go_ret;exact⟨rfl,Below.drew (Below.refl b w)⟩)
structure Lq (w0 W:World)(b g nb N:Nat)(x:Nd)(T:List UInt8)(ds:List Nat):Prop where
 below:Below b w0 W
 size:b≤W.heap.size
 text:Wb b (byteCells T) W
 nums:OwnD W (b+1) g (N+1) ds
 box:zau W nb x
 nbb:nb≠b
 gb:g≠b
theorem Lq.next {w0 W W':World}{b g nb N:Nat}{x:Nd}{T:List UInt8}{ds:List Nat}(h:Lq w0 W b g nb N x T ds)(k:Below W.heap.size W W'):Lq w0 W' b g nb N x T ds :=
 ⟨h.below.trans (k.mono h.size),Nat.le_trans h.size k.size,h.text.next k,h.nums.keep (k.block g h.nums.lt.2),h.box.stay (k.block nb h.box.lt),h.nbb,h.gb⟩
theorem Lq.wrote {w0 W W':World}{b g nb N:Nat}{x:Nd}{T T':List UInt8}{ds:List Nat}(h:Lq w0 W b g nb N x T ds)(t:Wb b (byteCells T') W')(k:Ke b W W'):Lq w0 W' b g nb N x T' ds :=
 ⟨h.below.trans k.1,Nat.le_trans h.size k.1.size,t,h.nums.ke k h.gb,h.box.ke k h.nbb,h.nbb,h.gb⟩
theorem Lq.drew {w0 W:World}{b g nb N:Nat}{x:Nd}{T:List UInt8}{ds:List Nat}(h:Lq w0 W b g nb N x T ds):Lq w0 W.drew b g nb N x T ds:=h.next (Below.refl _ _).drew
structure LnP (w0 wr:World)(A:Option Addr)(c N:Nat)(l:List Nd)(v:Int)(b g k:Nat):Prop where
 below:Below b w0 wr
 text:Wb b (byteCells (lnT (zai l v k))) wr
 nums:OwnD wr (b+1) g (N+1) (zbY l v N k)
 none:zai l v k=[]→wr.heap[b]?=some (.cells #[.pointer none,.slice none 0 0] 85)
theorem zmm (A:Option Addr)(c N:Nat)(l:List Nd)(v:Int)(w:World)(h:Ns w A c l)(hN:l.length=N)(hN9:N≤1000000)(hl:zaa l=true)(hv:v=1∨v=3)(T:TabP w) :
  Calls Tryz.prog 83 #[.slice A N c,.int .i64 v] w fun e w'=>e=.returned (.string ⟨(lnT (zai l v N)).toArray⟩)∧Below w.heap.size w w':=by
 have hcap:=h.cap;rw[hN] at hcap;have HH:=Hh h;have HN:=Hh hN;have HL:=Hh hl;have HT:=Hh T;have HV:=Hh hv;have HLL:=Hh (ziq hl (by omega) (v:=v));obtain⟨i0,hi,hz0,hz1,hz2⟩:=info_parts Tryz.infoI;have HI:=Hh (And.intro hi (And.intro hz0 (And.intro hz1 hz2)));have S0:=Hh (Wb.fresh w);obtain⟨b,hb⟩:∃b,b=w.heap.size:=⟨_,rfl⟩;rw[←hb] at S0;have HG:=Hh hb;obtain⟨W1,hW1⟩:∃W:World,W=w.alloc (.cells #[.pointer none,.slice none 0 0] 85):=⟨_,rfl⟩;rw[←hW1] at S0;have HF0:=Hh (show W1.heap[b]?=some (.cells #[.pointer none,.slice none 0 0] 85) by rw[hW1,hb];exact heap_alloc_new w _);have B0:=Hh (show Below b w W1 by rw[hW1,hb];exact(Below.refl _ _).alloc (Nat.le_refl _) _);have HZ1:=Hh (show W1.heap.size=b+1 by rw[hW1,World.size_alloc,hb]);obtain⟨R,hR⟩:∃R,R=lnT (zai l v N):=⟨_,rfl⟩;rw[←hR];have HR:=Hh hR;have kN:IntKind.i64.wrap ((N:Int)+1)=(N:Int)+1:=IntWalk.i64_in _ (by omega);clear h hN hl hv T hi hz0 hz1 hz2 hR;go_enter Tryz.func83,Tryz.ntmps83;go_upto_region 2 with fail
 rw[←hb,←hW1];clear hb hW1;go_wp2_with (at_make;go_loud (refine wpList_make_full _ rfl _ _ 99 rfl (b+1) 3 i0 _ 1 Tryz.underlying99 HI.out.1 HI.out.2.1 HI.out.2.2.1 .i64 .i64 _ _ (N+1) rfl rfl (by omega) (by omega) (by rw[HI.out.2.2.2];omega) (by unfold maxLen;omega) (by rw[HZ1.out];exact Nat.le_refl _) ?_;intro W2 hown hgrow));obtain⟨g,hg⟩:∃g,g=W1.heap.size:=⟨_,rfl⟩;rw[←hg] at hown ⊢;have HGB:=Hh (show g=b+1 by rw[hg];exact HZ1.out);have hb2:Below b w W2:=B0.out.grown hgrow (by rw[HZ1.out];omega) (fun k hk=>by cases hk);have HL0:=Hh (show LnP w W2 A c N l v b g 0 from⟨hb2,S0.out.next (zfS hgrow),by rw[zki];exact OwnD.made hown,fun _=>((zfS hgrow).block b (by rw[HZ1.out];omega)).trans HF0.out⟩);clear hg hown hgrow hb2;go_wp2_with fail;go_loopw [16,7,8,9] (fun z1 z2 z3 z4 wr=>∃(k:Nat) (v3 v4:Value),z1=.int .i64 k∧z2=.int .i64 ((cntL l v k:Nat):Int)∧v3=z3∧v4=z4∧k≤N∧LnP w wr A c N l v b g k) (fun z1 _ _ _ _=>N-(intOf z1).toNat)
 case atStart=>exact⟨0,_,_,rfl,rfl,rfl,rfl,Nat.zero_le _,HL0.out⟩
 case round =>
  obtain⟨k,v3,v4,rfl,rfl,rfl,rfl,hk,hp⟩:=hrel;have HP:=Hh hp;clear hp;obtain⟨ct,hct⟩:∃ct,ct=cntL l v k:=⟨_,rfl⟩;have hct9:ct≤k:=by rw[hct];exact zfa l v k
  rw[←hct];have HC:=Hh hct;have HTX:=Hh (HLL.out k (by rw[HN.out];exact hk));clear hct;by_cases hlt:k<N
  ·have kw:IntKind.i64.wrap ((k:Int)+1)=(k:Int)+1:=IntWalk.i64_in _ (by omega);have cw:IntKind.i64.wrap ((ct:Int)+1)=(ct:Int)+1:=IntWalk.i64_in _ (by omega);have t1:decide ((k:Int)<(N:Int))=true:=decide_eq_true (by omega);have i1:(k:Int)<(N:Int):=by omega
   have i2:(0:Int)≤(k:Int)+1:=by omega
   have i3:(k:Int)+1<(N:Int)+1:=by omega
   have hkl:k<l.length:=by rw[HN.out];exact hlt
   have HKL:=Hh hkl;obtain⟨bl,off,rfl,hbl,hcl⟩:=HH.out.at_ (by omega)
   rw[←HG.out] at hbl;obtain⟨c1,c2,c3,c4,c5⟩:=(hcl k hkl).below (HP.out.below.block bl hbl);have HBL:=Hh hbl;obtain⟨x,hx⟩:∃x,x=Nds.at_ l k:=⟨_,rfl⟩
   have hlv:=zaY HL.out hkl;rw[←hx] at c1 c2 c3 c4 c5 hlv;have HX:=Hh hx;obtain⟨nb,hnb⟩:∃nb,nb=wr.heap.size:=⟨_,rfl⟩;obtain⟨Wn,hWn⟩:∃W:World,W=wr.alloc (.cells #[.int .i64 x.lv,.int .i64 x.a,.int .i64 x.b,.int .i64 x.c,.int .i64 x.d] 70):=⟨_,rfl⟩;have hal:Below wr.heap.size wr Wn:=by rw[hWn];exact(Below.refl _ _).alloc (Nat.le_refl _) _
   have hbs:b≤wr.heap.size:=by have h1:=HP.out.below.size;rw[←HG.out] at h1;exact h1
   have HPn:=Hh (show LnP w Wn (some ⟨bl,off,none⟩) c N l v b g k from⟨HP.out.below.trans (hal.mono hbs),HP.out.text.next hal,HP.out.nums.keep (hal.block g HP.out.nums.lt.2),fun e=>(hal.block b (by have:=HP.out.nums.lt;omega)).trans (HP.out.none e)⟩);have HBn:=Hh (show zau Wn nb x by rw[hWn,hnb];exact zau.new wr x);have HNn:=Hh (show Ns Wn (some ⟨bl,off,none⟩) c l from HH.out.belowB (B:=b) (fun a e=>by cases e;exact hbl) HPn.out.below);have HNB:=Hh (show nb≠b by have:=HP.out.nums.lt;rw[hnb];omega);have HNG:=Hh (show nb≠g by have:=HP.out.nums.lt;rw[hnb];omega);have HSZ:=Hh (show b≤Wn.heap.size from Nat.le_trans hbs hal.size);clear hx hcl hbl hkl hal hbs hlt;go_upto_region 7 with fail
   rw[←hnb,←hWn];clear hnb hWn c1 c2 c3 c4 c5 HP;obtain⟨d0,d1,d2,d3,d4⟩:=HBn.out.at_
   by_cases hs:x.lv<v
   ·have t2:decide (x.lv<v)=true:=decide_eq_true hs;have HSK:=Hh (show(Nds.at_ l k).lv<v by rw[←HX.out];exact hs);clear hs;go_wp2_with fail;go_roundw
    case rel=>exact⟨k+1,_,_,by go_num,by rw[HC.out,show cntL l v (k+1)=cntL l v k from if_pos HSK.out],rfl,rfl,by have:=HKL.out;have:=HN.out;omega,⟨HPn.out.below,by rw[show zai l v (k+1)=zai l v k from if_pos HSK.out];exact HPn.out.text,by rw[zkj HSK.out];exact HPn.out.nums,fun e=>HPn.out.none (by rwa [show zai l v (k+1)=zai l v k from if_pos HSK.out] at e)⟩⟩
    case measure=>have:=HKL.out;have:=HN.out;simp[intOf];omega
   ·have t2:decide (x.lv<v)=false:=decide_eq_false hs;have HSK:=Hh (show ¬ (Nds.at_ l k).lv<v by rw[←HX.out];exact hs);have o1:=HPn.out.nums.cell (k:=k+1) (by omega);have o2:=HPn.out.nums.free (k+1);have hgb:g≠b:=by rw[HGB.out];omega
    obtain⟨Ws,hWs⟩:∃W:World,W=Wn.setCell ⟨g,k+1,none⟩ (.int .i64 ((ct:Int)+1)):=⟨_,rfl⟩;have hblk:∀j,j≠g→Ws.heap[j]?=Wn.heap[j]?:=fun j hj=>by rw[hWs];exact Below.heap_setCell _ _ _ _ hj
    have hgB:b+1≤g:=HPn.out.nums.lt.1;have hbw:Below g Wn Ws:=by rw[hWs];exact(Below.refl g Wn).setCell (p:=⟨g,k+1,none⟩) (Nat.le_refl g) _
    have HQ:=Hh (show Lq w Ws b g nb N x (lnT (zai l v k)) (zbY l v N (k+1)) from⟨HPn.out.below.trans (hbw.mono (by omega)),Nat.le_trans HSZ.out hbw.size,by rw[hWs];obtain⟨cc,ff,hr⟩:=HPn.out.nums.row;exact HPn.out.text.store hgb hr _ _,by rw[zmf HSK.out,←HC.out,hWs];exact HPn.out.nums.set (k+1) (ct+1),HBn.out.stay (hblk nb HNG.out),HNB.out,hgb⟩);have HNs:=Hh (show Ns Ws (some ⟨bl,off,none⟩) c l from HH.out.belowB (B:=b) (fun a e=>by cases e;exact HBL.out) HQ.out.below);go_upto_region 11 with fail
    rw[←hWs];have HLN:=Hh (show cntL l v (k+1)=ct+1 by rw[HC.out];exact if_neg HSK.out);have HLS:=Hh (show zai l v (k+1)=zai l v k++[zbd l v k] from if_neg HSK.out);have HKX:=Hh (show ∀j,j<4→x.kid j=(((x.kid j).toNat:Nat):Int)∧(x.kid j).toNat≤1000000∧(1<x.lv→(x.kid j).toNat<k+1) from fun j hj=>by
     have h1:=zfc HL.out (by rw[HN.out];exact hN9) HKL.out hj;rw[←HX.out] at h1;exact⟨by omega,by omega,fun h2=>by have:=h1.2.2 h2;omega⟩)
    have HLL2:=Hh (zhF HL.out (by rw[HN.out];exact hN9) (v:=v) HKL.out);clear hWs hblk hbw o1 o2 d0 d1 d2 d3 d4 hgb hgB;obtain⟨lvn,hlvn⟩:∃m:Nat,x.lv=(m:Int):=⟨x.lv.toNat,by omega⟩;have HLV:=Hh hlvn;have hl9:lvn≤1329:=by omega
    have HFIN:=Hh (show ∀W:World,Lq w W b g nb N x (lnT (zai l v (k+1))) (zbY l v N (k+1))→LnP w W (some ⟨bl,off,none⟩) c N l v b g (k+1) from fun W h1=>⟨h1.below,h1.text,h1.nums,fun e=>by rw[HLS.out] at e;simp at e⟩);by_cases hg:x.lv>v
    ·have t3:decide (x.lv>v)=true:=decide_eq_true hg;have t4:decide (v<x.lv)=true:=t3;have HLE:=Hh (show zbd l v k=brT lvn (fun j=>numL l v (x.kid j).toNat) by
      unfold zbd;rw[←HX.out,if_pos hg,hlvn];rfl)
     have HLV1:=Hh (show 1<x.lv by have h9:=HV.out;omega);clear hg hs hlvn;obtain⟨d0,d1,d2,d3,d4⟩:=HQ.out.box.at_
     go_wp2_with fail;have HQd:=Hh HQ.out.drew;clear d0 d1 d2 d3 d4;obtain⟨d0,d1,d2,d3,d4⟩:=HQd.out.box.at_
     rw[HLV.out] at d0;obtain⟨f,hf⟩:∃f:Nat→Nat,f=fun j=>(zbY l v N (k+1)).getD (x.kid j).toNat 0:=⟨_,rfl⟩;have HRN:=Hh (show ∀W:World,Ris W g (zbY l v N (k+1))→Calls Tryz.prog 130 #[.agg #[.int .i64 x.a,.int .i64 x.b,.int .i64 x.c,.int .i64 x.d],.slice (some ⟨g,0,none⟩) (N+1) (N+1)] W fun e w'=>e=.returned (.agg #[.int .i64 (f 0:Nat),.int .i64 (f 1:Nat),.int .i64 (f 2:Nat),.int .i64 (f 3:Nat)])∧Below W.heap.size W w' from fun W h=>by
      rw[hf];exact zkl x (fun j=>(x.kid j).toNat) (zbY l v N (k+1)) g (N+1) W h (zdD _ _ _ _) (by omega) (fun j hj=>⟨(HKX.out j hj).1,by have h1:=(HKX.out j hj).2.2 HLV1.out;have:=HKL.out;have:=HN.out;show(x.kid j).toNat<N+1;omega⟩))
     have hfe:∀j,j<4→f j=numL l v (x.kid j).toNat:=fun j hj=>by
      rw[hf];have h1:=(HKX.out j hj).2.2 HLV1.out;show(zbY l v N (k+1)).getD (x.kid j).toNat 0=_;rw[zme (by have:=HKL.out;have:=HN.out;omega),if_pos (by omega)]
     have HFN:=Hh (show ∀j,j<4→f j≤1000000 from fun j hj=>by
      rw[hfe j hj];have h1:=zmd l v (x.kid j).toNat;have h2:=(HKX.out j hj).2.1;omega)
     have HLB:=Hh (show zbd l v k=brT lvn f by
      rw[HLE.out];unfold brT;rw[hfe 0 (by omega),hfe 1 (by omega),hfe 2 (by omega),hfe 3 (by omega)])
     obtain⟨sb,hsb⟩:∃s:ByteArray,s=⟨(brT lvn f).toArray⟩:=⟨_,rfl⟩;have HSB:=Hh hsb;have HSD:=Hh (show sb.data.toList=zbd l v k by rw[hsb,HLB.out]);have HSS:=Hh (show sb.size≤72 by rw[←zcr,HSD.out];exact HLL2.out);clear hf hsb hfe;go_region_held3 (fun w'=>w'.cell? ⟨nb,0,none⟩=some (.int .i64 (lvn:Int))∧w'.cell? ⟨nb,1,none⟩=some (.int .i64 x.a)∧w'.cell? ⟨nb,2,none⟩=some (.int .i64 x.b)∧w'.cell? ⟨nb,3,none⟩=some (.int .i64 x.c)∧w'.cell? ⟨nb,4,none⟩=some (.int .i64 x.d))
      (first|go_keep|exact⟨d0,d1,d2,d3,d4⟩)
      (first
       | (go_at_call 130;go_loud (refine(HRN.out _ HQd.out.nums.ris).mono ?_;rintro e w4 ⟨rfl,b4⟩;have HQ4:=Hh (HQd.out.next b4);clear b4 d0 d1 d2 d3 d4;obtain⟨d0,d1,d2,d3,d4⟩:=HQ4.out.box.at_;rw[HLV.out] at d0))
       | (go_at_call 129;go_loud (refine(zfb lvn f _ (zat HT.out (by rw[←HG.out];exact HQ4.out.below)) (by omega) HFN.out).mono ?_;rintro e w5 ⟨rfl,b5⟩;rw[←HSB.out];have HQ5:=Hh (HQ4.out.next b5);clear b5 d0 d1 d2 d3 d4;obtain⟨d0,d1,d2,d3,d4⟩:=HQ5.out.box.at_;rw[HLV.out] at d0))
       | (go_at_call 87;go_loud (refine(zeo b _ sb _ HQ5.out.text (by have:=HTX.out;have:=HSS.out;omega) HQ5.out.size).mono ?_;rintro e w6 ⟨rfl,h6,k6⟩;rw[HSD.out] at h6;have HQ6:=Hh (HQ5.out.wrote h6 k6);clear h6 k6 d0 d1 d2 d3 d4;obtain⟨d0,d1,d2,d3,d4⟩:=HQ6.out.box.at_;rw[HLV.out] at d0)))
     all_goals (
      go_wp2_with (go_at_call 89;go_loud (refine(zgO b _ 10 _ HQ6.out.text (by rw[List.length_append];have:=HTX.out;have:=HLL2.out;omega) HQ6.out.size).mono ?_;rintro e w7 ⟨rfl,h7,k7⟩;rw[←zer,←HLS.out] at h7;have HQ7:=Hh (HQ6.out.wrote h7 k7);clear h7 k7));go_roundw
      case rel=>exact⟨k+1,_,_,by go_num,by rw[HLN.out];rfl,rfl,rfl,by have:=HKL.out;have:=HN.out;omega,HFIN.out _ HQ7.out⟩
      case measure=>have:=HKL.out;have:=HN.out;simp[intOf];omega)
    ·have t3:decide (x.lv>v)=false:=decide_eq_false hg;have t4:decide (v<x.lv)=false:=t3;have HVX:=Hh (show x.lv=v by omega);obtain⟨d0,d1,d2,d3,d4⟩:=HQ.out.box.at_
     by_cases h3:v=3
     ·have t5:(v==3)=true:=beq_iff_eq.2 h3;have HLE:=Hh (show zbd l v k=zcl l ((k:Int)+1) by
       unfold zbd;rw[←HX.out,if_neg hg,if_pos h3])
      have HKB:=Hh (show kidB l 4 ((k:Int)+1)=true by
       rw[zbx l 4 k (by omega) HKL.out,←HX.out];exact decide_eq_true (by omega))
      obtain⟨sb,hsb⟩:∃s:ByteArray,s=⟨(zcl l ((k:Int)+1)).toArray⟩:=⟨_,rfl⟩;have HSB:=Hh hsb;have HSD:=Hh (show sb.data.toList=zbd l v k by rw[hsb,HLE.out]);have HSS:=Hh (show sb.size≤72 by rw[←zcr,HSD.out];exact HLL2.out);clear hg hs hlvn h3 hsb;go_wp2_with (first
       | (go_at_call 43;go_loud (refine(zhD _ c N l _ _ HNs.out HN.out hN9 HL.out HKB.out).mono ?_;rintro e w5 ⟨rfl,b5⟩;rw[←HSB.out];have HQ5:=Hh (HQ.out.next b5);clear b5 d0 d1 d2 d3 d4))
       | (go_at_call 87;go_loud (refine(zeo b _ sb _ HQ5.out.text (by have:=HTX.out;have:=HSS.out;omega) HQ5.out.size).mono ?_;rintro e w6 ⟨rfl,h6,k6⟩;rw[HSD.out] at h6;have HQ6:=Hh (HQ5.out.wrote h6 k6);clear h6 k6))
       | (go_at_call 89;go_loud (refine(zgO b _ 10 _ HQ6.out.text (by rw[List.length_append];have:=HTX.out;have:=HLL2.out;omega) HQ6.out.size).mono ?_;rintro e w7 ⟨rfl,h7,k7⟩;rw[←zer,←HLS.out] at h7;have HQ7:=Hh (HQ6.out.wrote h7 k7);clear h7 k7)))
      go_roundw
      case rel=>exact⟨k+1,_,_,by go_num,by rw[HLN.out];rfl,rfl,rfl,by have:=HKL.out;have:=HN.out;omega,HFIN.out _ HQ7.out⟩
      case measure=>have:=HKL.out;have:=HN.out;simp[intOf];omega
     ·have t5:(v==3)=false:=beq_eq_false_iff_ne.2 h3;obtain⟨f,hf⟩:∃f:Nat→Nat,f=fun j=>(x.kid j).toNat:=⟨_,rfl⟩;have HLE:=Hh (show zbd l v k=brT lvn f by
       unfold zbd;rw[←HX.out,if_neg hg,if_neg h3,hlvn,hf];rfl)
      have HFN:=Hh (show ∀j,j<4→f j≤1000000 from fun j hj=>by
       rw[hf];exact(HKX.out j hj).2.1)
      have q0:x.a=(f 0:Int):=by rw[hf];exact(HKX.out 0 (by omega)).1
      have q1:x.b=(f 1:Int):=by rw[hf];exact(HKX.out 1 (by omega)).1
      have q2:x.c=(f 2:Int):=by rw[hf];exact(HKX.out 2 (by omega)).1
      have q3:x.d=(f 3:Int):=by rw[hf];exact(HKX.out 3 (by omega)).1
      have HBR:=Hh (show ∀W:World,TabP W→Calls Tryz.prog 129 #[.int .i64 x.lv,.agg #[.int .i64 x.a,.int .i64 x.b,.int .i64 x.c,.int .i64 x.d]] W fun e w'=>e=.returned (.string ⟨(brT lvn f).toArray⟩)∧Below W.heap.size W w' from fun W h=>by
       rw[q0,q1,q2,q3,hlvn];exact zfb lvn f W h (by omega) HFN.out)
      obtain⟨sb,hsb⟩:∃s:ByteArray,s=⟨(brT lvn f).toArray⟩:=⟨_,rfl⟩;have HSB:=Hh hsb;have HSD:=Hh (show sb.data.toList=zbd l v k by rw[hsb,HLE.out]);have HSS:=Hh (show sb.size≤72 by rw[←zcr,HSD.out];exact HLL2.out);clear hg hs hlvn h3 hf hsb q0 q1 q2 q3;go_wp2_with (first
       | (go_at_call 129;go_loud (refine(HBR.out _ (zat HT.out (by rw[←HG.out];exact HQ.out.below))).mono ?_;rintro e w5 ⟨rfl,b5⟩;rw[←HSB.out];have HQ5:=Hh (HQ.out.next b5);clear b5 d0 d1 d2 d3 d4))
       | (go_at_call 87;go_loud (refine(zeo b _ sb _ HQ5.out.text (by have:=HTX.out;have:=HSS.out;omega) HQ5.out.size).mono ?_;rintro e w6 ⟨rfl,h6,k6⟩;rw[HSD.out] at h6;have HQ6:=Hh (HQ5.out.wrote h6 k6);clear h6 k6))
       | (go_at_call 89;go_loud (refine(zgO b _ 10 _ HQ6.out.text (by rw[List.length_append];have:=HTX.out;have:=HLL2.out;omega) HQ6.out.size).mono ?_;rintro e w7 ⟨rfl,h7,k7⟩;rw[←zer,←HLS.out] at h7;have HQ7:=Hh (HQ6.out.wrote h7 k7);clear h7 k7)))
      go_roundw
      case rel=>exact⟨k+1,_,_,by go_num,by rw[HLN.out];rfl,rfl,rfl,by have:=HKL.out;have:=HN.out;omega,HFIN.out _ HQ7.out⟩
      case measure=>have:=HKL.out;have:=HN.out;simp[intOf];omega
  ·obtain rfl:k=N:=by omega
   have t9:decide ((k:Int)<(k:Int))=false:=decide_eq_false (by omega);by_cases h0:lnT (zai l v k)=[]
   ·have HE:=Hh h0;have hf:=HP.out.none (zph h0);clear h0;go_wp2_with (go_at_call 54;go_loud (refine(znC b _ hf).mono ?_;rintro e w6 ⟨rfl,b6⟩;have B6:=Hh (HP.out.below.trans b6);clear b6));go_ret;exact⟨by rw[HR.out,HE.out];rfl,by rw[←HG.out];exact B6.out⟩
   ·go_wp2_with (go_at_call 54;go_loud (refine(zio b _ _ HP.out.text h0).mono ?_;rintro e w6 ⟨rfl,b6⟩;have B6:=Hh (HP.out.below.trans b6);clear b6));go_ret;exact⟨by rw[HR.out];rfl,by rw[←HG.out];exact B6.out⟩
def LQ (q:List Nd):List Nd:=if zaq q≤1 then zaP 3 q else q
def VQ (q:List Nd):Int:=if zaq q≤1 then 3 else 1
theorem zgR (q:List Nd):zbb q=zai (LQ q) (VQ q) (LQ q).length:=by
 unfold zbb LQ VQ;split <;> rfl
theorem zqt (q:List Nd):VQ q=1∨VQ q=3:=by
 unfold VQ;split
 ·exact .inr rfl
 ·exact .inl rfl
theorem zhG {q:List Nd}(hl:zaa q=true):zaq q%256=zaq q:=Int.emod_eq_of_lt (zeY q) (by have:=znw hl;omega)
theorem zpi {q:List Nd}(hl:zaa q=true):zaa (zaP 3 q)=true∧(zaP 3 q).length≤q.length+10:=by
 unfold zaP;by_cases h0:q.length=0
 ·rw[if_pos h0];exact⟨rfl,Nat.zero_le _⟩
 ·rw[if_neg h0];have h1:=zaY hl (i:=q.length-1) (by omega);obtain⟨m,hm⟩:∃m:Nat,(Nds.at_ q (q.length-1)).lv=(m:Int)+1:=⟨(Nds.at_ q (q.length-1)).lv.toNat-1,by omega⟩;obtain⟨g1,g2⟩:=zdA (3-(Nds.at_ q (q.length-1)).lv.toNat) hl (by omega) hm (by omega);exact⟨g1.loose,by omega⟩
theorem zgS {q:List Nd}(hl:zaa q=true):zaa (LQ q)=true∧(LQ q).length≤q.length+10:=by
 unfold LQ;split
 ·exact zpi hl
 ·exact⟨hl,by omega⟩
def znD (q:List Nd)(w:World)(e:Ending)(w':World):Prop:=∃A c,e=.returned (.tuple #[.slice A (LQ q).length c,.int .i64 (VQ q)])∧Ns w' A c (LQ q)∧Below w.heap.size w w'
theorem zfT (A:Option Addr)(c n:Nat)(q:List Nd)(w:World)(h:Ns w A c q)(hn:q.length=n)(hn9:n≤800000)(hl:zaa q=true)(hA:A=none→c=0) :
  Calls Tryz.prog 84 #[.agg #[.slice A n c]] w (znD q w):=by
 have hb:=(Below.refl w.heap.size w).alloc (Nat.le_refl _) (.cells #[.slice A n c] 28);have hm:=zhG hl;have hbx:=zjo (heap_alloc_new w (.cells #[.slice A n c] 28));obtain⟨gb,hgb⟩:∃g,g=w.heap.size:=⟨_,rfl⟩;obtain⟨W0,hW0⟩:∃W:World,W=w.alloc (.cells #[.slice A n c] 28):=⟨_,rfl⟩;rw[←hgb,←hW0] at hbx;rw[←hW0] at hb;have HB:=Hh hb;have HW:=Hh (h.below hb);have HN:=Hh hn;have HL:=Hh hl;have HA:=Hh hA;have HM:=Hh hm;have HBX:=Hh (show ∀W:World,Below W0.heap.size W0 W→W.cell? ⟨gb,0,none⟩=some (.slice A n c) from fun W k=>(k.cell (p:=⟨gb,0,none⟩) (by rw[hW0,World.size_alloc,hgb];exact Nat.lt_succ_self _)).trans hbx);unfold znD;by_cases h1:zaq q≤1
 ·have e1:LQ q=zaP 3 q:=if_pos h1;have e2:VQ q=3:=if_pos h1;have t1:decide (zaq q>1)=false:=decide_eq_false (by omega);have t2:decide (1<zaq q)=false:=t1;rw[e1,e2];obtain⟨M,hM⟩:∃M,M=zaq q:=⟨_,rfl⟩;rw[←hM] at t1 t2;have HMM:=Hh hM;clear h hn hl hA hm h1 e1 e2 hM hb;go_enter Tryz.func84,Tryz.ntmps84;go_upto_region 1 with fail
  rw[←hgb,←hW0];clear hgb hW0;go_wp2_with (first
   | (go_at_call 131;go_loud (refine(zlH A c n q _ HW.out HN.out).mono ?_;rintro e w1 ⟨rfl,b1⟩;rw[HM.out,←HMM.out];have HB1:=Hh b1;have hbx:=HBX.out _ b1;clear b1))
   | (go_at_call 132;go_loud (refine(zoS A c n 3 q _ (HW.out.below HB1.out) HN.out hn9 HL.out (by omega) HA.out).mono ?_;rintro e w2 ⟨v,rfl,o2,b2⟩;obtain⟨A2,c2,rfl,n2,-⟩:=o2.shape;have HN2:=Hh n2;have HB2:=Hh (HB.out.trans ((HB1.out.trans (b2.mono HB1.out.size)).mono HB.out.size));clear o2 n2 b2)))
  go_ret2;exact⟨_,_,rfl,HN2.out,HB2.out⟩
 ·have e1:LQ q=q:=if_neg h1;have e2:VQ q=1:=if_neg h1;have t1:decide (zaq q>1)=true:=decide_eq_true (by omega);have t2:decide (1<zaq q)=true:=t1;rw[e1,e2,hn];obtain⟨M,hM⟩:∃M,M=zaq q:=⟨_,rfl⟩;rw[←hM] at t1 t2;have HMM:=Hh hM;clear h hn hl hA hm h1 e1 e2 hM hb;go_enter Tryz.func84,Tryz.ntmps84;go_upto_region 1 with fail
  rw[←hgb,←hW0];clear hgb hW0;go_wp2_with (go_at_call 131;go_loud (refine(zlH A c n q _ HW.out HN.out).mono ?_;rintro e w1 ⟨rfl,b1⟩;rw[HM.out,←HMM.out];have HB1:=Hh b1;have hbx:=HBX.out _ b1;clear b1));go_ret2;exact⟨_,_,rfl,HW.out.below HB1.out,HB.out.trans (HB1.out.mono HB.out.size)⟩
theorem zdE (A:Option Addr)(c n:Nat)(q:List Nd)(w:World)(h:Ns w A c q)(hn:q.length=n)(hn9:n≤800000)(hl:zaa q=true)(hA:A=none→c=0) :
  Calls Tryz.prog 40 #[.agg #[.slice A n c]] w fun e w'=>e=.returned (.int .i64 ((zbb q).length:Nat))∧Below w.heap.size w w':=by
 have hb:=(Below.refl w.heap.size w).alloc (Nat.le_refl _) (.cells #[.slice A n c] 28);obtain⟨R,hR⟩:∃R,R=(zbb q).length:=⟨_,rfl⟩;rw[←hR];obtain⟨L,hLL⟩:∃L,L=LQ q:=⟨_,rfl⟩;obtain⟨V,hV⟩:∃V,V=VQ q:=⟨_,rfl⟩;obtain⟨N,hN⟩:∃N,L.length=N:=⟨_,rfl⟩;have HR:=Hh (show R=cntL L V N by rw[hR,zgR,←hLL,←hV,hN,zaF]);have HN9:=Hh (show N≤1000000 by have:=(zgS hl).2;rw[←hLL,hN] at this;omega);have HBX:=Hh (zjo (heap_alloc_new w (.cells #[.slice A n c] 28)));have HLD:=Hh (show ∀W:World,Ns W A c q→Calls Tryz.prog 84 #[.agg #[.slice A n c]] W fun e w'=>∃A c,e=.returned (.tuple #[.slice A N c,.int .i64 V])∧Ns w' A c L∧Below W.heap.size W w' from fun W hW=>by
  have h1:=zfT A c n q W hW hn hn9 hl hA;unfold znD at h1;rw[←hLL,←hV,hN] at h1;exact h1)
 have HLo:=Hh (show zaa L=true by rw[hLL];exact(zgS hl).1);have HB:=Hh hb;have HW:=Hh (h.below hb);have HN:=Hh hN;clear h hn hl hA hR hLL hV hN hb;go_enter Tryz.func40,Tryz.ntmps40;go_wp2_with (go_at_call 84;go_loud (refine(HLD.out _ HW.out).mono ?_;rintro e w1 ⟨A1,c1,rfl,n1,b1⟩;have HN1:=Hh n1;have hcap:=n1.cap;have HB1:=Hh (HB.out.trans (b1.mono HB.out.size));clear n1 b1));rw[HN.out] at hcap;go_loopw [15,5,7] (fun z1 z2 z3 wr=>∃(k:Nat) (u:Value),z1=.int .i64 k∧z2=.int .i64 ((cntL L V k:Nat):Int)∧u=z3∧k≤N∧Below w1.heap.size w1 wr) (fun z1 _ _ _=>N-(intOf z1).toNat)
 case atStart=>exact⟨0,_,rfl,rfl,rfl,Nat.zero_le _,Below.refl _ _⟩
 case round =>
  obtain⟨k,u,rfl,rfl,rfl,hk,hb⟩:=hrel;have HB2:=Hh hb;clear hb;obtain⟨ct,hct⟩:∃ct,ct=cntL L V k:=⟨_,rfl⟩;have hct9:ct≤k:=by rw[hct];exact zfa L V k
  rw[←hct];have HC:=Hh hct;have hN9:=HN9.out;clear hct;by_cases hlt:k<N
  ·have kw:IntKind.i64.wrap ((k:Int)+1)=(k:Int)+1:=IntWalk.i64_in _ (by omega);have cw:IntKind.i64.wrap ((ct:Int)+1)=(ct:Int)+1:=IntWalk.i64_in _ (by omega);have t1:decide ((k:Int)<(N:Int))=true:=decide_eq_true (by omega);have i1:(k:Int)<(N:Int):=by omega
   obtain⟨bl,off,rfl,hbl,hcl⟩:=HN1.out.at_ (by rw[HN.out];omega)
   obtain⟨c1,c2,c3,c4,c5⟩:=(hcl k (by rw[HN.out];exact hlt)).below (HB2.out.block bl hbl);obtain⟨x,hx⟩:∃x,x=Nds.at_ L k:=⟨_,rfl⟩
   rw[←hx] at c1 c2 c3 c4 c5;have HX:=Hh hx;have HB3:=Hh (HB2.out.alloc HB2.out.size (.cells #[.int .i64 x.lv,.int .i64 x.a,.int .i64 x.b,.int .i64 x.c,.int .i64 x.d] 70));have HLT:=Hh hlt;by_cases hs:x.lv<V
   ·have t2:decide (x.lv≥V)=false:=decide_eq_false (by omega);have t3:decide (V≤x.lv)=false:=t2;have HC2:=Hh (show cntL L V (k+1)=ct by rw[HC.out];exact if_pos (by rw[←hx];exact hs));clear hx hcl hbl hlt hs;go_wp2_with fail;go_roundw
    case rel=>exact⟨k+1,_,by go_num,by rw[HC2.out],rfl,HLT.out,HB3.out⟩
    case measure=>have:=HLT.out;simp[intOf];omega
   ·have t2:decide (x.lv≥V)=true:=decide_eq_true (by omega);have t3:decide (V≤x.lv)=true:=t2;have HC2:=Hh (show cntL L V (k+1)=ct+1 by rw[HC.out];exact if_neg (by rw[←hx];exact hs));clear hx hcl hbl hlt hs;go_wp2_with fail;go_roundw
    case rel=>exact⟨k+1,_,by go_num,by rw[HC2.out];rfl,rfl,HLT.out,HB3.out⟩
    case measure=>have:=HLT.out;simp[intOf];omega
  ·obtain rfl:k=N:=by omega
   have t9:decide ((k:Int)<(k:Int))=false:=decide_eq_false (by omega);go_wp2_with fail;go_ret;exact⟨by rw[HR.out,←HC.out];rfl,HB1.out.trans (HB2.out.mono HB1.out.size)⟩
def zfn (s:ByteArray)(q:List Nd)(w:World)(e:Ending)(w':World):Prop:=(e=.returned (if mayP s q=true then .tuple #[.string ⟨(zdS s.data.toList q).toArray⟩,.int .i64 0] else .tuple #[.string ⟨#[]⟩,.int .i64 1]))∧Below w.heap.size w w'
theorem zfn.no {s:ByteArray}{q:List Nd}{w w':World}{e:Ending}(h:mayP s q=false)(he:e=.returned (.tuple #[.string ⟨#[]⟩,.int .i64 1]))(hb:Below w.heap.size w w'):zfn s q w e w':=⟨by rw[he,h];rfl,hb⟩
theorem zfn.yes {s:ByteArray}{q:List Nd}{w w':World}{e:Ending}(h:mayP s q=true)(he:e=.returned (.tuple #[.string ⟨(zdS s.data.toList q).toArray⟩,.int .i64 0]))(hb:Below w.heap.size w w'):zfn s q w e w':=⟨by rw[he,h];rfl,hb⟩
theorem zkm {s:ByteArray}{q:List Nd}(h:mayP s q=true):zaa q=true:=zdM (Bool.and_eq_true_iff.1 h).2
theorem zdF (A:Option Addr)(c n:Nat)(s:ByteArray)(q:List Nd)(w:World)(hs:s.size≤1000)(h:Ns w A c q)(hn:q.length=n)(hn9:n≤800000)(hA:A=none→c=0)(T:TabP w) :
  Calls Tryz.prog 38 #[.agg #[.string s,.slice A n c]] w (zfn s q w):=by
 have hb:=(Below.refl w.heap.size w).alloc (Nat.le_refl _) (.cells #[.string s,.slice A n c] 30);have hpc:=zav (heap_alloc_new w (.cells #[.string s,.slice A n c] 30));obtain⟨gb,hgb⟩:∃g,g=w.heap.size:=⟨_,rfl⟩;obtain⟨W0,hW0⟩:∃W:World,W=w.alloc (.cells #[.string s,.slice A n c] 30):=⟨_,rfl⟩;rw[←hgb,←hW0] at hpc;rw[←hW0] at hb;have HB:=Hh hb;have HW:=Hh (h.below hb);have HN:=Hh hn;have HA:=Hh hA;have HT:=Hh (zat T hb);have HPC:=Hh (show ∀W:World,Below W0.heap.size W0 W→W.cell? ⟨gb,0,none⟩=some (.string s)∧W.cell? ⟨gb,1,none⟩=some (.slice A n c) from fun W k=>by
  have hlt:gb<W0.heap.size:=by rw[hW0,World.size_alloc,hgb];exact Nat.lt_succ_self _
  exact⟨(k.cell (p:=⟨gb,0,none⟩) hlt).trans hpc.1,(k.cell (p:=⟨gb,1,none⟩) hlt).trans hpc.2⟩)
 have HPR:=Hh (show ∀W:World,Ns W A c q→Calls Tryz.prog 82 #[.agg #[.string s,.slice A n c]] W fun e w'=>e=.returned (.bool (mayP s q))∧Below W.heap.size W w' from fun W hW=>zkg A c n s q W (by unfold maxLen;omega) hW hn (by omega));obtain⟨c0,c1⟩:=hpc;cases hm:mayP s q with
 | false =>
  have HM:=Hh hm;clear h hn hA T hb hm;go_enter Tryz.func38,Tryz.ntmps38;go_upto_region 1 with fail
  rw[←hgb,←hW0];clear hgb hW0;go_wp2_with (go_at_call 82;go_loud (refine(HPR.out _ HW.out).mono ?_;rintro e w1 ⟨rfl,b1⟩;rw[HM.out];have HB1:=Hh (HB.out.trans (b1.mono HB.out.size));clear b1));go_ret2;exact zfn.no HM.out rfl HB1.out
 | true =>
  have hl:=zkm hm;have hlq:=zgS hl;obtain⟨L,hLL⟩:∃L,L=LQ q:=⟨_,rfl⟩;obtain⟨V,hV⟩:∃V,V=VQ q:=⟨_,rfl⟩;obtain⟨N,hN⟩:∃N,L.length=N:=⟨_,rfl⟩;have HLo:=Hh (show zaa L=true by rw[hLL];exact hlq.1);have HN9:=Hh (show N≤1000000 by have h1:=hlq.2;rw[←hLL,hN] at h1;omega);have HLN:=Hh hN;have HVO:=Hh (show V=1∨V=3 by rw[hV];exact zqt q);have HLD:=Hh (show ∀W:World,Ns W A c q→Calls Tryz.prog 84 #[.agg #[.slice A n c]] W fun e w'=>∃A c,e=.returned (.tuple #[.slice A N c,.int .i64 V])∧Ns w' A c L∧Below W.heap.size W w' from fun W hW=>by
   have h1:=zfT A c n q W hW hn hn9 hl hA;unfold znD at h1;rw[←hLL,←hV,hN] at h1;exact h1)
  have HM:=Hh hm;obtain⟨t,ht⟩:∃t:ByteArray,t=⟨(lnT (zai L V N)).toArray⟩:=⟨_,rfl⟩;have HTT:=Hh ht;have htz:t.size≤73000000:=by
   rw[ht,zck];have h1:=ziq HLo.out (by rw[hN];exact HN9.out) (v:=V) N (by rw[hN];exact Nat.le_refl _);have:=HN9.out;omega
  have z1:(9223372036854775807<(⟨#[91,77,50,93,32,40,103,108,105,100,101,114,41,10,35,82,32]⟩:ByteArray).size+s.size)=False:=eq_false (by show ¬ 9223372036854775807<17+s.size;omega);have z2:(9223372036854775807<((⟨#[91,77,50,93,32,40,103,108,105,100,101,114,41,10,35,82,32]⟩:ByteArray)++s).size+(⟨#[10]⟩:ByteArray).size)=False:=eq_false (by rw[ByteArray.size_append];show ¬ 9223372036854775807<17+s.size+1;omega);have z3:(9223372036854775807<(⟨#[91,77,50,93,32,40,103,108,105,100,101,114,41,10,35,82,32]⟩:ByteArray).size+s.size+(⟨#[10]⟩:ByteArray).size)=False:=eq_false (by show ¬ 9223372036854775807<17+s.size+1;omega);have z4:(9223372036854775807<(⟨#[91,77,50,93,32,40,103,108,105,100,101,114,41,10,35,82,32]⟩:ByteArray).size+s.size+(⟨#[10]⟩:ByteArray).size+t.size)=False:=eq_false (by show ¬ 9223372036854775807<17+s.size+1+t.size;omega);have z5:(9223372036854775807<17+s.size)=False:=eq_false (by omega);have z6:(9223372036854775807<17+s.size+1)=False:=eq_false (by omega);have z7:(9223372036854775807<17+s.size+1+t.size)=False:=eq_false (by omega);have HTX:=Hh (show(⟨#[91,77,50,93,32,40,103,108,105,100,101,114,41,10,35,82,32]⟩:ByteArray)++s++(⟨#[10]⟩:ByteArray)++t=⟨(zdS s.data.toList q).toArray⟩ by
   refine zlV ?_;unfold zdS;rw[zgR,←hLL,←hV,hN,ht];simp[zpV])
  clear h hn hA T hb hm hl hlq hLL hV hN ht;go_enter Tryz.func38,Tryz.ntmps38;go_upto_region 1 with fail
  rw[←hgb,←hW0];clear hgb hW0;go_wp2_with (go_at_call 82;go_loud (refine(HPR.out _ HW.out).mono ?_;rintro e w1 ⟨rfl,b1⟩;rw[HM.out];have HB1:=Hh b1;clear b1 c0 c1;obtain⟨c0,c1⟩:=HPC.out _ HB1.out));have HBd:=Hh (show Below W0.heap.size W0 w1.drew from HB1.out.drew);clear c0 c1;obtain⟨c0,c1⟩:=HPC.out _ HBd.out;go_region_held3 (fun w'=>w'.cell? ⟨gb,0,none⟩=some (.string s)∧w'.cell? ⟨gb,1,none⟩=some (.slice A n c))
   (first|go_keep|exact⟨c0,c1⟩)
   (first
    | (go_at_call 84;go_loud (refine(HLD.out _ (HW.out.below HBd.out)).mono ?_;rintro e w2 ⟨A2,c2,rfl,n2,b2⟩;have HN2:=Hh n2;have HB2:=Hh (HBd.out.trans (b2.mono HBd.out.size));clear n2 b2 c0 c1;obtain⟨c0,c1⟩:=HPC.out _ HB2.out))
    | (go_at_call 83;go_loud (refine(zmm A2 c2 N L V _ HN2.out HLN.out HN9.out HLo.out HVO.out (zat HT.out HB2.out)).mono ?_;rintro e w3 ⟨rfl,b3⟩;rw[←HTT.out];have HB3:=Hh (HB2.out.trans (b3.mono HB2.out.size));clear b3 c0 c1;obtain⟨c0,c1⟩:=HPC.out _ HB3.out)))
  all_goals (
   go_wp2_with fail;go_ret2;exact zfn.yes HM.out (by rw[←HTX.out];rfl) (HB.out.trans (HB3.out.mono HB.out.size)))
end Go.Proofs.YtfjajpnfjjdnpaaGreatDoor

namespace Go.Proofs.YtfjajpnfjjdnpaaGreatDoor
open Go.RowKit Num Nds Txt
def zdb:List Nd:=[⟨1,0,0,0,1⟩]
def znE:List Cl:=[⟨0,0,1⟩]
def zdc:List Nd:=[⟨1,3,0,0,0⟩,⟨1,2,0,0,0⟩,⟨2,0,0,1,2⟩]
def zgT:List Cl:=[⟨0,0,2⟩,⟨-2,0,3⟩]
def zfU:List Nd:=[⟨1,1,0,0,0⟩,⟨2,1,0,0,0⟩,⟨3,2,2,0,0⟩]
theorem zir:zaS znE=zhu zdb:=by kernel_rfl
theorem zkn:OfL zdb zdb.length=zdb:=by kernel_rfl
theorem zis:zbE (zaS znE)=1:=by kernel_rfl
theorem zfd:zaa zdb=true:=by kernel_rfl
theorem zit:zaS zgT=zhu zdc:=by kernel_rfl
theorem zko:OfL zdc zdc.length=zdc:=by kernel_rfl
theorem ziu:zbE (zaS zgT)=2:=by kernel_rfl
theorem zfe:zaa zdc=true:=by kernel_rfl
theorem zhH:zaa zfU=true:=by kernel_rfl
theorem zkp {out:List Nd}(h:zcz (zaS znE) out):out=zdb:=by
 have k:=zeP zfd;rw[zkn,←zir] at k;exact zfH h k fun _ _=>rfl
theorem zkq {out:List Nd}(h:zcz (zaS zgT) out):out=zdc:=by
 have k:=zeP zfe;rw[zko,←zit] at k;exact zfH h k fun _ _=>rfl
def zpj:List Cv:=[⟨false,none,0,[],false,none,0,[],1⟩]
theorem zpY:mayB zpj 1=true:=by
 refine zlQ.2 ⟨by kernel_rfl,by kernel_rfl,?_⟩;rw[show zaS (zpj.map Cv.cl)=zaS znE from rfl,zis];omega
def cv14 (a:Bw):List Cv:=[⟨false,none,0,[],false,none,0,[],2⟩,⟨a.s,a.a,a.c,a.xs,false,none,0,[],3⟩]
theorem zmn {W:World}{a:Bw}(h:a.R W (-2)):(cv14 a).map Cv.cl=zgT:=by
 show[(⟨ival false [],ival false [],_⟩:Cl),⟨ival a.s a.xs,ival false [],_⟩]=_;rw[h.v];rfl
theorem zqu {W:World}{a:Bw}(h:a.R W (-2))(hl:a.xs.length≤50):mayB (cv14 a) 2=true:=by
 refine zlQ.2 ⟨?_,?_,?_⟩
 ·unfold zbG;rw[Bool.or_eq_false_iff];refine⟨decide_eq_false (by show ¬ ((2:Int)<2);omega),List.any_eq_false.2 fun v hv=>?_⟩;unfold vast;rw[Bool.or_eq_true,decide_eq_true_iff,decide_eq_true_iff];simp only[cv14,List.mem_cons,List.not_mem_nil,or_false] at hv;rcases hv with rfl|rfl
  ·exact fun h=>by rcases h with h|h <;> exact absurd h (by show ¬ _;simp)
  ·exact fun h=>by
    rcases h with h|h
    ·exact absurd h (by show ¬ (50<a.xs.length);omega)
    ·exact absurd h (by show ¬ (50<([]:List Nat).length);simp)
 ·refine List.all_eq_true.2 fun v hv=>?_;simp only[cv14,List.mem_cons,List.not_mem_nil,or_false] at hv;rcases hv with rfl|rfl
  ·rfl
  ·unfold okC;rw[Bool.and_eq_true];exact⟨zhy h.cn,rfl⟩
 ·rw[zmn h,ziu];omega
def t14p:ByteArray:=⟨#[91,77,50,93,32,40,103,108,105,100,101,114,41,10,35,82,32,66,51,47,83,50,51,10,36,36,36,36,46,46,46,46,42,36,10]⟩
def t14q:ByteArray:=⟨#[91,77,50,93,32,40,103,108,105,100,101,114,41,10,35,82,32,97,10,49,32,51,32,48,32,48,32,48,10,49,32,50,32,48,32,48,32,48,10,50,32,48,32,48,32,49,32,50,10]⟩
theorem zpk:zdS zco.data.toList zdb=t14p.data.toList:=by kernel_rfl
theorem zpl:zdS zaj.data.toList zdc=t14q.data.toList:=by kernel_rfl
theorem zpZ {w w':World}{e:Ending}(h:zfn zco zdb w e w'):e=.returned (.tuple #[.string t14p,.int .i64 0])∧Below w.heap.size w w':=by
 refine⟨h.1.trans ?_,h.2⟩;rw[if_pos (show mayP zco zdb=true by kernel_rfl),zpk]
theorem zqa {w w':World}{e:Ending}(h:zfn zaj zdc w e w'):e=.returned (.tuple #[.string t14q,.int .i64 0])∧Below w.heap.size w w':=by
 refine⟨h.1.trans ?_,h.2⟩;rw[if_pos (show mayP zaj zdc=true by kernel_rfl),zpl]
theorem zqb {w w':World}{e:Ending}(h:zfn ⟨#[]⟩ [] w e w'):e=.returned (.tuple #[.string ⟨#[]⟩,.int .i64 1])∧Below w.heap.size w w':=by
 refine⟨h.1.trans ?_,h.2⟩;rw[if_neg (show ¬ mayP ⟨#[]⟩ []=true from fun e=>by(have:mayP ⟨#[]⟩ []=false:=by kernel_rfl);rw[this] at e;cases e)]
theorem zqc:(zbb zdb).length=1:=by kernel_rfl
theorem zqd:(zbb zdc).length=3:=by kernel_rfl
theorem zqe:(zbb []).length=0:=by kernel_rfl
theorem zmo:(⟨(zcl zfU 3).toArray⟩:ByteArray)=⟨#[42,46,46,46,42,36]⟩:=by kernel_rfl
theorem zkr:kidB zfU 4 3=true:=by kernel_rfl
structure P14 (w W:World)(A:Option Addr)(c:Nat)(A':Option Addr)(c':Nat)(g2 g4:Nat):Prop where
 b:Below w.heap.size w W
 np:Ns W A c zdb
 nq:Ns W A' c' zdc
 k2:W.heap[g2]?=some (.cells #[.string zco,.slice A 1 c] 30)
 k4:W.heap[g4]?=some (.cells #[.string zaj,.slice A' 3 c'] 30)
theorem P14.next {w W W':World}{A:Option Addr}{c:Nat}{A':Option Addr}{c' g2 g4:Nat}(h:P14 w W A c A' c' g2 g4)(k:Below W.heap.size W W'):P14 w W' A c A' c' g2 g4 :=
 ⟨h.b.trans (k.mono h.b.size),h.np.below k,h.nq.below k,(k.block _ (zdC h.k2)).trans h.k2,(k.block _ (zdC h.k4)).trans h.k4⟩
theorem P14.cells {w W:World}{A:Option Addr}{c:Nat}{A':Option Addr}{c' g2 g4:Nat}(h:P14 w W A c A' c' g2 g4) :
  W.cell? ⟨g2,0,none⟩=some (.string zco)∧W.cell? ⟨g2,1,none⟩=some (.slice A 1 c)∧W.cell? ⟨g4,0,none⟩=some (.string zaj)∧W.cell? ⟨g4,1,none⟩=some (.slice A' 3 c') :=
 ⟨(cell_of_row W _ 0 _ _ (0,0) h.k2).trans rfl,(cell_of_row W _ 1 _ _ (0,0) h.k2).trans rfl,(cell_of_row W _ 0 _ _ (0,0) h.k4).trans rfl,(cell_of_row W _ 1 _ _ (0,0) h.k4).trans rfl⟩
theorem P14.start {w w2 w3:World}{A:Option Addr}{c:Nat}{A':Option Addr}{c':Nat}(hb:Below w.heap.size w w2)(np:Ns w2 A c zdb)
  (b3:Below (w2.alloc (.cells #[.string zco,.slice A 1 c] 30)).heap.size (w2.alloc (.cells #[.string zco,.slice A 1 c] 30)) w3) (nq:Ns w3 A' c' zdc) :
  P14 w (w3.alloc (.cells #[.string zaj,.slice A' 3 c'] 30)) A c A' c' w2.heap.size w3.heap.size:=by
 have a2:=(Below.refl w2.heap.size w2).alloc (Nat.le_refl _) (.cells #[.string zco,.slice A 1 c] 30);have a3:=(Below.refl w3.heap.size w3).alloc (Nat.le_refl _) (.cells #[.string zaj,.slice A' 3 c'] 30);have x2:=heap_alloc_new w2 (.cells #[.string zco,.slice A 1 c] 30);have x3:=heap_alloc_new w3 (.cells #[.string zaj,.slice A' 3 c'] 30);have y2:=(b3.block _ (zdC x2)).trans x2;have b23:=a2.trans (b3.mono a2.size);exact⟨hb.trans ((b23.trans (a3.mono b23.size)).mono hb.size),((np.below a2).below b3).below a3,nq.below a3,(a3.block _ (zdC y2)).trans y2,x3⟩
end Go.Proofs.YtfjajpnfjjdnpaaGreatDoor
