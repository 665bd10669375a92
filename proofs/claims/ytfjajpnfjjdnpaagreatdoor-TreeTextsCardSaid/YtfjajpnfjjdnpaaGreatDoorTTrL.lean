import Derived.Test.YtfjajpnfjjdnpaaGreatDoorTFtC
import Derived.Lib.IndexBytes
import Derived.Test.YtfjajpnfjjdnpaaGreatDoorLaidX

set_option linter.unusedVariables false
set_option linter.unusedSimpArgs false
set_option maxRecDepth 100000
set_option maxHeartbeats 6400000
namespace Go.Proofs.YtfjajpnfjjdnpaaGreatDoor
open Go.RowKit Lib
abbrev WbA (b:Nat)(p:Value)(bs:List Value)(w:World):Prop:=Lib.BuilderAtF 85 5 b b p bs w
abbrev Wb (b:Nat)(bs:List Value)(w:World):Prop:=Lib.IsBuilderF 85 5 b b bs w
theorem zpY:(85:TypeId)≠5:=by decide
theorem znB:liesAt Tryz.prog Tryz.prog.depth 85 (2 / Tryz.prog.cellsOf 85) 0 85 1=true:=by kernel_rfl
theorem zhx (b:Nat)(w:World)(h0:w.cell? ⟨b,0,none⟩=some (.pointer none))(hs:w.shape? b=some (85,2))(hf:w.frozen? ⟨b,0,none⟩=false) :
  Calls Tryz.prog 135 #[.pointer (some ⟨b,0,none⟩)] w fun e w'=>e=.returned (.tuple #[])∧w'=w.setCell ⟨b,0,none⟩ (.pointer (some ⟨b,0,none⟩)):=by
 obtain⟨j,hj,hjs⟩:=Option.map_eq_some_iff.1 zjD;go_enter Tryz.func135,Tryz.ntmps135;go_wp2;rw[Lib.run_to_unsafe w ⟨b,0,none⟩ Tryz.underlying82 Tryz.underlying206 hj (by rw[hjs];decide) hs (Nat.zero_lt_succ 1)];simp only[Result.andThen];rw[Oper.upon_value];go_wp2;rw[run_callFunc_extern Tryz.func176 (by kernel_rfl) (by kernel_rfl) (by kernel_rfl) (e:=Extern.AbiNoEscape.same) (by kernel_rfl),Lib.run_noEscape];simp only[Result.andThen];rw[Oper.upon_value];go_wp2;rw[Lib.run_from_unsafe w ⟨b,0,none⟩ Tryz.underlying206 Tryz.underlying82 hj hs znB];simp only[Result.andThen];rw[Oper.upon_value];go_wp2;go_end0;exact⟨rfl,rfl⟩
theorem zjE (b:Nat)(bs:List Value)(w:World)(h:Wb b bs w) :
  Calls Tryz.prog 135 #[.pointer (some ⟨b,0,none⟩)] w fun e w'=>e=.returned (.tuple #[])∧WbA b (.pointer (some ⟨b,0,none⟩)) bs w'∧Ke b w w':=by
 rcases h with h|h
 ·refine(zhx b w h.cell0 h.shape h.frozen0).mono ?_;rintro e w' ⟨rfl,rfl⟩;exact⟨rfl,h.used _,(Below.refl b w).setCell (p:=⟨b,0,none⟩) h.1 _,(Lib.OthersKept.refl _ _ w).setCell ⟨b,0,none⟩ rfl _⟩
 ·refine(zgO b w h.cell0).mono ?_;rintro e w' ⟨rfl,rfl⟩;exact⟨rfl,h,Ke.refl _ _⟩
theorem WbA.cells {b:Nat}{p:Value}{bs:List Value}{w:World}(h:WbA b p bs w):∃v,w.heap[b]?=some (.cells #[p,v] 85 (0,0))∧w.cell? ⟨b,0,none⟩=some p∧w.cell? ⟨b,1,none⟩=some v∧w.frozen? ⟨b,1,none⟩=false∧w.ownsRowF b 5 1 v bs.length bs∧v.ownBlock≠some b:=by
 obtain⟨-,v,hb,ho,hne⟩:=h;exact⟨v,hb,by rw[Lib.cell_of_heap hb];rfl,by rw[Lib.cell_of_heap hb];rfl,Lib.frozen_of_heap hb 1,ho,hne⟩
theorem WbA.grew {b:Nat}{p v v':Value}{bs cs:List Value}{w w1 w2:World}(hb:b≤w.heap.size)(k:Ke b w w1)(hbk:w1.heap[b]?=some (.cells #[p,v] 85 (0,0)))(ho:w1.ownsRowF b 5 1 v bs.length bs)(hne:v.ownBlock≠some b)
  (o:w2.ownsRowF b 5 1 v' (bs++cs).length (bs++cs)) (g:w1.grownBy w2 v.ownBlock) :
  w2.heap[b]?=some (.cells #[p,v] 85 (0,0))∧WbA b p (bs++cs) (w2.setCell ⟨b,1,none⟩ v')∧Ke b w (w2.setCell ⟨b,1,none⟩ v'):=by
 have hlt:b<w1.heap.size:=(Array.getElem?_eq_some_iff.1 hbk).1;have hb2:w2.heap[b]?=some (.cells #[p,v] 85 (0,0)):=by rw[g.block b hlt (fun e=>hne e.symm)];exact hbk
 exact⟨hb2,Lib.BuilderAtF.put (Nat.le_refl _) hb2 o zpY,(k.1.grown g (Nat.le_trans hb k.1.size) (fun q hq=>(ho.lt q hq).1)).setCell (p:=⟨b,1,none⟩) (Nat.le_refl _) _,(k.2.grown g (Lib.ownsRowF_kind ho)).setCell ⟨b,1,none⟩ rfl _⟩
theorem zmd (b:Nat)(bs:List Value)(s:ByteArray)(w:World)(h:Wb b bs w)(hl:bs.length+s.size≤140737488355328)(hb:b≤w.heap.size) :
  Calls Tryz.prog 87 #[.pointer (some ⟨b,0,none⟩),.string s] w fun e w'=>e=.returned (.tuple #[.int .i64 s.size,.nilIface])∧WbA b (.pointer (some ⟨b,0,none⟩)) (bs++strCells s) w'∧Ke b w w':=by
 obtain⟨i0,hi,hz0,hz1,hz2⟩:=info_parts zjC;go_enter Tryz.func87,Tryz.ntmps87;go_wp2_with (first
  | (go_at_call 135;go_loud (refine(zjE b _ _ h).mono ?_;rintro e w1 ⟨rfl,h1,k1⟩;obtain⟨v,hbk,c0,c1,-,ho,hne⟩:=h1.cells))
  | (at_builtin;go_loud (refine wpList_append_own_stringF _ rfl _ _ 83 9 rfl b 5 i0 Tryz.underlying83 Tryz.underlying9 hi hz0 hz1 hz2 _ _ _ rfl ho s rfl (by unfold maxLen;omega) (by omega) (by have:=k1.1.size;omega) ?_;intro v' w2 ho2 hg2 _;have hc:=WbA.grew hb k1 hbk ho hne (v':=v') (cs:=strCells s) (by rw[List.length_append,strCells_length];exact ho2) hg2;obtain⟨hb2,h3,k3⟩:=hc;have d0:w2.cell? ⟨b,0,none⟩=some (.pointer (some ⟨b,0,none⟩)):=(Lib.cell_of_heap hb2 0).trans rfl;have d1:w2.cell? ⟨b,1,none⟩=some v:=(Lib.cell_of_heap hb2 1).trans rfl;have f1:w2.frozen? ⟨b,1,none⟩=false:=Lib.frozen_of_heap hb2 1;obtain⟨A2,c2,rfl⟩:=zfR ho2)))
 go_ret2;exact⟨rfl,h3,k3⟩
theorem zeD (b:Nat)(l:List UInt8)(s:ByteArray)(w:World)(h:Wb b (byteCells l) w)(hl:l.length+s.size≤140737488355328)(hb:b≤w.heap.size) :
  Calls Tryz.prog 87 #[.pointer (some ⟨b,0,none⟩),.string s] w fun e w'=>e=.returned (.tuple #[.int .i64 s.size,.nilIface])∧Wb b (byteCells (l++s.data.toList)) w'∧Ke b w w':=by
 refine(zmd b _ s w h (by rw[byteCells_length];exact hl) hb).mono ?_;rintro e w' ⟨rfl,h1,h2⟩;rw[strCells_eq,←byteCells_append] at h1;exact⟨rfl,.inr h1,h2⟩
theorem znC (b:Nat)(bs:List Value)(n:Nat)(hn:bs.length=n)(r:Int)(w:World)(h:Wb b bs w)(hl:n+1≤140737488355328)(hb:b≤w.heap.size) :
  Calls Tryz.prog 89 #[.pointer (some ⟨b,0,none⟩),.int .u8 r] w fun e w'=>e=.returned .nilIface∧WbA b (.pointer (some ⟨b,0,none⟩)) (bs++[.int .u8 r]) w'∧Ke b w w':=by
 obtain⟨i0,hi,hz0,hz1,hz2⟩:=info_parts zjC;go_enter Tryz.func89,Tryz.ntmps89;go_wp2_with (first
  | (go_at_call 135;go_loud (refine(zjE b _ _ h).mono ?_;rintro e w1 ⟨rfl,h1,k1⟩;obtain⟨v,hbk,c0,c1,-,ho,hne⟩:=h1.cells;rw[hn] at ho;have hlt:b<w1.heap.size:=(Array.getElem?_eq_some_iff.1 hbk).1;have e1:(w1.alloc (.cells #[.int .u8 r] 5)).cell? ⟨b,1,none⟩=some v:=(Lib.cell_of_heap ((Lib.alloc_old w1 _ b hlt).trans hbk) 1).trans rfl))
  | (at_builtin;go_loud (refine wpList_append_ownF _ rfl _ _ 83 rfl b 5 i0 (.int .u8 0) 1 1 Tryz.underlying83 hi hz0 hz1 hz2 rfl (by decide) _ _ _ rfl (ho.alloc _) ⟨w1.heap.size,0,none⟩ 1 1 [.int .u8 r] rfl rfl (fun j u hj=>by(match j,hj with|0,hj=>(simp at hj;subst hj;simp[Addr.add])|(j+1),hj=>simp at hj)) (fun u hu=>by(simp at hu;subst hu;rfl)) (by unfold maxLen;omega) (by omega) (by have:=k1.1.size;simp;omega) ?_;intro v' w2 ho2 hg2 _;have hc:=WbA.grew (w1:=w1.alloc (.cells #[.int .u8 r] 5)) hb (⟨k1.1.alloc (by have:=k1.1.size;omega) _,k1.2.alloc _⟩:Ke b w (w1.alloc (.cells #[.int .u8 r] 5))) ((Lib.alloc_old w1 _ b hlt).trans hbk) (by rw[hn];exact ho.alloc _) hne (v':=v') (cs:=[.int .u8 r]) (by rw[List.length_append,hn];exact ho2) hg2;obtain⟨hb2,h3,k3⟩:=hc;have d0:w2.cell? ⟨b,0,none⟩=some (.pointer (some ⟨b,0,none⟩)):=(Lib.cell_of_heap hb2 0).trans rfl;have d1:w2.cell? ⟨b,1,none⟩=some v:=(Lib.cell_of_heap hb2 1).trans rfl;have f1:w2.frozen? ⟨b,1,none⟩=false:=Lib.frozen_of_heap hb2 1;obtain⟨A2,c2,rfl⟩:=zfR ho2)))
 go_ret;exact⟨rfl,h3,k3⟩
theorem zgP (b:Nat)(l:List UInt8)(r:UInt8)(w:World)(h:Wb b (byteCells l) w)(hl:l.length+1≤140737488355328)(hb:b≤w.heap.size) :
  Calls Tryz.prog 89 #[.pointer (some ⟨b,0,none⟩),.int .u8 (r.toNat:Int)] w fun e w'=>e=.returned .nilIface∧Wb b (byteCells (l++[r])) w'∧Ke b w w':=by
 refine(znC b _ _ (byteCells_length l) (r.toNat:Int) w h hl hb).mono ?_;rintro e w' ⟨he,h2,h3⟩;rw[show([.int .u8 (r.toNat:Int)]:List Value)=byteCells [r] from rfl,←byteCells_append] at h2;exact⟨he,.inr h2,h3⟩
theorem zik (b:Nat)(l:List UInt8)(w:World)(h:Wb b (byteCells l) w)(h0:l≠[]) :
  Calls Tryz.prog 54 #[.pointer (some ⟨b,0,none⟩)] w fun e w'=>e=.returned (.string ⟨l.toArray⟩)∧Below b w w':=by
 obtain⟨p,hA⟩:∃p,WbA b p (byteCells l) w:=by
  rcases h with h|h
  ·exact⟨_,h⟩
  ·exact⟨_,h⟩
 obtain⟨v,hbk,-,c1,-,ho,hne⟩:=hA.cells;have hl0:l.length≠0:=by simpa using h0
 rw[byteCells_length] at ho;obtain⟨g,cap,cur,fz,rfl,hbg,hg,hcm,hnc,hcs⟩:∃g cap cur fz,v=.slice (some ⟨g,0,none⟩) l.length cap∧b≤g∧w.heap[g]?=some (.cells cur 5 fz)∧cap≤maxLen∧l.length≤cap∧l.length≤cur.size:=by
  rcases ho.2 with⟨-,hz⟩|⟨g,cap,cur,fz,hv,r1,r2,-,r3,r4,r5,-⟩
  ·exact absurd hz hl0
  ·exact⟨g,cap,cur,fz,hv,r1,r2,r4,r3,by omega⟩
 have c2:w.drew.cell? ⟨b,1,none⟩=some (.slice (some ⟨g,0,none⟩) l.length cap):=c1;have hSD:(Builtin.unsafeSliceData_ #[83] 143 #[.slice (some ⟨g,0,none⟩) l.length cap]).run Tryz.prog w.drew=.ok (.pointer (some ⟨g,0,none⟩)) w.drew:=run_unsafeSliceData_row _ _ _ _ _ _ (by omega);have hUS:(Builtin.unsafeString_ #[143,3] 9 #[.pointer (some ⟨g,0,none⟩),.int .i64 l.length]).run Tryz.prog w.drew=.ok (.string ⟨l.toArray⟩) (w.drew.freeze ⟨g,0,none⟩ l.length) :=
  run_unsafeString_row w.drew 143 3 9 5 Tryz.underlying143 (by kernel_rfl) g cur.size (by have hg':w.drew.heap[g]?=some (.cells cur 5 fz):=hg;simp[World.shape?,hg']) l h0 hcs (by unfold maxLen at hcm;omega) (fun j x hx=>ho.cells (g:=g) rfl j (.int .u8 x.toNat) (by simp[byteCells,hx]))
 have mixed:Tryz.prog.follows .mixedOrders=true:=by kernel_rfl
 go_enter Tryz.func54,Tryz.ntmps54;go_wp2;go_region_o
 all_goals (go_wp2;go_ret;exact⟨rfl,below_freeze (Below.drew (Below.refl b w)) (p:=⟨g,0,none⟩) hbg _⟩)
theorem Wb.fresh (w:World):Wb w.heap.size (Lib.byteCells []) (w.alloc (.cells #[.pointer none,.slice none 0 0] 85)):=Lib.IsBuilderF.of (Lib.fresh_isBuilder 85 5 w)
def zpZ:Value→Nat
 | .string t=>t.size
 | _=>0
theorem zcP (t:ByteArray)(m:Nat):(t.extract 0 m).data.toList=t.data.toList.take m:=by
 simp[ByteArray.data_extract]
theorem zef {s t:ByteArray}(h:s.data.toList=t.data.toList):s=t:=by
 obtain⟨⟨a⟩⟩:=s;obtain⟨⟨b⟩⟩:=t;simp at h;rw[h]
theorem zpi {t:ByteArray}{m:Nat}(h:t.size=m+1)(hlt:m<t.size):t.data.toList=t.data.toList.take m++[t[m]'hlt]:=by
 have hl:t.data.toList.length=m+1:=(zbM t).trans h;have h1:=ziC (s:=t) (k:=m) hlt;have h2:=List.take_add_one (l:=t.data.toList) (i:=m);rw[h1,List.take_of_length_le (by omega)] at h2;exact h2
end Go.Proofs.YtfjajpnfjjdnpaaGreatDoor

namespace Go.Proofs.YtfjajpnfjjdnpaaGreatDoor
open Nds
def zaL (c:UInt8):List UInt8→List UInt8
 | []=>[]
 | x :: r=>if x=c∧zaL c r=[] then [] else x :: zaL c r
theorem zbe (c:UInt8)(l:List UInt8)(x:UInt8):zaL c (l++[x])=if x=c then zaL c l else l++[x]:=by
 induction l with
 | nil =>
  show(if x=c∧([]:List UInt8)=[] then [] else [x])=_;by_cases h:x=c
  ·rw[if_pos ⟨h,rfl⟩,if_pos h];rfl
  ·rw[if_neg (fun e=>h e.1),if_neg h];rfl
 | cons y r ih =>
  show(if y=c∧zaL c (r++[x])=[] then [] else y :: zaL c (r++[x]))=_;rw[ih];by_cases h:x=c
  ·rw[if_pos h,if_pos h];rfl
  ·rw[if_neg h,if_neg h,if_neg (fun e=>by have:=e.2;simp at this)];rfl
theorem zeg (c:UInt8)(l:List UInt8):zaL c l=l.take (zaL c l).length:=by
 induction l with
 | nil=>rfl
 | cons y r ih =>
  show(if y=c∧zaL c r=[] then [] else y :: zaL c r)=_;show _=(y :: r).take (if y=c∧zaL c r=[] then [] else y :: zaL c r).length;split
  ·rfl
  ·rw[List.length_cons,List.take_succ_cons,←ih]
theorem zhy (c:UInt8)(l:List UInt8):(zaL c l).length≤l.length:=by
 have h:=congrArg List.length (zeg c l);rw[List.length_take] at h;omega
theorem zme {c:UInt8}{l:List UInt8}{x:UInt8}(h:x∈zaL c l):x∈l:=by
 rw[zeg] at h;exact List.mem_of_mem_take h
theorem zmf (c:UInt8)(l:List UInt8){r:List UInt8}(h0:r≠[])(h:∀x∈r,x≠c):zaL c (l++r)=l++r:=by
 obtain⟨a,x,rfl⟩:∃a x,r=a++[x]:=⟨_,_,(List.dropLast_concat_getLast h0).symm⟩;rw[←List.append_assoc,zbe,if_neg (h x (by simp))]
def sgL (l:List Nd)(n:Int)(y x:Nat):UInt8:=if getF 3 l n x y=0 then 46 else 42
def rowF (l:List Nd)(n:Int)(y:Nat):List UInt8:=(List.range 8).map (sgL l n y)
def rowL (l:List Nd)(n:Int)(y:Nat):List UInt8:=zaL 46 (rowF l n y)
def zbu (l:List Nd)(n:Int)(k:Nat):List UInt8:=((List.range k).map fun y=>rowL l n y++[36]).flatten
def zbc (l:List Nd)(n:Int):List UInt8:=if zaL 36 (zbu l n 8)=[] then [] else zaL 36 (zbu l n 8)++[36]
theorem zaY (l:List Nd)(n:Int)(k:Nat):zbu l n (k+1)=zbu l n k++rowL l n k++[36]:=by
 unfold zbu;rw[List.range_succ,List.map_append,List.flatten_append];simp
theorem zqa (l:List Nd)(n:Int)(y x:Nat):sgL l n y x=46∨sgL l n y x=42:=by
 unfold sgL;split
 ·exact .inl rfl
 ·exact .inr rfl
theorem zjF {l:List Nd}{n:Int}{y:Nat}{x:UInt8}(h:x∈rowL l n y):x=46∨x=42:=by
 have h1:=zme h;unfold rowF at h1;obtain⟨a,-,rfl⟩:=List.mem_map.1 h1;exact zqa _ _ _ _
theorem zeE (l:List Nd)(n:Int)(y:Nat):(rowF l n y).length=8:=by
 unfold rowF;simp
theorem zeF (l:List Nd)(n:Int)(y:Nat):(rowL l n y).length≤8:=by
 have h:=zhy 46 (rowF l n y);rw[zeE] at h;exact h
theorem zdJ (l:List Nd)(n:Int):∀k,(zbu l n k).length≤9*k
 | 0=>Nat.le_refl _
 | k+1=>by
  rw[zaY,List.length_append,List.length_append];have h1:=zdJ l n k;have h2:=zeF l n k;simp only[List.length_cons,List.length_nil];omega
def zeh (l:List Nd)(n:Int):Nat→Nat
 | 0=>0
 | k+1=>if rowL l n k=[] then zeh l n k else (zbu l n (k+1)).length
theorem zgQ (l:List Nd)(n:Int):∀k,zeh l n k≤(zbu l n k).length
 | 0=>Nat.zero_le _
 | k+1=>by
  unfold zeh;split
  ·have:=zgQ l n k;rw[zaY,List.length_append,List.length_append];omega
  ·exact Nat.le_refl _
theorem zhz (l:List Nd)(n:Int):∀k,(zbu l n k).take (zeh l n k)=if zaL 36 (zbu l n k)=[] then [] else zaL 36 (zbu l n k)++[36]
 | 0=>rfl
 | k+1=>by
  have ih:=zhz l n k;have hle:=zgQ l n k;unfold zeh;by_cases h:rowL l n k=[]
  ·rw[if_pos h,zaY,h,List.append_nil,zbe,if_pos rfl,←ih,List.take_append_of_le_length hle]
  ·rw[if_neg h,List.take_length,zaY,zbe,if_pos rfl,zmf 36 _ h (fun x hx=>by
    rcases zjF hx with e|e <;> (rw[e];decide)),if_neg (fun e=>h (List.append_eq_nil_iff.1 e).2)]
theorem zhA (l:List Nd)(n:Int):(zbu l n 8).take (zeh l n 8)=zbc l n:=zhz l n 8
theorem zhB (l:List Nd)(n:Int):(zbc l n).length≤72:=by
 rw[←zhA,List.length_take];have:=zdJ l n 8;omega
def cntL (l:List Nd)(v:Int):Nat→Nat
 | 0=>0
 | k+1=>if (at_ l k).lv<v then cntL l v k else cntL l v k+1
theorem zei (l:List Nd)(v:Int):∀k,cntL l v k≤k
 | 0=>Nat.le_refl _
 | k+1=>by
  have:=zei l v k;unfold cntL;split <;> omega
def numL (l:List Nd)(v:Int)(j:Nat):Nat:=if j=0 then 0 else if (at_ l (j-1)).lv<v then 0 else cntL l v j
theorem zil (l:List Nd)(v:Int)(j:Nat):numL l v j≤j:=by
 unfold numL;have:=zei l v j;split
 ·omega
 ·split <;> omega
def zbv (l:List Nd)(v:Int)(n k:Nat):List Nat:=(List.range (n+1)).map fun j=>if j≤k then numL l v j else 0
theorem zdK (l:List Nd)(v:Int)(n k:Nat):(zbv l v n k).length=n+1:=by
 unfold zbv;simp
theorem zfS (l:List Nd)(v:Int)(n:Nat):zbv l v n 0=List.replicate (n+1) 0:=by
 unfold zbv;refine List.ext_getElem? fun j=>?_;by_cases hj:j<n+1
 ·rw[List.getElem?_map,List.getElem?_range hj,List.getElem?_replicate,if_pos hj];show some (if j≤0 then numL l v j else 0)=some 0;split
  ·rename_i h;rw[show j=0 by omega];rfl
  ·rfl
 ·rw[List.getElem?_eq_none (by simp;omega),List.getElem?_eq_none (by simp;omega)]
theorem zhC {l:List Nd}{v:Int}{n k j:Nat}(hj:j<n+1):(zbv l v n k).getD j 0=if j≤k then numL l v j else 0:=by
 unfold zbv;rw[List.getD_eq_getElem?_getD,List.getElem?_map,List.getElem?_range hj];rfl
theorem zfT {l:List Nd}{v:Int}{n k:Nat}(h:(at_ l k).lv<v):zbv l v n (k+1)=zbv l v n k:=by
 unfold zbv;refine List.map_congr_left fun j _=>?_;by_cases hj:j≤k
 ·rw[if_pos hj,if_pos (by omega)]
 ·rw[if_neg hj];split
  ·rename_i h2;obtain rfl:j=k+1:=by omega
   unfold numL;rw[if_neg (by omega),if_pos (by simpa using h)]
  ·rfl
theorem zfg {l:List Nd}{v:Int}{n k:Nat}(h:¬ (at_ l k).lv<v):zbv l v n (k+1)=(zbv l v n k).set (k+1) (cntL l v k+1):=by
 refine List.ext_getElem? fun j=>?_;rw[List.getElem?_set,zdK];by_cases hj:j<n+1
 ·have e:∀m,(zbv l v n m)[j]?=some (if j≤m then numL l v j else 0):=fun m=>by
   unfold zbv;rw[List.getElem?_map,List.getElem?_range hj];rfl
  rw[e,e];by_cases h2:k+1=j
  ·subst h2;rw[if_pos (Nat.le_refl _),if_pos rfl,if_pos hj];unfold numL;rw[if_neg (by omega),if_neg (by simpa using h)];show some (if (at_ l k).lv<v then _ else cntL l v k+1)=_;rw[if_neg h]
  ·rw[if_neg h2];by_cases h3:j≤k
   ·rw[if_pos h3,if_pos (by omega)]
   ·rw[if_neg h3,if_neg (by omega)]
 ·rw[List.getElem?_eq_none (by rw[zdK];omega)];rw[List.getElem?_eq_none (by rw[zdK];omega)];split
  ·rw[if_neg (by omega)]
  ·rfl
def brT (v:Nat)(f:Nat→Nat):List UInt8:=Digs.digs v++[32]++Digs.digs (f 0)++[32]++Digs.digs (f 1)++[32]++Digs.digs (f 2)++[32]++Digs.digs (f 3)
def zbn (l:List Nd)(v:Int)(i:Nat):List UInt8 :=
 if (at_ l i).lv>v then brT (at_ l i).lv.toNat fun k=>numL l v ((at_ l i).kid k).toNat
 else if v=3 then zbc l ((i:Int)+1) else brT (at_ l i).lv.toNat fun k=>((at_ l i).kid k).toNat
def zaj (l:List Nd)(v:Int):Nat→List (List UInt8)
 | 0=>[]
 | k+1=>if (at_ l k).lv<v then zaj l v k else zaj l v k++[zbn l v k]
theorem zci (l:List Nd)(v:Int):∀k,(zaj l v k).length=cntL l v k
 | 0=>rfl
 | k+1=>by
  unfold zaj cntL;split
  ·exact zci l v k
  ·rw[List.length_append,zci l v k];rfl
def lnT (L:List (List UInt8)):List UInt8:=(L.map fun r=>r++[10]).flatten
theorem zdL (L:List (List UInt8))(r:List UInt8):lnT (L++[r])=lnT L++r++[10]:=by
 unfold lnT;rw[List.map_append,List.flatten_append];simp
def zca (q:List Nd):List (List UInt8):=if zaz q≤1 then zaj (zaT 3 q) 3 (zaT 3 q).length else zaj q 1 q.length
def znD:List UInt8:=[91,77,50,93,32,40,103,108,105,100,101,114,41,10,35,82,32]
def zft (rule:List UInt8)(q:List Nd):List UInt8:=znD++rule++[10]++lnT (zca q)
end Go.Proofs.YtfjajpnfjjdnpaaGreatDoor

namespace Go.Proofs.YtfjajpnfjjdnpaaGreatDoor
open Go.RowKit Lib
theorem zfU (C:UInt8)(s:ByteArray)(w:World)(hs:s.size≤maxLen) :
  Calls Tryz.prog 137 #[.string s,.int .u8 (C.toNat:Int)] w fun e w'=>e=.returned (.string ⟨(zaL C s.data.toList).toArray⟩)∧w'=w:=by
 obtain⟨R,hR⟩:∃R,R=zaL C s.data.toList:=⟨_,rfl⟩;rw[←hR];have HR:=Hh hR;have HS:=Hh hs;clear hR hs;go_enter Tryz.func137,Tryz.ntmps137;go_wp2_with fail;go_loopw [0] (fun z1 wr=>∃t:ByteArray,z1=.string t∧zaL C t.data.toList=R∧t.size≤maxLen∧wr=w) (fun z1 _=>zpZ z1)
 case atStart=>exact⟨s,rfl,HR.out.symm,HS.out,rfl⟩
 case round =>
  obtain⟨t,rfl,ht,htl,rfl⟩:=hrel;have HT:=Hh ht;have HTL:=Hh htl;clear ht htl;rcases Nat.eq_zero_or_pos t.size with h0|h0
  ·have t1:decide ((t.size:Int)>0)=false:=decide_eq_false (by omega);have t2:decide (0<t.size)=false:=decide_eq_false (by omega);have t3:(0<t.size)=False:=eq_false (by omega);have HE:=Hh (show t.data.toList=[] from List.eq_nil_of_length_eq_zero (by rw[zbM];exact h0));clear h0;go_wp2_with fail;go_ret;have e:R=[]:=by rw[←HT.out,HE.out];rfl
   refine⟨?_,rfl⟩;rw[e];have e2:t=⟨#[]⟩:=zef (by rw[HE.out]);rw[e2];rfl
  ·obtain⟨m,hm⟩:∃m,t.size=m+1:=⟨t.size-1,by omega⟩;have hlt:m<t.size:=by omega
   have t1:decide ((t.size:Int)>0)=true:=decide_eq_true (by omega);have t2:decide (0<t.size)=true:=decide_eq_true (by omega);have t3:(0<t.size)=True:=eq_true (by omega);have i1:IntKind.i64.wrap ((t.size:Int)-1)=(m:Int):=by
    rw[show(t.size:Int)-1=(m:Int) by omega];exact IntWalk.i64_in _ (by have:=HTL.out;unfold maxLen at this;omega)
   have i2:(0:Int)≤(m:Int):=by omega
   have i3:(m:Int)<(t.size:Int):=by omega
   have i4:(0:Int)≤(m:Int)∧(m:Int)≤(t.size:Int):=by omega
   have HSN:=Hh (zpi hm hlt);have HM:=Hh hm;have HGT:=Hh (ziC hlt);by_cases hx:(t[m]'hlt).toNat=C.toNat
   ·have u1:((((t[m]'hlt).toNat:Nat):Int)==((C.toNat:Nat):Int))=true:=by rw[hx];exact beq_self_eq_true _
    have HX:=Hh (show t[m]'hlt=C from UInt8.toNat_inj.1 hx);clear hm h0 hx;go_wp2_with fail;go_roundw
    case rel=>exact⟨t.extract 0 m,rfl,by(have h9:=HT.out;rw[HSN.out,zbe,if_pos HX.out] at h9;rw[zcP];exact h9),by have:=HTL.out;have h2:=HM.out;have h3:(t.extract 0 m).size=m:=(by rw[←zbM,zcP,List.length_take,zbM];omega);omega,trivial⟩
    case measure =>
     have h2:=HM.out;have h3:(t.extract 0 m).size=m:=by rw[←zbM,zcP,List.length_take,zbM];omega
     show(t.extract 0 m).size<t.size;omega
   ·have u1:((((t[m]'hlt).toNat:Nat):Int)==((C.toNat:Nat):Int))=false:=beq_eq_false_iff_ne.2 (by omega);have HX:=Hh (show ¬ t[m]'hlt=C from fun e=>hx (by rw[e]));clear hm h0 hx;go_wp2_with fail;go_ret;have e:R=t.data.toList:=by rw[←HT.out,HSN.out,zbe,if_neg HX.out]
    refine⟨?_,rfl⟩;rw[e];rfl
theorem zej (C:UInt8)(hC:C=36∨C=46)(s:ByteArray)(w:World)(hs:s.size≤maxLen) :
  Calls Tryz.prog 90 #[.string s,.string ⟨#[C]⟩] w fun e w'=>e=.returned (.string ⟨(zaL C s.data.toList).toArray⟩)∧w'=w:=by
 by_cases h0:s.data.toList=[]
 ·have e1:s.toList.isEmpty=true:=by
   rw[ByteArray.toList_eq,h0];rfl
  go_enter Tryz.func90,Tryz.ntmps90;go_wp2_with fail;go_ret;refine⟨?_,rfl⟩;rw[h0];have e2:s=⟨#[]⟩:=zef (by rw[h0]);rw[e2];rfl
 ·have e1:s.toList.isEmpty=false:=by
   rw[ByteArray.toList_eq];cases hl:s.data.toList with
   | nil=>exact absurd hl h0
   | cons x r=>rfl
  rcases hC with rfl|rfl
  ·have h1:=zfU 36 s w hs;go_enter Tryz.func90,Tryz.ntmps90;go_wp2_with (go_at_call 137;go_loud (refine h1.mono ?_;rintro e w1 ⟨rfl,rfl⟩));go_ret;exact⟨rfl,rfl⟩
  ·have h1:=zfU 46 s w hs;go_enter Tryz.func90,Tryz.ntmps90;go_wp2_with (go_at_call 137;go_loud (refine h1.mono ?_;rintro e w1 ⟨rfl,rfl⟩));go_ret;exact⟨rfl,rfl⟩
end Go.Proofs.YtfjajpnfjjdnpaaGreatDoor

namespace Go.Proofs.YtfjajpnfjjdnpaaGreatDoor
open Go.RowKit Nds
theorem zeG {w:World}{A:Option Addr}{c:Nat}{l:List Nd}(h:Ns w A c l)(n:Nat):Ns (w.drewN n) A c l:=h
def qbI (x y m:Nat):Nat:=x / 2^m%2+2*(y / 2^m%2)
theorem zoi (x y m:Nat):qbI x y m<4:=by unfold qbI;omega
theorem zmg:((List.range 8).all fun x=>(List.range 8).all fun y=>(List.range 3).all fun m =>
  decide (qtI (p2 m) ((x%2^(m+1):Nat):Int) ((y%2^(m+1):Nat):Int)=qbI x y m)&&decide (subI (p2 m) ((x%2^(m+1):Nat):Int)=((x%2^m:Nat):Int)))=true:=by kernel_rfl
theorem zqb {x y m:Nat}(hx:x<8)(hy:y<8)(hm:m<3):qtI (p2 m) ((x%2^(m+1):Nat):Int) ((y%2^(m+1):Nat):Int)=qbI x y m:=by
 have h:=List.all_eq_true.1 (List.all_eq_true.1 (List.all_eq_true.1 zmg x (List.mem_range.2 hx)) y (List.mem_range.2 hy)) m (List.mem_range.2 hm);exact of_decide_eq_true (Bool.and_eq_true_iff.1 h).1
theorem zmh {x m:Nat}(hx:x<8)(hm:m<3):subI (p2 m) ((x%2^(m+1):Nat):Int)=((x%2^m:Nat):Int):=by
 have h:=List.all_eq_true.1 (List.all_eq_true.1 (List.all_eq_true.1 zmg x (List.mem_range.2 hx)) 0 (List.mem_range.2 (by omega))) m (List.mem_range.2 hm);exact of_decide_eq_true (Bool.and_eq_true_iff.1 h).2
theorem znE:((List.range 8).all fun x=>decide (bits .and .i64 (x:Int) 1=((x / 2^0%2:Nat):Int))&&decide (bits .and .i64 ((x:Int) / 2) 1=((x / 2^1%2:Nat):Int))&&decide (bits .and .i64 ((x:Int) / 4) 1=((x / 2^2%2:Nat):Int)))=true:=by kernel_rfl
theorem zmi {x:Nat}(hx:x<8):bits .and .i64 (x:Int) 1=((x / 2^0%2:Nat):Int)∧bits .and .i64 ((x:Int) / 2) 1=((x / 2^1%2:Nat):Int)∧bits .and .i64 ((x:Int) / 4) 1=((x / 2^2%2:Nat):Int):=by
 have h:=List.all_eq_true.1 znE x (List.mem_range.2 hx);obtain⟨h1,h2⟩:=Bool.and_eq_true_iff.1 h;obtain⟨h3,h4⟩:=Bool.and_eq_true_iff.1 h1;exact⟨of_decide_eq_true h3,of_decide_eq_true h4,of_decide_eq_true h2⟩
theorem zqc {a b:Nat}(ha:a≤1)(hb:b≤1):IntKind.i64.wrap ((b:Int)*2)=((2*b:Nat):Int)∧bits .or .i64 (a:Int) ((2*b:Nat):Int)=((a+2*b:Nat):Int):=by
 rcases(show a=0∨a=1 by omega) with rfl|rfl <;> rcases(show b=0∨b=1 by omega) with rfl|rfl <;> exact⟨by kernel_rfl,by kernel_rfl⟩
def WayL (l:List Nd)(x y k:Nat)(v S:Int):Prop:=kidB l ((k:Int)+1) v=true∧getF k l v ((x%2^k:Nat):Int) ((y%2^k:Nat):Int)=S
theorem WayL.start {l:List Nd}{x y:Nat}{n:Int}(hn:kidB l 4 n=true)(hx:x<8)(hy:y<8):WayL l x y 3 n (getF 3 l n x y) :=
 ⟨hn,by rw[Nat.mod_eq_of_lt hx,Nat.mod_eq_of_lt hy]⟩
theorem WayL.zero {l:List Nd}{x y k:Nat}{S:Int}(h:WayL l x y k 0 S):S=0:=by
 rw[←h.2];cases k with
 | zero=>rfl
 | succ m=>exact if_pos rfl
theorem WayL.done {l:List Nd}{x y:Nat}{v S:Int}(h:WayL l x y 0 v S):S=v:=h.2.symm
theorem WayL.node {l:List Nd}{x y m:Nat}{v S:Int}(h:WayL l x y (m+1) v S)(h0:v≠0):∃p:Nat,v=(p:Int)+1∧p<l.length∧(Nds.at_ l p).lv=(m:Int)+1:=by
 have h1:=h.1;unfold kidB at h1;rw[if_neg (by omega)] at h1;rcases of_decide_eq_true h1 with e|⟨h2,h3,h4⟩
 ·exact absurd e h0
 ·refine⟨v.toNat-1,by omega,by omega,?_⟩;rw[h4];omega
theorem WayL.next {l:List Nd}(hl:zaa l=true){x y m p:Nat}{S:Int}(hx:x<8)(hy:y<8)(hm:m<3)(h:WayL l x y (m+1) ((p:Int)+1) S)(hp:p<l.length)(hv:(Nds.at_ l p).lv=(m:Int)+1) :
  WayL l x y m ((Nds.at_ l p).kid (qbI x y m)) S:=by
 have hf:=zad hl hp;have hk:=zag hf (zoi x y m);rw[hv] at hk;refine⟨hk,?_⟩;have h2:=h.2;unfold getF at h2;rw[if_neg (by omega),zqb hx hy hm,zmh hx hm,zmh hy hm] at h2;have e:zdE m l ((p:Int)+1)=Nds.at_ l p:=by
  unfold zdE;rw[if_neg (by omega),show((p:Int)+1-1).toNat=p by omega]
 rw[e] at h2;exact h2
theorem zpj (A:Option Addr)(c N:Nat)(l:List Nd)(n:Int)(x y:Nat)(w:World)(h:Ns w A c l)(hN:l.length=N)(hN9:N≤1000000)(hl:zaa l=true)(hn:kidB l 4 n=true)(hx:x<8)(hy:y<8) :
  Calls Tryz.prog 136 #[.slice A N c,.int .i64 n,.int .i64 (x:Int),.int .i64 (y:Int)] w fun e w'=>e=.returned (.int .u8 ((sgL l n y x).toNat:Int))∧∃m,w'=w.drewN m:=by
 have hcap:=h.cap;rw[hN] at hcap;obtain⟨S,hS⟩:∃S,S=getF 3 l n x y:=⟨_,rfl⟩;have HW0:=Hh (show WayL l x y 3 n S by rw[hS];exact WayL.start hn hx hy);obtain⟨R,hR⟩:∃R,R=sgL l n y x:=⟨_,rfl⟩;have HR:=Hh (show R=if S=0 then 46 else 42 by rw[hR,hS];rfl);rw[←hR];have HH:=Hh h;have HN:=Hh hN;have HL:=Hh hl;clear hS hR h hN hl hn;go_enter Tryz.func136,Tryz.ntmps136;go_wp2_with fail;go_loopw [9,1] (fun z1 z2 wr=>∃(k:Nat) (v:Int) (nd:Nat),k≤3∧z1=.int .i64 ((k:Int)-1)∧z2=.int .i64 v∧WayL l x y k v S∧wr=w.drewN nd) (fun z1 _ _=>(intOf z1+1).toNat)
 case atStart=>exact⟨3,_,0,Nat.le_refl _,rfl,rfl,HW0.out,rfl⟩
 case round =>
  obtain⟨k,v,nd,hk,rfl,rfl,hw,rfl⟩:=hrel;have HW:=Hh hw;clear hw;by_cases hv:v=0
  ·subst hv;have hS0:=HW.out.zero;subst hS0;have hd:∀b:Bool,(b&&false)=false:=fun b=>by cases b <;> rfl
   cases k with
   | zero =>
    go_wp2_with fail;go_ret;rw[HR.out];exact⟨rfl,_,rfl⟩
   | succ m =>
    have t1:decide (((m:Int)+1-1)≥0)=true:=decide_eq_true (by omega);have e1:((m+1:Nat):Int)-1=(m:Int):=by omega
    rw[e1];go_wp2_with fail;go_ret;rw[HR.out];exact⟨rfl,_,rfl⟩
  ·have tv:(v==0)=false:=beq_eq_false_iff_ne.2 hv;have tv2:(v != 0)=true:=by rw[bne_iff_ne];exact hv
   cases k with
   | zero =>
    have hS1:=HW.out.done;subst hS1;go_wp2_with fail;go_ret;rw[HR.out,if_neg hv];exact⟨rfl,_,rfl⟩
   | succ m =>
    obtain⟨p,hp,hpl,hlv⟩:=HW.out.node hv;subst hp;have HX:=Hh (HW.out.next HL.out hx hy (by omega) hpl hlv);obtain⟨b,off,rfl,hb,hcc⟩:=HH.out.at_ (by omega)
    have c1:=(hcc p hpl).kid (zoi x y m);obtain⟨u,hu⟩:∃u,u=(Nds.at_ l p).kid (qbI x y m):=⟨_,rfl⟩;rw[←hu] at c1 HX;have hpN:p<N:=by rw[←HN.out];exact hpl
    have i0:(0:Int)≤(p:Int):=by omega
    have i1:(p:Int)<(N:Int):=by omega
    have HM:=Hh hk;clear hcc hu hlv hpl hb HW;have ip:IntKind.i64.wrap (p:Int)=(p:Int):=IntWalk.i64_in _ (by omega);obtain⟨x0,x1,x2⟩:=zmi hx;obtain⟨y0,y1,y2⟩:=zmi hy;obtain⟨a,ha⟩:∃a,a=x / 2^m%2:=⟨_,rfl⟩;obtain⟨d,hd⟩:∃d,d=y / 2^m%2:=⟨_,rfl⟩;obtain⟨o1,o2⟩:=zqc (a:=a) (b:=d) (by omega) (by omega);have j0:(0:Int)≤((a+2*d:Nat):Int):=by omega
    have j1:((a+2*d:Nat):Int)<4:=by omega
    rw[show qbI x y m=a+2*d by rw[ha,hd];rfl] at c1;obtain⟨r,hr⟩:∃r,r=a+2*d:=⟨_,rfl⟩;rw[←hr] at c1 o2 j0 j1;obtain⟨d2,hd2⟩:∃r,r=2*d:=⟨_,rfl⟩;rw[←hd2] at o1 o2;clear hr hd2;rcases(show m=0∨m=1∨m=2 by omega) with rfl|rfl|rfl
    ·rw[←ha] at x0;rw[←hd] at y0;clear ha hd x1 x2 y1 y2;go_wp2_with fail;go_quiet (fail);go_wp2_with fail;go_roundw
     case rel=>exact⟨_,_,_,by have:=HM.out;omega,rfl,rfl,HX.out,by first|rfl|exact World.drewN_drewN _ _ _⟩
     case measure=>simp[intOf]
    ·rw[←ha] at x1;rw[←hd] at y1;clear ha hd x0 x2 y0 y2;go_wp2_with fail;go_quiet (fail);go_wp2_with fail;go_roundw
     case rel=>exact⟨_,_,_,by have:=HM.out;omega,rfl,rfl,HX.out,by first|rfl|exact World.drewN_drewN _ _ _⟩
     case measure=>simp[intOf]
    ·rw[←ha] at x2;rw[←hd] at y2;clear ha hd x0 x1 y0 y1;go_wp2_with fail;go_quiet (fail);go_wp2_with fail;go_roundw
     case rel=>exact⟨_,_,_,by have:=HM.out;omega,rfl,rfl,HX.out,by first|rfl|exact World.drewN_drewN _ _ _⟩
     case measure=>simp[intOf]
end Go.Proofs.YtfjajpnfjjdnpaaGreatDoor

namespace Go.Proofs.YtfjajpnfjjdnpaaGreatDoor
open Go.RowKit Nds Lib
theorem Wb.next {b:Nat}{bs:List Value}{w w':World}(h:Wb b bs w)(k:Below w.heap.size w w'):Wb b bs w':=by
 have key:∀p,WbA b p bs w→WbA b p bs w':=fun p ⟨h1,v,hb,ho,hne⟩=>by
  refine⟨h1,v,(k.block _ (Array.getElem?_eq_some_iff.1 hb).1).trans hb,⟨ho.1,?_⟩,hne⟩;rcases ho.2 with h2|⟨g,cap,cur,fz,hv,r1,r2,r3⟩
  ·exact .inl h2
  ·exact .inr ⟨g,cap,cur,fz,hv,r1,(k.block _ (Array.getElem?_eq_some_iff.1 r2).1).trans r2,r3⟩
 rcases h with h|h
 ·exact .inl (key _ h)
 ·exact .inr (key _ h)
def b8v (b:UInt8):Value:=.int .u8 (b.toNat:Int)
def ByR (w:World)(g:Nat)(bs:List UInt8):Prop:=w.heap[g]?=some (.cells (bs.map b8v).toArray 170)
theorem ByR.cell {w:World}{g:Nat}{bs:List UInt8}(h:ByR w g bs){k:Nat}(hk:k<bs.length):w.cell? ⟨g,k,none⟩=some (.int .u8 ((bs.getD k 0).toNat:Int)):=by
 rw[cell_of_row w g _ _ _ (0,0) h,List.getElem?_toArray,List.getElem?_map,List.getD_eq_getElem?_getD,List.getElem?_eq_getElem hk];rfl
theorem ByR.free {w:World}{g:Nat}{bs:List UInt8}(h:ByR w g bs)(k:Nat):w.frozen? ⟨g,k,none⟩=false:=frozen_of_row w g k _ _ h
theorem ByR.set {w:World}{g k:Nat}{bs:List UInt8}(h:ByR w g bs)(u:UInt8):ByR (w.setCell ⟨g,k,none⟩ (.int .u8 (u.toNat:Int))) g (bs.set k u):=by
 refine(heap_setCell_same w g k _ _ _ h).trans ?_;rw[List.map_set];simp[b8v]
theorem ByR.conv {W:World}{g:Nat}{bs:List UInt8}(h:ByR W g bs)(hl:bs.length=8) :
  (convert 83 9 (.slice (some ⟨g,0,none⟩) 8 8)).run Tryz.prog W=.ok (.string ⟨bs.toArray⟩) W:=by
 rw[←hl];refine run_convert_bytes_back (P:=Tryz.prog) W 83 9 5 ⟨g,0,none⟩ bs.length bs Tryz.underlying83 Tryz.underlying5 Tryz.underlying9 (fun j hj=>?_);have h1:=h.cell hj;rw[List.getD_eq_getElem?_getD,List.getElem?_eq_getElem hj] at h1;have e:(⟨g,0,none⟩:Addr).add j=⟨g,j,none⟩:=by cases j <;> simp[Addr.add]
 rw[e];exact h1
def rowK (l:List Nd)(n:Int)(y k:Nat):List UInt8:=(List.range 8).map fun j=>if j<k then sgL l n y j else 0
theorem zcQ (l:List Nd)(n:Int)(y k:Nat):(rowK l n y k).length=8:=by
 unfold rowK;simp
theorem znF (l:List Nd)(n:Int)(y:Nat):rowK l n y 8=rowF l n y:=by
 unfold rowK rowF;refine List.map_congr_left fun j hj=>?_;rw[if_pos (List.mem_range.1 hj)]
theorem zmj (l:List Nd)(n:Int)(y k:Nat):rowK l n y (k+1)=(rowK l n y k).set k (sgL l n y k):=by
 refine List.ext_getElem? fun j=>?_;rw[List.getElem?_set,zcQ];by_cases hj:j<8
 ·have e:∀m,(rowK l n y m)[j]?=some (if j<m then sgL l n y j else 0):=fun m=>by
   unfold rowK;rw[List.getElem?_map,List.getElem?_range hj];rfl
  rw[e,e];by_cases h2:k=j
  ·subst h2;rw[if_pos (by omega),if_pos rfl,if_pos hj]
  ·rw[if_neg h2];by_cases h3:j<k
   ·rw[if_pos h3,if_pos (by omega)]
   ·rw[if_neg h3,if_neg (by omega)]
 ·rw[List.getElem?_eq_none (by rw[zcQ];omega),List.getElem?_eq_none (by rw[zcQ];omega)];split
  ·rw[if_neg (by omega)]
  ·rfl
theorem zmk (A:Option Addr)(c N:Nat)(l:List Nd)(n:Int)(y:Nat)(w:World)(h:Ns w A c l)(hN:l.length=N)(hN9:N≤1000000)(hl:zaa l=true)(hn:kidB l 4 n=true)(hy:y<8) :
  Calls Tryz.prog 88 #[.slice A N c,.int .i64 n,.int .i64 (y:Int)] w fun e w'=>e=.returned (.string ⟨(rowL l n y).toArray⟩)∧Below w.heap.size w w':=by
 have HH:=Hh h;have HN:=Hh hN;have HL:=Hh hl;have HK:=Hh hn;obtain⟨g,hg⟩:∃g,g=w.heap.size:=⟨_,rfl⟩;obtain⟨W0,hW0⟩:∃W:World,W=w.alloc (.cells #[.int .u8 0,.int .u8 0,.int .u8 0,.int .u8 0,.int .u8 0,.int .u8 0,.int .u8 0,.int .u8 0] 170):=⟨_,rfl⟩;have HB0:=Hh (show Below g w W0 by rw[hW0,hg];exact(Below.refl _ _).alloc (Nat.le_refl _) _);have HR0:=Hh (show ByR W0 g (rowK l n y 0) by rw[hW0,hg];exact heap_alloc_new w _);have HG:=Hh hg;obtain⟨R,hR⟩:∃R,R=rowL l n y:=⟨_,rfl⟩;rw[←hR];have HRR:=Hh hR;clear h hN hl hn hR;go_enter Tryz.func88,Tryz.ntmps88;go_upto_region 2 with fail
 rw[←hg,←hW0];clear hg hW0;go_wp2_with fail;go_loopw [9,8] (fun z1 z2 wr=>∃(k:Nat) (v:Value),z1=.int .i64 k∧v=z2∧k≤8∧ByR wr g (rowK l n y k)∧Below g w wr) (fun z1 _ _=>8-(intOf z1).toNat)
 case atStart=>exact⟨0,_,rfl,rfl,Nat.zero_le _,HR0.out,HB0.out⟩
 case round =>
  obtain⟨k,v,rfl,rfl,hk,hr,hb⟩:=hrel;have HR:=Hh hr;have HB:=Hh hb;clear hr hb;by_cases hlt:k<8
  ·have kw:IntKind.i64.wrap ((k:Int)+1)=(k:Int)+1:=IntWalk.i64_in _ (by omega);have t1:decide ((k:Int)<8)=true:=decide_eq_true (by omega);have i0:(0:Int)≤(k:Int):=by omega
   have i1:(k:Int)<8:=by omega
   have HLT:=Hh hlt;obtain⟨s,hs⟩:∃s,s=sgL l n y k:=⟨_,rfl⟩;have HS:=Hh hs;have c1:=HR.out.cell (k:=k) (by rw[zcQ];exact hlt);have f1:=HR.out.free k;clear hs hlt;go_wp2_with (go_at_call 136;go_loud (refine(zpj A c N l n k y _ (HH.out.below (show Below w.heap.size w _ by rw[←HG.out];exact HB.out)) HN.out hN9 HL.out HK.out HLT.out hy).mono ?_;rintro e w2 ⟨rfl,m,rfl⟩;rw[←HS.out];have HR2:=Hh (show ByR (wr.drewN m) g (rowK l n y k) from HR.out);have HB2:=Hh (zab HB.out m);have c1:=HR2.out.cell (k:=k) (by rw[zcQ];exact HLT.out);have f1:=HR2.out.free k));go_roundw
   case rel=>exact⟨k+1,_,by go_num,rfl,HLT.out,by rw[zmj,←HS.out];exact HR2.out.set s,HB2.out.setCell (Nat.le_refl _) _⟩
   case measure=>have:=HLT.out;simp[intOf];omega
  ·obtain rfl:k=8:=by omega
   have hcv:=HR.out.conv (zcQ l n y 8);rw[znF] at hcv;obtain⟨s,hs⟩:∃s:ByteArray,s=⟨(rowF l n y).toArray⟩:=⟨_,rfl⟩;rw[←hs] at hcv;have HSZ:=Hh (show s.size≤maxLen by rw[hs,zav,zeE];decide);have HSD:=Hh (show rowL l n y=zaL 46 s.data.toList by rw[hs];rfl);clear hs;go_wp2_with (go_at_call 90;go_loud (refine(zej 46 (.inr rfl) s _ HSZ.out).mono ?_;rintro e w2 ⟨rfl,rfl⟩));go_ret;exact⟨by rw[HRR.out,HSD.out];rfl,by rw[←HG.out];exact HB.out⟩
theorem zdM (A:Option Addr)(c N:Nat)(l:List Nd)(n:Int)(w:World)(h:Ns w A c l)(hN:l.length=N)(hN9:N≤1000000)(hl:zaa l=true)(hn:kidB l 4 n=true) :
  Calls Tryz.prog 43 #[.slice A N c,.int .i64 n] w fun e w'=>e=.returned (.string ⟨(zbc l n).toArray⟩)∧Below w.heap.size w w':=by
 have HH:=Hh h;have HN:=Hh hN;have HL:=Hh hl;have HK:=Hh hn;have S0:=Hh (Wb.fresh w);obtain⟨b,hb⟩:∃b,b=w.heap.size:=⟨_,rfl⟩;rw[←hb] at S0;have HG:=Hh hb;obtain⟨R,hR⟩:∃R,R=zbc l n:=⟨_,rfl⟩;rw[←hR];have HRR:=Hh hR;clear hR;have B0:=Hh (show Below b w (w.alloc (.cells #[.pointer none,.slice none 0 0] 85)) by rw[hb];exact(Below.refl _ _).alloc (Nat.le_refl _) _);clear h hN hl hn;go_enter Tryz.func43,Tryz.ntmps43;go_upto_region 2 with fail
 rw[←hb];clear hb;go_wp2_with fail;go_loopw [8,6] (fun z1 z2 wr=>∃(k:Nat) (v:Value),z1=.int .i64 k∧v=z2∧k≤8∧Wb b (byteCells (zbu l n k)) wr∧Below b w wr) (fun z1 _ _=>8-(intOf z1).toNat)
 case atStart=>exact⟨0,_,rfl,rfl,Nat.zero_le _,S0.out,B0.out⟩
 case round =>
  obtain⟨k,v,rfl,rfl,hk,hr,hb⟩:=hrel;have HR:=Hh hr;have HB:=Hh hb;have hbs:b≤wr.heap.size:=by
   have:=hb.size;rw[←HG.out] at this;exact this
  have HJ:=Hh (zdJ l n k);clear hr hb;by_cases hlt:k<8
  ·have kw:IntKind.i64.wrap ((k:Int)+1)=(k:Int)+1:=IntWalk.i64_in _ (by omega);have t1:decide ((k:Int)<8)=true:=decide_eq_true (by omega);have HLT:=Hh hlt;obtain⟨s,hs⟩:∃s:ByteArray,s=⟨(rowL l n k).toArray⟩:=⟨_,rfl⟩;have HS:=Hh hs;have HSZ:=Hh (show s.size≤8 by rw[hs,zav];exact zeF l n k);have HSD:=Hh (show s.data.toList=rowL l n k by rw[hs]);clear hs hlt;go_wp2_with (first
    | (go_at_call 88;go_loud (refine(zmk A c N l n k _ (HH.out.below (show Below w.heap.size w _ by rw[←HG.out];exact HB.out)) HN.out hN9 HL.out HK.out HLT.out).mono ?_;rintro e w2 ⟨rfl,b2⟩;rw[←HS.out];have HR2:=Hh (HR.out.next b2);have HB2:=Hh (HB.out.trans (b2.mono hbs));have hbs2:=Nat.le_trans hbs b2.size;clear b2))
    | (go_at_call 87;go_loud (refine(zeD b _ s _ HR2.out (by have:=HJ.out;have:=HSZ.out;omega) hbs2).mono ?_;rintro e w3 ⟨rfl,h3,k3⟩;rw[HSD.out] at h3;have HR3:=Hh h3;have HB3:=Hh (HB2.out.trans k3.1);have hbs3:=Nat.le_trans hbs2 k3.1.size;clear h3 k3))
    | (go_at_call 89;go_loud (refine(zgP b _ 36 _ HR3.out (by rw[List.length_append];have:=HJ.out;have:=zeF l n k;omega) hbs3).mono ?_;rintro e w4 ⟨rfl,h4,k4⟩;rw[←zaY] at h4;have HR4:=Hh h4;have HB4:=Hh (HB3.out.trans k4.1);clear h4 k4)))
   go_roundw
   case rel=>exact⟨k+1,_,by go_num,rfl,HLT.out,HR4.out,HB4.out⟩
   case measure=>have:=HLT.out;simp[intOf];omega
  ·obtain rfl:k=8:=by omega
   obtain⟨s,hs⟩:∃s:ByteArray,s=⟨(zbu l n 8).toArray⟩:=⟨_,rfl⟩;have HS:=Hh hs;have HSZ:=Hh (show s.size≤maxLen by rw[hs,zav];have:=HJ.out;unfold maxLen;omega);obtain⟨t,ht⟩:∃t:ByteArray,t=⟨(zaL 36 s.data.toList).toArray⟩:=⟨_,rfl⟩;have HTT:=Hh ht;have HTZ:=Hh (show t.size≤72 by rw[ht,zav];have h1:=zhy 36 s.data.toList;have h2:=HJ.out;rw[hs] at h1 ⊢;simp only[List.length] at h1 ⊢;omega);have HLF:=Hh (show zbc l n=if t.data.toList=[] then [] else t.data.toList++[36] by rw[ht,hs];rfl);have hne0:zbu l n 8≠[]:=by rw[zaY];simp
   have HNE:=Hh hne0;clear hs ht hne0;by_cases h0:t.data.toList=[]
   ·have e1:t.toList.isEmpty=true:=by
     rw[ByteArray.toList_eq,h0];rfl
    have HE:=Hh (show R=[] by rw[HRR.out,HLF.out,if_pos h0]);clear h0;go_wp2_with (first
     | (go_at_call 54;go_loud (refine(zik b _ _ HR.out HNE.out).mono ?_;rintro e w6 ⟨rfl,b6⟩;rw[←HS.out];have B6:=Hh (HB.out.trans b6);clear b6))
     | (go_at_call 90;go_loud (refine(zej 36 (.inl rfl) s _ HSZ.out).mono ?_;rintro e w2 ⟨rfl,rfl⟩;rw[←HTT.out])))
    go_ret;exact⟨by rw[HE.out];rfl,by rw[←HG.out];exact B6.out⟩
   ·have e1:t.toList.isEmpty=false:=by
     rw[ByteArray.toList_eq];cases hl:t.data.toList with
     | nil=>exact absurd hl h0
     | cons x r=>rfl
    have hz1:(9223372036854775807<t.size+1)=False:=eq_false (by have:=HTZ.out;omega);have hz:(9223372036854775807<t.size+(⟨#[36]⟩:ByteArray).size)=False:=eq_false (by have:=HTZ.out;show ¬ 9223372036854775807<t.size+1;omega);have HE:=Hh (show R=t.data.toList++[36] by rw[HRR.out,HLF.out,if_neg h0]);clear h0;go_wp2_with (first
     | (go_at_call 54;go_loud (refine(zik b _ _ HR.out HNE.out).mono ?_;rintro e w6 ⟨rfl,b6⟩;rw[←HS.out];have B6:=Hh (HB.out.trans b6);clear b6))
     | (go_at_call 90;go_loud (refine(zej 36 (.inl rfl) s _ HSZ.out).mono ?_;rintro e w2 ⟨rfl,rfl⟩;rw[←HTT.out])))
    go_ret;refine⟨?_,by rw[←HG.out];exact B6.out⟩;have e3:t++(⟨#[36]⟩:ByteArray)=⟨(t.data.toList++[36]).toArray⟩:=zef (by simp);rw[HE.out,←e3];rfl
end Go.Proofs.YtfjajpnfjjdnpaaGreatDoor

namespace Go.Proofs.YtfjajpnfjjdnpaaGreatDoor
open Go.RowKit Lib
theorem zko:∀n,n<10→Digs.digs n=[UInt8.ofNat (48+n)]:=fun n h=>by
 have h1:((List.range 10).all fun n=>Digs.digs n==[UInt8.ofNat (48+n)])=true:=by kernel_rfl
 exact eq_of_beq (List.all_eq_true.1 h1 n (List.mem_range.2 h))
theorem zhD (n:Nat):Lib.decDigits n=Digs.digs n:=by
 induction n using Nat.strongRecOn with
 | ind n ih =>
  by_cases h:n<10
  ·rw[Lib.decDigits_one h,zko n h]
  ·rw[Lib.decDigits,dif_neg h,ih (n / 10) (by omega)];have h2:=Digs.digs_ten (n:=n / 10) (k:=n%10) (by omega) (by omega);rw[show n / 10*10+n%10=n by omega] at h2;rw[h2];rfl
abbrev TabP (w:World):Prop:=Lib.TabIs Tryz.prog w "internal/strconv.uint64pow10" .u64 Lib.pow10Tab
theorem zal {w w':World}(h:TabP w)(hb:Below w.heap.size w w'):TabP w':=Go.Joins.tab_stays (g:=1) (by kernel_rfl) h hb (Nat.le_refl _)
theorem zfV (n:Nat)(w:World)(h:n≤9223372036854775807)(T:TabP w) :
  Calls Tryz.prog 75 #[.int .i64 (n:Int)] w fun e w'=>e=.returned (.string ⟨(Digs.digs n).toArray⟩)∧Below w.heap.size w w':=by
 refine(Any.strconv_Itoa Tryz.itN (n:Int) (by omega) (by omega) w T).mono ?_;rintro e w' ⟨rfl,k,os,rfl⟩;rw[Lib.itoa_nonneg,zhD];exact⟨rfl,⟨rfl,rfl,rfl,by show w.heap.size≤(w.heap++os).size;rw[Array.size_append];omega,fun j hj=>by show(w.heap++os)[j]?=_;exact Array.getElem?_append_left hj⟩⟩
end Go.Proofs.YtfjajpnfjjdnpaaGreatDoor

namespace Go.Proofs.YtfjajpnfjjdnpaaGreatDoor
open Go.RowKit Nds Lib
def brK (v:Nat)(f:Nat→Nat):Nat→List UInt8
 | 0=>Digs.digs v
 | k+1=>brK v f k++[32]++Digs.digs (f k)
theorem zcR {n:Nat}(h:n≤1000000):(Digs.digs n).length≤7:=Digs.digs_length_le (k:=7) (by omega) (by omega)
theorem zgR {v:Nat}{f:Nat→Nat}(hv:v≤1000000):∀k,(∀j,j<k→f j≤1000000)→(brK v f k).length≤7+8*k
 | 0,_=>zcR hv
 | k+1,hf=>by
  show(brK v f k++[32]++Digs.digs (f k)).length≤_;rw[List.length_append,List.length_append];have h1:=zgR hv k (fun j hj=>hf j (by omega));have h2:=zcR (hf k (by omega));simp only[List.length_cons,List.length_nil];omega
theorem zml {v:Nat}{f:Nat→Nat}(hv:v≤1000000)(hf:∀j,j<4→f j≤1000000):(brT v f).length≤39:=zgR hv 4 hf
def knN (f:Nat→Nat):Nd:=⟨0,f 0,f 1,f 2,f 3⟩
theorem zpk (f:Nat→Nat){k:Nat}(hk:k<4):(knN f).kid k=(f k:Int):=by
 match k,hk with
 | 0,_=>rfl
 | 1,_=>rfl
 | 2,_=>rfl
 | 3,_=>rfl
theorem zfh (v:Nat)(f:Nat→Nat)(w:World)(T:TabP w)(hv:v≤1000000)(hf:∀j,j<4→f j≤1000000) :
  Calls Tryz.prog 129 #[.int .i64 (v:Int),.agg #[.int .i64 (f 0:Int),.int .i64 (f 1:Int),.int .i64 (f 2:Int),.int .i64 (f 3:Int)]] w fun e w'=>e=.returned (.string ⟨(brT v f).toArray⟩)∧Below w.heap.size w w':=by
 have HF:=Hh hf;obtain⟨g,hg⟩:∃g,g=w.heap.size:=⟨_,rfl⟩;obtain⟨W0,hW0⟩:∃W:World,W=w.alloc (.cells #[.int .i64 (f 0:Int),.int .i64 (f 1:Int),.int .i64 (f 2:Int),.int .i64 (f 3:Int)] 68):=⟨_,rfl⟩;have hb0:Below w.heap.size w W0:=by rw[hW0];exact(Below.refl _ _).alloc (Nat.le_refl _) _
 have HB0:=Hh hb0;have HT0:=Hh (zal T hb0);have HX0:=Hh (show zbH W0 g (knN f) by rw[hW0,hg];exact zbH.new w (knN f));have HI:=Hh (show ∀(k:Nat) (hk:k<4) (W:World),(Instr.index 68 (.agg #[.int .i64 (knN f).a,.int .i64 (knN f).b,.int .i64 (knN f).c,.int .i64 (knN f).d]) (.int .i64 (k:Int))).run Tryz.prog W=.ok (.int .i64 (f k:Int)) W from fun k hk W=>by
  have:=zeP (knN f) k hk W;rw[zpk f hk] at this;exact this)
 have hgs:g≤w.heap.size:=by omega
 obtain⟨T0,hT0⟩:∃T,T=brT v f:=⟨_,rfl⟩;rw[←hT0];have HR:=Hh hT0;obtain⟨s0,hs0⟩:∃s:ByteArray,s=⟨(brK v f 0).toArray⟩:=⟨_,rfl⟩;have HS0:=Hh hs0;have HD0:=Hh (show(⟨(Digs.digs v).toArray⟩:ByteArray)=s0 from hs0.symm);obtain⟨a0,a1,a2,a3⟩:∃a0 a1 a2 a3:Int,a0=f 0∧a1=f 1∧a2=f 2∧a3=f 3:=⟨_,_,_,_,rfl,rfl,rfl,rfl⟩;clear T hf hb0 hT0 hs0;obtain⟨x0,x1,x2,x3⟩:=HX0.out.at_
 go_enter Tryz.func129,Tryz.ntmps129;go_upto_region 1 with fail
 rw[←hg,←hW0];clear hg hW0;go_wp2_with (go_at_call 75;go_loud (refine(zfV v _ (by omega) HT0.out).mono ?_;rintro e w1 ⟨rfl,b1⟩;rw[HD0.out];have HX1:=Hh (HX0.out.stay (b1.block g HX0.out.lt));have HB1:=Hh (HB0.out.trans (b1.mono HB0.out.size));have HT1:=Hh (zal HT0.out b1);clear x0 x1 x2 x3 b1;obtain⟨x0,x1,x2,x3⟩:=HX1.out.at_));go_loopw [11,5,7] (fun z1 z2 z3 wr=>∃(k:Nat) (u:Value),z1=.int .i64 k∧z2=.string ⟨(brK v f k).toArray⟩∧u=z3∧k≤4∧TabP wr∧Below w.heap.size w wr) (fun z1 _ _ _=>4-(intOf z1).toNat)
 case atStart=>exact⟨0,_,rfl,by rw[HS0.out],rfl,Nat.zero_le _,HT1.out,HB1.out⟩
 case round =>
  obtain⟨k,u,rfl,rfl,rfl,hk,ht,hb⟩:=hrel;have HT:=Hh ht;have HB:=Hh hb;clear ht hb;obtain⟨s,hs⟩:∃s:ByteArray,s=⟨(brK v f k).toArray⟩:=⟨_,rfl⟩;rw[←hs];have HS:=Hh hs;have hsz:s.size≤39:=by
   rw[hs,zav];have:=zgR hv k (fun j hj=>HF.out j (by omega));omega
  clear hs;by_cases hlt:k<4
  ·have kw:IntKind.i64.wrap ((k:Int)+1)=(k:Int)+1:=IntWalk.i64_in _ (by omega);have t1:decide ((k:Int)<4)=true:=decide_eq_true (by omega);have hix:=HI.out k hlt;obtain⟨q,hq⟩:∃q,q=f k:=⟨_,rfl⟩;rw[←hq] at hix;have hq9:q≤1000000:=by rw[hq];exact HF.out k hlt
   obtain⟨t,ht⟩:∃t:ByteArray,t=⟨(Digs.digs q).toArray⟩:=⟨_,rfl⟩;have HTD:=Hh ht;have htz:t.size≤7:=by rw[ht,zav];exact zcR hq9
   have HQ:=Hh hq;have HLT:=Hh hlt;have z1:(9223372036854775807<(⟨#[32]⟩:ByteArray).size+t.size)=False:=eq_false (by show ¬ 9223372036854775807<1+t.size;omega);have z2:(9223372036854775807<s.size+((⟨#[32]⟩:ByteArray)++t).size)=False:=eq_false (by rw[ByteArray.size_append];show ¬ 9223372036854775807<s.size+(1+t.size);omega);have z3:(9223372036854775807<s.size+((⟨#[32]⟩:ByteArray).size+t.size))=False:=eq_false (by show ¬ 9223372036854775807<s.size+(1+t.size);omega);have HNX:=Hh (show s++((⟨#[32]⟩:ByteArray)++t)=⟨(brK v f (k+1)).toArray⟩ by
    refine zef ?_;rw[HS.out,ht,hq];show _=brK v f k++[32]++Digs.digs (f k);simp)
   clear hq ht hlt;go_wp2_with (go_at_call 75;go_loud (refine(zfV q _ (by omega) HT.out).mono ?_;rintro e w2 ⟨rfl,b2⟩;rw[←HTD.out];have HB2:=Hh (HB.out.trans (b2.mono HB.out.size));have HT2:=Hh (zal HT.out b2);clear b2));go_roundw
   case rel=>exact⟨k+1,_,by go_num,by rw[←HNX.out],rfl,HLT.out,HT2.out,HB2.out⟩
   case measure=>have:=HLT.out;simp[intOf];omega
  ·obtain rfl:k=4:=by omega
   go_wp2_with fail;go_ret;refine⟨?_,HB.out⟩;rw[HS.out,HR.out];rfl
theorem zbH.setAt {w:World}{g:Nat}{z:Nd}{k:Nat}(h:zbH w g z)(hk:k<4)(u:Int):zbH (w.setCell ⟨g,k,none⟩ (.int .i64 u)) g (chK z k u):=by
 refine(heap_setCell_same w g k _ _ _ h).trans ?_
 match k,hk with
 | 0,_=>rfl
 | 1,_=>rfl
 | 2,_=>rfl
 | 3,_=>rfl
def Ris (w:World)(g:Nat)(xs:List Nat):Prop:=g<w.heap.size∧∀j,j<xs.length→w.cell? ⟨g,j,none⟩=some (.int .i64 ((xs.getD j 0:Nat):Int))
theorem Ris.next {w w':World}{g:Nat}{xs:List Nat}(h:Ris w g xs)(hb:Below w.heap.size w w'):Ris w' g xs:=⟨Nat.lt_of_lt_of_le h.1 hb.size,fun j hj=>(hb.cell (p:=⟨g,j,none⟩) h.1).trans (h.2 j hj)⟩
theorem zkp (x:Nd)(p:Nat→Nat)(xs:List Nat)(g N:Nat)(w:World)(h:Ris w g xs)(hN:xs.length=N)(hN9:N≤1000001)(hx:∀j,j<4→x.kid j=(p j:Int)∧p j<N) :
  Calls Tryz.prog 130 #[.agg #[.int .i64 x.a,.int .i64 x.b,.int .i64 x.c,.int .i64 x.d],.slice (some ⟨g,0,none⟩) N N] w fun e w'=>e=.returned (.agg #[.int .i64 (xs.getD (p 0) 0:Nat),.int .i64 (xs.getD (p 1) 0:Nat),.int .i64 (xs.getD (p 2) 0:Nat),.int .i64 (xs.getD (p 3) 0:Nat)])∧Below w.heap.size w w':=by
 have HX:=Hh hx;obtain⟨B,hB⟩:∃B,B=w.heap.size:=⟨_,rfl⟩;obtain⟨W0,hW0⟩:∃W:World,W=(w.alloc (.cells #[.int .i64 x.a,.int .i64 x.b,.int .i64 x.c,.int .i64 x.d] 68)).alloc (.cells #[.int .i64 0,.int .i64 0,.int .i64 0,.int .i64 0] 68):=⟨_,rfl⟩;have hb0:Below w.heap.size w W0:=by rw[hW0];exact((Below.refl _ _).alloc (Nat.le_refl _) _).alloc (by simp) _
 have HB0:=Hh (show Below B w W0 by rw[hB];exact hb0);have HR0:=Hh (h.next hb0);have HX0:=Hh (show zbH W0 B x by
  rw[hW0,hB];exact(zbH.new w x).stay (Lib.alloc_old _ _ _ (by rw[World.size_alloc];exact Nat.lt_succ_self _)))
 have HY0:=Hh (show zbH W0 (B+1) nd0 by
  have h1:=heap_alloc_new (w.alloc (.cells #[.int .i64 x.a,.int .i64 x.b,.int .i64 x.c,.int .i64 x.d] 68)) (.cells #[.int .i64 0,.int .i64 0,.int .i64 0,.int .i64 0] 68);rw[World.size_alloc,←hB,←hW0] at h1;exact h1)
 have HI:=Hh (zeP x);have HNN:=Hh hN;have HBE:=Hh hB;have hgB:g<B:=by rw[hB];exact h.1
 obtain⟨x0,x1,x2,x3⟩:=HX0.out.at_
 obtain⟨r0,r1,r2,r3,h0,h1,h2,h3⟩:∃r0 r1 r2 r3:Int,r0=(xs.getD (p 0) 0:Nat)∧r1=(xs.getD (p 1) 0:Nat)∧r2=(xs.getD (p 2) 0:Nat)∧r3=(xs.getD (p 3) 0:Nat):=⟨_,_,_,_,rfl,rfl,rfl,rfl⟩;rw[←h0,←h1,←h2,←h3];have HRE:=Hh (And.intro h0 (And.intro h1 (And.intro h2 h3)));clear h hx hb0 hN h0 h1 h2 h3;go_enter Tryz.func130,Tryz.ntmps130;go_upto_region 1 with fail
 rw[←hW0,←hB];clear hW0 hB;go_wp2_with fail;go_loopw [8,5,6] (fun z1 z2 z3 wr=>∃(k:Nat) (z:Nd) (u v:Value),z1=.int .i64 k∧u=z2∧v=z3∧k≤4∧zbH wr B z∧(∀j,j<4→z.kid j=if j<k then ((xs.getD (p j) 0:Nat):Int) else x.kid j)∧zbH wr (B+1) nd0∧Ris wr g xs∧Below B w wr) (fun z1 _ _ _=>4-(intOf z1).toNat)
 case atStart=>exact⟨0,x,_,_,rfl,rfl,rfl,Nat.zero_le _,HX0.out,fun j hj=>rfl,HY0.out,HR0.out,HB0.out⟩
 case round =>
  obtain⟨k,z,u,v,rfl,rfl,rfl,hk,hz,hzk,hy,hr,hb⟩:=hrel;have HZ:=Hh hz;have HZK:=Hh hzk;have HY:=Hh hy;have HR:=Hh hr;have HB:=Hh hb;clear hz hzk hy hr hb x0 x1 x2 x3;by_cases hlt:k<4
  ·have kw:IntKind.i64.wrap ((k:Int)+1)=(k:Int)+1:=IntWalk.i64_in _ (by omega);have t1:decide ((k:Int)<4)=true:=decide_eq_true (by omega);have hix:=HI.out k hlt;obtain⟨e1,e2⟩:=HX.out k hlt;rw[e1] at hix;obtain⟨q,hq⟩:∃q,q=p k:=⟨_,rfl⟩;rw[←hq] at hix e2;have c1:=HR.out.2 q (by rw[HNN.out];exact e2);have c2:=HZ.out.cell hlt;have f2:=HZ.out.free k;have i0:(0:Int)≤(q:Int):=by omega
   have i1:(q:Int)<(N:Int):=by omega
   have j0:(0:Int)≤(k:Int):=by omega
   have j1:(k:Int)<4:=by omega
   have HLT:=Hh hlt;have HQ:=Hh hq;clear hq hlt e1;go_wp2_with fail;go_roundw
   case rel =>
    refine⟨k+1,chK z k _,_,_,by go_num,rfl,rfl,HLT.out,HZ.out.setAt HLT.out _,fun j hj=>?_,HY.out.stay (Below.heap_setCell _ _ _ _ (by simp)),⟨?_,fun j hj=>?_⟩,HB.out.setCell (Nat.le_refl _) _⟩
    ·rw[zgG z HLT.out _ hj];by_cases h1:j=k
     ·subst h1;rw[if_pos rfl,if_pos (by omega),HQ.out]
      first|rfl|(rw[List.getD_eq_getElem?_getD])
     ·rw[if_neg h1,HZK.out j hj];by_cases h2:j<k
      ·rw[if_pos h2,if_pos (by omega)]
      ·rw[if_neg h2,if_neg (by omega)]
    ·exact Nat.lt_of_lt_of_le HR.out.1 (by simp)
    ·have h1:=HR.out.2 j hj;rw[←h1];exact World.cell?_of_block (Below.heap_setCell _ _ _ _ (show g≠B by omega))
   case measure=>have:=HLT.out;simp[intOf];omega
  ·obtain rfl:k=4:=by omega
   obtain⟨x0,x1,x2,x3⟩:=HZ.out.at_
   obtain⟨y0,y1,y2,y3⟩:=HY.out.at_
   have f0:=HY.out.free 0;have f1:=HY.out.free 1;have f2:=HY.out.free 2;have f3:=HY.out.free 3;have k0:z.a=_:=HZK.out 0 (by omega);have k1:z.b=_:=HZK.out 1 (by omega);have k2:z.c=_:=HZK.out 2 (by omega);have k3:z.d=_:=HZK.out 3 (by omega);rw[if_pos (by omega)] at k0 k1 k2 k3;rw[←HRE.out.1] at k0;rw[←HRE.out.2.1] at k1;rw[←HRE.out.2.2.1] at k2;rw[←HRE.out.2.2.2] at k3;have HK:=Hh (And.intro k0 (And.intro k1 (And.intro k2 k3)));clear k0 k1 k2 k3;go_wp2_with fail;have m0:=HY.out.setAt (k:=0) (by omega) z.a;have m1:=m0.setAt (k:=1) (by omega) z.b;have m2:=m1.setAt (k:=2) (by omega) z.c;have m3:=m2.setAt (k:=3) (by omega) z.d;obtain⟨W4,hW4⟩:∃W:World,W=((((wr.setCell ⟨B+1,0,none⟩ (.int .i64 z.a)).setCell ⟨B+1,1,none⟩ (.int .i64 z.b)).setCell ⟨B+1,2,none⟩ (.int .i64 z.c)).setCell ⟨B+1,3,none⟩ (.int .i64 z.d)):=⟨_,rfl⟩;rw[←hW4] at m3 ⊢;have hbw:Below B w W4:=by
    rw[hW4];exact(((HB.out.setCell (p:=⟨B+1,0,none⟩) (Nat.le_succ B) _).setCell (p:=⟨B+1,1,none⟩) (Nat.le_succ B) _).setCell (p:=⟨B+1,2,none⟩) (Nat.le_succ B) _).setCell (p:=⟨B+1,3,none⟩) (Nat.le_succ B) _
   obtain⟨q0,q1,q2,q3⟩:=m3.at_
   refine bodyPost_ret (v:=.agg #[.int .i64 z.a,.int .i64 z.b,.int .i64 z.c,.int .i64 z.d]) (by simp[results,Tryz.results130,go_sem,q0,q1,q2,q3,chK]) rfl ?_;exact⟨by rw[←HK.out.1,←HK.out.2.1,←HK.out.2.2.1,←HK.out.2.2.2],by rw[←HBE.out];exact hbw⟩
theorem zdN {l:List Nd}(hl:zaa l=true)(hn:l.length≤1000000){i k:Nat}(hi:i<l.length)(hk:k<4):0≤(Nds.at_ l i).kid k∧(Nds.at_ l i).kid k≤1000000∧(1<(Nds.at_ l i).lv→(Nds.at_ l i).kid k≤(i:Int)):=by
 have h:=zag (zaf.1 hl i hi) hk;unfold kidB at h;split at h
 ·have:=of_decide_eq_true h;exact⟨this.1,by omega,fun h1=>by omega⟩
 ·have h1:=of_decide_eq_true h;rw[List.length_take] at h1;exact⟨by omega,by omega,fun _=>by omega⟩
theorem zcS {l:List Nd}(hl:zaa l=true){i:Nat}(hi:i<l.length):1≤(Nds.at_ l i).lv∧(Nds.at_ l i).lv≤1329:=zam (zaf.1 hl i hi)
theorem zfi {l:List Nd}(hl:zaa l=true)(hn:l.length≤1000000){v:Int}{i:Nat}(hi:i<l.length):(zbn l v i).length≤72:=by
 have hv:=zcS hl hi;unfold zbn;split
 ·have:=zml (v:=(Nds.at_ l i).lv.toNat) (f:=fun k=>numL l v ((Nds.at_ l i).kid k).toNat) (by omega) (fun j hj=>by
   have h1:=zil l v ((Nds.at_ l i).kid j).toNat;have h2:=zdN hl hn hi hj;show numL l v ((Nds.at_ l i).kid j).toNat≤1000000;omega)
  omega
 ·split
  ·exact zhB _ _
  ·have:=zml (v:=(Nds.at_ l i).lv.toNat) (f:=fun k=>((Nds.at_ l i).kid k).toNat) (by omega) (fun j hj=>by
    have h2:=zdN hl hn hi hj;show((Nds.at_ l i).kid j).toNat≤1000000;omega)
   omega
theorem zim {l:List Nd}(hl:zaa l=true)(hn:l.length≤1000000){v:Int}:∀k,k≤l.length→(lnT (zaj l v k)).length≤73*k
 | 0,_=>Nat.le_refl _
 | k+1,hk=>by
  have ih:=zim hl hn (v:=v) k (by omega);unfold zaj;split
  ·omega
  ·rw[zdL,List.length_append,List.length_append];have:=zfi hl hn (v:=v) (i:=k) (by omega);simp only[List.length_cons,List.length_nil];omega
theorem zpl {L:List (List UInt8)}(h:lnT L=[]):L=[]:=by
 cases L with
 | nil=>rfl
 | cons r t =>
  unfold lnT at h;simp at h
theorem OwnD.keep {w w':World}{base g n:Nat}{ds:List Nat}(h:OwnD w base g n ds)(hb:w'.heap[g]?=w.heap[g]?):OwnD w' base g n ds:=by
 refine⟨h.1,h.2.1,?_⟩;rcases h.2.2 with h2|⟨g2,cap,cur,hv,r1,r2,r3⟩
 ·exact .inl h2
 ·cases hv;exact .inr ⟨_,_,cur,rfl,r1,hb.trans r2,r3⟩
theorem OwnD.ke {w w':World}{base g n b:Nat}{ds:List Nat}(h:OwnD w base g n ds)(k:Ke b w w')(hg:g≠b):OwnD w' base g n ds:=by
 refine h.keep ?_;rcases h.2.2 with h2|⟨g2,cap,cur,hv,r1,r2,r3⟩
 ·cases h2.1
 ·cases hv;rw[r2];exact k.2 g _ r2 (by simpa using hg) (fun c fz e=>by cases e)
theorem OwnD.ris {w:World}{base g n:Nat}{ds:List Nat}(h:OwnD w base g n ds):Ris w g ds:=⟨h.lt.2,fun j hj=>h.cell (by rw[←h.1];exact hj)⟩
theorem zat.ke {w w':World}{g b:Nat}{x:Nd}(h:zat w g x)(k:Ke b w w')(hg:g≠b):zat w' g x:=k.2 g _ h (by simpa using hg) (fun c fz e=>by cases e)
theorem zfW {w w':World}(h:w.grownBy w' none):Below w.heap.size w w':=(Below.refl _ _).grown h (Nat.le_refl _) (fun k hk=>by cases hk)
theorem Wb.store {b:Nat}{bs:List Value}{w:World}(h:Wb b bs w){g:Nat}(hg:g≠b){c:Array Value}{fz:Nat × Nat}(hr:w.heap[g]?=some (.cells c 3 fz))(k:Nat)(u:Value):Wb b bs (w.setCell ⟨g,k,none⟩ u):=by
 have key:∀p,WbA b p bs w→WbA b p bs (w.setCell ⟨g,k,none⟩ u):=fun p ⟨h1,v,hb,ho,hne⟩=>by
  refine⟨h1,v,(Below.heap_setCell _ _ _ _ (fun e=>hg e.symm)).trans hb,⟨ho.1,?_⟩,hne⟩;rcases ho.2 with h2|⟨g2,cap,cur,fz2,hv,r1,r2,r3⟩
  ·exact .inl h2
  ·refine .inr ⟨g2,cap,cur,fz2,hv,r1,(Below.heap_setCell _ _ _ _ (fun e=>?_)).trans r2,r3⟩;subst e;rw[r2] at hr;cases hr
 rcases h with h|h
 ·exact .inl (key _ h)
 ·exact .inr (key _ h)
theorem OwnD.row {w:World}{base g n:Nat}{ds:List Nat}(h:OwnD w base g n ds):∃c fz,w.heap[g]?=some (.cells c 3 fz):=by
 rcases h.2.2 with h2|⟨g2,cap,cur,hv,r1,r2,r3⟩
 ·cases h2.1
 ·cases hv;exact⟨_,_,r2⟩
theorem znG (b:Nat)(w:World)(h:w.heap[b]?=some (.cells #[.pointer none,.slice none 0 0] 85)) :
  Calls Tryz.prog 54 #[.pointer (some ⟨b,0,none⟩)] w fun e w'=>e=.returned (.string ⟨#[]⟩)∧Below b w w':=by
 have c1:w.drew.cell? ⟨b,1,none⟩=some (.slice none 0 0):=by
  rw[show w.drew.cell? ⟨b,1,none⟩=w.cell? ⟨b,1,none⟩ from rfl,cell_of_row w b _ _ _ (0,0) h];rfl
 have hSD:(Builtin.unsafeSliceData_ #[83] 143 #[.slice none 0 0]).run Tryz.prog w.drew=.ok (.pointer none) w.drew:=by kernel_rfl
 have hUS:(Builtin.unsafeString_ #[143,3] 9 #[.pointer none,.int .i64 0]).run Tryz.prog w.drew=.ok (.string ⟨#[]⟩) w.drew:=by kernel_rfl
 have mixed:Tryz.prog.follows .mixedOrders=true:=by kernel_rfl
 go_enter Tryz.func54,Tryz.ntmps54;go_wp2;go_region_o
 all_goals (go_wp2;go_ret;exact⟨rfl,Below.drew (Below.refl b w)⟩)
structure Lq (w0 W:World)(b g nb N:Nat)(x:Nd)(T:List UInt8)(ds:List Nat):Prop where
 below:Below b w0 W
 size:b≤W.heap.size
 text:Wb b (byteCells T) W
 nums:OwnD W (b+1) g (N+1) ds
 box:zat W nb x
 nbb:nb≠b
 gb:g≠b
theorem Lq.next {w0 W W':World}{b g nb N:Nat}{x:Nd}{T:List UInt8}{ds:List Nat}(h:Lq w0 W b g nb N x T ds)(k:Below W.heap.size W W'):Lq w0 W' b g nb N x T ds :=
 ⟨h.below.trans (k.mono h.size),Nat.le_trans h.size k.size,h.text.next k,h.nums.keep (k.block g h.nums.lt.2),h.box.stay (k.block nb h.box.lt),h.nbb,h.gb⟩
theorem Lq.wrote {w0 W W':World}{b g nb N:Nat}{x:Nd}{T T':List UInt8}{ds:List Nat}(h:Lq w0 W b g nb N x T ds)(t:Wb b (byteCells T') W')(k:Ke b W W'):Lq w0 W' b g nb N x T' ds :=
 ⟨h.below.trans k.1,Nat.le_trans h.size k.1.size,t,h.nums.ke k h.gb,h.box.ke k h.nbb,h.nbb,h.gb⟩
theorem Lq.drew {w0 W:World}{b g nb N:Nat}{x:Nd}{T:List UInt8}{ds:List Nat}(h:Lq w0 W b g nb N x T ds):Lq w0 W.drew b g nb N x T ds:=h.next (Below.refl _ _).drew
structure LnP (w0 wr:World)(A:Option Addr)(c N:Nat)(l:List Nd)(v:Int)(b g k:Nat):Prop where
 below:Below b w0 wr
 text:Wb b (byteCells (lnT (zaj l v k))) wr
 nums:OwnD wr (b+1) g (N+1) (zbv l v N k)
 none:zaj l v k=[]→wr.heap[b]?=some (.cells #[.pointer none,.slice none 0 0] 85)
theorem zmm (A:Option Addr)(c N:Nat)(l:List Nd)(v:Int)(w:World)(h:Ns w A c l)(hN:l.length=N)(hN9:N≤1000000)(hl:zaa l=true)(hv:v=1∨v=3)(T:TabP w) :
  Calls Tryz.prog 83 #[.slice A N c,.int .i64 v] w fun e w'=>e=.returned (.string ⟨(lnT (zaj l v N)).toArray⟩)∧Below w.heap.size w w':=by
 have hcap:=h.cap;rw[hN] at hcap;have HH:=Hh h;have HN:=Hh hN;have HL:=Hh hl;have HT:=Hh T;have HV:=Hh hv;have HLL:=Hh (zim hl (by omega) (v:=v));obtain⟨i0,hi,hz0,hz1,hz2⟩:=info_parts Tryz.infoI;have HI:=Hh (And.intro hi (And.intro hz0 (And.intro hz1 hz2)));have S0:=Hh (Wb.fresh w);obtain⟨b,hb⟩:∃b,b=w.heap.size:=⟨_,rfl⟩;rw[←hb] at S0;have HG:=Hh hb;obtain⟨W1,hW1⟩:∃W:World,W=w.alloc (.cells #[.pointer none,.slice none 0 0] 85):=⟨_,rfl⟩;rw[←hW1] at S0;have HF0:=Hh (show W1.heap[b]?=some (.cells #[.pointer none,.slice none 0 0] 85) by rw[hW1,hb];exact heap_alloc_new w _);have B0:=Hh (show Below b w W1 by rw[hW1,hb];exact(Below.refl _ _).alloc (Nat.le_refl _) _);have HZ1:=Hh (show W1.heap.size=b+1 by rw[hW1,World.size_alloc,hb]);obtain⟨R,hR⟩:∃R,R=lnT (zaj l v N):=⟨_,rfl⟩;rw[←hR];have HR:=Hh hR;have kN:IntKind.i64.wrap ((N:Int)+1)=(N:Int)+1:=IntWalk.i64_in _ (by omega);clear h hN hl hv T hi hz0 hz1 hz2 hR;go_enter Tryz.func83,Tryz.ntmps83;go_upto_region 2 with fail
 rw[←hb,←hW1];clear hb hW1;go_wp2_with (at_make;go_loud (refine wpList_make_full _ rfl _ _ 99 rfl (b+1) 3 i0 _ 1 Tryz.underlying99 HI.out.1 HI.out.2.1 HI.out.2.2.1 .i64 .i64 _ _ (N+1) rfl rfl (by omega) (by omega) (by rw[HI.out.2.2.2];omega) (by unfold maxLen;omega) (by rw[HZ1.out];exact Nat.le_refl _) ?_;intro W2 hown hgrow));obtain⟨g,hg⟩:∃g,g=W1.heap.size:=⟨_,rfl⟩;rw[←hg] at hown ⊢;have HGB:=Hh (show g=b+1 by rw[hg];exact HZ1.out);have hb2:Below b w W2:=B0.out.grown hgrow (by rw[HZ1.out];omega) (fun k hk=>by cases hk);have HL0:=Hh (show LnP w W2 A c N l v b g 0 from⟨hb2,S0.out.next (zfW hgrow),by rw[zfS];exact OwnD.made hown,fun _=>((zfW hgrow).block b (by rw[HZ1.out];omega)).trans HF0.out⟩);clear hg hown hgrow hb2;go_wp2_with fail;go_loopw [16,7,8,9] (fun z1 z2 z3 z4 wr=>∃(k:Nat) (v3 v4:Value),z1=.int .i64 k∧z2=.int .i64 ((cntL l v k:Nat):Int)∧v3=z3∧v4=z4∧k≤N∧LnP w wr A c N l v b g k) (fun z1 _ _ _ _=>N-(intOf z1).toNat)
 case atStart=>exact⟨0,_,_,rfl,rfl,rfl,rfl,Nat.zero_le _,HL0.out⟩
 case round =>
  obtain⟨k,v3,v4,rfl,rfl,rfl,rfl,hk,hp⟩:=hrel;have HP:=Hh hp;clear hp;obtain⟨ct,hct⟩:∃ct,ct=cntL l v k:=⟨_,rfl⟩;have hct9:ct≤k:=by rw[hct];exact zei l v k
  rw[←hct];have HC:=Hh hct;have HTX:=Hh (HLL.out k (by rw[HN.out];exact hk));clear hct;by_cases hlt:k<N
  ·have kw:IntKind.i64.wrap ((k:Int)+1)=(k:Int)+1:=IntWalk.i64_in _ (by omega);have cw:IntKind.i64.wrap ((ct:Int)+1)=(ct:Int)+1:=IntWalk.i64_in _ (by omega);have t1:decide ((k:Int)<(N:Int))=true:=decide_eq_true (by omega);have i1:(k:Int)<(N:Int):=by omega
   have i2:(0:Int)≤(k:Int)+1:=by omega
   have i3:(k:Int)+1<(N:Int)+1:=by omega
   have hkl:k<l.length:=by rw[HN.out];exact hlt
   have HKL:=Hh hkl;obtain⟨bl,off,rfl,hbl,hcl⟩:=HH.out.at_ (by omega)
   rw[←HG.out] at hbl;obtain⟨c1,c2,c3,c4,c5⟩:=(hcl k hkl).below (HP.out.below.block bl hbl);have HBL:=Hh hbl;obtain⟨x,hx⟩:∃x,x=Nds.at_ l k:=⟨_,rfl⟩
   have hlv:=zcS HL.out hkl;rw[←hx] at c1 c2 c3 c4 c5 hlv;have HX:=Hh hx;obtain⟨nb,hnb⟩:∃nb,nb=wr.heap.size:=⟨_,rfl⟩;obtain⟨Wn,hWn⟩:∃W:World,W=wr.alloc (.cells #[.int .i64 x.lv,.int .i64 x.a,.int .i64 x.b,.int .i64 x.c,.int .i64 x.d] 70):=⟨_,rfl⟩;have hal:Below wr.heap.size wr Wn:=by rw[hWn];exact(Below.refl _ _).alloc (Nat.le_refl _) _
   have hbs:b≤wr.heap.size:=by have h1:=HP.out.below.size;rw[←HG.out] at h1;exact h1
   have HPn:=Hh (show LnP w Wn (some ⟨bl,off,none⟩) c N l v b g k from⟨HP.out.below.trans (hal.mono hbs),HP.out.text.next hal,HP.out.nums.keep (hal.block g HP.out.nums.lt.2),fun e=>(hal.block b (by have:=HP.out.nums.lt;omega)).trans (HP.out.none e)⟩);have HBn:=Hh (show zat Wn nb x by rw[hWn,hnb];exact zat.new wr x);have HNn:=Hh (show Ns Wn (some ⟨bl,off,none⟩) c l from HH.out.belowB (B:=b) (fun a e=>by cases e;exact hbl) HPn.out.below);have HNB:=Hh (show nb≠b by have:=HP.out.nums.lt;rw[hnb];omega);have HNG:=Hh (show nb≠g by have:=HP.out.nums.lt;rw[hnb];omega);have HSZ:=Hh (show b≤Wn.heap.size from Nat.le_trans hbs hal.size);clear hx hcl hbl hkl hal hbs hlt;go_upto_region 7 with fail
   rw[←hnb,←hWn];clear hnb hWn c1 c2 c3 c4 c5 HP;obtain⟨d0,d1,d2,d3,d4⟩:=HBn.out.at_
   by_cases hs:x.lv<v
   ·have t2:decide (x.lv<v)=true:=decide_eq_true hs;have HSK:=Hh (show(Nds.at_ l k).lv<v by rw[←HX.out];exact hs);clear hs;go_wp2_with fail;go_roundw
    case rel=>exact⟨k+1,_,_,by go_num,by rw[HC.out,show cntL l v (k+1)=cntL l v k from if_pos HSK.out],rfl,rfl,by have:=HKL.out;have:=HN.out;omega,⟨HPn.out.below,by rw[show zaj l v (k+1)=zaj l v k from if_pos HSK.out];exact HPn.out.text,by rw[zfT HSK.out];exact HPn.out.nums,fun e=>HPn.out.none (by rwa [show zaj l v (k+1)=zaj l v k from if_pos HSK.out] at e)⟩⟩
    case measure=>have:=HKL.out;have:=HN.out;simp[intOf];omega
   ·have t2:decide (x.lv<v)=false:=decide_eq_false hs;have HSK:=Hh (show ¬ (Nds.at_ l k).lv<v by rw[←HX.out];exact hs);have o1:=HPn.out.nums.cell (k:=k+1) (by omega);have o2:=HPn.out.nums.free (k+1);have hgb:g≠b:=by rw[HGB.out];omega
    obtain⟨Ws,hWs⟩:∃W:World,W=Wn.setCell ⟨g,k+1,none⟩ (.int .i64 ((ct:Int)+1)):=⟨_,rfl⟩;have hblk:∀j,j≠g→Ws.heap[j]?=Wn.heap[j]?:=fun j hj=>by rw[hWs];exact Below.heap_setCell _ _ _ _ hj
    have hgB:b+1≤g:=HPn.out.nums.lt.1;have hbw:Below g Wn Ws:=by rw[hWs];exact(Below.refl g Wn).setCell (p:=⟨g,k+1,none⟩) (Nat.le_refl g) _
    have HQ:=Hh (show Lq w Ws b g nb N x (lnT (zaj l v k)) (zbv l v N (k+1)) from⟨HPn.out.below.trans (hbw.mono (by omega)),Nat.le_trans HSZ.out hbw.size,by rw[hWs];obtain⟨cc,ff,hr⟩:=HPn.out.nums.row;exact HPn.out.text.store hgb hr _ _,by rw[zfg HSK.out,←HC.out,hWs];exact HPn.out.nums.set (k+1) (ct+1),HBn.out.stay (hblk nb HNG.out),HNB.out,hgb⟩);have HNs:=Hh (show Ns Ws (some ⟨bl,off,none⟩) c l from HH.out.belowB (B:=b) (fun a e=>by cases e;exact HBL.out) HQ.out.below);go_upto_region 11 with fail
    rw[←hWs];have HLN:=Hh (show cntL l v (k+1)=ct+1 by rw[HC.out];exact if_neg HSK.out);have HLS:=Hh (show zaj l v (k+1)=zaj l v k++[zbn l v k] from if_neg HSK.out);have HKX:=Hh (show ∀j,j<4→x.kid j=(((x.kid j).toNat:Nat):Int)∧(x.kid j).toNat≤1000000∧(1<x.lv→(x.kid j).toNat<k+1) from fun j hj=>by
     have h1:=zdN HL.out (by rw[HN.out];exact hN9) HKL.out hj;rw[←HX.out] at h1;exact⟨by omega,by omega,fun h2=>by have:=h1.2.2 h2;omega⟩)
    have HLL2:=Hh (zfi HL.out (by rw[HN.out];exact hN9) (v:=v) HKL.out);clear hWs hblk hbw o1 o2 d0 d1 d2 d3 d4 hgb hgB;obtain⟨lvn,hlvn⟩:∃m:Nat,x.lv=(m:Int):=⟨x.lv.toNat,by omega⟩;have HLV:=Hh hlvn;have hl9:lvn≤1329:=by omega
    have HFIN:=Hh (show ∀W:World,Lq w W b g nb N x (lnT (zaj l v (k+1))) (zbv l v N (k+1))→LnP w W (some ⟨bl,off,none⟩) c N l v b g (k+1) from fun W h1=>⟨h1.below,h1.text,h1.nums,fun e=>by rw[HLS.out] at e;simp at e⟩);by_cases hg:x.lv>v
    ·have t3:decide (x.lv>v)=true:=decide_eq_true hg;have t4:decide (v<x.lv)=true:=t3;have HLE:=Hh (show zbn l v k=brT lvn (fun j=>numL l v (x.kid j).toNat) by
      unfold zbn;rw[←HX.out,if_pos hg,hlvn];rfl)
     have HLV1:=Hh (show 1<x.lv by have h9:=HV.out;omega);clear hg hs hlvn;obtain⟨d0,d1,d2,d3,d4⟩:=HQ.out.box.at_
     go_wp2_with fail;have HQd:=Hh HQ.out.drew;clear d0 d1 d2 d3 d4;obtain⟨d0,d1,d2,d3,d4⟩:=HQd.out.box.at_
     rw[HLV.out] at d0;obtain⟨f,hf⟩:∃f:Nat→Nat,f=fun j=>(zbv l v N (k+1)).getD (x.kid j).toNat 0:=⟨_,rfl⟩;have HRN:=Hh (show ∀W:World,Ris W g (zbv l v N (k+1))→Calls Tryz.prog 130 #[.agg #[.int .i64 x.a,.int .i64 x.b,.int .i64 x.c,.int .i64 x.d],.slice (some ⟨g,0,none⟩) (N+1) (N+1)] W fun e w'=>e=.returned (.agg #[.int .i64 (f 0:Nat),.int .i64 (f 1:Nat),.int .i64 (f 2:Nat),.int .i64 (f 3:Nat)])∧Below W.heap.size W w' from fun W h=>by
      rw[hf];exact zkp x (fun j=>(x.kid j).toNat) (zbv l v N (k+1)) g (N+1) W h (zdK _ _ _ _) (by omega) (fun j hj=>⟨(HKX.out j hj).1,by have h1:=(HKX.out j hj).2.2 HLV1.out;have:=HKL.out;have:=HN.out;show(x.kid j).toNat<N+1;omega⟩))
     have hfe:∀j,j<4→f j=numL l v (x.kid j).toNat:=fun j hj=>by
      rw[hf];have h1:=(HKX.out j hj).2.2 HLV1.out;show(zbv l v N (k+1)).getD (x.kid j).toNat 0=_;rw[zhC (by have:=HKL.out;have:=HN.out;omega),if_pos (by omega)]
     have HFN:=Hh (show ∀j,j<4→f j≤1000000 from fun j hj=>by
      rw[hfe j hj];have h1:=zil l v (x.kid j).toNat;have h2:=(HKX.out j hj).2.1;omega)
     have HLB:=Hh (show zbn l v k=brT lvn f by
      rw[HLE.out];unfold brT;rw[hfe 0 (by omega),hfe 1 (by omega),hfe 2 (by omega),hfe 3 (by omega)])
     obtain⟨sb,hsb⟩:∃s:ByteArray,s=⟨(brT lvn f).toArray⟩:=⟨_,rfl⟩;have HSB:=Hh hsb;have HSD:=Hh (show sb.data.toList=zbn l v k by rw[hsb,HLB.out]);have HSS:=Hh (show sb.size≤72 by rw[←zbM,HSD.out];exact HLL2.out);clear hf hsb hfe;go_region_held3 (fun w'=>w'.cell? ⟨nb,0,none⟩=some (.int .i64 (lvn:Int))∧w'.cell? ⟨nb,1,none⟩=some (.int .i64 x.a)∧w'.cell? ⟨nb,2,none⟩=some (.int .i64 x.b)∧w'.cell? ⟨nb,3,none⟩=some (.int .i64 x.c)∧w'.cell? ⟨nb,4,none⟩=some (.int .i64 x.d))
      (first|go_keep|exact⟨d0,d1,d2,d3,d4⟩)
      (first
       | (go_at_call 130;go_loud (refine(HRN.out _ HQd.out.nums.ris).mono ?_;rintro e w4 ⟨rfl,b4⟩;have HQ4:=Hh (HQd.out.next b4);clear b4 d0 d1 d2 d3 d4;obtain⟨d0,d1,d2,d3,d4⟩:=HQ4.out.box.at_;rw[HLV.out] at d0))
       | (go_at_call 129;go_loud (refine(zfh lvn f _ (zal HT.out (by rw[←HG.out];exact HQ4.out.below)) (by omega) HFN.out).mono ?_;rintro e w5 ⟨rfl,b5⟩;rw[←HSB.out];have HQ5:=Hh (HQ4.out.next b5);clear b5 d0 d1 d2 d3 d4;obtain⟨d0,d1,d2,d3,d4⟩:=HQ5.out.box.at_;rw[HLV.out] at d0))
       | (go_at_call 87;go_loud (refine(zeD b _ sb _ HQ5.out.text (by have:=HTX.out;have:=HSS.out;omega) HQ5.out.size).mono ?_;rintro e w6 ⟨rfl,h6,k6⟩;rw[HSD.out] at h6;have HQ6:=Hh (HQ5.out.wrote h6 k6);clear h6 k6 d0 d1 d2 d3 d4;obtain⟨d0,d1,d2,d3,d4⟩:=HQ6.out.box.at_;rw[HLV.out] at d0)))
     all_goals (
      go_wp2_with (go_at_call 89;go_loud (refine(zgP b _ 10 _ HQ6.out.text (by rw[List.length_append];have:=HTX.out;have:=HLL2.out;omega) HQ6.out.size).mono ?_;rintro e w7 ⟨rfl,h7,k7⟩;rw[←zdL,←HLS.out] at h7;have HQ7:=Hh (HQ6.out.wrote h7 k7);clear h7 k7));go_roundw
      case rel=>exact⟨k+1,_,_,by go_num,by rw[HLN.out];rfl,rfl,rfl,by have:=HKL.out;have:=HN.out;omega,HFIN.out _ HQ7.out⟩
      case measure=>have:=HKL.out;have:=HN.out;simp[intOf];omega)
    ·have t3:decide (x.lv>v)=false:=decide_eq_false hg;have t4:decide (v<x.lv)=false:=t3;have HVX:=Hh (show x.lv=v by omega);obtain⟨d0,d1,d2,d3,d4⟩:=HQ.out.box.at_
     by_cases h3:v=3
     ·have t5:(v==3)=true:=beq_iff_eq.2 h3;have HLE:=Hh (show zbn l v k=zbc l ((k:Int)+1) by
       unfold zbn;rw[←HX.out,if_neg hg,if_pos h3])
      have HKB:=Hh (show kidB l 4 ((k:Int)+1)=true by
       rw[zbW l 4 k (by omega) HKL.out,←HX.out];exact decide_eq_true (by omega))
      obtain⟨sb,hsb⟩:∃s:ByteArray,s=⟨(zbc l ((k:Int)+1)).toArray⟩:=⟨_,rfl⟩;have HSB:=Hh hsb;have HSD:=Hh (show sb.data.toList=zbn l v k by rw[hsb,HLE.out]);have HSS:=Hh (show sb.size≤72 by rw[←zbM,HSD.out];exact HLL2.out);clear hg hs hlvn h3 hsb;go_wp2_with (first
       | (go_at_call 43;go_loud (refine(zdM _ c N l _ _ HNs.out HN.out hN9 HL.out HKB.out).mono ?_;rintro e w5 ⟨rfl,b5⟩;rw[←HSB.out];have HQ5:=Hh (HQ.out.next b5);clear b5 d0 d1 d2 d3 d4))
       | (go_at_call 87;go_loud (refine(zeD b _ sb _ HQ5.out.text (by have:=HTX.out;have:=HSS.out;omega) HQ5.out.size).mono ?_;rintro e w6 ⟨rfl,h6,k6⟩;rw[HSD.out] at h6;have HQ6:=Hh (HQ5.out.wrote h6 k6);clear h6 k6))
       | (go_at_call 89;go_loud (refine(zgP b _ 10 _ HQ6.out.text (by rw[List.length_append];have:=HTX.out;have:=HLL2.out;omega) HQ6.out.size).mono ?_;rintro e w7 ⟨rfl,h7,k7⟩;rw[←zdL,←HLS.out] at h7;have HQ7:=Hh (HQ6.out.wrote h7 k7);clear h7 k7)))
      go_roundw
      case rel=>exact⟨k+1,_,_,by go_num,by rw[HLN.out];rfl,rfl,rfl,by have:=HKL.out;have:=HN.out;omega,HFIN.out _ HQ7.out⟩
      case measure=>have:=HKL.out;have:=HN.out;simp[intOf];omega
     ·have t5:(v==3)=false:=beq_eq_false_iff_ne.2 h3;obtain⟨f,hf⟩:∃f:Nat→Nat,f=fun j=>(x.kid j).toNat:=⟨_,rfl⟩;have HLE:=Hh (show zbn l v k=brT lvn f by
       unfold zbn;rw[←HX.out,if_neg hg,if_neg h3,hlvn,hf];rfl)
      have HFN:=Hh (show ∀j,j<4→f j≤1000000 from fun j hj=>by
       rw[hf];exact(HKX.out j hj).2.1)
      have q0:x.a=(f 0:Int):=by rw[hf];exact(HKX.out 0 (by omega)).1
      have q1:x.b=(f 1:Int):=by rw[hf];exact(HKX.out 1 (by omega)).1
      have q2:x.c=(f 2:Int):=by rw[hf];exact(HKX.out 2 (by omega)).1
      have q3:x.d=(f 3:Int):=by rw[hf];exact(HKX.out 3 (by omega)).1
      have HBR:=Hh (show ∀W:World,TabP W→Calls Tryz.prog 129 #[.int .i64 x.lv,.agg #[.int .i64 x.a,.int .i64 x.b,.int .i64 x.c,.int .i64 x.d]] W fun e w'=>e=.returned (.string ⟨(brT lvn f).toArray⟩)∧Below W.heap.size W w' from fun W h=>by
       rw[q0,q1,q2,q3,hlvn];exact zfh lvn f W h (by omega) HFN.out)
      obtain⟨sb,hsb⟩:∃s:ByteArray,s=⟨(brT lvn f).toArray⟩:=⟨_,rfl⟩;have HSB:=Hh hsb;have HSD:=Hh (show sb.data.toList=zbn l v k by rw[hsb,HLE.out]);have HSS:=Hh (show sb.size≤72 by rw[←zbM,HSD.out];exact HLL2.out);clear hg hs hlvn h3 hf hsb q0 q1 q2 q3;go_wp2_with (first
       | (go_at_call 129;go_loud (refine(HBR.out _ (zal HT.out (by rw[←HG.out];exact HQ.out.below))).mono ?_;rintro e w5 ⟨rfl,b5⟩;rw[←HSB.out];have HQ5:=Hh (HQ.out.next b5);clear b5 d0 d1 d2 d3 d4))
       | (go_at_call 87;go_loud (refine(zeD b _ sb _ HQ5.out.text (by have:=HTX.out;have:=HSS.out;omega) HQ5.out.size).mono ?_;rintro e w6 ⟨rfl,h6,k6⟩;rw[HSD.out] at h6;have HQ6:=Hh (HQ5.out.wrote h6 k6);clear h6 k6))
       | (go_at_call 89;go_loud (refine(zgP b _ 10 _ HQ6.out.text (by rw[List.length_append];have:=HTX.out;have:=HLL2.out;omega) HQ6.out.size).mono ?_;rintro e w7 ⟨rfl,h7,k7⟩;rw[←zdL,←HLS.out] at h7;have HQ7:=Hh (HQ6.out.wrote h7 k7);clear h7 k7)))
      go_roundw
      case rel=>exact⟨k+1,_,_,by go_num,by rw[HLN.out];rfl,rfl,rfl,by have:=HKL.out;have:=HN.out;omega,HFIN.out _ HQ7.out⟩
      case measure=>have:=HKL.out;have:=HN.out;simp[intOf];omega
  ·obtain rfl:k=N:=by omega
   have t9:decide ((k:Int)<(k:Int))=false:=decide_eq_false (by omega);by_cases h0:lnT (zaj l v k)=[]
   ·have HE:=Hh h0;have hf:=HP.out.none (zpl h0);clear h0;go_wp2_with (go_at_call 54;go_loud (refine(znG b _ hf).mono ?_;rintro e w6 ⟨rfl,b6⟩;have B6:=Hh (HP.out.below.trans b6);clear b6));go_ret;exact⟨by rw[HR.out,HE.out];rfl,by rw[←HG.out];exact B6.out⟩
   ·go_wp2_with (go_at_call 54;go_loud (refine(zik b _ _ HP.out.text h0).mono ?_;rintro e w6 ⟨rfl,b6⟩;have B6:=Hh (HP.out.below.trans b6);clear b6));go_ret;exact⟨by rw[HR.out];rfl,by rw[←HG.out];exact B6.out⟩
end Go.Proofs.YtfjajpnfjjdnpaaGreatDoor
