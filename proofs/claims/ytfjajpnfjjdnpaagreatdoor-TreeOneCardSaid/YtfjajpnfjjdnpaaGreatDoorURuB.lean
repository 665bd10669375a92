import Derived.Test.YtfjajpnfjjdnpaaGreatDoorUFtF
import Derived.Test.YtfjajpnfjjdnpaaGreatDoorUGdJp
import Derived.Laws.RangeString
import Derived.Deep.LoopGhost
import Derived.Laws.BytesString
import Derived.Laws.Concat
import Derived.Laws.BytesArg
import Derived.Test.YtfjajpnfjjdnpaaGreatDoorLaidR

set_option linter.unusedVariables false
set_option linter.unusedSimpArgs false
set_option maxRecDepth 100000
set_option maxHeartbeats 6400000
namespace Go.Proofs.YtfjajpnfjjdnpaaGreatDoor
open Go.RowKit Num Nds Txt
def zco:ByteArray:=⟨#[66,51,47,83,50,51]⟩
def zaj:ByteArray:=⟨#[97]⟩
theorem znx {w:World}{g:Nat}(u:Cv)(h:w.heap[g]?=some (.cells #[.bool u.sx,.slice u.ax u.xs.length u.cx,.bool u.sy,.slice u.ay u.ys.length u.cy,.int .u8 u.st] 78))(hu:CvU w u):Cs w (some ⟨g,0,none⟩) 1 [u]:=by
 refine⟨fun x hx=>?_,Nat.le_refl _,by simp[maxLen],fun _=>⟨g,0,rfl,(Array.getElem?_eq_some_iff.1 h).1,fun i hi=>?_⟩⟩
 ·rw[List.mem_singleton.1 hx];exact hu
 ·match i,hi with
  | 0,_=>refine⟨?_,?_,?_,?_,?_⟩ <;> (rw[cell_of_row _ _ _ _ _ _ h];rfl)
end Go.Proofs.YtfjajpnfjjdnpaaGreatDoor

namespace Go.Proofs.YtfjajpnfjjdnpaaGreatDoor
open Go.RowKit Lib
abbrev WbA (b:Nat)(p:Value)(bs:List Value)(w:World):Prop:=Lib.BuilderAtF 85 5 b b p bs w
abbrev Wb (b:Nat)(bs:List Value)(w:World):Prop:=Lib.IsBuilderF 85 5 b b bs w
theorem zpT:(85:TypeId)≠5:=by decide
theorem zny:liesAt Tryz.prog Tryz.prog.depth 85 (2 / Tryz.prog.cellsOf 85) 0 85 1=true:=by kernel_rfl
theorem zhA (b:Nat)(w:World)(h0:w.cell? ⟨b,0,none⟩=some (.pointer none))(hs:w.shape? b=some (85,2))(hf:w.frozen? ⟨b,0,none⟩=false) :
  Calls Tryz.prog 135 #[.pointer (some ⟨b,0,none⟩)] w fun e w'=>e=.returned (.tuple #[])∧w'=w.setCell ⟨b,0,none⟩ (.pointer (some ⟨b,0,none⟩)):=by
 obtain⟨j,hj,hjs⟩:=Option.map_eq_some_iff.1 zjD;go_enter Tryz.func135,Tryz.ntmps135;go_wp2;rw[Lib.run_to_unsafe w ⟨b,0,none⟩ Tryz.underlying82 Tryz.underlying206 hj (by rw[hjs];decide) hs (Nat.zero_lt_succ 1)];simp only[Result.andThen];rw[Oper.upon_value];go_wp2;rw[run_callFunc_extern Tryz.func176 (by kernel_rfl) (by kernel_rfl) (by kernel_rfl) (e:=Extern.AbiNoEscape.same) (by kernel_rfl),Lib.run_noEscape];simp only[Result.andThen];rw[Oper.upon_value];go_wp2;rw[Lib.run_from_unsafe w ⟨b,0,none⟩ Tryz.underlying206 Tryz.underlying82 hj hs zny];simp only[Result.andThen];rw[Oper.upon_value];go_wp2;go_end0;exact⟨rfl,rfl⟩
theorem zjF (b:Nat)(bs:List Value)(w:World)(h:Wb b bs w) :
  Calls Tryz.prog 135 #[.pointer (some ⟨b,0,none⟩)] w fun e w'=>e=.returned (.tuple #[])∧WbA b (.pointer (some ⟨b,0,none⟩)) bs w'∧Ke b w w':=by
 rcases h with h|h
 ·refine(zhA b w h.cell0 h.shape h.frozen0).mono ?_;rintro e w' ⟨rfl,rfl⟩;exact⟨rfl,h.used _,(Below.refl b w).setCell (p:=⟨b,0,none⟩) h.1 _,(Lib.OthersKept.refl _ _ w).setCell ⟨b,0,none⟩ rfl _⟩
 ·refine(zgM b w h.cell0).mono ?_;rintro e w' ⟨rfl,rfl⟩;exact⟨rfl,h,Ke.refl _ _⟩
theorem WbA.cells {b:Nat}{p:Value}{bs:List Value}{w:World}(h:WbA b p bs w):∃v,w.heap[b]?=some (.cells #[p,v] 85 (0,0))∧w.cell? ⟨b,0,none⟩=some p∧w.cell? ⟨b,1,none⟩=some v∧w.frozen? ⟨b,1,none⟩=false∧w.ownsRowF b 5 1 v bs.length bs∧v.ownBlock≠some b:=by
 obtain⟨-,v,hb,ho,hne⟩:=h;exact⟨v,hb,by rw[Lib.cell_of_heap hb];rfl,by rw[Lib.cell_of_heap hb];rfl,Lib.frozen_of_heap hb 1,ho,hne⟩
theorem WbA.grew {b:Nat}{p v v':Value}{bs cs:List Value}{w w1 w2:World}(hb:b≤w.heap.size)(k:Ke b w w1)(hbk:w1.heap[b]?=some (.cells #[p,v] 85 (0,0)))(ho:w1.ownsRowF b 5 1 v bs.length bs)(hne:v.ownBlock≠some b)
  (o:w2.ownsRowF b 5 1 v' (bs++cs).length (bs++cs)) (g:w1.grownBy w2 v.ownBlock) :
  w2.heap[b]?=some (.cells #[p,v] 85 (0,0))∧WbA b p (bs++cs) (w2.setCell ⟨b,1,none⟩ v')∧Ke b w (w2.setCell ⟨b,1,none⟩ v'):=by
 have hlt:b<w1.heap.size:=(Array.getElem?_eq_some_iff.1 hbk).1;have hb2:w2.heap[b]?=some (.cells #[p,v] 85 (0,0)):=by rw[g.block b hlt (fun e=>hne e.symm)];exact hbk
 exact⟨hb2,Lib.BuilderAtF.put (Nat.le_refl _) hb2 o zpT,(k.1.grown g (Nat.le_trans hb k.1.size) (fun q hq=>(ho.lt q hq).1)).setCell (p:=⟨b,1,none⟩) (Nat.le_refl _) _,(k.2.grown g (Lib.ownsRowF_kind ho)).setCell ⟨b,1,none⟩ rfl _⟩
theorem zlZ (b:Nat)(bs:List Value)(s:ByteArray)(w:World)(h:Wb b bs w)(hl:bs.length+s.size≤140737488355328)(hb:b≤w.heap.size) :
  Calls Tryz.prog 87 #[.pointer (some ⟨b,0,none⟩),.string s] w fun e w'=>e=.returned (.tuple #[.int .i64 s.size,.nilIface])∧WbA b (.pointer (some ⟨b,0,none⟩)) (bs++strCells s) w'∧Ke b w w':=by
 obtain⟨i0,hi,hz0,hz1,hz2⟩:=info_parts zjC;go_enter Tryz.func87,Tryz.ntmps87;go_wp2_with (first
  | (go_at_call 135;go_loud (refine(zjF b _ _ h).mono ?_;rintro e w1 ⟨rfl,h1,k1⟩;obtain⟨v,hbk,c0,c1,-,ho,hne⟩:=h1.cells))
  | (at_builtin;go_loud (refine wpList_append_own_stringF _ rfl _ _ 83 9 rfl b 5 i0 Tryz.underlying83 Tryz.underlying9 hi hz0 hz1 hz2 _ _ _ rfl ho s rfl (by unfold maxLen;omega) (by omega) (by have:=k1.1.size;omega) ?_;intro v' w2 ho2 hg2 _;have hc:=WbA.grew hb k1 hbk ho hne (v':=v') (cs:=strCells s) (by rw[List.length_append,strCells_length];exact ho2) hg2;obtain⟨hb2,h3,k3⟩:=hc;have d0:w2.cell? ⟨b,0,none⟩=some (.pointer (some ⟨b,0,none⟩)):=(Lib.cell_of_heap hb2 0).trans rfl;have d1:w2.cell? ⟨b,1,none⟩=some v:=(Lib.cell_of_heap hb2 1).trans rfl;have f1:w2.frozen? ⟨b,1,none⟩=false:=Lib.frozen_of_heap hb2 1;obtain⟨A2,c2,rfl⟩:=zfP ho2)))
 go_ret2;exact⟨rfl,h3,k3⟩
theorem zeo (b:Nat)(l:List UInt8)(s:ByteArray)(w:World)(h:Wb b (byteCells l) w)(hl:l.length+s.size≤140737488355328)(hb:b≤w.heap.size) :
  Calls Tryz.prog 87 #[.pointer (some ⟨b,0,none⟩),.string s] w fun e w'=>e=.returned (.tuple #[.int .i64 s.size,.nilIface])∧Wb b (byteCells (l++s.data.toList)) w'∧Ke b w w':=by
 refine(zlZ b _ s w h (by rw[byteCells_length];exact hl) hb).mono ?_;rintro e w' ⟨rfl,h1,h2⟩;rw[strCells_eq,←byteCells_append] at h1;exact⟨rfl,.inr h1,h2⟩
theorem znz (b:Nat)(bs:List Value)(n:Nat)(hn:bs.length=n)(r:Int)(w:World)(h:Wb b bs w)(hl:n+1≤140737488355328)(hb:b≤w.heap.size) :
  Calls Tryz.prog 89 #[.pointer (some ⟨b,0,none⟩),.int .u8 r] w fun e w'=>e=.returned .nilIface∧WbA b (.pointer (some ⟨b,0,none⟩)) (bs++[.int .u8 r]) w'∧Ke b w w':=by
 obtain⟨i0,hi,hz0,hz1,hz2⟩:=info_parts zjC;go_enter Tryz.func89,Tryz.ntmps89;go_wp2_with (first
  | (go_at_call 135;go_loud (refine(zjF b _ _ h).mono ?_;rintro e w1 ⟨rfl,h1,k1⟩;obtain⟨v,hbk,c0,c1,-,ho,hne⟩:=h1.cells;rw[hn] at ho;have hlt:b<w1.heap.size:=(Array.getElem?_eq_some_iff.1 hbk).1;have e1:(w1.alloc (.cells #[.int .u8 r] 5)).cell? ⟨b,1,none⟩=some v:=(Lib.cell_of_heap ((Lib.alloc_old w1 _ b hlt).trans hbk) 1).trans rfl))
  | (at_builtin;go_loud (refine wpList_append_ownF _ rfl _ _ 83 rfl b 5 i0 (.int .u8 0) 1 1 Tryz.underlying83 hi hz0 hz1 hz2 rfl (by decide) _ _ _ rfl (ho.alloc _) ⟨w1.heap.size,0,none⟩ 1 1 [.int .u8 r] rfl rfl (fun j u hj=>by(match j,hj with|0,hj=>(simp at hj;subst hj;simp[Addr.add])|(j+1),hj=>simp at hj)) (fun u hu=>by(simp at hu;subst hu;rfl)) (by unfold maxLen;omega) (by omega) (by have:=k1.1.size;simp;omega) ?_;intro v' w2 ho2 hg2 _;have hc:=WbA.grew (w1:=w1.alloc (.cells #[.int .u8 r] 5)) hb (⟨k1.1.alloc (by have:=k1.1.size;omega) _,k1.2.alloc _⟩:Ke b w (w1.alloc (.cells #[.int .u8 r] 5))) ((Lib.alloc_old w1 _ b hlt).trans hbk) (by rw[hn];exact ho.alloc _) hne (v':=v') (cs:=[.int .u8 r]) (by rw[List.length_append,hn];exact ho2) hg2;obtain⟨hb2,h3,k3⟩:=hc;have d0:w2.cell? ⟨b,0,none⟩=some (.pointer (some ⟨b,0,none⟩)):=(Lib.cell_of_heap hb2 0).trans rfl;have d1:w2.cell? ⟨b,1,none⟩=some v:=(Lib.cell_of_heap hb2 1).trans rfl;have f1:w2.frozen? ⟨b,1,none⟩=false:=Lib.frozen_of_heap hb2 1;obtain⟨A2,c2,rfl⟩:=zfP ho2)))
 go_ret;exact⟨rfl,h3,k3⟩
theorem zgO (b:Nat)(l:List UInt8)(r:UInt8)(w:World)(h:Wb b (byteCells l) w)(hl:l.length+1≤140737488355328)(hb:b≤w.heap.size) :
  Calls Tryz.prog 89 #[.pointer (some ⟨b,0,none⟩),.int .u8 (r.toNat:Int)] w fun e w'=>e=.returned .nilIface∧Wb b (byteCells (l++[r])) w'∧Ke b w w':=by
 refine(znz b _ _ (byteCells_length l) (r.toNat:Int) w h hl hb).mono ?_;rintro e w' ⟨he,h2,h3⟩;rw[show([.int .u8 (r.toNat:Int)]:List Value)=byteCells [r] from rfl,←byteCells_append] at h2;exact⟨he,.inr h2,h3⟩
theorem zio (b:Nat)(l:List UInt8)(w:World)(h:Wb b (byteCells l) w)(h0:l≠[]) :
  Calls Tryz.prog 54 #[.pointer (some ⟨b,0,none⟩)] w fun e w'=>e=.returned (.string ⟨l.toArray⟩)∧Below b w w':=by
 obtain⟨p,hA⟩:∃p,WbA b p (byteCells l) w:=by
  rcases h with h|h
  ·exact⟨_,h⟩
  ·exact⟨_,h⟩
 obtain⟨v,hbk,-,c1,-,ho,hne⟩:=hA.cells;have hl0:l.length≠0:=by simpa using h0
 rw[byteCells_length] at ho;obtain⟨g,cap,cur,fz,rfl,hbg,hg,hcm,hnc,hcs⟩:∃g cap cur fz,v=.slice (some ⟨g,0,none⟩) l.length cap∧b≤g∧w.heap[g]?=some (.cells cur 5 fz)∧cap≤maxLen∧l.length≤cap∧l.length≤cur.size:=by
  rcases ho.2 with⟨-,hz⟩|⟨g,cap,cur,fz,hv,r1,r2,-,r3,r4,r5,-⟩
  ·exact absurd hz hl0
  ·exact⟨g,cap,cur,fz,hv,r1,r2,r4,r3,by omega⟩
 have c2:w.drew.cell? ⟨b,1,none⟩=some (.slice (some ⟨g,0,none⟩) l.length cap):=c1;have hSD:(Builtin.unsafeSliceData_ #[83] 143 #[.slice (some ⟨g,0,none⟩) l.length cap]).run Tryz.prog w.drew=.ok (.pointer (some ⟨g,0,none⟩)) w.drew:=run_unsafeSliceData_row _ _ _ _ _ _ (by omega);have hUS:(Builtin.unsafeString_ #[143,3] 9 #[.pointer (some ⟨g,0,none⟩),.int .i64 l.length]).run Tryz.prog w.drew=.ok (.string ⟨l.toArray⟩) (w.drew.freeze ⟨g,0,none⟩ l.length) :=
  run_unsafeString_row w.drew 143 3 9 5 Tryz.underlying143 (by kernel_rfl) g cur.size (by have hg':w.drew.heap[g]?=some (.cells cur 5 fz):=hg;simp[World.shape?,hg']) l h0 hcs (by unfold maxLen at hcm;omega) (fun j x hx=>ho.cells (g:=g) rfl j (.int .u8 x.toNat) (by simp[byteCells,hx]))
 have mixed:Tryz.prog.follows .mixedOrders=true:=by kernel_rfl
 go_enter Tryz.func54,Tryz.ntmps54;go_wp2;go_region_o
 all_goals (go_wp2;go_ret;exact⟨rfl,below_freeze (Below.drew (Below.refl b w)) (p:=⟨g,0,none⟩) hbg _⟩)
theorem Wb.fresh (w:World):Wb w.heap.size (Lib.byteCells []) (w.alloc (.cells #[.pointer none,.slice none 0 0] 85)):=Lib.IsBuilderF.of (Lib.fresh_isBuilder 85 5 w)
end Go.Proofs.YtfjajpnfjjdnpaaGreatDoor
