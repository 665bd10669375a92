import Derived.Test.YtbabbmdpgpcgjaaGreatDoorHNcRV

set_option linter.unusedVariables false
set_option linter.unusedSimpArgs false
set_option maxRecDepth 100000
set_option maxHeartbeats 6400000
namespace Go.Proofs.YtbabbmdpgpcgjaaGreatDoor
open Go.RowKit Nds
def SP (l:List Nd)(t:Tr)(G B:List Nd)(p:Nat):Prop:=SS l t B p∧Like G B∧Bar B∧zai G=true
end Go.Proofs.YtbabbmdpgpcgjaaGreatDoor

namespace Go.Proofs.YtbabbmdpgpcgjaaGreatDoor
open Go.RowKit Nds Go.Maps
theorem Tryz.zeroI (w:World):(zeroValue 3).run Tryz.prog w=.ok (.int .i64 0) w:=by kernel_rfl
def KM (w:World)(b:Nat)(out:List Nd):Prop :=
 ∃es clock,w.heap[b]?=some (.map es clock)∧(∀e∈es.toList,∃i,i<out.length∧e.key=ndv (at_ out i)∧e.val=.int .i64 ((i:Int)+1))∧∀i,i<out.length→∃e∈es.toList,e.key=ndv (at_ out i)
theorem KM.lt {w:World}{b:Nat}{out:List Nd}(h:KM w b out):b<w.heap.size:=by
 obtain⟨es,clock,hb,_⟩:=h;exact(Array.getElem?_eq_some_iff.1 hb).1
theorem KM.stay {w w':World}{b:Nat}{out:List Nd}(h:KM w b out)(hb:w'.heap[b]?=w.heap[b]?):KM w' b out:=by
 obtain⟨es,clock,hh,r⟩:=h;exact⟨es,clock,hb.trans hh,r⟩
theorem KM.made (w:World):KM (w.alloc (.map #[] 0)) w.heap.size [] :=
 ⟨#[],0,heap_alloc_new w _,by simp,fun i hi=>absurd hi (Nat.not_lt_zero i)⟩
theorem KM.keys {out:List Nd}{es:Array MapEntry}(hS:∀y∈out,y.wf)(h:∀e∈es.toList,∃i,i<out.length∧e.key=ndv (at_ out i)∧e.val=.int .i64 ((i:Int)+1)):∀e∈es.toList,∃l,keyOf Tryz.prog 112 e.key=some l:=by
 intro e he;obtain⟨i,hi,hk,_⟩:=h e he;rw[hk];exact zjc _ (hS _ (zpt hi))
theorem KM.lookK {w:World}{b:Nat}{out:List Nd}(h:KM w b out)(hg:zas out)(hS:∀y∈out,y.wf)(x:Nd)(hx:x.wf) :
  (Instr.lookup 184 (.map (some b)) (ndv x) false).run Tryz.prog w=.ok (.int .i64 ((fnd out x:Nat):Int)) w:=by
 obtain⟨es,clock,hb,h1,h2⟩:=h;obtain⟨kl,hkey⟩:=zjc x hx;rcases Tryz.nodeLaw.find w hkey es.toList (KM.keys hS h1) with⟨f1,f2⟩|⟨j,e0,f1,f2,f3⟩
 ·have hn:fnd out x=0:=znf fun i hi e=>by
   obtain⟨e0,he,hk⟩:=h2 i hi;rw[e] at hk;exact f2 e0 he hk
  rw[hn];simp[Instr.lookup,run_underlying Tryz.underlying184,MapKept.run_getObj_map hb,Tryz.nodeLaw.check w _ hkey,f1,Tryz.zeroI,Result.andThen]
 ·obtain⟨i,hi,hk,hv⟩:=h1 e0 (List.mem_of_getElem? f2);rw[f3] at hk;have e:=zpU hk;rw[e,znh hg hi];rw[e] at hkey f1;simp[Instr.lookup,run_underlying Tryz.underlying184,MapKept.run_getObj_map hb,Tryz.nodeLaw.check w _ hkey,f1,hv,Result.andThen]
theorem KM.putK {w:World}{b:Nat}{out:List Nd}(h:KM w b out)(hS:∀y∈out,y.wf)(x:Nd)(hx:x.wf)(hf:fnd out x=0) :
  ∃w',(Instr.mapUpdate 184 (.map (some b)) (ndv x) (.int .i64 ((out.length:Int)+1))).run Tryz.prog w=.ok () w'∧KM w' b (out++[x])∧w.grownBy w' (some b):=by
 obtain⟨es,clock,hb,h1,h2⟩:=h;obtain⟨kl,hkey⟩:=zjc x hx;have hno:∀j,j<out.length→at_ out j≠x:=by
  rcases zeO out x with⟨_,h⟩|⟨i,_,_,h⟩
  ·exact h
  ·omega
 rcases Tryz.nodeLaw.find w hkey es.toList (KM.keys hS h1) with⟨f1,f2⟩|⟨j,e0,f1,f2,f3⟩
 ·refine⟨ChangeMaps.setBlock w b (.map (es.push ⟨ndv x,.int .i64 ((out.length:Int)+1),clock⟩) (clock+1)),?_,⟨_,_,ChangeMaps.heap_setBlock_same hb _,?_,?_⟩,⟨rfl,rfl,rfl,by simp[ChangeMaps.setBlock],fun i _ hi=>ChangeMaps.heap_setBlock_other hb _ (fun e=>hi (by rw[e]))⟩⟩
  ·simp[Instr.mapUpdate,run_underlying Tryz.underlying184,MapKept.run_getObj_map hb,Tryz.nodeLaw.check w false hkey,f1,MapKept.run_setObj_map _ hb,Result.andThen,ChangeMaps.setBlock]
  ·intro e he;simp only[Array.toList_push,List.mem_append,List.mem_singleton] at he;rcases he with he|rfl
   ·obtain⟨i,hi,hk,hv⟩:=h1 e he;exact⟨i,by simp;omega,by rw[zgU hi];exact hk,hv⟩
   ·exact⟨out.length,by simp,by rw[zgV],rfl⟩
  ·intro i hi;simp only[List.length_append,List.length_cons,List.length_nil] at hi;simp only[Array.toList_push,List.mem_append,List.mem_singleton];rcases Nat.lt_or_ge i out.length with h3|h3
   ·obtain⟨e,he,hk⟩:=h2 i h3;exact⟨e,.inl he,by rw[zgU h3];exact hk⟩
   ·exact⟨_,.inr rfl,by rw[show i=out.length by omega,zgV]⟩
 ·obtain⟨i,hi,hk,_⟩:=h1 e0 (List.mem_of_getElem? f2);rw[f3] at hk;exact absurd (zpU hk).symm (hno i hi)
end Go.Proofs.YtbabbmdpgpcgjaaGreatDoor

namespace Go.Proofs.YtbabbmdpgpcgjaaGreatDoor
open Go.RowKit Nds
theorem ztC {w:World}{g:Nat}{u:Value}{t:TypeId}(h:w.heap[g]?=some (.cells #[u] t)):w.cell? ⟨g,0,none⟩=some u:=by
 rw[cell_of_row w g _ _ _ _ h];rfl
theorem zxI {w:World}{g:Nat}{o:Obj}(h:w.heap[g]?=some o):g<w.heap.size:=(Array.getElem?_eq_some_iff.1 h).1
def PS (bS bk bm:Nat)(v:Value):Nat→Prop:=fun k=>k=bS∨k=bk∨k=bm∨v.ownBlock=some k
end Go.Proofs.YtbabbmdpgpcgjaaGreatDoor
