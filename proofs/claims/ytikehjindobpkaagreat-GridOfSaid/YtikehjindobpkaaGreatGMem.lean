import Derived.Test.YtikehjindobpkaaGreatGLen32
import Derived.WalkKit
import Derived.WalkSpells
import Derived.WalkLawsBesides
import Derived.Deep.Draws
import Derived.Lib.Hide
import Derived.Maps.AppendAt

set_option linter.unusedVariables false
set_option linter.unusedSimpArgs false
set_option maxRecDepth 100000
set_option maxHeartbeats 6400000
namespace Go.Proofs.YtikehjindobpkaaGreat
open Go.RowKit Num
def Rd (w:World)(A:Option Addr)(c:Nat)(vs:List Value):Prop :=
 vs.length≤c∧c≤maxLen∧(0<vs.length→∃b off,A=some ⟨b,off,none⟩∧b<w.heap.size∧∀j u,vs[j]?=some u→w.cell? ⟨b,off+j,none⟩=some u)
abbrev u32v (x:Nat):Value:=.int .u32 (x:Int)
def Us (w:World)(A:Option Addr)(c:Nat)(xs:List Nat):Prop:=Dig xs∧Rd w A c (xs.map u32v)
def Bl (w:World)(A:Option Addr)(c:Nat)(bs:List Bool):Prop:=Rd w A c (bs.map Value.bool)
theorem Rd.below {w w':World}{A:Option Addr}{c:Nat}{vs:List Value}(h:Rd w A c vs)(hb:Below w.heap.size w w'):Rd w' A c vs :=
 ⟨h.1,h.2.1,fun hn=>by
  obtain⟨b,off,e,hlt,hc⟩:=h.2.2 hn;exact⟨b,off,e,Nat.lt_of_lt_of_le hlt hb.size,fun j u hu=>(hb.cell (p:=⟨b,off+j,none⟩) hlt).trans (hc j u hu)⟩⟩
theorem Us.below {w w':World}{A:Option Addr}{c:Nat}{xs:List Nat}(h:Us w A c xs)(hb:Below w.heap.size w w'):Us w' A c xs:=⟨h.1,h.2.below hb⟩
theorem Bl.below {w w':World}{A:Option Addr}{c:Nat}{bs:List Bool}(h:Bl w A c bs)(hb:Below w.heap.size w w'):Bl w' A c bs:=Rd.below h hb
theorem Rd.nil (w:World):Rd w none 0 []:=⟨Nat.le_refl _,by simp[maxLen],fun h=>absurd h (by simp)⟩
theorem Us.nil (w:World):Us w none 0 []:=⟨Dig.nil,Rd.nil w⟩
theorem Us.cap {w:World}{A:Option Addr}{c:Nat}{xs:List Nat}(h:Us w A c xs):xs.length≤c∧c≤9223372036854775807:=by
 have h1:=h.2.1;have h2:=h.2.2.1;simp only[maxLen,List.length_map] at h1 h2;exact⟨h1,by omega⟩
theorem Bl.cap {w:World}{A:Option Addr}{c:Nat}{xs:List Bool}(h:Bl w A c xs):xs.length≤c∧c≤9223372036854775807:=by
 have h1:=h.1;have h2:=h.2.1;simp only[maxLen,List.length_map] at h1 h2;exact⟨h1,by omega⟩
theorem Us.at_ {w:World}{A:Option Addr}{c:Nat}{xs:List Nat}(h:Us w A c xs)(hn:0<xs.length) :
  ∃b off,A=some ⟨b,off,none⟩∧b<w.heap.size∧∀j,j<xs.length→w.cell? ⟨b,off+j,none⟩=some (.int .u32 (xs[j]?.getD 0:Nat)):=by
 obtain⟨b,off,e,hb,hc⟩:=h.2.2.2 (by simpa using hn);exact⟨b,off,e,hb,fun j hj=>hc j _ (by simp[List.getElem?_eq_getElem hj])⟩
theorem Bl.at_ {w:World}{A:Option Addr}{c:Nat}{xs:List Bool}(h:Bl w A c xs)(hn:0<xs.length) :
  ∃b off,A=some ⟨b,off,none⟩∧b<w.heap.size∧∀j,j<xs.length→w.cell? ⟨b,off+j,none⟩=some (.bool (xs[j]?.getD false)):=by
 obtain⟨b,off,e,hb,hc⟩:=h.2.2 (by simpa using hn);exact⟨b,off,e,hb,fun j hj=>hc j _ (by simp[List.getElem?_eq_getElem hj])⟩
theorem Rd.own {w:World}{base:Nat}{e:TypeId}{A:Option Addr}{n c:Nat}{vs:List Value}(h:w.ownsRow base e 1 (.slice A n c) n vs):Rd w A c vs:=by
 have hl:vs.length=n:=by simpa using h.1
 rcases h.2 with⟨h',hn⟩|⟨g,cap,cur,h',hb,hg,hnc,hcm,hcs,htake⟩
 ·simp only[Value.slice.injEq] at h';obtain⟨rfl,rfl,rfl⟩:=h';exact⟨by omega,by simp[maxLen],fun h=>by omega⟩
 ·simp only[Value.slice.injEq,true_and] at h';obtain⟨rfl,rfl⟩:=h';refine⟨by omega,hcm,fun hn=>⟨g,0,rfl,?_,fun j u hu=>?_⟩⟩
  ·rcases Nat.lt_or_ge g w.heap.size with hlt|hge
   ·exact hlt
   ·rw[Array.getElem?_eq_none hge] at hg;cases hg
  ·rw[Nat.zero_add];have hj:j<vs.length:=by
    rcases Nat.lt_or_ge j vs.length with hlt|hge
    ·exact hlt
    ·rw[List.getElem?_eq_none hge] at hu;cases hu
   exact(h.cellAt j (by omega)).trans hu
theorem zey {w:World}{base:Nat}{e:TypeId}{v:Value}{n:Nat}{vs:List Value}(h:w.ownsRow base e 1 v n vs):∃A c,v=.slice A n c:=by
 rcases h.2 with⟨rfl,rfl⟩|⟨g,cap,cur,rfl,_⟩
 ·exact⟨_,_,rfl⟩
 ·exact⟨_,_,rfl⟩
theorem zab {B:Nat}{a w:World}(h:Below B a w)(n:Nat):Below B a (w.drewN n):=⟨h.os,h.tape,h.output,h.size,h.block⟩
theorem zaI (w:World)(v:Value)(t:TypeId):(w.alloc (.cells #[v] t)).cell? ⟨w.heap.size,0,none⟩=some v∧(w.alloc (.cells #[v] t)).frozen? ⟨w.heap.size,0,none⟩=false:=by
 have h:=heap_alloc_new w (.cells #[v] t);exact⟨by rw[cell_of_row _ _ _ _ _ _ h];rfl,frozen_of_row _ _ _ _ _ h⟩
theorem zaf {w:World}{p:Addr}{v:Value}(h:w.cell? p=some v):p.block<w.heap.size:=by
 rcases Nat.lt_or_ge p.block w.heap.size with hlt|hge
 ·exact hlt
 ·simp[World.cell?,Array.getElem?_eq_none hge] at h
theorem zaY {w:World}{p:Addr}{v:Value}(o:Obj)(h:w.cell? p=some v):(w.alloc o).cell? p=some v:=(World.cell?_alloc_lt w o p (zaf h)).trans h
theorem zbT {w:World}{p:Addr}{v:Value}{b:Bool}(o:Obj)(h:w.cell? p=some v)(hf:w.frozen? p=b):(w.alloc o).frozen? p=b :=
 (World.frozen?_of_block (Below.heap_alloc w o p.block (zaf h))).trans hf
def RetU (n:Nat)(w:World)(e:Ending)(w':World):Prop :=
 ∃A c rs,e=.returned (.slice A rs.length c)∧Us w' A c rs∧zaT rs∧val rs=n∧Below w.heap.size w w'
def RetB (n:Nat)(w:World)(e:Ending)(w':World):Prop :=
 ∃A c bs,e=.returned (.slice A bs.length c)∧Bl w' A c bs∧zbu bs∧bval bs=n∧Below w.heap.size w w'
theorem Tryz.infoU:(Tryz.prog.info? 80).map (fun i=>(i.zero,i.size,i.bytes))=some (some (.int .u32 0),1,4):=by kernel_rfl
theorem Tryz.infoB:(Tryz.prog.info? 4).map (fun i=>(i.zero,i.size,i.bytes))=some (some (.bool false),1,1):=by kernel_rfl
end Go.Proofs.YtikehjindobpkaaGreat
