import Derived.Test.YtbabbmdpgpcgjaaGreatDoorRows
import Derived.WalkKit
import Derived.WalkSpells
import Derived.WalkLawsBesides
import Derived.Deep.Draws
import Derived.Lib.Hide
import Derived.Deep.QuietTactic
import Derived.BigQuiet
import Derived.LoopTactic

set_option linter.unusedVariables false
set_option linter.unusedSimpArgs false
set_option maxRecDepth 100000
set_option maxHeartbeats 6400000
namespace Go.Proofs.YtbabbmdpgpcgjaaGreatDoor.Nds
structure Nd where
 lv:Int
 a:Int
 b:Int
 c:Int
 d:Int
theorem Nd.ext' {x y:Nd}(h1:x.lv=y.lv)(h2:x.a=y.a)(h3:x.b=y.b)(h4:x.c=y.c)(h5:x.d=y.d):x=y:=by
 cases x;cases y;simp_all
instance:DecidableEq Nd:=fun x y =>
 if h:x.lv=y.lv∧x.a=y.a∧x.b=y.b∧x.c=y.c∧x.d=y.d then .isTrue (Nd.ext' h.1 h.2.1 h.2.2.1 h.2.2.2.1 h.2.2.2.2)
 else .isFalse fun e=>h (by subst e;exact⟨rfl,rfl,rfl,rfl,rfl⟩)
def nd0:Nd:=⟨0,0,0,0,0⟩
def Nd.kid (x:Nd)(i:Nat):Int:=match i with|0=>x.a|1=>x.b|2=>x.c|_=>x.d
def Nd.each (x:Nd)(p:Int→Bool):Bool:=p x.a&&p x.b&&p x.c&&p x.d
theorem zbM {x:Nd}{p:Int→Bool}:x.each p=true↔∀i,i<4→p (x.kid i)=true:=by
 unfold Nd.each;simp only[Bool.and_eq_true];constructor
 ·rintro⟨⟨⟨h0,h1⟩,h2⟩,h3⟩ i hi
  match i,hi with
  | 0,_=>exact h0
  | 1,_=>exact h1
  | 2,_=>exact h2
  | 3,_=>exact h3
 ·intro h;exact⟨⟨⟨h 0 (by omega),h 1 (by omega)⟩,h 2 (by omega)⟩,h 3 (by omega)⟩
def in64 (n:Int):Prop := -9223372036854775808≤n∧n≤9223372036854775807
def Nd.wf (x:Nd):Prop:=in64 x.lv∧in64 x.a∧in64 x.b∧in64 x.c∧in64 x.d
theorem Nd.wf.kid {x:Nd}(h:x.wf)(i:Nat):in64 (x.kid i):=by
 unfold Nd.kid;split
 ·exact h.2.1
 ·exact h.2.2.1
 ·exact h.2.2.2.1
 ·exact h.2.2.2.2
def at_ (l:List Nd)(i:Nat):Nd:=l[i]?.getD nd0
theorem zda {l:List Nd}{k i:Nat}(h:i<k):at_ (l.take k) i=at_ l i:=by
 unfold at_
 rw[List.getElem?_take,if_pos h]
theorem zpt {l:List Nd}{i:Nat}(h:i<l.length):at_ l i∈l:=by
 unfold at_
 rw[List.getElem?_eq_getElem h];exact List.getElem_mem h
theorem zdb {l:List Nd}{i:Nat}(h:i<l.length):l.take (i+1)=l.take i++[at_ l i]:=by
 unfold at_
 rw[List.getElem?_eq_getElem h,List.take_succ_eq_append_getElem h];rfl
def kidB (l:List Nd)(v k:Int):Bool :=
 if v=1 then decide (0≤k∧k≤255) else decide (k=0∨(0<k∧k≤l.length∧(at_ l (k.toNat-1)).lv=v-1))
def fitB (l:List Nd)(x:Nd):Bool:=decide (1≤x.lv∧x.lv≤1329)&&x.each (kidB l x.lv)
def zai (l:List Nd):Bool:=(List.range l.length).all fun i=>fitB (l.take i) (at_ l i)
def zvB (l:List Nd):Bool:=(List.range l.length).all fun i => !(at_ l i).each (· == 0) && !decide (at_ l i∈l.take i)
theorem zmN {l:List Nd}:zvB l=true↔∀i,i<l.length→(at_ l i).each (· == 0)=false∧at_ l i∉l.take i:=by
 unfold zvB;rw[List.all_eq_true];refine⟨fun h i hi=>?_,fun h i hi=>?_⟩
 ·have:=h i (List.mem_range.2 hi);simp only[Bool.and_eq_true,Bool.not_eq_true',decide_eq_false_iff_not] at this;exact this
 ·have:=h i (List.mem_range.1 hi);simp only[Bool.and_eq_true,Bool.not_eq_true',decide_eq_false_iff_not];exact this
end Go.Proofs.YtbabbmdpgpcgjaaGreatDoor.Nds

namespace Go.Proofs.YtbabbmdpgpcgjaaGreatDoor
open Go.RowKit Nds
abbrev ndv (x:Nd):Value:=.agg #[.int .i64 x.lv,.int .i64 x.a,.int .i64 x.b,.int .i64 x.c,.int .i64 x.d]
def NdAt (w:World)(b o:Nat)(x:Nd):Prop :=
 w.cell? ⟨b,o,none⟩=some (.int .i64 x.lv)∧w.cell? ⟨b,o+1,none⟩=some (.int .i64 x.a)∧w.cell? ⟨b,o+2,none⟩=some (.int .i64 x.b)∧w.cell? ⟨b,o+3,none⟩=some (.int .i64 x.c)∧w.cell? ⟨b,o+4,none⟩=some (.int .i64 x.d)
def Ns (w:World)(A:Option Addr)(c:Nat)(l:List Nd):Prop :=
 (∀x∈l,x.wf)∧l.length≤c∧c≤maxLen∧(0<l.length→∃b off,A=some ⟨b,off,none⟩∧b<w.heap.size∧∀i,i<l.length→NdAt w b (off+i*5) (at_ l i))
theorem NdAt.below {w w':World}{b o:Nat}{x:Nd}(h:NdAt w b o x)(hb:w'.heap[b]?=w.heap[b]?):NdAt w' b o x:=by
 obtain⟨h1,h2,h3,h4,h5⟩:=h;exact⟨(World.cell?_of_block (w:=w) hb).trans h1,(World.cell?_of_block (w:=w) hb).trans h2,(World.cell?_of_block (w:=w) hb).trans h3,(World.cell?_of_block (w:=w) hb).trans h4,(World.cell?_of_block (w:=w) hb).trans h5⟩
theorem Ns.below {w w':World}{A:Option Addr}{c:Nat}{l:List Nd}(h:Ns w A c l)(hb:Below w.heap.size w w'):Ns w' A c l :=
 ⟨h.1,h.2.1,h.2.2.1,fun hn=>by
  obtain⟨b,off,e,hlt,hc⟩:=h.2.2.2 hn;exact⟨b,off,e,Nat.lt_of_lt_of_le hlt hb.size,fun i hi=>(hc i hi).below (hb.block b hlt)⟩⟩
theorem Ns.belowB {w w':World}{A:Option Addr}{c B:Nat}{l:List Nd}(h:Ns w A c l)(hA:∀a,A=some a→a.block<B)(hb:Below B w w'):Ns w' A c l :=
 ⟨h.1,h.2.1,h.2.2.1,fun hn=>by
  obtain⟨b,off,e,hlt,hc⟩:=h.2.2.2 hn;exact⟨b,off,e,Nat.lt_of_lt_of_le hlt hb.size,fun i hi=>(hc i hi).below (hb.block b (hA _ e))⟩⟩
theorem nd_b {a b:Bool}(h:a=b):Ending.returned (.bool a)=.returned (.bool b):=by rw[h]
theorem zeF (l:List Nd)(k:Int):kidB l 1 k=decide (0≤k∧k≤255):=rfl
theorem zjW (l:List Nd)(v:Int)(hv:v≠1):kidB l v 0=true:=by
 unfold kidB;rw[if_neg hv];exact decide_eq_true (.inl rfl)
theorem zsC (l:List Nd)(v k:Int)(hv:v≠1)(hk:k<0∨(l.length:Int)<k):kidB l v k=false:=by
 unfold kidB;rw[if_neg hv];exact decide_eq_false (by omega)
theorem zlu (l:List Nd)(v:Int)(m:Nat)(hv:v≠1)(hk:m<l.length):kidB l v ((m:Int)+1)=decide ((at_ l m).lv=v-1):=by
 unfold kidB;rw[if_neg hv];have e:((m:Int)+1).toNat-1=m:=by omega
 rw[e];refine decide_eq_decide.2 ⟨fun h=>?_,fun h=>.inr ⟨by omega,by omega,h⟩⟩;rcases h with h|h
 ·omega
 ·exact h.2.2
theorem Ns.at_ {w:World}{A:Option Addr}{c:Nat}{l:List Nd}(h:Ns w A c l)(hn:0<l.length) :
  ∃b off,A=some ⟨b,off,none⟩∧b<w.heap.size∧∀i,i<l.length→NdAt w b (off+i*5) (at_ l i):=h.2.2.2 hn
theorem Ns.cap {w:World}{A:Option Addr}{c:Nat}{l:List Nd}(h:Ns w A c l):l.length≤c∧c≤9223372036854775807:=by
 have h1:=h.2.1;have h2:=h.2.2.1;simp only[maxLen] at h2;exact⟨h1,by omega⟩
theorem Ns.wf {w:World}{A:Option Addr}{c:Nat}{l:List Nd}(h:Ns w A c l){i:Nat}(hi:i<l.length):(Nds.at_ l i).wf:=h.1 _ (zpt hi)
end Go.Proofs.YtbabbmdpgpcgjaaGreatDoor
