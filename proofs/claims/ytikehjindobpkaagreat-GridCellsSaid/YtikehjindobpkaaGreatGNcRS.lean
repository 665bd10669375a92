import GoSem.Claim
import Derived.Laws.RangeAny
import Derived.Laws.Strings
import Derived.Laws.Strings2
import Derived.Laws.Strings3
import Derived.Lib.Bytealg
import Derived.Lib.OthersKept
import Derived.Laws.AppendOwnNone
import Derived.Test.YtikehjindobpkaaGreatGClM

set_option linter.unusedVariables false
set_option linter.unusedSimpArgs false
set_option maxRecDepth 100000
set_option maxHeartbeats 6400000
namespace Go.Proofs.YtikehjindobpkaaGreat
open Go.RowKit
theorem tx_get {s:ByteArray}{k:Nat}(h:k<s.size):s.data.toList[k]?=some (s[k]'h):=by
 rw[List.getElem?_eq_getElem (by simpa using h)]
 rfl
theorem tx_len (s:ByteArray):s.data.toList.length=s.size:=by simp
end Go.Proofs.YtikehjindobpkaaGreat

namespace Go.Proofs.YtikehjindobpkaaGreat
open Go.RowKit Nds
theorem ns_lit1 (W:World)(g:Nat)(x:Nd)(hx:x.wf)(hg:W.heap.size=g):Ns (W.alloc (.cells #[.int .i64 x.lv,.int .i64 x.a,.int .i64 x.b,.int .i64 x.c,.int .i64 x.d] 74)) (some ⟨g,0,none⟩) 1 [x]:=by
 subst hg
 refine⟨by simpa using hx,by simp,by simp[maxLen],fun _=>⟨_,0,rfl,by simp,fun i hi=>?_⟩⟩
 have h0:i=0:=by simpa using hi
 subst h0
 exact NdAt.new W x _
theorem Tryz.infoN:(Tryz.prog.info? 74).map (fun i=>(i.zero,i.size,i.bytes))=some (some (ndv nd0),5,40):=by kernel_rfl
def ndc (x:Nd):List Value:=[.int .i64 x.lv,.int .i64 x.a,.int .i64 x.b,.int .i64 x.c,.int .i64 x.d]
def ndcs (l:List Nd):List Value:=l.flatMap ndc
theorem ndcs_len (l:List Nd):(ndcs l).length=l.length*5:=by
 unfold ndcs
 induction l with
 | nil=>rfl
 | cons x l ih =>
  rw[List.flatMap_cons,List.length_append,ih,List.length_cons];show 5+_=_
  omega
theorem ndcs_app (l m:List Nd):ndcs (l++m)=ndcs l++ndcs m:=by
 unfold ndcs
 rw[List.flatMap_append]
theorem ndcs_at:∀(l:List Nd) (i j:Nat),i<l.length→j<5→(ndcs l)[i*5+j]?=(ndc (at_ l i))[j]?
 | [],i,_,hi,_=>by simp at hi
 | x :: l,0,j,_,hj=>by
  show(ndc x++ndcs l)[0*5+j]?=_
  rw[List.getElem?_append_left (by show _<5;omega),show 0*5+j=j by omega]
  rfl
 | x :: l,i+1,j,hi,hj=>by
  show(ndc x++ndcs l)[(i+1)*5+j]?=_
  rw[List.getElem?_append_right (by show 5≤_;omega),show(i+1)*5+j-(ndc x).length=i*5+j by show _-5=_;omega,ndcs_at l i j (by simpa using hi) hj]
  rfl
theorem ndcs_one (l:List Nd):∀u∈ndcs l,u.oneCell'=true:=fun u hu=>by
 obtain⟨x,_,hx⟩:=List.mem_flatMap.1 hu
 simp only[ndc,List.mem_cons,List.not_mem_nil,or_false] at hx
 rcases hx with rfl|rfl|rfl|rfl|rfl <;> rfl
theorem Ns.cells {w:World}{A:Option Addr}{c:Nat}{l:List Nd}(h:Ns w A c l){ad:Addr}(e:A=some ad):∀j u,(ndcs l)[j]?=some u→w.cell? (ad.add j)=some u:=by
 intro j u hu
 have hj:=(List.getElem?_eq_some_iff.1 hu).1
 rw[ndcs_len] at hj
 obtain⟨b,off,e2,_,hc⟩:=h.at_ (by omega)
 rw[e] at e2
 cases e2
 have hd:=hc (j / 5) (by omega)
 have hs:j=j / 5*5+j%5:=by omega
 rw[hs,ndcs_at l (j / 5) (j%5) (by omega) (by omega)] at hu
 obtain⟨h1,h2,h3,h4,h5⟩:=hd
 have hlt:j%5<5:=Nat.mod_lt _ (by omega)
 have hadd:(⟨b,off,none⟩:Addr).add j=⟨b,off+j,none⟩:=by simp[Addr.add]
 rw[hadd]
 generalize hq:j / 5=q at *
 generalize hr:j%5=r at *
 match r,hlt with
 | 0,_=>rw[show off+j=off+q*5 by omega,h1];exact hu
 | 1,_=>rw[show off+j=off+q*5+1 by omega,h2];exact hu
 | 2,_=>rw[show off+j=off+q*5+2 by omega,h3];exact hu
 | 3,_=>rw[show off+j=off+q*5+3 by omega,h4];exact hu
 | 4,_=>rw[show off+j=off+q*5+4 by omega,h5];exact hu
def OwnN (w:World)(base:Nat)(v:Value)(l:List Nd):Prop:=(∀x∈l,x.wf)∧w.ownsRow base 74 5 v l.length (ndcs l)
theorem OwnN.shape {w:World}{base:Nat}{v:Value}{l:List Nd}(h:OwnN w base v l):∃A c,v=.slice A l.length c∧Ns w A c l∧((A=none→c=0)∧∀a,A=some a→base≤a.block):=by
 rcases h.2.2 with⟨h',hn⟩|⟨g,cap,cur,h',hb,hg,hnc,hcm,hcs,htake⟩
 ·exact⟨none,0,by rw[h',hn],⟨h.1,by omega,by simp[maxLen],fun h=>by omega⟩,(fun _=>rfl),(fun a e=>by cases e)⟩
 ·refine⟨some ⟨g,0,none⟩,cap,h',⟨h.1,hnc,hcm,fun hn=>⟨g,0,rfl,?_,fun i hi=>?_⟩⟩,(fun e=>by cases e),(fun a e=>by cases e;exact hb)⟩
  ·rcases Nat.lt_or_ge g w.heap.size with hlt|hge
   ·exact hlt
   ·rw[Array.getElem?_eq_none hge] at hg;cases hg
  ·have hcell:∀j,j<5→w.cell? ⟨g,i*5+j,none⟩=(ndc (at_ l i))[j]?:=by
    intro j hj
    have hlt:i*5+j<l.length*5:=by omega
    rw[cell_of_row w g (i*5+j) cur _ (0,0) hg,←ndcs_at l i j hi hj,←htake,List.getElem?_take,if_pos hlt];simp
   rw[Nat.zero_add];exact⟨hcell 0 (by omega),hcell 1 (by omega),hcell 2 (by omega),hcell 3 (by omega),hcell 4 (by omega)⟩
theorem OwnN.start (w:World):OwnN (w.alloc (.cells #[] 74)) w.heap.size (.slice (some ⟨w.heap.size,0,none⟩) 0 0) [] :=
 ⟨by simp,World.ownsRow_made w #[] 0 (Nat.le_refl _) (by simp[maxLen]) rfl⟩
theorem run_append_nodes (w:World)(base:Nat)(v:Value)(xs ys:List Nd)(ty:TypeId)(A:Option Addr)(m c:Nat)(how:OwnN w base v xs)(hN:Ns w A c ys)(hm:ys.length=m)(hA:A=none→c=0)(hs:xs.length+m≤1000000)(hb:base≤w.heap.size) :
  ∃v' w',(Builtin.append_ #[24,24] ty #[v,.slice A m c]).run Tryz.prog w=.ok v' w'∧OwnN w' base v' (xs++ys)∧w.grownBy w' v.ownBlock∧(v'.ownBlock=v.ownBlock∨v'.ownBlock=some w.heap.size):=by
 obtain⟨i0,hi,hz0,hz1,hz2⟩:=info_parts Tryz.infoN
 have hwf:∀x∈xs++ys,x.wf:=fun x hx=>by
  rcases List.mem_append.1 hx with h|h
  ·exact how.1 x h
  ·exact hN.1 x h
 cases A with
 | none =>
  have hc:=hA rfl
  have hy:ys=[]:=by
   rcases Nat.eq_zero_or_pos ys.length with h|h
   ·exact List.eq_nil_of_length_eq_zero h
   ·obtain⟨b,off,e,_⟩:=hN.at_ h
    cases e
  subst hy;subst hc;subst hm;refine⟨v,w,run_append_owned_none (P:=Tryz.prog) (w:=w) base _ ty 74 i0 5 Tryz.underlying24 hi v _ _ how.2,?_,⟨rfl,rfl,rfl,Nat.le_refl _,fun _ _ _=>rfl⟩,.inl rfl⟩
  rw[List.append_nil];exact how
 | some ad =>
  obtain⟨v',w',hrun,h2,h3,_,h5⟩:=run_append_own_at (P:=Tryz.prog) w base 24 ty 74 i0 (ndv nd0) 5 40 Tryz.underlying24 hi hz0 hz1 hz2 rfl (by omega) v xs.length (ndcs xs) how.2 ad m c (ndcs ys) (by rw[ndcs_len,hm]) (hN.cells rfl) (ndcs_one ys) (by simp only[maxLen];omega) (by omega) hb
  refine⟨v',w',hrun,⟨hwf,?_⟩,h3,h5⟩
  rw[ndcs_app,List.length_append,hm];exact h2
theorem wpList_append_nodes (w:World){ops:Array Oper}{rest:List Oper}{o:Oper}{a:Act}{Q:Exit→Act→World→Prop}(hg:o.guard=none)(s x:Operand)
  (hop:o.op=Op.call { callee:=Callee.builtin Builtin.append,args:=#[s,x],argTypes:=#[24,24] }) (base:Nat) (v:Value) (xs ys:List Nd) (A:Option Addr) (m c:Nat)
  (hs:a.eval s=v) (hx:a.eval x=.slice A m c) (how:OwnN w base v xs) (hN:Ns w A c ys) (hm:ys.length=m) (hA:A=none→c=0) (hsz:xs.length+m≤1000000) (hb:base≤w.heap.size)
  (hK:∀v' w',OwnN w' base v' (xs++ys)→w.grownBy w' v.ownBlock→(v'.ownBlock=v.ownBlock∨v'.ownBlock=some w.heap.size)→wpList Tryz.prog ops Q rest (a.put o.dst v') w') :
  wpList Tryz.prog ops Q (o :: rest) a w:=by
 refine wpList_plain hg fun K hK'=>?_
 obtain⟨v',w',hrun,h1,h2,h3⟩:=run_append_nodes w base v xs ys o.type A m c how hN hm hA hsz hb
 unfold Oper.wp execOp
 simp only[hop,resolve,invoke,builtin,Sem.run_bind,Sem.run_pure,Result.andThen_ok,List.map_toArray,List.map_cons,List.map_nil,hs,hx,hrun]
 exact hK' _ _ (hK v' w' h1 h2 h3)
theorem oper_append_nodes {w:World}{o:Oper}{a:Act}{K:Act→World→Prop}{Q:Exit→Act→World→Prop}(s x:Operand)
  (hop:o.op=Op.call { callee:=Callee.builtin Builtin.append,args:=#[s,x],argTypes:=#[24,24] }) (base:Nat) (v:Value) (xs ys:List Nd) (A:Option Addr) (m c:Nat)
  (hs:a.eval s=v) (hx:a.eval x=.slice A m c) (how:OwnN w base v xs) (hN:Ns w A c ys) (hm:ys.length=m) (hA:A=none→c=0) (hsz:xs.length+m≤1000000) (hb:base≤w.heap.size)
  (h:∀v' w',OwnN w' base v' (xs++ys)→w.grownBy w' v.ownBlock→(v'.ownBlock=v.ownBlock∨v'.ownBlock=some w.heap.size)→K (a.put o.dst v') w'):Oper.wp Tryz.prog o a w K Q:=by
 obtain⟨v',w',hrun,h1,h2,h3⟩:=run_append_nodes w base v xs ys o.type A m c how hN hm hA hsz hb
 unfold Oper.wp execOp
 simp only[hop,resolve,invoke,builtin,Sem.run_bind,Sem.run_pure,Result.andThen_ok,List.map_toArray,List.map_cons,List.map_nil,hs,hx,hrun]
 exact h v' w' h1 h2 h3
theorem Ns.gbr {w w':World}{A:Option Addr}{c:Nat}{l:List Nd}{row:Option Nat}(h:Ns w A c l)(hg:w.grownBy w' row)(hA:∀a,A=some a→some a.block≠row):Ns w' A c l :=
 ⟨h.1,h.2.1,h.2.2.1,fun hn=>by
  obtain⟨b,off,e,hlt,hc⟩:=h.2.2.2 hn
  exact⟨b,off,e,Nat.lt_of_lt_of_le hlt hg.size,fun i hi=>(hc i hi).below (hg.block b hlt (hA _ e))⟩⟩
theorem OwnN.gbr {w w':World}{base:Nat}{v:Value}{l:List Nd}{row:Option Nat}(h:OwnN w base v l)(hg:w.grownBy w' row)(hv:v.ownBlock=none∨v.ownBlock≠row):OwnN w' base v l:=⟨h.1,h.2.kept hg hv⟩
theorem OwnN.alloc {w:World}{base:Nat}{v:Value}{l:List Nd}(h:OwnN w base v l)(o:Obj):OwnN (w.alloc o) base v l:=⟨h.1,h.2.alloc o⟩
theorem OwnN.lt {w:World}{base:Nat}{v:Value}{l:List Nd}(h:OwnN w base v l):∀k,v.ownBlock=some k→base≤k∧k<w.heap.size:=h.2.lt
structure Ky (P:Nat→Prop)(w w':World):Prop where
 os:w'.os=w.os
 tape:w'.tape=w.tape
 output:w'.output=w.output
 size:w.heap.size≤w'.heap.size
 block:∀k,k<w.heap.size→¬ P k→w'.heap[k]?=w.heap[k]?
theorem Ky.refl (P:Nat→Prop)(w:World):Ky P w w:=⟨rfl,rfl,rfl,Nat.le_refl _,fun _ _ _=>rfl⟩
theorem Ky.trans {P Q:Nat→Prop}{a b c:World}(h:Ky P a b)(k:Ky Q b c)(hQ:∀i,i<a.heap.size→Q i→P i):Ky P a c :=
 ⟨k.os.trans h.os,k.tape.trans h.tape,k.output.trans h.output,Nat.le_trans h.size k.size,fun i hi hn=>(k.block i (Nat.lt_of_lt_of_le hi h.size) (fun hq=>hn (hQ i hi hq))).trans (h.block i hi hn)⟩
theorem Ky.gb {P:Nat→Prop}{a b c:World}{r:Option Nat}(h:Ky P a b)(k:b.grownBy c r)(hr:∀i,i<a.heap.size→r=some i→P i):Ky P a c :=
 ⟨k.os.trans h.os,k.tape.trans h.tape,k.output.trans h.output,Nat.le_trans h.size k.size,fun i hi hn=>(k.block i (Nat.lt_of_lt_of_le hi h.size) (fun hq=>hn (hr i hi hq.symm))).trans (h.block i hi hn)⟩
theorem Ky.alloc {P:Nat→Prop}{a b:World}(h:Ky P a b)(o:Obj):Ky P a (b.alloc o):=h.gb (World.grownBy_alloc b o none) (fun _ _ e=>by cases e)
theorem Ky.below {P:Nat→Prop}{a b c:World}(h:Ky P a b)(k:Below b.heap.size b c):Ky P a c :=
 ⟨k.os.trans h.os,k.tape.trans h.tape,k.output.trans h.output,Nat.le_trans h.size k.size,fun i hi hn=>(k.block i (Nat.lt_of_lt_of_le hi h.size)).trans (h.block i hi hn)⟩
theorem Ky.set {P:Nat→Prop}{a b:World}(h:Ky P a b)(p:Addr)(hp:p.block<a.heap.size→P p.block)(u:Value):Ky P a (b.setCell p u) :=
 ⟨h.os,h.tape,h.output,by simpa [World.setCell] using h.size,fun i hi hn=>(Below.heap_setCell _ _ _ _ (fun e=>hn (by subst e;exact hp hi))).trans (h.block i hi hn)⟩
theorem Ky.to {P:Nat→Prop}{a b:World}(h:Ky P a b){B:Nat}(hB:B≤a.heap.size)(hP:∀k,P k→B≤k):Below B a b :=
 ⟨h.os,h.tape,h.output,h.size,fun k hk=>h.block k (Nat.lt_of_lt_of_le hk hB) (fun hp=>Nat.not_lt.2 (hP k hp) hk)⟩
theorem Ky.nd {P:Nat→Prop}{w w':World}(h:Ky P w w'){b o:Nat}{x:Nd}(hx:NdAt w b o x)(hb:b<w.heap.size)(hp:¬ P b):NdAt w' b o x:=hx.below (h.block b hb hp)
def mix (x y:Nd)(k:Nat):Nd:=⟨x.lv,if 0<k then y.a else x.a,if 1<k then y.b else x.b,if 2<k then y.c else x.c,if 3<k then y.d else x.d⟩
theorem mix_four {x y:Nd}(h:x.lv=y.lv):mix x y 4=y:=by
 unfold mix
 rw[h]
 rfl
theorem mix_kid (x y:Nd)(k:Nat){i:Nat}(hi:i<4):(mix x y k).kid i=if i<k then y.kid i else x.kid i:=by
 match i,hi with
 | 0,_=>rfl
 | 1,_=>rfl
 | 2,_=>rfl
 | 3,_=>rfl
def NdBox (w:World)(g:Nat)(x:Nd):Prop:=w.heap[g]?=some (.cells #[.int .i64 x.lv,.int .i64 x.a,.int .i64 x.b,.int .i64 x.c,.int .i64 x.d] 74)
theorem NdBox.lt {w:World}{g:Nat}{x:Nd}(h:NdBox w g x):g<w.heap.size:=(Array.getElem?_eq_some_iff.1 h).1
theorem NdBox.at_ {w:World}{g:Nat}{x:Nd}(h:NdBox w g x):NdAt w g 0 x:=by
 refine⟨?_,?_,?_,?_,?_⟩ <;> (rw[cell_of_row w g _ _ _ (0,0) h];rfl)
theorem NdBox.free {w:World}{g:Nat}{x:Nd}(h:NdBox w g x)(k:Nat):w.frozen? ⟨g,k,none⟩=false:=frozen_of_row w g k _ _ h
theorem NdBox.new (w:World)(x:Nd):NdBox (w.alloc (.cells #[.int .i64 x.lv,.int .i64 x.a,.int .i64 x.b,.int .i64 x.c,.int .i64 x.d] 74)) w.heap.size x:=heap_alloc_new w _
theorem NdBox.stay {w w':World}{g:Nat}{x:Nd}(h:NdBox w g x)(hb:w'.heap[g]?=w.heap[g]?):NdBox w' g x:=hb.trans h
theorem NdBox.setKid {w:World}{g:Nat}{x y:Nd}{k:Nat}(h:NdBox w g (mix x y k))(hk:k<4){o:Nat}(ho:o=1+k){u:Int}(hu:u=y.kid k):NdBox (w.setCell ⟨g,o,none⟩ (.int .i64 u)) g (mix x y (k+1)):=by
 subst ho
 subst hu
 refine(heap_setCell_same w g (1+k) _ _ _ h).trans ?_
 match k,hk with
 | 0,_=>rfl
 | 1,_=>rfl
 | 2,_=>rfl
 | 3,_=>rfl
def OwnD (w:World)(base g n:Nat)(ds:List Nat):Prop :=
 ds.length=n∧w.ownsRow base 3 1 (.slice (some ⟨g,0,none⟩) n n) n (ds.map fun k:Nat=>Value.int .i64 (k:Int))
theorem OwnD.cell {w:World}{base g n:Nat}{ds:List Nat}(h:OwnD w base g n ds){k:Nat}(hk:k<n):w.cell? ⟨g,k,none⟩=some (.int .i64 ((ds.getD k 0:Nat):Int)):=by
 have hl:k<ds.length:=by have:=h.1;omega
 rw[h.2.cellAt k (by omega),List.getElem?_map,List.getD_eq_getElem?_getD,List.getElem?_eq_getElem hl]
 rfl
theorem OwnD.free {w:World}{base g n:Nat}{ds:List Nat}(h:OwnD w base g n ds)(k:Nat):w.frozen? ⟨g,k,none⟩=false:=h.2.frozenAt k
theorem OwnD.set {w:World}{base g n:Nat}{ds:List Nat}(h:OwnD w base g n ds)(k u:Nat):OwnD (w.setCell ⟨g,k,none⟩ (.int .i64 (u:Int))) base g n (ds.set k u):=by
 refine⟨by simpa using h.1,?_⟩
 rw[List.map_set]
 exact(h.2.stored k _).1
theorem madeD (n:Nat):(madeCells (Value.cells (.int .i64 0)) (n*1)).toList=(List.replicate n 0).map (fun k:Nat=>Value.int .i64 (k:Int)):=by
 rw[Nat.mul_one]
 refine List.ext_getElem (by simp[madeCells]) fun i h1 h2=>?_
 simp[madeCells,Value.cells,Nat.mod_one]
theorem OwnD.made {w:World}{base g n:Nat}(h:w.ownsRow base 3 1 (.slice (some ⟨g,0,none⟩) n n) n (madeCells (Value.cells (.int .i64 0)) (n*1)).toList):OwnD w base g n (List.replicate n 0) :=
 ⟨by simp,by rw[←madeD];exact h⟩
theorem OwnD.lt {w:World}{base g n:Nat}{ds:List Nat}(h:OwnD w base g n ds):base≤g∧g<w.heap.size:=h.2.lt g rfl
theorem OwnD.gbr {w w':World}{base g n:Nat}{ds:List Nat}{row:Option Nat}(h:OwnD w base g n ds)(hg:w.grownBy w' row)(hv:row≠some g):OwnD w' base g n ds:=⟨h.1,h.2.kept hg (.inr (fun e=>hv e.symm))⟩
theorem gb_setCell (w:World)(p:Addr)(u:Value):w.grownBy (w.setCell p u) (some p.block) :=
 ⟨rfl,rfl,rfl,by simp[World.setCell],fun i _ hi=>Below.heap_setCell _ _ _ _ (fun e=>hi (by rw[e]))⟩
theorem ownN_none (w:World)(base:Nat):OwnN w base (.slice none 0 0) []:=⟨by simp,World.ownsRow_nil w base _ 5⟩
theorem own_dec {v:Value}{r:Option Nat}(h:∀k,v.ownBlock=some k→r≠some k):v.ownBlock=none∨v.ownBlock≠r:=by
 cases hv:v.ownBlock with
 | none=>exact .inl rfl
 | some k=>exact .inr (fun e=>h k hv e.symm)
theorem rinner_any (A:Option Addr)(c n:Nat)(l:List Nd)(p k:Nat)(w:World)(h:Ns w A c l)(hn:l.length=n)(hl:looseB l=true)(hp:p<n)(hlv:1<(at_ l p).lv)(hk:k<4) :
  Calls Tryz.prog 109 #[.slice A n c,.int .i64 ((p:Int)+1),.int .i64 (k:Int)] w fun e w'=>e=.returned (.int .i64 (innK l (at_ l p) k))∧w=w':=by
 have hcap:=h.cap
 rw[hn] at hcap
 have hpl:p<l.length:=by omega
 obtain⟨b,off,rfl,hb,hc⟩:=h.at_ (by omega)
 have hyc:=(hc p hpl).kid hk
 have hfk:=fit_kid (loose_fit hl hpl) hk
 obtain⟨R,hR⟩:∃R,R=innK l (at_ l p) k:=⟨_,rfl⟩
 rw[←hR]
 obtain⟨y,hy⟩:∃y,y=(at_ l p).kid k:=⟨_,rfl⟩
 unfold innK at hR
 rw[←hy] at hR hfk hyc
 have i1:(p:Int)<(n:Int):=by omega
 have i2:(k:Int)<4:=by omega
 rcases kid_up (by omega) hfk with rfl|⟨r,rfl,hr,_⟩
 ·rw[if_pos rfl] at hR;subst hR;clear hy hfk hn hl hlv hc h
  go_enter Tryz.func109,Tryz.ntmps109
  go_wp2_with fail
  go_ret
  exact⟨rfl,rfl⟩
 ·rw[if_neg (by omega),show((r:Int)+1).toNat-1=r by omega] at hR;obtain⟨k2,hk2⟩:∃k2,k2=3-k:=⟨_,rfl⟩
  have hzc:=(hc r hr).kid (q:=k2) (by omega)
  rw[←hk2] at hR;rw[←hR] at hzc;have t1:((r:Int)+1==0)=false:=beq_eq_false_iff_ne.2 (by omega)
  have e3:(3:Int)-(k:Int)=(k2:Int):=by omega
  have i3:(r:Int)<(n:Int):=by omega
  have i4:(k2:Int)<4:=by omega
  have HE:=Lib.hid e3;clear hy hfk hn hl hlv hc hk2 hR h hr
  go_enter Tryz.func109,Tryz.ntmps109
  go_wp2_with fail
  go_ret
  exact⟨rfl,rfl⟩
theorem rfind_any (A:Option Addr)(c n:Nat)(l:List Nd)(x:Nd)(w:World)(h:Ns w A c l)(hn:l.length=n)(hx:x.wf) :
  Calls Tryz.prog 110 #[.slice A n c,ndv x] w fun e w'=>e=.returned (.int .i64 ((fnd l x:Nat):Int))∧Below w.heap.size w w':=by
 have hcap:=h.cap
 rw[hn] at hcap
 have hb:=(Below.refl w.heap.size w).alloc (Nat.le_refl _) (.cells #[.int .i64 x.lv,.int .i64 x.a,.int .i64 x.b,.int .i64 x.c,.int .i64 x.d] 74)
 have HB:=Lib.hid hb
 have HNL:=Lib.hid (h.below hb)
 have HL:=Lib.hid hn
 have HWX:=Lib.hid hx
 obtain⟨R,hR⟩:∃R,R=fnd l x:=⟨_,rfl⟩
 rw[←hR]
 have HR:=Lib.hid hR
 have hbx:=NdAt.new w x 74
 clear h hn hb hx hR
 go_enter Tryz.func110,Tryz.ntmps110
 go_wp2_with fail
 obtain⟨f1,f2,f3,f4,f5⟩:=hbx
 generalize hg:w.heap.size=g at *
 generalize hW:w.alloc _=W at *
 have HG:=Lib.hid hg
 clear hW hg
 go_loopw [5] (fun i wr=>∃(k nd:Nat),wr=W.drewN nd∧k≤n∧i=.int .i64 k∧∀j,j<k→at_ l j≠x) (fun i _=>n-(intOf i).toNat)
 case atStart=>exact⟨0,0,rfl,by omega,rfl,fun j hj=>by omega⟩
 case round =>
  obtain⟨k,nd,rfl,hk,rfl,hall⟩:=hrel
  have HA:=Lib.hid hall;clear hall;by_cases hlt:k<n
  ·obtain⟨b,off,rfl,hb,hc⟩:=HNL.out.at_ (by rw[HL.out];omega)
   obtain⟨c1,c2,c3,c4,c5⟩:=hc k (by rw[HL.out];exact hlt)
   have hwy:=HNL.out.wf (i:=k) (by rw[HL.out];exact hlt)
   clear hc;obtain⟨y,hy⟩:∃y,y=at_ l k:=⟨_,rfl⟩
   rw[←hy] at c1 c2 c3 c4 c5 hwy;have HY:=Lib.hid hy;have hq:=eql_node y x hwy HWX.out
   have i1:(k:Int)<(n:Int):=by omega
   have i2:(0:Int)≤(k:Int):=by omega
   clear hy hwy;by_cases hxy:y=x
   ·have HXY:=Lib.hid hxy;rw[decide_eq_true hxy] at hq;clear hxy;go_wp2_with fail
    go_quiet (fail)
    go_wp2_with fail
    go_ret
    refine⟨?_,below_drewN' (by rw[HG.out];exact HB.out) _⟩
    rw[HR.out,fnd_some (i:=k) (by rw[HL.out];exact hlt) (by rw[←HY.out];exact HXY.out) HA.out]
    simp
   ·have HXY:=Lib.hid hxy;rw[decide_eq_false hxy] at hq;clear hxy;go_wp2_with fail
    go_quiet (fail)
    go_wp2_with fail
    go_roundw
    case rel =>
     refine⟨k+1,_,rfl,by omega,by go_num,fun j hj=>?_⟩
     rcases Nat.lt_or_ge j k with h1|h1
     ·exact HA.out j h1
     ·rw[show j=k by omega,←HY.out];exact HXY.out
    case measure=>simp[intOf];omega
  ·go_wp2_with fail
   go_ret
   refine⟨?_,below_drewN' (by rw[HG.out];exact HB.out) _⟩
   rw[HR.out,fnd_none fun j hj=>HA.out j (by rw[HL.out] at hj;omega)]
   rfl
theorem rloose_b (A:Option Addr)(c n:Nat)(l:List Nd)(w:World)(h:Ns w A c l)(hn:l.length=n) :
  Calls Tryz.prog 80 #[.slice A n c] w fun e w'=>e=.returned (.bool (looseB l))∧Below w.heap.size w w' :=
 (rloose_at A c n l w h hn).mono fun _ _ ⟨he,hw⟩=>⟨he,drewN_below hw⟩
def okB (l:List Nd)(k:Int):Bool:=looseB l&&decide (0≤k∧k≤(l.length:Int))
def ofQ (l:List Nd)(k:Int):List Nd:=if okB l k=true then OfL l k.toNat else []
def ofE (l:List Nd)(k:Int):Int:=if okB l k=true then 0 else 1
def RetO (l:List Nd)(k:Int)(w:World)(e:Ending)(w':World):Prop :=
 ∃A c,e=.returned (.tuple #[.agg #[.slice A (ofQ l k).length c],.int .i64 (ofE l k)])∧Ns w' A c (ofQ l k)∧(A=none→c=0)∧Below w.heap.size w w'
theorem ofQ_no {l:List Nd}{k:Int}(h:okB l k=false):ofQ l k=[]∧ofE l k=1:=by
 unfold ofQ ofE
 rw[if_neg (by rw[h];simp),if_neg (by rw[h];simp)]
 exact⟨rfl,rfl⟩
theorem ofQ_yes {l:List Nd}{n:Nat}(hl:looseB l=true)(hn:n≤l.length):ofQ l (n:Int)=OfL l n∧ofE l (n:Int)=0:=by
 have h:okB l (n:Int)=true:=by
  unfold okB;rw[hl,decide_eq_true (by omega)]
  rfl
 unfold ofQ ofE
 rw[if_pos h,if_pos h,Int.toNat_natCast]
 exact⟨rfl,rfl⟩
theorem okB_no {l:List Nd}{k:Int}(h:looseB l=false∨k<0∨(l.length:Int)<k):okB l k=false:=by
 unfold okB
 rcases h with h|h
 ·rw[h]
  rfl
 ·rw[decide_eq_false (by omega),Bool.and_false]
theorem ns_nil (w:World):Ns w none 0 []:=⟨by simp,Nat.le_refl _,by simp[maxLen],fun h=>absurd h (Nat.lt_irrefl 0)⟩
def RetSh (l:List Nd)(k:Nat)(w:World)(e:Ending)(w':World):Prop :=
 ∃v cur j,e=.returned (.tuple #[v,.int .i64 ((j:Nat):Int)])∧OwnN w' w.heap.size v cur∧looseB cur=true∧j≤cur.length∧den cur j=shrT (den l k)∧cur.length≤l.length+1329∧Below w.heap.size w w'
def lenOf:Value→Nat|.slice _ n _=>n|_=>0
theorem OwnN.stays {w w':World}{base:Nat}{v:Value}{l:List Nd}(h:OwnN w base v l)(hb:Below w.heap.size w w'):OwnN w' base v l :=
 h.gbr (row:=none) ⟨hb.os,hb.tape,hb.output,hb.size,fun i hi _=>hb.block i hi⟩ (by
  cases hv:v.ownBlock
  ·exact .inl rfl
  ·exact .inr (by simp))
def SS (l:List Nd)(t:Tr)(cur:List Nd)(p:Nat):Prop:=looseB cur=true∧p<cur.length∧den cur (p+1)≠.e∧shrT (den cur (p+1))=t∧(cur.length:Int)+(at_ cur p).lv≤l.length+1329
theorem SS.start {l:List Nd}(hl:looseB l=true){p:Nat}(hp:p<l.length)(hne:den l (p+1)≠.e):SS l (shrT (den l (p+1))) l p:=by
 have:=fit_lv (loose_fit hl hp)
 exact⟨hl,hp,hne,rfl,by omega⟩
theorem SS.next {l cur:List Nd}{t:Tr}{p:Nat}(h:SS l t cur p)(hh:holT (den cur (p+1))=true):SS l t (cur++[innN cur (at_ cur p)]) cur.length:=by
 obtain⟨h1,h2,h3,h4,h5⟩:=h
 obtain⟨s1,s2,s3,s4⟩:=shr_list h1 h2 hh
 refine⟨s1,by simp,by rw[s2];exact s3,by rw[s2,s4];exact h4,?_⟩
 rw[at_last]
 show(((cur++[_]).length:Nat):Int)+((at_ cur p).lv-1)≤_
 rw[List.length_append]
 show((cur.length+1:Nat):Int)+_≤_
 omega
theorem SS.len {l cur:List Nd}{t:Tr}{p:Nat}(h:SS l t cur p):cur.length≤l.length+1328:=by
 obtain⟨h1,h2,h3,h4,h5⟩:=h
 have:=fit_lv (loose_fit h1 h2)
 omega
theorem rshrink_any (A:Option Addr)(c n:Nat)(l:List Nd)(k:Nat)(w:World)(h:Ns w A c l)(hn:l.length=n)(hl:looseB l=true)(hn9:n≤900000)(hA:A=none→c=0)(hk:k≤n) :
  Calls Tryz.prog 81 #[.slice A n c,.int .i64 (k:Int)] w (RetSh l k w):=by
 have hcap:=h.cap
 rw[hn] at hcap
 have HN:=Lib.hid h
 have HL:=Lib.hid hn
 have HLL:=Lib.hid hl
 have HA:=Lib.hid hA
 have q0:True:=trivial
 have hemp:=empB_den hl (n:=k) (by omega)
 clear h hn hl hA
 by_cases he:den l k=.e
 ·have HE:=Lib.hid he;rw[he] at hemp;have HM:=Lib.hid (show empB l k=true from hemp)
  clear he hemp
  go_enter Tryz.func81,Tryz.ntmps81
  go_wp2_with (first
   | (have _t:=q0;at_builtin;clear _t;go_loud (refine wpList_append_nodes _ rfl _ _ rfl w.heap.size _ [] l A n c rfl rfl (OwnN.start _) (HN.out.below ((Below.refl _ w).alloc (Nat.le_refl _) _)) HL.out HA.out (by simp;omega) (by simp) ?_;intro v2 w2 ho2 hg2 hk2;rw[List.nil_append] at ho2;have HO:=Lib.hid ho2;obtain⟨A2,c2,hv2,hn2,hA2,hB2⟩:=ho2.shape;rw[HL.out] at hv2;subst hv2;have HN2:=Lib.hid hn2;have HB:=Lib.hid (((Below.refl _ w).alloc (Nat.le_refl _) _).grown hg2 (by simp) (fun k hk=>by cases hk;exact Nat.le_refl _));clear ho2 hg2 hk2 hn2 hA2 hB2;have q1:=q0;clear q0))
   | (have _t:=q1;go_at_call 107;clear _t;go_loud (refine(rempty_any _ _ n l k _ HN2.out HL.out HLL.out (by omega) hk).mono ?_;rintro e w3 ⟨rfl,b3⟩;have HB3:=Lib.hid b3;clear b3;rw[HM.out];have q2:=q1;clear q1)))
  go_ret2
  refine⟨.slice A2 n c2,l,0,rfl,?_,HLL.out,Nat.zero_le _,?_,by omega,HB.out.trans (HB3.out.mono HB.out.size)⟩
  ·exact HO.out.stays HB3.out
  ·rw[den_zero,HE.out,shr_e]
 ·obtain⟨p,rfl⟩:∃p,k=p+1:=⟨k-1,by have:k≠0:=fun e=>he (by rw[e];exact den_zero l);omega⟩
  have HM:=Lib.hid (show empB l (p+1)=false by rw[hemp];exact isE_no.2 he)
  have HS0:=Lib.hid (SS.start HLL.out (by rw[HL.out];omega) he)
  clear he hemp
  go_enter Tryz.func81,Tryz.ntmps81
  go_wp2_with (first
   | (have _t:=q0;at_builtin;clear _t;go_loud (refine wpList_append_nodes _ rfl _ _ rfl w.heap.size _ [] l A n c rfl rfl (OwnN.start _) (HN.out.below ((Below.refl _ w).alloc (Nat.le_refl _) _)) HL.out HA.out (by simp;omega) (by simp) ?_;intro v2 w2 ho2 hg2 hk2;rw[List.nil_append] at ho2;have HO:=Lib.hid ho2;obtain⟨A2,c2,hv2,hn2,hA2,hB2⟩:=ho2.shape;rw[HL.out] at hv2;subst hv2;have HN2:=Lib.hid hn2;have HB:=Lib.hid (((Below.refl _ w).alloc (Nat.le_refl _) _).grown hg2 (by simp) (fun k hk=>by cases hk;exact Nat.le_refl _));clear ho2 hg2 hk2 hn2 hA2 hB2;have q1:=q0;clear q0))
   | (have _t:=q1;go_at_call 107;clear _t;go_loud (refine(rempty_any _ _ n l (p+1) _ HN2.out HL.out HLL.out (by omega) hk).mono ?_;rintro e w3 ⟨rfl,b3⟩;have HB3:=Lib.hid b3;clear b3;rw[HM.out];have q2:=q1;clear q1)))
  obtain⟨v0,hv0⟩:∃v0,v0=Value.slice A2 n c2:=⟨_,rfl⟩
  have HO3:=Lib.hid (show OwnN w3 w.heap.size v0 l by rw[hv0];exact HO.out.stays HB3.out)
  have HBA:=Lib.hid (HB.out.trans (HB3.out.mono HB.out.size))
  rw[←hv0];clear hv0
  go_loopw [6,1,7,8] (fun z1 z2 z3 z4 wr=>∃(cur:List Nd) (r:Nat) (v u1 u2:Value),v=z1∧z2=.int .i64 ((r:Int)+1)∧z3=u1∧z4=u2∧OwnN wr w.heap.size v cur∧SS l (shrT (den l (p+1))) cur r∧Below w.heap.size w wr) (fun z1 _ _ _ _=>n+2000-lenOf z1)
  case atStart=>exact⟨l,p,_,_,_,rfl,by simp,rfl,rfl,HO3.out,HS0.out,HBA.out⟩
  case round =>
   obtain⟨cur,r,v,u1,u2,rfl,rfl,rfl,rfl,how,hss,hbw⟩:=hrel
   have HS:=Lib.hid hss;have HW:=Lib.hid how;have hlen:=hss.len
   rw[HL.out] at hlen;obtain⟨A3,c3,rfl,hn3,hA3,hB3⟩:=how.shape
   have HN3:=Lib.hid hn3;have HA3:=Lib.hid hA3;have HB4:=Lib.hid hB3;obtain⟨g1,g2,g3,g4,g5⟩:=hss
   have hhol:=hollow_den g1 g2 g3
   obtain⟨cn,hcn⟩:∃cn,cn=cur.length:=⟨_,rfl⟩
   rw[←hcn] at g2 hlen ⊢;have HCN:=Lib.hid hcn;have G1:=Lib.hid g1;have G3:=Lib.hid g3;have G4:=Lib.hid g4;clear how hn3 hA3 hB3 g1 g3 g4 g5 hcn;cases hh:holT (den cur (r+1)) with
   | false =>
    have HH:=Lib.hid hh;rw[hh] at hhol;have HHO:=Lib.hid hhol;clear hh hhol;go_wp2_with (go_at_call 108;go_loud (refine(rhollow_any _ _ cn cur (r+1) _ HN3.out HCN.out.symm G1.out (by omega) (by omega)).mono ?_;rintro e w4 ⟨rfl,b4⟩;have HB5:=Lib.hid b4;clear b4;rw[HHO.out]))
    go_ret2
    have hcn:=HCN.out
    have hll:=HL.out
    refine⟨.slice A3 cn c3,cur,r+1,rfl,?_,G1.out,by omega,?_,by omega,hbw.trans (HB5.out.mono hbw.size)⟩
    ·rw[hcn];exact HW.out.stays HB5.out
    ·rw[←G4.out,shr_done HH.out]
   | true =>
    have HH:=Lib.hid hh;rw[hh] at hhol;have HHO:=Lib.hid hhol;have hlv:=(hol_lv G1.out (by rw[←HCN.out];exact g2) hh).1
    clear hh hhol;obtain⟨b,off,rfl,hb,hc⟩:=HN3.out.at_ (by rw[←HCN.out];omega)
    have c1:=(hc r (by rw[←HCN.out];exact g2)).1
    have HLV:=Lib.hid hlv;have HBB:=Lib.hid hb;obtain⟨x,hx⟩:∃x,x=at_ cur r:=⟨_,rfl⟩
    rw[←hx] at c1 hlv;have HX:=Lib.hid hx;have hfx:=fit_lv (loose_fit G1.out (i:=r) (by rw[←HCN.out];exact g2))
    rw[←hx] at hfx;have i1:(r:Int)<(cn:Int):=by omega
    clear hc hb hx;go_wp2_with (go_at_call 108;go_loud (refine(rhollow_any _ _ cn cur (r+1) _ HN3.out HCN.out.symm G1.out (by omega) (by omega)).mono ?_;rintro e w4 ⟨rfl,b4⟩;have HB5:=Lib.hid b4;have c1:=(World.cell?_of_block (w:=wr) (a:=⟨b,off+r*5,none⟩) (b4.block b HBB.out)).trans c1;clear b4;rw[HHO.out]))
    have HBW4:=Lib.hid (hbw.trans (HB5.out.mono hbw.size))
    have HW4:=Lib.hid (HW.out.stays HB5.out)
    have HN4:=Lib.hid (HN3.out.below HB5.out)
    obtain⟨g,hg⟩:∃g,g=w4.heap.size:=⟨_,rfl⟩
    have hbox:NdBox (w4.alloc (.cells #[.int .i64 (x.lv-1),.int .i64 0,.int .i64 0,.int .i64 0,.int .i64 0] 74)) g (mix ⟨x.lv-1,0,0,0,0⟩ (innN cur x) 0):=by rw[hg];exact NdBox.new w4 ⟨x.lv-1,0,0,0,0⟩
    have HBOX:=Lib.hid hbox;have HG5:=Lib.hid (World.grownBy_alloc w4 (.cells #[.int .i64 (x.lv-1),.int .i64 0,.int .i64 0,.int .i64 0,.int .i64 0] 74) (some g))
    have HGB:=Lib.hid (show b<g by rw[hg];exact Nat.lt_of_lt_of_le HBB.out HB5.out.size)
    have HGW:=Lib.hid (show w.heap.size≤g by rw[hg];exact HBW4.out.size)
    have HGO:=Lib.hid hg;rw[←hg]
    generalize hWW:w4.alloc _=W at *
    clear hWW hg hbox c1
    go_loopw [8] (fun i wq=>∃(q:Nat),q≤4∧i=.int .i64 q∧NdBox wq g (mix ⟨x.lv-1,0,0,0,0⟩ (innN cur x) q)∧w4.grownBy wq (some g)) (fun i _=>4-(intOf i).toNat)
    case atStart=>exact⟨0,by omega,rfl,HBOX.out,HG5.out⟩
    case round =>
     obtain⟨q,hq,rfl,hbq,hgq⟩:=hrel
     have HBQ:=Lib.hid hbq;have HGQ:=Lib.hid hgq;have HNQ:=Lib.hid (HN4.out.gbr hgq (fun a ea e=>by cases ea;exact absurd (Option.some.inj e) (Nat.ne_of_lt HGB.out)))
     clear hbq hgq;by_cases hq4:q<4
     ·have i2:(q:Int)<4:=by omega
      have i3:(0:Int)≤(q:Int):=by omega
      have hfz:=HBQ.out.free (1+q)
      have hce:=HBQ.out.at_.kid hq4
      have e1:0+1+q=1+q:=by omega
      rw[e1] at hce
      generalize (mix ⟨x.lv-1,0,0,0,0⟩ (innN cur x) q).kid q=z at hce
      clear e1;go_wp2_with (go_at_call 109;go_loud (refine(rinner_any _ _ cn cur r q _ HNQ.out HCN.out.symm G1.out g2 HLV.out hq4).mono ?_;rintro e w5 ⟨rfl,rfl⟩;rw[←HX.out]))
      go_roundw
      case rel =>
       refine⟨q+1,by omega,by go_num,HBQ.out.setKid hq4 (by omega) (innN_kid cur x hq4).symm,gb_trans HGQ.out (gb_setCell _ _ _)⟩
      case measure=>simp[intOf];omega
     ·have hq5:q=4:=by omega
      subst hq5;rw[mix_four (show(⟨x.lv-1,0,0,0,0⟩:Nd).lv=(innN cur x).lv from rfl)] at HBQ;obtain⟨f1,f2,f3,f4,f5⟩:=HBQ.out.at_
      have HSN:=Lib.hid (HS.out.next HH.out)
      rw[←HX.out] at HSN;obtain⟨y,hy⟩:∃y,y=innN cur x:=⟨_,rfl⟩
      rw[←hy] at f1 f2 f3 f4 f5 HSN;have hwy:y.wf:=by
       have h1:=(inn_step G1.out (p:=r) (by rw[←HCN.out];exact g2) HLV.out G3.out).1
       rw[←HX.out,←hy] at h1;exact fit_wf h1 (by rw[←HCN.out];omega)
      have HWY:=Lib.hid hwy;have HOQ:=Lib.hid (show OwnN wr w.heap.size (.slice (some ⟨b,off,none⟩) cn c3) cur by
       have h1:=HW4.out.gbr HGQ.out (.inr (fun e=>absurd (Option.some.inj e) (Nat.ne_of_lt HGB.out)))
       rw[HCN.out];exact h1)
      have hgs:w.heap.size≤wr.heap.size:=Nat.le_trans HBW4.out.size HGQ.out.size
      clear hwy hy;go_wp2_with (at_builtin;go_loud (refine wpList_append_nodes _ rfl _ _ rfl w.heap.size _ cur [y] _ 1 1 rfl rfl (HOQ.out.alloc _) (ns_lit1 _ _ y HWY.out rfl) rfl (fun e=>by cases e) (by rw[←HCN.out];omega) (by simp;omega) ?_;intro v6 w6 ho6 hg6 hk6;obtain⟨A6,c6,hv6,-,-,-⟩:=ho6.shape;have HO6:=Lib.hid ho6;have HG6:=Lib.hid hg6;have HK6:=Lib.hid hk6;subst hv6;clear ho6 hg6 hk6))
      go_roundw
      case rel =>
       refine⟨cur++[y],cur.length,.slice A6 (cur++[y]).length c6,_,_,(by simp),?_,rfl,rfl,HO6.out,HSN.out,?_⟩
       ·simp
       ·refine((HBW4.out.grown HGQ.out HBW4.out.size (fun k hk=>by cases hk;exact HGW.out)).alloc hgs _).grown HG6.out (by simp;omega) (fun k hk=>(HOQ.out.lt k hk).1)
      case measure =>
       have hcn:=HCN.out
       simp[lenOf]
       omega
end Go.Proofs.YtikehjindobpkaaGreat
