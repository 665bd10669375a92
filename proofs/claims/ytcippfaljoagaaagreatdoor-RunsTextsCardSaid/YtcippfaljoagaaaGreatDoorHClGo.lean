import Derived.Test.YtcippfaljoagaaaGreatDoorHClK
import Derived.Test.YtcippfaljoagaaaGreatDoorLaid

set_option linter.unusedVariables false
set_option linter.unusedSimpArgs false
set_option maxRecDepth 100000
set_option maxHeartbeats 6400000
namespace Go.Proofs.YtcippfaljoagaaaGreatDoor
open Go.RowKit Nds Num Go.Sort
def encC (v:Cv):List Value:=[.bool v.sx,.slice v.ax v.xs.length v.cx,.bool v.sy,.slice v.ay v.ys.length v.cy,.int .u8 v.st]
theorem zcI {w w':World}{blk:Nat}{A:Option Addr}{c:Nat}{xs:List Nat}(h:Us w A c xs)(hk:∀k,k<w.heap.size→k≠blk→w'.heap[k]?=w.heap[k]?)(hs:w.heap.size≤w'.heap.size)(ha:0<xs.length→∀a,A=some a→a.block≠blk):Us w' A c xs:=by
 obtain⟨h1,h2,h3,h4⟩:=h;refine⟨h1,h2,h3,fun hn=>?_⟩;obtain⟨b,off,e,hb,hc⟩:=h4 hn;have hne:b≠blk:=ha (by simpa using hn) _ e;exact⟨b,off,e,Nat.lt_of_lt_of_le hb hs,fun j u hu=>(World.cell?_of_block (a:=⟨b,off+j,none⟩) (hk b hb hne)).trans (hc j u hu)⟩
theorem zbS {w:World}{A:Option Addr}{c:Nat}{xs:List Nat}(h:Us w A c xs)(hx:0<xs.length):∀a,A=some a→a.block<w.heap.size:=fun a e=>by
 obtain⟨b,off,e',hb,_⟩:=h.at_ hx
 rw[e] at e';cases e';exact hb
theorem gbN {w w':World}(h:Below w.heap.size w w'):w.grownBy w' none:=⟨h.os,h.tape,h.output,h.size,fun k hk _=>h.block k hk⟩
theorem zrr (v:Cv):∀x∈encC v,x.oneCell'=true:=by
 intro x hx;simp only[encC,List.mem_cons,List.not_mem_nil,or_false] at hx;rcases hx with rfl|rfl|rfl|rfl|rfl <;> rfl
theorem ziA {l:List Cv}{i:Nat}(h:i<l.length):cat l i=l[i]:=by
 unfold cat;rw[List.getElem?_eq_getElem h];rfl
theorem zma {a b:Int}:ordI a b<0↔a<b:=by
 unfold ordI;split
 ·constructor <;> intro <;> omega
 ·split
  ·constructor <;> intro <;> omega
  ·constructor <;> intro <;> omega
theorem zdA {a b:Int}:ordI a b=0↔a=b:=by
 unfold ordI;split
 ·constructor <;> intro <;> omega
 ·split
  ·constructor <;> intro <;> omega
  ·constructor <;> intro <;> omega
end Go.Proofs.YtcippfaljoagaaaGreatDoor

namespace Go.Proofs.YtcippfaljoagaaaGreatDoor
open Nds
def atP (c:Cl)(x y:Int):Prop:=c.x=x∧c.y=y
instance (c:Cl) (x y:Int):Decidable (atP c x y):=by unfold atP;infer_instance
end Go.Proofs.YtcippfaljoagaaaGreatDoor

namespace Go.Proofs.YtcippfaljoagaaaGreatDoor
open Go.RowKit Nds
theorem Tryz.infoC:(Tryz.prog.info? 70).map (fun i=>(i.zero,i.size,i.bytes))=some (some (cvv cv0),5,72):=by kernel_rfl
def cvcs (l:List Cv):List Value:=l.flatMap encC
theorem zeL (l:List Cv):(cvcs l).length=l.length*5:=by
 unfold cvcs
 induction l with
 | nil=>rfl
 | cons x l ih =>
  rw[List.flatMap_cons,List.length_append,ih,List.length_cons];show 5+_=_;omega
theorem zmb (l m:List Cv):cvcs (l++m)=cvcs l++cvcs m:=by
 unfold cvcs;rw[List.flatMap_append]
theorem zkO:∀(l:List Cv) (i j:Nat),i<l.length→j<5→(cvcs l)[i*5+j]?=(encC (cat l i))[j]?
 | [],i,_,hi,_=>by simp at hi
 | x :: l,0,j,_,hj=>by
  show(encC x++cvcs l)[0*5+j]?=_;rw[List.getElem?_append_left (by show _<5;omega),show 0*5+j=j by omega];rfl
 | x :: l,i+1,j,hi,hj=>by
  show(encC x++cvcs l)[(i+1)*5+j]?=_;rw[List.getElem?_append_right (by show 5≤_;omega),show(i+1)*5+j-(encC x).length=i*5+j by show _-5=_;omega,zkO l i j (by simpa using hi) hj];rfl
theorem zrs (l:List Cv):∀u∈cvcs l,u.oneCell'=true:=fun u hu=>by
 obtain⟨x,_,hx⟩:=List.mem_flatMap.1 hu;exact zrr x u hx
def OwnC (w:World)(base:Nat)(v:Value)(l:List Cv):Prop:=w.ownsRow base 70 5 v l.length (cvcs l)
theorem OwnC.shape {w:World}{base:Nat}{v:Value}{l:List Cv}(h:OwnC w base v l) :
  ∃A c,v=.slice A l.length c∧l.length≤c∧c≤maxLen∧(A=none→c=0∧l=[])∧(∀a,A=some a→∃g,a=⟨g,0,none⟩∧base≤g∧g<w.heap.size∧(∀i,i<l.length→CvAt w g (i*5) (cat l i))∧∀o,w.frozen? ⟨g,o,none⟩=false):=by
 rcases h.2 with⟨h',hn⟩|⟨g,cap,cur,h',hb,hg,hnc,hcm,hcs,htake⟩
 ·refine⟨none,0,by rw[h',hn],by omega,by simp[maxLen],fun _=>⟨rfl,List.eq_nil_of_length_eq_zero hn⟩,(fun a e=>by cases e)⟩
 ·refine⟨some ⟨g,0,none⟩,cap,h',hnc,hcm,(fun e=>by cases e),fun a e=>?_⟩;cases e;have hlt:g<w.heap.size:=by
   rcases Nat.lt_or_ge g w.heap.size with hlt|hge
   ·exact hlt
   ·rw[Array.getElem?_eq_none hge] at hg;cases hg
  refine⟨g,rfl,hb,hlt,fun i hi=>?_,fun o=>frozen_of_row _ _ _ _ _ hg⟩;have hcell:∀j,j<5→w.cell? ⟨g,i*5+j,none⟩=(encC (cat l i))[j]?:=by
   intro j hj;have hlt:i*5+j<l.length*5:=by omega
   rw[cell_of_row w g (i*5+j) cur _ (0,0) hg,←zkO l i j hi hj,←htake,List.getElem?_take,if_pos hlt];simp
  exact⟨hcell 0 (by omega),hcell 1 (by omega),hcell 2 (by omega),hcell 3 (by omega),hcell 4 (by omega)⟩
theorem OwnC.nil (w:World)(base:Nat):OwnC w base (.slice none 0 0) []:=World.ownsRow_nil w base _ 5
theorem OwnC.kept {w w':World}{base:Nat}{v:Value}{l:List Cv}{row:Option Nat}(h:OwnC w base v l)(hg:w.grownBy w' row)(hv:v.ownBlock=none∨v.ownBlock≠row):OwnC w' base v l:=World.ownsRow.kept h hg hv
theorem OwnC.alloc {w:World}{base:Nat}{v:Value}{l:List Cv}(h:OwnC w base v l)(o:Obj):OwnC (w.alloc o) base v l:=h.kept (World.grownBy_alloc w o none) (by cases v.ownBlock <;> simp)
theorem OwnC.lt {w:World}{base:Nat}{v:Value}{l:List Cv}(h:OwnC w base v l):∀k,v.ownBlock=some k→base≤k∧k<w.heap.size:=World.ownsRow.lt h
theorem OwnC.cs {w:World}{base:Nat}{v:Value}{l:List Cv}(h:OwnC w base v l)(hu:∀x∈l,CvU w x):∃A c,v=.slice A l.length c∧Cs w A c l∧(A=none→c=0)∧∀a,A=some a→base≤a.block:=by
 obtain⟨A,c,h1,h2,h3,h4,h5⟩:=h.shape;refine⟨A,c,h1,⟨hu,h2,h3,fun hn=>?_⟩,fun e=>(h4 e).1,fun a e=>?_⟩
 ·cases A with
  | none=>have:=(h4 rfl).2;subst this;exact absurd hn (Nat.lt_irrefl 0)
  | some a =>
   obtain⟨g,rfl,hg,hlt,hc,_⟩:=h5 a rfl;exact⟨g,0,rfl,hlt,fun i hi=>by rw[Nat.zero_add];exact hc i hi⟩
 ·obtain⟨g,rfl,hg,_⟩:=h5 a e;exact hg
theorem zcB (w:World)(x:Cv):∀j u,(cvcs [x])[j]?=some u→(w.alloc (.cells #[.bool x.sx,.slice x.ax x.xs.length x.cx,.bool x.sy,.slice x.ay x.ys.length x.cy,.int .u8 x.st] 70)).cell? ((⟨w.heap.size,0,none⟩:Addr).add j)=some u:=by
 intro j u hu;have hj:=(List.getElem?_eq_some_iff.1 hu).1;rw[zeL] at hj;obtain⟨h0,h1,h2,h3,h4⟩:=CvAt.new w x 70;rw[Nat.zero_add] at h1 h2 h3 h4;have hj5:j<5:=by simpa using hj
 have hadd:(⟨w.heap.size,0,none⟩:Addr).add j=⟨w.heap.size,j,none⟩:=by
  unfold Addr.add;split
  ·rename_i h;subst h;rfl
  ·simp
 rw[hadd]
 match j,hj5 with
 | 0,_=>rw[h0];exact hu
 | 1,_=>rw[h1];exact hu
 | 2,_=>rw[h2];exact hu
 | 3,_=>rw[h3];exact hu
 | 4,_=>rw[h4];exact hu
theorem zbX (w:World)(base:Nat)(v:Value)(xs ys:List Cv)(ty:TypeId)(ad:Addr)(m c:Nat)(how:OwnC w base v xs)(hN:∀j u,(cvcs ys)[j]?=some u→w.cell? (ad.add j)=some u)(hm:ys.length=m)(hs:xs.length+m≤1000000)(hb:base≤w.heap.size) :
  ∃v' w',(Builtin.append_ #[22,22] ty #[v,.slice (some ad) m c]).run Tryz.prog w=.ok v' w'∧OwnC w' base v' (xs++ys)∧w.grownBy w' v.ownBlock∧(v'.ownBlock=v.ownBlock∨v'.ownBlock=some w.heap.size):=by
 obtain⟨i0,hi,hz0,hz1,hz2⟩:=info_parts Tryz.infoC;obtain⟨v',w',hrun,h2,h3,_,h5⟩:=run_append_own_at (P:=Tryz.prog) w base 22 ty 70 i0 (cvv cv0) 5 72 Tryz.underlying22 hi hz0 hz1 hz2 rfl (by omega) v xs.length (cvcs xs) how ad m c (cvcs ys) (by rw[zeL,hm]) hN (zrs ys) (by simp only[maxLen];omega) (by omega) hb;refine⟨v',w',hrun,?_,h3,h5⟩;unfold OwnC;rw[zmb,List.length_append,hm];exact h2
theorem zcC (w:World){ops:Array Oper}{rest:List Oper}{o:Oper}{a:Act}{Q:Exit→Act→World→Prop}(hg:o.guard=none)(s x:Operand)
  (hop:o.op=Op.call { callee:=Callee.builtin Builtin.append,args:=#[s,x],argTypes:=#[22,22] }) (base:Nat) (v:Value) (xs:List Cv) (y:Cv) (ad:Addr) (c:Nat)
  (hs:a.eval s=v) (hx:a.eval x=.slice (some ad) 1 c) (how:OwnC w base v xs) (hN:∀j u,(cvcs [y])[j]?=some u→w.cell? (ad.add j)=some u) (hsz:xs.length+1≤1000000) (hb:base≤w.heap.size)
  (hK:∀v' w',OwnC w' base v' (xs++[y])→w.grownBy w' v.ownBlock→(v'.ownBlock=v.ownBlock∨v'.ownBlock=some w.heap.size)→wpList Tryz.prog ops Q rest (a.put o.dst v') w') :
  wpList Tryz.prog ops Q (o :: rest) a w:=by
 refine wpList_plain hg fun K hK'=>?_;obtain⟨v',w',hrun,h1,h2,h3⟩:=zbX w base v xs [y] o.type ad 1 c how hN rfl hsz hb;unfold Oper.wp execOp;simp only[hop,resolve,invoke,builtin,Sem.run_bind,Sem.run_pure,Result.andThen_ok,List.map_toArray,List.map_cons,List.map_nil,hs,hx,hrun];exact hK' _ _ (hK v' w' h1 h2 h3)
end Go.Proofs.YtcippfaljoagaaaGreatDoor

namespace Go.Proofs.YtcippfaljoagaaaGreatDoor
open Go.RowKit Nds Num
structure PB (w:World)(B:Nat)(x y:Bool × Option Addr × Nat × List Nat)(W:World):Prop where
 b:Below w.heap.size w W
 lw:w.heap.size≤B
 lt:B+1<W.heap.size
 x0:W.cell? ⟨B,0,none⟩=some (.bool x.1)
 x1:W.cell? ⟨B,1,none⟩=some (.slice x.2.1 x.2.2.2.length x.2.2.1)
 y0:W.cell? ⟨B+1,0,none⟩=some (.bool y.1)
 y1:W.cell? ⟨B+1,1,none⟩=some (.slice y.2.1 y.2.2.2.length y.2.2.1)
 ux:Us W x.2.1 x.2.2.1 x.2.2.2
 uy:Us W y.2.1 y.2.2.1 y.2.2.2
theorem zfs {a b:Int}:decide (ordI a b<0)=decide (a<b):=by
 unfold ordI;split
 ·rename_i h;rw[decide_eq_true h];rfl
 ·rename_i h;rw[decide_eq_false h];split <;> rfl
theorem zeo {a b:Int}:decide (ordI a b≥0)=decide (b≤a):=by
 unfold ordI;split
 ·rename_i h;rw[decide_eq_false (by omega),decide_eq_false (by omega)]
 ·rename_i h;rw[decide_eq_true (show b≤a by omega)];split <;> rfl
def inH (x h:Int):Bool:=decide (x<h)&&decide (-h≤x)
def inL (c:Cl)(lv:Nat):Bool:=inH c.x (p2 (lv-1))&&inH c.y (p2 (lv-1))
def upL (c:Cl)(lv:Nat):Nat:=if h:lv≤1329 then (if inL c lv=true then lv else upL c (lv+1)) else lv
 termination_by 1330-lv
theorem ziB {c:Cl}{lv:Nat}(h:inL c lv=true):upL c lv=lv:=by
 by_cases h9:lv≤1329
 ·rw[upL,dif_pos h9,if_pos h]
 ·rw[upL,dif_neg h9]
theorem zkP {c:Cl}{lv:Nat}(h:¬ lv≤1329):upL c lv=lv:=by
 rw[upL,dif_neg h]
theorem ziC {c:Cl}{lv:Nat}(h:lv≤1329)(h2:inL c lv=false):upL c lv=upL c (lv+1):=by
 rw[upL,dif_pos h,if_neg (by rw[h2];simp)]
def zcD (l:List Cl):Nat:=l.foldl (fun lv c=>upL c lv) 1
theorem zkQ (l:List Cl)(c:Cl):zcD (l++[c])=upL c (zcD l):=by
 unfold zcD;rw[List.foldl_append];rfl
theorem zgH {l:List Cv}{k:Nat}(hk:k<l.length):zcD ((l.take (k+1)).map Cv.cl)=upL (cat l k).cl (zcD ((l.take k).map Cv.cl)):=by
 rw[←List.take_append_getElem (l:=l) (i:=k) hk,List.map_append,List.map_cons,List.map_nil,zkQ,←ziA hk]
theorem zef {w:World}{A:Option Addr}{c:Nat}{xs:List Nat}(h:Us w A c xs){g:Nat}(hg:∀o v,w.cell? ⟨g,o,none⟩=some v→∀k,v≠.int .u32 k):0<xs.length→∀a,A=some a→a.block≠g:=fun hx a e he=>by
 obtain⟨b,off,e',hb,hc⟩:=h.at_ hx
 rw[e] at e';cases e';dsimp only at he;subst he;exact hg _ _ (hc 0 hx) _ rfl
structure HX (W:World)(g:Nat)(s:Bool)(A:Option Addr)(c:Nat)(xs:List Nat)(n:Int):Prop where
 box:W.heap[g]?=some (.cells #[.bool s,.slice A xs.length c] 48)
 us:Us W A c xs
 cn:zaO s xs
 v:ival s xs=n
 off:0<xs.length→∀a,A=some a→a.block≠g
theorem HX.lt {W:World}{g:Nat}{s:Bool}{A:Option Addr}{c:Nat}{xs:List Nat}{n:Int}(h:HX W g s A c xs n):g<W.heap.size:=(Array.getElem?_eq_some_iff.1 h.box).1
theorem HX.c0 {W:World}{g:Nat}{s:Bool}{A:Option Addr}{c:Nat}{xs:List Nat}{n:Int}(h:HX W g s A c xs n):W.cell? ⟨g,0,none⟩=some (.bool s):=by
 rw[cell_of_row W g _ _ _ _ h.box];rfl
theorem HX.c1 {W:World}{g:Nat}{s:Bool}{A:Option Addr}{c:Nat}{xs:List Nat}{n:Int}(h:HX W g s A c xs n):W.cell? ⟨g,1,none⟩=some (.slice A xs.length c):=by
 rw[cell_of_row W g _ _ _ _ h.box];rfl
theorem HX.free {W:World}{g:Nat}{s:Bool}{A:Option Addr}{c:Nat}{xs:List Nat}{n:Int}(h:HX W g s A c xs n)(k:Nat):W.frozen? ⟨g,k,none⟩=false:=frozen_of_row W g k _ _ h.box
theorem HX.next {W W1:World}{g:Nat}{s:Bool}{A:Option Addr}{c:Nat}{xs:List Nat}{n:Int}(h:HX W g s A c xs n)(k:Below W.heap.size W W1):HX W1 g s A c xs n :=
 ⟨(k.block g h.lt).trans h.box,h.us.below k,h.cn,h.v,h.off⟩
theorem zgI {W:World}{g:Nat}{s:Bool}{A:Option Addr}{n c:Nat}(h:W.heap[g]?=some (.cells #[.bool s,.slice A n c] 48)):∀o v,W.cell? ⟨g,o,none⟩=some v→∀k,v≠.int .u32 k:=fun o v hv k e=>by
 subst e;rw[cell_of_row W g _ _ _ _ h] at hv
 match o with
 | 0=>simp at hv
 | 1=>simp at hv
 | o+2=>simp at hv
theorem HX.set {W:World}{g:Nat}{s s2:Bool}{A A2:Option Addr}{c c2:Nat}{xs ys:List Nat}{n m:Int}(h:HX W g s A c xs n)(hu:Us W A2 c2 ys)(hc:zaO s2 ys)(hv:ival s2 ys=m) :
  HX ((W.setCell ⟨g,0,none⟩ (.bool s2)).setCell ⟨g,1,none⟩ (.slice A2 ys.length c2)) g s2 A2 c2 ys m:=by
 have ho:=zef hu (zgI h.box);have hk:∀k,k<W.heap.size→k≠g→((W.setCell ⟨g,0,none⟩ (.bool s2)).setCell ⟨g,1,none⟩ (.slice A2 ys.length c2)).heap[k]?=W.heap[k]?:=fun k _ hk =>
  (Below.heap_setCell _ _ _ _ hk).trans (Below.heap_setCell _ _ _ _ hk)
 exact⟨heap_setCell_same _ g 1 _ _ _ (heap_setCell_same W g 0 _ _ _ h.box),zcI hu hk (by simp[World.setCell]) ho,hc,hv,ho⟩
theorem zcq {s:Bool}{xs:List Nat}{n:Nat}(hc:zaO s xs)(hv:ival s xs=p2 n)(hn:n≤1330):xs.length≤50:=by
 refine zbN hc hv 50 ?_;unfold p2;obtain⟨M,hM⟩:∃M,M=50:=⟨_,rfl⟩;rw[←hM,show((2:Int)^n).natAbs=2^n by rw[Int.natAbs_pow];rfl,show(4294967296:Nat)=2^32 by decide,←Nat.pow_mul];exact Nat.pow_lt_pow_right (by decide) (by omega)
end Go.Proofs.YtcippfaljoagaaaGreatDoor

namespace Go.Proofs.YtcippfaljoagaaaGreatDoor
open Go.RowKit Nds
theorem zsG {a b c:World}{g:Nat}(h:a.grownBy b (some g))(k:b.grownBy c (some g)):a.grownBy c (some g) :=
 ⟨k.os.trans h.os,k.tape.trans h.tape,k.output.trans h.output,Nat.le_trans h.size k.size,fun i hi hne=>(k.block i (Nat.lt_of_lt_of_le hi h.size) hne).trans (h.block i hi hne)⟩
theorem zfX (w:World)(g o:Nat)(a:Value):w.grownBy (w.setCell ⟨g,o,none⟩ a) (some g) :=
 ⟨rfl,rfl,rfl,by simp[World.setCell],fun i _ hi=>Below.heap_setCell _ _ _ _ (fun e=>hi (by rw[e]))⟩
structure Gv where
 s:Bool
 a:Option Addr
 c:Nat
 xs:List Nat
def gv0:Gv:=⟨false,none,0,[]⟩
def gat (l:List Gv)(i:Nat):Gv:=l[i]?.getD gv0
def encG (v:Gv):List Value:=[.bool v.s,.slice v.a v.xs.length v.c]
abbrev gvv (v:Gv):Value:=.agg #[.bool v.s,.slice v.a v.xs.length v.c]
theorem Tryz.infoG:(Tryz.prog.info? 48).map (fun i=>(i.zero,i.size,i.bytes))=some (some (gvv gv0),2,32):=by kernel_rfl
def gvcs (l:List Gv):List Value:=l.flatMap encG
theorem zrt (l:List Gv):(gvcs l).length=l.length*2:=by
 unfold gvcs
 induction l with
 | nil=>rfl
 | cons x l ih =>
  rw[List.flatMap_cons,List.length_append,ih,List.length_cons];show 2+_=_;omega
theorem zkR:∀(l:List Gv) (i j:Nat),i<l.length→j<2→(gvcs l)[i*2+j]?=(encG (gat l i))[j]?
 | [],i,_,hi,_=>by simp at hi
 | x :: l,0,j,_,hj=>by
  show(encG x++gvcs l)[0*2+j]?=_;rw[List.getElem?_append_left (by show _<2;omega),show 0*2+j=j by omega];rfl
 | x :: l,i+1,j,hi,hj=>by
  show(encG x++gvcs l)[(i+1)*2+j]?=_;rw[List.getElem?_append_right (by show 2≤_;omega),show(i+1)*2+j-(encG x).length=i*2+j by show _-2=_;omega,zkR l i j (by simpa using hi) hj];rfl
theorem zmc:∀(L:List Gv) (i:Nat) (v:Gv),i<L.length→gvcs (L.set i v)=((gvcs L).set (i*2) (.bool v.s)).set (i*2+1) (.slice v.a v.xs.length v.c)
 | [],i,v,h=>by simp at h
 | x :: L,0,v,h=>rfl
 | x :: L,i+1,v,h=>by
  have ih:=zmc L i v (by simpa using h);show encG x++gvcs (L.set i v)=_;rw[ih];show _=((encG x++gvcs L).set ((i+1)*2) _).set ((i+1)*2+1) _;have e:∀(l:List Value) (k:Nat) (u:Value),(encG x++l).set ((i+1)*2+k) u=encG x++l.set (i*2+k) u:=fun l k u=>by
   rw[List.set_append_right _ _ (by show 2≤_;omega)];congr 2;show(i+1)*2+k-2=_;omega
  have e0:∀(l:List Value) (u:Value),(encG x++l).set ((i+1)*2) u=encG x++l.set (i*2) u:=fun l u=>e l 0 u;rw[e0,e]
def OwnG (w:World)(base g n:Nat)(l:List Gv):Prop:=l.length=n∧w.ownsRow base 48 2 (.slice (some ⟨g,0,none⟩) n n) n (gvcs l)
theorem OwnG.row {w:World}{base g n:Nat}{l:List Gv}(h:OwnG w base g n l):base≤g∧g<w.heap.size∧(∀i,i<n→w.cell? ⟨g,i*2,none⟩=some (.bool (gat l i).s)∧w.cell? ⟨g,i*2+1,none⟩=some (.slice (gat l i).a (gat l i).xs.length (gat l i).c))∧(∀o,w.frozen? ⟨g,o,none⟩=false)∧(∀o v,w.cell? ⟨g,o,none⟩=some v→∀k,v≠.int .u32 k):=by
 obtain⟨hn,h⟩:=h;rcases h.2 with⟨h',_⟩|⟨g',cap,cur,h',hb,hg,hnc,hcm,hcs,htake⟩
 ·cases h'
 ·cases h';have hlt:g<w.heap.size:=by
   rcases Nat.lt_or_ge g w.heap.size with hlt|hge
   ·exact hlt
   ·rw[Array.getElem?_eq_none hge] at hg;cases hg
  have hcell:∀i,i<n→∀j,j<2→w.cell? ⟨g,i*2+j,none⟩=(encG (gat l i))[j]?:=by
   intro i hi j hj;have hlt:i*2+j<n*2:=by omega
   rw[cell_of_row w g (i*2+j) cur _ (0,0) hg,←zkR l i j (by omega) hj,←htake,List.getElem?_take,if_pos hlt];simp
  refine⟨hb,hlt,fun i hi=>⟨hcell i hi 0 (by omega),hcell i hi 1 (by omega)⟩,fun o=>frozen_of_row _ _ _ _ _ hg,?_⟩;intro o v hv k e;subst e;rw[cell_of_row w g o cur _ (0,0) hg] at hv;have ho:o<n*2:=by
   have:=(Array.getElem?_eq_some_iff.1 hv).1;omega
  have h2:(gvcs l)[o]?=some (.int .u32 k):=by
   rw[←htake,List.getElem?_take,if_pos ho,Array.getElem?_toList];exact hv
  have h3:(Value.int .u32 k)∈gvcs l:=List.mem_of_getElem? h2;obtain⟨x,_,hx⟩:=List.mem_flatMap.1 h3;simp[encG] at hx
theorem OwnG.kept {w w':World}{base g n:Nat}{l:List Gv}(h:OwnG w base g n l){row:Option Nat}(hg:w.grownBy w' row)(hv:row≠some g):OwnG w' base g n l :=
 ⟨h.1,World.ownsRow.kept h.2 hg (.inr fun e=>hv e.symm)⟩
theorem OwnG.next {w w':World}{base g n:Nat}{l:List Gv}(h:OwnG w base g n l)(hb:Below w.heap.size w w'):OwnG w' base g n l:=h.kept (gbN hb) (by simp)
theorem OwnG.put {w:World}{base g n:Nat}{L:List Gv}(h:OwnG w base g n L){i:Nat}(hi:i<n)(v:Gv) :
  OwnG ((w.setCell ⟨g,i*2,none⟩ (.bool v.s)).setCell ⟨g,i*2+1,none⟩ (.slice v.a v.xs.length v.c)) base g n (L.set i v):=by
 refine⟨by rw[List.length_set];exact h.1,?_⟩;rw[zmc L i v (by rw[h.1];exact hi)];exact((h.2.stored (i*2) (.bool v.s)).1.stored (i*2+1) (.slice v.a v.xs.length v.c)).1
theorem zvW (n:Nat):(madeCells (gvv gv0).cells (n*2)).toList=gvcs (List.replicate n gv0):=by
 refine List.ext_getElem? fun t=>?_;by_cases ht:t<n*2
 ·obtain⟨i,j,rfl,hj⟩:∃i j,t=i*2+j∧j<2:=⟨t / 2,t%2,by omega,by omega⟩;rw[zkR _ i j (by rw[List.length_replicate];omega) hj];have e1:gat (List.replicate n gv0) i=gv0:=by
   unfold gat;rw[List.getElem?_replicate,if_pos (by omega)];rfl
  rw[e1];simp only[madeCells,Array.getElem?_toList]
  match j,hj with
  | 0,_ =>
   simp only[Nat.add_zero] at ht ⊢;simp[ht,gv0,encG,Value.cells,show i*2%2=0 by omega]
  | 1,_=>simp[ht,gv0,encG,Value.cells,show(i*2+1)%2=1 by omega]
 ·rw[List.getElem?_eq_none (by rw[Array.length_toList,size_madeCells];omega),List.getElem?_eq_none (by rw[zrt,List.length_replicate];omega)]
theorem OwnG.made {w:World}{base g n:Nat}(h:w.ownsRow base 48 2 (.slice (some ⟨g,0,none⟩) n n) n (madeCells (gvv gv0).cells (n*2)).toList):OwnG w base g n (List.replicate n gv0) :=
 ⟨List.length_replicate,by rw[←zvW];exact h⟩
theorem zjy {L:List Gv}{i:Nat}(h:i<L.length)(u:Gv):gat (L.set i u) i=u:=by
 unfold gat;rw[List.getElem?_set,if_pos rfl,if_pos h];rfl
theorem znk {L:List Gv}{i j:Nat}(h:i≠j)(u:Gv):gat (L.set i u) j=gat L j:=by
 unfold gat;rw[List.getElem?_set,if_neg h]
structure GIn (W:World)(v:Gv)(m:Int):Prop where
 us:Us W v.a v.c v.xs
 cn:zaO v.s v.xs
 v:ival v.s v.xs=m
theorem GIn.next {W W1:World}{v:Gv}{m:Int}(h:GIn W v m)(k:Below W.heap.size W W1):GIn W1 v m:=⟨h.us.below k,h.cn,h.v⟩
theorem GIn.over {W W1:World}{v:Gv}{m:Int}{g:Nat}(h:GIn W v m)(hg:∀o v,W.cell? ⟨g,o,none⟩=some v→∀k,v≠.int .u32 k)(hk:W.grownBy W1 (some g)):GIn W1 v m :=
 ⟨zcI h.us (fun q h1 h2=>hk.block q h1 (fun e=>h2 (by cases e;rfl))) hk.size (zef h.us hg),h.cn,h.v⟩
end Go.Proofs.YtcippfaljoagaaaGreatDoor
