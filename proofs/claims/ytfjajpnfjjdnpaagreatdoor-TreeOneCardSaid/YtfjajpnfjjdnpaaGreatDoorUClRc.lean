import Derived.Test.YtfjajpnfjjdnpaaGreatDoorUClSj

set_option linter.unusedVariables false
set_option linter.unusedSimpArgs false
set_option maxRecDepth 100000
set_option maxHeartbeats 6400000
namespace Go.Proofs.YtfjajpnfjjdnpaaGreatDoor
open Nds
def atP (c:Cl)(x y:Int):Prop:=c.x=x∧c.y=y
instance (c:Cl) (x y:Int):Decidable (atP c x y):=by unfold atP;infer_instance
end Go.Proofs.YtfjajpnfjjdnpaaGreatDoor

namespace Go.Proofs.YtfjajpnfjjdnpaaGreatDoor
open Go.RowKit Nds
theorem Tryz.infoC:(Tryz.prog.info? 78).map (fun i=>(i.zero,i.size,i.bytes))=some (some (cvv cv0),5,72):=by kernel_rfl
def cvcs (l:List Cv):List Value:=l.flatMap encC
theorem zdv (l:List Cv):(cvcs l).length=l.length*5:=by
 unfold cvcs
 induction l with
 | nil=>rfl
 | cons x l ih =>
  rw[List.flatMap_cons,List.length_append,ih,List.length_cons];show 5+_=_;omega
theorem zjq (l m:List Cv):cvcs (l++m)=cvcs l++cvcs m:=by
 unfold cvcs;rw[List.flatMap_append]
theorem zif:∀(l:List Cv) (i j:Nat),i<l.length→j<5→(cvcs l)[i*5+j]?=(encC (cat l i))[j]?
 | [],i,_,hi,_=>by simp at hi
 | x :: l,0,j,_,hj=>by
  show(encC x++cvcs l)[0*5+j]?=_;rw[List.getElem?_append_left (by show _<5;omega),show 0*5+j=j by omega];rfl
 | x :: l,i+1,j,hi,hj=>by
  show(encC x++cvcs l)[(i+1)*5+j]?=_;rw[List.getElem?_append_right (by show 5≤_;omega),show(i+1)*5+j-(encC x).length=i*5+j by show _-5=_;omega,zif l i j (by simpa using hi) hj];rfl
theorem zno (l:List Cv):∀u∈cvcs l,u.oneCell'=true:=fun u hu=>by
 obtain⟨x,_,hx⟩:=List.mem_flatMap.1 hu;exact znn x u hx
def OwnC (w:World)(base:Nat)(v:Value)(l:List Cv):Prop:=w.ownsRow base 78 5 v l.length (cvcs l)
theorem OwnC.shape {w:World}{base:Nat}{v:Value}{l:List Cv}(h:OwnC w base v l) :
  ∃A c,v=.slice A l.length c∧l.length≤c∧c≤maxLen∧(A=none→c=0∧l=[])∧(∀a,A=some a→∃g,a=⟨g,0,none⟩∧base≤g∧g<w.heap.size∧(∀i,i<l.length→CvAt w g (i*5) (cat l i))∧∀o,w.frozen? ⟨g,o,none⟩=false):=by
 rcases h.2 with⟨h',hn⟩|⟨g,cap,cur,h',hb,hg,hnc,hcm,hcs,htake⟩
 ·refine⟨none,0,by rw[h',hn],by omega,by simp[maxLen],fun _=>⟨rfl,List.eq_nil_of_length_eq_zero hn⟩,(fun a e=>by cases e)⟩
 ·refine⟨some ⟨g,0,none⟩,cap,h',hnc,hcm,(fun e=>by cases e),fun a e=>?_⟩;cases e;have hlt:g<w.heap.size:=by
   rcases Nat.lt_or_ge g w.heap.size with hlt|hge
   ·exact hlt
   ·rw[Array.getElem?_eq_none hge] at hg;cases hg
  refine⟨g,rfl,hb,hlt,fun i hi=>?_,fun o=>frozen_of_row _ _ _ _ _ hg⟩;have hcell:∀j,j<5→w.cell? ⟨g,i*5+j,none⟩=(encC (cat l i))[j]?:=by
   intro j hj;have hlt:i*5+j<l.length*5:=by omega
   rw[cell_of_row w g (i*5+j) cur _ (0,0) hg,←zif l i j hi hj,←htake,List.getElem?_take,if_pos hlt];simp
  exact⟨hcell 0 (by omega),hcell 1 (by omega),hcell 2 (by omega),hcell 3 (by omega),hcell 4 (by omega)⟩
theorem OwnC.nil (w:World)(base:Nat):OwnC w base (.slice none 0 0) []:=World.ownsRow_nil w base _ 5
theorem OwnC.kept {w w':World}{base:Nat}{v:Value}{l:List Cv}{row:Option Nat}(h:OwnC w base v l)(hg:w.grownBy w' row)(hv:v.ownBlock=none∨v.ownBlock≠row):OwnC w' base v l:=World.ownsRow.kept h hg hv
theorem OwnC.alloc {w:World}{base:Nat}{v:Value}{l:List Cv}(h:OwnC w base v l)(o:Obj):OwnC (w.alloc o) base v l:=h.kept (World.grownBy_alloc w o none) (by cases v.ownBlock <;> simp)
theorem OwnC.lt {w:World}{base:Nat}{v:Value}{l:List Cv}(h:OwnC w base v l):∀k,v.ownBlock=some k→base≤k∧k<w.heap.size:=World.ownsRow.lt h
theorem OwnC.cs {w:World}{base:Nat}{v:Value}{l:List Cv}(h:OwnC w base v l)(hu:∀x∈l,CvU w x):∃A c,v=.slice A l.length c∧Cs w A c l∧(A=none→c=0)∧∀a,A=some a→base≤a.block:=by
 obtain⟨A,c,h1,h2,h3,h4,h5⟩:=h.shape;refine⟨A,c,h1,⟨hu,h2,h3,fun hn=>?_⟩,fun e=>(h4 e).1,fun a e=>?_⟩
 ·cases A with
  | none=>have:=(h4 rfl).2;subst this;exact absurd hn (Nat.lt_irrefl 0)
  | some a =>
   obtain⟨g,rfl,hg,hlt,hc,_⟩:=h5 a rfl;exact⟨g,0,rfl,hlt,fun i hi=>by rw[Nat.zero_add];exact hc i hi⟩
 ·obtain⟨g,rfl,hg,_⟩:=h5 a e;exact hg
theorem zbM (w:World)(x:Cv):∀j u,(cvcs [x])[j]?=some u→(w.alloc (.cells #[.bool x.sx,.slice x.ax x.xs.length x.cx,.bool x.sy,.slice x.ay x.ys.length x.cy,.int .u8 x.st] 78)).cell? ((⟨w.heap.size,0,none⟩:Addr).add j)=some u:=by
 intro j u hu;have hj:=(List.getElem?_eq_some_iff.1 hu).1;rw[zdv] at hj;obtain⟨h0,h1,h2,h3,h4⟩:=CvAt.new w x 78;rw[Nat.zero_add] at h1 h2 h3 h4;have hj5:j<5:=by simpa using hj
 have hadd:(⟨w.heap.size,0,none⟩:Addr).add j=⟨w.heap.size,j,none⟩:=by
  unfold Addr.add;split
  ·rename_i h;subst h;rfl
  ·simp
 rw[hadd]
 match j,hj5 with
 | 0,_=>rw[h0];exact hu
 | 1,_=>rw[h1];exact hu
 | 2,_=>rw[h2];exact hu
 | 3,_=>rw[h3];exact hu
 | 4,_=>rw[h4];exact hu
theorem zbo (w:World)(base:Nat)(v:Value)(xs ys:List Cv)(ty:TypeId)(ad:Addr)(m c:Nat)(how:OwnC w base v xs)(hN:∀j u,(cvcs ys)[j]?=some u→w.cell? (ad.add j)=some u)(hm:ys.length=m)(hs:xs.length+m≤1000000)(hb:base≤w.heap.size) :
  ∃v' w',(Builtin.append_ #[22,22] ty #[v,.slice (some ad) m c]).run Tryz.prog w=.ok v' w'∧OwnC w' base v' (xs++ys)∧w.grownBy w' v.ownBlock∧(v'.ownBlock=v.ownBlock∨v'.ownBlock=some w.heap.size):=by
 obtain⟨i0,hi,hz0,hz1,hz2⟩:=info_parts Tryz.infoC;obtain⟨v',w',hrun,h2,h3,_,h5⟩:=run_append_own_at (P:=Tryz.prog) w base 22 ty 78 i0 (cvv cv0) 5 72 Tryz.underlying22 hi hz0 hz1 hz2 rfl (by omega) v xs.length (cvcs xs) how ad m c (cvcs ys) (by rw[zdv,hm]) hN (zno ys) (by simp only[maxLen];omega) (by omega) hb;refine⟨v',w',hrun,?_,h3,h5⟩;unfold OwnC;rw[zjq,List.length_append,hm];exact h2
theorem zbN (w:World){ops:Array Oper}{rest:List Oper}{o:Oper}{a:Act}{Q:Exit→Act→World→Prop}(hg:o.guard=none)(s x:Operand)
  (hop:o.op=Op.call { callee:=Callee.builtin Builtin.append,args:=#[s,x],argTypes:=#[22,22] }) (base:Nat) (v:Value) (xs:List Cv) (y:Cv) (ad:Addr) (c:Nat)
  (hs:a.eval s=v) (hx:a.eval x=.slice (some ad) 1 c) (how:OwnC w base v xs) (hN:∀j u,(cvcs [y])[j]?=some u→w.cell? (ad.add j)=some u) (hsz:xs.length+1≤1000000) (hb:base≤w.heap.size)
  (hK:∀v' w',OwnC w' base v' (xs++[y])→w.grownBy w' v.ownBlock→(v'.ownBlock=v.ownBlock∨v'.ownBlock=some w.heap.size)→wpList Tryz.prog ops Q rest (a.put o.dst v') w') :
  wpList Tryz.prog ops Q (o :: rest) a w:=by
 refine wpList_plain hg fun K hK'=>?_;obtain⟨v',w',hrun,h1,h2,h3⟩:=zbo w base v xs [y] o.type ad 1 c how hN rfl hsz hb;unfold Oper.wp execOp;simp only[hop,resolve,invoke,builtin,Sem.run_bind,Sem.run_pure,Result.andThen_ok,List.map_toArray,List.map_cons,List.map_nil,hs,hx,hrun];exact hK' _ _ (hK v' w' h1 h2 h3)
end Go.Proofs.YtfjajpnfjjdnpaaGreatDoor

namespace Go.Proofs.YtfjajpnfjjdnpaaGreatDoor
open Go.RowKit Nds Num
theorem zgB {a b:Int}:decide (ordI a b<0)=decide (a<b):=by
 unfold ordI;split
 ·rename_i h;rw[decide_eq_true h];rfl
 ·rename_i h;rw[decide_eq_false h];split <;> rfl
theorem zgC {a b:Int}:decide (ordI a b≥0)=decide (b≤a):=by
 unfold ordI;split
 ·rename_i h;rw[decide_eq_false (by omega),decide_eq_false (by omega)]
 ·rename_i h;rw[decide_eq_true (show b≤a by omega)];split <;> rfl
def inH (x h:Int):Bool:=decide (x<h)&&decide (-h≤x)
def inL (c:Cl)(lv:Nat):Bool:=inH c.x (p2 (lv-1))&&inH c.y (p2 (lv-1))
def upL (c:Cl)(lv:Nat):Nat:=if h:lv≤1329 then (if inL c lv=true then lv else upL c (lv+1)) else lv
 termination_by 1330-lv
theorem zgD {c:Cl}{lv:Nat}(h:inL c lv=true):upL c lv=lv:=by
 by_cases h9:lv≤1329
 ·rw[upL,dif_pos h9,if_pos h]
 ·rw[upL,dif_neg h9]
theorem zig {c:Cl}{lv:Nat}(h:¬ lv≤1329):upL c lv=lv:=by
 rw[upL,dif_neg h]
theorem zgE {c:Cl}{lv:Nat}(h:lv≤1329)(h2:inL c lv=false):upL c lv=upL c (lv+1):=by
 rw[upL,dif_pos h,if_neg (by rw[h2];simp)]
def zbE (l:List Cl):Nat:=l.foldl (fun lv c=>upL c lv) 1
theorem zih (l:List Cl)(c:Cl):zbE (l++[c])=upL c (zbE l):=by
 unfold zbE;rw[List.foldl_append];rfl
theorem zeQ {l:List Cv}{k:Nat}(hk:k<l.length):zbE ((l.take (k+1)).map Cv.cl)=upL (cat l k).cl (zbE ((l.take k).map Cv.cl)):=by
 rw[←List.take_append_getElem (l:=l) (i:=k) hk,List.map_append,List.map_cons,List.map_nil,zih,←zgA hk]
theorem zoc {w:World}{A:Option Addr}{c:Nat}{xs:List Nat}(h:Us w A c xs){g:Nat}(hg:∀o v,w.cell? ⟨g,o,none⟩=some v→∀k,v≠.int .u32 k):0<xs.length→∀a,A=some a→a.block≠g:=fun hx a e he=>by
 obtain⟨b,off,e',hb,hc⟩:=h.at_ hx
 rw[e] at e';cases e';dsimp only at he;subst he;exact hg _ _ (hc 0 hx) _ rfl
structure HX (W:World)(g:Nat)(s:Bool)(A:Option Addr)(c:Nat)(xs:List Nat)(n:Int):Prop where
 box:W.heap[g]?=some (.cells #[.bool s,.slice A xs.length c] 48)
 us:Us W A c xs
 cn:zaD s xs
 v:ival s xs=n
 off:0<xs.length→∀a,A=some a→a.block≠g
theorem HX.lt {W:World}{g:Nat}{s:Bool}{A:Option Addr}{c:Nat}{xs:List Nat}{n:Int}(h:HX W g s A c xs n):g<W.heap.size:=(Array.getElem?_eq_some_iff.1 h.box).1
theorem HX.c0 {W:World}{g:Nat}{s:Bool}{A:Option Addr}{c:Nat}{xs:List Nat}{n:Int}(h:HX W g s A c xs n):W.cell? ⟨g,0,none⟩=some (.bool s):=by
 rw[cell_of_row W g _ _ _ _ h.box];rfl
theorem HX.c1 {W:World}{g:Nat}{s:Bool}{A:Option Addr}{c:Nat}{xs:List Nat}{n:Int}(h:HX W g s A c xs n):W.cell? ⟨g,1,none⟩=some (.slice A xs.length c):=by
 rw[cell_of_row W g _ _ _ _ h.box];rfl
theorem HX.free {W:World}{g:Nat}{s:Bool}{A:Option Addr}{c:Nat}{xs:List Nat}{n:Int}(h:HX W g s A c xs n)(k:Nat):W.frozen? ⟨g,k,none⟩=false:=frozen_of_row W g k _ _ h.box
theorem HX.next {W W1:World}{g:Nat}{s:Bool}{A:Option Addr}{c:Nat}{xs:List Nat}{n:Int}(h:HX W g s A c xs n)(k:Below W.heap.size W W1):HX W1 g s A c xs n :=
 ⟨(k.block g h.lt).trans h.box,h.us.below k,h.cn,h.v,h.off⟩
theorem zhv {W:World}{g:Nat}{s:Bool}{A:Option Addr}{n c:Nat}(h:W.heap[g]?=some (.cells #[.bool s,.slice A n c] 48)):∀o v,W.cell? ⟨g,o,none⟩=some v→∀k,v≠.int .u32 k:=fun o v hv k e=>by
 subst e;rw[cell_of_row W g _ _ _ _ h] at hv
 match o with
 | 0=>simp at hv
 | 1=>simp at hv
 | o+2=>simp at hv
theorem HX.set {W:World}{g:Nat}{s s2:Bool}{A A2:Option Addr}{c c2:Nat}{xs ys:List Nat}{n m:Int}(h:HX W g s A c xs n)(hu:Us W A2 c2 ys)(hc:zaD s2 ys)(hv:ival s2 ys=m) :
  HX ((W.setCell ⟨g,0,none⟩ (.bool s2)).setCell ⟨g,1,none⟩ (.slice A2 ys.length c2)) g s2 A2 c2 ys m:=by
 have ho:=zoc hu (zhv h.box);have hk:∀k,k<W.heap.size→k≠g→((W.setCell ⟨g,0,none⟩ (.bool s2)).setCell ⟨g,1,none⟩ (.slice A2 ys.length c2)).heap[k]?=W.heap[k]?:=fun k _ hk =>
  (Below.heap_setCell _ _ _ _ hk).trans (Below.heap_setCell _ _ _ _ hk)
 exact⟨heap_setCell_same _ g 1 _ _ _ (heap_setCell_same W g 0 _ _ _ h.box),zlu hu hk (by simp[World.setCell]) ho,hc,hv,ho⟩
theorem zbF {s:Bool}{xs:List Nat}{n:Nat}(hc:zaD s xs)(hv:ival s xs=p2 n)(hn:n≤1330):xs.length≤50:=by
 refine zbq hc hv 50 ?_;unfold p2;obtain⟨M,hM⟩:∃M,M=50:=⟨_,rfl⟩;rw[←hM,show((2:Int)^n).natAbs=2^n by rw[Int.natAbs_pow];rfl,show(4294967296:Nat)=2^32 by decide,←Nat.pow_mul];exact Nat.pow_lt_pow_right (by decide) (by omega)
end Go.Proofs.YtfjajpnfjjdnpaaGreatDoor

namespace Go.Proofs.YtfjajpnfjjdnpaaGreatDoor
open Go.RowKit Nds
theorem zpC {a b c:World}{g:Nat}(h:a.grownBy b (some g))(k:b.grownBy c (some g)):a.grownBy c (some g) :=
 ⟨k.os.trans h.os,k.tape.trans h.tape,k.output.trans h.output,Nat.le_trans h.size k.size,fun i hi hne=>(k.block i (Nat.lt_of_lt_of_le hi h.size) hne).trans (h.block i hi hne)⟩
theorem zjr (w:World)(g o:Nat)(a:Value):w.grownBy (w.setCell ⟨g,o,none⟩ a) (some g) :=
 ⟨rfl,rfl,rfl,by simp[World.setCell],fun i _ hi=>Below.heap_setCell _ _ _ _ (fun e=>hi (by rw[e]))⟩
end Go.Proofs.YtfjajpnfjjdnpaaGreatDoor
